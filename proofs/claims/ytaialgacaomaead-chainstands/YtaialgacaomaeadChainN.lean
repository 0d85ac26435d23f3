/- The walk of ChainStands where an entry is written. -/
import Derived.Test.YtaialgacaomaeadChainL
import Derived.Test.YtaialgacaomaeadChainM
namespace Go.Proofs.Ytaialgacaomaead
open Go.RowKit
open scoped Classical

/-- What region 6 of ChainStands reads. -/
abbrev S6 (X W : World) (b o rb : Nat) (p : Int) (s : Value) (aa : Nat) (x : En) : Prop :=
  Below X.heap.size X W ∧ (W.cell? ⟨b, o, none⟩ = some (.int .i64 p) ∧ W.cell? ⟨b, o + 1, none⟩ = some s) ∧ (∀ i, W.cell? ⟨rb, i, none⟩ = #[Value.int .i64 1, .int .i64 (aa : Int), .int .i64 0, .int .i64 x.k, .int .i64 x.j, .int .i64 x.v, .int .i64 x.t, .int .i64 x.c][i]?)
structure S6B (X : World) (b o rb : Nat) (p : Int) (s : Value) (aa : Nat) (x : En) : Prop where
  c0 : X.cell? ⟨b, o, none⟩ = some (.int .i64 p)
  c1 : X.cell? ⟨b, o + 1, none⟩ = some s
  r : X.heap[rb]? = some (.cells #[Value.int .i64 1, .int .i64 (aa : Int), .int .i64 0, .int .i64 x.k, .int .i64 x.j, .int .i64 x.v, .int .i64 x.t, .int .i64 x.c] 28)
theorem s6_of {X W : World} {b o rb : Nat} {p : Int} {s : Value} {aa : Nat} {x : En} (h : S6B X b o rb p s aa x) (hb : Below X.heap.size X W) : S6 X W b o rb p s aa x :=
  ⟨hb, ⟨cell_later hb h.c0, cell_later hb h.c1⟩, fun i => Joins.cell_of_block (heap_below h.r hb (heap_lt h.r)) i⟩

set_option linter.unusedSimpArgs false in
set_option maxHeartbeats 4000000 in
set_option maxRecDepth 100000 in
theorem stands_some (hC : Chains) (hN : UnitN) (b off c kk aa : Nat) (xs : List Ub) (ep : Int) (x : En) (u : Un) (w : World) (h : ChAt w (.slice (some ⟨b, off, none⟩) 3 c) xs) (hf : Fits xs) (hall : ∀ z, z ∈ xs → z.u.cells.length = 60) (hkk : kk < 3) (haa : aa < 60)
    (hl : linkOf (unitsOf xs) (kk : Int) (aa : Int) x ep = (⟨1, (aa : Int), 0, x⟩, x, 0)) (hu : (unitsOf xs)[kk]? = some u) (hnx : unext u ⟨1, (aa : Int), 0, x⟩ = (⟨u.p, u.cells.set aa x⟩, 0)) (hck2 : ckChain ((unitsOf xs).set kk ⟨u.p, u.cells.set aa x⟩) = 0)
    (hrd : ∀ i, i < 60 → (plc (unitsOf xs) 2 i).isB = false → plc ((unitsOf xs).set kk ⟨u.p, u.cells.set aa x⟩) 2 i = plc (unitsOf xs) 2 i) :
    Calls Try.prog 6 #[.slice (some ⟨b, off, none⟩) 3 c, .int .i64 (kk : Int), .int .i64 (aa : Int), x.val, .int .i64 ep] w fun e w' => e = .returned (.bool true) ∧ Below w.heap.size w w' := by
  have HC : Aside Chains := hC
  have HCL : Aside (∀ W, Below w.heap.size w W → ChAt W (.slice (some ⟨b, off, none⟩) 3 c) xs) := fun W hb => h.later hb
  have HFX : Aside (Fits xs) := hf
  have k1 := fun W (hb : Below w.heap.size w W) => hC.link _ xs (kk : Int) (aa : Int) ep x W (h.later hb) hf
  rw [hl] at k1
  replace k1 : ∀ W, Below w.heap.size w W → Calls Try.prog 20 #[.slice (some ⟨b, off, none⟩) 3 c, .int .i64 (kk : Int), .int .i64 (aa : Int), x.val, .int .i64 ep] W fun e w' => e = .returned (.tuple #[Rc.val ⟨1, (aa : Int), 0, x⟩, x.val, .int .i64 0]) ∧ Below W.heap.size W w' := k1
  have k5 := fun W => linked_any hC hN W
  have k6 := fun W (hb : Below w.heap.size w W) => clone3 b off c xs W (h.later hb)
  have HFO : Aside (∀ z, z ∈ xs → ∀ g', z.v.ownBlock = some g' → g' < w.heap.size) := fun z hz g' hg' => unit_lt (h.each z hz) (hall z hz) hg'
  have HCK : Hid (ckChain ((unitsOf xs).set kk ⟨u.p, u.cells.set aa x⟩) = 0 ∧ (unitsOf xs)[kk]? = some u ∧ (∀ i, i < 60 → (plc (unitsOf xs) 2 i).isB = false → plc ((unitsOf xs).set kk ⟨u.p, u.cells.set aa x⟩) 2 i = plc (unitsOf xs) 2 i)) := ⟨hck2, hu, hrd⟩
  have HU60 : Hid (∀ z, z ∈ xs → z.u.cells.length = 60) := hall
  have hki : (kk : Int) < 3 := by omega
  have hk0 : (0 : Int) ≤ (kk : Int) := by omega
  have hai : (aa : Int) < 60 := by omega
  have ha0 : (0 : Int) ≤ (aa : Int) := by omega
  obtain ⟨q, hq⟩ : ∃ q, xs[kk]? = some q := ⟨xs[kk]'(by have := h.rows.len; omega), List.getElem?_eq_getElem _⟩
  obtain ⟨uq, vq⟩ := q
  have huu : uq = u := by
    rw [List.getElem?_map, hq] at hu
    exact Option.some.inj hu
  subst huu
  have hzm := List.mem_of_getElem? hq
  obtain ⟨aq, nq, cq, e, _⟩ := id (h.each ⟨uq, vq⟩ hzm).room
  dsimp only at e
  subst e
  have hfo : ∀ g', (Value.slice aq nq cq).ownBlock = some g' → g' < w.heap.size := fun g' hg' => HFO.out _ hzm g' hg'
  have kn := fun W (hb : Below w.heap.size w W) => hN.next _ uq ⟨1, (aa : Int), 0, x⟩ W (by exact (h.each ⟨uq, .slice aq nq cq⟩ hzm).later hb) (by rw [hall _ hzm]; decide)
  rw [hnx] at kn
  obtain ⟨b1, off1, eb1, hrow⟩ := h.rows.at (by omega)
  injection eb1 with eb1
  injection eb1 with eb2 eb3 _
  subst eb2 eb3
  have hl0 : ∀ W, Below w.heap.size w W → W.cell? ⟨b, off + kk * 2, none⟩ = some (.int .i64 uq.p) := fun W hb => cell_later hb (by have := hrow kk _ hq 0 _ rfl; rwa [Nat.add_zero] at this)
  have hl1 : ∀ W, Below w.heap.size w W → W.cell? ⟨b, off + kk * 2 + 1, none⟩ = some (.slice aq nq cq) := fun W hb => cell_later hb (hrow kk _ hq 1 _ rfl)
  have HQ : Hid (xs[kk]? = some ⟨uq, .slice aq nq cq⟩) := hq
  have hB0 := grew (Below.refl w.heap.size w) (boxE x.k x.j x.v x.t x.c)
  have k1' := k1 _ hB0
  have HB0 : Aside _ := hB0
  have HX0 : Aside _ := heap_new w (boxE x.k x.j x.v x.t x.c)
  clear hC hN h hf hck2 hl hu hB0 k1 hnx hrd hall hrow hq
  go_enter Try.func6, Try.ntmps6
  go_wp2_with fail
  refine k1'.mono ?_
  rintro e w1 ⟨rfl, hb⟩
  have hga := grew (grew hb (.cells #[Value.int .i64 1, .int .i64 (aa : Int), .int .i64 0, .int .i64 x.k, .int .i64 x.j, .int .i64 x.v, .int .i64 x.t, .int .i64 x.c] 28)) (boxE x.k x.j x.v x.t x.c)
  have hB1 := step_below1 HB0.out hga
  have hr1 := heap_old (heap_new w1 (.cells #[Value.int .i64 1, .int .i64 (aa : Int), .int .i64 0, .int .i64 x.k, .int .i64 x.j, .int .i64 x.v, .int .i64 x.t, .int .i64 x.c] 28)) (boxE x.k x.j x.v x.t x.c)
  have hs1 := heap_new (w1.alloc (.cells #[Value.int .i64 1, .int .i64 (aa : Int), .int .i64 0, .int .i64 x.k, .int .i64 x.j, .int .i64 x.v, .int .i64 x.t, .int .i64 x.c] 28)) (boxE x.k x.j x.v x.t x.c)
  rw [World.size_alloc] at hs1
  have HB1 : Aside _ := hB1
  have HR1 : Aside _ := hr1
  have HS1 : Aside _ := hs1
  have HX1 : Aside _ := heap_below HX0.out hga (heap_lt HX0.out)
  clear hb hga hB1 hr1 hs1 HB0 k1' HX0
  go_upto_region 2 with fail
  generalize (w1.alloc (.cells #[Value.int .i64 1, .int .i64 (aa : Int), .int .i64 0, .int .i64 x.k, .int .i64 x.j, .int .i64 x.v, .int .i64 x.t, .int .i64 x.c] 28)).alloc (boxE x.k x.j x.v x.t x.c) = Y1 at *
  generalize w1.heap.size = rb at *
  go_wp2_with fail
  refine (k5 _).mono ?_
  rintro e w2 ⟨rfl, hb⟩
  have hB2 := step_below1 HB1.out hb
  have HR2 : Aside _ := heap_below HR1.out hb (heap_lt HR1.out)
  have HS2 : Aside _ := heap_below HS1.out hb (heap_lt HS1.out)
  have HX2 : Aside _ := heap_below HX1.out hb (heap_lt HX1.out)
  have hrl := heap_lt HS2.out
  have k6' := k6 _ hB2
  have HB2 : Aside _ := hB2
  clear hb hB2 HB1 HR1 HS1 HX1 k5 k6
  go_wp2_with fail
  refine k6'.mono ?_
  rintro e w3 ⟨g, cap, tl, rfl, hrow, hb⟩
  have hB3 := step_below1 HB2.out hb
  have hr3 := heap_below HR2.out hb (heap_lt HR2.out)
  have HS3 : Aside _ := heap_below HS2.out hb (heap_lt HS2.out)
  have HX3 : Aside _ := heap_below HX2.out hb (heap_lt HX2.out)
  have hgb : w2.heap.size ≤ g := hrow.base
  have hgl := heap_lt hrow.blk
  have hwg : w.heap.size ≤ w2.heap.size := HB2.out.size
  have HROW : Aside _ := hrow
  have HB3 : Aside _ := hB3
  have hS6 : S6B w3 b (off + kk * 2) rb uq.p (.slice aq nq cq) aa x := ⟨hl0 _ hB3, hl1 _ hB3, hr3⟩
  replace kn : ∀ W, Below w3.heap.size w3 W → AnsN 7 (.slice aq nq cq) #[.agg #[.int .i64 uq.p, .slice aq nq cq], Rc.val ⟨1, (aa : Int), 0, x⟩] W (⟨uq.p, uq.cells.set aa x⟩, 0) := fun W hb' => kn W (HB3.out.trans (hb'.mono HB3.out.size))
  have zr : ∀ i, w3.cell? ⟨rb, i, none⟩ = #[Value.int .i64 1, .int .i64 (aa : Int), .int .i64 0, .int .i64 x.k, .int .i64 x.j, .int .i64 x.v, .int .i64 x.t, .int .i64 x.c][i]? := fun i => Joins.cell_of_block hr3 i
  clear hb hB3 hr3 hrow k6' HB2 HR2 HS2 HX2 hl0 hl1
  go_wp2_with fail
  clear zr
  refine wp_region_held_drew (S := fun W' => S6 w3 W' b (off + kk * 2) rb uq.p (.slice aq nq cq) aa x) (by kernel_rfl) (s6_of hS6 (Below.refl _ w3).drew) (fun hHeld => ?_)
  refine wpAnyH_take (i := 0) (oi := ?oi0) (v := ?v0) ?hi0 ?hs0 ?hf0 ?hr0 ?hQ0 (Or.inl ⟨?hw0, ?hy0⟩) (by assumption) ?h0
  case hi0 => (simp only [List.getElem?_toArray, List.getElem?_cons_succ, List.getElem?_cons_zero]; rfl)
  case hs0 => kernel_rfl
  case hf0 => kernel_rfl
  case hr0 => kernel_rfl
  case hw0 => rfl
  case hy0 => (intro w0 hSw; (try dsimp only at hSw); go_simp; first | done | with_reducible rfl)
  case hQ0 => exact fun _ _ _ h => h
  try simp only [Act.put, List.setIfInBounds_toArray, List.set_cons_zero, List.set_cons_succ]
  refine wpAnyH_take (i := 1) (oi := ?oi1) (v := ?v1) ?hi1 ?hs1 ?hf1 ?hr1 ?hQ1 (Or.inl ⟨?hw1, ?hy1⟩) (by assumption) ?h1
  case hi1 => (simp only [List.getElem?_toArray, List.getElem?_cons_succ, List.getElem?_cons_zero]; rfl)
  case hs1 => kernel_rfl
  case hf1 => kernel_rfl
  case hr1 => kernel_rfl
  case hw1 => rfl
  case hy1 => (intro w0 hSw; (try dsimp only at hSw); go_simp; first | done | with_reducible rfl)
  case hQ1 => exact fun _ _ _ h => h
  try simp only [Act.put, List.setIfInBounds_toArray, List.set_cons_zero, List.set_cons_succ]
  refine wpAnyH_take (i := 2) (oi := ?oi2) (v := ?v2) ?hi2 ?hs2 ?hf2 ?hr2 ?hQ2 (Or.inl ⟨?hw2, ?hy2⟩) (by assumption) ?h2
  case hi2 => (simp only [List.getElem?_toArray, List.getElem?_cons_succ, List.getElem?_cons_zero]; rfl)
  case hs2 => kernel_rfl
  case hf2 => kernel_rfl
  case hr2 => kernel_rfl
  case hw2 => rfl
  case hy2 => (intro w0 hSw; (try dsimp only at hSw); go_simp; first | done | with_reducible rfl)
  case hQ2 => exact fun _ _ _ h => h
  try simp only [Act.put, List.setIfInBounds_toArray, List.set_cons_zero, List.set_cons_succ]
  refine wpAnyH_take (i := 3) (oi := ?oi3) (v := ?v3) ?hi3 ?hs3 ?hf3 ?hr3 ?hQ3 (Or.inl ⟨?hw3, ?hy3⟩) (by assumption) ?h3
  case hi3 => (simp only [List.getElem?_toArray, List.getElem?_cons_succ, List.getElem?_cons_zero]; rfl)
  case hs3 => kernel_rfl
  case hf3 => kernel_rfl
  case hr3 => kernel_rfl
  case hw3 => rfl
  case hy3 => (intro w0 hSw; (try dsimp only at hSw); go_simp; first | done | with_reducible rfl)
  case hQ3 => exact fun _ _ _ h => h
  try simp only [Act.put, List.setIfInBounds_toArray, List.set_cons_zero, List.set_cons_succ]
  refine wpAnyH_take (i := 4) (oi := ?oi4) (v := ?v4) ?hi4 ?hs4 ?hf4 ?hr4 ?hQ4 (Or.inl ⟨?hw4, ?hy4⟩) (by assumption) ?h4
  case hi4 => (simp only [List.getElem?_toArray, List.getElem?_cons_succ, List.getElem?_cons_zero]; rfl)
  case hs4 => kernel_rfl
  case hf4 => kernel_rfl
  case hr4 => kernel_rfl
  case hw4 => rfl
  case hy4 => (intro w0 hSw; (try dsimp only at hSw); go_simp; first | done | with_reducible rfl)
  case hQ4 => exact fun _ _ _ h => h
  try simp only [Act.put, List.setIfInBounds_toArray, List.set_cons_zero, List.set_cons_succ]
  refine wpAnyH_ready (rs := [5, 9]) (by kernel_rfl) (by simp) ?_
  refine AllReadyH.cons (o := ?o5p) ?hi5p ?step5p (AllReadyH.cons (o := ?o9p) ?hi9p ?step9p AllReadyH.nil)
  case hi5p => (simp only [List.getElem?_toArray, List.getElem?_cons_succ, List.getElem?_cons_zero]; rfl)
  case hi9p => (simp only [List.getElem?_toArray, List.getElem?_cons_succ, List.getElem?_cons_zero]; rfl)
  case step5p =>
    intro K hK
    go_simp
    refine (kn _ hHeld.1).mono ?_
    rintro e y2 ⟨v2, he2, hn2, hb2, hnear⟩
    change e = .returned (.tuple #[.agg #[.int .i64 uq.p, v2], .int .i64 0]) at he2
    subst he2
    obtain ⟨a2, n2, c2, hv2, _⟩ := id hn2.room
    subst hv2
    have hA2 : Aside (Below w3.heap.size w3 y2) := hHeld.1.trans (hb2.mono hHeld.1.size)
    have HN2 : Aside (∀ g', (Value.slice a2 n2 c2).ownBlock = some g' → g' ≠ g) := fun g' hg' e' => by
      rcases hnear g' hg' with hh | hh
      · have := hHeld.1.size; have := hgl; omega
      · have := hfo g' hh; omega
    refine hK.out _ _ (s6_of hS6 (hHeld.1.trans (hb2.mono hHeld.1.size))) (fun hHeld => ?_)
    clear hK K
    try simp only [Act.put, List.setIfInBounds_toArray, List.set_cons_zero, List.set_cons_succ]
    refine wpAnyH_take (i := 6) (oi := ?oi6A) (v := ?v6A) ?hi6A ?hs6A ?hf6A ?hr6A ?hQ6A (Or.inl ⟨?hw6A, ?hy6A⟩) (by assumption) ?h6A
    case hi6A => (simp only [List.getElem?_toArray, List.getElem?_cons_succ, List.getElem?_cons_zero]; rfl)
    case hs6A => kernel_rfl
    case hf6A => kernel_rfl
    case hr6A => kernel_rfl
    case hw6A => rfl
    case hy6A => (intro w0 hSw; (try dsimp only at hSw); go_simp; first | done | with_reducible rfl)
    case hQ6A => exact fun _ _ _ h => h
    try simp only [Act.put, List.setIfInBounds_toArray, List.set_cons_zero, List.set_cons_succ]
    refine wpAnyH_take (i := 7) (oi := ?oi7A) (v := ?v7A) ?hi7A ?hs7A ?hf7A ?hr7A ?hQ7A (Or.inl ⟨?hw7A, ?hy7A⟩) (by assumption) ?h7A
    case hi7A => (simp only [List.getElem?_toArray, List.getElem?_cons_succ, List.getElem?_cons_zero]; rfl)
    case hs7A => kernel_rfl
    case hf7A => kernel_rfl
    case hr7A => kernel_rfl
    case hw7A => rfl
    case hy7A => (intro w0 hSw; (try dsimp only at hSw); go_simp; first | done | with_reducible rfl)
    case hQ7A => exact fun _ _ _ h => h
    try simp only [Act.put, List.setIfInBounds_toArray, List.set_cons_zero, List.set_cons_succ]
    refine wpAnyH_take (i := 8) (oi := ?oi8A) (v := ?v8A) ?hi8A ?hs8A ?hf8A ?hr8A ?hQ8A (Or.inl ⟨?hw8A, ?hy8A⟩) (by assumption) ?h8A
    case hi8A => (simp only [List.getElem?_toArray, List.getElem?_cons_succ, List.getElem?_cons_zero]; rfl)
    case hs8A => kernel_rfl
    case hf8A => kernel_rfl
    case hr8A => kernel_rfl
    case hw8A => rfl
    case hy8A => (intro w0 hSw; (try dsimp only at hSw); go_simp; first | done | with_reducible rfl)
    case hQ8A => exact fun _ _ _ h => h
    try simp only [Act.put, List.setIfInBounds_toArray, List.set_cons_zero, List.set_cons_succ]
    refine wpAnyH_ready (rs := [9]) (by kernel_rfl) (by simp) ?_
    refine AllReadyH.cons (o := ?o9A) ?hi9A ?step9A AllReadyH.nil
    case hi9A => (simp only [List.getElem?_toArray, List.getElem?_cons_succ, List.getElem?_cons_zero]; rfl)
    intro K hK
    go_simp
    refine hK.out _ _ (s6_of hS6 (grew hHeld.1 _)) (fun hHeld => ?_)
    clear hK K
    try simp only [Act.put, List.setIfInBounds_toArray, List.set_cons_zero, List.set_cons_succ]
    refine wpAnyH_ready (rs := [10]) (by kernel_rfl) (by simp) ?_
    refine AllReadyH.cons (o := ?o10A) ?hi10A ?step10A AllReadyH.nil
    case hi10A => (simp only [List.getElem?_toArray, List.getElem?_cons_succ, List.getElem?_cons_zero]; rfl)
    intro K hK
    go_simp
    refine hK.out _ _ (s6_of hS6 (grew hA2.out _)) (fun hHeld => ?_)
    clear hK K
    try simp only [Act.put, List.setIfInBounds_toArray, List.set_cons_zero, List.set_cons_succ]
    refine wpAnyH_take (i := 11) (oi := ?oi11A) (v := ?v11A) ?hi11A ?hs11A ?hf11A ?hr11A ?hQ11A (Or.inl ⟨?hw11A, ?hy11A⟩) (by assumption) ?h11A
    case hi11A => (simp only [List.getElem?_toArray, List.getElem?_cons_succ, List.getElem?_cons_zero]; rfl)
    case hs11A => kernel_rfl
    case hf11A => kernel_rfl
    case hr11A => kernel_rfl
    case hw11A => rfl
    case hy11A => (intro w0 hSw; (try dsimp only at hSw); go_simp; first | done | with_reducible rfl)
    case hQ11A => exact fun _ _ _ h => h
    try simp only [Act.put, List.setIfInBounds_toArray, List.set_cons_zero, List.set_cons_succ]
    refine wpAnyH_done (by kernel_rfl) ?_ _
    obtain ⟨V6, hVe, hV6⟩ := name_world (P := fun W' => S6 w3 W' b (off + kk * 2) rb uq.p (.slice aq nq cq) aa x) hHeld
    have HVB : Aside (V6.heap[y2.heap.size]? = some (boxU uq.p (.slice a2 n2 c2))) := by rw [hVe]; exact heap_new _ _
    have HVU : Aside (UnitAt V6 (.slice a2 n2 c2) ⟨uq.p, uq.cells.set aa x⟩) := by rw [hVe]; exact hn2.later (grew (Below.refl _ _) _)
    rw [← hVe]
    clear hVe hHeld
    have hB6 := hV6.1
    have HB6 : Aside (Below w.heap.size w V6) := HB3.out.trans (hB6.mono HB3.out.size)
    have HROW6 : Aside _ := HROW.out.later hB6
    have hs6 := heap_below HS3.out hB6 (heap_lt HS3.out)
    have hx6 := heap_below HX3.out hB6 (heap_lt HX3.out)
    have HS6 : Aside _ := hs6
    have zs : ∀ i, V6.cell? ⟨rb + 1, i, none⟩ = #[Value.int .i64 x.k, .int .i64 x.j, .int .i64 x.v, .int .i64 x.t, .int .i64 x.c][i]? := fun i => Joins.cell_of_block hs6 i
    have zx : ∀ i, V6.cell? ⟨w.heap.size, i, none⟩ = #[Value.int .i64 x.k, .int .i64 x.j, .int .i64 x.v, .int .i64 x.t, .int .i64 x.c][i]? := fun i => Joins.cell_of_block hx6 i
    have zr := hV6.2.2
    have zv : ∀ i, V6.cell? ⟨y2.heap.size, i, none⟩ = #[Value.int .i64 uq.p, .slice a2 n2 c2][i]? := fun i => Joins.cell_of_block HVB.out i
    have hcg : ∀ o, o < 2 → ∃ y, V6.cell? ⟨g, kk * 2 + o, none⟩ = some y := fun o ho => by
      rw [Joins.cell_of_block HROW6.out.blk]
      have hll : kk * 2 + o < (xs.flatMap Ub.cells ++ tl).length := by rw [List.length_append, row_len Ub.two, HROW6.out.len]; omega
      exact ⟨_, by rw [List.getElem?_toArray]; exact List.getElem?_eq_getElem hll⟩
    obtain ⟨q0, g0⟩ := hcg 0 (by omega)
    obtain ⟨q1, g1⟩ := hcg 1 (by omega)
    rw [Nat.add_zero] at g0
    have fg : ∀ i, V6.frozen? ⟨g, i, none⟩ = false := fun i => Joins.unfrozen_of_block HROW6.out.blk i
    have hne := fun W => neq_entry x.k x.j x.v x.t x.c x.k x.j x.v x.t x.c W
    rw [show unlike x.k x.j x.v x.t x.c x.k x.j x.v x.t x.c = false by simp [unlike]] at hne
    have HROW9 : Aside _ := HROW6.out.set hkk ⟨⟨uq.p, uq.cells.set aa x⟩, .slice a2 n2 c2⟩ HVU.out HN2.out (fun z hz g' hg' => by have := HFO.out z hz g' hg'; omega)
    have HB9 : Aside (Below w.heap.size w ((V6.setCell ⟨g, kk * 2, none⟩ (.int .i64 uq.p)).setCell ⟨g, kk * 2 + 1, none⟩ (.slice a2 n2 c2))) := (HB6.out.setCell (p := ⟨g, kk * 2, none⟩) (by show w.heap.size ≤ g; omega) _).setCell (p := ⟨g, kk * 2 + 1, none⟩) (by show w.heap.size ≤ g; omega) _
    have HS9 : Aside (((V6.setCell ⟨g, kk * 2, none⟩ (.int .i64 uq.p)).setCell ⟨g, kk * 2 + 1, none⟩ (.slice a2 n2 c2)).heap[rb + 1]? = some (boxE x.k x.j x.v x.t x.c)) := by
      rw [Aside, Below.heap_setCell _ _ _ _ (by show rb + 1 ≠ g; omega), Below.heap_setCell _ _ _ _ (by show rb + 1 ≠ g; omega)]
      exact HS6.out
    clear hV6 hB6 hs6 hx6 hcg HVU HVB HS6
    go_upto_region 10 with fail
    generalize (V6.setCell ⟨g, kk * 2, none⟩ (.int .i64 uq.p)).setCell ⟨g, kk * 2 + 1, none⟩ (.slice a2 n2 c2) = V9 at *
    clear zs zx zr zv g0 g1 fg HROW6 HB6
    obtain ⟨ys, hys⟩ : ∃ ys, xs.set kk ⟨⟨uq.p, uq.cells.set aa x⟩, .slice a2 n2 c2⟩ = ys := ⟨_, rfl⟩
    rw [hys] at HROW9
    have hq2 : ys[kk]? = some ⟨⟨uq.p, uq.cells.set aa x⟩, .slice a2 n2 c2⟩ := by
      rw [← hys]
      exact List.getElem?_set_self (by have := HROW.out.len; omega)
    have HUY : Hid (unitsOf ys = (unitsOf xs).set kk ⟨uq.p, uq.cells.set aa x⟩) := by rw [Hid, ← hys, unitsOf, List.map_set]
    have HFY : Aside (Fits ys) := by
      refine ⟨by rw [HROW9.out.len]; decide, fun z hz => ?_⟩
      rw [← hys] at hz
      rcases List.mem_or_eq_of_mem_set hz with hz | rfl
      · exact HFX.out.2 z hz
      · show (uq.cells.set aa x).length ≤ topN
        rw [List.length_set, HU60.out _ (List.mem_of_getElem? HQ.out)]; decide
    clear hys
    have hcm := HROW9.out.ch
    have huq := hcm.each _ (List.mem_of_getElem? hq2)
    obtain ⟨g', o', eg, hrw⟩ := hcm.rows.at (by omega)
    injection eg with eg
    injection eg with eg1 eg2 _
    subst eg1 eg2
    have r1 : V9.cell? ⟨g, kk * 2 + 1, none⟩ = some (.slice a2 n2 c2) := by have := hrw kk _ hq2 1 _ rfl; rwa [Nat.zero_add] at this
    have hU60 := HU60.out _ (List.mem_of_getElem? HQ.out)
    have hsx : (uq.cells.set aa x)[aa]? = some x := List.getElem?_set_self (by rw [hU60]; exact haa)
    have hnl : aa < n2 := by
      have h2 : (uq.cells.set aa x).length = n2 := SlOf.len (cs := En.cells) (k := 5) huq.ents
      rw [List.length_set, hU60] at h2
      omega
    obtain ⟨bq, oq, eq', hEq⟩ := SlOf.at (cs := En.cells) (k := 5) huq.ents (by omega)
    subst eq'
    have hS0 : CkS V9 V9 g kk (.slice (some ⟨bq, oq, none⟩) n2 c2) bq oq aa x (rb + 1) x := ⟨Below.refl _ _, r1, ⟨hEq aa x hsx 0 _ rfl, hEq aa x hsx 1 _ rfl, hEq aa x hsx 2 _ rfl, hEq aa x hsx 3 _ rfl, hEq aa x hsx 4 _ rfl⟩, c5_of HS9.out⟩
    have hnn : (aa : Int) < (n2 : Int) := by omega
    have hbd : Below V9.heap.size V9 V9.drew := (Below.refl _ _).drew
    have kc := fun W (hb : Below V9.heap.size V9 W) => HC.out.check _ ys W (HROW9.out.later hb).ch HFY.out
    rw [HUY.out, HCK.out.1] at kc
    clear hcm huq hrw hEq hq2 r1 hsx hU60 HROW HS9 HN2 HS3 HX3 HB3 hS6 kn
    go_wp2_with fail
    go_region_held3 (fun w' => CkS V9 w' g kk (.slice (some ⟨bq, oq, none⟩) n2 c2) bq oq aa x (rb + 1) x) (exact ckS_step (by assumption) (by assumption)) (first | (go_at_call 25; refine (kc _ (by exact (‹CkS _ _ _ _ _ _ _ _ _ _ _›).1)).mono ?_; rintro e V ⟨rfl, hbV⟩))
    rename_i hS
    have hV := hS.1
    have HBV : Aside (Below w.heap.size w V) := HB9.out.trans (hV.mono HB9.out.size)
    have HCM : Aside (∀ W, Below V.heap.size V W → ChAt W (.slice (some ⟨g, 0, none⟩) 3 cap) ys) := fun W hb => (HROW9.out.later (hV.trans (hb.mono hV.size))).ch
    have HRD : Aside (∀ i : Nat, i < 60 → (readOf (unitsOf xs) (i : Int)).2 ≠ 0 ∨ ∃ y, readOf (unitsOf xs) (i : Int) = (y, 0) ∧ readOf (unitsOf ys) (i : Int) = (y, 0) ∧ ∀ (k : Nat) (u : Un), (unitsOf ys)[k]? = some u → u.cells[i]? = some y) := fun i hi => by rw [HUY.out]; exact st_read HCK.out.1 HCK.out.2.2 hi
    clear hS hS0 hbd hbV hV kc hne HB9 HROW9
    go_wp2
    go_loopw [87] (fun i wr => ∃ n : Nat, n ≤ 60 ∧ i = .int .i64 n ∧ Below V.heap.size V wr) (fun i _ => 60 - (intOf i).toNat)
    case atStart => exact ⟨0, Nat.zero_le _, rfl, Below.refl _ _⟩
    case round =>
      obtain ⟨n, hn, rfl, hB⟩ := hrel
      by_cases hlt : n < 60
      · have hBw := HBV.out.trans (hB.mono HBV.out.size)
        have k1 := HC.out.read _ xs (n : Int) wr (HCL.out _ hBw) HFX.out
        have k2 := fun W (hb : Below V.heap.size V W) => HC.out.read _ ys (n : Int) W (HCM.out _ hb) HFY.out
        have hrd := HRD.out n hlt
        have hni : (n : Int) < 60 := by omega
        have hn0 : (0 : Int) ≤ (n : Int) := by omega
        obtain ⟨⟨y, f⟩, hq⟩ : ∃ q, readOf (unitsOf xs) (n : Int) = q := ⟨_, rfl⟩
        obtain ⟨⟨y', f'⟩, hq'⟩ : ∃ q, readOf (unitsOf ys) (n : Int) = q := ⟨_, rfl⟩
        rw [hq] at k1 hrd
        rw [hq'] at k2 hrd
        have HRN : Hid (f ≠ 0 ∨ (f = 0 ∧ f' = 0 ∧ y' = y ∧ ∀ (k : Nat) (u : Un), (unitsOf ys)[k]? = some u → u.cells[n]? = some y)) := by
          rcases hrd with hh | ⟨z, e1, e2, hh⟩
          · exact Or.inl hh
          · injection e1 with e3 e4
            injection e2 with e5 e6
            exact Or.inr ⟨e4, e6, by rw [e5, e3], fun k u hu => by rw [e3]; exact hh k u hu⟩
        replace k1 : Calls Try.prog 21 #[.slice (some ⟨b, off, none⟩) 3 c, .int .i64 (n : Int)] wr fun e w' => e = .returned (.tuple #[y.val, .int .i64 f]) ∧ Below wr.heap.size wr w' := k1
        replace k2 : ∀ W, Below V.heap.size V W → Calls Try.prog 21 #[.slice (some ⟨g, 0, none⟩) 3 cap, .int .i64 (n : Int)] W fun e w' => e = .returned (.tuple #[y'.val, .int .i64 f']) ∧ Below W.heap.size W w' := k2
        have HB0 : Aside _ := hB
        clear hq hq' hrd hBw hB
        go_wp2_with fail
        refine k1.mono ?_
        rintro e z1 ⟨rfl, hz1⟩
        have hB1 : Below V.heap.size V (z1.alloc (boxE y.k y.j y.v y.t y.c)) := grew (step_below1 HB0.out hz1) _
        have HY1 : Aside _ := heap_new z1 (boxE y.k y.j y.v y.t y.c)
        have k2' := k2 _ hB1
        have HB1 : Aside _ := hB1
        clear k1 hz1 hB1 k2 HB0
        go_upto_region 16 with fail
        generalize z1.alloc (boxE y.k y.j y.v y.t y.c) = Z1 at *
        generalize z1.heap.size = yb at *
        go_wp2_with fail
        refine k2'.mono ?_
        rintro e z2 ⟨rfl, hz2⟩
        have hga := grew hz2 (boxE y'.k y'.j y'.v y'.t y'.c)
        have hB2 := step_below1 HB1.out hga
        have HY2 : Aside _ := heap_below HY1.out hga (heap_lt HY1.out)
        have HQ2 : Aside _ := heap_new z2 (boxE y'.k y'.j y'.v y'.t y'.c)
        have HB2 : Aside _ := hB2
        clear k2' hz2 hga hB2 HY1 HB1
        go_upto_region 17 with fail
        generalize z2.alloc (boxE y'.k y'.j y'.v y'.t y'.c) = Z2 at *
        generalize z2.heap.size = qb at *
        have zy : ∀ i, Z2.cell? ⟨yb, i, none⟩ = #[Value.int .i64 y.k, .int .i64 y.j, .int .i64 y.v, .int .i64 y.t, .int .i64 y.c][i]? := fun i => Joins.cell_of_block HY2.out i
        have zq : ∀ i, Z2.cell? ⟨qb, i, none⟩ = #[Value.int .i64 y'.k, .int .i64 y'.j, .int .i64 y'.v, .int .i64 y'.t, .int .i64 y'.c][i]? := fun i => Joins.cell_of_block HQ2.out i
        by_cases hf : f = 0
        · obtain ⟨_, hf', hyy, hall⟩ := HRN.out.resolve_left (fun hh => hh hf)
          subst hf hf' hyy
          have HALL : Hid (∀ (k : Nat) (u : Un), (unitsOf ys)[k]? = some u → u.cells[n]? = some y') := hall
          have hne := fun W => neq_entry y'.k y'.j y'.v y'.t y'.c y'.k y'.j y'.v y'.t y'.c W
          rw [show unlike y'.k y'.j y'.v y'.t y'.c y'.k y'.j y'.v y'.t y'.c = false by simp [unlike]] at hne
          clear hall HRN
          go_wp2
          go_loopw [117] (fun i wi => ∃ j : Nat, j ≤ 3 ∧ i = .int .i64 j ∧ Below Z2.heap.size Z2 wi) (fun i _ => 3 - (intOf i).toNat)
          case atStart => exact ⟨0, Nat.zero_le _, rfl, Below.refl _ _⟩
          case round =>
            obtain ⟨j, hj, rfl, hBi⟩ := hrel
            by_cases hjl : j < 3
            · have hBV2 := HB2.out.trans (hBi.mono HB2.out.size)
              have hcm := HCM.out _ hBV2
              obtain ⟨q, hq⟩ : ∃ q, ys[j]? = some q := ⟨ys[j]'(by have := hcm.rows.len; omega), List.getElem?_eq_getElem _⟩
              obtain ⟨uq, vq⟩ := q
              have huq := hcm.each ⟨uq, vq⟩ (List.mem_of_getElem? hq)
              obtain ⟨aq, nq, cq, e, _⟩ := id huq.room
              dsimp only at e
              subst e
              obtain ⟨g', o', eg, hrow⟩ := hcm.rows.at (by omega)
              injection eg with eg
              injection eg with eg1 eg2 _
              subst eg1 eg2
              have r0 : wr.cell? ⟨g, j * 2, none⟩ = some (.int .i64 uq.p) := by have := hrow j _ hq 0 _ rfl; rwa [Nat.zero_add, Nat.add_zero] at this
              have r1 : wr.cell? ⟨g, j * 2 + 1, none⟩ = some (.slice aq nq cq) := by have := hrow j _ hq 1 _ rfl; rwa [Nat.zero_add] at this
              have hcell := HALL.out j uq (by rw [List.getElem?_map, hq]; rfl)
              have hnl : n < nq := by
                have h1 := (List.getElem?_eq_some_iff.1 hcell).1
                have h2 : uq.cells.length = nq := SlOf.len (cs := En.cells) (k := 5) huq.ents
                omega
              obtain ⟨bq, oq, eq', hEq⟩ := SlOf.at (cs := En.cells) (k := 5) (huq.later (grew (Below.refl wr.heap.size wr) (boxU uq.p (.slice aq nq cq)))).ents (by omega)
              subst eq'
              have d0 := hEq n y' hcell 0 _ rfl
              have d1 := hEq n y' hcell 1 _ rfl
              have d2 := hEq n y' hcell 2 _ rfl
              have d3 := hEq n y' hcell 3 _ rfl
              have d4 := hEq n y' hcell 4 _ rfl
              rw [Nat.add_zero] at d0
              have zu : ∀ i, (wr.alloc (boxU uq.p (.slice (some ⟨bq, oq, none⟩) nq cq))).cell? ⟨wr.heap.size, i, none⟩ = #[Value.int .i64 uq.p, .slice (some ⟨bq, oq, none⟩) nq cq][i]? := fun i => Joins.cell_of_block (heap_new _ _) i
              have hy3 := heap_below HY2.out (grew hBi (boxU uq.p (.slice (some ⟨bq, oq, none⟩) nq cq))) (heap_lt HY2.out)
              have zy3 : ∀ i, (wr.alloc (boxU uq.p (.slice (some ⟨bq, oq, none⟩) nq cq))).cell? ⟨yb, i, none⟩ = #[Value.int .i64 y'.k, .int .i64 y'.j, .int .i64 y'.v, .int .i64 y'.t, .int .i64 y'.c][i]? := fun i => Joins.cell_of_block hy3 i
              have HBi : Aside _ := grew hBi (boxU uq.p (.slice (some ⟨bq, oq, none⟩) nq cq))
              have hnn : (n : Int) < (nq : Int) := by omega
              clear hrow hcm huq hq hcell hEq hBV2 hBi hy3
              go_upto_region 23 with fail
              generalize wr.alloc (boxU uq.p (.slice (some ⟨bq, oq, none⟩) nq cq)) = Z at *
              generalize wr.heap.size = ub at *
              clear r0 r1
              go_quiet (fail)
              go_wp2
              go_roundw
              case rel => exact ⟨j + 1, by omega, by go_num, below_drewN HBi.out _⟩
              case measure => simp [intOf]; omega
            · obtain rfl : j = 3 := by omega
              have HBn : Aside (Below V.heap.size V wr) := HB2.out.trans (hBi.mono HB2.out.size)
              clear hBi
              go_wp2
              go_roundw
              case rel => exact ⟨n + 1, by omega, by go_num, HBn.out⟩
              case measure => simp [intOf]; omega
        · have hfa : (f == 0) = false := by rw [beq_eq_false_iff_ne]; exact hf
          have hfb : (f != 0) = true := by rw [bne_iff_ne]; exact hf
          clear hf HRN
          go_wp2
          go_roundw
          case rel => exact ⟨n + 1, by omega, by go_num, HB2.out⟩
          case measure => simp [intOf]; omega
      · obtain rfl : n = 60 := by omega
        have HBE : Aside _ := HBV.out.trans (hB.mono HBV.out.size)
        clear hB
        go_wp2
        go_ret
        exact ⟨rfl, HBE.out⟩
  case step9p =>
    intro K hK
    go_simp
    refine hK.out _ _ (s6_of hS6 (grew hHeld.1 _)) (fun hHeld => ?_)
    clear hK K
    try simp only [Act.put, List.setIfInBounds_toArray, List.set_cons_zero, List.set_cons_succ]
    refine wpAnyH_ready (rs := [5]) (by kernel_rfl) (by simp) ?_
    refine AllReadyH.cons (o := ?o5B) ?hi5B ?step5B AllReadyH.nil
    case hi5B => (simp only [List.getElem?_toArray, List.getElem?_cons_succ, List.getElem?_cons_zero]; rfl)
    intro K hK
    go_simp
    refine (kn _ hHeld.1).mono ?_
    rintro e y2 ⟨v2, he2, hn2, hb2, hnear⟩
    change e = .returned (.tuple #[.agg #[.int .i64 uq.p, v2], .int .i64 0]) at he2
    subst he2
    obtain ⟨a2, n2, c2, hv2, _⟩ := id hn2.room
    subst hv2
    have hA2 : Aside (Below w3.heap.size w3 y2) := hHeld.1.trans (hb2.mono hHeld.1.size)
    have HN2 : Aside (∀ g', (Value.slice a2 n2 c2).ownBlock = some g' → g' ≠ g) := fun g' hg' e' => by
      rcases hnear g' hg' with hh | hh
      · have := hHeld.1.size; have := hgl; omega
      · have := hfo g' hh; omega
    refine hK.out _ _ (s6_of hS6 (hHeld.1.trans (hb2.mono hHeld.1.size))) (fun hHeld => ?_)
    clear hK K
    try simp only [Act.put, List.setIfInBounds_toArray, List.set_cons_zero, List.set_cons_succ]
    have hZ : y2.heap[w3.heap.size]? = some (boxU 0 (.slice none 0 0)) := heap_below (heap_new w3.drew (boxU 0 (.slice none 0 0))) hb2 (heap_lt (heap_new w3.drew (boxU 0 (.slice none 0 0))))
    have yz := fun i => Joins.cell_of_block hZ i
    have yf := fun i => Joins.unfrozen_of_block hZ i
    refine wpAnyH_take (i := 6) (oi := ?oi6B) (v := ?v6B) ?hi6B ?hs6B ?hf6B ?hr6B ?hQ6B (Or.inl ⟨?hw6B, ?hy6B⟩) (by assumption) ?h6B
    case hi6B => (simp only [List.getElem?_toArray, List.getElem?_cons_succ, List.getElem?_cons_zero]; rfl)
    case hs6B => kernel_rfl
    case hf6B => kernel_rfl
    case hr6B => kernel_rfl
    case hw6B => rfl
    case hy6B => (intro w0 hSw; (try dsimp only at hSw); go_simp; first | done | with_reducible rfl)
    case hQ6B => exact fun _ _ _ h => h
    try simp only [Act.put, List.setIfInBounds_toArray, List.set_cons_zero, List.set_cons_succ]
    refine wpAnyH_take (i := 7) (oi := ?oi7B) (v := ?v7B) ?hi7B ?hs7B ?hf7B ?hr7B ?hQ7B (Or.inl ⟨?hw7B, ?hy7B⟩) (by assumption) ?h7B
    case hi7B => (simp only [List.getElem?_toArray, List.getElem?_cons_succ, List.getElem?_cons_zero]; rfl)
    case hs7B => kernel_rfl
    case hf7B => kernel_rfl
    case hr7B => kernel_rfl
    case hw7B => rfl
    case hy7B => (intro w0 hSw; (try dsimp only at hSw); go_simp; first | done | with_reducible rfl)
    case hQ7B => exact fun _ _ _ h => h
    try simp only [Act.put, List.setIfInBounds_toArray, List.set_cons_zero, List.set_cons_succ]
    refine wpAnyH_take (i := 8) (oi := ?oi8B) (v := ?v8B) ?hi8B ?hs8B ?hf8B ?hr8B ?hQ8B (Or.inl ⟨?hw8B, ?hy8B⟩) (by assumption) ?h8B
    case hi8B => (simp only [List.getElem?_toArray, List.getElem?_cons_succ, List.getElem?_cons_zero]; rfl)
    case hs8B => kernel_rfl
    case hf8B => kernel_rfl
    case hr8B => kernel_rfl
    case hw8B => rfl
    case hy8B => (intro w0 hSw; (try dsimp only at hSw); go_simp; first | done | with_reducible rfl)
    case hQ8B => exact fun _ _ _ h => h
    try simp only [Act.put, List.setIfInBounds_toArray, List.set_cons_zero, List.set_cons_succ]
    refine wpAnyH_ready (rs := [10]) (by kernel_rfl) (by simp) ?_
    refine AllReadyH.cons (o := ?o10B) ?hi10B ?step10B AllReadyH.nil
    case hi10B => (simp only [List.getElem?_toArray, List.getElem?_cons_succ, List.getElem?_cons_zero]; rfl)
    intro K hK
    go_simp
    refine hK.out _ _ (s6_of hS6 ((hA2.out.setCell (p := ⟨w3.heap.size, 0, none⟩) (Nat.le_refl _) _).setCell (p := ⟨w3.heap.size, 1, none⟩) (Nat.le_refl _) _)) (fun hHeld => ?_)
    clear hK K
    try simp only [Act.put, List.setIfInBounds_toArray, List.set_cons_zero, List.set_cons_succ]
    refine wpAnyH_take (i := 11) (oi := ?oi11B) (v := ?v11B) ?hi11B ?hs11B ?hf11B ?hr11B ?hQ11B (Or.inl ⟨?hw11B, ?hy11B⟩) (by assumption) ?h11B
    case hi11B => (simp only [List.getElem?_toArray, List.getElem?_cons_succ, List.getElem?_cons_zero]; rfl)
    case hs11B => kernel_rfl
    case hf11B => kernel_rfl
    case hr11B => kernel_rfl
    case hw11B => rfl
    case hy11B => (intro w0 hSw; (try dsimp only at hSw); go_simp; first | done | with_reducible rfl)
    case hQ11B => exact fun _ _ _ h => h
    try simp only [Act.put, List.setIfInBounds_toArray, List.set_cons_zero, List.set_cons_succ]
    refine wpAnyH_done (by kernel_rfl) ?_ _
    obtain ⟨V6, hVe, hV6⟩ := name_world (P := fun W' => S6 w3 W' b (off + kk * 2) rb uq.p (.slice aq nq cq) aa x) hHeld
    have HVB : Aside (V6.heap[w3.heap.size]? = some (boxU uq.p (.slice a2 n2 c2))) := by rw [hVe]; exact unit_stored hZ _ _
    have HVU : Aside (UnitAt V6 (.slice a2 n2 c2) ⟨uq.p, uq.cells.set aa x⟩) := by rw [hVe]; exact unit_apart hn2 hZ _ _
    rw [← hVe]
    clear hVe hHeld
    have hB6 := hV6.1
    have HB6 : Aside (Below w.heap.size w V6) := HB3.out.trans (hB6.mono HB3.out.size)
    have HROW6 : Aside _ := HROW.out.later hB6
    have hs6 := heap_below HS3.out hB6 (heap_lt HS3.out)
    have hx6 := heap_below HX3.out hB6 (heap_lt HX3.out)
    have HS6 : Aside _ := hs6
    have zs : ∀ i, V6.cell? ⟨rb + 1, i, none⟩ = #[Value.int .i64 x.k, .int .i64 x.j, .int .i64 x.v, .int .i64 x.t, .int .i64 x.c][i]? := fun i => Joins.cell_of_block hs6 i
    have zx : ∀ i, V6.cell? ⟨w.heap.size, i, none⟩ = #[Value.int .i64 x.k, .int .i64 x.j, .int .i64 x.v, .int .i64 x.t, .int .i64 x.c][i]? := fun i => Joins.cell_of_block hx6 i
    have zr := hV6.2.2
    have zv : ∀ i, V6.cell? ⟨w3.heap.size, i, none⟩ = #[Value.int .i64 uq.p, .slice a2 n2 c2][i]? := fun i => Joins.cell_of_block HVB.out i
    have hcg : ∀ o, o < 2 → ∃ y, V6.cell? ⟨g, kk * 2 + o, none⟩ = some y := fun o ho => by
      rw [Joins.cell_of_block HROW6.out.blk]
      have hll : kk * 2 + o < (xs.flatMap Ub.cells ++ tl).length := by rw [List.length_append, row_len Ub.two, HROW6.out.len]; omega
      exact ⟨_, by rw [List.getElem?_toArray]; exact List.getElem?_eq_getElem hll⟩
    obtain ⟨q0, g0⟩ := hcg 0 (by omega)
    obtain ⟨q1, g1⟩ := hcg 1 (by omega)
    rw [Nat.add_zero] at g0
    have fg : ∀ i, V6.frozen? ⟨g, i, none⟩ = false := fun i => Joins.unfrozen_of_block HROW6.out.blk i
    have hne := fun W => neq_entry x.k x.j x.v x.t x.c x.k x.j x.v x.t x.c W
    rw [show unlike x.k x.j x.v x.t x.c x.k x.j x.v x.t x.c = false by simp [unlike]] at hne
    have HROW9 : Aside _ := HROW6.out.set hkk ⟨⟨uq.p, uq.cells.set aa x⟩, .slice a2 n2 c2⟩ HVU.out HN2.out (fun z hz g' hg' => by have := HFO.out z hz g' hg'; omega)
    have HB9 : Aside (Below w.heap.size w ((V6.setCell ⟨g, kk * 2, none⟩ (.int .i64 uq.p)).setCell ⟨g, kk * 2 + 1, none⟩ (.slice a2 n2 c2))) := (HB6.out.setCell (p := ⟨g, kk * 2, none⟩) (by show w.heap.size ≤ g; omega) _).setCell (p := ⟨g, kk * 2 + 1, none⟩) (by show w.heap.size ≤ g; omega) _
    have HS9 : Aside (((V6.setCell ⟨g, kk * 2, none⟩ (.int .i64 uq.p)).setCell ⟨g, kk * 2 + 1, none⟩ (.slice a2 n2 c2)).heap[rb + 1]? = some (boxE x.k x.j x.v x.t x.c)) := by
      rw [Aside, Below.heap_setCell _ _ _ _ (by show rb + 1 ≠ g; omega), Below.heap_setCell _ _ _ _ (by show rb + 1 ≠ g; omega)]
      exact HS6.out
    clear hV6 hB6 hs6 hx6 hcg HVU HVB HS6
    go_upto_region 10 with fail
    generalize (V6.setCell ⟨g, kk * 2, none⟩ (.int .i64 uq.p)).setCell ⟨g, kk * 2 + 1, none⟩ (.slice a2 n2 c2) = V9 at *
    clear zs zx zr zv g0 g1 fg HROW6 HB6
    obtain ⟨ys, hys⟩ : ∃ ys, xs.set kk ⟨⟨uq.p, uq.cells.set aa x⟩, .slice a2 n2 c2⟩ = ys := ⟨_, rfl⟩
    rw [hys] at HROW9
    have hq2 : ys[kk]? = some ⟨⟨uq.p, uq.cells.set aa x⟩, .slice a2 n2 c2⟩ := by
      rw [← hys]
      exact List.getElem?_set_self (by have := HROW.out.len; omega)
    have HUY : Hid (unitsOf ys = (unitsOf xs).set kk ⟨uq.p, uq.cells.set aa x⟩) := by rw [Hid, ← hys, unitsOf, List.map_set]
    have HFY : Aside (Fits ys) := by
      refine ⟨by rw [HROW9.out.len]; decide, fun z hz => ?_⟩
      rw [← hys] at hz
      rcases List.mem_or_eq_of_mem_set hz with hz | rfl
      · exact HFX.out.2 z hz
      · show (uq.cells.set aa x).length ≤ topN
        rw [List.length_set, HU60.out _ (List.mem_of_getElem? HQ.out)]; decide
    clear hys
    have hcm := HROW9.out.ch
    have huq := hcm.each _ (List.mem_of_getElem? hq2)
    obtain ⟨g', o', eg, hrw⟩ := hcm.rows.at (by omega)
    injection eg with eg
    injection eg with eg1 eg2 _
    subst eg1 eg2
    have r1 : V9.cell? ⟨g, kk * 2 + 1, none⟩ = some (.slice a2 n2 c2) := by have := hrw kk _ hq2 1 _ rfl; rwa [Nat.zero_add] at this
    have hU60 := HU60.out _ (List.mem_of_getElem? HQ.out)
    have hsx : (uq.cells.set aa x)[aa]? = some x := List.getElem?_set_self (by rw [hU60]; exact haa)
    have hnl : aa < n2 := by
      have h2 : (uq.cells.set aa x).length = n2 := SlOf.len (cs := En.cells) (k := 5) huq.ents
      rw [List.length_set, hU60] at h2
      omega
    obtain ⟨bq, oq, eq', hEq⟩ := SlOf.at (cs := En.cells) (k := 5) huq.ents (by omega)
    subst eq'
    have hS0 : CkS V9 V9 g kk (.slice (some ⟨bq, oq, none⟩) n2 c2) bq oq aa x (rb + 1) x := ⟨Below.refl _ _, r1, ⟨hEq aa x hsx 0 _ rfl, hEq aa x hsx 1 _ rfl, hEq aa x hsx 2 _ rfl, hEq aa x hsx 3 _ rfl, hEq aa x hsx 4 _ rfl⟩, c5_of HS9.out⟩
    have hnn : (aa : Int) < (n2 : Int) := by omega
    have hbd : Below V9.heap.size V9 V9.drew := (Below.refl _ _).drew
    have kc := fun W (hb : Below V9.heap.size V9 W) => HC.out.check _ ys W (HROW9.out.later hb).ch HFY.out
    rw [HUY.out, HCK.out.1] at kc
    clear hcm huq hrw hEq hq2 r1 hsx hU60 HROW HS9 HN2 HS3 HX3 HB3 hS6 kn
    go_wp2_with fail
    go_region_held3 (fun w' => CkS V9 w' g kk (.slice (some ⟨bq, oq, none⟩) n2 c2) bq oq aa x (rb + 1) x) (exact ckS_step (by assumption) (by assumption)) (first | (go_at_call 25; refine (kc _ (by exact (‹CkS _ _ _ _ _ _ _ _ _ _ _›).1)).mono ?_; rintro e V ⟨rfl, hbV⟩))
    rename_i hS
    have hV := hS.1
    have HBV : Aside (Below w.heap.size w V) := HB9.out.trans (hV.mono HB9.out.size)
    have HCM : Aside (∀ W, Below V.heap.size V W → ChAt W (.slice (some ⟨g, 0, none⟩) 3 cap) ys) := fun W hb => (HROW9.out.later (hV.trans (hb.mono hV.size))).ch
    have HRD : Aside (∀ i : Nat, i < 60 → (readOf (unitsOf xs) (i : Int)).2 ≠ 0 ∨ ∃ y, readOf (unitsOf xs) (i : Int) = (y, 0) ∧ readOf (unitsOf ys) (i : Int) = (y, 0) ∧ ∀ (k : Nat) (u : Un), (unitsOf ys)[k]? = some u → u.cells[i]? = some y) := fun i hi => by rw [HUY.out]; exact st_read HCK.out.1 HCK.out.2.2 hi
    clear hS hS0 hbd hbV hV kc hne HB9 HROW9
    go_wp2
    go_loopw [87] (fun i wr => ∃ n : Nat, n ≤ 60 ∧ i = .int .i64 n ∧ Below V.heap.size V wr) (fun i _ => 60 - (intOf i).toNat)
    case atStart => exact ⟨0, Nat.zero_le _, rfl, Below.refl _ _⟩
    case round =>
      obtain ⟨n, hn, rfl, hB⟩ := hrel
      by_cases hlt : n < 60
      · have hBw := HBV.out.trans (hB.mono HBV.out.size)
        have k1 := HC.out.read _ xs (n : Int) wr (HCL.out _ hBw) HFX.out
        have k2 := fun W (hb : Below V.heap.size V W) => HC.out.read _ ys (n : Int) W (HCM.out _ hb) HFY.out
        have hrd := HRD.out n hlt
        have hni : (n : Int) < 60 := by omega
        have hn0 : (0 : Int) ≤ (n : Int) := by omega
        obtain ⟨⟨y, f⟩, hq⟩ : ∃ q, readOf (unitsOf xs) (n : Int) = q := ⟨_, rfl⟩
        obtain ⟨⟨y', f'⟩, hq'⟩ : ∃ q, readOf (unitsOf ys) (n : Int) = q := ⟨_, rfl⟩
        rw [hq] at k1 hrd
        rw [hq'] at k2 hrd
        have HRN : Hid (f ≠ 0 ∨ (f = 0 ∧ f' = 0 ∧ y' = y ∧ ∀ (k : Nat) (u : Un), (unitsOf ys)[k]? = some u → u.cells[n]? = some y)) := by
          rcases hrd with hh | ⟨z, e1, e2, hh⟩
          · exact Or.inl hh
          · injection e1 with e3 e4
            injection e2 with e5 e6
            exact Or.inr ⟨e4, e6, by rw [e5, e3], fun k u hu => by rw [e3]; exact hh k u hu⟩
        replace k1 : Calls Try.prog 21 #[.slice (some ⟨b, off, none⟩) 3 c, .int .i64 (n : Int)] wr fun e w' => e = .returned (.tuple #[y.val, .int .i64 f]) ∧ Below wr.heap.size wr w' := k1
        replace k2 : ∀ W, Below V.heap.size V W → Calls Try.prog 21 #[.slice (some ⟨g, 0, none⟩) 3 cap, .int .i64 (n : Int)] W fun e w' => e = .returned (.tuple #[y'.val, .int .i64 f']) ∧ Below W.heap.size W w' := k2
        have HB0 : Aside _ := hB
        clear hq hq' hrd hBw hB
        go_wp2_with fail
        refine k1.mono ?_
        rintro e z1 ⟨rfl, hz1⟩
        have hB1 : Below V.heap.size V (z1.alloc (boxE y.k y.j y.v y.t y.c)) := grew (step_below1 HB0.out hz1) _
        have HY1 : Aside _ := heap_new z1 (boxE y.k y.j y.v y.t y.c)
        have k2' := k2 _ hB1
        have HB1 : Aside _ := hB1
        clear k1 hz1 hB1 k2 HB0
        go_upto_region 16 with fail
        generalize z1.alloc (boxE y.k y.j y.v y.t y.c) = Z1 at *
        generalize z1.heap.size = yb at *
        go_wp2_with fail
        refine k2'.mono ?_
        rintro e z2 ⟨rfl, hz2⟩
        have hga := grew hz2 (boxE y'.k y'.j y'.v y'.t y'.c)
        have hB2 := step_below1 HB1.out hga
        have HY2 : Aside _ := heap_below HY1.out hga (heap_lt HY1.out)
        have HQ2 : Aside _ := heap_new z2 (boxE y'.k y'.j y'.v y'.t y'.c)
        have HB2 : Aside _ := hB2
        clear k2' hz2 hga hB2 HY1 HB1
        go_upto_region 17 with fail
        generalize z2.alloc (boxE y'.k y'.j y'.v y'.t y'.c) = Z2 at *
        generalize z2.heap.size = qb at *
        have zy : ∀ i, Z2.cell? ⟨yb, i, none⟩ = #[Value.int .i64 y.k, .int .i64 y.j, .int .i64 y.v, .int .i64 y.t, .int .i64 y.c][i]? := fun i => Joins.cell_of_block HY2.out i
        have zq : ∀ i, Z2.cell? ⟨qb, i, none⟩ = #[Value.int .i64 y'.k, .int .i64 y'.j, .int .i64 y'.v, .int .i64 y'.t, .int .i64 y'.c][i]? := fun i => Joins.cell_of_block HQ2.out i
        by_cases hf : f = 0
        · obtain ⟨_, hf', hyy, hall⟩ := HRN.out.resolve_left (fun hh => hh hf)
          subst hf hf' hyy
          have HALL : Hid (∀ (k : Nat) (u : Un), (unitsOf ys)[k]? = some u → u.cells[n]? = some y') := hall
          have hne := fun W => neq_entry y'.k y'.j y'.v y'.t y'.c y'.k y'.j y'.v y'.t y'.c W
          rw [show unlike y'.k y'.j y'.v y'.t y'.c y'.k y'.j y'.v y'.t y'.c = false by simp [unlike]] at hne
          clear hall HRN
          go_wp2
          go_loopw [117] (fun i wi => ∃ j : Nat, j ≤ 3 ∧ i = .int .i64 j ∧ Below Z2.heap.size Z2 wi) (fun i _ => 3 - (intOf i).toNat)
          case atStart => exact ⟨0, Nat.zero_le _, rfl, Below.refl _ _⟩
          case round =>
            obtain ⟨j, hj, rfl, hBi⟩ := hrel
            by_cases hjl : j < 3
            · have hBV2 := HB2.out.trans (hBi.mono HB2.out.size)
              have hcm := HCM.out _ hBV2
              obtain ⟨q, hq⟩ : ∃ q, ys[j]? = some q := ⟨ys[j]'(by have := hcm.rows.len; omega), List.getElem?_eq_getElem _⟩
              obtain ⟨uq, vq⟩ := q
              have huq := hcm.each ⟨uq, vq⟩ (List.mem_of_getElem? hq)
              obtain ⟨aq, nq, cq, e, _⟩ := id huq.room
              dsimp only at e
              subst e
              obtain ⟨g', o', eg, hrow⟩ := hcm.rows.at (by omega)
              injection eg with eg
              injection eg with eg1 eg2 _
              subst eg1 eg2
              have r0 : wr.cell? ⟨g, j * 2, none⟩ = some (.int .i64 uq.p) := by have := hrow j _ hq 0 _ rfl; rwa [Nat.zero_add, Nat.add_zero] at this
              have r1 : wr.cell? ⟨g, j * 2 + 1, none⟩ = some (.slice aq nq cq) := by have := hrow j _ hq 1 _ rfl; rwa [Nat.zero_add] at this
              have hcell := HALL.out j uq (by rw [List.getElem?_map, hq]; rfl)
              have hnl : n < nq := by
                have h1 := (List.getElem?_eq_some_iff.1 hcell).1
                have h2 : uq.cells.length = nq := SlOf.len (cs := En.cells) (k := 5) huq.ents
                omega
              obtain ⟨bq, oq, eq', hEq⟩ := SlOf.at (cs := En.cells) (k := 5) (huq.later (grew (Below.refl wr.heap.size wr) (boxU uq.p (.slice aq nq cq)))).ents (by omega)
              subst eq'
              have d0 := hEq n y' hcell 0 _ rfl
              have d1 := hEq n y' hcell 1 _ rfl
              have d2 := hEq n y' hcell 2 _ rfl
              have d3 := hEq n y' hcell 3 _ rfl
              have d4 := hEq n y' hcell 4 _ rfl
              rw [Nat.add_zero] at d0
              have zu : ∀ i, (wr.alloc (boxU uq.p (.slice (some ⟨bq, oq, none⟩) nq cq))).cell? ⟨wr.heap.size, i, none⟩ = #[Value.int .i64 uq.p, .slice (some ⟨bq, oq, none⟩) nq cq][i]? := fun i => Joins.cell_of_block (heap_new _ _) i
              have hy3 := heap_below HY2.out (grew hBi (boxU uq.p (.slice (some ⟨bq, oq, none⟩) nq cq))) (heap_lt HY2.out)
              have zy3 : ∀ i, (wr.alloc (boxU uq.p (.slice (some ⟨bq, oq, none⟩) nq cq))).cell? ⟨yb, i, none⟩ = #[Value.int .i64 y'.k, .int .i64 y'.j, .int .i64 y'.v, .int .i64 y'.t, .int .i64 y'.c][i]? := fun i => Joins.cell_of_block hy3 i
              have HBi : Aside _ := grew hBi (boxU uq.p (.slice (some ⟨bq, oq, none⟩) nq cq))
              have hnn : (n : Int) < (nq : Int) := by omega
              clear hrow hcm huq hq hcell hEq hBV2 hBi hy3
              go_upto_region 23 with fail
              generalize wr.alloc (boxU uq.p (.slice (some ⟨bq, oq, none⟩) nq cq)) = Z at *
              generalize wr.heap.size = ub at *
              clear r0 r1
              go_quiet (fail)
              go_wp2
              go_roundw
              case rel => exact ⟨j + 1, by omega, by go_num, below_drewN HBi.out _⟩
              case measure => simp [intOf]; omega
            · obtain rfl : j = 3 := by omega
              have HBn : Aside (Below V.heap.size V wr) := HB2.out.trans (hBi.mono HB2.out.size)
              clear hBi
              go_wp2
              go_roundw
              case rel => exact ⟨n + 1, by omega, by go_num, HBn.out⟩
              case measure => simp [intOf]; omega
        · have hfa : (f == 0) = false := by rw [beq_eq_false_iff_ne]; exact hf
          have hfb : (f != 0) = true := by rw [bne_iff_ne]; exact hf
          clear hf HRN
          go_wp2
          go_roundw
          case rel => exact ⟨n + 1, by omega, by go_num, HB2.out⟩
          case measure => simp [intOf]; omega
      · obtain rfl : n = 60 := by omega
        have HBE : Aside _ := HBV.out.trans (hB.mono HBV.out.size)
        clear hB
        go_wp2
        go_ret
        exact ⟨rfl, HBE.out⟩

end Go.Proofs.Ytaialgacaomaead
