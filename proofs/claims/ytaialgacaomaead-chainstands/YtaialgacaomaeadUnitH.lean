/- What the laws on units ask of package unit; the closed fact 'stood'. -/
import Derived.Test.YtaialgacaomaeadUnitB
import Derived.Test.YtaialgacaomaeadUnitF
import Derived.Test.YtaialgacaomaeadSlRec
import Derived.Deep.RegionHeld3
namespace Go.Proofs.Ytaialgacaomaead
open Go.RowKit
open scoped Classical

/-- Package unit. -/
structure Units : Prop where
  new : ∀ (W : World), Calls Try.prog 16 #[] W fun e w' => ∃ v, e = .returned (.agg #[.int .i64 1, v]) ∧ UnitAt w' v unew ∧ Below W.heap.size W w'
  check : ∀ (v : Value) (u : Un) (W : World), UnitAt W v u → u.cells.length ≤ topN → Calls Try.prog 10 #[.agg #[.int .i64 u.p, v]] W fun e w' => e = .returned (.int .i64 u.ck) ∧ Below W.heap.size W w'
  tail : ∀ (v : Value) (u : Un) (W : World), UnitAt W v u → u.cells.length ≤ topN → Calls Try.prog 14 #[.agg #[.int .i64 u.p, v]] W fun e w' => e = .returned (.int .i64 (tailOf u.cells)) ∧ Below W.heap.size W w'
  same : ∀ (v v' : Value) (u x : Un) (W : World), UnitAt W v u → UnitAt W v' x → u.cells.length ≤ topN → x.cells.length ≤ topN → Calls Try.prog 12 #[.agg #[.int .i64 u.p, v], .agg #[.int .i64 x.p, v']] W fun e w' => e = .returned (.bool (decide (u = x))) ∧ Below W.heap.size W w'
  next : ∀ (v : Value) (u : Un) (r : Rc) (W : World), UnitAt W v u → u.cells.length ≤ topN → AnsU 7 #[.agg #[.int .i64 u.p, v], r.val] W (unext u r)
  replay : ∀ (v : Value) (rs : List Rc) (W : World), RecSl W v rs → Roomy v → rs.length ≤ topN → AnsU 18 #[v] W (unitOf rs)

/-- All that is held, by a letter. -/
theorem by_letter {Q : World → Prop} {W : World} (q : Q W) (hQ : ∀ W W', Q W → Below W.heap.size W W' → Q W') : ∃ P : World → Prop, P W ∧ (∀ W W', P W → Below W.heap.size W W' → P W') ∧ (∀ W, P W → Q W) := ⟨Q, q, hQ, fun _ h => h⟩

theorem write_any (k : Int) (x : En) (w : World) :
    Calls Try.prog 31 #[.int .i64 k, ev x.k x.j x.v x.t x.c] w fun e w' => e = .returned (Rc.val ⟨1, k, 0, x⟩) ∧ Below w.heap.size w w' := by
  have HB : Aside (Below w.heap.size w ((w.alloc (boxE x.k x.j x.v x.t x.c)).alloc (boxRc ⟨1, k, 0, x⟩))) := grew (grew (Below.refl _ _) _) _
  go_enter Try.func31, Try.ntmps31
  go_wp2
  exact bodyPost_ret (v := Rc.val ⟨1, k, 0, x⟩) (by simp [results, Try.results31, go_sem]) rfl ⟨rfl, HB.out⟩

def s1 : Rc := ⟨1, 4, 0, e1⟩
def s2 : Rc := ⟨2, 0, 3, En.zero⟩
def s3 : Rc := ⟨1, 4, 0, En.zero⟩
def U3 : Un := ⟨3, (List.replicate 60 blankE).set 4 e1⟩
theorem st_of : unitOf [s1, s2] = (U3, 0) := by kernel_rfl
theorem st_twice : unext U3 s3 = (Un.zero, 6) := by kernel_rfl
theorem st_old : unext U3 s2 = (Un.zero, 8) := by kernel_rfl
theorem st_tail : tailOf U3.cells = 5 := by kernel_rfl
theorem st_tail0 : tailOf unew.cells = 0 := by kernel_rfl
theorem st_ck : U3.ck = 0 := by kernel_rfl
theorem st_at : U3.cells[4]? = some e1 := by kernel_rfl

/-- A unit's box, in a later world. -/
abbrev BoS (X W : World) (b : Nat) (s : Value) : Prop := Below X.heap.size X W ∧ W.cell? ⟨b, 0, none⟩ = some (.int .i64 3) ∧ W.cell? ⟨b, 1, none⟩ = some s
theorem boS_of {X W : World} {b : Nat} {s : Value} (h : X.heap[b]? = some (boxU 3 s)) (hb : Below X.heap.size X W) : BoS X W b s :=
  ⟨hb, cell_later hb (Joins.cell_of_block h 0), cell_later hb (Joins.cell_of_block h 1)⟩

theorem put_b (a b c : Int) (w : World) : Calls Try.prog 32 #[.int .i64 a, .int .i64 b, .int .i64 c] w fun e w' => e = .returned (ev 1 a b c 0) ∧ Below w.heap.size w w' :=
  (put_any a b c w).mono fun _ _ ⟨h1, h2⟩ => ⟨h1, by rw [h2]; exact grew (Below.refl _ _) _⟩

/-- What stood's guards read. -/
abbrev StS (P : World → Prop) (W : World) (b : Nat) (s : Value) (g o : Nat) : Prop := P W ∧ W.cell? ⟨b, 0, none⟩ = some (.int .i64 3) ∧ W.cell? ⟨b, 1, none⟩ = some s ∧ W.cell? ⟨g, o + 20, none⟩ = some (.int .i64 1) ∧ W.cell? ⟨g, o + 20 + 1, none⟩ = some (.int .i64 2) ∧ W.cell? ⟨g, o + 20 + 2, none⟩ = some (.int .i64 5) ∧ W.cell? ⟨g, o + 20 + 3, none⟩ = some (.int .i64 10) ∧ W.cell? ⟨g, o + 20 + 4, none⟩ = some (.int .i64 0)
theorem stS_step {P : World → Prop} (hP : ∀ W W', P W → Below W.heap.size W W' → P W') {W W' : World} {b : Nat} {s : Value} {g o : Nat} (h : StS P W b s g o) (hb : Below W.heap.size W W') : StS P W' b s g o :=
  ⟨hP _ _ h.1 hb, cell_later hb h.2.1, cell_later hb h.2.2.1, cell_later hb h.2.2.2.1, cell_later hb h.2.2.2.2.1, cell_later hb h.2.2.2.2.2.1, cell_later hb h.2.2.2.2.2.2.1, cell_later hb h.2.2.2.2.2.2.2⟩
theorem stS_P {P : World → Prop} {W : World} {b : Nat} {s : Value} {g o : Nat} (h : StS P W b s g o) : P W := h.1

set_option linter.unusedSimpArgs false in
set_option maxHeartbeats 4000000 in
set_option maxRecDepth 100000 in
theorem stood_any (hK : Units) (w : World) :
    Calls Try.prog 9 #[] w fun e w' => e = .returned (.bool true) ∧ Below w.heap.size w w' := by
  have k1 := fun v W h hr => hK.replay v [s1, s2] W h hr (by decide)
  rw [st_of] at k1
  have k2 := fun v W h => hK.next v U3 s3 W h (by decide)
  rw [st_twice] at k2
  replace k2 : ∀ v W, UnitAt W v U3 → AnsU 7 #[.agg #[.int .i64 3, v], Rc.val ⟨1, 4, 0, En.zero⟩] W (Un.zero, 6) := k2
  have k3 := fun v W h => hK.next v U3 s2 W h (by decide)
  rw [st_old] at k3
  replace k3 : ∀ v W, UnitAt W v U3 → AnsU 7 #[.agg #[.int .i64 3, v], Rc.val ⟨2, 0, 3, En.zero⟩] W (Un.zero, 8) := k3
  have k4 := fun v W h => hK.tail v U3 W h (by decide)
  rw [st_tail] at k4
  replace k4 : ∀ v W, UnitAt W v U3 → Calls Try.prog 14 #[.agg #[.int .i64 3, v]] W fun e w' => e = .returned (.int .i64 5) ∧ Below W.heap.size W w' := k4
  have k5 := fun v W h => hK.tail v unew W h (by decide)
  rw [st_tail0] at k5
  replace k5 : ∀ v W, UnitAt W v unew → Calls Try.prog 14 #[.agg #[.int .i64 1, v]] W fun e w' => e = .returned (.int .i64 0) ∧ Below W.heap.size W w' := k5
  have k6 := fun v W h => hK.check v U3 W h (by decide)
  rw [st_ck] at k6
  replace k6 : ∀ v W, UnitAt W v U3 → Calls Try.prog 10 #[.agg #[.int .i64 3, v]] W fun e w' => e = .returned (.int .i64 0) ∧ Below W.heap.size W w' := k6
  have k7 := hK.new
  have heq : ∀ W, (binOp .eql 26 (ev 1 2 5 10 0) (ev 1 2 5 10 0)).run Try.prog W = .ok (.bool true) W := fun W => eql_entry 1 2 5 10 0 1 2 5 10 0 W
  clear hK
  go_enter Try.func9, Try.ntmps9
  go_wp2_with fail
  refine (put_any _ _ _ _).mono ?_
  rintro e w0 ⟨rfl, hw0⟩
  have hb0 : Below w.heap.size w w0 := by rw [hw0]; exact grew (Below.refl _ _) _
  clear hw0
  go_wp2_with fail
  refine (write_any 4 e1 _).mono ?_
  rintro e w1 ⟨rfl, hb1⟩
  have hB1 := step_below1 hb0 hb1
  clear hb0 hb1
  go_wp2_with fail
  have HR0 : RecSl (w1.alloc (.cells #[.int .i64 1, .int .i64 4, .int .i64 0, .int .i64 1, .int .i64 2, .int .i64 5, .int .i64 10, .int .i64 0, .int .i64 2, .int .i64 0, .int .i64 3, .int .i64 0, .int .i64 0, .int .i64 0, .int .i64 0, .int .i64 0] 28)) (.slice (some ⟨w1.heap.size, 0, none⟩) 2 2) [s1, s2] := slOf_lit Rc.eight (xs := [s1, s2]) (heap_new _ _) rfl
  refine (k1 _ _ HR0 ⟨_, _, _, rfl, Nat.le_refl _⟩).mono ?_
  rintro e w2 ⟨v1, he, hU, hb2⟩
  change e = .returned (.tuple #[.agg #[.int .i64 3, v1], .int .i64 0]) at he
  subst he
  obtain ⟨g, o, c, rfl, hrow⟩ := SlOf.form (cs := En.cells) (k := 5) hU.ents (by decide)
  rw [show U3.cells.length = 60 from rfl] at hU ⊢
  have hB2 : Below w.heap.size w w2 := step_below1 (grew hB1 _) hb2
  have hB3 := grew hB2 (boxU 3 (.slice (some ⟨g, o, none⟩) 60 c))
  have hU3 := hU.later (grew (Below.refl w2.heap.size w2) (boxU 3 (.slice (some ⟨g, o, none⟩) 60 c)))
  have hx3 := heap_new w2 (boxU 3 (.slice (some ⟨g, o, none⟩) 60 c))
  have HB3 : Aside _ := hB3
  clear hb2 hB2 hB1 hU hrow HR0 hB3 k1
  go_upto_region 2 with fail
  generalize w2.alloc (boxU 3 (.slice (some ⟨g, o, none⟩) 60 c)) = X0 at *
  generalize w2.heap.size = ub at *
  -- MARK
  refine wp_region_held_drew (S := fun W' => BoS X0 W' ub (.slice (some ⟨g, o, none⟩) 60 c)) (by kernel_rfl) (boS_of hx3 (Below.refl _ X0).drew) (fun hHeld => ?_)
  refine wpAnyH_take (i := 0) (oi := ?oi0) (v := ?v0) ?hi0 ?hs0 ?hf0 ?hr0 ?hQ0 (Or.inl ⟨?hw0, ?hy0⟩) (by assumption) ?h0
  case hi0 => (simp only [List.getElem?_toArray, List.getElem?_cons_succ, List.getElem?_cons_zero]; rfl)
  case hs0 => kernel_rfl
  case hf0 => kernel_rfl
  case hr0 => kernel_rfl
  case hw0 => rfl
  case hy0 => (intro w0 hSw; (try dsimp only at hSw); go_simp; first | done | with_reducible rfl)
  case hQ0 => exact fun _ _ _ h => h
  try simp only [Act.put, List.setIfInBounds_toArray, List.set_cons_zero, List.set_cons_succ]
  refine wpAnyH_take (i := 1) (oi := ?oi1) (v := ?v1) ?hi1 ?hs1 ?hf1 ?hr1 ?hQ1 (Or.inl ⟨?hw1, ?hy1⟩) (by assumption) ?h1
  case hi1 => (simp only [List.getElem?_toArray, List.getElem?_cons_succ, List.getElem?_cons_zero]; rfl)
  case hs1 => kernel_rfl
  case hf1 => kernel_rfl
  case hr1 => kernel_rfl
  case hw1 => rfl
  case hy1 => (intro w0 hSw; (try dsimp only at hSw); go_simp; first | done | with_reducible rfl)
  case hQ1 => exact fun _ _ _ h => h
  try simp only [Act.put, List.setIfInBounds_toArray, List.set_cons_zero, List.set_cons_succ]
  refine wpAnyH_ready (rs := [2, 7]) (by kernel_rfl) (by simp) ?_
  refine AllReadyH.cons (o := ?o2p) ?hi2p ?step2p (AllReadyH.cons (o := ?o7p) ?hi7p ?step7p AllReadyH.nil)
  case hi2p => (simp only [List.getElem?_toArray, List.getElem?_cons_succ, List.getElem?_cons_zero]; rfl)
  case hi7p => (simp only [List.getElem?_toArray, List.getElem?_cons_succ, List.getElem?_cons_zero]; rfl)
  case step2p =>
    intro K hK
    go_simp
    refine (write_any 4 En.zero _).mono ?_
    rintro e y1 ⟨rfl, hb1⟩
    have hA1 : Aside (Below X0.heap.size X0 y1) := hHeld.1.trans (hb1.mono hHeld.1.size)
    refine hK.out _ _ (boS_of hx3 (hHeld.1.trans (hb1.mono hHeld.1.size))) (fun hHeld => ?_)
    clear hK K
    try simp only [Act.put, List.setIfInBounds_toArray, List.set_cons_zero, List.set_cons_succ]
    refine wpAnyH_ready (rs := [3, 7]) (by kernel_rfl) (by simp) ?_
    refine AllReadyH.cons (o := ?o3q) ?hi3q ?step3q (AllReadyH.cons (o := ?o7q) ?hi7q ?step7q AllReadyH.nil)
    case hi3q => (simp only [List.getElem?_toArray, List.getElem?_cons_succ, List.getElem?_cons_zero]; rfl)
    case hi7q => (simp only [List.getElem?_toArray, List.getElem?_cons_succ, List.getElem?_cons_zero]; rfl)
    case step3q =>
      intro K hK
      go_simp
      refine (k2 _ _ (hU3.later hHeld.1)).mono ?_
      rintro e y2 ⟨v2, he2, hn2, hb2⟩
      change e = .returned (.tuple #[.agg #[.int .i64 0, v2], .int .i64 6]) at he2
      subst he2
      obtain ⟨a2, c2, hv2, _⟩ := hn2.ents
      change v2 = .slice a2 0 c2 at hv2
      subst hv2
      have hA2 : Aside (Below X0.heap.size X0 y2) := hHeld.1.trans (hb2.mono hHeld.1.size)
      refine hK.out _ _ (boS_of hx3 (hHeld.1.trans (hb2.mono hHeld.1.size))) (fun hHeld => ?_)
      clear hK K
      try simp only [Act.put, List.setIfInBounds_toArray, List.set_cons_zero, List.set_cons_succ]
      refine wpAnyH_take (i := 4) (oi := ?oi4A) (v := ?v4A) ?hi4A ?hs4A ?hf4A ?hr4A ?hQ4A (Or.inl ⟨?hw4A, ?hy4A⟩) (by assumption) ?h4A
      case hi4A => (simp only [List.getElem?_toArray, List.getElem?_cons_succ, List.getElem?_cons_zero]; rfl)
      case hs4A => kernel_rfl
      case hf4A => kernel_rfl
      case hr4A => kernel_rfl
      case hw4A => rfl
      case hy4A => (intro w0 hSw; (try dsimp only at hSw); go_simp; first | done | with_reducible rfl)
      case hQ4A => exact fun _ _ _ h => h
      try simp only [Act.put, List.setIfInBounds_toArray, List.set_cons_zero, List.set_cons_succ]
      refine wpAnyH_take (i := 5) (oi := ?oi5A) (v := ?v5A) ?hi5A ?hs5A ?hf5A ?hr5A ?hQ5A (Or.inl ⟨?hw5A, ?hy5A⟩) (by assumption) ?h5A
      case hi5A => (simp only [List.getElem?_toArray, List.getElem?_cons_succ, List.getElem?_cons_zero]; rfl)
      case hs5A => kernel_rfl
      case hf5A => kernel_rfl
      case hr5A => kernel_rfl
      case hw5A => rfl
      case hy5A => (intro w0 hSw; (try dsimp only at hSw); go_simp; first | done | with_reducible rfl)
      case hQ5A => exact fun _ _ _ h => h
      try simp only [Act.put, List.setIfInBounds_toArray, List.set_cons_zero, List.set_cons_succ]
      refine wpAnyH_take (i := 6) (oi := ?oi6A) (v := ?v6A) ?hi6A ?hs6A ?hf6A ?hr6A ?hQ6A (Or.inl ⟨?hw6A, ?hy6A⟩) (by assumption) ?h6A
      case hi6A => (simp only [List.getElem?_toArray, List.getElem?_cons_succ, List.getElem?_cons_zero]; rfl)
      case hs6A => kernel_rfl
      case hf6A => kernel_rfl
      case hr6A => kernel_rfl
      case hw6A => rfl
      case hy6A => (intro w0 hSw; (try dsimp only at hSw); go_simp; first | done | with_reducible rfl)
      case hQ6A => exact fun _ _ _ h => h
      try simp only [Act.put, List.setIfInBounds_toArray, List.set_cons_zero, List.set_cons_succ]
      refine wpAnyH_ready (rs := [7]) (by kernel_rfl) (by simp) ?_
      refine AllReadyH.cons (o := ?o7A) ?hi7A ?step7A AllReadyH.nil
      case hi7A => (simp only [List.getElem?_toArray, List.getElem?_cons_succ, List.getElem?_cons_zero]; rfl)
      intro K hK
      go_simp
      refine hK.out _ _ (boS_of hx3 (grew hHeld.1 _)) (fun hHeld => ?_)
      clear hK K
      try simp only [Act.put, List.setIfInBounds_toArray, List.set_cons_zero, List.set_cons_succ]
      refine wpAnyH_ready (rs := [8]) (by kernel_rfl) (by simp) ?_
      refine AllReadyH.cons (o := ?o8A) ?hi8A ?step8A AllReadyH.nil
      case hi8A => (simp only [List.getElem?_toArray, List.getElem?_cons_succ, List.getElem?_cons_zero]; rfl)
      intro K hK
      go_simp
      refine hK.out _ _ (boS_of hx3 (grew hA2.out _)) (fun hHeld => ?_)
      clear hK K
      try simp only [Act.put, List.setIfInBounds_toArray, List.set_cons_zero, List.set_cons_succ]
      refine wpAnyH_take (i := 9) (oi := ?oi9A) (v := ?v9A) ?hi9A ?hs9A ?hf9A ?hr9A ?hQ9A (Or.inl ⟨?hw9A, ?hy9A⟩) (by assumption) ?h9A
      case hi9A => (simp only [List.getElem?_toArray, List.getElem?_cons_succ, List.getElem?_cons_zero]; rfl)
      case hs9A => kernel_rfl
      case hf9A => kernel_rfl
      case hr9A => kernel_rfl
      case hw9A => rfl
      case hy9A => (intro w0 hSw; (try dsimp only at hSw); go_simp; first | done | with_reducible rfl)
      case hQ9A => exact fun _ _ _ h => h
      try simp only [Act.put, List.setIfInBounds_toArray, List.set_cons_zero, List.set_cons_succ]
      refine wpAnyH_done (by kernel_rfl) ?_ _
      obtain ⟨V, hVe, hV⟩ := name_world (P := fun W' => BoS X0 W' ub (.slice (some ⟨g, o, none⟩) 60 c)) hHeld
      subst hVe
      clear hHeld
      have z0 := hV.2.1
      have z1 := hV.2.2
      go_wp2_with fail
      refine (k3 _ _ (hU3.later hV.1)).mono ?_
      rintro e w5 ⟨v5, he5, hn5, hb5⟩
      change e = .returned (.tuple #[.agg #[.int .i64 0, v5], .int .i64 8]) at he5
      subst he5
      obtain ⟨a5, c5, hv5, _⟩ := hn5.ents
      change v5 = .slice a5 0 c5 at hv5
      subst hv5
      have hB5 : Below X0.heap.size X0 (w5.alloc (boxU 0 (.slice a5 0 c5))) := grew (hV.1.trans (hb5.mono hV.1.size)) _
      have hU5 := hU3.later hB5
      have HBY : Aside (Below w.heap.size w (w5.alloc (boxU 0 (.slice a5 0 c5)))) := HB3.out.trans (hB5.mono HB3.out.size)
      have hbo := boS_of hx3 hB5
      clear hn5 hb5 hV z0 z1 hB5
      go_wp2_with fail
      generalize w5.alloc (boxU 0 (.slice a5 0 c5)) = Y at *
      have q4 := fun W (h : Below Y.heap.size Y W) => k4 _ W (hU5.later h)
      have q6 := fun W (h : Below Y.heap.size Y W) => k6 _ W (hU5.later h)
      obtain ⟨g', o', e', hrow⟩ := SlOf.at (cs := En.cells) (k := 5) hU5.ents (by decide)
      injection e' with e'
      injection e' with e1' e2' _
      subst e1' e2'
      have hS0 : StS (fun W => Below Y.heap.size Y W) Y ub (.slice (some ⟨g, o, none⟩) 60 c) g o := ⟨Below.refl _ _, hbo.2.1, hbo.2.2, hrow 4 e1 st_at 0 _ rfl, hrow 4 e1 st_at 1 _ rfl, hrow 4 e1 st_at 2 _ rfl, hrow 4 e1 st_at 3 _ rfl, hrow 4 e1 st_at 4 _ rfl⟩
      have hbd : Below Y.heap.size Y Y.drew := (Below.refl _ _).drew
      clear hrow hbo hU5 hU3 hx3 k2 k3 k4 k6
      go_region_held3 (fun w' => StS (fun W => Below Y.heap.size Y W) w' ub (.slice (some ⟨g, o, none⟩) 60 c) g o) (exact stS_step (fun _ _ h hb => h.trans (hb.mono h.size)) (by assumption) (by assumption)) (first | (go_at_call 32; refine (put_b _ _ _ _).mono ?_; rintro e x1 ⟨rfl, hx1⟩) | (go_at_call 16; refine (k7 _).mono ?_; rintro e x2 ⟨vn, rfl, hun, hx2⟩) | (go_at_call 14; (first | with_reducible refine (k5 _ _ (by assumption)).mono ?_ | with_reducible refine (q4 _ (stS_P (by assumption))).mono ?_); rintro e x3 ⟨rfl, hx3'⟩) | (go_at_call 10; refine (q6 _ (stS_P (by assumption))).mono ?_; rintro e x4 ⟨rfl, hx4⟩))
      all_goals
        rename_i hS
        have HBE : Aside (Below w.heap.size w _) := HBY.out.trans (hS.1.mono HBY.out.size)
        clear hS
        go_wp2
        go_ret
        exact ⟨rfl, HBE.out⟩
    case step7q =>
      intro K hK
      go_simp
      refine hK.out _ _ (boS_of hx3 (grew hHeld.1 _)) (fun hHeld => ?_)
      clear hK K
      try simp only [Act.put, List.setIfInBounds_toArray, List.set_cons_zero, List.set_cons_succ]
      refine wpAnyH_ready (rs := [3]) (by kernel_rfl) (by simp) ?_
      refine AllReadyH.cons (o := ?o3B) ?hi3B ?step3B AllReadyH.nil
      case hi3B => (simp only [List.getElem?_toArray, List.getElem?_cons_succ, List.getElem?_cons_zero]; rfl)
      intro K hK
      go_simp
      refine (k2 _ _ (hU3.later hHeld.1)).mono ?_
      rintro e y2 ⟨v2, he2, hn2, hb2⟩
      change e = .returned (.tuple #[.agg #[.int .i64 0, v2], .int .i64 6]) at he2
      subst he2
      obtain ⟨a2, c2, hv2, _⟩ := hn2.ents
      change v2 = .slice a2 0 c2 at hv2
      subst hv2
      have hA2 : Aside (Below X0.heap.size X0 y2) := hHeld.1.trans (hb2.mono hHeld.1.size)
      refine hK.out _ _ (boS_of hx3 (hHeld.1.trans (hb2.mono hHeld.1.size))) (fun hHeld => ?_)
      clear hK K
      try simp only [Act.put, List.setIfInBounds_toArray, List.set_cons_zero, List.set_cons_succ]
      have hZ : y2.heap[_]? = some (boxU 0 (.slice none 0 0)) := heap_below (heap_new y1 (boxU 0 (.slice none 0 0))) hb2 (heap_lt (heap_new y1 (boxU 0 (.slice none 0 0))))
      have yz := fun i => Joins.cell_of_block hZ i
      have yf := fun i => Joins.unfrozen_of_block hZ i
      refine wpAnyH_take (i := 4) (oi := ?oi4B) (v := ?v4B) ?hi4B ?hs4B ?hf4B ?hr4B ?hQ4B (Or.inl ⟨?hw4B, ?hy4B⟩) (by assumption) ?h4B
      case hi4B => (simp only [List.getElem?_toArray, List.getElem?_cons_succ, List.getElem?_cons_zero]; rfl)
      case hs4B => kernel_rfl
      case hf4B => kernel_rfl
      case hr4B => kernel_rfl
      case hw4B => rfl
      case hy4B => (intro w0 hSw; (try dsimp only at hSw); go_simp; first | done | with_reducible rfl)
      case hQ4B => exact fun _ _ _ h => h
      try simp only [Act.put, List.setIfInBounds_toArray, List.set_cons_zero, List.set_cons_succ]
      refine wpAnyH_take (i := 5) (oi := ?oi5B) (v := ?v5B) ?hi5B ?hs5B ?hf5B ?hr5B ?hQ5B (Or.inl ⟨?hw5B, ?hy5B⟩) (by assumption) ?h5B
      case hi5B => (simp only [List.getElem?_toArray, List.getElem?_cons_succ, List.getElem?_cons_zero]; rfl)
      case hs5B => kernel_rfl
      case hf5B => kernel_rfl
      case hr5B => kernel_rfl
      case hw5B => rfl
      case hy5B => (intro w0 hSw; (try dsimp only at hSw); go_simp; first | done | with_reducible rfl)
      case hQ5B => exact fun _ _ _ h => h
      try simp only [Act.put, List.setIfInBounds_toArray, List.set_cons_zero, List.set_cons_succ]
      refine wpAnyH_take (i := 6) (oi := ?oi6B) (v := ?v6B) ?hi6B ?hs6B ?hf6B ?hr6B ?hQ6B (Or.inl ⟨?hw6B, ?hy6B⟩) (by assumption) ?h6B
      case hi6B => (simp only [List.getElem?_toArray, List.getElem?_cons_succ, List.getElem?_cons_zero]; rfl)
      case hs6B => kernel_rfl
      case hf6B => kernel_rfl
      case hr6B => kernel_rfl
      case hw6B => rfl
      case hy6B => (intro w0 hSw; (try dsimp only at hSw); go_simp; first | done | with_reducible rfl)
      case hQ6B => exact fun _ _ _ h => h
      try simp only [Act.put, List.setIfInBounds_toArray, List.set_cons_zero, List.set_cons_succ]
      refine wpAnyH_ready (rs := [8]) (by kernel_rfl) (by simp) ?_
      refine AllReadyH.cons (o := ?o8B) ?hi8B ?step8B AllReadyH.nil
      case hi8B => (simp only [List.getElem?_toArray, List.getElem?_cons_succ, List.getElem?_cons_zero]; rfl)
      intro K hK
      go_simp
      refine hK.out _ _ (boS_of hx3 ((hHeld.1.setCell (p := ⟨y1.heap.size, 0, none⟩) (hA1.out.size) _).setCell (p := ⟨y1.heap.size, 1, none⟩) (hA1.out.size) _)) (fun hHeld => ?_)
      clear hK K
      try simp only [Act.put, List.setIfInBounds_toArray, List.set_cons_zero, List.set_cons_succ]
      refine wpAnyH_take (i := 9) (oi := ?oi9B) (v := ?v9B) ?hi9B ?hs9B ?hf9B ?hr9B ?hQ9B (Or.inl ⟨?hw9B, ?hy9B⟩) (by assumption) ?h9B
      case hi9B => (simp only [List.getElem?_toArray, List.getElem?_cons_succ, List.getElem?_cons_zero]; rfl)
      case hs9B => kernel_rfl
      case hf9B => kernel_rfl
      case hr9B => kernel_rfl
      case hw9B => rfl
      case hy9B => (intro w0 hSw; (try dsimp only at hSw); go_simp; first | done | with_reducible rfl)
      case hQ9B => exact fun _ _ _ h => h
      try simp only [Act.put, List.setIfInBounds_toArray, List.set_cons_zero, List.set_cons_succ]
      refine wpAnyH_done (by kernel_rfl) ?_ _
      obtain ⟨V, hVe, hV⟩ := name_world (P := fun W' => BoS X0 W' ub (.slice (some ⟨g, o, none⟩) 60 c)) hHeld
      subst hVe
      clear hHeld
      have z0 := hV.2.1
      have z1 := hV.2.2
      go_wp2_with fail
      refine (k3 _ _ (hU3.later hV.1)).mono ?_
      rintro e w5 ⟨v5, he5, hn5, hb5⟩
      change e = .returned (.tuple #[.agg #[.int .i64 0, v5], .int .i64 8]) at he5
      subst he5
      obtain ⟨a5, c5, hv5, _⟩ := hn5.ents
      change v5 = .slice a5 0 c5 at hv5
      subst hv5
      have hB5 : Below X0.heap.size X0 (w5.alloc (boxU 0 (.slice a5 0 c5))) := grew (hV.1.trans (hb5.mono hV.1.size)) _
      have hU5 := hU3.later hB5
      have HBY : Aside (Below w.heap.size w (w5.alloc (boxU 0 (.slice a5 0 c5)))) := HB3.out.trans (hB5.mono HB3.out.size)
      have hbo := boS_of hx3 hB5
      clear hn5 hb5 hV z0 z1 hB5
      go_wp2_with fail
      generalize w5.alloc (boxU 0 (.slice a5 0 c5)) = Y at *
      have q4 := fun W (h : Below Y.heap.size Y W) => k4 _ W (hU5.later h)
      have q6 := fun W (h : Below Y.heap.size Y W) => k6 _ W (hU5.later h)
      obtain ⟨g', o', e', hrow⟩ := SlOf.at (cs := En.cells) (k := 5) hU5.ents (by decide)
      injection e' with e'
      injection e' with e1' e2' _
      subst e1' e2'
      have hS0 : StS (fun W => Below Y.heap.size Y W) Y ub (.slice (some ⟨g, o, none⟩) 60 c) g o := ⟨Below.refl _ _, hbo.2.1, hbo.2.2, hrow 4 e1 st_at 0 _ rfl, hrow 4 e1 st_at 1 _ rfl, hrow 4 e1 st_at 2 _ rfl, hrow 4 e1 st_at 3 _ rfl, hrow 4 e1 st_at 4 _ rfl⟩
      have hbd : Below Y.heap.size Y Y.drew := (Below.refl _ _).drew
      clear hrow hbo hU5 hU3 hx3 k2 k3 k4 k6
      go_region_held3 (fun w' => StS (fun W => Below Y.heap.size Y W) w' ub (.slice (some ⟨g, o, none⟩) 60 c) g o) (exact stS_step (fun _ _ h hb => h.trans (hb.mono h.size)) (by assumption) (by assumption)) (first | (go_at_call 32; refine (put_b _ _ _ _).mono ?_; rintro e x1 ⟨rfl, hx1⟩) | (go_at_call 16; refine (k7 _).mono ?_; rintro e x2 ⟨vn, rfl, hun, hx2⟩) | (go_at_call 14; (first | with_reducible refine (k5 _ _ (by assumption)).mono ?_ | with_reducible refine (q4 _ (stS_P (by assumption))).mono ?_); rintro e x3 ⟨rfl, hx3'⟩) | (go_at_call 10; refine (q6 _ (stS_P (by assumption))).mono ?_; rintro e x4 ⟨rfl, hx4⟩))
      all_goals
        rename_i hS
        have HBE : Aside (Below w.heap.size w _) := HBY.out.trans (hS.1.mono HBY.out.size)
        clear hS
        go_wp2
        go_ret
        exact ⟨rfl, HBE.out⟩
  case step7p =>
    intro K hK
    go_simp
    refine hK.out _ _ (boS_of hx3 (grew hHeld.1 _)) (fun hHeld => ?_)
    clear hK K
    try simp only [Act.put, List.setIfInBounds_toArray, List.set_cons_zero, List.set_cons_succ]
    refine wpAnyH_ready (rs := [2]) (by kernel_rfl) (by simp) ?_
    refine AllReadyH.cons (o := ?o2C) ?hi2C ?step2C AllReadyH.nil
    case hi2C => (simp only [List.getElem?_toArray, List.getElem?_cons_succ, List.getElem?_cons_zero]; rfl)
    intro K hK
    go_simp
    refine (write_any 4 En.zero _).mono ?_
    rintro e y1 ⟨rfl, hb1⟩
    have hA1 : Aside (Below X0.heap.size X0 y1) := hHeld.1.trans (hb1.mono hHeld.1.size)
    refine hK.out _ _ (boS_of hx3 (hHeld.1.trans (hb1.mono hHeld.1.size))) (fun hHeld => ?_)
    clear hK K
    try simp only [Act.put, List.setIfInBounds_toArray, List.set_cons_zero, List.set_cons_succ]
    refine wpAnyH_ready (rs := [3]) (by kernel_rfl) (by simp) ?_
    refine AllReadyH.cons (o := ?o3C) ?hi3C ?step3C AllReadyH.nil
    case hi3C => (simp only [List.getElem?_toArray, List.getElem?_cons_succ, List.getElem?_cons_zero]; rfl)
    intro K hK
    go_simp
    refine (k2 _ _ (hU3.later hHeld.1)).mono ?_
    rintro e y2 ⟨v2, he2, hn2, hb2⟩
    change e = .returned (.tuple #[.agg #[.int .i64 0, v2], .int .i64 6]) at he2
    subst he2
    obtain ⟨a2, c2, hv2, _⟩ := hn2.ents
    change v2 = .slice a2 0 c2 at hv2
    subst hv2
    have hA2 : Aside (Below X0.heap.size X0 y2) := hHeld.1.trans (hb2.mono hHeld.1.size)
    refine hK.out _ _ (boS_of hx3 (hHeld.1.trans (hb2.mono hHeld.1.size))) (fun hHeld => ?_)
    clear hK K
    try simp only [Act.put, List.setIfInBounds_toArray, List.set_cons_zero, List.set_cons_succ]
    have hZ : y2.heap[X0.heap.size]? = some (boxU 0 (.slice none 0 0)) := heap_below (heap_below (heap_new X0.drew (boxU 0 (.slice none 0 0))) hb1 (heap_lt (heap_new X0.drew (boxU 0 (.slice none 0 0))))) hb2 (heap_lt (heap_below (heap_new X0.drew (boxU 0 (.slice none 0 0))) hb1 (heap_lt (heap_new X0.drew (boxU 0 (.slice none 0 0))))))
    have yz := fun i => Joins.cell_of_block hZ i
    have yf := fun i => Joins.unfrozen_of_block hZ i
    refine wpAnyH_take (i := 4) (oi := ?oi4C) (v := ?v4C) ?hi4C ?hs4C ?hf4C ?hr4C ?hQ4C (Or.inl ⟨?hw4C, ?hy4C⟩) (by assumption) ?h4C
    case hi4C => (simp only [List.getElem?_toArray, List.getElem?_cons_succ, List.getElem?_cons_zero]; rfl)
    case hs4C => kernel_rfl
    case hf4C => kernel_rfl
    case hr4C => kernel_rfl
    case hw4C => rfl
    case hy4C => (intro w0 hSw; (try dsimp only at hSw); go_simp; first | done | with_reducible rfl)
    case hQ4C => exact fun _ _ _ h => h
    try simp only [Act.put, List.setIfInBounds_toArray, List.set_cons_zero, List.set_cons_succ]
    refine wpAnyH_take (i := 5) (oi := ?oi5C) (v := ?v5C) ?hi5C ?hs5C ?hf5C ?hr5C ?hQ5C (Or.inl ⟨?hw5C, ?hy5C⟩) (by assumption) ?h5C
    case hi5C => (simp only [List.getElem?_toArray, List.getElem?_cons_succ, List.getElem?_cons_zero]; rfl)
    case hs5C => kernel_rfl
    case hf5C => kernel_rfl
    case hr5C => kernel_rfl
    case hw5C => rfl
    case hy5C => (intro w0 hSw; (try dsimp only at hSw); go_simp; first | done | with_reducible rfl)
    case hQ5C => exact fun _ _ _ h => h
    try simp only [Act.put, List.setIfInBounds_toArray, List.set_cons_zero, List.set_cons_succ]
    refine wpAnyH_take (i := 6) (oi := ?oi6C) (v := ?v6C) ?hi6C ?hs6C ?hf6C ?hr6C ?hQ6C (Or.inl ⟨?hw6C, ?hy6C⟩) (by assumption) ?h6C
    case hi6C => (simp only [List.getElem?_toArray, List.getElem?_cons_succ, List.getElem?_cons_zero]; rfl)
    case hs6C => kernel_rfl
    case hf6C => kernel_rfl
    case hr6C => kernel_rfl
    case hw6C => rfl
    case hy6C => (intro w0 hSw; (try dsimp only at hSw); go_simp; first | done | with_reducible rfl)
    case hQ6C => exact fun _ _ _ h => h
    try simp only [Act.put, List.setIfInBounds_toArray, List.set_cons_zero, List.set_cons_succ]
    refine wpAnyH_ready (rs := [8]) (by kernel_rfl) (by simp) ?_
    refine AllReadyH.cons (o := ?o8C) ?hi8C ?step8C AllReadyH.nil
    case hi8C => (simp only [List.getElem?_toArray, List.getElem?_cons_succ, List.getElem?_cons_zero]; rfl)
    intro K hK
    go_simp
    refine hK.out _ _ (boS_of hx3 ((hHeld.1.setCell (p := ⟨X0.heap.size, 0, none⟩) (Nat.le_refl _) _).setCell (p := ⟨X0.heap.size, 1, none⟩) (Nat.le_refl _) _)) (fun hHeld => ?_)
    clear hK K
    try simp only [Act.put, List.setIfInBounds_toArray, List.set_cons_zero, List.set_cons_succ]
    refine wpAnyH_take (i := 9) (oi := ?oi9C) (v := ?v9C) ?hi9C ?hs9C ?hf9C ?hr9C ?hQ9C (Or.inl ⟨?hw9C, ?hy9C⟩) (by assumption) ?h9C
    case hi9C => (simp only [List.getElem?_toArray, List.getElem?_cons_succ, List.getElem?_cons_zero]; rfl)
    case hs9C => kernel_rfl
    case hf9C => kernel_rfl
    case hr9C => kernel_rfl
    case hw9C => rfl
    case hy9C => (intro w0 hSw; (try dsimp only at hSw); go_simp; first | done | with_reducible rfl)
    case hQ9C => exact fun _ _ _ h => h
    try simp only [Act.put, List.setIfInBounds_toArray, List.set_cons_zero, List.set_cons_succ]
    refine wpAnyH_done (by kernel_rfl) ?_ _
    obtain ⟨V, hVe, hV⟩ := name_world (P := fun W' => BoS X0 W' ub (.slice (some ⟨g, o, none⟩) 60 c)) hHeld
    subst hVe
    clear hHeld
    have z0 := hV.2.1
    have z1 := hV.2.2
    go_wp2_with fail
    refine (k3 _ _ (hU3.later hV.1)).mono ?_
    rintro e w5 ⟨v5, he5, hn5, hb5⟩
    change e = .returned (.tuple #[.agg #[.int .i64 0, v5], .int .i64 8]) at he5
    subst he5
    obtain ⟨a5, c5, hv5, _⟩ := hn5.ents
    change v5 = .slice a5 0 c5 at hv5
    subst hv5
    have hB5 : Below X0.heap.size X0 (w5.alloc (boxU 0 (.slice a5 0 c5))) := grew (hV.1.trans (hb5.mono hV.1.size)) _
    have hU5 := hU3.later hB5
    have HBY : Aside (Below w.heap.size w (w5.alloc (boxU 0 (.slice a5 0 c5)))) := HB3.out.trans (hB5.mono HB3.out.size)
    have hbo := boS_of hx3 hB5
    clear hn5 hb5 hV z0 z1 hB5
    go_wp2_with fail
    generalize w5.alloc (boxU 0 (.slice a5 0 c5)) = Y at *
    have q4 := fun W (h : Below Y.heap.size Y W) => k4 _ W (hU5.later h)
    have q6 := fun W (h : Below Y.heap.size Y W) => k6 _ W (hU5.later h)
    obtain ⟨g', o', e', hrow⟩ := SlOf.at (cs := En.cells) (k := 5) hU5.ents (by decide)
    injection e' with e'
    injection e' with e1' e2' _
    subst e1' e2'
    have hS0 : StS (fun W => Below Y.heap.size Y W) Y ub (.slice (some ⟨g, o, none⟩) 60 c) g o := ⟨Below.refl _ _, hbo.2.1, hbo.2.2, hrow 4 e1 st_at 0 _ rfl, hrow 4 e1 st_at 1 _ rfl, hrow 4 e1 st_at 2 _ rfl, hrow 4 e1 st_at 3 _ rfl, hrow 4 e1 st_at 4 _ rfl⟩
    have hbd : Below Y.heap.size Y Y.drew := (Below.refl _ _).drew
    clear hrow hbo hU5 hU3 hx3 k2 k3 k4 k6
    go_region_held3 (fun w' => StS (fun W => Below Y.heap.size Y W) w' ub (.slice (some ⟨g, o, none⟩) 60 c) g o) (exact stS_step (fun _ _ h hb => h.trans (hb.mono h.size)) (by assumption) (by assumption)) (first | (go_at_call 32; refine (put_b _ _ _ _).mono ?_; rintro e x1 ⟨rfl, hx1⟩) | (go_at_call 16; refine (k7 _).mono ?_; rintro e x2 ⟨vn, rfl, hun, hx2⟩) | (go_at_call 14; (first | with_reducible refine (k5 _ _ (by assumption)).mono ?_ | with_reducible refine (q4 _ (stS_P (by assumption))).mono ?_); rintro e x3 ⟨rfl, hx3'⟩) | (go_at_call 10; refine (q6 _ (stS_P (by assumption))).mono ?_; rintro e x4 ⟨rfl, hx4⟩))
    all_goals
      rename_i hS
      have HBE : Aside (Below w.heap.size w _) := HBY.out.trans (hS.1.mono HBY.out.size)
      clear hS
      go_wp2
      go_ret
      exact ⟨rfl, HBE.out⟩

end Go.Proofs.Ytaialgacaomaead
