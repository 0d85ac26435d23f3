/- Chains of units in memory; the reference's Within, CheckChain, ReadAt. -/
import Derived.Test.YtaialgacaomaeadChainA
import Derived.Test.YtaialgacaomaeadUnitB
import Derived.Test.YtaialgacaomaeadUnitE
import Derived.Deep.CutBlock
import Derived.Deep.RegionHeld3
namespace Go.Proofs.Ytaialgacaomaead
open Go.RowKit
open scoped Classical

/-- A unit and the slice of its places. -/
structure Ub where (u : Un) (v : Value)

def Ub.cells (x : Ub) : List Value := [.int .i64 x.u.p, x.v]
theorem Ub.two (x : Ub) : x.cells.length = 2 := rfl
abbrev unitsOf (xs : List Ub) : List Un := xs.map Ub.u

/-- A slice of units. -/
structure ChAt (w : World) (v : Value) (xs : List Ub) : Prop where
  rows : SlOf Ub.cells 2 w v xs
  each : ∀ x, x ∈ xs → UnitAt w x.v x.u
  room : Roomy v

theorem ChAt.later {w w' : World} {v : Value} {xs : List Ub} (h : ChAt w v xs) (hb : Below w.heap.size w w') : ChAt w' v xs := ⟨h.rows.later hb, fun x hx => (h.each x hx).later hb, h.room⟩

/-- What Within reads of the place and of the unit ahead. -/
abbrev WiS (W w : World) (b g : Nat) (s : Value) (bv ov k : Nat) (x y : En) : Prop :=
  BeS W w b x ∧ w.cell? ⟨g, 1, none⟩ = some s ∧ w.cell? ⟨bv, ov + k * 5, none⟩ = some (.int .i64 y.k) ∧ w.cell? ⟨bv, ov + k * 5 + 1, none⟩ = some (.int .i64 y.j) ∧ w.cell? ⟨bv, ov + k * 5 + 2, none⟩ = some (.int .i64 y.v) ∧ w.cell? ⟨bv, ov + k * 5 + 3, none⟩ = some (.int .i64 y.t) ∧ w.cell? ⟨bv, ov + k * 5 + 4, none⟩ = some (.int .i64 y.c)
theorem wiS_step {W w w' : World} {b g : Nat} {s : Value} {bv ov k : Nat} {x y : En} (h : WiS W w b g s bv ov k x y) (hb : Below w.heap.size w w') : WiS W w' b g s bv ov k x y :=
  ⟨beS_step h.1 hb, cell_later hb h.2.1, cell_later hb h.2.2.1, cell_later hb h.2.2.2.1, cell_later hb h.2.2.2.2.1, cell_later hb h.2.2.2.2.2.1, cell_later hb h.2.2.2.2.2.2⟩

set_option linter.unusedSimpArgs false in
set_option maxHeartbeats 4000000 in
set_option maxRecDepth 100000 in
theorem ref_within (au aa : Option Addr) (cu ca : Nat) (p q : Int) (us ah : List En) (w : World) (hu : EntSl w (.slice au 60 cu) us) (ha : EntSl w (.slice aa 60 ca) ah) (lu : us.length = 60) (la : ah.length = 60) :
    Calls Try.prog 44 #[.agg #[.int .i64 p, .slice au 60 cu], .agg #[.int .i64 q, .slice aa 60 ca]] w fun e w' => e = .returned (.bool (decide (Within us ah))) ∧ Below w.heap.size w w' := by
  obtain ⟨bu, ou, rfl, hEu⟩ := SlOf.at (cs := En.cells) (k := 5) hu (by omega)
  obtain ⟨bv, ov, rfl, hEv⟩ := SlOf.at (cs := En.cells) (k := 5) ha (by omega)
  have HEu : Aside (RowAt En.cells 5 w bu ou us) := hEu
  have HEv : Aside (RowAt En.cells 5 w bv ov ah) := hEv
  have HL : Hid (us.length = 60 ∧ ah.length = 60) := ⟨lu, la⟩
  have HB0 : Aside (Below w.heap.size w ((w.alloc (boxU p (.slice (some ⟨bu, ou, none⟩) 60 cu))).alloc (boxU q (.slice (some ⟨bv, ov, none⟩) 60 ca)))) := grew (grew (Below.refl _ _) _) _
  have HX0 : Aside (((w.alloc (boxU p (.slice (some ⟨bu, ou, none⟩) 60 cu))).alloc (boxU q (.slice (some ⟨bv, ov, none⟩) 60 ca))).heap[w.heap.size + 1]? = some (boxU q (.slice (some ⟨bv, ov, none⟩) 60 ca))) := by
    have := heap_new (w.alloc (boxU p (.slice (some ⟨bu, ou, none⟩) 60 cu))) (boxU q (.slice (some ⟨bv, ov, none⟩) 60 ca))
    rwa [World.size_alloc] at this
  obtain ⟨bb, HBB⟩ : ∃ bb, Hid (decide (Within us ah) = bb) := ⟨_, rfl⟩
  rw [HBB.out]
  clear hu ha lu la hEu hEv
  go_enter Try.func44, Try.ntmps44
  go_wp2
  go_loopw [10] (fun i wr => ∃ k : Nat, k ≤ 60 ∧ i = .int .i64 k ∧ Below w.heap.size w wr ∧ wr.heap[w.heap.size + 1]? = some (boxU q (.slice (some ⟨bv, ov, none⟩) 60 ca)) ∧ Hid (∀ (j : Nat) (c : En), j < k → us[j]? = some c → c.isB = true ∨ ah[j]? = some c)) (fun i _ => 60 - (intOf i).toNat)
  case atStart => exact ⟨0, Nat.zero_le _, rfl, HB0.out, HX0.out, fun j c hj => absurd hj (Nat.not_lt_zero _)⟩
  case round =>
    clear HB0 HX0
    obtain ⟨k, hk, rfl, hB, hX, hst⟩ := hrel
    by_cases hlt : k < 60
    · obtain ⟨x, hx⟩ : ∃ x, us[k]? = some x := ⟨us[k]'(by have := HL.out.1; omega), List.getElem?_eq_getElem _⟩
      obtain ⟨y, hy⟩ : ∃ y, ah[k]? = some y := ⟨ah[k]'(by have := HL.out.2; omega), List.getElem?_eq_getElem _⟩
      have hE := RowAt.later HEu.out hB
      have c0 : wr.cell? ⟨bu, ou + k * 5, none⟩ = some (.int .i64 x.k) := hE k x hx 0 _ rfl
      have c1 : wr.cell? ⟨bu, ou + k * 5 + 1, none⟩ = some (.int .i64 x.j) := hE k x hx 1 _ rfl
      have c2 : wr.cell? ⟨bu, ou + k * 5 + 2, none⟩ = some (.int .i64 x.v) := hE k x hx 2 _ rfl
      have c3 : wr.cell? ⟨bu, ou + k * 5 + 3, none⟩ = some (.int .i64 x.t) := hE k x hx 3 _ rfl
      have c4 : wr.cell? ⟨bu, ou + k * 5 + 4, none⟩ = some (.int .i64 x.c) := hE k x hx 4 _ rfl
      have hB1 := grew hB (boxE x.k x.j x.v x.t x.c)
      have hF := RowAt.later HEv.out hB1
      have hX1 := heap_old hX (boxE x.k x.j x.v x.t x.c)
      have hS1 : WiS (wr.alloc (boxE x.k x.j x.v x.t x.c)) (wr.alloc (boxE x.k x.j x.v x.t x.c)) wr.heap.size (w.heap.size + 1) (.slice (some ⟨bv, ov, none⟩) 60 ca) bv ov k x y := ⟨beS_of (heap_new _ _), Joins.cell_of_block hX1 1, hF k y hy 0 _ rfl, hF k y hy 1 _ rfl, hF k y hy 2 _ rfl, hF k y hy 3 _ rfl, hF k y hy 4 _ rfl⟩
      have hn1 : ∀ W, (binOp .neq 26 (ev x.k x.j x.v x.t x.c) (ev 4 0 0 0 0)).run Try.prog W = .ok (.bool (!x.isB)) W := fun W => by
        rw [neq_entry x.k x.j x.v x.t x.c 4 0 0 0 0 W, En.isB, Bool.not_not]
      have hn2 := fun W => neq_entry x.k x.j x.v x.t x.c y.k y.j y.v y.t y.c W
      have HST : Hid (us[k]? = some x ∧ ah[k]? = some y ∧ ∀ (j : Nat) (c : En), j < k → us[j]? = some c → c.isB = true ∨ ah[j]? = some c) := ⟨hx, hy, hst.out⟩
      have nxt : Hid (x.isB = true ∨ ah[k]? = some x → ∀ (j : Nat) (c : En), j < k + 1 → us[j]? = some c → c.isB = true ∨ ah[j]? = some c) := fun h j c hj hc => by
        by_cases hjk : j < k
        · exact HST.out.2.2 j c hjk hc
        · obtain rfl : j = k := by omega
          obtain rfl := Option.some.inj (hc.symm.trans HST.out.1)
          exact h
      have HB1 : Aside _ := hB1
      have HX1 : Aside _ := hX1
      have hki : (k : Int) < 60 := by omega
      have hk0 : (0 : Int) ≤ (k : Int) := by omega
      clear hE hF hst hx hy hB hX hB1 hX1
      go_upto_region 4 with fail
      generalize wr.alloc (boxE x.k x.j x.v x.t x.c) = Z at *
      generalize wr.heap.size = cb at *
      have hbd : Below Z.heap.size Z Z.drew := (Below.refl _ _).drew
      clear c0 c1 c2 c3 c4
      cases hib : x.isB with
      | true =>
        rw [hib] at hn1
        have hN := nxt.out (Or.inl hib)
        have HN : Hid _ := hN
        have hS0 : BeS Z Z cb x := hS1.1
        clear nxt hib hN hS1 hn2
        have hnb : (!true) = false := rfl
        rw [hnb] at hn1
        clear hnb
        refine wp_region_held_drew (S := fun w' => BeS Z w' cb x) (by kernel_rfl) (beS_step hS0 hbd) (fun hHeld => ?_)
        refine wpAnyH_take (i := 0) (oi := ?oi0) (v := ?v0) ?hi0 ?hs0 ?hf0 ?hr0 ?hQ0 (Or.inl ⟨?hw0, ?hy0⟩) (by assumption) ?h0
        case hi0 => (simp only [List.getElem?_toArray, List.getElem?_cons_succ, List.getElem?_cons_zero]; rfl)
        case hs0 => kernel_rfl
        case hf0 => kernel_rfl
        case hr0 => kernel_rfl
        case hw0 => rfl
        case hy0 => (intro w0 hSw; (try dsimp only at hSw); go_simp; first | done | with_reducible rfl)
        case hQ0 => exact fun _ _ _ h => h
        try simp only [Act.put, List.setIfInBounds_toArray, List.set_cons_zero, List.set_cons_succ]
        refine wpAnyH_ready (rs := [1]) (by kernel_rfl) (by simp) ?_
        refine AllReadyH.cons (o := ?o1) ?hi1 ?step1 AllReadyH.nil
        case hi1 => (simp only [List.getElem?_toArray, List.getElem?_cons_succ, List.getElem?_cons_zero]; rfl)
        intro K hK
        go_simp
        refine (blank_any _).mono ?_
        rintro e y1 ⟨rfl, hb1⟩
        refine hK.out _ _ (beS_step hHeld hb1) (fun hHeld => ?_)
        clear hK K
        try simp only [Act.put, List.setIfInBounds_toArray, List.set_cons_zero, List.set_cons_succ]
        refine wpAnyH_take (i := 2) (oi := ?oi2) (v := ?v2) ?hi2 ?hs2 ?hf2 ?hr2 ?hQ2 (Or.inl ⟨?hw2, ?hy2⟩) (by assumption) ?h2
        case hi2 => (simp only [List.getElem?_toArray, List.getElem?_cons_succ, List.getElem?_cons_zero]; rfl)
        case hs2 => kernel_rfl
        case hf2 => kernel_rfl
        case hr2 => kernel_rfl
        case hw2 => rfl
        case hy2 => (intro w0 hSw; (try dsimp only at hSw); go_simp; first | done | with_reducible rfl)
        case hQ2 => exact fun _ _ _ h => h
        try simp only [Act.put, List.setIfInBounds_toArray, List.set_cons_zero, List.set_cons_succ]
        refine wpAnyH_take (i := 3) (oi := ?oi3) (v := ?v3) ?hi3 ?hs3 ?hf3 ?hr3 ?hQ3 (Or.inl ⟨?hw3, ?hy3⟩) (by assumption) ?h3
        case hi3 => (simp only [List.getElem?_toArray, List.getElem?_cons_succ, List.getElem?_cons_zero]; rfl)
        case hs3 => kernel_rfl
        case hf3 => kernel_rfl
        case hr3 => kernel_rfl
        case hw3 => rfl
        case hy3 => (intro w0 hSw; (try dsimp only at hSw); go_simp; first | done | with_reducible rfl)
        case hQ3 => exact fun _ _ _ h => h
        try simp only [Act.put, List.setIfInBounds_toArray, List.set_cons_zero, List.set_cons_succ]
        refine wpAnyH_take (i := 4) (oi := ?oi4) (v := undef) ?hi4 ?hs4 ?hf4 ?hr4 ?hQ4 (Or.inr ⟨?hw4, rfl⟩) (by assumption) ?h4
        case hi4 => (simp only [List.getElem?_toArray, List.getElem?_cons_succ, List.getElem?_cons_zero]; rfl)
        case hs4 => kernel_rfl
        case hf4 => kernel_rfl
        case hr4 => kernel_rfl
        case hw4 => rfl
        case hQ4 => exact fun _ _ _ h => h
        try simp only [Act.put, List.setIfInBounds_toArray, List.set_cons_zero, List.set_cons_succ]
        refine wpAnyH_take (i := 5) (oi := ?oi5) (v := undef) ?hi5 ?hs5 ?hf5 ?hr5 ?hQ5 (Or.inr ⟨?hw5, rfl⟩) (by assumption) ?h5
        case hi5 => (simp only [List.getElem?_toArray, List.getElem?_cons_succ, List.getElem?_cons_zero]; rfl)
        case hs5 => kernel_rfl
        case hf5 => kernel_rfl
        case hr5 => kernel_rfl
        case hw5 => rfl
        case hQ5 => exact fun _ _ _ h => h
        try simp only [Act.put, List.setIfInBounds_toArray, List.set_cons_zero, List.set_cons_succ]
        refine wpAnyH_take (i := 6) (oi := ?oi6) (v := undef) ?hi6 ?hs6 ?hf6 ?hr6 ?hQ6 (Or.inr ⟨?hw6, rfl⟩) (by assumption) ?h6
        case hi6 => (simp only [List.getElem?_toArray, List.getElem?_cons_succ, List.getElem?_cons_zero]; rfl)
        case hs6 => kernel_rfl
        case hf6 => kernel_rfl
        case hr6 => kernel_rfl
        case hw6 => rfl
        case hQ6 => exact fun _ _ _ h => h
        try simp only [Act.put, List.setIfInBounds_toArray, List.set_cons_zero, List.set_cons_succ]
        refine wpAnyH_take (i := 7) (oi := ?oi7) (v := undef) ?hi7 ?hs7 ?hf7 ?hr7 ?hQ7 (Or.inr ⟨?hw7, rfl⟩) (by assumption) ?h7
        case hi7 => (simp only [List.getElem?_toArray, List.getElem?_cons_succ, List.getElem?_cons_zero]; rfl)
        case hs7 => kernel_rfl
        case hf7 => kernel_rfl
        case hr7 => kernel_rfl
        case hw7 => rfl
        case hQ7 => exact fun _ _ _ h => h
        try simp only [Act.put, List.setIfInBounds_toArray, List.set_cons_zero, List.set_cons_succ]
        refine wpAnyH_take (i := 8) (oi := ?oi8) (v := undef) ?hi8 ?hs8 ?hf8 ?hr8 ?hQ8 (Or.inr ⟨?hw8, rfl⟩) (by assumption) ?h8
        case hi8 => (simp only [List.getElem?_toArray, List.getElem?_cons_succ, List.getElem?_cons_zero]; rfl)
        case hs8 => kernel_rfl
        case hf8 => kernel_rfl
        case hr8 => kernel_rfl
        case hw8 => rfl
        case hQ8 => exact fun _ _ _ h => h
        try simp only [Act.put, List.setIfInBounds_toArray, List.set_cons_zero, List.set_cons_succ]
        refine wpAnyH_take (i := 9) (oi := ?oi9) (v := undef) ?hi9 ?hs9 ?hf9 ?hr9 ?hQ9 (Or.inr ⟨?hw9, rfl⟩) (by assumption) ?h9
        case hi9 => (simp only [List.getElem?_toArray, List.getElem?_cons_succ, List.getElem?_cons_zero]; rfl)
        case hs9 => kernel_rfl
        case hf9 => kernel_rfl
        case hr9 => kernel_rfl
        case hw9 => rfl
        case hQ9 => exact fun _ _ _ h => h
        try simp only [Act.put, List.setIfInBounds_toArray, List.set_cons_zero, List.set_cons_succ]
        refine wpAnyH_take (i := 10) (oi := ?oi10) (v := undef) ?hi10 ?hs10 ?hf10 ?hr10 ?hQ10 (Or.inr ⟨?hw10, rfl⟩) (by assumption) ?h10
        case hi10 => (simp only [List.getElem?_toArray, List.getElem?_cons_succ, List.getElem?_cons_zero]; rfl)
        case hs10 => kernel_rfl
        case hf10 => kernel_rfl
        case hr10 => kernel_rfl
        case hw10 => rfl
        case hQ10 => exact fun _ _ _ h => h
        try simp only [Act.put, List.setIfInBounds_toArray, List.set_cons_zero, List.set_cons_succ]
        refine wpAnyH_take (i := 11) (oi := ?oi11) (v := ?v11) ?hi11 ?hs11 ?hf11 ?hr11 ?hQ11 (Or.inl ⟨?hw11, ?hy11⟩) (by assumption) ?h11
        case hi11 => (simp only [List.getElem?_toArray, List.getElem?_cons_succ, List.getElem?_cons_zero]; rfl)
        case hs11 => kernel_rfl
        case hf11 => kernel_rfl
        case hr11 => kernel_rfl
        case hw11 => rfl
        case hy11 => (intro w0 hSw; (try dsimp only at hSw); go_simp; first | done | with_reducible rfl)
        case hQ11 => exact fun _ _ _ h => h
        try simp only [Act.put, List.setIfInBounds_toArray, List.set_cons_zero, List.set_cons_succ]
        refine wpAnyH_done (by kernel_rfl) ?_ _
        have HBE : Aside (Below w.heap.size w y1) := HB1.out.trans (hHeld.1.mono HB1.out.size)
        have HXE : Aside _ := heap_below HX1.out hHeld.1 (heap_lt HX1.out)
        clear hHeld hb1 hS0 hbd
        go_wp2
        go_roundw
        case rel => exact ⟨k + 1, by omega, by go_num, HBE.out, HXE.out, HN⟩
        case measure => simp [intOf]; omega
      | false =>
        rw [hib] at hn1
        by_cases hxy : x = y
        · rw [show unlike x.k x.j x.v x.t x.c y.k y.j y.v y.t y.c = false by rw [hxy]; simp [unlike]] at hn2
          have HN : Hid _ := nxt.out (Or.inr (by rw [HST.out.2.1, hxy]))
          clear nxt hib hxy
          go_region_held3 (fun w' => WiS Z w' cb (w.heap.size + 1) (.slice (some ⟨bv, ov, none⟩) 60 ca) bv ov k x y) (exact wiS_step (by assumption) (by assumption)) (first | (go_at_call 30; refine (blank_any _).mono ?_; rintro e y1 ⟨rfl, hb1⟩))
          all_goals
            rename_i hS
            have HBE : Aside (Below w.heap.size w _) := HB1.out.trans (hS.1.1.mono HB1.out.size)
            have HXE : Aside _ := heap_below HX1.out hS.1.1 (heap_lt HX1.out)
            clear hS hS1 hbd
            go_wp2
            go_roundw
            case rel => exact ⟨k + 1, by omega, by go_num, HBE.out, HXE.out, HN⟩
            case measure => simp [intOf]; omega
        · rw [show unlike x.k x.j x.v x.t x.c y.k y.j y.v y.t y.c = true by rw [← Bool.not_eq_false]; exact fun h => hxy (en_eq h)] at hn2
          have HR : Hid (bb = false) := by
            rw [Hid, ← HBB.out, decide_eq_false]
            intro hw
            rcases hw k x HST.out.1 with h | h
            · rw [hib] at h; cases h
            · exact hxy (Option.some.inj (h.symm.trans HST.out.2.1))
          clear nxt hib hxy HBB
          go_region_held3 (fun w' => WiS Z w' cb (w.heap.size + 1) (.slice (some ⟨bv, ov, none⟩) 60 ca) bv ov k x y) (exact wiS_step (by assumption) (by assumption)) (first | (go_at_call 30; refine (blank_any _).mono ?_; rintro e y1 ⟨rfl, hb1⟩))
          all_goals
            rename_i hS
            have HBE : Aside (Below w.heap.size w _) := HB1.out.trans (hS.1.1.mono HB1.out.size)
            clear hS hS1 hbd
            go_wp2
            go_ret
            exact ⟨by rw [HR.out]; rfl, HBE.out⟩
    · have HR : Hid (bb = true) := by
        rw [Hid, ← HBB.out, decide_eq_true]
        exact fun j c hc => hst.out j c (by have := (List.getElem?_eq_some_iff.1 hc).1; have := HL.out.1; omega) hc
      obtain rfl : k = 60 := by omega
      clear hst HBB
      go_wp2
      go_ret
      exact ⟨by rw [HR.out]; rfl, hB⟩

end Go.Proofs.Ytaialgacaomaead
