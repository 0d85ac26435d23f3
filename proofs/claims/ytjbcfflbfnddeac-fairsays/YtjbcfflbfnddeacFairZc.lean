/- Package fair: the walk of follow, at a ring that is not due. -/
import Derived.Test.YtjbcfflbfnddeacFairZb
namespace Go.Proofs.Ytjbcfflbfnddeac
open Go.RowKit Go.Shelf

set_option linter.unusedSimpArgs false in
set_option maxHeartbeats 800000 in
set_option maxRecDepth 100000 in
/-- fair.follow: a ring at another time. -/
theorem follow_late (w W : World) (v : Value) (m : Nat) (ls : List Lf) (x : En) (h : Lrw w W v m ls) (hm : m ≤ 60) (hxc : x.chk = 0) (h3 : x.k = 3) (kk : Nat) (y : Lf) (hl : lifeAt ls x.j = some kk) (hy : ls[kk]? = some y) (hq : y.f + y.e * y.r ≠ x.t) :
    Calls Try.prog 14 #[v, x.val] W fun e w' => ∃ v' m', e = .returned v' ∧ m' ≤ m + 1 ∧ Lrw w w' v' m' (lstep ls x) := by
  have H3 : Hid (x.k = 3) := h3
  clear h3
  have hX := En.right hxc
  have hnum := fun y hy => h.lok.nums y hy
  have hok' := lstep_ok h.lok hxc
  have hcur := fun W' hb => current_any v ls x.j W' (h.later hb).sl (by have := h.len; unfold most; omega)
  have HS0 : Aside (Lrw w (W.alloc (boxE x.k x.j x.v x.t x.c)) v m ls) := h.later (grew (Below.refl _ _) _)
  have hcur0 := hcur _ (grew (Below.refl _ _) (boxE x.k x.j x.v x.t x.c))
  have hXb : (W.alloc (boxE x.k x.j x.v x.t x.c)).heap[W.heap.size]? = some (boxE x.k x.j x.v x.t x.c) := heap_new _ _
  obtain ⟨a4, c4, rfl⟩ := owns_slice h.row
  obtain ⟨at0, hat⟩ : ∃ q, idx (Lf.of x.j) ls = q := ⟨_, rfl⟩
  rw [hat] at hcur0
  have hww := h.below.size
  have hlen := h.len
  clear hcur h
  go_enter Try.func14, Try.ntmps14
  go_wp2_with fail
  refine hcur0.mono ?_
  rintro e w1 ⟨rfl, hb1⟩
  have HS1 : Aside (Lrw w w1 (.slice a4 m c4) m ls) := HS0.out.later hb1
  have hX1 : w1.heap[W.heap.size]? = some (boxE x.k x.j x.v x.t x.c) := heap_below hXb hb1 (heap_lt hXb)
  have zX : ∀ i, w1.cell? ⟨W.heap.size, i, none⟩ = #[Value.int .i64 x.k, .int .i64 x.j, .int .i64 x.v, .int .i64 x.t, .int .i64 x.c][i]? := fun i => Joins.cell_of_block hX1 i
  have hlt1 := heap_lt hX1
  clear hcur0 hb1 HS0 hXb
  have h3 := H3.out
  have e : lstep ls x = ls := by
    rcases lstep_ways (ls := ls) hxc with ⟨g, _⟩ | ⟨_, _, g, _⟩ | ⟨kk', y', _, hl', hy', _, _, hc, _⟩ | ⟨e, _⟩
    · omega
    · omega
    · rw [hl] at hl'
      obtain rfl := Option.some.inj hl'
      rw [hy] at hy'
      obtain rfl := Option.some.inj hy'
      exact absurd (by omega) hq
    · exact e
  have HE : Hid _ := e
  have hkb1 : (x.k == 1) = false := by rw [h3]; rfl
  have hkb2 : (x.k == 2) = false := by rw [h3]; rfl
  have hkb3 : (x.k == 3) = true := by rw [h3]; rfl
  obtain rfl : at0 = kk := by rw [← hat]; exact idx_at hl
  have hkm : kk < m := by have := (List.getElem?_eq_some_iff.1 hy).1; omega
  have hk0 : (0 : Int) ≤ (kk : Int) := by omega
  have hkm' : (kk : Int) < (m : Int) := by omega
  have hkd : decide ((0 : Int) ≤ (kk : Int)) = true := decide_eq_true hk0
  obtain ⟨gg, cap, hv4, hgb, hgl⟩ := HS1.out.row.form (by omega)
  injection hv4 with ha4 _ hc4
  subst ha4 hc4
  have hcell : ∀ (f : Nat) (u : Value), y.cells[f]? = some u → w1.cell? ⟨gg, kk * 5 + f, none⟩ = some u := fun f u hu => by
    have hf5 : f < 5 := by have := (List.getElem?_eq_some_iff.1 hu).1; rwa [Lf.five] at this
    rw [HS1.out.row.cellAt (kk * 5 + f) (by omega)]
    exact row_flat Lf.five ls kk y hy f u hu
  have hny := hnum y (List.mem_of_getElem? hy)
  have hyr : y.r ≤ allR ls := life_le (fun u hu => (hnum u hu).2.2.2) (List.mem_of_getElem? hy)
  have hal := HS1.out.all
  have hp1 : 0 ≤ y.e * y.r := Int.mul_nonneg (by omega) (by omega)
  have hp2 : y.e * y.r ≤ 100 * 60 := Int.mul_le_mul (by omega) (by omega) (by omega) (by omega)
  have hnx := fun W' => next_any y W' ⟨by omega, by omega⟩ ⟨hp1, by omega⟩
  have hS0 : Sees w1 w1 W.heap.size gg kk x y := ⟨Below.refl _ _, zX 0, zX 3, hcell 0 _ rfl, hcell 1 _ rfl, hcell 2 _ rfl, hcell 3 _ rfl, hcell 4 _ rfl⟩
  obtain ⟨nx, hnxt⟩ : ∃ nx, y.f + y.e * y.r = nx := ⟨_, rfl⟩
  rw [hnxt] at hnx
  have hbd : Below w1.heap.size w1 w1.drew := (Below.refl _ _).drew
  rw [hnxt] at hq
  have hqb : (nx == x.t) = false := by rw [beq_eq_false_iff_ne]; exact hq
  clear hcell hX1 e hl hy h3 H3 hat hnum hok' hny hyr hp1 hp2 hlen hX zX hal hnxt hq hxc
  go_wp2_with fail
  refine wp_region_held_drew (S := fun w' => Sees w1 w' W.heap.size gg kk x y) (by kernel_rfl) (sees_step hS0 hbd) (fun hHeld => ?_)
  refine wpAnyH_take (i := 0) (oi := ?oi0) (v := ?v0) ?hi0 ?hs0 ?hf0 ?hr0 ?hQ0 (Or.inl ⟨?hw0, ?hy0⟩) (by assumption) ?h0
  case hi0 => (simp only [List.getElem?_toArray, List.getElem?_cons_succ, List.getElem?_cons_zero]; rfl)
  case hs0 => kernel_rfl
  case hf0 => kernel_rfl
  case hr0 => kernel_rfl
  case hw0 => rfl
  case hy0 => (intro w0 hSw; (try dsimp only at hSw); go_simp; first | done | with_reducible rfl)
  case hQ0 => exact fun _ _ _ h => h
  try simp only [Act.put, List.setIfInBounds_toArray, List.set_cons_zero, List.set_cons_succ]
  refine wpAnyH_take (i := 1) (oi := ?oi1) (v := ?v1) ?hi1 ?hs1 ?hf1 ?hr1 ?hQ1 (Or.inl ⟨?hw1, ?hy1⟩) (by assumption) ?h1
  case hi1 => (simp only [List.getElem?_toArray, List.getElem?_cons_succ, List.getElem?_cons_zero]; rfl)
  case hs1 => kernel_rfl
  case hf1 => kernel_rfl
  case hr1 => kernel_rfl
  case hw1 => rfl
  case hy1 => (intro w0 hSw; (try dsimp only at hSw); go_simp; first | done | with_reducible rfl)
  case hQ1 => exact fun _ _ _ h => h
  try simp only [Act.put, List.setIfInBounds_toArray, List.set_cons_zero, List.set_cons_succ]
  refine wpAnyH_take (i := 2) (oi := ?oi2) (v := ?v2) ?hi2 ?hs2 ?hf2 ?hr2 ?hQ2 (Or.inl ⟨?hw2, ?hy2⟩) (by assumption) ?h2
  case hi2 => (simp only [List.getElem?_toArray, List.getElem?_cons_succ, List.getElem?_cons_zero]; rfl)
  case hs2 => kernel_rfl
  case hf2 => kernel_rfl
  case hr2 => kernel_rfl
  case hw2 => rfl
  case hy2 => (intro w0 hSw; (try dsimp only at hSw); go_simp; first | done | with_reducible rfl)
  case hQ2 => exact fun _ _ _ h => h
  try simp only [Act.put, List.setIfInBounds_toArray, List.set_cons_zero, List.set_cons_succ]
  refine wpAnyH_take (i := 3) (oi := ?oi3) (v := ?v3) ?hi3 ?hs3 ?hf3 ?hr3 ?hQ3 (Or.inl ⟨?hw3, ?hy3⟩) (by assumption) ?h3
  case hi3 => (simp only [List.getElem?_toArray, List.getElem?_cons_succ, List.getElem?_cons_zero]; rfl)
  case hs3 => kernel_rfl
  case hf3 => kernel_rfl
  case hr3 => kernel_rfl
  case hw3 => rfl
  case hy3 => (intro w0 hSw; (try dsimp only at hSw); go_simp; first | done | with_reducible rfl)
  case hQ3 => exact fun _ _ _ h => h
  try simp only [Act.put, List.setIfInBounds_toArray, List.set_cons_zero, List.set_cons_succ]
  refine wpAnyH_take (i := 4) (oi := ?oi4) (v := ?v4) ?hi4 ?hs4 ?hf4 ?hr4 ?hQ4 (Or.inl ⟨?hw4, ?hy4⟩) (by assumption) ?h4
  case hi4 => (simp only [List.getElem?_toArray, List.getElem?_cons_succ, List.getElem?_cons_zero]; rfl)
  case hs4 => kernel_rfl
  case hf4 => kernel_rfl
  case hr4 => kernel_rfl
  case hw4 => rfl
  case hy4 => (intro w0 hSw; (try dsimp only at hSw); go_simp; first | done | with_reducible rfl)
  case hQ4 => exact fun _ _ _ h => h
  try simp only [Act.put, List.setIfInBounds_toArray, List.set_cons_zero, List.set_cons_succ]
  refine wpAnyH_take (i := 5) (oi := ?oi5) (v := ?v5) ?hi5 ?hs5 ?hf5 ?hr5 ?hQ5 (Or.inl ⟨?hw5, ?hy5⟩) (by assumption) ?h5
  case hi5 => (simp only [List.getElem?_toArray, List.getElem?_cons_succ, List.getElem?_cons_zero]; rfl)
  case hs5 => kernel_rfl
  case hf5 => kernel_rfl
  case hr5 => kernel_rfl
  case hw5 => rfl
  case hy5 => (intro w0 hSw; (try dsimp only at hSw); go_simp; first | done | with_reducible rfl)
  case hQ5 => exact fun _ _ _ h => h
  try simp only [Act.put, List.setIfInBounds_toArray, List.set_cons_zero, List.set_cons_succ]
  refine wpAnyH_take (i := 6) (oi := ?oi6) (v := ?v6) ?hi6 ?hs6 ?hf6 ?hr6 ?hQ6 (Or.inl ⟨?hw6, ?hy6⟩) (by assumption) ?h6
  case hi6 => (simp only [List.getElem?_toArray, List.getElem?_cons_succ, List.getElem?_cons_zero]; rfl)
  case hs6 => kernel_rfl
  case hf6 => kernel_rfl
  case hr6 => kernel_rfl
  case hw6 => rfl
  case hy6 => (intro w0 hSw; (try dsimp only at hSw); go_simp; first | done | with_reducible rfl)
  case hQ6 => exact fun _ _ _ h => h
  try simp only [Act.put, List.setIfInBounds_toArray, List.set_cons_zero, List.set_cons_succ]
  refine wpAnyH_take (i := 7) (oi := ?oi7) (v := ?v7) ?hi7 ?hs7 ?hf7 ?hr7 ?hQ7 (Or.inl ⟨?hw7, ?hy7⟩) (by assumption) ?h7
  case hi7 => (simp only [List.getElem?_toArray, List.getElem?_cons_succ, List.getElem?_cons_zero]; rfl)
  case hs7 => kernel_rfl
  case hf7 => kernel_rfl
  case hr7 => kernel_rfl
  case hw7 => rfl
  case hy7 => (intro w0 hSw; (try dsimp only at hSw); go_simp; first | done | with_reducible rfl)
  case hQ7 => exact fun _ _ _ h => h
  try simp only [Act.put, List.setIfInBounds_toArray, List.set_cons_zero, List.set_cons_succ]
  refine wpAnyH_take (i := 8) (oi := ?oi8) (v := ?v8) ?hi8 ?hs8 ?hf8 ?hr8 ?hQ8 (Or.inl ⟨?hw8, ?hy8⟩) (by assumption) ?h8
  case hi8 => (simp only [List.getElem?_toArray, List.getElem?_cons_succ, List.getElem?_cons_zero]; rfl)
  case hs8 => kernel_rfl
  case hf8 => kernel_rfl
  case hr8 => kernel_rfl
  case hw8 => rfl
  case hy8 => (intro w0 hSw; (try dsimp only at hSw); go_simp; first | done | with_reducible rfl)
  case hQ8 => exact fun _ _ _ h => h
  try simp only [Act.put, List.setIfInBounds_toArray, List.set_cons_zero, List.set_cons_succ]
  refine wpAnyH_take (i := 9) (oi := ?oi9) (v := ?v9) ?hi9 ?hs9 ?hf9 ?hr9 ?hQ9 (Or.inl ⟨?hw9, ?hy9⟩) (by assumption) ?h9
  case hi9 => (simp only [List.getElem?_toArray, List.getElem?_cons_succ, List.getElem?_cons_zero]; rfl)
  case hs9 => kernel_rfl
  case hf9 => kernel_rfl
  case hr9 => kernel_rfl
  case hw9 => rfl
  case hy9 => (intro w0 hSw; (try dsimp only at hSw); go_simp; first | done | with_reducible rfl)
  case hQ9 => exact fun _ _ _ h => h
  try simp only [Act.put, List.setIfInBounds_toArray, List.set_cons_zero, List.set_cons_succ]
  refine wpAnyH_take (i := 10) (oi := ?oi10) (v := ?v10) ?hi10 ?hs10 ?hf10 ?hr10 ?hQ10 (Or.inl ⟨?hw10, ?hy10⟩) (by assumption) ?h10
  case hi10 => (simp only [List.getElem?_toArray, List.getElem?_cons_succ, List.getElem?_cons_zero]; rfl)
  case hs10 => kernel_rfl
  case hf10 => kernel_rfl
  case hr10 => kernel_rfl
  case hw10 => rfl
  case hy10 => (intro w0 hSw; (try dsimp only at hSw); go_simp; first | done | with_reducible rfl)
  case hQ10 => exact fun _ _ _ h => h
  try simp only [Act.put, List.setIfInBounds_toArray, List.set_cons_zero, List.set_cons_succ]
  refine wpAnyH_take (i := 11) (oi := ?oi11) (v := ?v11) ?hi11 ?hs11 ?hf11 ?hr11 ?hQ11 (Or.inl ⟨?hw11, ?hy11⟩) (by assumption) ?h11
  case hi11 => (simp only [List.getElem?_toArray, List.getElem?_cons_succ, List.getElem?_cons_zero]; rfl)
  case hs11 => kernel_rfl
  case hf11 => kernel_rfl
  case hr11 => kernel_rfl
  case hw11 => rfl
  case hy11 => (intro w0 hSw; (try dsimp only at hSw); go_simp; first | done | with_reducible rfl)
  case hQ11 => exact fun _ _ _ h => h
  try simp only [Act.put, List.setIfInBounds_toArray, List.set_cons_zero, List.set_cons_succ]
  refine wpAnyH_take (i := 13) (oi := ?oi13) (v := ?v13) ?hi13 ?hs13 ?hf13 ?hr13 ?hQ13 (Or.inl ⟨?hw13, ?hy13⟩) (by assumption) ?h13
  case hi13 => (simp only [List.getElem?_toArray, List.getElem?_cons_succ, List.getElem?_cons_zero]; rfl)
  case hs13 => kernel_rfl
  case hf13 => kernel_rfl
  case hr13 => kernel_rfl
  case hw13 => rfl
  case hy13 => (intro w0 hSw; (try dsimp only at hSw); go_simp; first | done | with_reducible rfl)
  case hQ13 => exact fun _ _ _ h => h
  try simp only [Act.put, List.setIfInBounds_toArray, List.set_cons_zero, List.set_cons_succ]
  refine wpAnyH_take (i := 14) (oi := ?oi14) (v := ?v14) ?hi14 ?hs14 ?hf14 ?hr14 ?hQ14 (Or.inl ⟨?hw14, ?hy14⟩) (by assumption) ?h14
  case hi14 => (simp only [List.getElem?_toArray, List.getElem?_cons_succ, List.getElem?_cons_zero]; rfl)
  case hs14 => kernel_rfl
  case hf14 => kernel_rfl
  case hr14 => kernel_rfl
  case hw14 => rfl
  case hy14 => (intro w0 hSw; (try dsimp only at hSw); go_simp; first | done | with_reducible rfl)
  case hQ14 => exact fun _ _ _ h => h
  try simp only [Act.put, List.setIfInBounds_toArray, List.set_cons_zero, List.set_cons_succ]
  refine wpAnyH_ready (rs := [12]) (by kernel_rfl) (by simp) ?_
  refine AllReadyH.cons (o := ?o12) ?hi12 ?step12 AllReadyH.nil
  case hi12 => (simp only [List.getElem?_toArray, List.getElem?_cons_succ, List.getElem?_cons_zero]; rfl)
  intro K hK
  go_simp
  refine (hnx _).mono ?_
  rintro e w2 ⟨rfl, hb2⟩
  refine hK.out _ _ (sees_step hHeld hb2) (fun hHeld => ?_)
  clear hK K
  try simp only [Act.put, List.setIfInBounds_toArray, List.set_cons_zero, List.set_cons_succ]
  refine wpAnyH_take (i := 15) (oi := ?oi15) (v := ?v15) ?hi15 ?hs15 ?hf15 ?hr15 ?hQ15 (Or.inl ⟨?hw15, ?hy15⟩) (by assumption) ?h15
  case hi15 => (simp only [List.getElem?_toArray, List.getElem?_cons_succ, List.getElem?_cons_zero]; rfl)
  case hs15 => kernel_rfl
  case hf15 => kernel_rfl
  case hr15 => kernel_rfl
  case hw15 => rfl
  case hy15 => (intro w0 hSw; (try dsimp only at hSw); go_simp; first | done | with_reducible rfl)
  case hQ15 => exact fun _ _ _ h => h
  try simp only [Act.put, List.setIfInBounds_toArray, List.set_cons_zero, List.set_cons_succ]
  refine wpAnyH_take (i := 16) (oi := ?oi16) (v := ?v16) ?hi16 ?hs16 ?hf16 ?hr16 ?hQ16 (Or.inl ⟨?hw16, ?hy16⟩) (by assumption) ?h16
  case hi16 => (simp only [List.getElem?_toArray, List.getElem?_cons_succ, List.getElem?_cons_zero]; rfl)
  case hs16 => kernel_rfl
  case hf16 => kernel_rfl
  case hr16 => kernel_rfl
  case hw16 => rfl
  case hy16 => (intro w0 hSw; (try dsimp only at hSw); go_simp; first | done | with_reducible rfl)
  case hQ16 => exact fun _ _ _ h => h
  try simp only [Act.put, List.setIfInBounds_toArray, List.set_cons_zero, List.set_cons_succ]
  refine wpAnyH_take (i := 17) (oi := ?oi17) (v := ?v17) ?hi17 ?hs17 ?hf17 ?hr17 ?hQ17 (Or.inl ⟨?hw17, ?hy17⟩) (by assumption) ?h17
  case hi17 => (simp only [List.getElem?_toArray, List.getElem?_cons_succ, List.getElem?_cons_zero]; rfl)
  case hs17 => kernel_rfl
  case hf17 => kernel_rfl
  case hr17 => kernel_rfl
  case hw17 => rfl
  case hy17 => (intro w0 hSw; (try dsimp only at hSw); go_simp; first | done | with_reducible rfl)
  case hQ17 => exact fun _ _ _ h => h
  try simp only [Act.put, List.setIfInBounds_toArray, List.set_cons_zero, List.set_cons_succ]
  refine wpAnyH_take (i := 18) (oi := ?oi18) (v := undef) ?hi18 ?hs18 ?hf18 ?hr18 ?hQ18 (Or.inr ⟨?hw18, rfl⟩) (by assumption) ?h18
  case hi18 => (simp only [List.getElem?_toArray, List.getElem?_cons_succ, List.getElem?_cons_zero]; rfl)
  case hs18 => kernel_rfl
  case hf18 => kernel_rfl
  case hr18 => kernel_rfl
  case hw18 => rfl
  case hQ18 => exact fun _ _ _ h => h
  try simp only [Act.put, List.setIfInBounds_toArray, List.set_cons_zero, List.set_cons_succ]
  refine wpAnyH_take (i := 19) (oi := ?oi19) (v := undef) ?hi19 ?hs19 ?hf19 ?hr19 ?hQ19 (Or.inr ⟨?hw19, rfl⟩) (by assumption) ?h19
  case hi19 => (simp only [List.getElem?_toArray, List.getElem?_cons_succ, List.getElem?_cons_zero]; rfl)
  case hs19 => kernel_rfl
  case hf19 => kernel_rfl
  case hr19 => kernel_rfl
  case hw19 => rfl
  case hQ19 => exact fun _ _ _ h => h
  try simp only [Act.put, List.setIfInBounds_toArray, List.set_cons_zero, List.set_cons_succ]
  refine wpAnyH_take (i := 20) (oi := ?oi20) (v := undef) ?hi20 ?hs20 ?hf20 ?hr20 ?hQ20 (Or.inr ⟨?hw20, rfl⟩) (by assumption) ?h20
  case hi20 => (simp only [List.getElem?_toArray, List.getElem?_cons_succ, List.getElem?_cons_zero]; rfl)
  case hs20 => kernel_rfl
  case hf20 => kernel_rfl
  case hr20 => kernel_rfl
  case hw20 => rfl
  case hQ20 => exact fun _ _ _ h => h
  try simp only [Act.put, List.setIfInBounds_toArray, List.set_cons_zero, List.set_cons_succ]
  refine wpAnyH_take (i := 21) (oi := ?oi21) (v := ?v21) ?hi21 ?hs21 ?hf21 ?hr21 ?hQ21 (Or.inl ⟨?hw21, ?hy21⟩) (by assumption) ?h21
  case hi21 => (simp only [List.getElem?_toArray, List.getElem?_cons_succ, List.getElem?_cons_zero]; rfl)
  case hs21 => kernel_rfl
  case hf21 => kernel_rfl
  case hr21 => kernel_rfl
  case hw21 => rfl
  case hy21 => (intro w0 hSw; (try dsimp only at hSw); go_simp; first | done | with_reducible rfl)
  case hQ21 => exact fun _ _ _ h => h
  try simp only [Act.put, List.setIfInBounds_toArray, List.set_cons_zero, List.set_cons_succ]
  refine wpAnyH_take (i := 22) (oi := ?oi22) (v := ?v22) ?hi22 ?hs22 ?hf22 ?hr22 ?hQ22 (Or.inl ⟨?hw22, ?hy22⟩) (by assumption) ?h22
  case hi22 => (simp only [List.getElem?_toArray, List.getElem?_cons_succ, List.getElem?_cons_zero]; rfl)
  case hs22 => kernel_rfl
  case hf22 => kernel_rfl
  case hr22 => kernel_rfl
  case hw22 => rfl
  case hy22 => (intro w0 hSw; (try dsimp only at hSw); go_simp; first | done | with_reducible rfl)
  case hQ22 => exact fun _ _ _ h => h
  try simp only [Act.put, List.setIfInBounds_toArray, List.set_cons_zero, List.set_cons_succ]
  refine wpAnyH_done (by kernel_rfl) ?_ _
  have hS3 : Aside _ := HS1.out.later hHeld.1
  clear HS1 hHeld hnx hS0 hbd
  go_wp2
  go_ret
  exact ⟨_, m, rfl, by omega, by rw [HE.out]; exact hS3.out⟩

end Go.Proofs.Ytjbcfflbfnddeac
