/- What the laws on books ask of package book; the closed fact 'rung'. -/
import Derived.Test.YtbkockoekelkkaaBookH
namespace Go.Proofs.Ytbkockoekelkkaa
open Go.RowKit
open scoped Classical

/-- Package book's five functions, at every book, entry, slice of entries. -/
structure Books : Prop where
  check : ∀ (v1 v2 : Value) (js : List Jb) (rs : List Rg) (W : World), JobSl W v1 js → RungSl W v2 rs → js.length ≤ most → rs.length ≤ most →
    Calls Try.prog 9 #[.agg #[v1, v2]] W fun e w' => e = .returned (.int .i64 (ckBook js rs)) ∧ Below W.heap.size W w'
  find : ∀ (v1 v2 : Value) (js : List Jb) (rs : List Rg) (id : Int) (W : World), JobSl W v1 js → RungSl W v2 rs → js.length ≤ most → rs.length ≤ most →
    Calls Try.prog 13 #[.agg #[v1, v2], .int .i64 id] W fun e w' => e = .returned (.int .i64 (jobAt js id)) ∧ Below W.heap.size W w'
  same : ∀ (v1 v2 u1 u2 : Value) (js js' : List Jb) (rs rs' : List Rg) (W : World), JobSl W v1 js → RungSl W v2 rs → JobSl W u1 js' → RungSl W u2 rs' → js.length ≤ most → rs.length ≤ most → js'.length ≤ most → rs'.length ≤ most →
    Calls Try.prog 11 #[.agg #[v1, v2], .agg #[u1, u2]] W fun e w' => e = .returned (.bool (decide (js = js') && decide (rs = rs'))) ∧ Below W.heap.size W w'
  applyR : ∀ (v1 v2 : Value) (js : List Jb) (rs : List Rg) (x : En) (W : World), JobSl W v1 js → RungSl W v2 rs → js.length ≤ most → rs.length ≤ most →
    Calls Try.prog 6 #[.agg #[v1, v2], x.val] W fun e w' => ∃ u1 u2, e = .returned (.tuple #[.agg #[u1, u2], .int .i64 (app js rs x).2]) ∧ JobSl w' u1 (app js rs x).1.1 ∧ RungSl w' u2 (app js rs x).1.2 ∧ Below W.heap.size W w' ∧ Roomy u2
  replay : ∀ (v : Value) (es : List En) (W : World), EntSl W v es → es.length ≤ most → Answers 22 #[v] W (bookOf es)

theorem Books.apply (hK : Books) (v1 v2 : Value) (js : List Jb) (rs : List Rg) (x : En) (W : World) (g1 : JobSl W v1 js) (g2 : RungSl W v2 rs) (hn1 : js.length ≤ most) (hn2 : rs.length ≤ most) : Answers 6 #[.agg #[v1, v2], x.val] W (app js rs x) :=
  (hK.applyR v1 v2 js rs x W g1 g2 hn1 hn2).mono fun _ _ ⟨u1, u2, h1, h2, h3, h4, _⟩ => ⟨u1, u2, h1, h2, h3, h4⟩

theorem put_b (a b c : Int) (w : World) :
    Calls Try.prog 23 #[.int .i64 a, .int .i64 b, .int .i64 c] w fun e w' => e = .returned (ev 1 a b c 0) ∧ Below w.heap.size w w' := by
  go_enter Try.func23, Try.ntmps23
  go_wp2
  exact bodyPost_ret (v := ev 1 a b c 0) (by simp [results, Try.results23, go_sem]) rfl ⟨rfl, grew (Below.refl _ _) _⟩

theorem ring_b (a b c : Int) (w : World) :
    Calls Try.prog 24 #[.int .i64 a, .int .i64 b, .int .i64 c] w fun e w' => e = .returned (ev 3 a 0 b c) ∧ Below w.heap.size w w' := by
  go_enter Try.func24, Try.ntmps24
  go_wp2
  exact bodyPost_ret (v := ev 3 a 0 b c) (by simp [results, Try.results24, go_sem]) rfl ⟨rfl, grew (Below.refl _ _) _⟩

def six : List En := [⟨1, 2, 5, 10, 0⟩, ⟨3, 2, 0, 10, 1⟩, ⟨3, 2, 0, 10, 0⟩, ⟨3, 2, 0, 15, 0⟩, ⟨3, 3, 0, 1, 0⟩, ⟨1, 1, 7, 3, 0⟩]
def sixJ : List Jb := [⟨1, 7, 3⟩, ⟨2, 5, 20⟩]
def sixR : List Rg := [⟨2, 10, 1⟩, ⟨2, 15, 0⟩]
theorem six_book : bookOf six = ((sixJ, sixR), 0) := by kernel_rfl
theorem six_drop : app sixJ sixR ⟨2, 2, 0, 0, 0⟩ = (([⟨1, 7, 3⟩], sixR), 0) := by kernel_rfl
theorem six_find : jobAt sixJ 2 = 1 := by kernel_rfl
theorem six_lost : jobAt [⟨1, 7, 3⟩] 2 = -1 := by kernel_rfl

theorem step_below {w a b : World} (h : Below w.heap.size w a) (hb : Below a.heap.size a b) : Below w.heap.size w b := h.trans (hb.mono h.size)

set_option maxHeartbeats 4000000 in
theorem rung_any (hK : Books) (w : World) :
    Calls Try.prog 8 #[] w fun e w' => e = .returned (.bool true) ∧ Below w.heap.size w w' := by
  have hrep := fun v W hv => hK.replay v six W hv (by decide)
  rw [six_book] at hrep
  have happ := fun v1 v2 W g1 g2 => hK.apply v1 v2 sixJ sixR ⟨2, 2, 0, 0, 0⟩ W g1 g2 (by decide) (by decide)
  rw [six_drop] at happ
  have hf1 := fun v1 v2 W g1 g2 => hK.find v1 v2 sixJ sixR 2 W g1 g2 (by decide) (by decide)
  rw [six_find] at hf1
  have hf2 := fun v1 v2 W g1 g2 => hK.find v1 v2 [⟨1, 7, 3⟩] sixR 2 W g1 g2 (by decide) (by decide)
  rw [six_lost] at hf2
  have hsm := fun v1 v2 u1 u2 W g1 g2 g3 g4 => hK.same v1 v2 u1 u2 sixJ sixJ sixR sixR W g1 g2 g3 g4 (by decide) (by decide) (by decide) (by decide)
  rw [show (decide (sixJ = sixJ) && decide (sixR = sixR)) = true by simp] at hsm
  have hqJ := fun v1 v2 W g1 g2 => equalJ v1 v2 sixJ sixJ W g1 g2 (by decide)
  rw [show decide (sixJ = sixJ) = true by simp] at hqJ
  have hqR := fun v1 v2 W g1 g2 => equalR v1 v2 sixR sixR W g1 g2 (by decide)
  rw [show decide (sixR = sixR) = true by simp] at hqR
  clear hK
  go_enter Try.func8, Try.ntmps8
  go_wp2_with fail
  refine (put_b _ _ _ _).mono ?_
  rintro e w1 ⟨rfl, hb1⟩
  go_wp2_with fail
  refine (ring_b _ _ _ _).mono ?_
  rintro e w2 ⟨rfl, hb2⟩
  have hB2 := step_below hb1 hb2
  clear hb1 hb2
  go_wp2_with fail
  refine (ring_b _ _ _ _).mono ?_
  rintro e w3 ⟨rfl, hb3⟩
  have hB3 := step_below hB2 hb3
  clear hb3 hB2
  go_wp2_with fail
  refine (ring_b _ _ _ _).mono ?_
  rintro e w4 ⟨rfl, hb4⟩
  have hB4 := step_below hB3 hb4
  clear hb4 hB3
  go_wp2_with fail
  refine (ring_b _ _ _ _).mono ?_
  rintro e w5 ⟨rfl, hb5⟩
  have hB5 := step_below hB4 hb5
  clear hb5 hB4
  go_wp2_with fail
  refine (put_b _ _ _ _).mono ?_
  rintro e w6 ⟨rfl, hb6⟩
  have hB6 := step_below hB5 hb6
  clear hb6 hB5
  go_wp2_with fail
  refine (hrep _ _ (by exact slOf_lit (cs := En.cells) (k := 5) (fun _ => rfl) (xs := six) (heap_new _ _) rfl)).mono ?_
  rintro e w7 ⟨u1, u2, rfl, J7, R7, hb7⟩
  have hB7 := step_below (grew hB6 _) hb7
  obtain ⟨a1, c1, a2, c2, rfl, rfl⟩ := bk_slices J7 R7
  have s2 : sixJ.length = 2 := rfl
  have r2 : sixR.length = 2 := rfl
  rw [s2] at J7 ⊢
  rw [r2] at R7 ⊢
  clear hb7 hB6 hrep
  go_wp2_with fail
  have hB8 := grew hB7 (boxB (.slice a1 2 c1) (.slice a2 2 c2))
  have J8 := J7.later (grew (Below.refl _ _) (boxB (.slice a1 2 c1) (.slice a2 2 c2)))
  have R8 := R7.later (grew (Below.refl _ _) (boxB (.slice a1 2 c1) (.slice a2 2 c2)))
  refine (happ _ _ _ (by exact J8) (by exact R8)).mono ?_
  rintro e w9 ⟨t1, t2, rfl, K9, T9, hb9⟩
  have hB9 := step_below hB8 hb9
  have J9 := J8.later hb9
  have R9 := R8.later hb9
  have y9 : w9.heap[w7.heap.size]? = some (boxB (.slice a1 2 c1) (.slice a2 2 c2)) := heap_below (heap_new _ _) hb9 (by rw [World.size_alloc]; omega)
  obtain ⟨b1, d1, b2, d2, rfl, rfl⟩ := bk_slices K9 T9
  have s1 : ([⟨1, 7, 3⟩] : List Jb).length = 1 := rfl
  rw [s1] at K9 ⊢
  rw [r2] at T9 ⊢
  generalize w7.heap.size = bb at *
  clear hb9 happ J7 R7 J8 R8 hB7 hB8
  -- b lies in block bb, c in the next one
  have zz : ∀ i, w9.cell? ⟨bb, i, none⟩ = #[Value.slice a1 2 c1, .slice a2 2 c2][i]? := fun i => Joins.cell_of_block y9 i
  have hl9 : bb < w9.heap.size := heap_lt y9
  go_wp2_with fail
  have hlit : ((w9.alloc (boxB (.slice b1 1 d1) (.slice b2 2 d2))).alloc (.cells #[.int .i64 1, .int .i64 7, .int .i64 3, .int .i64 2, .int .i64 5, .int .i64 20] 42)).heap[w9.heap.size + 1]? = some (.cells #[.int .i64 1, .int .i64 7, .int .i64 3, .int .i64 2, .int .i64 5, .int .i64 20] 42) := by
    have := heap_new (w9.alloc (boxB (.slice b1 1 d1) (.slice b2 2 d2))) (.cells #[.int .i64 1, .int .i64 7, .int .i64 3, .int .i64 2, .int .i64 5, .int .i64 20] 42)
    rwa [World.size_alloc] at this
  have hg := grew (grew (Below.refl w9.heap.size w9) (boxB (.slice b1 1 d1) (.slice b2 2 d2))) (.cells #[.int .i64 1, .int .i64 7, .int .i64 3, .int .i64 2, .int .i64 5, .int .i64 20] 42)
  refine (hqJ _ _ _ (by exact J9.later hg) (by exact slOf_lit Jb.three (xs := sixJ) hlit rfl)).mono ?_
  rintro e wa ⟨rfl, hba⟩
  have hBa := step_below (step_below hB9 hg) hba
  have Ja := (J9.later hg).later hba
  have Ra := (R9.later hg).later hba
  have Ka := (K9.later hg).later hba
  have Ta := (T9.later hg).later hba
  have ya := heap_below (heap_below y9 hg hl9) hba (by rw [World.size_alloc, World.size_alloc]; omega)
  have xa : wa.heap[w9.heap.size]? = some (boxB (.slice b1 1 d1) (.slice b2 2 d2)) := heap_below (heap_old (heap_new _ _) _) hba (by rw [World.size_alloc, World.size_alloc]; omega)
  clear hlit hg hba J9 R9 K9 T9 y9 hB9 hqJ zz
  generalize w9.heap.size = cb at *
  have zb : ∀ i, wa.cell? ⟨bb, i, none⟩ = #[Value.slice a1 2 c1, .slice a2 2 c2][i]? := fun i => Joins.cell_of_block ya i
  go_wp2_with fail
  have hg := grew (Below.refl wa.heap.size wa) (.cells #[.int .i64 2, .int .i64 10, .int .i64 1, .int .i64 2, .int .i64 15, .int .i64 0] 45)
  refine (hqR _ _ _ (by exact Ra.later hg) (by exact slOf_lit Rg.three (xs := sixR) (heap_new _ _) rfl)).mono ?_
  rintro e wb ⟨rfl, hbb⟩
  have hBb := step_below (step_below hBa hg) hbb
  have Jb := (Ja.later hg).later hbb
  have Rb := (Ra.later hg).later hbb
  have Kb := (Ka.later hg).later hbb
  have Tb := (Ta.later hg).later hbb
  have yb := heap_below (heap_below ya hg (heap_lt ya)) hbb (by rw [World.size_alloc]; have := heap_lt ya; omega)
  have xb := heap_below (heap_below xa hg (heap_lt xa)) hbb (by rw [World.size_alloc]; have := heap_lt xa; omega)
  clear hg hbb Ja Ra Ka Ta ya xa hBa hqR zb
  have zb : ∀ i, wb.cell? ⟨bb, i, none⟩ = #[Value.slice a1 2 c1, .slice a2 2 c2][i]? := fun i => Joins.cell_of_block yb i
  have zc : ∀ i, wb.cell? ⟨cb, i, none⟩ = #[Value.slice b1 1 d1, .slice b2 2 d2][i]? := fun i => Joins.cell_of_block xb i
  go_wp2_with fail
  refine (hf1 _ _ _ (by exact Jb) (by exact Rb)).mono ?_
  rintro e wc ⟨rfl, hbc⟩
  have hBc := step_below hBb hbc
  have Jc := Jb.later hbc
  have Rc := Rb.later hbc
  have Kc := Kb.later hbc
  have Tc := Tb.later hbc
  have yc := heap_below yb hbc (heap_lt yb)
  have xc := heap_below xb hbc (heap_lt xb)
  clear hbc Jb Rb Kb Tb yb xb hBb hf1 zb zc
  have zb : ∀ i, wc.cell? ⟨bb, i, none⟩ = #[Value.slice a1 2 c1, .slice a2 2 c2][i]? := fun i => Joins.cell_of_block yc i
  have zc : ∀ i, wc.cell? ⟨cb, i, none⟩ = #[Value.slice b1 1 d1, .slice b2 2 d2][i]? := fun i => Joins.cell_of_block xc i
  go_wp2_with fail
  refine (hf2 _ _ _ (by exact Kc) (by exact Tc)).mono ?_
  rintro e wd ⟨rfl, hbd⟩
  have hBd := step_below hBc hbd
  have Jd := Jc.later hbd
  have Rd := Rc.later hbd
  have yd := heap_below yc hbd (heap_lt yc)
  clear hbd Jc Rc Kc Tc yc xc hBc hf2 zb zc
  have zb : ∀ i, wd.cell? ⟨bb, i, none⟩ = #[Value.slice a1 2 c1, .slice a2 2 c2][i]? := fun i => Joins.cell_of_block yd i
  go_wp2_with fail
  refine (hsm _ _ _ _ _ (by exact Jd) (by exact Rd) (by exact Jd) (by exact Rd)).mono ?_
  rintro e we ⟨rfl, hbe⟩
  have hBe := step_below hBd hbe
  clear hbe Jd Rd yd hBd hsm zb
  go_wp2
  go_ret
  exact ⟨rfl, hBe⟩

end Go.Proofs.Ytbkockoekelkkaa
