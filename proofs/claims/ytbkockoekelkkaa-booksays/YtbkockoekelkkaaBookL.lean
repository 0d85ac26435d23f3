/- The walks of the laws BookReplays and BookSays, under package book's contracts. -/
import Derived.Test.YtbkockoekelkkaaBookK
import Derived.Deep.RegionHeld3
namespace Go.Proofs.Ytbkockoekelkkaa
open Go.RowKit
open scoped Classical

theorem true_same (js : List Jb) (rs : List Rg) : (decide (js = js) && decide (rs = rs)) = true := by simp

/-- What region 3 of BookSays reads, and what its calls ask. -/
structure Held (w W : World) (b0 b1 b2 b3 : Nat) (v1 v2 u1 u2 s1 s2 t1 t2 : Value) (js js' : List Jb) (rs rs' : List Rg) (jr : List Jb) (rr : List Rg) : Prop where
  h0 : W.heap[b0]? = some (boxB v1 v2)
  h1 : W.heap[b1]? = some (boxB u1 u2)
  h2 : W.heap[b2]? = some (boxB s1 s2)
  h3 : W.heap[b3]? = some (boxB t1 t2)
  j : JobSl W v1 js
  r : RungSl W v2 rs
  j' : JobSl W u1 js'
  r' : RungSl W u2 rs'
  ja : JobSl W s1 jr
  ra : RungSl W s2 rr
  jb : JobSl W t1 jr
  rb : RungSl W t2 rr
  below : Below w.heap.size w W

theorem Held.later {w W W' : World} {b0 b1 b2 b3 : Nat} {v1 v2 u1 u2 s1 s2 t1 t2 : Value} {js js' : List Jb} {rs rs' : List Rg} {jr : List Jb} {rr : List Rg}
    (h : Held w W b0 b1 b2 b3 v1 v2 u1 u2 s1 s2 t1 t2 js js' rs rs' jr rr) (hb : Below W.heap.size W W') : Held w W' b0 b1 b2 b3 v1 v2 u1 u2 s1 s2 t1 t2 js js' rs rs' jr rr :=
  ⟨heap_below h.h0 hb (heap_lt h.h0), heap_below h.h1 hb (heap_lt h.h1), heap_below h.h2 hb (heap_lt h.h2), heap_below h.h3 hb (heap_lt h.h3), h.j.later hb, h.r.later hb, h.j'.later hb, h.r'.later hb, h.ja.later hb, h.ra.later hb, h.jb.later hb, h.rb.later hb, step_below h.below hb⟩

/-- What is held at the region, cell by cell. -/
abbrev HeldC (w W : World) (b0 b1 b2 b3 : Nat) (v1 v2 u1 u2 s1 s2 t1 t2 : Value) (js js' : List Jb) (rs rs' : List Rg) (jr : List Jb) (rr : List Rg) : Prop :=
  Held w W b0 b1 b2 b3 v1 v2 u1 u2 s1 s2 t1 t2 js js' rs rs' jr rr ∧ W.cell? ⟨b0, 0, none⟩ = some v1 ∧ W.cell? ⟨b0, 1, none⟩ = some v2 ∧ W.cell? ⟨b1, 0, none⟩ = some u1 ∧ W.cell? ⟨b1, 1, none⟩ = some u2 ∧
    W.cell? ⟨b2, 0, none⟩ = some s1 ∧ W.cell? ⟨b2, 1, none⟩ = some s2 ∧ W.cell? ⟨b3, 0, none⟩ = some t1 ∧ W.cell? ⟨b3, 1, none⟩ = some t2

theorem Held.cells {w W : World} {b0 b1 b2 b3 : Nat} {v1 v2 u1 u2 s1 s2 t1 t2 : Value} {js js' : List Jb} {rs rs' : List Rg} {jr : List Jb} {rr : List Rg}
    (h : Held w W b0 b1 b2 b3 v1 v2 u1 u2 s1 s2 t1 t2 js js' rs rs' jr rr) : HeldC w W b0 b1 b2 b3 v1 v2 u1 u2 s1 s2 t1 t2 js js' rs rs' jr rr :=
  ⟨h, by rw [Joins.cell_of_block h.h0]; rfl, by rw [Joins.cell_of_block h.h0]; rfl, by rw [Joins.cell_of_block h.h1]; rfl, by rw [Joins.cell_of_block h.h1]; rfl,
    by rw [Joins.cell_of_block h.h2]; rfl, by rw [Joins.cell_of_block h.h2]; rfl, by rw [Joins.cell_of_block h.h3]; rfl, by rw [Joins.cell_of_block h.h3]; rfl⟩

theorem heldC_step {w W W' : World} {b0 b1 b2 b3 : Nat} {v1 v2 u1 u2 s1 s2 t1 t2 : Value} {js js' : List Jb} {rs rs' : List Rg} {jr : List Jb} {rr : List Rg}
    (h : HeldC w W b0 b1 b2 b3 v1 v2 u1 u2 s1 s2 t1 t2 js js' rs rs' jr rr) (hb : Below W.heap.size W W') : HeldC w W' b0 b1 b2 b3 v1 v2 u1 u2 s1 s2 t1 t2 js js' rs rs' jr rr := (h.1.later hb).cells

set_option maxHeartbeats 8000000 in
theorem bookSays_any (hK : Books) (v1 v2 u1 u2 : Value) (js js' : List Jb) (rs rs' : List Rg) (x : En) (id : Int) (w : World) (h1 : JobSl w v1 js) (h2 : RungSl w v2 rs) (k1 : JobSl w u1 js') (k2 : RungSl w u2 rs')
    (hn1 : js.length ≤ most) (hn2 : rs.length ≤ most) (hm1 : js'.length ≤ most) (hm2 : rs'.length ≤ most) :
    Calls Try.prog 4 #[.agg #[v1, v2], x.val, .agg #[u1, u2], .int .i64 id] w fun e w' => e = .returned (.bool true) ∧ Below w.heap.size w w' := by
  have hg := rung_any hK
  have q1 : ∀ W, JobSl W v1 js → RungSl W v2 rs → _ := fun W g1 g2 => hK.check v1 v2 js rs W g1 g2 hn1 hn2
  have q2 : ∀ W, JobSl W v1 js → RungSl W v2 rs → _ := fun W g1 g2 => ref_ckBook v1 v2 js rs W g1 g2
  have q3 : ∀ W, JobSl W v1 js → RungSl W v2 rs → JobSl W u1 js' → RungSl W u2 rs' → _ := fun W g1 g2 g3 g4 => hK.same v1 v2 u1 u2 js js' rs rs' W g1 g2 g3 g4 hn1 hn2 hm1 hm2
  have q4 : ∀ W, JobSl W v1 js → RungSl W v2 rs → JobSl W u1 js' → RungSl W u2 rs' → _ := fun W g1 g2 g3 g4 => ref_same v1 v2 u1 u2 js js' rs rs' W g1 g2 g3 g4 hn1 hn2
  have q5 : ∀ W, JobSl W v1 js → RungSl W v2 rs → _ := fun W g1 g2 => hK.find v1 v2 js rs id W g1 g2 hn1 hn2
  have q6 : ∀ W, JobSl W v1 js → RungSl W v2 rs → _ := fun W g1 g2 => ref_jobAt v1 v2 js rs id W g1 g2 hn1
  have qa : ∀ W, JobSl W v1 js → RungSl W v2 rs → _ := fun W g1 g2 => hK.apply v1 v2 js rs x W g1 g2 hn1 hn2
  have qb : ∀ W, JobSl W v1 js → RungSl W v2 rs → _ := fun W g1 g2 => ref_applied v1 v2 js rs x W g1 g2
  obtain ⟨hl1, hl2⟩ := app_len (js := js) (rs := rs) x
  clear hK hn1 hn2 hm1 hm2
  generalize app js rs x = r at *
  obtain ⟨⟨jr, rr⟩, n⟩ := r
  have q7 := fun s1 s2 t1 t2 W g1 g2 g3 g4 => ref_same s1 s2 t1 t2 jr jr rr rr W g1 g2 g3 g4 (Nat.le_trans hl1 (by decide)) (Nat.le_trans hl2 (by decide))
  rw [true_same] at q7
  clear hl1 hl2
  generalize ckBook js rs = ck at *
  generalize jobAt js id = ja at *
  generalize (decide (js = js') && decide (rs = rs')) = sm at *
  have H1 : Hid (JobSl w v1 js) := h1
  have H2 : Hid (RungSl w v2 rs) := h2
  have K1 : Hid (JobSl w u1 js') := k1
  have K2 : Hid (RungSl w u2 rs') := k2
  obtain ⟨a1, c1, a2, c2, rfl, rfl⟩ := bk_slices h1 h2
  obtain ⟨a3, c3, a4, c4, rfl, rfl⟩ := bk_slices k1 k2
  clear h1 h2 k1 k2
  generalize js.length = n1 at *
  generalize rs.length = n2 at *
  generalize js'.length = n3 at *
  generalize rs'.length = n4 at *
  go_enter Try.func4, Try.ntmps4
  go_wp2_with fail
  have hg0 := grew (grew (grew (Below.refl w.heap.size w) (boxB (.slice a1 n1 c1) (.slice a2 n2 c2))) (boxE x.k x.j x.v x.t x.c)) (boxB (.slice a3 n3 c3) (.slice a4 n4 c4))
  refine (qa _ (by exact H1.out.later hg0) (by exact H2.out.later hg0)).mono ?_
  rintro e w1 ⟨s1, s2, rfl, J1, R1, hb1⟩
  have y0 : w1.heap[w.heap.size]? = some (boxB (.slice a1 n1 c1) (.slice a2 n2 c2)) := by rw [hb1.block _ (by simp only [World.size_alloc]; omega)]; exact heap_old (heap_old (heap_new _ _) _) _
  have y1 : w1.heap[w.heap.size + 1]? = some (boxE x.k x.j x.v x.t x.c) := by
    rw [hb1.block _ (by simp only [World.size_alloc]; omega)]
    have := heap_new (w.alloc (boxB (.slice a1 n1 c1) (.slice a2 n2 c2))) (boxE x.k x.j x.v x.t x.c)
    rw [World.size_alloc] at this
    exact heap_old this _
  have y2 : w1.heap[w.heap.size + 1 + 1]? = some (boxB (.slice a3 n3 c3) (.slice a4 n4 c4)) := by
    rw [hb1.block _ (by simp only [World.size_alloc]; omega)]
    have := heap_new ((w.alloc (boxB (.slice a1 n1 c1) (.slice a2 n2 c2))).alloc (boxE x.k x.j x.v x.t x.c)) (boxB (.slice a3 n3 c3) (.slice a4 n4 c4))
    rw [World.size_alloc, World.size_alloc] at this
    exact this
  have hB1 := step_below hg0 hb1
  obtain ⟨b1, d1, b2, d2, rfl, rfl⟩ := bk_slices J1 R1
  clear hb1 hg0 qa
  have z0 : ∀ i, w1.cell? ⟨w.heap.size, i, none⟩ = #[Value.slice a1 n1 c1, .slice a2 n2 c2][i]? := fun i => Joins.cell_of_block y0 i
  have z1 : ∀ i, w1.cell? ⟨w.heap.size + 1, i, none⟩ = #[Value.int .i64 x.k, .int .i64 x.j, .int .i64 x.v, .int .i64 x.t, .int .i64 x.c][i]? := fun i => Joins.cell_of_block y1 i
  have l0 : w.heap.size < w1.heap.size := heap_lt y0
  have l1 : w.heap.size + 1 < w1.heap.size := heap_lt y1
  go_wp2_with fail
  have hg1 := grew (Below.refl w1.heap.size w1) (boxB (.slice b1 jr.length d1) (.slice b2 rr.length d2))
  refine (qb _ (by exact H1.out.later (step_below hB1 hg1)) (by exact H2.out.later (step_below hB1 hg1))).mono ?_
  rintro e w2 ⟨t1, t2, rfl, J2, R2, hb2⟩
  have x0 := heap_below (heap_below y0 hg1 (heap_lt y0)) hb2 (by rw [World.size_alloc]; have := heap_lt y0; omega)
  have x2 := heap_below (heap_below y2 hg1 (heap_lt y2)) hb2 (by rw [World.size_alloc]; have := heap_lt y2; omega)
  have x3 : w2.heap[w1.heap.size]? = some (boxB (.slice b1 jr.length d1) (.slice b2 rr.length d2)) := heap_below (heap_new _ _) hb2 (by rw [World.size_alloc]; omega)
  have J3 := (J1.later hg1).later hb2
  have R3 := (R1.later hg1).later hb2
  have hB2 := step_below (step_below hB1 hg1) hb2
  obtain ⟨b3, d3, b4, d4, rfl, rfl⟩ := bk_slices J2 R2
  clear hb2 hg1 qb hB1 J1 R1 y0 y1 y2 z0 z1 l0 l1
  have hg2 := grew (Below.refl w2.heap.size w2) (boxB (.slice b3 jr.length d3) (.slice b4 rr.length d4))
  have hH : HeldC w (w2.alloc (boxB (.slice b3 jr.length d3) (.slice b4 rr.length d4))) w.heap.size (w.heap.size + 1 + 1) w1.heap.size w2.heap.size (.slice a1 n1 c1) (.slice a2 n2 c2) (.slice a3 n3 c3) (.slice a4 n4 c4) (.slice b1 jr.length d1) (.slice b2 rr.length d2) (.slice b3 jr.length d3) (.slice b4 rr.length d4) js js' rs rs' jr rr := by
    have hBx := step_below hB2 hg2
    exact Held.cells ⟨heap_old x0 _, heap_old x2 _, heap_old x3 _, heap_new _ _, H1.out.later hBx, H2.out.later hBx, K1.out.later hBx, K2.out.later hBx, J3.later hg2, R3.later hg2, J2.later hg2, R2.later hg2, hBx⟩
  clear H1 H2 K1 K2 x0 x2 x3 J3 R3 J2 R2 hB2 hg2
  go_wp2_with fail
  generalize hW0 : w2.alloc (.cells #[.slice b3 jr.length d3, .slice b4 rr.length d4] 30) = W0 at *
  clear hW0
  generalize w1.heap.size = b1' at *
  generalize w2.heap.size = b2' at *
  have hbd : Below W0.heap.size W0 W0.drew := (Below.refl _ _).drew
  have p1 : ∀ W, HeldC w W w.heap.size (w.heap.size + 1 + 1) b1' b2' (.slice a1 n1 c1) (.slice a2 n2 c2) (.slice a3 n3 c3) (.slice a4 n4 c4) (.slice b1 jr.length d1) (.slice b2 rr.length d2) (.slice b3 jr.length d3) (.slice b4 rr.length d4) js js' rs rs' jr rr → _ := fun W h => q1 W h.1.j h.1.r
  have p2 : ∀ W, HeldC w W w.heap.size (w.heap.size + 1 + 1) b1' b2' (.slice a1 n1 c1) (.slice a2 n2 c2) (.slice a3 n3 c3) (.slice a4 n4 c4) (.slice b1 jr.length d1) (.slice b2 rr.length d2) (.slice b3 jr.length d3) (.slice b4 rr.length d4) js js' rs rs' jr rr → _ := fun W h => q2 W h.1.j h.1.r
  have p3 : ∀ W, HeldC w W w.heap.size (w.heap.size + 1 + 1) b1' b2' (.slice a1 n1 c1) (.slice a2 n2 c2) (.slice a3 n3 c3) (.slice a4 n4 c4) (.slice b1 jr.length d1) (.slice b2 rr.length d2) (.slice b3 jr.length d3) (.slice b4 rr.length d4) js js' rs rs' jr rr → _ := fun W h => q3 W h.1.j h.1.r h.1.j' h.1.r'
  have p4 : ∀ W, HeldC w W w.heap.size (w.heap.size + 1 + 1) b1' b2' (.slice a1 n1 c1) (.slice a2 n2 c2) (.slice a3 n3 c3) (.slice a4 n4 c4) (.slice b1 jr.length d1) (.slice b2 rr.length d2) (.slice b3 jr.length d3) (.slice b4 rr.length d4) js js' rs rs' jr rr → _ := fun W h => q4 W h.1.j h.1.r h.1.j' h.1.r'
  have p5 : ∀ W, HeldC w W w.heap.size (w.heap.size + 1 + 1) b1' b2' (.slice a1 n1 c1) (.slice a2 n2 c2) (.slice a3 n3 c3) (.slice a4 n4 c4) (.slice b1 jr.length d1) (.slice b2 rr.length d2) (.slice b3 jr.length d3) (.slice b4 rr.length d4) js js' rs rs' jr rr → _ := fun W h => q5 W h.1.j h.1.r
  have p6 : ∀ W, HeldC w W w.heap.size (w.heap.size + 1 + 1) b1' b2' (.slice a1 n1 c1) (.slice a2 n2 c2) (.slice a3 n3 c3) (.slice a4 n4 c4) (.slice b1 jr.length d1) (.slice b2 rr.length d2) (.slice b3 jr.length d3) (.slice b4 rr.length d4) js js' rs rs' jr rr → _ := fun W h => q6 W h.1.j h.1.r
  have p7 : ∀ W, HeldC w W w.heap.size (w.heap.size + 1 + 1) b1' b2' (.slice a1 n1 c1) (.slice a2 n2 c2) (.slice a3 n3 c3) (.slice a4 n4 c4) (.slice b1 jr.length d1) (.slice b2 rr.length d2) (.slice b3 jr.length d3) (.slice b4 rr.length d4) js js' rs rs' jr rr → _ := fun W h => q7 _ _ _ _ W h.1.ja h.1.ra h.1.jb h.1.rb
  clear q1 q2 q3 q4 q5 q6 q7
  go_region_held3 (fun w' => HeldC w w' w.heap.size (w.heap.size + 1 + 1) b1' b2' (.slice a1 n1 c1) (.slice a2 n2 c2) (.slice a3 n3 c3) (.slice a4 n4 c4) (.slice b1 jr.length d1) (.slice b2 rr.length d2) (.slice b3 jr.length d3) (.slice b4 rr.length d4) js js' rs rs' jr rr)
    (exact heldC_step (by assumption) (by assumption))
    (first
      | (go_at_call 8; refine (hg _).mono ?_; rintro e w' ⟨rfl, hb'⟩)
      | (go_at_call 9; refine (p1 _ (by assumption)).mono ?_; rintro e w' ⟨rfl, hb'⟩)
      | (go_at_call 10; refine (p2 _ (by assumption)).mono ?_; rintro e w' ⟨rfl, hb'⟩)
      | (go_at_call 11; refine (p3 _ (by assumption)).mono ?_; rintro e w' ⟨rfl, hb'⟩)
      | (go_at_call 12; with_reducible refine (p4 _ (by assumption)).mono ?_; rintro e w' ⟨rfl, hb'⟩)
      | (go_at_call 12; with_reducible refine (p7 _ (by assumption)).mono ?_; rintro e w' ⟨rfl, hb'⟩)
      | (go_at_call 13; refine (p5 _ (by assumption)).mono ?_; rintro e w' ⟨rfl, hb'⟩)
      | (go_at_call 14; refine (p6 _ (by assumption)).mono ?_; rintro e w' ⟨rfl, hb'⟩))
  all_goals
    rename_i hS
    have hBl := hS.1.below
    clear hS hH hbd p1 p2 p3 p4 p5 p6 p7 hg
    go_wp2
    go_ret
    exact ⟨rfl, hBl⟩

end Go.Proofs.Ytbkockoekelkkaa
