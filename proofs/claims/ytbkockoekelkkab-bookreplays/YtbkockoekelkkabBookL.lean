/- The walks of the laws BookReplays and BookSays, under package book's contracts. -/
import Derived.Test.YtbkockoekelkkabBookK
import Derived.Deep.RegionHeld3
namespace Go.Proofs.Ytbkockoekelkkab
open Go.RowKit
open scoped Classical

theorem true_same (js : List Jb) (rs : List Rg) : (decide (js = js) && decide (rs = rs)) = true := by simp

set_option maxHeartbeats 2000000 in
theorem bookReplays_any (hK : Books) (v : Value) (es : List En) (w : World) (hv : EntSl w v es) (hn : es.length ≤ most) :
    Calls Try.prog 3 #[v] w fun e w' => e = .returned (.bool true) ∧ Below w.heap.size w w' := by
  have HV : Hid (EntSl w v es) := hv
  have hr1 := fun W hW => hK.replay v es W hW hn
  have hr2 := fun W hW => ref_bookOf v es W hW
  obtain ⟨hl1, hl2⟩ := bookOf_len es
  have hg := rung_any hK
  clear hK hv hn
  generalize bookOf es = r at *
  obtain ⟨⟨js, rs⟩, n⟩ := r
  have hsm := fun v1 v2 u1 u2 W g1 g2 g3 g4 => ref_same v1 v2 u1 u2 js js rs rs W g1 g2 g3 g4 (Nat.le_trans hl1 (by decide)) (Nat.le_trans hl2 (by decide))
  rw [true_same] at hsm
  clear hl1 hl2
  go_enter Try.func3, Try.ntmps3
  go_wp2_with fail
  refine (hr1 _ (by exact HV.out)).mono ?_
  rintro e w1 ⟨u1, u2, rfl, J1, R1, hb1⟩
  obtain ⟨a1, c1, a2, c2, rfl, rfl⟩ := bk_slices J1 R1
  clear hr1
  go_wp2_with fail
  have hB1 := grew hb1 (boxB (.slice a1 js.length c1) (.slice a2 rs.length c2))
  refine (hr2 _ (by exact HV.out.later hB1)).mono ?_
  rintro e w2 ⟨t1, t2, rfl, K2, T2, hb2⟩
  obtain ⟨b1, d1, b2, d2, rfl, rfl⟩ := bk_slices K2 T2
  have J2 := (J1.later (grew (Below.refl _ _) (boxB (.slice a1 js.length c1) (.slice a2 rs.length c2)))).later hb2
  have R2 := (R1.later (grew (Below.refl _ _) (boxB (.slice a1 js.length c1) (.slice a2 rs.length c2)))).later hb2
  have y2 : w2.heap[w1.heap.size]? = some (boxB (.slice a1 js.length c1) (.slice a2 rs.length c2)) := heap_below (heap_new _ _) hb2 (by rw [World.size_alloc]; omega)
  have hB2 := step_below hB1 hb2
  generalize w1.heap.size = bb at *
  clear hb1 hb2 hB1 J1 R1 hr2
  go_wp2_with fail
  have hg2 := grew (Below.refl w2.heap.size w2) (boxB (.slice b1 js.length d1) (.slice b2 rs.length d2))
  refine (hg _).mono ?_
  rintro e w3 ⟨rfl, hb3⟩
  have hB3 := step_below (step_below hB2 hg2) hb3
  have J3 := (J2.later hg2).later hb3
  have R3 := (R2.later hg2).later hb3
  have K3 := (K2.later hg2).later hb3
  have T3 := (T2.later hg2).later hb3
  have y3 := heap_below (heap_below y2 hg2 (heap_lt y2)) hb3 (by rw [World.size_alloc]; have := heap_lt y2; omega)
  have x3 : w3.heap[w2.heap.size]? = some (boxB (.slice b1 js.length d1) (.slice b2 rs.length d2)) := heap_below (heap_new _ _) hb3 (by rw [World.size_alloc]; omega)
  clear hg hg2 hb3 J2 R2 K2 T2 y2 hB2
  generalize w2.heap.size = cb at *
  have zb : ∀ i, w3.cell? ⟨bb, i, none⟩ = #[Value.slice a1 js.length c1, .slice a2 rs.length c2][i]? := fun i => Joins.cell_of_block y3 i
  have zc : ∀ i, w3.cell? ⟨cb, i, none⟩ = #[Value.slice b1 js.length d1, .slice b2 rs.length d2][i]? := fun i => Joins.cell_of_block x3 i
  go_wp2_with fail
  refine (hsm _ _ _ _ _ (by exact J3) (by exact R3) (by exact K3) (by exact T3)).mono ?_
  rintro e w4 ⟨rfl, hb4⟩
  have hB4 := step_below hB3 hb4
  go_wp2
  go_ret
  exact ⟨rfl, hB4⟩

/-- What region 3 of BookSays reads, and what its calls ask. -/
structure Held (w W : World) (b0 b1 b2 b3 : Nat) (v1 v2 u1 u2 s1 s2 t1 t2 : Value) (js js' : List Jb) (rs rs' : List Rg) (jr : List Jb) (rr : List Rg) : Prop where
  h0 : W.heap[b0]? = some (boxB v1 v2)
  h1 : W.heap[b1]? = some (boxB u1 u2)
  h2 : W.heap[b2]? = some (boxB s1 s2)
  h3 : W.heap[b3]? = some (boxB t1 t2)
  j : JobSl W v1 js
  r : RungSl W v2 rs
  j' : JobSl W u1 js'
  r' : RungSl W u2 rs'
  ja : JobSl W s1 jr
  ra : RungSl W s2 rr
  jb : JobSl W t1 jr
  rb : RungSl W t2 rr
  below : Below w.heap.size w W

theorem Held.later {w W W' : World} {b0 b1 b2 b3 : Nat} {v1 v2 u1 u2 s1 s2 t1 t2 : Value} {js js' : List Jb} {rs rs' : List Rg} {jr : List Jb} {rr : List Rg}
    (h : Held w W b0 b1 b2 b3 v1 v2 u1 u2 s1 s2 t1 t2 js js' rs rs' jr rr) (hb : Below W.heap.size W W') : Held w W' b0 b1 b2 b3 v1 v2 u1 u2 s1 s2 t1 t2 js js' rs rs' jr rr :=
  ⟨heap_below h.h0 hb (heap_lt h.h0), heap_below h.h1 hb (heap_lt h.h1), heap_below h.h2 hb (heap_lt h.h2), heap_below h.h3 hb (heap_lt h.h3), h.j.later hb, h.r.later hb, h.j'.later hb, h.r'.later hb, h.ja.later hb, h.ra.later hb, h.jb.later hb, h.rb.later hb, step_below h.below hb⟩

/-- What is held at the region, cell by cell. -/
abbrev HeldC (w W : World) (b0 b1 b2 b3 : Nat) (v1 v2 u1 u2 s1 s2 t1 t2 : Value) (js js' : List Jb) (rs rs' : List Rg) (jr : List Jb) (rr : List Rg) : Prop :=
  Held w W b0 b1 b2 b3 v1 v2 u1 u2 s1 s2 t1 t2 js js' rs rs' jr rr ∧ W.cell? ⟨b0, 0, none⟩ = some v1 ∧ W.cell? ⟨b0, 1, none⟩ = some v2 ∧ W.cell? ⟨b1, 0, none⟩ = some u1 ∧ W.cell? ⟨b1, 1, none⟩ = some u2 ∧
    W.cell? ⟨b2, 0, none⟩ = some s1 ∧ W.cell? ⟨b2, 1, none⟩ = some s2 ∧ W.cell? ⟨b3, 0, none⟩ = some t1 ∧ W.cell? ⟨b3, 1, none⟩ = some t2

theorem Held.cells {w W : World} {b0 b1 b2 b3 : Nat} {v1 v2 u1 u2 s1 s2 t1 t2 : Value} {js js' : List Jb} {rs rs' : List Rg} {jr : List Jb} {rr : List Rg}
    (h : Held w W b0 b1 b2 b3 v1 v2 u1 u2 s1 s2 t1 t2 js js' rs rs' jr rr) : HeldC w W b0 b1 b2 b3 v1 v2 u1 u2 s1 s2 t1 t2 js js' rs rs' jr rr :=
  ⟨h, by rw [Joins.cell_of_block h.h0]; rfl, by rw [Joins.cell_of_block h.h0]; rfl, by rw [Joins.cell_of_block h.h1]; rfl, by rw [Joins.cell_of_block h.h1]; rfl,
    by rw [Joins.cell_of_block h.h2]; rfl, by rw [Joins.cell_of_block h.h2]; rfl, by rw [Joins.cell_of_block h.h3]; rfl, by rw [Joins.cell_of_block h.h3]; rfl⟩

theorem heldC_step {w W W' : World} {b0 b1 b2 b3 : Nat} {v1 v2 u1 u2 s1 s2 t1 t2 : Value} {js js' : List Jb} {rs rs' : List Rg} {jr : List Jb} {rr : List Rg}
    (h : HeldC w W b0 b1 b2 b3 v1 v2 u1 u2 s1 s2 t1 t2 js js' rs rs' jr rr) (hb : Below W.heap.size W W') : HeldC w W' b0 b1 b2 b3 v1 v2 u1 u2 s1 s2 t1 t2 js js' rs rs' jr rr := (h.1.later hb).cells

end Go.Proofs.Ytbkockoekelkkab
