/- The walk of the law DueSays, under package due's contracts. -/
import Derived.Test.YtmfoonalehmjoabDueE
namespace Go.Proofs.Ytmfoonalehmjoab
open Go.RowKit
open scoped Classical

/-- The reference's DueAt, at a right book. -/
def RefDue : Prop := ∀ (v1 v2 : Value) (js : List Jb) (rs : List Rg) (t : Int) (W : World), JobSl W v1 js → RungSl W v2 rs → Ok js rs →
  Calls Try.prog 26 #[.agg #[v1, v2], .int .i64 t] W fun e w' => ∃ u, e = .returned u ∧ JobSl w' u (dueOf js t) ∧ Below W.heap.size W w'

theorem into_len (x : Jb) : ∀ l : List Jb, (into x l).length = l.length + 1
  | [] => rfl
  | y :: r => by
    have ih := into_len x r
    rw [into]
    split
    · simp
    · simp [ih]

theorem dueOf_len (t : Int) : ∀ js : List Jb, (dueOf js t).length ≤ js.length
  | [] => by simp [dueOf]
  | x :: r => by
    have ih := dueOf_len t r
    rw [dueOf]
    split
    · rw [into_len]; simp; omega
    · simp; omega

set_option maxHeartbeats 4000000 in
theorem dueSays_any (hK : Dues) (hR : RefDue) (v1 v2 : Value) (js : List Jb) (rs : List Rg) (t : Int) (w : World) (h1 : JobSl w v1 js) (h2 : RungSl w v2 rs) (hn1 : js.length ≤ most) (hn2 : rs.length ≤ most) :
    Calls Try.prog 6 #[.agg #[v1, v2], .int .i64 t] w fun e w' => e = .returned (.bool true) ∧ Below w.heap.size w w' := by
  have hB0 := grew (Below.refl w.heap.size w) (boxB v1 v2)
  have hx0 := heap_new w (boxB v1 v2)
  have HW : Hid (JobSl w v1 js ∧ RungSl w v2 rs) := ⟨h1, h2⟩
  have hd := fun (W : World) (hb : Below w.heap.size w W) => hK.due v1 v2 js rs t W (h1.later hb) (h2.later hb) hn1 hn2
  have hc := fun (W : World) (hb : Below w.heap.size w W) => hK.count v1 v2 js rs t W (h1.later hb) (h2.later hb) hn1 hn2
  have hw := fun (W : World) (hb : Below w.heap.size w W) => hK.when_ v1 v2 js rs W (h1.later hb) (h2.later hb) hn1 hn2
  have hk := fun (W : World) (hb : Below w.heap.size w W) => ref_ckBook v1 v2 js rs W (h1.later hb) (h2.later hb)
  have hg := fun (W : World) => counted_any hK W
  obtain ⟨a1, c1, a2, c2, rfl, rfl⟩ := bk_slices h1 h2
  generalize js.length = n1 at *
  generalize rs.length = n2 at *
  clear hK h1 h2 hn1 hn2
  by_cases hok : ckBook js rs = 0
  · have hO := ckBook_zero.1 hok
    have hnx := fun (W : World) (hb : Below w.heap.size w W) => ref_next (.slice a1 n1 c1) (.slice a2 n2 c2) js rs W (HW.out.1.later hb) (HW.out.2.later hb) hO
    by_cases ht : t < 0 ∨ 100000 < t
    · have he : dueErr js rs t = 3 := by rw [dueErr, if_neg (by simpa using hok), if_pos ht]
      simp only [he, hok, if_true, show ((3 : Int) = 0) = False by simp, if_false] at hd hc hw hk
      clear hR he hok hO HW
      generalize whenOf js = wn at *
      go_enter Try.func6, Try.ntmps6
      go_wp2_with fail
      refine (hd _ hB0).mono ?_
      rintro e w1 ⟨u, rfl, J1, hb1, _⟩
      have hB1 := step_below hB0 hb1
      have hx1 := heap_below hx0 hb1 (heap_lt hx0)
      obtain ⟨a, c, rfl, _⟩ := J1
      clear hb1 hB0 hx0 hd
      have z1 : ∀ i, w1.cell? ⟨w.heap.size, i, none⟩ = #[Value.slice a1 n1 c1, .slice a2 n2 c2][i]? := fun i => Joins.cell_of_block hx1 i
      go_wp2_with fail
      refine (hc _ hB1).mono ?_
      rintro e w2 ⟨rfl, hb2⟩
      have hB2 := step_below hB1 hb2
      have hx2 := heap_below hx1 hb2 (heap_lt hx1)
      clear hb2 hB1 hx1 hc z1
      have z2 : ∀ i, w2.cell? ⟨w.heap.size, i, none⟩ = #[Value.slice a1 n1 c1, .slice a2 n2 c2][i]? := fun i => Joins.cell_of_block hx2 i
      go_wp2_with fail
      refine (hw _ hB2).mono ?_
      rintro e w3 ⟨rfl, hb3⟩
      have hB3 := step_below hB2 hb3
      have hx3 := heap_below hx2 hb3 (heap_lt hx2)
      clear hb3 hB2 hx2 hw z2
      have z3 : ∀ i, w3.cell? ⟨w.heap.size, i, none⟩ = #[Value.slice a1 n1 c1, .slice a2 n2 c2][i]? := fun i => Joins.cell_of_block hx3 i
      go_wp2_with fail
      refine (hk _ hB3).mono ?_
      rintro e w4 ⟨rfl, hb4⟩
      have hB4 := step_below hB3 hb4
      have hx4 := heap_below hx3 hb4 (heap_lt hx3)
      clear hb4 hB3 hx3 hk z3
      go_wp2_with fail
      refine (hg _).mono ?_
      rintro e w5 ⟨rfl, hb5⟩
      have hB5 := step_below hB4 hb5
      have hx5 := heap_below hx4 hb5 (heap_lt hx4)
      clear hb5 hB4 hx4 hg
      have z5 : ∀ i, w5.cell? ⟨w.heap.size, i, none⟩ = #[Value.slice a1 n1 c1, .slice a2 n2 c2][i]? := fun i => Joins.cell_of_block hx5 i
      go_wp2_with fail
      refine (hnx _ hB5).mono ?_
      rintro e w6 ⟨rfl, hb6⟩
      have hB6 := step_below hB5 hb6
      clear hb6 hB5 hx5 hnx z5
      by_cases ht0 : t < 0
      · go_wp2
        go_ret
        exact ⟨rfl, hB6⟩
      · have ht1 : 100000 < t := by omega
        go_wp2
        go_ret
        exact ⟨rfl, hB6⟩
    · have he : dueErr js rs t = 0 := by rw [dueErr, if_neg (by simpa using hok), if_neg ht]
      have hdu := fun (W : World) (hb : Below w.heap.size w W) => hR (.slice a1 n1 c1) (.slice a2 n2 c2) js rs t W (HW.out.1.later hb) (HW.out.2.later hb) hO
      have hct := fun (W : World) (hb : Below w.heap.size w W) => ref_count (.slice a1 n1 c1) (.slice a2 n2 c2) js rs t W (HW.out.1.later hb) (HW.out.2.later hb) hO (by omega) (by omega)
      have hq := fun v u W g1 g2 => equalJ v u (dueOf js t) (dueOf js t) W g1 g2 (by have := dueOf_len t js; have := hO.few; omega)
      rw [show decide (dueOf js t = dueOf js t) = true by simp] at hq
      simp only [he, hok, if_true] at hd hc hw hk
      clear hR he hok hO HW
      have ht0 : ¬ t < 0 := by omega
      have ht1 : ¬ 100000 < t := by omega
      clear ht
      generalize whenOf js = wn at *
      generalize countOf js t = cn at *
      generalize dueOf js t = dj at *
      go_enter Try.func6, Try.ntmps6
      go_wp2_with fail
      refine (hd _ hB0).mono ?_
      rintro e w1 ⟨u, rfl, J1, hb1, _⟩
      have hB1 := step_below hB0 hb1
      have hx1 := heap_below hx0 hb1 (heap_lt hx0)
      obtain ⟨a, c, rfl, _⟩ := id J1
      obtain ⟨dl, hdl⟩ : ∃ dl, Hid (dj.length = dl) := ⟨_, rfl⟩
      rw [hdl.out] at J1 ⊢
      replace J1 : Aside (JobSl w1 (.slice a dl c) dj) := J1
      clear hb1 hB0 hx0 hd
      have z1 : ∀ i, w1.cell? ⟨w.heap.size, i, none⟩ = #[Value.slice a1 n1 c1, .slice a2 n2 c2][i]? := fun i => Joins.cell_of_block hx1 i
      go_wp2_with fail
      refine (hc _ hB1).mono ?_
      rintro e w2 ⟨rfl, hb2⟩
      have hB2 := step_below hB1 hb2
      have J2 : Aside (JobSl w2 _ dj) := SlOf.later J1.out hb2
      have hx2 := heap_below hx1 hb2 (heap_lt hx1)
      clear hb2 J1 hB1 hx1 hc z1
      have z2 : ∀ i, w2.cell? ⟨w.heap.size, i, none⟩ = #[Value.slice a1 n1 c1, .slice a2 n2 c2][i]? := fun i => Joins.cell_of_block hx2 i
      go_wp2_with fail
      refine (hw _ hB2).mono ?_
      rintro e w3 ⟨rfl, hb3⟩
      have hB3 := step_below hB2 hb3
      have J3 : Aside (JobSl w3 _ dj) := SlOf.later J2.out hb3
      have hx3 := heap_below hx2 hb3 (heap_lt hx2)
      clear hb3 J2 hB2 hx2 hw z2
      have z3 : ∀ i, w3.cell? ⟨w.heap.size, i, none⟩ = #[Value.slice a1 n1 c1, .slice a2 n2 c2][i]? := fun i => Joins.cell_of_block hx3 i
      go_wp2_with fail
      refine (hk _ hB3).mono ?_
      rintro e w4 ⟨rfl, hb4⟩
      have hB4 := step_below hB3 hb4
      have J4 : Aside (JobSl w4 _ dj) := SlOf.later J3.out hb4
      have hx4 := heap_below hx3 hb4 (heap_lt hx3)
      clear hb4 J3 hB3 hx3 hk z3
      go_wp2_with fail
      refine (hg _).mono ?_
      rintro e w5 ⟨rfl, hb5⟩
      have hB5 := step_below hB4 hb5
      have J5 : Aside (JobSl w5 _ dj) := SlOf.later J4.out hb5
      have hx5 := heap_below hx4 hb5 (heap_lt hx4)
      clear hb5 J4 hB4 hx4 hg
      have z5 : ∀ i, w5.cell? ⟨w.heap.size, i, none⟩ = #[Value.slice a1 n1 c1, .slice a2 n2 c2][i]? := fun i => Joins.cell_of_block hx5 i
      go_wp2_with fail
      refine (hnx _ hB5).mono ?_
      rintro e w6 ⟨rfl, hb6⟩
      have hB6 := step_below hB5 hb6
      have J6 : Aside (JobSl w6 _ dj) := SlOf.later J5.out hb6
      have hx6 := heap_below hx5 hb6 (heap_lt hx5)
      clear hb6 J5 hB5 hx5 hnx z5
      have z6 : ∀ i, w6.cell? ⟨w.heap.size, i, none⟩ = #[Value.slice a1 n1 c1, .slice a2 n2 c2][i]? := fun i => Joins.cell_of_block hx6 i
      go_wp2_with fail
      refine (hdu _ hB6).mono ?_
      rintro e w7 ⟨u7, rfl, U7, hb7⟩
      have hB7 := step_below hB6 hb7
      have J7 : Aside (JobSl w7 _ dj) := SlOf.later J6.out hb7
      have hx7 := heap_below hx6 hb7 (heap_lt hx6)
      clear hb7 J6 hB6 hx6 hdu z6
      go_wp2_with fail
      refine (hq _ _ _ J7.out U7).mono ?_
      rintro e w8 ⟨rfl, hb8⟩
      have hB8 := step_below hB7 hb8
      have hx8 := heap_below hx7 hb8 (heap_lt hx7)
      clear hb8 J7 U7 hB7 hx7 hq
      have z8 : ∀ i, w8.cell? ⟨w.heap.size, i, none⟩ = #[Value.slice a1 n1 c1, .slice a2 n2 c2][i]? := fun i => Joins.cell_of_block hx8 i
      go_wp2_with fail
      refine (hct _ hB8).mono ?_
      rintro e w9 ⟨rfl, hb9⟩
      have hB9 := step_below hB8 hb9
      clear hb9 hB8 hx8 hct z8
      go_wp2
      go_ret
      exact ⟨rfl, hB9⟩
  · have he : dueErr js rs t = ckBook js rs := by rw [dueErr, if_pos hok]
    simp only [he, if_neg hok] at hd hc hw
    have hn0 : (ckBook js rs == 0) = false := by rw [beq_eq_false_iff_ne]; exact hok
    have hn1 : (ckBook js rs != 0) = true := by rw [bne_iff_ne]; exact hok
    clear hR he hok HW
    generalize ckBook js rs = er at *
    go_enter Try.func6, Try.ntmps6
    go_wp2_with fail
    refine (hd _ hB0).mono ?_
    rintro e w1 ⟨u, rfl, J1, hb1, _⟩
    have hB1 := step_below hB0 hb1
    have hx1 := heap_below hx0 hb1 (heap_lt hx0)
    obtain ⟨a, c, rfl, _⟩ := J1
    clear hb1 hB0 hx0 hd
    have z1 : ∀ i, w1.cell? ⟨w.heap.size, i, none⟩ = #[Value.slice a1 n1 c1, .slice a2 n2 c2][i]? := fun i => Joins.cell_of_block hx1 i
    go_wp2_with fail
    refine (hc _ hB1).mono ?_
    rintro e w2 ⟨rfl, hb2⟩
    have hB2 := step_below hB1 hb2
    have hx2 := heap_below hx1 hb2 (heap_lt hx1)
    clear hb2 hB1 hx1 hc z1
    have z2 : ∀ i, w2.cell? ⟨w.heap.size, i, none⟩ = #[Value.slice a1 n1 c1, .slice a2 n2 c2][i]? := fun i => Joins.cell_of_block hx2 i
    go_wp2_with fail
    refine (hw _ hB2).mono ?_
    rintro e w3 ⟨rfl, hb3⟩
    have hB3 := step_below hB2 hb3
    have hx3 := heap_below hx2 hb3 (heap_lt hx2)
    clear hb3 hB2 hx2 hw z2
    have z3 : ∀ i, w3.cell? ⟨w.heap.size, i, none⟩ = #[Value.slice a1 n1 c1, .slice a2 n2 c2][i]? := fun i => Joins.cell_of_block hx3 i
    go_wp2_with fail
    refine (hk _ hB3).mono ?_
    rintro e w4 ⟨rfl, hb4⟩
    have hB4 := step_below hB3 hb4
    have hx4 := heap_below hx3 hb4 (heap_lt hx3)
    clear hb4 hB3 hx3 hk z3
    go_wp2_with fail
    refine (hg _).mono ?_
    rintro e w5 ⟨rfl, hb5⟩
    have hB5 := step_below hB4 hb5
    have hx5 := heap_below hx4 hb5 (heap_lt hx4)
    clear hb5 hB4 hx4 hg
    have z5 : ∀ i, w5.cell? ⟨w.heap.size, i, none⟩ = #[Value.slice a1 n1 c1, .slice a2 n2 c2][i]? := fun i => Joins.cell_of_block hx5 i
    go_wp2
    go_ret
    exact ⟨rfl, hB5⟩

end Go.Proofs.Ytmfoonalehmjoab
