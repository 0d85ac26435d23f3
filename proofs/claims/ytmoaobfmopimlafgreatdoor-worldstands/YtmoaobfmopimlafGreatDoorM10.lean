/- For the law. -/
import Derived.Test.YtmoaobfmopimlafGreatDoorM09
set_option linter.unusedSimpArgs false
set_option linter.unusedVariables false
set_option maxHeartbeats 16000000
set_option maxRecDepth 100000
namespace Go.Proofs.YtmoaobfmopimlafGreatDoor
open Go Go.ChangeShapes Go.WideShapes Go.ChangeAt Go.RowKit
section
open scoped Classical
theorem chLink_bad (v : Value) (xs : List Ub) (k a ep : Int) (x : En) (w : World) (h : ChAt w v xs) (d : Int) (hd : (linkOf (unitsOf xs) k a x ep).2.2 = d) (hz : (d != 0) = true) :
  Calls Tryz.prog 105 #[v, .int .i64 k, .int .i64 a, x.val, .int .i64 ep] w fun e w' => e = .returned (.tuple #[(((Rc.zero, En.zero, d) : Rc × En × Int)).1.val, (((Rc.zero, En.zero, d) : Rc × En × Int)).2.1.val, .int .i64 (((Rc.zero, En.zero, d) : Rc × En × Int)).2.2]) ∧ Below w.heap.size w w' := by
 have HB0 : Aside (Below w.heap.size w (((w.alloc (boxE x.k x.j x.v x.t x.c)).alloc (boxRc Rc.zero)).alloc (boxE 0 0 0 0 0))) := grew (grew (grew (Below.refl _ _) _) _) _
 have HX0 : Aside ((((w.alloc (boxE x.k x.j x.v x.t x.c)).alloc (boxRc Rc.zero)).alloc (boxE 0 0 0 0 0)).heap[w.heap.size]? = some (boxE x.k x.j x.v x.t x.c)) := heap_old (heap_old (heap_new _ _) _) _
 have HR0 : Aside ((((w.alloc (boxE x.k x.j x.v x.t x.c)).alloc (boxRc Rc.zero)).alloc (boxE 0 0 0 0 0)).heap[w.heap.size + 1]? = some (boxRc Rc.zero)) := by
  have := heap_new (w.alloc (boxE x.k x.j x.v x.t x.c)) (boxRc Rc.zero)
  rw [World.size_alloc] at this
  exact heap_old this _
 have HE0 : Aside ((((w.alloc (boxE x.k x.j x.v x.t x.c)).alloc (boxRc Rc.zero)).alloc (boxE 0 0 0 0 0)).heap[w.heap.size + 1 + 1]? = some (boxE 0 0 0 0 0)) := by
  have := heap_new ((w.alloc (boxE x.k x.j x.v x.t x.c)).alloc (boxRc Rc.zero)) (boxE 0 0 0 0 0)
  rwa [World.size_alloc, World.size_alloc] at this
 have hml := may_any v xs k a ep x _ (h.later HB0.out)
 rw [hd] at hml
 clear h hd
 go_enter Tryz.func105, Tryz.ntmps105
 go_wp2_with fail
 refine hml.mono ?_
 rintro e w1 ⟨rfl, hb1⟩
 have HX1 : Aside _ := heap_below HX0.out hb1 (heap_lt HX0.out)
 have HR1 : Aside _ := heap_below HR0.out hb1 (heap_lt HR0.out)
 have HE1 : Aside _ := heap_below HE0.out hb1 (heap_lt HE0.out)
 have HB1 : Aside _ := step_below1 HB0.out hb1
 clear hb1 HX0 HR0 HE0 HB0
 clear hml
 have zr := fun i => Joins.cell_of_block HR1.out i
 have fr := fun i => Joins.unfrozen_of_block HR1.out i
 have ze := fun i => Joins.cell_of_block HE1.out i
 have fe := fun i => Joins.unfrozen_of_block HE1.out i
 go_wp2
 have hst := link_stored HR1.out (f := En.zero) HE1.out (by omega) (Rc.zero) (En.zero) rfl
 exact ret3 (p := 10) (q := 11) (t := 12) (r := Rc.zero) (e := En.zero) Tryz.results105 rfl rfl rfl rfl hst.1 hst.2 ⟨rfl, link_below HB1.out (by omega) (by omega) _ _ _ _ _ _ _ _ _ _ _ _ _⟩
theorem chLink0_stands (b off c m : Nat) (ep : Int) (x : En) (U0 U1 U2 : Un) (a0 a1 a2 : Option Addr) (c0 c1 c2 : Nat) (w : World) (hch : ChAt w (.slice (some ⟨b, off, none⟩) 3 c) [⟨U0, .slice a0 60 c0⟩, ⟨U1, .slice a1 60 c1⟩, ⟨U2, .slice a2 60 c2⟩]) (hm : m < 60) (hd : (linkOf [U0, U1, U2] 0 (m : Int) x ep).2.2 = 0) (y : En) (hy : U0.cells[m]? = some y) (hib : y.isB = false) :
  Calls Tryz.prog 105 #[.slice (some ⟨b, off, none⟩) 3 c, .int .i64 0, .int .i64 (m : Int), x.val, .int .i64 ep] w fun e w' => e = .returned (.tuple #[(((Rc.zero, y, 0) : Rc × En × Int)).1.val, (((Rc.zero, y, 0) : Rc × En × Int)).2.1.val, .int .i64 (((Rc.zero, y, 0) : Rc × En × Int)).2.2]) ∧ Below w.heap.size w w' := by
 have HB0 : Aside (Below w.heap.size w (((w.alloc (boxE x.k x.j x.v x.t x.c)).alloc (boxRc Rc.zero)).alloc (boxE 0 0 0 0 0))) := grew (grew (grew (Below.refl _ _) _) _) _
 have HX0 : Aside ((((w.alloc (boxE x.k x.j x.v x.t x.c)).alloc (boxRc Rc.zero)).alloc (boxE 0 0 0 0 0)).heap[w.heap.size]? = some (boxE x.k x.j x.v x.t x.c)) := heap_old (heap_old (heap_new _ _) _) _
 have HR0 : Aside ((((w.alloc (boxE x.k x.j x.v x.t x.c)).alloc (boxRc Rc.zero)).alloc (boxE 0 0 0 0 0)).heap[w.heap.size + 1]? = some (boxRc Rc.zero)) := by
  have := heap_new (w.alloc (boxE x.k x.j x.v x.t x.c)) (boxRc Rc.zero)
  rw [World.size_alloc] at this
  exact heap_old this _
 have HE0 : Aside ((((w.alloc (boxE x.k x.j x.v x.t x.c)).alloc (boxRc Rc.zero)).alloc (boxE 0 0 0 0 0)).heap[w.heap.size + 1 + 1]? = some (boxE 0 0 0 0 0)) := by
  have := heap_new ((w.alloc (boxE x.k x.j x.v x.t x.c)).alloc (boxRc Rc.zero)) (boxE 0 0 0 0 0)
  rwa [World.size_alloc, World.size_alloc] at this
 have hml := may_any _ _ 0 (m : Int) ep x _ (hch.later HB0.out)
 rw [show (linkOf (unitsOf [⟨U0, .slice a0 60 c0⟩, ⟨U1, .slice a1 60 c1⟩, ⟨U2, .slice a2 60 c2⟩]) 0 (m : Int) x ep).2.2 = 0 from hd] at hml
 have kst := fun W => stands_any y W
 rw [hib, Bool.not_false] at kst
 have HCH : Aside (ChAt w (.slice (some ⟨b, off, none⟩) 3 c) [⟨U0, .slice a0 60 c0⟩, ⟨U1, .slice a1 60 c1⟩, ⟨U2, .slice a2 60 c2⟩]) := hch
 have HY : Hid (U0.cells[m]? = some y) := hy
 have hmi : (m : Int) < 60 := by omega
 have hm0 : (0 : Int) ≤ (m : Int) := by omega
 clear hch hd hy hib
 go_enter Tryz.func105, Tryz.ntmps105
 go_wp2_with fail
 refine hml.mono ?_
 rintro e w3 ⟨rfl, hb3⟩
 have HX3 : Aside _ := heap_below HX0.out hb3 (heap_lt HX0.out)
 have HR3 : Aside _ := heap_below HR0.out hb3 (heap_lt HR0.out)
 have HE3 : Aside _ := heap_below HE0.out hb3 (heap_lt HE0.out)
 have HB3 : Aside _ := step_below1 HB0.out hb3
 clear hb3 HX0 HR0 HE0 HB0
 clear hml
 have hc3 := HCH.out.later HB3.out
 obtain ⟨b3, off3, eb3, hrow3⟩ := hc3.rows.at (by omega)
 injection eb3 with eb3
 injection eb3 with eb4 eb5 _
 subst eb4 eb5
 obtain ⟨⟨p0, s0⟩, ⟨p1, s1⟩, ⟨p2, s2⟩⟩ := row_three hrow3
 obtain ⟨by_, oy, ey, hEy⟩ := SlOf.at (cs := En.cells) (k := 5) (hc3.each ⟨U0, .slice a0 60 c0⟩ (by simp)).ents (by omega)
 subst ey
 have g0 : w3.cell? ⟨by_, oy + m * 5, none⟩ = some (.int .i64 y.k) := hEy m y HY.out 0 _ rfl
 have g1 : w3.cell? ⟨by_, oy + m * 5 + 1, none⟩ = some (.int .i64 y.j) := hEy m y HY.out 1 _ rfl
 have g2 : w3.cell? ⟨by_, oy + m * 5 + 2, none⟩ = some (.int .i64 y.v) := hEy m y HY.out 2 _ rfl
 have g3 : w3.cell? ⟨by_, oy + m * 5 + 3, none⟩ = some (.int .i64 y.t) := hEy m y HY.out 3 _ rfl
 have g4 : w3.cell? ⟨by_, oy + m * 5 + 4, none⟩ = some (.int .i64 y.c) := hEy m y HY.out 4 _ rfl
 have hyb := heap_lt HE3.out
 have HX4 : Aside _ := heap_old HX3.out (boxE y.k y.j y.v y.t y.c)
 have HR4 : Aside _ := heap_old HR3.out (boxE y.k y.j y.v y.t y.c)
 have HE4 : Aside _ := heap_old HE3.out (boxE y.k y.j y.v y.t y.c)
 have HY4 : Aside _ := heap_new w3 (boxE y.k y.j y.v y.t y.c)
 have HB4 : Aside _ := grew HB3.out (boxE y.k y.j y.v y.t y.c)
 clear hrow3 hEy hc3 HX3 HR3 HE3 HB3 HCH
 go_upto_region 5 with fail
 generalize w3.alloc (boxE y.k y.j y.v y.t y.c) = w4 at *
 generalize w3.heap.size = yb at *
 clear g0 g1 g2 g3 g4 p0 s0 p1 s1 p2 s2
 have zy := fun i => Joins.cell_of_block HY4.out i
 go_wp2_with fail
 refine (kst _).mono ?_
 rintro e w6 ⟨rfl, hb6⟩
 have HX6 : Aside _ := heap_below HX4.out hb6 (heap_lt HX4.out)
 have HR6 : Aside _ := heap_below HR4.out hb6 (heap_lt HR4.out)
 have HE6 : Aside _ := heap_below HE4.out hb6 (heap_lt HE4.out)
 have HY6 : Aside _ := heap_below HY4.out hb6 (heap_lt HY4.out)
 have HB6 : Aside _ := step_below1 HB4.out hb6
 clear hb6 kst zy HX4 HR4 HE4 HY4 HB4
 go_wp2_with fail
 have hz5 : C5 w6 yb y := c5_of HY6.out
 have hgr : yb ≠ w.heap.size + 1 := by omega
 have hge : yb ≠ w.heap.size + 1 + 1 := by omega
 have HRd : Aside (w6.drew.heap[w.heap.size + 1]? = some (boxRc Rc.zero)) := HR6.out
 have HEd : Aside (w6.drew.heap[w.heap.size + 1 + 1]? = some (boxE 0 0 0 0 0)) := HE6.out
 have HBd : Aside (Below w.heap.size w w6.drew) := HB6.out.drew
 clear HX6 HR6 HE6 HY6 HB6
 refine wp_region_held_drew (S := fun w' => C5 w' yb y) (by kernel_rfl) (hz5) (fun hHeld => ?_)
 clear hz5
 generalize w6.drew = X at *
 refine tk 0 (v := ?_) rfl (by kernel_rfl) (by rfl) (by assumption) (fun _ _ _ h => h) ?_ ?_
 rotate_left
 · intro w0 hSw; (try dsimp only at hSw); go_simp; first | done | with_reducible rfl
 try simp only [Act.put, qa, qb, qc]
 refine tk 1 (v := ?_) rfl (by kernel_rfl) (by rfl) (by assumption) (fun _ _ _ h => h) ?_ ?_
 rotate_left
 · intro w0 hSw; (try dsimp only at hSw); go_simp; first | done | with_reducible rfl
 try simp only [Act.put, qa, qb, qc]
 have zr := fun i => Joins.cell_of_block HRd.out i
 have fr := fun i => Joins.unfrozen_of_block HRd.out i
 have ze := fun i => Joins.cell_of_block HEd.out i
 have fe := fun i => Joins.unfrozen_of_block HEd.out i
 refine rdy 2 (by kernel_rfl) rfl (fun K hK => ?_)
 go_simp
 refine hK.out _ _ (c5_set (c5_set (c5_set (c5_set (c5_set (c5_set (c5_set (c5_set (hHeld) hgr 0 _) hgr 1 _) hgr 2 _) hgr 3 _) hgr 4 _) hgr 5 _) hgr 6 _) hgr 7 _) (fun hHeld => ?_)
 clear hK K
 try simp only [Act.put, qa, qb, qc]
 refine rdy 3 (by kernel_rfl) rfl (fun K hK => ?_)
 go_simp
 refine hK.out _ _ (c5_set (c5_set (c5_set (c5_set (c5_set (hHeld) hge 0 _) hge 1 _) hge 2 _) hge 3 _) hge 4 _) (fun hHeld => ?_)
 clear hK K
 try simp only [Act.put, qa, qb, qc]
 refine tk 4 (v := ?_) rfl (by kernel_rfl) (by rfl) (by assumption) (fun _ _ _ h => h) ?_ ?_
 rotate_left
 · intro w0 hSw; (try dsimp only at hSw); go_simp; first | done | with_reducible rfl
 try simp only [Act.put, qa, qb, qc]
 refine wpAnyH_done (by kernel_rfl) ?_ _
 clear zr fr ze fe
 go_wp2
 have hst := link_stored (w := X) (rb := w.heap.size + 1) (eb := w.heap.size + 1 + 1) HRd.out (f := En.zero) HEd.out (by omega) (Rc.zero) (y) rfl
 exact ret3 (p := 10) (q := 11) (t := 12) (r := Rc.zero) (e := y) Tryz.results105 rfl rfl rfl rfl hst.1 hst.2 ⟨rfl, link_below HBd.out (by omega) (by omega) _ _ _ _ _ _ _ _ _ _ _ _ _⟩
theorem chLink0_new (b off c m : Nat) (ep : Int) (x : En) (U0 U1 U2 : Un) (a0 a1 a2 : Option Addr) (c0 c1 c2 : Nat) (w : World) (hch : ChAt w (.slice (some ⟨b, off, none⟩) 3 c) [⟨U0, .slice a0 60 c0⟩, ⟨U1, .slice a1 60 c1⟩, ⟨U2, .slice a2 60 c2⟩]) (hm : m < 60) (hd : (linkOf [U0, U1, U2] 0 (m : Int) x ep).2.2 = 0) (y : En) (hy : U0.cells[m]? = some y) (hib : y.isB = true) :
  Calls Tryz.prog 105 #[.slice (some ⟨b, off, none⟩) 3 c, .int .i64 0, .int .i64 (m : Int), x.val, .int .i64 ep] w fun e w' => e = .returned (.tuple #[(((⟨1, (m : Int), 0, x⟩, x, 0) : Rc × En × Int)).1.val, (((⟨1, (m : Int), 0, x⟩, x, 0) : Rc × En × Int)).2.1.val, .int .i64 (((⟨1, (m : Int), 0, x⟩, x, 0) : Rc × En × Int)).2.2]) ∧ Below w.heap.size w w' := by
 have HB0 : Aside (Below w.heap.size w (((w.alloc (boxE x.k x.j x.v x.t x.c)).alloc (boxRc Rc.zero)).alloc (boxE 0 0 0 0 0))) := grew (grew (grew (Below.refl _ _) _) _) _
 have HX0 : Aside ((((w.alloc (boxE x.k x.j x.v x.t x.c)).alloc (boxRc Rc.zero)).alloc (boxE 0 0 0 0 0)).heap[w.heap.size]? = some (boxE x.k x.j x.v x.t x.c)) := heap_old (heap_old (heap_new _ _) _) _
 have HR0 : Aside ((((w.alloc (boxE x.k x.j x.v x.t x.c)).alloc (boxRc Rc.zero)).alloc (boxE 0 0 0 0 0)).heap[w.heap.size + 1]? = some (boxRc Rc.zero)) := by
  have := heap_new (w.alloc (boxE x.k x.j x.v x.t x.c)) (boxRc Rc.zero)
  rw [World.size_alloc] at this
  exact heap_old this _
 have HE0 : Aside ((((w.alloc (boxE x.k x.j x.v x.t x.c)).alloc (boxRc Rc.zero)).alloc (boxE 0 0 0 0 0)).heap[w.heap.size + 1 + 1]? = some (boxE 0 0 0 0 0)) := by
  have := heap_new ((w.alloc (boxE x.k x.j x.v x.t x.c)).alloc (boxRc Rc.zero)) (boxE 0 0 0 0 0)
  rwa [World.size_alloc, World.size_alloc] at this
 have hml := may_any _ _ 0 (m : Int) ep x _ (hch.later HB0.out)
 rw [show (linkOf (unitsOf [⟨U0, .slice a0 60 c0⟩, ⟨U1, .slice a1 60 c1⟩, ⟨U2, .slice a2 60 c2⟩]) 0 (m : Int) x ep).2.2 = 0 from hd] at hml
 have kst := fun W => stands_any y W
 rw [hib, Bool.not_true] at kst
 have HCH : Aside (ChAt w (.slice (some ⟨b, off, none⟩) 3 c) [⟨U0, .slice a0 60 c0⟩, ⟨U1, .slice a1 60 c1⟩, ⟨U2, .slice a2 60 c2⟩]) := hch
 have HY : Hid (U0.cells[m]? = some y) := hy
 have hmi : (m : Int) < 60 := by omega
 have hm0 : (0 : Int) ≤ (m : Int) := by omega
 clear hch hd hy hib
 go_enter Tryz.func105, Tryz.ntmps105
 go_wp2_with fail
 refine hml.mono ?_
 rintro e w3 ⟨rfl, hb3⟩
 have HX3 : Aside _ := heap_below HX0.out hb3 (heap_lt HX0.out)
 have HR3 : Aside _ := heap_below HR0.out hb3 (heap_lt HR0.out)
 have HE3 : Aside _ := heap_below HE0.out hb3 (heap_lt HE0.out)
 have HB3 : Aside _ := step_below1 HB0.out hb3
 clear hb3 HX0 HR0 HE0 HB0
 clear hml
 have hc3 := HCH.out.later HB3.out
 obtain ⟨b3, off3, eb3, hrow3⟩ := hc3.rows.at (by omega)
 injection eb3 with eb3
 injection eb3 with eb4 eb5 _
 subst eb4 eb5
 obtain ⟨⟨p0, s0⟩, ⟨p1, s1⟩, ⟨p2, s2⟩⟩ := row_three hrow3
 obtain ⟨by_, oy, ey, hEy⟩ := SlOf.at (cs := En.cells) (k := 5) (hc3.each ⟨U0, .slice a0 60 c0⟩ (by simp)).ents (by omega)
 subst ey
 have g0 : w3.cell? ⟨by_, oy + m * 5, none⟩ = some (.int .i64 y.k) := hEy m y HY.out 0 _ rfl
 have g1 : w3.cell? ⟨by_, oy + m * 5 + 1, none⟩ = some (.int .i64 y.j) := hEy m y HY.out 1 _ rfl
 have g2 : w3.cell? ⟨by_, oy + m * 5 + 2, none⟩ = some (.int .i64 y.v) := hEy m y HY.out 2 _ rfl
 have g3 : w3.cell? ⟨by_, oy + m * 5 + 3, none⟩ = some (.int .i64 y.t) := hEy m y HY.out 3 _ rfl
 have g4 : w3.cell? ⟨by_, oy + m * 5 + 4, none⟩ = some (.int .i64 y.c) := hEy m y HY.out 4 _ rfl
 have hyb := heap_lt HE3.out
 have HX4 : Aside _ := heap_old HX3.out (boxE y.k y.j y.v y.t y.c)
 have HR4 : Aside _ := heap_old HR3.out (boxE y.k y.j y.v y.t y.c)
 have HE4 : Aside _ := heap_old HE3.out (boxE y.k y.j y.v y.t y.c)
 have HY4 : Aside _ := heap_new w3 (boxE y.k y.j y.v y.t y.c)
 have HB4 : Aside _ := grew HB3.out (boxE y.k y.j y.v y.t y.c)
 clear hrow3 hEy hc3 HX3 HR3 HE3 HB3 HCH
 go_upto_region 5 with fail
 generalize w3.alloc (boxE y.k y.j y.v y.t y.c) = w4 at *
 generalize w3.heap.size = yb at *
 clear g0 g1 g2 g3 g4 p0 s0 p1 s1 p2 s2
 have zy := fun i => Joins.cell_of_block HY4.out i
 go_wp2_with fail
 refine (kst _).mono ?_
 rintro e w6 ⟨rfl, hb6⟩
 have HX6 : Aside _ := heap_below HX4.out hb6 (heap_lt HX4.out)
 have HR6 : Aside _ := heap_below HR4.out hb6 (heap_lt HR4.out)
 have HE6 : Aside _ := heap_below HE4.out hb6 (heap_lt HE4.out)
 have HY6 : Aside _ := heap_below HY4.out hb6 (heap_lt HY4.out)
 have HB6 : Aside _ := step_below1 HB4.out hb6
 clear hb6 kst zy HX4 HR4 HE4 HY4 HB4
 go_wp2_with fail
 have hz5 : C5 w6 w.heap.size x := c5_of HX6.out
 have hgr : w.heap.size ≠ w.heap.size + 1 := by omega
 have hge : w.heap.size ≠ w.heap.size + 1 + 1 := by omega
 have HRd : Aside (w6.drew.heap[w.heap.size + 1]? = some (boxRc Rc.zero)) := HR6.out
 have HEd : Aside (w6.drew.heap[w.heap.size + 1 + 1]? = some (boxE 0 0 0 0 0)) := HE6.out
 have HBd : Aside (Below w.heap.size w w6.drew) := HB6.out.drew
 clear HX6 HR6 HE6 HY6 HB6
 refine wp_region_held_drew (S := fun w' => C5 w' w.heap.size x) (by kernel_rfl) (hz5) (fun hHeld => ?_)
 clear hz5
 generalize w6.drew = X at *
 refine tk 0 (v := ?_) rfl (by kernel_rfl) (by rfl) (by assumption) (fun _ _ _ h => h) ?_ ?_
 rotate_left
 · intro w0 hSw; (try dsimp only at hSw); go_simp; first | done | with_reducible rfl
 try simp only [Act.put, qa, qb, qc]
 refine tk 1 (v := ?_) rfl (by kernel_rfl) (by rfl) (by assumption) (fun _ _ _ h => h) ?_ ?_
 rotate_left
 · intro w0 hSw; (try dsimp only at hSw); go_simp; first | done | with_reducible rfl
 try simp only [Act.put, qa, qb, qc]
 refine tk 2 (v := ?_) rfl (by kernel_rfl) (by rfl) (by assumption) (fun _ _ _ h => h) ?_ ?_
 rotate_left
 · intro w0 hSw; (try dsimp only at hSw); go_simp; first | done | with_reducible rfl
 try simp only [Act.put, qa, qb, qc]
 refine tk 3 (v := ?_) rfl (by kernel_rfl) (by rfl) (by assumption) (fun _ _ _ h => h) ?_ ?_
 rotate_left
 · intro w0 hSw; (try dsimp only at hSw); go_simp; first | done | with_reducible rfl
 try simp only [Act.put, qa, qb, qc]
 have zr := fun i => Joins.cell_of_block HRd.out i
 have fr := fun i => Joins.unfrozen_of_block HRd.out i
 have ze := fun i => Joins.cell_of_block HEd.out i
 have fe := fun i => Joins.unfrozen_of_block HEd.out i
 refine rdy 4 (by kernel_rfl) rfl (fun K hK => ?_)
 go_simp
 refine hK.out _ _ (c5_set (c5_set (c5_set (c5_set (c5_set (c5_set (c5_set (c5_set (hHeld) hgr 0 _) hgr 1 _) hgr 2 _) hgr 3 _) hgr 4 _) hgr 5 _) hgr 6 _) hgr 7 _) (fun hHeld => ?_)
 clear hK K
 try simp only [Act.put, qa, qb, qc]
 refine rdy 5 (by kernel_rfl) rfl (fun K hK => ?_)
 go_simp
 refine hK.out _ _ (c5_set (c5_set (c5_set (c5_set (c5_set (hHeld) hge 0 _) hge 1 _) hge 2 _) hge 3 _) hge 4 _) (fun hHeld => ?_)
 clear hK K
 try simp only [Act.put, qa, qb, qc]
 refine tk 6 (v := ?_) rfl (by kernel_rfl) (by rfl) (by assumption) (fun _ _ _ h => h) ?_ ?_
 rotate_left
 · intro w0 hSw; (try dsimp only at hSw); go_simp; first | done | with_reducible rfl
 try simp only [Act.put, qa, qb, qc]
 refine wpAnyH_done (by kernel_rfl) ?_ _
 clear zr fr ze fe
 go_wp2
 have hst := link_stored (w := X) (rb := w.heap.size + 1) (eb := w.heap.size + 1 + 1) HRd.out (f := En.zero) HEd.out (by omega) (⟨1, (m : Int), 0, x⟩) (x) rfl
 exact ret3 (p := 10) (q := 11) (t := 12) (r := ⟨1, (m : Int), 0, x⟩) (e := x) Tryz.results105 rfl rfl rfl rfl hst.1 hst.2 ⟨rfl, link_below HBd.out (by omega) (by omega) _ _ _ _ _ _ _ _ _ _ _ _ _⟩
theorem chLink1_stands (b off c m : Nat) (ep : Int) (x : En) (U0 U1 U2 : Un) (a0 a1 a2 : Option Addr) (c0 c1 c2 : Nat) (w : World) (hch : ChAt w (.slice (some ⟨b, off, none⟩) 3 c) [⟨U0, .slice a0 60 c0⟩, ⟨U1, .slice a1 60 c1⟩, ⟨U2, .slice a2 60 c2⟩]) (hm : m < 60) (hd : (linkOf [U0, U1, U2] 1 (m : Int) x ep).2.2 = 0) (y : En) (hy : U1.cells[m]? = some y) (hib : y.isB = false) :
  Calls Tryz.prog 105 #[.slice (some ⟨b, off, none⟩) 3 c, .int .i64 1, .int .i64 (m : Int), x.val, .int .i64 ep] w fun e w' => e = .returned (.tuple #[(((Rc.zero, y, 0) : Rc × En × Int)).1.val, (((Rc.zero, y, 0) : Rc × En × Int)).2.1.val, .int .i64 (((Rc.zero, y, 0) : Rc × En × Int)).2.2]) ∧ Below w.heap.size w w' := by
 have HB0 : Aside (Below w.heap.size w (((w.alloc (boxE x.k x.j x.v x.t x.c)).alloc (boxRc Rc.zero)).alloc (boxE 0 0 0 0 0))) := grew (grew (grew (Below.refl _ _) _) _) _
 have HX0 : Aside ((((w.alloc (boxE x.k x.j x.v x.t x.c)).alloc (boxRc Rc.zero)).alloc (boxE 0 0 0 0 0)).heap[w.heap.size]? = some (boxE x.k x.j x.v x.t x.c)) := heap_old (heap_old (heap_new _ _) _) _
 have HR0 : Aside ((((w.alloc (boxE x.k x.j x.v x.t x.c)).alloc (boxRc Rc.zero)).alloc (boxE 0 0 0 0 0)).heap[w.heap.size + 1]? = some (boxRc Rc.zero)) := by
  have := heap_new (w.alloc (boxE x.k x.j x.v x.t x.c)) (boxRc Rc.zero)
  rw [World.size_alloc] at this
  exact heap_old this _
 have HE0 : Aside ((((w.alloc (boxE x.k x.j x.v x.t x.c)).alloc (boxRc Rc.zero)).alloc (boxE 0 0 0 0 0)).heap[w.heap.size + 1 + 1]? = some (boxE 0 0 0 0 0)) := by
  have := heap_new ((w.alloc (boxE x.k x.j x.v x.t x.c)).alloc (boxRc Rc.zero)) (boxE 0 0 0 0 0)
  rwa [World.size_alloc, World.size_alloc] at this
 have hml := may_any _ _ 1 (m : Int) ep x _ (hch.later HB0.out)
 rw [show (linkOf (unitsOf [⟨U0, .slice a0 60 c0⟩, ⟨U1, .slice a1 60 c1⟩, ⟨U2, .slice a2 60 c2⟩]) 1 (m : Int) x ep).2.2 = 0 from hd] at hml
 have kst := fun W => stands_any y W
 rw [hib, Bool.not_false] at kst
 have HCH : Aside (ChAt w (.slice (some ⟨b, off, none⟩) 3 c) [⟨U0, .slice a0 60 c0⟩, ⟨U1, .slice a1 60 c1⟩, ⟨U2, .slice a2 60 c2⟩]) := hch
 have HY : Hid (U1.cells[m]? = some y) := hy
 have hmi : (m : Int) < 60 := by omega
 have hm0 : (0 : Int) ≤ (m : Int) := by omega
 clear hch hd hy hib
 go_enter Tryz.func105, Tryz.ntmps105
 go_wp2_with fail
 refine hml.mono ?_
 rintro e w3 ⟨rfl, hb3⟩
 have HX3 : Aside _ := heap_below HX0.out hb3 (heap_lt HX0.out)
 have HR3 : Aside _ := heap_below HR0.out hb3 (heap_lt HR0.out)
 have HE3 : Aside _ := heap_below HE0.out hb3 (heap_lt HE0.out)
 have HB3 : Aside _ := step_below1 HB0.out hb3
 clear hb3 HX0 HR0 HE0 HB0
 clear hml
 have hc3 := HCH.out.later HB3.out
 obtain ⟨b3, off3, eb3, hrow3⟩ := hc3.rows.at (by omega)
 injection eb3 with eb3
 injection eb3 with eb4 eb5 _
 subst eb4 eb5
 obtain ⟨⟨p0, s0⟩, ⟨p1, s1⟩, ⟨p2, s2⟩⟩ := row_three hrow3
 obtain ⟨by_, oy, ey, hEy⟩ := SlOf.at (cs := En.cells) (k := 5) (hc3.each ⟨U1, .slice a1 60 c1⟩ (by simp)).ents (by omega)
 subst ey
 have g0 : w3.cell? ⟨by_, oy + m * 5, none⟩ = some (.int .i64 y.k) := hEy m y HY.out 0 _ rfl
 have g1 : w3.cell? ⟨by_, oy + m * 5 + 1, none⟩ = some (.int .i64 y.j) := hEy m y HY.out 1 _ rfl
 have g2 : w3.cell? ⟨by_, oy + m * 5 + 2, none⟩ = some (.int .i64 y.v) := hEy m y HY.out 2 _ rfl
 have g3 : w3.cell? ⟨by_, oy + m * 5 + 3, none⟩ = some (.int .i64 y.t) := hEy m y HY.out 3 _ rfl
 have g4 : w3.cell? ⟨by_, oy + m * 5 + 4, none⟩ = some (.int .i64 y.c) := hEy m y HY.out 4 _ rfl
 have hyb := heap_lt HE3.out
 have HX4 : Aside _ := heap_old HX3.out (boxE y.k y.j y.v y.t y.c)
 have HR4 : Aside _ := heap_old HR3.out (boxE y.k y.j y.v y.t y.c)
 have HE4 : Aside _ := heap_old HE3.out (boxE y.k y.j y.v y.t y.c)
 have HY4 : Aside _ := heap_new w3 (boxE y.k y.j y.v y.t y.c)
 have HB4 : Aside _ := grew HB3.out (boxE y.k y.j y.v y.t y.c)
 clear hrow3 hEy hc3 HX3 HR3 HE3 HB3 HCH
 go_upto_region 5 with fail
 generalize w3.alloc (boxE y.k y.j y.v y.t y.c) = w4 at *
 generalize w3.heap.size = yb at *
 clear g0 g1 g2 g3 g4 p0 s0 p1 s1 p2 s2
 have zy := fun i => Joins.cell_of_block HY4.out i
 go_wp2_with fail
 refine (kst _).mono ?_
 rintro e w6 ⟨rfl, hb6⟩
 have HX6 : Aside _ := heap_below HX4.out hb6 (heap_lt HX4.out)
 have HR6 : Aside _ := heap_below HR4.out hb6 (heap_lt HR4.out)
 have HE6 : Aside _ := heap_below HE4.out hb6 (heap_lt HE4.out)
 have HY6 : Aside _ := heap_below HY4.out hb6 (heap_lt HY4.out)
 have HB6 : Aside _ := step_below1 HB4.out hb6
 clear hb6 kst zy HX4 HR4 HE4 HY4 HB4
 go_wp2_with fail
 have hz5 : C5 w6 yb y := c5_of HY6.out
 have hgr : yb ≠ w.heap.size + 1 := by omega
 have hge : yb ≠ w.heap.size + 1 + 1 := by omega
 have HRd : Aside (w6.drew.heap[w.heap.size + 1]? = some (boxRc Rc.zero)) := HR6.out
 have HEd : Aside (w6.drew.heap[w.heap.size + 1 + 1]? = some (boxE 0 0 0 0 0)) := HE6.out
 have HBd : Aside (Below w.heap.size w w6.drew) := HB6.out.drew
 clear HX6 HR6 HE6 HY6 HB6
 refine wp_region_held_drew (S := fun w' => C5 w' yb y) (by kernel_rfl) (hz5) (fun hHeld => ?_)
 clear hz5
 generalize w6.drew = X at *
 refine tk 0 (v := ?_) rfl (by kernel_rfl) (by rfl) (by assumption) (fun _ _ _ h => h) ?_ ?_
 rotate_left
 · intro w0 hSw; (try dsimp only at hSw); go_simp; first | done | with_reducible rfl
 try simp only [Act.put, qa, qb, qc]
 refine tk 1 (v := ?_) rfl (by kernel_rfl) (by rfl) (by assumption) (fun _ _ _ h => h) ?_ ?_
 rotate_left
 · intro w0 hSw; (try dsimp only at hSw); go_simp; first | done | with_reducible rfl
 try simp only [Act.put, qa, qb, qc]
 have zr := fun i => Joins.cell_of_block HRd.out i
 have fr := fun i => Joins.unfrozen_of_block HRd.out i
 have ze := fun i => Joins.cell_of_block HEd.out i
 have fe := fun i => Joins.unfrozen_of_block HEd.out i
 refine rdy 2 (by kernel_rfl) rfl (fun K hK => ?_)
 go_simp
 refine hK.out _ _ (c5_set (c5_set (c5_set (c5_set (c5_set (c5_set (c5_set (c5_set (hHeld) hgr 0 _) hgr 1 _) hgr 2 _) hgr 3 _) hgr 4 _) hgr 5 _) hgr 6 _) hgr 7 _) (fun hHeld => ?_)
 clear hK K
 try simp only [Act.put, qa, qb, qc]
 refine rdy 3 (by kernel_rfl) rfl (fun K hK => ?_)
 go_simp
 refine hK.out _ _ (c5_set (c5_set (c5_set (c5_set (c5_set (hHeld) hge 0 _) hge 1 _) hge 2 _) hge 3 _) hge 4 _) (fun hHeld => ?_)
 clear hK K
 try simp only [Act.put, qa, qb, qc]
 refine tk 4 (v := ?_) rfl (by kernel_rfl) (by rfl) (by assumption) (fun _ _ _ h => h) ?_ ?_
 rotate_left
 · intro w0 hSw; (try dsimp only at hSw); go_simp; first | done | with_reducible rfl
 try simp only [Act.put, qa, qb, qc]
 refine wpAnyH_done (by kernel_rfl) ?_ _
 clear zr fr ze fe
 go_wp2
 have hst := link_stored (w := X) (rb := w.heap.size + 1) (eb := w.heap.size + 1 + 1) HRd.out (f := En.zero) HEd.out (by omega) (Rc.zero) (y) rfl
 exact ret3 (p := 10) (q := 11) (t := 12) (r := Rc.zero) (e := y) Tryz.results105 rfl rfl rfl rfl hst.1 hst.2 ⟨rfl, link_below HBd.out (by omega) (by omega) _ _ _ _ _ _ _ _ _ _ _ _ _⟩
theorem chLink1_new (b off c m : Nat) (ep : Int) (x : En) (U0 U1 U2 : Un) (a0 a1 a2 : Option Addr) (c0 c1 c2 : Nat) (w : World) (hch : ChAt w (.slice (some ⟨b, off, none⟩) 3 c) [⟨U0, .slice a0 60 c0⟩, ⟨U1, .slice a1 60 c1⟩, ⟨U2, .slice a2 60 c2⟩]) (hm : m < 60) (hd : (linkOf [U0, U1, U2] 1 (m : Int) x ep).2.2 = 0) (y : En) (hy : U1.cells[m]? = some y) (hib : y.isB = true) :
  Calls Tryz.prog 105 #[.slice (some ⟨b, off, none⟩) 3 c, .int .i64 1, .int .i64 (m : Int), x.val, .int .i64 ep] w fun e w' => e = .returned (.tuple #[(((⟨1, (m : Int), 0, x⟩, x, 0) : Rc × En × Int)).1.val, (((⟨1, (m : Int), 0, x⟩, x, 0) : Rc × En × Int)).2.1.val, .int .i64 (((⟨1, (m : Int), 0, x⟩, x, 0) : Rc × En × Int)).2.2]) ∧ Below w.heap.size w w' := by
 have HB0 : Aside (Below w.heap.size w (((w.alloc (boxE x.k x.j x.v x.t x.c)).alloc (boxRc Rc.zero)).alloc (boxE 0 0 0 0 0))) := grew (grew (grew (Below.refl _ _) _) _) _
 have HX0 : Aside ((((w.alloc (boxE x.k x.j x.v x.t x.c)).alloc (boxRc Rc.zero)).alloc (boxE 0 0 0 0 0)).heap[w.heap.size]? = some (boxE x.k x.j x.v x.t x.c)) := heap_old (heap_old (heap_new _ _) _) _
 have HR0 : Aside ((((w.alloc (boxE x.k x.j x.v x.t x.c)).alloc (boxRc Rc.zero)).alloc (boxE 0 0 0 0 0)).heap[w.heap.size + 1]? = some (boxRc Rc.zero)) := by
  have := heap_new (w.alloc (boxE x.k x.j x.v x.t x.c)) (boxRc Rc.zero)
  rw [World.size_alloc] at this
  exact heap_old this _
 have HE0 : Aside ((((w.alloc (boxE x.k x.j x.v x.t x.c)).alloc (boxRc Rc.zero)).alloc (boxE 0 0 0 0 0)).heap[w.heap.size + 1 + 1]? = some (boxE 0 0 0 0 0)) := by
  have := heap_new ((w.alloc (boxE x.k x.j x.v x.t x.c)).alloc (boxRc Rc.zero)) (boxE 0 0 0 0 0)
  rwa [World.size_alloc, World.size_alloc] at this
 have hml := may_any _ _ 1 (m : Int) ep x _ (hch.later HB0.out)
 rw [show (linkOf (unitsOf [⟨U0, .slice a0 60 c0⟩, ⟨U1, .slice a1 60 c1⟩, ⟨U2, .slice a2 60 c2⟩]) 1 (m : Int) x ep).2.2 = 0 from hd] at hml
 have kst := fun W => stands_any y W
 rw [hib, Bool.not_true] at kst
 have HCH : Aside (ChAt w (.slice (some ⟨b, off, none⟩) 3 c) [⟨U0, .slice a0 60 c0⟩, ⟨U1, .slice a1 60 c1⟩, ⟨U2, .slice a2 60 c2⟩]) := hch
 have HY : Hid (U1.cells[m]? = some y) := hy
 have hmi : (m : Int) < 60 := by omega
 have hm0 : (0 : Int) ≤ (m : Int) := by omega
 clear hch hd hy hib
 go_enter Tryz.func105, Tryz.ntmps105
 go_wp2_with fail
 refine hml.mono ?_
 rintro e w3 ⟨rfl, hb3⟩
 have HX3 : Aside _ := heap_below HX0.out hb3 (heap_lt HX0.out)
 have HR3 : Aside _ := heap_below HR0.out hb3 (heap_lt HR0.out)
 have HE3 : Aside _ := heap_below HE0.out hb3 (heap_lt HE0.out)
 have HB3 : Aside _ := step_below1 HB0.out hb3
 clear hb3 HX0 HR0 HE0 HB0
 clear hml
 have hc3 := HCH.out.later HB3.out
 obtain ⟨b3, off3, eb3, hrow3⟩ := hc3.rows.at (by omega)
 injection eb3 with eb3
 injection eb3 with eb4 eb5 _
 subst eb4 eb5
 obtain ⟨⟨p0, s0⟩, ⟨p1, s1⟩, ⟨p2, s2⟩⟩ := row_three hrow3
 obtain ⟨by_, oy, ey, hEy⟩ := SlOf.at (cs := En.cells) (k := 5) (hc3.each ⟨U1, .slice a1 60 c1⟩ (by simp)).ents (by omega)
 subst ey
 have g0 : w3.cell? ⟨by_, oy + m * 5, none⟩ = some (.int .i64 y.k) := hEy m y HY.out 0 _ rfl
 have g1 : w3.cell? ⟨by_, oy + m * 5 + 1, none⟩ = some (.int .i64 y.j) := hEy m y HY.out 1 _ rfl
 have g2 : w3.cell? ⟨by_, oy + m * 5 + 2, none⟩ = some (.int .i64 y.v) := hEy m y HY.out 2 _ rfl
 have g3 : w3.cell? ⟨by_, oy + m * 5 + 3, none⟩ = some (.int .i64 y.t) := hEy m y HY.out 3 _ rfl
 have g4 : w3.cell? ⟨by_, oy + m * 5 + 4, none⟩ = some (.int .i64 y.c) := hEy m y HY.out 4 _ rfl
 have hyb := heap_lt HE3.out
 have HX4 : Aside _ := heap_old HX3.out (boxE y.k y.j y.v y.t y.c)
 have HR4 : Aside _ := heap_old HR3.out (boxE y.k y.j y.v y.t y.c)
 have HE4 : Aside _ := heap_old HE3.out (boxE y.k y.j y.v y.t y.c)
 have HY4 : Aside _ := heap_new w3 (boxE y.k y.j y.v y.t y.c)
 have HB4 : Aside _ := grew HB3.out (boxE y.k y.j y.v y.t y.c)
 clear hrow3 hEy hc3 HX3 HR3 HE3 HB3 HCH
 go_upto_region 5 with fail
 generalize w3.alloc (boxE y.k y.j y.v y.t y.c) = w4 at *
 generalize w3.heap.size = yb at *
 clear g0 g1 g2 g3 g4 p0 s0 p1 s1 p2 s2
 have zy := fun i => Joins.cell_of_block HY4.out i
 go_wp2_with fail
 refine (kst _).mono ?_
 rintro e w6 ⟨rfl, hb6⟩
 have HX6 : Aside _ := heap_below HX4.out hb6 (heap_lt HX4.out)
 have HR6 : Aside _ := heap_below HR4.out hb6 (heap_lt HR4.out)
 have HE6 : Aside _ := heap_below HE4.out hb6 (heap_lt HE4.out)
 have HY6 : Aside _ := heap_below HY4.out hb6 (heap_lt HY4.out)
 have HB6 : Aside _ := step_below1 HB4.out hb6
 clear hb6 kst zy HX4 HR4 HE4 HY4 HB4
 go_wp2_with fail
 have hz5 : C5 w6 w.heap.size x := c5_of HX6.out
 have hgr : w.heap.size ≠ w.heap.size + 1 := by omega
 have hge : w.heap.size ≠ w.heap.size + 1 + 1 := by omega
 have HRd : Aside (w6.drew.heap[w.heap.size + 1]? = some (boxRc Rc.zero)) := HR6.out
 have HEd : Aside (w6.drew.heap[w.heap.size + 1 + 1]? = some (boxE 0 0 0 0 0)) := HE6.out
 have HBd : Aside (Below w.heap.size w w6.drew) := HB6.out.drew
 clear HX6 HR6 HE6 HY6 HB6
 refine wp_region_held_drew (S := fun w' => C5 w' w.heap.size x) (by kernel_rfl) (hz5) (fun hHeld => ?_)
 clear hz5
 generalize w6.drew = X at *
 refine tk 0 (v := ?_) rfl (by kernel_rfl) (by rfl) (by assumption) (fun _ _ _ h => h) ?_ ?_
 rotate_left
 · intro w0 hSw; (try dsimp only at hSw); go_simp; first | done | with_reducible rfl
 try simp only [Act.put, qa, qb, qc]
 refine tk 1 (v := ?_) rfl (by kernel_rfl) (by rfl) (by assumption) (fun _ _ _ h => h) ?_ ?_
 rotate_left
 · intro w0 hSw; (try dsimp only at hSw); go_simp; first | done | with_reducible rfl
 try simp only [Act.put, qa, qb, qc]
 refine tk 2 (v := ?_) rfl (by kernel_rfl) (by rfl) (by assumption) (fun _ _ _ h => h) ?_ ?_
 rotate_left
 · intro w0 hSw; (try dsimp only at hSw); go_simp; first | done | with_reducible rfl
 try simp only [Act.put, qa, qb, qc]
 refine tk 3 (v := ?_) rfl (by kernel_rfl) (by rfl) (by assumption) (fun _ _ _ h => h) ?_ ?_
 rotate_left
 · intro w0 hSw; (try dsimp only at hSw); go_simp; first | done | with_reducible rfl
 try simp only [Act.put, qa, qb, qc]
 have zr := fun i => Joins.cell_of_block HRd.out i
 have fr := fun i => Joins.unfrozen_of_block HRd.out i
 have ze := fun i => Joins.cell_of_block HEd.out i
 have fe := fun i => Joins.unfrozen_of_block HEd.out i
 refine rdy 4 (by kernel_rfl) rfl (fun K hK => ?_)
 go_simp
 refine hK.out _ _ (c5_set (c5_set (c5_set (c5_set (c5_set (c5_set (c5_set (c5_set (hHeld) hgr 0 _) hgr 1 _) hgr 2 _) hgr 3 _) hgr 4 _) hgr 5 _) hgr 6 _) hgr 7 _) (fun hHeld => ?_)
 clear hK K
 try simp only [Act.put, qa, qb, qc]
 refine rdy 5 (by kernel_rfl) rfl (fun K hK => ?_)
 go_simp
 refine hK.out _ _ (c5_set (c5_set (c5_set (c5_set (c5_set (hHeld) hge 0 _) hge 1 _) hge 2 _) hge 3 _) hge 4 _) (fun hHeld => ?_)
 clear hK K
 try simp only [Act.put, qa, qb, qc]
 refine tk 6 (v := ?_) rfl (by kernel_rfl) (by rfl) (by assumption) (fun _ _ _ h => h) ?_ ?_
 rotate_left
 · intro w0 hSw; (try dsimp only at hSw); go_simp; first | done | with_reducible rfl
 try simp only [Act.put, qa, qb, qc]
 refine wpAnyH_done (by kernel_rfl) ?_ _
 clear zr fr ze fe
 go_wp2
 have hst := link_stored (w := X) (rb := w.heap.size + 1) (eb := w.heap.size + 1 + 1) HRd.out (f := En.zero) HEd.out (by omega) (⟨1, (m : Int), 0, x⟩) (x) rfl
 exact ret3 (p := 10) (q := 11) (t := 12) (r := ⟨1, (m : Int), 0, x⟩) (e := x) Tryz.results105 rfl rfl rfl rfl hst.1 hst.2 ⟨rfl, link_below HBd.out (by omega) (by omega) _ _ _ _ _ _ _ _ _ _ _ _ _⟩
theorem chLink2_stands (b off c m : Nat) (ep : Int) (x : En) (U0 U1 U2 : Un) (a0 a1 a2 : Option Addr) (c0 c1 c2 : Nat) (w : World) (hch : ChAt w (.slice (some ⟨b, off, none⟩) 3 c) [⟨U0, .slice a0 60 c0⟩, ⟨U1, .slice a1 60 c1⟩, ⟨U2, .slice a2 60 c2⟩]) (hm : m < 60) (hd : (linkOf [U0, U1, U2] 2 (m : Int) x ep).2.2 = 0) (y : En) (hy : U2.cells[m]? = some y) (hib : y.isB = false) :
  Calls Tryz.prog 105 #[.slice (some ⟨b, off, none⟩) 3 c, .int .i64 2, .int .i64 (m : Int), x.val, .int .i64 ep] w fun e w' => e = .returned (.tuple #[(((Rc.zero, y, 0) : Rc × En × Int)).1.val, (((Rc.zero, y, 0) : Rc × En × Int)).2.1.val, .int .i64 (((Rc.zero, y, 0) : Rc × En × Int)).2.2]) ∧ Below w.heap.size w w' := by
 have HB0 : Aside (Below w.heap.size w (((w.alloc (boxE x.k x.j x.v x.t x.c)).alloc (boxRc Rc.zero)).alloc (boxE 0 0 0 0 0))) := grew (grew (grew (Below.refl _ _) _) _) _
 have HX0 : Aside ((((w.alloc (boxE x.k x.j x.v x.t x.c)).alloc (boxRc Rc.zero)).alloc (boxE 0 0 0 0 0)).heap[w.heap.size]? = some (boxE x.k x.j x.v x.t x.c)) := heap_old (heap_old (heap_new _ _) _) _
 have HR0 : Aside ((((w.alloc (boxE x.k x.j x.v x.t x.c)).alloc (boxRc Rc.zero)).alloc (boxE 0 0 0 0 0)).heap[w.heap.size + 1]? = some (boxRc Rc.zero)) := by
  have := heap_new (w.alloc (boxE x.k x.j x.v x.t x.c)) (boxRc Rc.zero)
  rw [World.size_alloc] at this
  exact heap_old this _
 have HE0 : Aside ((((w.alloc (boxE x.k x.j x.v x.t x.c)).alloc (boxRc Rc.zero)).alloc (boxE 0 0 0 0 0)).heap[w.heap.size + 1 + 1]? = some (boxE 0 0 0 0 0)) := by
  have := heap_new ((w.alloc (boxE x.k x.j x.v x.t x.c)).alloc (boxRc Rc.zero)) (boxE 0 0 0 0 0)
  rwa [World.size_alloc, World.size_alloc] at this
 have hml := may_any _ _ 2 (m : Int) ep x _ (hch.later HB0.out)
 rw [show (linkOf (unitsOf [⟨U0, .slice a0 60 c0⟩, ⟨U1, .slice a1 60 c1⟩, ⟨U2, .slice a2 60 c2⟩]) 2 (m : Int) x ep).2.2 = 0 from hd] at hml
 have kst := fun W => stands_any y W
 rw [hib, Bool.not_false] at kst
 have HCH : Aside (ChAt w (.slice (some ⟨b, off, none⟩) 3 c) [⟨U0, .slice a0 60 c0⟩, ⟨U1, .slice a1 60 c1⟩, ⟨U2, .slice a2 60 c2⟩]) := hch
 have HY : Hid (U2.cells[m]? = some y) := hy
 have hmi : (m : Int) < 60 := by omega
 have hm0 : (0 : Int) ≤ (m : Int) := by omega
 clear hch hd hy hib
 go_enter Tryz.func105, Tryz.ntmps105
 go_wp2_with fail
 refine hml.mono ?_
 rintro e w3 ⟨rfl, hb3⟩
 have HX3 : Aside _ := heap_below HX0.out hb3 (heap_lt HX0.out)
 have HR3 : Aside _ := heap_below HR0.out hb3 (heap_lt HR0.out)
 have HE3 : Aside _ := heap_below HE0.out hb3 (heap_lt HE0.out)
 have HB3 : Aside _ := step_below1 HB0.out hb3
 clear hb3 HX0 HR0 HE0 HB0
 clear hml
 have hc3 := HCH.out.later HB3.out
 obtain ⟨b3, off3, eb3, hrow3⟩ := hc3.rows.at (by omega)
 injection eb3 with eb3
 injection eb3 with eb4 eb5 _
 subst eb4 eb5
 obtain ⟨⟨p0, s0⟩, ⟨p1, s1⟩, ⟨p2, s2⟩⟩ := row_three hrow3
 obtain ⟨by_, oy, ey, hEy⟩ := SlOf.at (cs := En.cells) (k := 5) (hc3.each ⟨U2, .slice a2 60 c2⟩ (by simp)).ents (by omega)
 subst ey
 have g0 : w3.cell? ⟨by_, oy + m * 5, none⟩ = some (.int .i64 y.k) := hEy m y HY.out 0 _ rfl
 have g1 : w3.cell? ⟨by_, oy + m * 5 + 1, none⟩ = some (.int .i64 y.j) := hEy m y HY.out 1 _ rfl
 have g2 : w3.cell? ⟨by_, oy + m * 5 + 2, none⟩ = some (.int .i64 y.v) := hEy m y HY.out 2 _ rfl
 have g3 : w3.cell? ⟨by_, oy + m * 5 + 3, none⟩ = some (.int .i64 y.t) := hEy m y HY.out 3 _ rfl
 have g4 : w3.cell? ⟨by_, oy + m * 5 + 4, none⟩ = some (.int .i64 y.c) := hEy m y HY.out 4 _ rfl
 have hyb := heap_lt HE3.out
 have HX4 : Aside _ := heap_old HX3.out (boxE y.k y.j y.v y.t y.c)
 have HR4 : Aside _ := heap_old HR3.out (boxE y.k y.j y.v y.t y.c)
 have HE4 : Aside _ := heap_old HE3.out (boxE y.k y.j y.v y.t y.c)
 have HY4 : Aside _ := heap_new w3 (boxE y.k y.j y.v y.t y.c)
 have HB4 : Aside _ := grew HB3.out (boxE y.k y.j y.v y.t y.c)
 clear hrow3 hEy hc3 HX3 HR3 HE3 HB3 HCH
 go_upto_region 5 with fail
 generalize w3.alloc (boxE y.k y.j y.v y.t y.c) = w4 at *
 generalize w3.heap.size = yb at *
 clear g0 g1 g2 g3 g4 p0 s0 p1 s1 p2 s2
 have zy := fun i => Joins.cell_of_block HY4.out i
 go_wp2_with fail
 refine (kst _).mono ?_
 rintro e w6 ⟨rfl, hb6⟩
 have HX6 : Aside _ := heap_below HX4.out hb6 (heap_lt HX4.out)
 have HR6 : Aside _ := heap_below HR4.out hb6 (heap_lt HR4.out)
 have HE6 : Aside _ := heap_below HE4.out hb6 (heap_lt HE4.out)
 have HY6 : Aside _ := heap_below HY4.out hb6 (heap_lt HY4.out)
 have HB6 : Aside _ := step_below1 HB4.out hb6
 clear hb6 kst zy HX4 HR4 HE4 HY4 HB4
 go_wp2_with fail
 have hz5 : C5 w6 yb y := c5_of HY6.out
 have hgr : yb ≠ w.heap.size + 1 := by omega
 have hge : yb ≠ w.heap.size + 1 + 1 := by omega
 have HRd : Aside (w6.drew.heap[w.heap.size + 1]? = some (boxRc Rc.zero)) := HR6.out
 have HEd : Aside (w6.drew.heap[w.heap.size + 1 + 1]? = some (boxE 0 0 0 0 0)) := HE6.out
 have HBd : Aside (Below w.heap.size w w6.drew) := HB6.out.drew
 clear HX6 HR6 HE6 HY6 HB6
 refine wp_region_held_drew (S := fun w' => C5 w' yb y) (by kernel_rfl) (hz5) (fun hHeld => ?_)
 clear hz5
 generalize w6.drew = X at *
 refine tk 0 (v := ?_) rfl (by kernel_rfl) (by rfl) (by assumption) (fun _ _ _ h => h) ?_ ?_
 rotate_left
 · intro w0 hSw; (try dsimp only at hSw); go_simp; first | done | with_reducible rfl
 try simp only [Act.put, qa, qb, qc]
 refine tk 1 (v := ?_) rfl (by kernel_rfl) (by rfl) (by assumption) (fun _ _ _ h => h) ?_ ?_
 rotate_left
 · intro w0 hSw; (try dsimp only at hSw); go_simp; first | done | with_reducible rfl
 try simp only [Act.put, qa, qb, qc]
 have zr := fun i => Joins.cell_of_block HRd.out i
 have fr := fun i => Joins.unfrozen_of_block HRd.out i
 have ze := fun i => Joins.cell_of_block HEd.out i
 have fe := fun i => Joins.unfrozen_of_block HEd.out i
 refine rdy 2 (by kernel_rfl) rfl (fun K hK => ?_)
 go_simp
 refine hK.out _ _ (c5_set (c5_set (c5_set (c5_set (c5_set (c5_set (c5_set (c5_set (hHeld) hgr 0 _) hgr 1 _) hgr 2 _) hgr 3 _) hgr 4 _) hgr 5 _) hgr 6 _) hgr 7 _) (fun hHeld => ?_)
 clear hK K
 try simp only [Act.put, qa, qb, qc]
 refine rdy 3 (by kernel_rfl) rfl (fun K hK => ?_)
 go_simp
 refine hK.out _ _ (c5_set (c5_set (c5_set (c5_set (c5_set (hHeld) hge 0 _) hge 1 _) hge 2 _) hge 3 _) hge 4 _) (fun hHeld => ?_)
 clear hK K
 try simp only [Act.put, qa, qb, qc]
 refine tk 4 (v := ?_) rfl (by kernel_rfl) (by rfl) (by assumption) (fun _ _ _ h => h) ?_ ?_
 rotate_left
 · intro w0 hSw; (try dsimp only at hSw); go_simp; first | done | with_reducible rfl
 try simp only [Act.put, qa, qb, qc]
 refine wpAnyH_done (by kernel_rfl) ?_ _
 clear zr fr ze fe
 go_wp2
 have hst := link_stored (w := X) (rb := w.heap.size + 1) (eb := w.heap.size + 1 + 1) HRd.out (f := En.zero) HEd.out (by omega) (Rc.zero) (y) rfl
 exact ret3 (p := 10) (q := 11) (t := 12) (r := Rc.zero) (e := y) Tryz.results105 rfl rfl rfl rfl hst.1 hst.2 ⟨rfl, link_below HBd.out (by omega) (by omega) _ _ _ _ _ _ _ _ _ _ _ _ _⟩
theorem chLink2_new (b off c m : Nat) (ep : Int) (x : En) (U0 U1 U2 : Un) (a0 a1 a2 : Option Addr) (c0 c1 c2 : Nat) (w : World) (hch : ChAt w (.slice (some ⟨b, off, none⟩) 3 c) [⟨U0, .slice a0 60 c0⟩, ⟨U1, .slice a1 60 c1⟩, ⟨U2, .slice a2 60 c2⟩]) (hm : m < 60) (hd : (linkOf [U0, U1, U2] 2 (m : Int) x ep).2.2 = 0) (y : En) (hy : U2.cells[m]? = some y) (hib : y.isB = true) :
  Calls Tryz.prog 105 #[.slice (some ⟨b, off, none⟩) 3 c, .int .i64 2, .int .i64 (m : Int), x.val, .int .i64 ep] w fun e w' => e = .returned (.tuple #[(((⟨1, (m : Int), 0, x⟩, x, 0) : Rc × En × Int)).1.val, (((⟨1, (m : Int), 0, x⟩, x, 0) : Rc × En × Int)).2.1.val, .int .i64 (((⟨1, (m : Int), 0, x⟩, x, 0) : Rc × En × Int)).2.2]) ∧ Below w.heap.size w w' := by
 have HB0 : Aside (Below w.heap.size w (((w.alloc (boxE x.k x.j x.v x.t x.c)).alloc (boxRc Rc.zero)).alloc (boxE 0 0 0 0 0))) := grew (grew (grew (Below.refl _ _) _) _) _
 have HX0 : Aside ((((w.alloc (boxE x.k x.j x.v x.t x.c)).alloc (boxRc Rc.zero)).alloc (boxE 0 0 0 0 0)).heap[w.heap.size]? = some (boxE x.k x.j x.v x.t x.c)) := heap_old (heap_old (heap_new _ _) _) _
 have HR0 : Aside ((((w.alloc (boxE x.k x.j x.v x.t x.c)).alloc (boxRc Rc.zero)).alloc (boxE 0 0 0 0 0)).heap[w.heap.size + 1]? = some (boxRc Rc.zero)) := by
  have := heap_new (w.alloc (boxE x.k x.j x.v x.t x.c)) (boxRc Rc.zero)
  rw [World.size_alloc] at this
  exact heap_old this _
 have HE0 : Aside ((((w.alloc (boxE x.k x.j x.v x.t x.c)).alloc (boxRc Rc.zero)).alloc (boxE 0 0 0 0 0)).heap[w.heap.size + 1 + 1]? = some (boxE 0 0 0 0 0)) := by
  have := heap_new ((w.alloc (boxE x.k x.j x.v x.t x.c)).alloc (boxRc Rc.zero)) (boxE 0 0 0 0 0)
  rwa [World.size_alloc, World.size_alloc] at this
 have hml := may_any _ _ 2 (m : Int) ep x _ (hch.later HB0.out)
 rw [show (linkOf (unitsOf [⟨U0, .slice a0 60 c0⟩, ⟨U1, .slice a1 60 c1⟩, ⟨U2, .slice a2 60 c2⟩]) 2 (m : Int) x ep).2.2 = 0 from hd] at hml
 have kst := fun W => stands_any y W
 rw [hib, Bool.not_true] at kst
 have HCH : Aside (ChAt w (.slice (some ⟨b, off, none⟩) 3 c) [⟨U0, .slice a0 60 c0⟩, ⟨U1, .slice a1 60 c1⟩, ⟨U2, .slice a2 60 c2⟩]) := hch
 have HY : Hid (U2.cells[m]? = some y) := hy
 have hmi : (m : Int) < 60 := by omega
 have hm0 : (0 : Int) ≤ (m : Int) := by omega
 clear hch hd hy hib
 go_enter Tryz.func105, Tryz.ntmps105
 go_wp2_with fail
 refine hml.mono ?_
 rintro e w3 ⟨rfl, hb3⟩
 have HX3 : Aside _ := heap_below HX0.out hb3 (heap_lt HX0.out)
 have HR3 : Aside _ := heap_below HR0.out hb3 (heap_lt HR0.out)
 have HE3 : Aside _ := heap_below HE0.out hb3 (heap_lt HE0.out)
 have HB3 : Aside _ := step_below1 HB0.out hb3
 clear hb3 HX0 HR0 HE0 HB0
 clear hml
 have hc3 := HCH.out.later HB3.out
 obtain ⟨b3, off3, eb3, hrow3⟩ := hc3.rows.at (by omega)
 injection eb3 with eb3
 injection eb3 with eb4 eb5 _
 subst eb4 eb5
 obtain ⟨⟨p0, s0⟩, ⟨p1, s1⟩, ⟨p2, s2⟩⟩ := row_three hrow3
 obtain ⟨by_, oy, ey, hEy⟩ := SlOf.at (cs := En.cells) (k := 5) (hc3.each ⟨U2, .slice a2 60 c2⟩ (by simp)).ents (by omega)
 subst ey
 have g0 : w3.cell? ⟨by_, oy + m * 5, none⟩ = some (.int .i64 y.k) := hEy m y HY.out 0 _ rfl
 have g1 : w3.cell? ⟨by_, oy + m * 5 + 1, none⟩ = some (.int .i64 y.j) := hEy m y HY.out 1 _ rfl
 have g2 : w3.cell? ⟨by_, oy + m * 5 + 2, none⟩ = some (.int .i64 y.v) := hEy m y HY.out 2 _ rfl
 have g3 : w3.cell? ⟨by_, oy + m * 5 + 3, none⟩ = some (.int .i64 y.t) := hEy m y HY.out 3 _ rfl
 have g4 : w3.cell? ⟨by_, oy + m * 5 + 4, none⟩ = some (.int .i64 y.c) := hEy m y HY.out 4 _ rfl
 have hyb := heap_lt HE3.out
 have HX4 : Aside _ := heap_old HX3.out (boxE y.k y.j y.v y.t y.c)
 have HR4 : Aside _ := heap_old HR3.out (boxE y.k y.j y.v y.t y.c)
 have HE4 : Aside _ := heap_old HE3.out (boxE y.k y.j y.v y.t y.c)
 have HY4 : Aside _ := heap_new w3 (boxE y.k y.j y.v y.t y.c)
 have HB4 : Aside _ := grew HB3.out (boxE y.k y.j y.v y.t y.c)
 clear hrow3 hEy hc3 HX3 HR3 HE3 HB3 HCH
 go_upto_region 5 with fail
 generalize w3.alloc (boxE y.k y.j y.v y.t y.c) = w4 at *
 generalize w3.heap.size = yb at *
 clear g0 g1 g2 g3 g4 p0 s0 p1 s1 p2 s2
 have zy := fun i => Joins.cell_of_block HY4.out i
 go_wp2_with fail
 refine (kst _).mono ?_
 rintro e w6 ⟨rfl, hb6⟩
 have HX6 : Aside _ := heap_below HX4.out hb6 (heap_lt HX4.out)
 have HR6 : Aside _ := heap_below HR4.out hb6 (heap_lt HR4.out)
 have HE6 : Aside _ := heap_below HE4.out hb6 (heap_lt HE4.out)
 have HY6 : Aside _ := heap_below HY4.out hb6 (heap_lt HY4.out)
 have HB6 : Aside _ := step_below1 HB4.out hb6
 clear hb6 kst zy HX4 HR4 HE4 HY4 HB4
 go_wp2_with fail
 have hz5 : C5 w6 w.heap.size x := c5_of HX6.out
 have hgr : w.heap.size ≠ w.heap.size + 1 := by omega
 have hge : w.heap.size ≠ w.heap.size + 1 + 1 := by omega
 have HRd : Aside (w6.drew.heap[w.heap.size + 1]? = some (boxRc Rc.zero)) := HR6.out
 have HEd : Aside (w6.drew.heap[w.heap.size + 1 + 1]? = some (boxE 0 0 0 0 0)) := HE6.out
 have HBd : Aside (Below w.heap.size w w6.drew) := HB6.out.drew
 clear HX6 HR6 HE6 HY6 HB6
 refine wp_region_held_drew (S := fun w' => C5 w' w.heap.size x) (by kernel_rfl) (hz5) (fun hHeld => ?_)
 clear hz5
 generalize w6.drew = X at *
 refine tk 0 (v := ?_) rfl (by kernel_rfl) (by rfl) (by assumption) (fun _ _ _ h => h) ?_ ?_
 rotate_left
 · intro w0 hSw; (try dsimp only at hSw); go_simp; first | done | with_reducible rfl
 try simp only [Act.put, qa, qb, qc]
 refine tk 1 (v := ?_) rfl (by kernel_rfl) (by rfl) (by assumption) (fun _ _ _ h => h) ?_ ?_
 rotate_left
 · intro w0 hSw; (try dsimp only at hSw); go_simp; first | done | with_reducible rfl
 try simp only [Act.put, qa, qb, qc]
 refine tk 2 (v := ?_) rfl (by kernel_rfl) (by rfl) (by assumption) (fun _ _ _ h => h) ?_ ?_
 rotate_left
 · intro w0 hSw; (try dsimp only at hSw); go_simp; first | done | with_reducible rfl
 try simp only [Act.put, qa, qb, qc]
 refine tk 3 (v := ?_) rfl (by kernel_rfl) (by rfl) (by assumption) (fun _ _ _ h => h) ?_ ?_
 rotate_left
 · intro w0 hSw; (try dsimp only at hSw); go_simp; first | done | with_reducible rfl
 try simp only [Act.put, qa, qb, qc]
 have zr := fun i => Joins.cell_of_block HRd.out i
 have fr := fun i => Joins.unfrozen_of_block HRd.out i
 have ze := fun i => Joins.cell_of_block HEd.out i
 have fe := fun i => Joins.unfrozen_of_block HEd.out i
 refine rdy 4 (by kernel_rfl) rfl (fun K hK => ?_)
 go_simp
 refine hK.out _ _ (c5_set (c5_set (c5_set (c5_set (c5_set (c5_set (c5_set (c5_set (hHeld) hgr 0 _) hgr 1 _) hgr 2 _) hgr 3 _) hgr 4 _) hgr 5 _) hgr 6 _) hgr 7 _) (fun hHeld => ?_)
 clear hK K
 try simp only [Act.put, qa, qb, qc]
 refine rdy 5 (by kernel_rfl) rfl (fun K hK => ?_)
 go_simp
 refine hK.out _ _ (c5_set (c5_set (c5_set (c5_set (c5_set (hHeld) hge 0 _) hge 1 _) hge 2 _) hge 3 _) hge 4 _) (fun hHeld => ?_)
 clear hK K
 try simp only [Act.put, qa, qb, qc]
 refine tk 6 (v := ?_) rfl (by kernel_rfl) (by rfl) (by assumption) (fun _ _ _ h => h) ?_ ?_
 rotate_left
 · intro w0 hSw; (try dsimp only at hSw); go_simp; first | done | with_reducible rfl
 try simp only [Act.put, qa, qb, qc]
 refine wpAnyH_done (by kernel_rfl) ?_ _
 clear zr fr ze fe
 go_wp2
 have hst := link_stored (w := X) (rb := w.heap.size + 1) (eb := w.heap.size + 1 + 1) HRd.out (f := En.zero) HEd.out (by omega) (⟨1, (m : Int), 0, x⟩) (x) rfl
 exact ret3 (p := 10) (q := 11) (t := 12) (r := ⟨1, (m : Int), 0, x⟩) (e := x) Tryz.results105 rfl rfl rfl rfl hst.1 hst.2 ⟨rfl, link_below HBd.out (by omega) (by omega) _ _ _ _ _ _ _ _ _ _ _ _ _⟩
theorem chLink_any (v : Value) (xs : List Ub) (k a ep : Int) (x : En) (w : World) (h : ChAt w v xs) :
  Calls Tryz.prog 105 #[v, .int .i64 k, .int .i64 a, x.val, .int .i64 ep] w fun e w' => e = .returned (.tuple #[(linkOf (unitsOf xs) k a x ep).1.val, (linkOf (unitsOf xs) k a x ep).2.1.val, .int .i64 (linkOf (unitsOf xs) k a x ep).2.2]) ∧ Below w.heap.size w w' := by
 by_cases he : (linkOf (unitsOf xs) k a x ep).2.2 = 0
 · obtain ⟨hd, hk, ha, hx, hp, hz, hway⟩ := linkOf_ok he
  obtain ⟨U0, U1, U2, a0, c0, a1, c1, a2, c2, b, off, c, rfl, rfl, d0, d1, d2⟩ := right_three h hd
  obtain ⟨m, rfl⟩ : ∃ m : Nat, a = m := ⟨a.toNat, by omega⟩
  have hm : m < 60 := by omega
  obtain ⟨y0, hy0⟩ : ∃ y, U0.cells[m]? = some y := ⟨_, plc_some (us := [U0]) (k := 0) rfl d0 hm⟩
  obtain ⟨y1, hy1⟩ : ∃ y, U1.cells[m]? = some y := ⟨_, plc_some (us := [U1]) (k := 0) rfl d1 hm⟩
  obtain ⟨y2, hy2⟩ : ∃ y, U2.cells[m]? = some y := ⟨_, plc_some (us := [U2]) (k := 0) rfl d2 hm⟩
  have e0 : plc (unitsOf [⟨U0, .slice a0 60 c0⟩, ⟨U1, .slice a1 60 c1⟩, ⟨U2, .slice a2 60 c2⟩]) 0 m = y0 := plc_eq (u := U0) rfl hy0
  have e1 : plc (unitsOf [⟨U0, .slice a0 60 c0⟩, ⟨U1, .slice a1 60 c1⟩, ⟨U2, .slice a2 60 c2⟩]) 1 m = y1 := plc_eq (u := U1) rfl hy1
  have e2 : plc (unitsOf [⟨U0, .slice a0 60 c0⟩, ⟨U1, .slice a1 60 c1⟩, ⟨U2, .slice a2 60 c2⟩]) 2 m = y2 := plc_eq (u := U2) rfl hy2
  have hk' : k = 0 ∨ k = 1 ∨ k = 2 := by omega
  rcases hk' with rfl | rfl | rfl
  · have ee : plc (unitsOf [⟨U0, .slice a0 60 c0⟩, ⟨U1, .slice a1 60 c1⟩, ⟨U2, .slice a2 60 c2⟩]) (0 : Int).toNat (m : Int).toNat = y0 := e0
   rw [ee] at hway
   rcases hway with ⟨hb, hl⟩ | ⟨hb, hl⟩
   · rw [hl]; exact chLink0_stands b off c m ep x U0 U1 U2 a0 a1 a2 c0 c1 c2 w h hm he y0 hy0 hb
   · rw [hl]; exact chLink0_new b off c m ep x U0 U1 U2 a0 a1 a2 c0 c1 c2 w h hm he y0 hy0 hb
  · have ee : plc (unitsOf [⟨U0, .slice a0 60 c0⟩, ⟨U1, .slice a1 60 c1⟩, ⟨U2, .slice a2 60 c2⟩]) (1 : Int).toNat (m : Int).toNat = y1 := e1
   rw [ee] at hway
   rcases hway with ⟨hb, hl⟩ | ⟨hb, hl⟩
   · rw [hl]; exact chLink1_stands b off c m ep x U0 U1 U2 a0 a1 a2 c0 c1 c2 w h hm he y1 hy1 hb
   · rw [hl]; exact chLink1_new b off c m ep x U0 U1 U2 a0 a1 a2 c0 c1 c2 w h hm he y1 hy1 hb
  · have ee : plc (unitsOf [⟨U0, .slice a0 60 c0⟩, ⟨U1, .slice a1 60 c1⟩, ⟨U2, .slice a2 60 c2⟩]) (2 : Int).toNat (m : Int).toNat = y2 := e2
   rw [ee] at hway
   rcases hway with ⟨hb, hl⟩ | ⟨hb, hl⟩
   · rw [hl]; exact chLink2_stands b off c m ep x U0 U1 U2 a0 a1 a2 c0 c1 c2 w h hm he y2 hy2 hb
   · rw [hl]; exact chLink2_new b off c m ep x U0 U1 U2 a0 a1 a2 c0 c1 c2 w h hm he y2 hy2 hb
 · rw [linkOf_bad he]
  exact chLink_bad v xs k a ep x w h _ rfl (by rw [bne_iff_ne]; exact he)
end
section
open scoped Classical
theorem chRead_ck (v : Value) (xs : List Ub) (a : Int) (w : World) (h : ChAt w v xs) (d : Int) (hd : ckChain (unitsOf xs) = d) (hz : (d != 0) = true) :
  Calls Tryz.prog 178 #[v, .int .i64 a] w fun e w' => e = .returned (.tuple #[(((En.zero, d) : En × Int)).1.val, .int .i64 (((En.zero, d) : En × Int)).2]) ∧ Below w.heap.size w w' := by
 have HB0 : Aside (Below w.heap.size w (w.alloc (boxE 0 0 0 0 0))) := grew (Below.refl _ _) _
 have HE0 : Aside ((w.alloc (boxE 0 0 0 0 0)).heap[w.heap.size]? = some (boxE 0 0 0 0 0)) := heap_new _ _
 have hck := chCheck_any v xs _ (h.later HB0.out)
 rw [hd] at hck
 clear h hd
 go_enter Tryz.func178, Tryz.ntmps178
 go_wp2_with fail
 refine hck.mono ?_
 rintro e w1 ⟨rfl, hb1⟩
 have HE1 : Aside _ := heap_below HE0.out hb1 (heap_lt HE0.out)
 have HB1 : Aside _ := step_below1 HB0.out hb1
 clear HE0 HB0 hb1
 clear hck
 have ze := fun i => Joins.cell_of_block HE1.out i
 have fe := fun i => Joins.unfrozen_of_block HE1.out i
 go_wp2
 exact ret_ent (p := 4) (q := 5) (e := En.zero) Tryz.results178 rfl rfl rfl (five_box (f := En.zero) HE1.out (En.zero)) ⟨rfl, five_below HB1.out (Nat.le_refl _) _ _ _ _ _⟩
theorem chRead_who (v : Value) (xs : List Ub) (a : Int) (w : World) (h : ChAt w v xs) (hd : ckChain (unitsOf xs) = 0) (ha : ¬ (0 ≤ a ∧ a ≤ 59)) :
  Calls Tryz.prog 178 #[v, .int .i64 a] w fun e w' => e = .returned (.tuple #[(((En.zero, 5) : En × Int)).1.val, .int .i64 (((En.zero, 5) : En × Int)).2]) ∧ Below w.heap.size w w' := by
 have HB0 : Aside (Below w.heap.size w (w.alloc (boxE 0 0 0 0 0))) := grew (Below.refl _ _) _
 have HE0 : Aside ((w.alloc (boxE 0 0 0 0 0)).heap[w.heap.size]? = some (boxE 0 0 0 0 0)) := heap_new _ _
 have hck := chCheck_any v xs _ (h.later HB0.out)
 rw [hd] at hck
 have kp := fun W => isPlace_any a W
 rw [decide_eq_false ha] at kp
 clear h hd ha
 go_enter Tryz.func178, Tryz.ntmps178
 go_wp2_with fail
 refine hck.mono ?_
 rintro e w1 ⟨rfl, hb1⟩
 have HE1 : Aside _ := heap_below HE0.out hb1 (heap_lt HE0.out)
 have HB1 : Aside _ := step_below1 HB0.out hb1
 clear HE0 HB0 hb1
 clear hck
 go_wp2_with fail
 refine (kp _).mono ?_
 rintro e w1 ⟨rfl, rfl⟩
 have ze := fun i => Joins.cell_of_block HE1.out i
 have fe := fun i => Joins.unfrozen_of_block HE1.out i
 go_wp2
 exact ret_ent (p := 4) (q := 5) (e := En.zero) Tryz.results178 rfl rfl rfl (five_box (f := En.zero) HE1.out (En.zero)) ⟨rfl, five_below HB1.out (Nat.le_refl _) _ _ _ _ _⟩
theorem chRead_late (b off c m : Nat) (U0 U1 U2 : Un) (a0 a1 a2 : Option Addr) (c0 c1 c2 : Nat) (w : World) (h : ChAt w (.slice (some ⟨b, off, none⟩) 3 c) [⟨U0, .slice a0 60 c0⟩, ⟨U1, .slice a1 60 c1⟩, ⟨U2, .slice a2 60 c2⟩]) (hd : ckChain [U0, U1, U2] = 0) (hm : m < 60) (y : En) (hy : U2.cells[m]? = some y) (hib : y.isB = true) :
  Calls Tryz.prog 178 #[.slice (some ⟨b, off, none⟩) 3 c, .int .i64 (m : Int)] w fun e w' => e = .returned (.tuple #[(((En.zero, 7) : En × Int)).1.val, .int .i64 (((En.zero, 7) : En × Int)).2]) ∧ Below w.heap.size w w' := by
 have HB0 : Aside (Below w.heap.size w (w.alloc (boxE 0 0 0 0 0))) := grew (Below.refl _ _) _
 have HE0 : Aside ((w.alloc (boxE 0 0 0 0 0)).heap[w.heap.size]? = some (boxE 0 0 0 0 0)) := heap_new _ _
 have hck := chCheck_any _ _ _ (h.later HB0.out)
 rw [show ckChain (unitsOf [⟨U0, .slice a0 60 c0⟩, ⟨U1, .slice a1 60 c1⟩, ⟨U2, .slice a2 60 c2⟩]) = 0 from hd] at hck
 have kp := fun W => isPlace_any (m : Int) W
 rw [decide_eq_true (by omega)] at kp
 have kst := fun W => stands_any y W
 rw [hib, Bool.not_true] at kst
 have HCH : Aside (ChAt w (.slice (some ⟨b, off, none⟩) 3 c) [⟨U0, .slice a0 60 c0⟩, ⟨U1, .slice a1 60 c1⟩, ⟨U2, .slice a2 60 c2⟩]) := h
 have HY : Hid (U2.cells[m]? = some y) := hy
 have hmi : (m : Int) < 60 := by omega
 have hm0 : (0 : Int) ≤ (m : Int) := by omega
 clear h hd hy hib
 go_enter Tryz.func178, Tryz.ntmps178
 go_wp2_with fail
 refine hck.mono ?_
 rintro e w1 ⟨rfl, hb1⟩
 have HE1 : Aside _ := heap_below HE0.out hb1 (heap_lt HE0.out)
 have HB1 : Aside _ := step_below1 HB0.out hb1
 clear HE0 HB0 hb1
 clear hck
 go_wp2_with fail
 refine (kp _).mono ?_
 rintro e w1 ⟨rfl, rfl⟩
 have hc1 := HCH.out.later HB1.out
 obtain ⟨b', off', eb, hrow⟩ := hc1.rows.at (by omega)
 injection eb with eb
 injection eb with eb1 eb2 _
 subst eb1 eb2
 obtain ⟨⟨p0, s0⟩, ⟨p1, s1⟩, ⟨p2, s2⟩⟩ := row_three hrow
 obtain ⟨by_, oy, ey, hEy⟩ := SlOf.at (cs := En.cells) (k := 5) (hc1.each ⟨U2, .slice a2 60 c2⟩ (by simp)).ents (by omega)
 subst ey
 have g0 : w1.cell? ⟨by_, oy + m * 5, none⟩ = some (.int .i64 y.k) := hEy m y HY.out 0 _ rfl
 have g1 : w1.cell? ⟨by_, oy + m * 5 + 1, none⟩ = some (.int .i64 y.j) := hEy m y HY.out 1 _ rfl
 have g2 : w1.cell? ⟨by_, oy + m * 5 + 2, none⟩ = some (.int .i64 y.v) := hEy m y HY.out 2 _ rfl
 have g3 : w1.cell? ⟨by_, oy + m * 5 + 3, none⟩ = some (.int .i64 y.t) := hEy m y HY.out 3 _ rfl
 have g4 : w1.cell? ⟨by_, oy + m * 5 + 4, none⟩ = some (.int .i64 y.c) := hEy m y HY.out 4 _ rfl
 have hyb := heap_lt HE1.out
 have HE4 : Aside _ := heap_old HE1.out (boxE y.k y.j y.v y.t y.c)
 have HY4 : Aside _ := heap_new w1 (boxE y.k y.j y.v y.t y.c)
 have HB4 : Aside _ := grew HB1.out (boxE y.k y.j y.v y.t y.c)
 clear hrow hEy hc1 HE1 HB1 HCH kp
 go_upto_region 7 with fail
 generalize w1.alloc (boxE y.k y.j y.v y.t y.c) = w4 at *
 generalize w1.heap.size = yb at *
 clear g0 g1 g2 g3 g4 p0 s0 p1 s1 p2 s2
 have zy := fun i => Joins.cell_of_block HY4.out i
 go_wp2_with fail
 refine (kst _).mono ?_
 rintro e w6 ⟨rfl, hb6⟩
 have HE6 : Aside _ := heap_below HE4.out hb6 (heap_lt HE4.out)
 have HY6 : Aside _ := heap_below HY4.out hb6 (heap_lt HY4.out)
 have HB6 : Aside _ := step_below1 HB4.out hb6
 clear hb6 kst zy HE4 HY4 HB4
 have zy := fun i => Joins.cell_of_block HY6.out i
 have ze := fun i => Joins.cell_of_block HE6.out i
 have fe := fun i => Joins.unfrozen_of_block HE6.out i
 go_wp2
 exact ret_ent (p := 4) (q := 5) (e := En.zero) Tryz.results178 rfl rfl rfl (five_box (f := En.zero) HE6.out (En.zero)) ⟨rfl, five_below HB6.out (Nat.le_refl _) _ _ _ _ _⟩
theorem chRead_stands (b off c m : Nat) (U0 U1 U2 : Un) (a0 a1 a2 : Option Addr) (c0 c1 c2 : Nat) (w : World) (h : ChAt w (.slice (some ⟨b, off, none⟩) 3 c) [⟨U0, .slice a0 60 c0⟩, ⟨U1, .slice a1 60 c1⟩, ⟨U2, .slice a2 60 c2⟩]) (hd : ckChain [U0, U1, U2] = 0) (hm : m < 60) (y : En) (hy : U2.cells[m]? = some y) (hib : y.isB = false) :
  Calls Tryz.prog 178 #[.slice (some ⟨b, off, none⟩) 3 c, .int .i64 (m : Int)] w fun e w' => e = .returned (.tuple #[(((y, 0) : En × Int)).1.val, .int .i64 (((y, 0) : En × Int)).2]) ∧ Below w.heap.size w w' := by
 have HB0 : Aside (Below w.heap.size w (w.alloc (boxE 0 0 0 0 0))) := grew (Below.refl _ _) _
 have HE0 : Aside ((w.alloc (boxE 0 0 0 0 0)).heap[w.heap.size]? = some (boxE 0 0 0 0 0)) := heap_new _ _
 have hck := chCheck_any _ _ _ (h.later HB0.out)
 rw [show ckChain (unitsOf [⟨U0, .slice a0 60 c0⟩, ⟨U1, .slice a1 60 c1⟩, ⟨U2, .slice a2 60 c2⟩]) = 0 from hd] at hck
 have kp := fun W => isPlace_any (m : Int) W
 rw [decide_eq_true (by omega)] at kp
 have kst := fun W => stands_any y W
 rw [hib, Bool.not_false] at kst
 have HCH : Aside (ChAt w (.slice (some ⟨b, off, none⟩) 3 c) [⟨U0, .slice a0 60 c0⟩, ⟨U1, .slice a1 60 c1⟩, ⟨U2, .slice a2 60 c2⟩]) := h
 have HY : Hid (U2.cells[m]? = some y) := hy
 have hmi : (m : Int) < 60 := by omega
 have hm0 : (0 : Int) ≤ (m : Int) := by omega
 clear h hd hy hib
 go_enter Tryz.func178, Tryz.ntmps178
 go_wp2_with fail
 refine hck.mono ?_
 rintro e w1 ⟨rfl, hb1⟩
 have HE1 : Aside _ := heap_below HE0.out hb1 (heap_lt HE0.out)
 have HB1 : Aside _ := step_below1 HB0.out hb1
 clear HE0 HB0 hb1
 clear hck
 go_wp2_with fail
 refine (kp _).mono ?_
 rintro e w1 ⟨rfl, rfl⟩
 have hc1 := HCH.out.later HB1.out
 obtain ⟨b', off', eb, hrow⟩ := hc1.rows.at (by omega)
 injection eb with eb
 injection eb with eb1 eb2 _
 subst eb1 eb2
 obtain ⟨⟨p0, s0⟩, ⟨p1, s1⟩, ⟨p2, s2⟩⟩ := row_three hrow
 obtain ⟨by_, oy, ey, hEy⟩ := SlOf.at (cs := En.cells) (k := 5) (hc1.each ⟨U2, .slice a2 60 c2⟩ (by simp)).ents (by omega)
 subst ey
 have g0 : w1.cell? ⟨by_, oy + m * 5, none⟩ = some (.int .i64 y.k) := hEy m y HY.out 0 _ rfl
 have g1 : w1.cell? ⟨by_, oy + m * 5 + 1, none⟩ = some (.int .i64 y.j) := hEy m y HY.out 1 _ rfl
 have g2 : w1.cell? ⟨by_, oy + m * 5 + 2, none⟩ = some (.int .i64 y.v) := hEy m y HY.out 2 _ rfl
 have g3 : w1.cell? ⟨by_, oy + m * 5 + 3, none⟩ = some (.int .i64 y.t) := hEy m y HY.out 3 _ rfl
 have g4 : w1.cell? ⟨by_, oy + m * 5 + 4, none⟩ = some (.int .i64 y.c) := hEy m y HY.out 4 _ rfl
 have hyb := heap_lt HE1.out
 have HE4 : Aside _ := heap_old HE1.out (boxE y.k y.j y.v y.t y.c)
 have HY4 : Aside _ := heap_new w1 (boxE y.k y.j y.v y.t y.c)
 have HB4 : Aside _ := grew HB1.out (boxE y.k y.j y.v y.t y.c)
 clear hrow hEy hc1 HE1 HB1 HCH kp
 go_upto_region 7 with fail
 generalize w1.alloc (boxE y.k y.j y.v y.t y.c) = w4 at *
 generalize w1.heap.size = yb at *
 clear g0 g1 g2 g3 g4 p0 s0 p1 s1 p2 s2
 have zy := fun i => Joins.cell_of_block HY4.out i
 go_wp2_with fail
 refine (kst _).mono ?_
 rintro e w6 ⟨rfl, hb6⟩
 have HE6 : Aside _ := heap_below HE4.out hb6 (heap_lt HE4.out)
 have HY6 : Aside _ := heap_below HY4.out hb6 (heap_lt HY4.out)
 have HB6 : Aside _ := step_below1 HB4.out hb6
 clear hb6 kst zy HE4 HY4 HB4
 have zy := fun i => Joins.cell_of_block HY6.out i
 have ze := fun i => Joins.cell_of_block HE6.out i
 have fe := fun i => Joins.unfrozen_of_block HE6.out i
 go_wp2
 exact ret_ent (p := 4) (q := 5) (e := y) Tryz.results178 rfl rfl rfl (five_box (f := En.zero) HE6.out (y)) ⟨rfl, five_below HB6.out (Nat.le_refl _) _ _ _ _ _⟩
theorem chRead_any (v : Value) (xs : List Ub) (a : Int) (w : World) (h : ChAt w v xs) :
  Calls Tryz.prog 178 #[v, .int .i64 a] w fun e w' => e = .returned (.tuple #[(readOf (unitsOf xs) a).1.val, .int .i64 (readOf (unitsOf xs) a).2]) ∧ Below w.heap.size w w' := by
 by_cases hd : ckChain (unitsOf xs) = 0
 · by_cases ha : 0 ≤ a ∧ a ≤ 59
  · obtain ⟨U0, U1, U2, a0, c0, a1, c1, a2, c2, b, off, c, rfl, rfl, d0, d1, d2⟩ := right_three h hd
   obtain ⟨m, rfl⟩ : ∃ m : Nat, a = m := ⟨a.toNat, by omega⟩
   have hm : m < 60 := by omega
   obtain ⟨y2, hy2⟩ : ∃ y, U2.cells[m]? = some y := ⟨_, plc_some (us := [U2]) (k := 0) rfl d2 hm⟩
   have e2 : plc (unitsOf [⟨U0, .slice a0 60 c0⟩, ⟨U1, .slice a1 60 c1⟩, ⟨U2, .slice a2 60 c2⟩]) 2 m = y2 := plc_eq (u := U2) rfl hy2
   rw [readOf, if_neg (by simpa using hd), if_neg (by simpa using ha), show ((m : Int).toNat) = m from rfl, e2]
   cases hb : y2.isB with
   | true => rw [if_pos rfl]; exact chRead_late b off c m U0 U1 U2 a0 a1 a2 c0 c1 c2 w h hd hm y2 hy2 hb
   | false => rw [if_neg (by simp)]; exact chRead_stands b off c m U0 U1 U2 a0 a1 a2 c0 c1 c2 w h hd hm y2 hy2 hb
  · rw [readOf, if_neg (by simpa using hd), if_pos ha]
   exact chRead_who v xs a w h hd ha
 · rw [readOf, if_pos hd]
  exact chRead_ck v xs a w h _ rfl (by rw [bne_iff_ne]; exact hd)
end
section
open scoped Classical
theorem chains_any : Chains where
 check := fun v xs W h _ => chCheck_any v xs W h
 link := fun v xs k a ep x W h _ => chLink_any v xs k a ep x W h
 read := fun v xs a W h _ => chRead_any v xs a W h
end
abbrev stE (w : World) (b : Nat) (x : En) : World := ((((w.setCell ⟨b, 0, none⟩ (.int .i64 x.k)).setCell ⟨b, 1, none⟩ (.int .i64 x.j)).setCell ⟨b, 2, none⟩ (.int .i64 x.v)).setCell ⟨b, 3, none⟩ (.int .i64 x.t)).setCell ⟨b, 4, none⟩ (.int .i64 x.c)
theorem stE_below {W0 w : World} {b : Nat} (h : Below W0.heap.size W0 w) (hb : W0.heap.size ≤ b) (x : En) : Below W0.heap.size W0 (stE w b x) :=
 ((((h.setCell (p := ⟨b, 0, none⟩) hb _).setCell (p := ⟨b, 1, none⟩) hb _).setCell (p := ⟨b, 2, none⟩) hb _).setCell (p := ⟨b, 3, none⟩) hb _).setCell (p := ⟨b, 4, none⟩) hb _
theorem stE_box {w : World} {b : Nat} {k j v t c : Int} (h : w.heap[b]? = some (boxE k j v t c)) (x : En) : (stE w b x).heap[b]? = some (boxE x.k x.j x.v x.t x.c) := by
 have g0 := Joins.block_setCell h (i := 0) (.int .i64 x.k)
 have g1 := Joins.block_setCell g0 (i := 1) (.int .i64 x.j)
 have g2 := Joins.block_setCell g1 (i := 2) (.int .i64 x.v)
 have g3 := Joins.block_setCell g2 (i := 3) (.int .i64 x.t)
 have g4 := Joins.block_setCell g3 (i := 4) (.int .i64 x.c)
 simp only [List.setIfInBounds_toArray, List.set_cons_zero, List.set_cons_succ] at g4
 exact g4
theorem stE_other {w : World} {b q : Nat} {o : Obj} (h : w.heap[q]? = some o) (hne : q ≠ b) (x : En) : (stE w b x).heap[q]? = some o :=
 other_block (other_block (other_block (other_block (other_block h hne _ _) hne _ _) hne _ _) hne _ _) hne _ _
structure EBx (W0 wx : World) (b : Nat) (x : En) : Prop where
 box : wx.heap[b]? = some (boxE x.k x.j x.v x.t x.c)
 base : W0.heap.size ≤ b
 below : Below W0.heap.size W0 wx
theorem kread {xs : List Nb} (hf : Fits (ubsOf xs)) (hc : ckChain ((nodesOf xs).map Nd.u) = 0) (a : Int) {x : En} {d : Int} (hq : readIn ((nodesOf xs).map Nd.u) a = (x, d)) (W : World) (u : Value) (h : ChAt W u (ubsOf xs)) :
  Calls Tryz.prog 178 #[u, .int .i64 a] W fun e w' => e = .returned (.tuple #[x.val, .int .i64 d]) ∧ Below W.heap.size W w' := by
 have := chains_any.read u (ubsOf xs) a W h hf
 rw [ubs_units, readOf_in hc, hq] at this
 exact this
theorem w_play_at (c : Cl) (a1 a2 : Option Addr) (m1 k1 m2 k2 : Nat) (xs : List Nb) (g1 : Nat) (w : World) (hb : BkAt w (.slice a1 m1 k1) (.slice a2 m2 k2) c) (hv : SlOf Nb.cells 5 w (.slice (some ⟨g1, 0, none⟩) 3 3) xs) (hu : ∀ x, x ∈ xs → NodeT w x) (hf : Fits (ubsOf xs)) (hc : ckChain ((nodesOf xs).map Nd.u) = 0)
  (h60 : (c.n == 60) = false) {x2 : Nb} (hx2 : xs[2]? = some x2) (hup : x2.n.up = true) :
  AnsT 141 #[c.val (.slice a1 m1 k1) (.slice a2 m2 k2), .slice (some ⟨g1, 0, none⟩) 3 3] w (if (readIn ((nodesOf xs).map Nd.u) c.n).2 ≠ 0 then (Cl.zero, (readIn ((nodesOf xs).map Nd.u) c.n).2) else playOf c (readIn ((nodesOf xs).map Nd.u) c.n).1) := by
 obtain ⟨⟨s, d⟩, hq⟩ : ∃ q, readIn ((nodesOf xs).map Nd.u) c.n = q := ⟨_, rfl⟩
 obtain ⟨⟨R, f⟩, hp⟩ : ∃ q, playOf c s = q := ⟨_, rfl⟩
 rw [hq]
 simp only
 rw [hp]
 have hl3 : xs.length = 3 := hv.len
 obtain ⟨rr, HRR⟩ : ∃ rr, Hid ((if d ≠ 0 then (Cl.zero, d) else (R, f)) = rr) := ⟨_, rfl⟩
 rw [HRR.out]
 have HC : Hid ((d ≠ 0 ∧ rr = (Cl.zero, d)) ∨ (d = 0 ∧ rr = (R, f))) := by
  have := HRR.out
  by_cases h0 : d = 0
  · rw [if_neg (not_not_intro h0)] at this; exact Or.inr ⟨h0, this.symm⟩
  · rw [if_pos h0] at this; exact Or.inl ⟨h0, this.symm⟩
 have kr : Aside (∀ W u, ChAt W u (ubsOf xs) → Calls Tryz.prog 178 #[u, .int .i64 c.n] W fun e w' => e = .returned (.tuple #[s.val, .int .i64 d]) ∧ Below W.heap.size W w') := kread hf hc c.n hq
 have kU : Aside (∀ W, Below w.heap.size w W → Calls Tryz.prog 106 #[.slice (some ⟨g1, 0, none⟩) 3 3] W fun e w' => ∃ u, e = .returned u ∧ ChAt w' u (ubsOf xs) ∧ Below W.heap.size W w') := fun W hb' => w_units _ xs W (hv.later hb') (by omega) (fun y hy => (hu y hy).later hb')
 have kp : Aside (∀ W, Below w.heap.size w W → AnsT 179 #[c.val (.slice a1 m1 k1) (.slice a2 m2 k2), s.val] W (R, f)) := fun W hb' => by
  have := cl_play c s (.slice a1 m1 k1) (.slice a2 m2 k2) W (bkAt_later hb hb')
  rwa [hp] at this
 have HE : Aside (RowAt Nb.cells 5 w g1 0 xs) := by
  obtain ⟨b, off, he, hE⟩ := hv.at (by omega)
  injection he with he
  injection he with e1 e2 e3
  rw [← e1, ← e2] at hE
  exact hE
 have hup14 : Aside (∀ W, Below w.heap.size w W → W.cell? ⟨g1, 14, none⟩ = some (.bool true)) := fun W hb' => by
  have := (HE.out.later hb') 2 x2 hx2 4 _ rfl
  rw [hup] at this
  simpa using this
 clear hq hp hv hu hf hc hb hx2 hup HRR hl3 HE
 have B0 : Aside (Below w.heap.size w ((w.alloc (boxC c (.slice a1 m1 k1) (.slice a2 m2 k2))).alloc (boxZ))) := grew (grew (Below.refl _ _) _) _
 have h0_0 : Aside (((w.alloc (boxC c (.slice a1 m1 k1) (.slice a2 m2 k2))).alloc (boxZ)).heap[w.heap.size]? = some (boxC c (.slice a1 m1 k1) (.slice a2 m2 k2))) := by
  have := heap_new w (boxC c (.slice a1 m1 k1) (.slice a2 m2 k2))
  exact heap_old (this) _
 have h1_0 : Aside (((w.alloc (boxC c (.slice a1 m1 k1) (.slice a2 m2 k2))).alloc (boxZ)).heap[w.heap.size + 1]? = some (boxZ)) := by
  have := heap_new (w.alloc (boxC c (.slice a1 m1 k1) (.slice a2 m2 k2))) (boxZ)
  rw [World.size_alloc] at this
  exact this
 go_enter Tryz.func141, Tryz.ntmps141
 go_upto_region 1 with fail
 generalize ((w.alloc (boxC c (.slice a1 m1 k1) (.slice a2 m2 k2))).alloc (boxZ)) = w0 at *
 have z0 := fun i => Joins.cell_of_block h0_0.out i
 have hu14 := hup14.out w0 B0.out
 clear hup14
 go_upto_region 5 with fail
 clear z0 hu14
 have ku : Aside (∀ W, Below w0.heap.size w0 W → Calls Tryz.prog 106 #[.slice (some ⟨g1, 0, none⟩) 3 3] W fun e w' => ∃ u, e = .returned u ∧ ChAt w' u (ubsOf xs) ∧ Below W.heap.size W w') := fun W hb' => kU.out W (B0.out.trans (hb'.mono B0.out.size))
 clear kU
 generalize w0 = W0 at *
 go_cut [6, 7] from 21 to 28 (fun s6 s7 wx => ∃ b : Nat, s6 = .pointer (some ⟨b, 0, none⟩) ∧ s7 = .int .i64 d ∧ EBx W0 wx b s)
 case first =>
  refine wp_region_held_drew (S := fun W' => Below W0.heap.size W0 W') (by kernel_rfl) ((Below.refl _ _).drew) (fun hHeld => ?_)
  refine tk 0 (v := ?_) rfl (by kernel_rfl) (by rfl) (by assumption) (fun _ _ _ h => h) ?_ ?_
  rotate_left
  · intro w0 hSw; clear hSw; go_simp; first | done | with_reducible rfl
  try simp only [Act.put, qa, qb, qc]
  refine tk 2 (v := ?_) rfl (by kernel_rfl) (by rfl) (by assumption) (fun _ _ _ h => h) ?_ ?_
  rotate_left
  · intro w0 hSw; clear hSw; go_simp; first | done | with_reducible rfl
  try simp only [Act.put, qa, qb, qc]
  refine tk 3 (v := ?_) rfl (by kernel_rfl) (by rfl) (by assumption) (fun _ _ _ h => h) ?_ ?_
  rotate_left
  · intro w0 hSw; have z := (show ∀ i, w0.cell? ⟨w.heap.size, i, none⟩ = #[Value.int .i64 c.p, .int .i64 c.d, .int .i64 c.e.k, .int .i64 c.e.j, .int .i64 c.e.v, .int .i64 c.e.t, .int .i64 c.e.c, .int .i64 c.a, .int .i64 c.l, .int .i64 c.n, .slice a1 m1 k1, .slice a2 m2 k2][i]? from fun i => Joins.cell_of_block (heap_below h0_0.out hSw (heap_lt h0_0.out)) i); clear hSw; go_simp; first | done | with_reducible rfl
  try simp only [Act.put, qa, qb, qc]
  refine wpAnyH_ready (rs := [1, 8]) (by kernel_rfl) (by simp) ?_
  refine AllReadyH.cons (o := ?o1r) ?hi1r ?step1r (AllReadyH.cons (o := ?o8r) ?hi8r ?step8r AllReadyH.nil)
  case hi1r => (simp only [List.getElem?_toArray, List.getElem?_cons_succ, List.getElem?_cons_zero]; rfl)
  case hi8r => (simp only [List.getElem?_toArray, List.getElem?_cons_succ, List.getElem?_cons_zero]; rfl)
  case step1r =>
   intro K hK
   go_simp
   refine (ku.out _ hHeld).mono ?_
   rintro e w1 ⟨u, rfl, hch, hb1⟩
   have hH1 : Below W0.heap.size W0 w1 := step_below1 hHeld hb1
   refine hK.out _ _ hH1 (fun hHeld => ?_)
   clear hK K
   try simp only [Act.put, qa, qb, qc]
   refine wpAnyH_ready (rs := [4, 8]) (by kernel_rfl) (by simp) ?_
   refine AllReadyH.cons (o := ?o4ra) ?hi4ra ?step4ra (AllReadyH.cons (o := ?o8ra) ?hi8ra ?step8ra AllReadyH.nil)
   case hi4ra => (simp only [List.getElem?_toArray, List.getElem?_cons_succ, List.getElem?_cons_zero]; rfl)
   case hi8ra => (simp only [List.getElem?_toArray, List.getElem?_cons_succ, List.getElem?_cons_zero]; rfl)
   case step4ra =>
    intro K hK
    go_simp
    refine (kr.out _ _ hch).mono ?_
    rintro e w2 ⟨rfl, hb2⟩
    have hH2 : Below W0.heap.size W0 w2 := step_below1 hHeld hb2
    have hch2 := ChAt.later hch hb2
    refine hK.out _ _ hH2 (fun hHeld => ?_)
    clear hK K
    try simp only [Act.put, qa, qb, qc]
    refine tk 5 (v := ?_) rfl (by kernel_rfl) (by rfl) (by assumption) (fun _ _ _ h => h) ?_ ?_
    rotate_left
    · intro w0 hSw; clear hSw; go_simp; first | done | with_reducible rfl
    try simp only [Act.put, qa, qb, qc]
    refine tk 6 (v := ?_) rfl (by kernel_rfl) (by rfl) (by assumption) (fun _ _ _ h => h) ?_ ?_
    rotate_left
    · intro w0 hSw; clear hSw; go_simp; first | done | with_reducible rfl
    try simp only [Act.put, qa, qb, qc]
    refine tk 7 (v := ?_) rfl (by kernel_rfl) (by rfl) (by assumption) (fun _ _ _ h => h) ?_ ?_
    rotate_left
    · intro w0 hSw; clear hSw; go_simp; first | done | with_reducible rfl
    try simp only [Act.put, qa, qb, qc]
    refine rdy 8 (by kernel_rfl) rfl (fun K hK => ?_)
    go_simp
    have lx : W0.heap.size ≤ w2.heap.size := hHeld.size
    refine hK.out _ _ (grew hHeld _) (fun hHeld => ?_)
    clear hK K
    try simp only [Act.put, qa, qb, qc]
    have x3 : (w2.alloc (boxE 0 0 0 0 0)).heap[w2.heap.size]? = some (boxE 0 0 0 0 0) := heap_new _ _
    have hch3 : _ := ChAt.later hch2 (show Below w2.heap.size w2 (w2.alloc (boxE 0 0 0 0 0)) from grew (Below.refl _ _) _)
    generalize w2.alloc (boxE 0 0 0 0 0) = w3 at *
    generalize w2.heap.size = dx at *
    have cc := fun i => Joins.cell_of_block x3 i
    have ff := fun i => Joins.unfrozen_of_block x3 i
    refine rdy 9 (by kernel_rfl) rfl (fun K hK => ?_)
    go_simp
    refine hK.out _ _ (stE_below hHeld lx s) (fun hHeld => ?_)
    clear hK K
    try simp only [Act.put, qa, qb, qc]
    refine rdy 10 (by kernel_rfl) rfl (fun K hK => ?_)
    go_simp
    refine hK.out _ _ (hHeld) (fun hHeld => ?_)
    clear hK K
    try simp only [Act.put, qa, qb, qc]
    refine wpAnyH_done (by kernel_rfl) ?_ _
    go_wp2_with fail
    go_meet
    case rel => exact ⟨_, rfl, rfl, ⟨stE_box x3 s, lx, hHeld⟩⟩
   case step8ra =>
    intro K hK
    go_simp
    have lx : W0.heap.size ≤ w1.heap.size := hHeld.size
    refine hK.out _ _ (grew hHeld _) (fun hHeld => ?_)
    clear hK K
    try simp only [Act.put, qa, qb, qc]
    have x2 : (w1.alloc (boxE 0 0 0 0 0)).heap[w1.heap.size]? = some (boxE 0 0 0 0 0) := heap_new _ _
    have hch2 : _ := ChAt.later hch (show Below w1.heap.size w1 (w1.alloc (boxE 0 0 0 0 0)) from grew (Below.refl _ _) _)
    generalize w1.alloc (boxE 0 0 0 0 0) = w2 at *
    generalize w1.heap.size = dx at *
    refine rdy 4 (by kernel_rfl) rfl (fun K hK => ?_)
    go_simp
    refine (kr.out _ _ hch2).mono ?_
    rintro e w3 ⟨rfl, hb3⟩
    have hH3 : Below W0.heap.size W0 w3 := step_below1 hHeld hb3
    have hch3 := ChAt.later hch2 hb3
    have x3 := heap_below x2 hb3 (heap_lt x2)
    refine hK.out _ _ hH3 (fun hHeld => ?_)
    clear hK K
    try simp only [Act.put, qa, qb, qc]
    refine tk 5 (v := ?_) rfl (by kernel_rfl) (by rfl) (by assumption) (fun _ _ _ h => h) ?_ ?_
    rotate_left
    · intro w0 hSw; clear hSw; go_simp; first | done | with_reducible rfl
    try simp only [Act.put, qa, qb, qc]
    refine tk 6 (v := ?_) rfl (by kernel_rfl) (by rfl) (by assumption) (fun _ _ _ h => h) ?_ ?_
    rotate_left
    · intro w0 hSw; clear hSw; go_simp; first | done | with_reducible rfl
    try simp only [Act.put, qa, qb, qc]
    refine tk 7 (v := ?_) rfl (by kernel_rfl) (by rfl) (by assumption) (fun _ _ _ h => h) ?_ ?_
    rotate_left
    · intro w0 hSw; clear hSw; go_simp; first | done | with_reducible rfl
    try simp only [Act.put, qa, qb, qc]
    have cc := fun i => Joins.cell_of_block x3 i
    have ff := fun i => Joins.unfrozen_of_block x3 i
    refine rdy 9 (by kernel_rfl) rfl (fun K hK => ?_)
    go_simp
    refine hK.out _ _ (stE_below hHeld lx s) (fun hHeld => ?_)
    clear hK K
    try simp only [Act.put, qa, qb, qc]
    refine rdy 10 (by kernel_rfl) rfl (fun K hK => ?_)
    go_simp
    refine hK.out _ _ (hHeld) (fun hHeld => ?_)
    clear hK K
    try simp only [Act.put, qa, qb, qc]
    refine wpAnyH_done (by kernel_rfl) ?_ _
    go_wp2_with fail
    go_meet
    case rel => exact ⟨_, rfl, rfl, ⟨stE_box x3 s, lx, hHeld⟩⟩
  case step8r =>
   intro K hK
   go_simp
   have lx : W0.heap.size ≤ W0.heap.size := Nat.le_refl _
   refine hK.out _ _ (grew hHeld _) (fun hHeld => ?_)
   clear hK K
   try simp only [Act.put, qa, qb, qc]
   have x1 : ((W0.alloc (boxE 0 0 0 0 0)).drew).heap[W0.heap.size]? = some (boxE 0 0 0 0 0) := heap_new _ _
   generalize (W0.alloc (boxE 0 0 0 0 0)).drew = w1 at *
   refine rdy 1 (by kernel_rfl) rfl (fun K hK => ?_)
   go_simp
   refine (ku.out _ hHeld).mono ?_
   rintro e w2 ⟨u, rfl, hch, hb2⟩
   have hH2 : Below W0.heap.size W0 w2 := step_below1 hHeld hb2
   have x2 := heap_below x1 hb2 (heap_lt x1)
   refine hK.out _ _ hH2 (fun hHeld => ?_)
   clear hK K
   try simp only [Act.put, qa, qb, qc]
   refine rdy 4 (by kernel_rfl) rfl (fun K hK => ?_)
   go_simp
   refine (kr.out _ _ hch).mono ?_
   rintro e w3 ⟨rfl, hb3⟩
   have hH3 : Below W0.heap.size W0 w3 := step_below1 hHeld hb3
   have x3 := heap_below x2 hb3 (heap_lt x2)
   have hch3 := ChAt.later hch hb3
   refine hK.out _ _ hH3 (fun hHeld => ?_)
   clear hK K
   try simp only [Act.put, qa, qb, qc]
   refine tk 5 (v := ?_) rfl (by kernel_rfl) (by rfl) (by assumption) (fun _ _ _ h => h) ?_ ?_
   rotate_left
   · intro w0 hSw; clear hSw; go_simp; first | done | with_reducible rfl
   try simp only [Act.put, qa, qb, qc]
   refine tk 6 (v := ?_) rfl (by kernel_rfl) (by rfl) (by assumption) (fun _ _ _ h => h) ?_ ?_
   rotate_left
   · intro w0 hSw; clear hSw; go_simp; first | done | with_reducible rfl
   try simp only [Act.put, qa, qb, qc]
   refine tk 7 (v := ?_) rfl (by kernel_rfl) (by rfl) (by assumption) (fun _ _ _ h => h) ?_ ?_
   rotate_left
   · intro w0 hSw; clear hSw; go_simp; first | done | with_reducible rfl
   try simp only [Act.put, qa, qb, qc]
   have cc := fun i => Joins.cell_of_block x3 i
   have ff := fun i => Joins.unfrozen_of_block x3 i
   refine rdy 9 (by kernel_rfl) rfl (fun K hK => ?_)
   go_simp
   refine hK.out _ _ (stE_below hHeld lx s) (fun hHeld => ?_)
   clear hK K
   try simp only [Act.put, qa, qb, qc]
   refine rdy 10 (by kernel_rfl) rfl (fun K hK => ?_)
   go_simp
   refine hK.out _ _ (hHeld) (fun hHeld => ?_)
   clear hK K
   try simp only [Act.put, qa, qb, qc]
   refine wpAnyH_done (by kernel_rfl) ?_ _
   go_wp2_with fail
   go_meet
   case rel => exact ⟨_, rfl, rfl, ⟨stE_box x3 s, lx, hHeld⟩⟩
 case rest =>
  obtain ⟨b, rfl, rfl, hE⟩ := hcut
  have h0_1 : Aside _ := heap_below h0_0.out hE.below (heap_lt h0_0.out)
  have h1_1 : Aside _ := heap_below h1_0.out hE.below (heap_lt h1_0.out)
  have B1 : Aside (Below w.heap.size w wc) := B0.out.trans (hE.below.mono B0.out.size)
  have HX : Aside (wc.heap[b]? = some (boxE s.k s.j s.v s.t s.c)) := hE.box
  clear hE h0_0 h1_0 B0 ku kr
  generalize wc = w1 at *
  rcases HC.out with ⟨h0, h1⟩ | ⟨h0, h1⟩
  · have hz : (d != 0) = true := by rw [bne_iff_ne]; exact h0
   subst h1
   clear h0 HC kp HX h0_1
   have z1 := fun i => Joins.cell_of_block h1_1.out i
   have fz1 := fun i => Joins.unfrozen_of_block h1_1.out i
   go_wp2
   refine ret_st (p := 4) (q := 5) w1 (w.heap.size + 1) Cl.zero nil0 nil0 (o := Cl.zero) (u1 := nil0) (u2 := nil0) Tryz.results141 rfl rfl rfl h1_1.out rfl ?_
   exact ⟨nil0, nil0, rfl, bkT_nil _ rfl rfl, st12_below B1.out (by omega) _ _ _⟩
  · have hz : (d != 0) = false := by rw [h0]; rfl
   subst h1
   clear h0 HC
   have zx := fun i => Joins.cell_of_block HX.out i
   have z0 := fun i => Joins.cell_of_block h0_1.out i
   go_wp2_with fail
   refine (kp.out w1 B1.out).mono ?_
   rintro e w2 ⟨u1, u2, rfl, hT, hb2⟩
   have hR : Aside _ := heap_below h1_1.out hb2 (heap_lt h1_1.out)
   have hB : Aside _ := step_below1 B1.out hb2
   have HT : Aside (BkT w2 u1 u2 R) := hT
   obtain ⟨s1, o1, s2, o2, rfl, rfl⟩ := bk_slices hT.1.1 hT.1.2
   clear hb2 B1 hT h0_1 h1_1 zx z0 kp HX
   obtain ⟨n1, hn1⟩ : ∃ n, Hid ((R).js.length = n) := ⟨_, rfl⟩
   obtain ⟨n2, hn2⟩ : ∃ n, Hid ((R).rs.length = n) := ⟨_, rfl⟩
   rw [hn1.out, hn2.out] at HT ⊢
   have zr := fun i => Joins.cell_of_block hR.out i
   have fzr := fun i => Joins.unfrozen_of_block hR.out i
   go_wp2
   refine ret_st (p := 4) (q := 5) w2 (w.heap.size + 1) (R) (.slice s1 n1 o1) (.slice s2 n2 o2) (o := Cl.zero) (u1 := nil0) (u2 := nil0) Tryz.results141 rfl rfl rfl hR.out rfl ?_
   exact ⟨(.slice s1 n1 o1), (.slice s2 n2 o2), rfl, bkT_st12 ⟨_, hR.out⟩ HT.out _ _ _, st12_below hB.out (by omega) _ _ _⟩
theorem w_play_full (c : Cl) (a1 a2 : Option Addr) (m1 k1 m2 k2 : Nat) (g1 : Nat) (w : World) (h60 : (c.n == 60) = true) :
  AnsT 141 #[c.val (.slice a1 m1 k1) (.slice a2 m2 k2), .slice (some ⟨g1, 0, none⟩) 3 3] w (Cl.zero, 2) := by
 have B0 : Aside (Below w.heap.size w ((w.alloc (boxC c (.slice a1 m1 k1) (.slice a2 m2 k2))).alloc (boxZ))) := grew (grew (Below.refl _ _) _) _
 have h0_0 : Aside (((w.alloc (boxC c (.slice a1 m1 k1) (.slice a2 m2 k2))).alloc (boxZ)).heap[w.heap.size]? = some (boxC c (.slice a1 m1 k1) (.slice a2 m2 k2))) := by
  have := heap_new w (boxC c (.slice a1 m1 k1) (.slice a2 m2 k2))
  exact heap_old (this) _
 have h1_0 : Aside (((w.alloc (boxC c (.slice a1 m1 k1) (.slice a2 m2 k2))).alloc (boxZ)).heap[w.heap.size + 1]? = some (boxZ)) := by
  have := heap_new (w.alloc (boxC c (.slice a1 m1 k1) (.slice a2 m2 k2))) (boxZ)
  rw [World.size_alloc] at this
  exact this
 go_enter Tryz.func141, Tryz.ntmps141
 go_upto_region 1 with fail
 generalize ((w.alloc (boxC c (.slice a1 m1 k1) (.slice a2 m2 k2))).alloc (boxZ)) = w0 at *
 have z0 := fun i => Joins.cell_of_block h0_0.out i
 skip
 have z1 := fun i => Joins.cell_of_block h1_0.out i
 have fz1 := fun i => Joins.unfrozen_of_block h1_0.out i
 go_wp2
 refine ret_st (p := 4) (q := 5) w0 (w.heap.size + 1) Cl.zero nil0 nil0 (o := Cl.zero) (u1 := nil0) (u2 := nil0) Tryz.results141 rfl rfl rfl h1_0.out rfl ?_
 exact ⟨nil0, nil0, rfl, bkT_nil _ rfl rfl, st12_below B0.out (by omega) _ _ _⟩
theorem w_play_late (c : Cl) (a1 a2 : Option Addr) (m1 k1 m2 k2 : Nat) (g1 : Nat) (w : World) (h60 : (c.n == 60) = false) (hup14 : w.cell? ⟨g1, 14, none⟩ = some (.bool false)) (_ : g1 < w.heap.size) :
  AnsT 141 #[c.val (.slice a1 m1 k1) (.slice a2 m2 k2), .slice (some ⟨g1, 0, none⟩) 3 3] w (Cl.zero, 7) := by
 have hu14 : Aside ((((w.alloc (boxC c (.slice a1 m1 k1) (.slice a2 m2 k2))).alloc (boxZ))).cell? ⟨g1, 14, none⟩ = some (.bool false)) := cell_later (grew (grew (Below.refl _ _) _) _) hup14
 have B0 : Aside (Below w.heap.size w ((w.alloc (boxC c (.slice a1 m1 k1) (.slice a2 m2 k2))).alloc (boxZ))) := grew (grew (Below.refl _ _) _) _
 have h0_0 : Aside (((w.alloc (boxC c (.slice a1 m1 k1) (.slice a2 m2 k2))).alloc (boxZ)).heap[w.heap.size]? = some (boxC c (.slice a1 m1 k1) (.slice a2 m2 k2))) := by
  have := heap_new w (boxC c (.slice a1 m1 k1) (.slice a2 m2 k2))
  exact heap_old (this) _
 have h1_0 : Aside (((w.alloc (boxC c (.slice a1 m1 k1) (.slice a2 m2 k2))).alloc (boxZ)).heap[w.heap.size + 1]? = some (boxZ)) := by
  have := heap_new (w.alloc (boxC c (.slice a1 m1 k1) (.slice a2 m2 k2))) (boxZ)
  rw [World.size_alloc] at this
  exact this
 go_enter Tryz.func141, Tryz.ntmps141
 go_upto_region 1 with fail
 generalize ((w.alloc (boxC c (.slice a1 m1 k1) (.slice a2 m2 k2))).alloc (boxZ)) = w0 at *
 have z0 := fun i => Joins.cell_of_block h0_0.out i
 have hu := hu14.out
 skip
 have z1 := fun i => Joins.cell_of_block h1_0.out i
 have fz1 := fun i => Joins.unfrozen_of_block h1_0.out i
 go_wp2
 refine ret_st (p := 4) (q := 5) w0 (w.heap.size + 1) Cl.zero nil0 nil0 (o := Cl.zero) (u1 := nil0) (u2 := nil0) Tryz.results141 rfl rfl rfl h1_0.out rfl ?_
 exact ⟨nil0, nil0, rfl, bkT_nil _ rfl rfl, st12_below B0.out (by omega) _ _ _⟩
theorem cell14 {w : World} {g1 : Nat} {xs : List Nb} {x2 : Nb} (hv : SlOf Nb.cells 5 w (.slice (some ⟨g1, 0, none⟩) 3 3) xs) (hx2 : xs[2]? = some x2) : w.cell? ⟨g1, 14, none⟩ = some (.bool x2.n.up) ∧ g1 < w.heap.size := by
 obtain ⟨b, off, he, hE⟩ := hv.at (by omega)
 injection he with he
 injection he with e1 e2 e3
 subst e1 e2
 have h := hE 2 x2 hx2 4 _ rfl
 refine ⟨by simpa using h, ?_⟩
 rcases Nat.lt_or_ge g1 w.heap.size with hh | hh
 · exact hh
 · rw [World.cell?, Array.getElem?_eq_none (by simpa using hh)] at h
  cases h
theorem w_play (c : Cl) (v1 v2 : Value) (xs : List Nb) (g1 : Nat) (w : World) (W : Wd) (hW : RW W) (hn : nodesOf xs = W.ns) (hb : BkAt w v1 v2 c) (hv : SlOf Nb.cells 5 w (.slice (some ⟨g1, 0, none⟩) 3 3) xs) (hu : ∀ x, x ∈ xs → NodeT w x) :
  AnsT 141 #[c.val v1 v2, .slice (some ⟨g1, 0, none⟩) 3 3] w (playAt W c) := by
 obtain ⟨a1, k1, a2, k2, rfl, rfl⟩ := bk_slices hb.1 hb.2
 have hl3 : xs.length = 3 := hv.len
 obtain ⟨x2, hx2⟩ : ∃ x2, xs[2]? = some x2 := ⟨xs[2]'(by omega), List.getElem?_eq_getElem _⟩
 have hnd : W.nd 2 = x2.n := by
  rw [Wd.nd, ← hn, List.getD_eq_getElem?_getD, show (2 : Int).toNat = 2 from rfl, nodes_at hx2]; rfl
 obtain ⟨h14, hgl⟩ := cell14 hv hx2
 have hus : W.us = (nodesOf xs).map Nd.u := by rw [Wd.us, hn]
 unfold playAt
 rw [hnd, hus]
 by_cases h60 : c.n = 60
 · rw [if_pos h60]
  exact w_play_full c a1 a2 _ k1 _ k2 g1 w (by rw [h60]; rfl)
 · rw [if_neg h60]
  have h60b : (c.n == 60) = false := by rw [beq_eq_false_iff_ne]; exact h60
  cases hup : x2.n.up with
  | false =>
   rw [if_pos rfl]
   rw [hup] at h14
   exact w_play_late c a1 a2 _ k1 _ k2 g1 w h60b h14 hgl
  | true =>
   rw [if_neg (by simp)]
   have hc : ckChain ((nodesOf xs).map Nd.u) = 0 := by rw [← hus]; exact hW.chain
   refine w_play_at c a1 a2 _ k1 _ k2 xs g1 w hb hv hu ⟨?_, fun y hy => ?_⟩ hc h60b hx2 hup
   · rw [List.length_map, hl3]; decide
   · obtain ⟨z, hz, rfl⟩ := List.mem_map.1 hy
    have hzn : z.n ∈ W.ns := by rw [← hn]; exact List.mem_map.2 ⟨z, hz, rfl⟩
    obtain ⟨k, hk⟩ := List.getElem?_of_mem hzn
    obtain ⟨_, _, R⟩ := rn_of (hW.node k _ hk)
    have := (Un.ck_zero.1 R.uck).2.1
    show z.n.u.cells.length ≤ topN
    rw [this]; decide
theorem w_does1 (c : Cl) (a1 a2 : Option Addr) (m1 k1 m2 k2 : Nat) (x : Hp) (w : World) (B : Nat)  (R : Cl) (f : Int) (hk1 : (x.k == 1) = true)
  (kc : ∀ W, Below w.heap.size w W → AnsT 137 #[c.val (.slice a1 m1 k1) (.slice a2 m2 k2), x.e.val] W (R, f)) :
  AnsT 110 #[.pointer (some ⟨B, 0, none⟩), c.val (.slice a1 m1 k1) (.slice a2 m2 k2), x.val] w (R, f) := by
 have KC : Aside _ := kc
 clear kc
 have B0 : Aside (Below w.heap.size w (((w.alloc (boxC c (.slice a1 m1 k1) (.slice a2 m2 k2))).alloc (boxH x)).alloc (boxZ))) := grew (grew (grew (Below.refl _ _) _) _) _
 have h0_0 : Aside ((((w.alloc (boxC c (.slice a1 m1 k1) (.slice a2 m2 k2))).alloc (boxH x)).alloc (boxZ)).heap[w.heap.size]? = some (boxC c (.slice a1 m1 k1) (.slice a2 m2 k2))) := by
  have := heap_new w (boxC c (.slice a1 m1 k1) (.slice a2 m2 k2))
  exact heap_old (heap_old (this) _) _
 have h1_0 : Aside ((((w.alloc (boxC c (.slice a1 m1 k1) (.slice a2 m2 k2))).alloc (boxH x)).alloc (boxZ)).heap[w.heap.size + 1]? = some (boxH x)) := by
  have := heap_new (w.alloc (boxC c (.slice a1 m1 k1) (.slice a2 m2 k2))) (boxH x)
  rw [World.size_alloc] at this
  exact heap_old (this) _
 have h2_0 : Aside ((((w.alloc (boxC c (.slice a1 m1 k1) (.slice a2 m2 k2))).alloc (boxH x)).alloc (boxZ)).heap[w.heap.size + 1 + 1]? = some (boxZ)) := by
  have := heap_new ((w.alloc (boxC c (.slice a1 m1 k1) (.slice a2 m2 k2))).alloc (boxH x)) (boxZ)
  rw [World.size_alloc, World.size_alloc] at this
  exact this
 go_enter Tryz.func110, Tryz.ntmps110
 go_upto_region 1 with fail
 generalize (((w.alloc (boxC c (.slice a1 m1 k1) (.slice a2 m2 k2))).alloc (boxH x)).alloc (boxZ)) = w0 at *
 have z0 := fun i => Joins.cell_of_block h0_0.out i
 have z1 := fun i => Joins.cell_of_block h1_0.out i
 go_wp2_with fail
 refine (KC.out w0 B0.out).mono ?_
 rintro e w1 ⟨u1, u2, rfl, hT, hb1⟩
 have hR : Aside _ := heap_below h2_0.out hb1 (heap_lt h2_0.out)
 have hB : Aside _ := step_below1 B0.out hb1
 have HT : Aside (BkT w1 u1 u2 R) := hT
 obtain ⟨s1, o1, s2, o2, rfl, rfl⟩ := bk_slices hT.1.1 hT.1.2
 clear hb1 B0 hT h0_0 h1_0 h2_0 z0 z1 KC
 obtain ⟨n1, hn1⟩ : ∃ n, Hid ((R).js.length = n) := ⟨_, rfl⟩
 obtain ⟨n2, hn2⟩ : ∃ n, Hid ((R).rs.length = n) := ⟨_, rfl⟩
 rw [hn1.out, hn2.out] at HT ⊢
 have zr := fun i => Joins.cell_of_block hR.out i
 have fzr := fun i => Joins.unfrozen_of_block hR.out i
 go_wp2
 refine ret_st (p := 6) (q := 7) w1 (w.heap.size + 1 + 1) (R) (.slice s1 n1 o1) (.slice s2 n2 o2) (o := Cl.zero) (u1 := nil0) (u2 := nil0) Tryz.results110 rfl rfl rfl hR.out rfl ?_
 exact ⟨(.slice s1 n1 o1), (.slice s2 n2 o2), rfl, bkT_st12 ⟨_, hR.out⟩ HT.out _ _ _, st12_below hB.out (by omega) _ _ _⟩
theorem w_does2 (c : Cl) (a1 a2 : Option Addr) (m1 k1 m2 k2 : Nat) (x : Hp) (w : World) (B : Nat) (vn vc : Value) (tip t : Int) (hbw : w.heap[B]? = some (boxW vn tip vc t)) (R : Cl) (f : Int) (hk1 : (x.k == 1) = false) (hk2 : (x.k == 2) = true)
  (kc : ∀ W, Below w.heap.size w W → AnsT 138 #[c.val (.slice a1 m1 k1) (.slice a2 m2 k2), .int .i64 x.c, .int .i64 x.j, .int .i64 t] W (R, f)) :
  AnsT 110 #[.pointer (some ⟨B, 0, none⟩), c.val (.slice a1 m1 k1) (.slice a2 m2 k2), x.val] w (R, f) := by
 have KC : Aside _ := kc
 have HW : Aside (w.heap[B]? = some (boxW vn tip vc t)) := hbw
 clear kc hbw
 have B0 : Aside (Below w.heap.size w (((w.alloc (boxC c (.slice a1 m1 k1) (.slice a2 m2 k2))).alloc (boxH x)).alloc (boxZ))) := grew (grew (grew (Below.refl _ _) _) _) _
 have h0_0 : Aside ((((w.alloc (boxC c (.slice a1 m1 k1) (.slice a2 m2 k2))).alloc (boxH x)).alloc (boxZ)).heap[w.heap.size]? = some (boxC c (.slice a1 m1 k1) (.slice a2 m2 k2))) := by
  have := heap_new w (boxC c (.slice a1 m1 k1) (.slice a2 m2 k2))
  exact heap_old (heap_old (this) _) _
 have h1_0 : Aside ((((w.alloc (boxC c (.slice a1 m1 k1) (.slice a2 m2 k2))).alloc (boxH x)).alloc (boxZ)).heap[w.heap.size + 1]? = some (boxH x)) := by
  have := heap_new (w.alloc (boxC c (.slice a1 m1 k1) (.slice a2 m2 k2))) (boxH x)
  rw [World.size_alloc] at this
  exact heap_old (this) _
 have h2_0 : Aside ((((w.alloc (boxC c (.slice a1 m1 k1) (.slice a2 m2 k2))).alloc (boxH x)).alloc (boxZ)).heap[w.heap.size + 1 + 1]? = some (boxZ)) := by
  have := heap_new ((w.alloc (boxC c (.slice a1 m1 k1) (.slice a2 m2 k2))).alloc (boxH x)) (boxZ)
  rw [World.size_alloc, World.size_alloc] at this
  exact this
 go_enter Tryz.func110, Tryz.ntmps110
 go_upto_region 1 with fail
 generalize (((w.alloc (boxC c (.slice a1 m1 k1) (.slice a2 m2 k2))).alloc (boxH x)).alloc (boxZ)) = w0 at *
 have HW0 : Aside _ := heap_below HW.out B0.out (heap_lt HW.out)
 clear HW
 have z0 := fun i => Joins.cell_of_block h0_0.out i
 have z1 := fun i => Joins.cell_of_block h1_0.out i
 go_upto_region 5 with fail
 clear z0 z1
 have h0_1 : Aside (w0.drew.heap[w.heap.size]? = some (boxC c (.slice a1 m1 k1) (.slice a2 m2 k2))) := h0_0.out
 have h1_1 : Aside (w0.drew.heap[w.heap.size + 1]? = some (boxH x)) := h1_0.out
 have h2_1 : Aside (w0.drew.heap[w.heap.size + 1 + 1]? = some (boxZ)) := h2_0.out
 have HW1 : Aside (w0.drew.heap[B]? = some (boxW vn tip vc t)) := HW0.out
 have B1 : Aside (Below w.heap.size w w0.drew) := B0.out.drew
 clear h0_0 h1_0 h2_0 HW0 B0
 refine wp_region_noPanic ?_
 refine region_L (fun w' => Below w0.drew.heap.size w0.drew w') 12 (by kernel_rfl) (Below.refl _ _) (fun hHeld => ?_)
 generalize w0.drew = w1 at *
 refine tl 0 (v := ?_) rfl (by kernel_rfl) (by rfl) (by assumption) (fun _ _ _ h => h) ?_ ?_
 rotate_left
 · (intro w0 hSw; have z := (show ∀ i, w0.cell? ⟨w.heap.size, i, none⟩ = #[Value.int .i64 c.p, .int .i64 c.d, .int .i64 c.e.k, .int .i64 c.e.j, .int .i64 c.e.v, .int .i64 c.e.t, .int .i64 c.e.c, .int .i64 c.a, .int .i64 c.l, .int .i64 c.n, .slice a1 m1 k1, .slice a2 m2 k2][i]? from fun i => Joins.cell_of_block (heap_below h0_1.out hSw (heap_lt h0_1.out)) i); clear hSw; go_simp; first | done | with_reducible rfl)
 try simp only [Act.put, qa, qb, qc]
 refine tl 1 (v := ?_) rfl (by kernel_rfl) (by rfl) (by assumption) (fun _ _ _ h => h) ?_ ?_
 rotate_left
 · (intro w0 hSw; clear hSw; go_simp; first | done | with_reducible rfl)
 try simp only [Act.put, qa, qb, qc]
 refine tl 2 (v := ?_) rfl (by kernel_rfl) (by rfl) (by assumption) (fun _ _ _ h => h) ?_ ?_
 rotate_left
 · (intro w0 hSw; have z := (show ∀ i, w0.cell? ⟨w.heap.size + 1, i, none⟩ = #[Value.int .i64 x.k, .int .i64 x.c, .int .i64 x.n, .int .i64 x.j, .int .i64 x.p, .int .i64 x.e.k, .int .i64 x.e.j, .int .i64 x.e.v, .int .i64 x.e.t, .int .i64 x.e.c][i]? from fun i => Joins.cell_of_block (heap_below h1_1.out hSw (heap_lt h1_1.out)) i); clear hSw; go_simp; first | done | with_reducible rfl)
 try simp only [Act.put, qa, qb, qc]
 refine tl 3 (v := ?_) rfl (by kernel_rfl) (by rfl) (by assumption) (fun _ _ _ h => h) ?_ ?_
 rotate_left
 · (intro w0 hSw; clear hSw; go_simp; first | done | with_reducible rfl)
 try simp only [Act.put, qa, qb, qc]
 refine tl 4 (v := ?_) rfl (by kernel_rfl) (by rfl) (by assumption) (fun _ _ _ h => h) ?_ ?_
 rotate_left
 · (intro w0 hSw; have z := (show ∀ i, w0.cell? ⟨w.heap.size + 1, i, none⟩ = #[Value.int .i64 x.k, .int .i64 x.c, .int .i64 x.n, .int .i64 x.j, .int .i64 x.p, .int .i64 x.e.k, .int .i64 x.e.j, .int .i64 x.e.v, .int .i64 x.e.t, .int .i64 x.e.c][i]? from fun i => Joins.cell_of_block (heap_below h1_1.out hSw (heap_lt h1_1.out)) i); clear hSw; go_simp; first | done | with_reducible rfl)
 try simp only [Act.put, qa, qb, qc]
 refine tl 5 (v := ?_) rfl (by kernel_rfl) (by rfl) (by assumption) (fun _ _ _ h => h) ?_ ?_
 rotate_left
 · (intro w0 hSw; clear hSw; go_simp; first | done | with_reducible rfl)
 try simp only [Act.put, qa, qb, qc]
 refine tl 6 (v := ?_) rfl (by kernel_rfl) (by rfl) (by assumption) (fun _ _ _ h => h) ?_ ?_
 rotate_left
 · (intro w0 hSw; clear hSw; go_simp; first | done | with_reducible rfl)
 try simp only [Act.put, qa, qb, qc]
 refine tl 7 (v := ?_) rfl (by kernel_rfl) (by rfl) (by assumption) (fun _ _ _ h => h) ?_ ?_
 rotate_left
 · (intro w0 hSw; clear hSw; go_simp; first | done | with_reducible rfl)
 try simp only [Act.put, qa, qb, qc]
 refine tl 8 (v := ?_) rfl (by kernel_rfl) (by rfl) (by assumption) (fun _ _ _ h => h) ?_ ?_
 rotate_left
 · (intro w0 hSw; have z := (show ∀ i, w0.cell? ⟨B, i, none⟩ = #[vn, .int .i64 tip, vc, .int .i64 t][i]? from fun i => Joins.cell_of_block (heap_below HW1.out hSw (heap_lt HW1.out)) i); clear hSw; go_simp; first | done | with_reducible rfl)
 try simp only [Act.put, qa, qb, qc]
 refine anyL_one (i := 9) (by kernel_rfl) rfl (fun K hK => ?_)
 go_simp
 refine (KC.out _ B1.out).mono ?_
 rintro e w2 ⟨u1, u2, rfl, hT, hb2⟩
 have hR : Aside _ := heap_below h2_1.out hb2 (heap_lt h2_1.out)
 have hB : Aside _ := step_below1 B1.out hb2
 have HT : Aside (BkT w2 u1 u2 R) := hT
 obtain ⟨s1, o1, s2, o2, rfl, rfl⟩ := bk_slices hT.1.1 hT.1.2
 refine hK.out _ _ (fun _ => hb2) (fun hNext => ?_)
 replace hNext := hNext (by kernel_rfl)
 clear hK K hb2 B1 hT h2_1 KC
 try simp only [Act.put, qa, qb, qc]
 obtain ⟨n1, hn1⟩ : ∃ n, Hid (R.js.length = n) := ⟨_, rfl⟩
 obtain ⟨n2, hn2⟩ : ∃ n, Hid (R.rs.length = n) := ⟨_, rfl⟩
 rw [hn1.out, hn2.out] at HT ⊢
 refine anyL_free (i := 10) (v := ?_) rfl (by kernel_rfl) (by kernel_rfl) (by kernel_rfl) (by kernel_rfl) (fun _ _ _ h => h) (Or.inl ⟨by rfl, ?_⟩) (by assumption) ?_
 rotate_left
 · (intro w0 _; go_simp; first | done | with_reducible rfl)
 try simp only [Act.put, qa, qb, qc]
 refine anyL_free (i := 11) (v := ?_) rfl (by kernel_rfl) (by kernel_rfl) (by kernel_rfl) (by kernel_rfl) (fun _ _ _ h => h) (Or.inl ⟨by rfl, ?_⟩) (by assumption) ?_
 rotate_left
 · (intro w0 _; go_simp; first | done | with_reducible rfl)
 try simp only [Act.put, qa, qb, qc]
 have zr := fun i => Joins.cell_of_block hR.out i
 have fzr := fun i => Joins.unfrozen_of_block hR.out i
 clear hHeld
 refine anyL_one (i := 12) (by kernel_rfl) rfl (fun K hK => ?_)
 go_simp
 refine hK.out _ _ (fun h => absurd h (by decide +kernel)) (fun _ => ?_)
 clear hK K
 try simp only [Act.put, qa, qb, qc]
 refine anyL_one (i := 13) (by kernel_rfl) rfl (fun K hK => ?_)
 go_simp
 refine hK.out _ _ (fun h => absurd h (by decide +kernel)) (fun _ => ?_)
 clear hK K
 try simp only [Act.put, qa, qb, qc]
 refine anyL_done (by kernel_rfl) ?_ _
 refine NoPanic.normal ?_
 try simp only [Act.put, qa, qb, qc]
 go_wp2
 refine ret_st (p := 6) (q := 7) w2 (w.heap.size + 1 + 1) R (.slice s1 n1 o1) (.slice s2 n2 o2) (o := Cl.zero) (u1 := nil0) (u2 := nil0) Tryz.results110 rfl rfl rfl hR.out rfl ?_
 exact ⟨(.slice s1 n1 o1), (.slice s2 n2 o2), rfl, bkT_st12 ⟨_, hR.out⟩ HT.out _ _ _, st12_below hB.out (by omega) _ _ _⟩
theorem w_does3 (c : Cl) (a1 a2 : Option Addr) (m1 k1 m2 k2 : Nat) (x : Hp) (w : World) (B : Nat) (vn vc : Value) (tip t : Int) (hbw : w.heap[B]? = some (boxW vn tip vc t)) (R : Cl) (f : Int) (hk1 : (x.k == 1) = false) (hk2 : (x.k == 2) = false) (hk3 : (x.k == 3) = true)
  (kc : ∀ W, Below w.heap.size w W → AnsT 139 #[c.val (.slice a1 m1 k1) (.slice a2 m2 k2), .int .i64 tip] W (R, f)) :
  AnsT 110 #[.pointer (some ⟨B, 0, none⟩), c.val (.slice a1 m1 k1) (.slice a2 m2 k2), x.val] w (R, f) := by
 have KC : Aside _ := kc
 have HW : Aside (w.heap[B]? = some (boxW vn tip vc t)) := hbw
 clear kc hbw
 have B0 : Aside (Below w.heap.size w (((w.alloc (boxC c (.slice a1 m1 k1) (.slice a2 m2 k2))).alloc (boxH x)).alloc (boxZ))) := grew (grew (grew (Below.refl _ _) _) _) _
 have h0_0 : Aside ((((w.alloc (boxC c (.slice a1 m1 k1) (.slice a2 m2 k2))).alloc (boxH x)).alloc (boxZ)).heap[w.heap.size]? = some (boxC c (.slice a1 m1 k1) (.slice a2 m2 k2))) := by
  have := heap_new w (boxC c (.slice a1 m1 k1) (.slice a2 m2 k2))
  exact heap_old (heap_old (this) _) _
 have h1_0 : Aside ((((w.alloc (boxC c (.slice a1 m1 k1) (.slice a2 m2 k2))).alloc (boxH x)).alloc (boxZ)).heap[w.heap.size + 1]? = some (boxH x)) := by
  have := heap_new (w.alloc (boxC c (.slice a1 m1 k1) (.slice a2 m2 k2))) (boxH x)
  rw [World.size_alloc] at this
  exact heap_old (this) _
 have h2_0 : Aside ((((w.alloc (boxC c (.slice a1 m1 k1) (.slice a2 m2 k2))).alloc (boxH x)).alloc (boxZ)).heap[w.heap.size + 1 + 1]? = some (boxZ)) := by
  have := heap_new ((w.alloc (boxC c (.slice a1 m1 k1) (.slice a2 m2 k2))).alloc (boxH x)) (boxZ)
  rw [World.size_alloc, World.size_alloc] at this
  exact this
 go_enter Tryz.func110, Tryz.ntmps110
 go_upto_region 1 with fail
 generalize (((w.alloc (boxC c (.slice a1 m1 k1) (.slice a2 m2 k2))).alloc (boxH x)).alloc (boxZ)) = w0 at *
 have HW0 : Aside _ := heap_below HW.out B0.out (heap_lt HW.out)
 clear HW
 have z0 := fun i => Joins.cell_of_block h0_0.out i
 have z1 := fun i => Joins.cell_of_block h1_0.out i
 go_upto_region 7 with fail
 clear z0 z1
 have h0_1 : Aside (w0.drew.heap[w.heap.size]? = some (boxC c (.slice a1 m1 k1) (.slice a2 m2 k2))) := h0_0.out
 have h1_1 : Aside (w0.drew.heap[w.heap.size + 1]? = some (boxH x)) := h1_0.out
 have h2_1 : Aside (w0.drew.heap[w.heap.size + 1 + 1]? = some (boxZ)) := h2_0.out
 have HW1 : Aside (w0.drew.heap[B]? = some (boxW vn tip vc t)) := HW0.out
 have B1 : Aside (Below w.heap.size w w0.drew) := B0.out.drew
 clear h0_0 h1_0 h2_0 HW0 B0
 refine wp_region_noPanic ?_
 refine region_L (fun w' => Below w0.drew.heap.size w0.drew w') 8 (by kernel_rfl) (Below.refl _ _) (fun hHeld => ?_)
 generalize w0.drew = w1 at *
 refine tl 0 (v := ?_) rfl (by kernel_rfl) (by rfl) (by assumption) (fun _ _ _ h => h) ?_ ?_
 rotate_left
 · (intro w0 hSw; have z := (show ∀ i, w0.cell? ⟨w.heap.size, i, none⟩ = #[Value.int .i64 c.p, .int .i64 c.d, .int .i64 c.e.k, .int .i64 c.e.j, .int .i64 c.e.v, .int .i64 c.e.t, .int .i64 c.e.c, .int .i64 c.a, .int .i64 c.l, .int .i64 c.n, .slice a1 m1 k1, .slice a2 m2 k2][i]? from fun i => Joins.cell_of_block (heap_below h0_1.out hSw (heap_lt h0_1.out)) i); clear hSw; go_simp; first | done | with_reducible rfl)
 try simp only [Act.put, qa, qb, qc]
 refine tl 1 (v := ?_) rfl (by kernel_rfl) (by rfl) (by assumption) (fun _ _ _ h => h) ?_ ?_
 rotate_left
 · (intro w0 hSw; clear hSw; go_simp; first | done | with_reducible rfl)
 try simp only [Act.put, qa, qb, qc]
 refine tl 2 (v := ?_) rfl (by kernel_rfl) (by rfl) (by assumption) (fun _ _ _ h => h) ?_ ?_
 rotate_left
 · (intro w0 hSw; clear hSw; go_simp; first | done | with_reducible rfl)
 try simp only [Act.put, qa, qb, qc]
 refine tl 3 (v := ?_) rfl (by kernel_rfl) (by rfl) (by assumption) (fun _ _ _ h => h) ?_ ?_
 rotate_left
 · (intro w0 hSw; clear hSw; go_simp; first | done | with_reducible rfl)
 try simp only [Act.put, qa, qb, qc]
 refine tl 4 (v := ?_) rfl (by kernel_rfl) (by rfl) (by assumption) (fun _ _ _ h => h) ?_ ?_
 rotate_left
 · (intro w0 hSw; have z := (show ∀ i, w0.cell? ⟨B, i, none⟩ = #[vn, .int .i64 tip, vc, .int .i64 t][i]? from fun i => Joins.cell_of_block (heap_below HW1.out hSw (heap_lt HW1.out)) i); clear hSw; go_simp; first | done | with_reducible rfl)
 try simp only [Act.put, qa, qb, qc]
 refine anyL_one (i := 5) (by kernel_rfl) rfl (fun K hK => ?_)
 go_simp
 refine (KC.out _ B1.out).mono ?_
 rintro e w2 ⟨u1, u2, rfl, hT, hb2⟩
 have hR : Aside _ := heap_below h2_1.out hb2 (heap_lt h2_1.out)
 have hB : Aside _ := step_below1 B1.out hb2
 have HT : Aside (BkT w2 u1 u2 R) := hT
 obtain ⟨s1, o1, s2, o2, rfl, rfl⟩ := bk_slices hT.1.1 hT.1.2
 refine hK.out _ _ (fun _ => hb2) (fun hNext => ?_)
 replace hNext := hNext (by kernel_rfl)
 clear hK K hb2 B1 hT h2_1 KC
 try simp only [Act.put, qa, qb, qc]
 obtain ⟨n1, hn1⟩ : ∃ n, Hid (R.js.length = n) := ⟨_, rfl⟩
 obtain ⟨n2, hn2⟩ : ∃ n, Hid (R.rs.length = n) := ⟨_, rfl⟩
 rw [hn1.out, hn2.out] at HT ⊢
 refine anyL_free (i := 6) (v := ?_) rfl (by kernel_rfl) (by kernel_rfl) (by kernel_rfl) (by kernel_rfl) (fun _ _ _ h => h) (Or.inl ⟨by rfl, ?_⟩) (by assumption) ?_
 rotate_left
 · (intro w0 _; go_simp; first | done | with_reducible rfl)
 try simp only [Act.put, qa, qb, qc]
 refine anyL_free (i := 7) (v := ?_) rfl (by kernel_rfl) (by kernel_rfl) (by kernel_rfl) (by kernel_rfl) (fun _ _ _ h => h) (Or.inl ⟨by rfl, ?_⟩) (by assumption) ?_
 rotate_left
 · (intro w0 _; go_simp; first | done | with_reducible rfl)
 try simp only [Act.put, qa, qb, qc]
 have zr := fun i => Joins.cell_of_block hR.out i
 have fzr := fun i => Joins.unfrozen_of_block hR.out i
 clear hHeld
 refine anyL_one (i := 8) (by kernel_rfl) rfl (fun K hK => ?_)
 go_simp
 refine hK.out _ _ (fun h => absurd h (by decide +kernel)) (fun _ => ?_)
 clear hK K
 try simp only [Act.put, qa, qb, qc]
 refine anyL_one (i := 9) (by kernel_rfl) rfl (fun K hK => ?_)
 go_simp
 refine hK.out _ _ (fun h => absurd h (by decide +kernel)) (fun _ => ?_)
 clear hK K
 try simp only [Act.put, qa, qb, qc]
 refine anyL_done (by kernel_rfl) ?_ _
 refine NoPanic.normal ?_
 try simp only [Act.put, qa, qb, qc]
 go_wp2
 refine ret_st (p := 6) (q := 7) w2 (w.heap.size + 1 + 1) R (.slice s1 n1 o1) (.slice s2 n2 o2) (o := Cl.zero) (u1 := nil0) (u2 := nil0) Tryz.results110 rfl rfl rfl hR.out rfl ?_
 exact ⟨(.slice s1 n1 o1), (.slice s2 n2 o2), rfl, bkT_st12 ⟨_, hR.out⟩ HT.out _ _ _, st12_below hB.out (by omega) _ _ _⟩
theorem w_does6 (c : Cl) (a1 a2 : Option Addr) (m1 k1 m2 k2 : Nat) (x : Hp) (w : World) (B : Nat)  (R : Cl) (f : Int) (hk1 : (x.k == 1) = false) (hk2 : (x.k == 2) = false) (hk3 : (x.k == 3) = false) (hk6 : (x.k == 6) = true)
  (kc : ∀ W, Below w.heap.size w W → AnsT 140 #[c.val (.slice a1 m1 k1) (.slice a2 m2 k2), .int .i64 x.n] W (R, f)) :
  AnsT 110 #[.pointer (some ⟨B, 0, none⟩), c.val (.slice a1 m1 k1) (.slice a2 m2 k2), x.val] w (R, f) := by
 have KC : Aside _ := kc
 clear kc
 have B0 : Aside (Below w.heap.size w (((w.alloc (boxC c (.slice a1 m1 k1) (.slice a2 m2 k2))).alloc (boxH x)).alloc (boxZ))) := grew (grew (grew (Below.refl _ _) _) _) _
 have h0_0 : Aside ((((w.alloc (boxC c (.slice a1 m1 k1) (.slice a2 m2 k2))).alloc (boxH x)).alloc (boxZ)).heap[w.heap.size]? = some (boxC c (.slice a1 m1 k1) (.slice a2 m2 k2))) := by
  have := heap_new w (boxC c (.slice a1 m1 k1) (.slice a2 m2 k2))
  exact heap_old (heap_old (this) _) _
 have h1_0 : Aside ((((w.alloc (boxC c (.slice a1 m1 k1) (.slice a2 m2 k2))).alloc (boxH x)).alloc (boxZ)).heap[w.heap.size + 1]? = some (boxH x)) := by
  have := heap_new (w.alloc (boxC c (.slice a1 m1 k1) (.slice a2 m2 k2))) (boxH x)
  rw [World.size_alloc] at this
  exact heap_old (this) _
 have h2_0 : Aside ((((w.alloc (boxC c (.slice a1 m1 k1) (.slice a2 m2 k2))).alloc (boxH x)).alloc (boxZ)).heap[w.heap.size + 1 + 1]? = some (boxZ)) := by
  have := heap_new ((w.alloc (boxC c (.slice a1 m1 k1) (.slice a2 m2 k2))).alloc (boxH x)) (boxZ)
  rw [World.size_alloc, World.size_alloc] at this
  exact this
 go_enter Tryz.func110, Tryz.ntmps110
 go_upto_region 1 with fail
 generalize (((w.alloc (boxC c (.slice a1 m1 k1) (.slice a2 m2 k2))).alloc (boxH x)).alloc (boxZ)) = w0 at *
 have z0 := fun i => Joins.cell_of_block h0_0.out i
 have z1 := fun i => Joins.cell_of_block h1_0.out i
 go_wp2_with fail
 refine (KC.out w0 B0.out).mono ?_
 rintro e w1 ⟨u1, u2, rfl, hT, hb1⟩
 have hR : Aside _ := heap_below h2_0.out hb1 (heap_lt h2_0.out)
 have hB : Aside _ := step_below1 B0.out hb1
 have HT : Aside (BkT w1 u1 u2 R) := hT
 obtain ⟨s1, o1, s2, o2, rfl, rfl⟩ := bk_slices hT.1.1 hT.1.2
 clear hb1 B0 hT h0_0 h1_0 h2_0 z0 z1 KC
 obtain ⟨n1, hn1⟩ : ∃ n, Hid ((R).js.length = n) := ⟨_, rfl⟩
 obtain ⟨n2, hn2⟩ : ∃ n, Hid ((R).rs.length = n) := ⟨_, rfl⟩
 rw [hn1.out, hn2.out] at HT ⊢
 have zr := fun i => Joins.cell_of_block hR.out i
 have fzr := fun i => Joins.unfrozen_of_block hR.out i
 go_wp2
 refine ret_st (p := 6) (q := 7) w1 (w.heap.size + 1 + 1) (R) (.slice s1 n1 o1) (.slice s2 n2 o2) (o := Cl.zero) (u1 := nil0) (u2 := nil0) Tryz.results110 rfl rfl rfl hR.out rfl ?_
 exact ⟨(.slice s1 n1 o1), (.slice s2 n2 o2), rfl, bkT_st12 ⟨_, hR.out⟩ HT.out _ _ _, st12_below hB.out (by omega) _ _ _⟩
theorem w_does7 (c : Cl) (a1 a2 : Option Addr) (m1 k1 m2 k2 : Nat) (x : Hp) (w : World) (B : Nat) (v0 : Option Addr) (l0 q0 : Nat) (vc : Value) (tip t : Int) (hbw : w.heap[B]? = some (boxW (.slice v0 l0 q0) tip vc t)) (R : Cl) (f : Int) (hk1 : (x.k == 1) = false) (hk2 : (x.k == 2) = false) (hk3 : (x.k == 3) = false) (hk6 : (x.k == 6) = false) (hk7 : (x.k == 7) = true)
  (kc : ∀ W, Below w.heap.size w W → AnsT 141 #[c.val (.slice a1 m1 k1) (.slice a2 m2 k2), (.slice v0 l0 q0)] W (R, f)) :
  AnsT 110 #[.pointer (some ⟨B, 0, none⟩), c.val (.slice a1 m1 k1) (.slice a2 m2 k2), x.val] w (R, f) := by
 have KC : Aside _ := kc
 have HW : Aside (w.heap[B]? = some (boxW (.slice v0 l0 q0) tip vc t)) := hbw
 clear kc hbw
 have B0 : Aside (Below w.heap.size w (((w.alloc (boxC c (.slice a1 m1 k1) (.slice a2 m2 k2))).alloc (boxH x)).alloc (boxZ))) := grew (grew (grew (Below.refl _ _) _) _) _
 have h0_0 : Aside ((((w.alloc (boxC c (.slice a1 m1 k1) (.slice a2 m2 k2))).alloc (boxH x)).alloc (boxZ)).heap[w.heap.size]? = some (boxC c (.slice a1 m1 k1) (.slice a2 m2 k2))) := by
  have := heap_new w (boxC c (.slice a1 m1 k1) (.slice a2 m2 k2))
  exact heap_old (heap_old (this) _) _
 have h1_0 : Aside ((((w.alloc (boxC c (.slice a1 m1 k1) (.slice a2 m2 k2))).alloc (boxH x)).alloc (boxZ)).heap[w.heap.size + 1]? = some (boxH x)) := by
  have := heap_new (w.alloc (boxC c (.slice a1 m1 k1) (.slice a2 m2 k2))) (boxH x)
  rw [World.size_alloc] at this
  exact heap_old (this) _
 have h2_0 : Aside ((((w.alloc (boxC c (.slice a1 m1 k1) (.slice a2 m2 k2))).alloc (boxH x)).alloc (boxZ)).heap[w.heap.size + 1 + 1]? = some (boxZ)) := by
  have := heap_new ((w.alloc (boxC c (.slice a1 m1 k1) (.slice a2 m2 k2))).alloc (boxH x)) (boxZ)
  rw [World.size_alloc, World.size_alloc] at this
  exact this
 go_enter Tryz.func110, Tryz.ntmps110
 go_upto_region 1 with fail
 generalize (((w.alloc (boxC c (.slice a1 m1 k1) (.slice a2 m2 k2))).alloc (boxH x)).alloc (boxZ)) = w0 at *
 have HW0 : Aside _ := heap_below HW.out B0.out (heap_lt HW.out)
 clear HW
 have z0 := fun i => Joins.cell_of_block h0_0.out i
 have z1 := fun i => Joins.cell_of_block h1_0.out i
 go_upto_region 11 with fail
 clear z0 z1
 have h0_1 : Aside (w0.drew.heap[w.heap.size]? = some (boxC c (.slice a1 m1 k1) (.slice a2 m2 k2))) := h0_0.out
 have h1_1 : Aside (w0.drew.heap[w.heap.size + 1]? = some (boxH x)) := h1_0.out
 have h2_1 : Aside (w0.drew.heap[w.heap.size + 1 + 1]? = some (boxZ)) := h2_0.out
 have HW1 : Aside (w0.drew.heap[B]? = some (boxW (.slice v0 l0 q0) tip vc t)) := HW0.out
 have B1 : Aside (Below w.heap.size w w0.drew) := B0.out.drew
 clear h0_0 h1_0 h2_0 HW0 B0
 refine wp_region_noPanic ?_
 refine region_L (fun w' => Below w0.drew.heap.size w0.drew w') 8 (by kernel_rfl) (Below.refl _ _) (fun hHeld => ?_)
 generalize w0.drew = w1 at *
 refine tl 0 (v := ?_) rfl (by kernel_rfl) (by rfl) (by assumption) (fun _ _ _ h => h) ?_ ?_
 rotate_left
 · (intro w0 hSw; have z := (show ∀ i, w0.cell? ⟨w.heap.size, i, none⟩ = #[Value.int .i64 c.p, .int .i64 c.d, .int .i64 c.e.k, .int .i64 c.e.j, .int .i64 c.e.v, .int .i64 c.e.t, .int .i64 c.e.c, .int .i64 c.a, .int .i64 c.l, .int .i64 c.n, .slice a1 m1 k1, .slice a2 m2 k2][i]? from fun i => Joins.cell_of_block (heap_below h0_1.out hSw (heap_lt h0_1.out)) i); clear hSw; go_simp; first | done | with_reducible rfl)
 try simp only [Act.put, qa, qb, qc]
 refine tl 1 (v := ?_) rfl (by kernel_rfl) (by rfl) (by assumption) (fun _ _ _ h => h) ?_ ?_
 rotate_left
 · (intro w0 hSw; clear hSw; go_simp; first | done | with_reducible rfl)
 try simp only [Act.put, qa, qb, qc]
 refine tl 2 (v := ?_) rfl (by kernel_rfl) (by rfl) (by assumption) (fun _ _ _ h => h) ?_ ?_
 rotate_left
 · (intro w0 hSw; clear hSw; go_simp; first | done | with_reducible rfl)
 try simp only [Act.put, qa, qb, qc]
 refine tl 3 (v := ?_) rfl (by kernel_rfl) (by rfl) (by assumption) (fun _ _ _ h => h) ?_ ?_
 rotate_left
 · (intro w0 hSw; clear hSw; go_simp; first | done | with_reducible rfl)
 try simp only [Act.put, qa, qb, qc]
 refine tl 4 (v := ?_) rfl (by kernel_rfl) (by rfl) (by assumption) (fun _ _ _ h => h) ?_ ?_
 rotate_left
 · (intro w0 hSw; have z := (show ∀ i, w0.cell? ⟨B, i, none⟩ = #[Value.slice v0 l0 q0, .int .i64 tip, vc, .int .i64 t][i]? from fun i => Joins.cell_of_block (heap_below HW1.out hSw (heap_lt HW1.out)) i); clear hSw; go_simp; first | done | with_reducible rfl)
 try simp only [Act.put, qa, qb, qc]
 refine anyL_one (i := 5) (by kernel_rfl) rfl (fun K hK => ?_)
 go_simp
 refine (KC.out _ B1.out).mono ?_
 rintro e w2 ⟨u1, u2, rfl, hT, hb2⟩
 have hR : Aside _ := heap_below h2_1.out hb2 (heap_lt h2_1.out)
 have hB : Aside _ := step_below1 B1.out hb2
 have HT : Aside (BkT w2 u1 u2 R) := hT
 obtain ⟨s1, o1, s2, o2, rfl, rfl⟩ := bk_slices hT.1.1 hT.1.2
 refine hK.out _ _ (fun _ => hb2) (fun hNext => ?_)
 replace hNext := hNext (by kernel_rfl)
 clear hK K hb2 B1 hT h2_1 KC
 try simp only [Act.put, qa, qb, qc]
 obtain ⟨n1, hn1⟩ : ∃ n, Hid (R.js.length = n) := ⟨_, rfl⟩
 obtain ⟨n2, hn2⟩ : ∃ n, Hid (R.rs.length = n) := ⟨_, rfl⟩
 rw [hn1.out, hn2.out] at HT ⊢
 refine anyL_free (i := 6) (v := ?_) rfl (by kernel_rfl) (by kernel_rfl) (by kernel_rfl) (by kernel_rfl) (fun _ _ _ h => h) (Or.inl ⟨by rfl, ?_⟩) (by assumption) ?_
 rotate_left
 · (intro w0 _; go_simp; first | done | with_reducible rfl)
 try simp only [Act.put, qa, qb, qc]
 refine anyL_free (i := 7) (v := ?_) rfl (by kernel_rfl) (by kernel_rfl) (by kernel_rfl) (by kernel_rfl) (fun _ _ _ h => h) (Or.inl ⟨by rfl, ?_⟩) (by assumption) ?_
 rotate_left
 · (intro w0 _; go_simp; first | done | with_reducible rfl)
 try simp only [Act.put, qa, qb, qc]
 have zr := fun i => Joins.cell_of_block hR.out i
 have fzr := fun i => Joins.unfrozen_of_block hR.out i
 clear hHeld
 refine anyL_one (i := 8) (by kernel_rfl) rfl (fun K hK => ?_)
 go_simp
 refine hK.out _ _ (fun h => absurd h (by decide +kernel)) (fun _ => ?_)
 clear hK K
 try simp only [Act.put, qa, qb, qc]
 refine anyL_one (i := 9) (by kernel_rfl) rfl (fun K hK => ?_)
 go_simp
 refine hK.out _ _ (fun h => absurd h (by decide +kernel)) (fun _ => ?_)
 clear hK K
 try simp only [Act.put, qa, qb, qc]
 refine anyL_done (by kernel_rfl) ?_ _
 refine NoPanic.normal ?_
 try simp only [Act.put, qa, qb, qc]
 go_wp2
 refine ret_st (p := 6) (q := 7) w2 (w.heap.size + 1 + 1) R (.slice s1 n1 o1) (.slice s2 n2 o2) (o := Cl.zero) (u1 := nil0) (u2 := nil0) Tryz.results110 rfl rfl rfl hR.out rfl ?_
 exact ⟨(.slice s1 n1 o1), (.slice s2 n2 o2), rfl, bkT_st12 ⟨_, hR.out⟩ HT.out _ _ _, st12_below hB.out (by omega) _ _ _⟩
theorem w_does14 (c : Cl) (a1 a2 : Option Addr) (m1 k1 m2 k2 : Nat) (x : Hp) (w : World) (B : Nat) (hk1 : (x.k == 1) = false) (hk2 : (x.k == 2) = false) (hk3 : (x.k == 3) = false) (hk6 : (x.k == 6) = false) (hk7 : (x.k == 7) = false) :
  AnsT 110 #[.pointer (some ⟨B, 0, none⟩), c.val (.slice a1 m1 k1) (.slice a2 m2 k2), x.val] w (cnew, 0) := by
 have B0 : Aside (Below w.heap.size w (((w.alloc (boxC c (.slice a1 m1 k1) (.slice a2 m2 k2))).alloc (boxH x)).alloc (boxZ))) := grew (grew (grew (Below.refl _ _) _) _) _
 have h0_0 : Aside ((((w.alloc (boxC c (.slice a1 m1 k1) (.slice a2 m2 k2))).alloc (boxH x)).alloc (boxZ)).heap[w.heap.size]? = some (boxC c (.slice a1 m1 k1) (.slice a2 m2 k2))) := by
  have := heap_new w (boxC c (.slice a1 m1 k1) (.slice a2 m2 k2))
  exact heap_old (heap_old (this) _) _
 have h1_0 : Aside ((((w.alloc (boxC c (.slice a1 m1 k1) (.slice a2 m2 k2))).alloc (boxH x)).alloc (boxZ)).heap[w.heap.size + 1]? = some (boxH x)) := by
  have := heap_new (w.alloc (boxC c (.slice a1 m1 k1) (.slice a2 m2 k2))) (boxH x)
  rw [World.size_alloc] at this
  exact heap_old (this) _
 have h2_0 : Aside ((((w.alloc (boxC c (.slice a1 m1 k1) (.slice a2 m2 k2))).alloc (boxH x)).alloc (boxZ)).heap[w.heap.size + 1 + 1]? = some (boxZ)) := by
  have := heap_new ((w.alloc (boxC c (.slice a1 m1 k1) (.slice a2 m2 k2))).alloc (boxH x)) (boxZ)
  rw [World.size_alloc, World.size_alloc] at this
  exact this
 go_enter Tryz.func110, Tryz.ntmps110
 go_upto_region 1 with fail
 generalize (((w.alloc (boxC c (.slice a1 m1 k1) (.slice a2 m2 k2))).alloc (boxH x)).alloc (boxZ)) = w0 at *
 have z1 := fun i => Joins.cell_of_block h1_0.out i
 go_wp2_with fail
 refine (cl_new _).mono ?_
 rintro e w1 ⟨rfl, hb1⟩
 have hR : Aside _ := heap_below h2_0.out hb1 (heap_lt h2_0.out)
 have hB : Aside _ := step_below1 B0.out hb1
 clear hb1 h0_0 h1_0 h2_0 B0 z1
 have zr := fun i => Joins.cell_of_block hR.out i
 have fzr := fun i => Joins.unfrozen_of_block hR.out i
 go_wp2
 refine ret_st (p := 6) (q := 7) w1 (w.heap.size + 1 + 1) cnew nil0 nil0 (o := Cl.zero) (u1 := nil0) (u2 := nil0) Tryz.results110 rfl rfl rfl hR.out rfl ?_
 exact ⟨nil0, nil0, rfl, bkT_nil _ rfl rfl, st12_below hB.out (by omega) _ _ _⟩
theorem w_does {X w : World} {B g1 g2 : Nat} {W : Wd} {xs : List Nb} {cs : List Cb} (hW : RW W) (hI : WIn X w B g1 g2 xs W.tip cs W.t) (hn : nodesOf xs = W.ns) (c : Cl) (v1 v2 : Value) (hb : BkAt w v1 v2 c) (x : Hp) :
  AnsT 110 #[.pointer (some ⟨B, 0, none⟩), c.val v1 v2, x.val] w (doesAt W c x) := by
 obtain ⟨a1, k1, a2, k2, rfl, rfl⟩ := bk_slices hb.1 hb.2
 have ff : ∀ q : Int, ¬ x.k = q → (x.k == q) = false := fun q h => by rw [beq_eq_false_iff_ne]; exact h
 have hbw := hI.st.box
 unfold doesAt
 by_cases k1' : x.k = 1
 · rw [if_pos k1']
  exact w_does1 c a1 a2 _ k1 _ k2 x w B _ _ (by rw [k1']; rfl) (fun V hV => w_want c x.e _ _ V (bkAt_later hb hV))
 rw [if_neg k1']
 by_cases k2' : x.k = 2
 · rw [if_pos k2']
  exact w_does2 c a1 a2 _ k1 _ k2 x w B _ _ _ _ hbw _ _ (ff 1 k1') (by rw [k2']; rfl) (fun V hV => cl_ring c x.c x.j W.t _ _ V (bkAt_later hb hV))
 rw [if_neg k2']
 by_cases k3' : x.k = 3
 · rw [if_pos k3']
  exact w_does3 c a1 a2 _ k1 _ k2 x w B _ _ _ _ hbw _ _ (ff 1 k1') (ff 2 k2') (by rw [k3']; rfl) (fun V hV => w_place c W.tip _ _ V (bkAt_later hb hV))
 rw [if_neg k3']
 by_cases k6' : x.k = 6
 · rw [if_pos k6']
  exact w_does6 c a1 a2 _ k1 _ k2 x w B _ _ (ff 1 k1') (ff 2 k2') (ff 3 k3') (by rw [k6']; rfl) (fun V hV => cl_fill c x.n _ _ V (bkAt_later hb hV))
 rw [if_neg k6']
 by_cases k7' : x.k = 7
 · rw [if_pos k7']
  refine w_does7 c a1 a2 _ k1 _ k2 x w B _ _ _ _ _ _ hbw _ _ (ff 1 k1') (ff 2 k2') (ff 3 k3') (ff 6 k6') (by rw [k7']; rfl) (fun V hV => ?_)
  have hI' := hI.later hV
  exact w_play c _ _ xs g1 V W hW hn (bkAt_later hb hV) (by have := slOf_lit (c := 3) Nb.five hI'.st.nrow rfl; rwa [hI.three] at this) (fun y hy => (hI'.st.nodes y hy).1)
 rw [if_neg k7']
 exact w_does14 c a1 a2 _ k1 _ k2 x w B (ff 1 k1') (ff 2 k2') (ff 3 k3') (ff 6 k6') (ff 7 k7')
theorem WIn.cat {X w : World} {B g1 g2 : Nat} {xs : List Nb} {cs : List Cb} {tip t : Int} (h : WIn X w B g1 g2 xs tip cs t) {k : Nat} {y : Cb} (hy : cs[k]? = some y) {i : Nat} {v : Value} (hv : y.cells[i]? = some v) : w.cell? ⟨g2, k * 12 + i, none⟩ = some v := by
 rw [Joins.cell_of_block h.st.crow]
 have := row_flat Cb.twelve cs k y hy i v hv
 simpa using this
theorem WIn.cfz {X w : World} {B g1 g2 : Nat} {xs : List Nb} {cs : List Cb} {tip t : Int} (h : WIn X w B g1 g2 xs tip cs t) (i : Nat) : w.frozen? ⟨g2, i, none⟩ = false := Joins.unfrozen_of_block h.st.crow i
theorem WIn.boxz {X w : World} {B g1 g2 : Nat} {xs : List Nb} {cs : List Cb} {tip t : Int} (h : WIn X w B g1 g2 xs tip cs t) : ∀ i, w.cell? ⟨B, i, none⟩ = #[Value.slice (some ⟨g1, 0, none⟩) 3 3, .int .i64 tip, .slice (some ⟨g2, 0, none⟩) 3 3, .int .i64 t][i]? := fun i => Joins.cell_of_block h.st.box i
theorem wd_cl {W : Wd} {cs : List Cb} (hc : clientsOf cs = W.cs) {k : Nat} {y : Cb} (hy : cs[k]? = some y) : W.cl (k : Int) = y.c := by
 rw [Wd.cl, ← hc, List.getD_eq_getElem?_getD, Int.toNat_natCast, clients_at hy]; rfl
theorem wd_nd {W : Wd} {xs : List Nb} (hn : nodesOf xs = W.ns) {k : Nat} {x : Nb} (hx : xs[k]? = some x) : W.nd (k : Int) = x.n := by
 rw [Wd.nd, ← hn, List.getD_eq_getElem?_getD, Int.toNat_natCast, nodes_at hx]; rfl
theorem has_putC {X w : World} {B g1 g2 : Nat} {W : Wd} {xs : List Nb} {cs : List Cb} (hI : WIn X w B g1 g2 xs W.tip cs W.t) (hn : nodesOf xs = W.ns) (hc : clientsOf cs = W.cs) {k : Nat} {y : Cb} (hy : cs[k]? = some y) {z : Cb} (hz : ClientR w z) : WHas X (stC w g2 (k * 12) z) B g1 g2 (W.putC (k : Int) z.c) := by
 obtain ⟨ds, h1, h2⟩ := liftC hI hy hz
 refine ⟨xs, ds, h1, hn, ?_⟩
 rw [h2, hc]
 show W.cs.set k z.c = W.cs.set (k : Int).toNat z.c
 rw [Int.toNat_natCast]
theorem w_learn_at {X w : World} {B g1 g2 : Nat} {W : Wd} {xs : List Nb} {cs : List Cb} (hI : WIn X w B g1 g2 xs W.tip cs W.t) (hn : nodesOf xs = W.ns) (hc : clientsOf cs = W.cs) (k : Nat) (hk : k < 3) (c : Cl) (a1 a2 : Option Addr) (m1 k1 m2 k2 : Nat) (hy : cs[k]? = some ⟨c, .slice a1 m1 k1, .slice a2 m2 k2⟩) (p : Int) :
  AnsW 103 #[.pointer (some ⟨B, 0, none⟩), .int .i64 (k : Int), .int .i64 p] X w B g1 g2 (W.onC (k : Int) (learnOf c p)) := by
 obtain ⟨⟨R, d⟩, hq⟩ : ∃ q, learnOf c p = q := ⟨_, rfl⟩
 have hcl : Aside (∀ V, Below w.heap.size w V → Calls Tryz.prog 104 #[.pointer (some ⟨B, 0, none⟩), .int .i64 (k : Int)] V fun e w' => e = .returned (.bool true) ∧ w' = V) := fun V hV => by
  have := w_isClient (hI.later hV).st (k : Int)
  rwa [decide_eq_true (show 0 ≤ (k : Int) ∧ (k : Int) ≤ 2 by omega)] at this
 have kc := cl_learn c p (.slice a1 m1 k1) (.slice a2 m2 k2) w (hI.st.clients _ (List.mem_of_getElem? hy)).1
 rw [hq] at kc
 have HI : Aside (WIn X w B g1 g2 xs W.tip cs W.t) := hI
 have HE : Aside (nodesOf xs = W.ns ∧ clientsOf cs = W.cs) := ⟨hn, hc⟩
 have HY : Aside (cs[k]? = some ⟨c, .slice a1 m1 k1, .slice a2 m2 k2⟩) := hy
 have hki : (k : Int) < 3 := by omega
 have hk0 : (0 : Int) ≤ (k : Int) := by omega
 obtain ⟨rr, HRR⟩ : ∃ rr, Hid (W.onC (k : Int) (learnOf c p) = rr) := ⟨_, rfl⟩
 rw [HRR.out]
 have HC : Hid ((d ≠ 0 ∧ rr = (W, d)) ∨ (d = 0 ∧ rr = (W.putC (k : Int) R, 0))) := by
  have := HRR.out
  rw [hq, Wd.onC] at this
  by_cases h0 : d = 0
  · rw [if_neg (not_not_intro h0)] at this; exact Or.inr ⟨h0, this.symm⟩
  · rw [if_pos h0] at this; exact Or.inl ⟨h0, this.symm⟩
 have y0 := hI.cat hy (i := 0) rfl
 have y1 := hI.cat hy (i := 1) rfl
 have y2 := hI.cat hy (i := 2) rfl
 have y3 := hI.cat hy (i := 3) rfl
 have y4 := hI.cat hy (i := 4) rfl
 have y5 := hI.cat hy (i := 5) rfl
 have y6 := hI.cat hy (i := 6) rfl
 have y7 := hI.cat hy (i := 7) rfl
 have y8 := hI.cat hy (i := 8) rfl
 have y9 := hI.cat hy (i := 9) rfl
 have y10 := hI.cat hy (i := 10) rfl
 have y11 := hI.cat hy (i := 11) rfl
 simp only [Nat.add_zero] at y0
 have zb := hI.boxz
 clear hq hI hn hc hy HRR
 go_enter Tryz.func103, Tryz.ntmps103
 go_wp2_with fail
 refine (hcl.out w (Below.refl _ _)).mono ?_
 rintro e wx ⟨rfl, hwx⟩
 obtain rfl : w = wx := hwx.symm
 clear hcl
 go_wp2_with fail
 refine kc.mono ?_
 rintro e w1 ⟨u1, u2, rfl, hT, hb1⟩
 have HI1 : Aside _ := HI.out.later hb1
 have HT : Aside (BkT w1 u1 u2 R) := hT
 obtain ⟨s1, o1, s2, o2, rfl, rfl⟩ := bk_slices hT.1.1 hT.1.2
 clear hb1 hT HI kc zb y0 y1 y2 y3 y4 y5 y6 y7 y8 y9 y10 y11
 obtain ⟨n1, hn1⟩ : ∃ n, Hid (R.js.length = n) := ⟨_, rfl⟩
 obtain ⟨n2, hn2⟩ : ∃ n, Hid (R.rs.length = n) := ⟨_, rfl⟩
 rw [hn1.out, hn2.out] at HT ⊢
 have hbA : Below w1.heap.size w1 (w1.alloc (boxC R (.slice s1 n1 o1) (.slice s2 n2 o2))) := grew (Below.refl _ _) _
 have HI2 : Aside _ := HI1.out.later hbA
 have HT2 : Aside (ClientR (w1.alloc (boxC R (.slice s1 n1 o1) (.slice s2 n2 o2))) ⟨R, .slice s1 n1 o1, .slice s2 n2 o2⟩) := bkT_later HT.out hbA
 have HX2 : Aside ((w1.alloc (boxC R (.slice s1 n1 o1) (.slice s2 n2 o2))).heap[w1.heap.size]? = some (boxC R (.slice s1 n1 o1) (.slice s2 n2 o2))) := heap_new _ _
 clear HI1 HT hbA
 go_upto_region 4 with fail
 generalize w1.alloc (boxC R (.slice s1 n1 o1) (.slice s2 n2 o2)) = w2 at *
 generalize w1.heap.size = b at *
 rcases HC.out with ⟨h0, h1⟩ | ⟨h0, h1⟩
 · have hz : (d != 0) = true := by rw [bne_iff_ne]; exact h0
  subst h1
  clear h0 HC HT2 HX2
  go_wp2
  go_ret
  exact ⟨rfl, xs, cs, HI2.out, HE.out.1, HE.out.2⟩
 · have hz : (d != 0) = false := by rw [h0]; rfl
  subst h1
  clear h0 HC
  have zb := HI2.out.boxz
  have zx := fun i => Joins.cell_of_block HX2.out i
  have y0 := HI2.out.cat HY.out (i := 0) rfl
  have y1 := HI2.out.cat HY.out (i := 1) rfl
  have y2 := HI2.out.cat HY.out (i := 2) rfl
  have y3 := HI2.out.cat HY.out (i := 3) rfl
  have y4 := HI2.out.cat HY.out (i := 4) rfl
  have y5 := HI2.out.cat HY.out (i := 5) rfl
  have y6 := HI2.out.cat HY.out (i := 6) rfl
  have y7 := HI2.out.cat HY.out (i := 7) rfl
  have y8 := HI2.out.cat HY.out (i := 8) rfl
  have y9 := HI2.out.cat HY.out (i := 9) rfl
  have y10 := HI2.out.cat HY.out (i := 10) rfl
  have y11 := HI2.out.cat HY.out (i := 11) rfl
  simp only [Nat.add_zero] at y0
  have fy := HI2.out.cfz
  go_upto_region 6 with fail
  go_region
  go_wp2
  go_ret
  have := (has_putC HI2.out HE.out.1 HE.out.2 HY.out HT2.out).later (Below.refl _ _).drew
  exact ⟨rfl, this⟩
theorem w_learn {X w : World} {B g1 g2 : Nat} {W : Wd} (h : WHas X w B g1 g2 W) (who p : Int) : AnsW 103 #[.pointer (some ⟨B, 0, none⟩), .int .i64 who, .int .i64 p] X w B g1 g2 (learnAt W who p) := by
 have H := h
 obtain ⟨xs, cs, hI, hn, hc⟩ := h
 unfold learnAt
 by_cases g : 0 ≤ who ∧ who ≤ 2
 · rw [if_neg (not_not_intro g)]
  obtain ⟨k, rfl⟩ : ∃ k : Nat, who = k := ⟨who.toNat, by omega⟩
  obtain ⟨y, hy⟩ : ∃ y, cs[k]? = some y := ⟨cs[k]'(by have := hI.three'; omega), List.getElem?_eq_getElem _⟩
  rw [wd_cl hc hy]
  obtain ⟨c, v1, v2⟩ := y
  obtain ⟨a1, k1, a2, k2, e1, e2⟩ := bk_slices (hI.st.clients _ (List.mem_of_getElem? hy)).1.1 (hI.st.clients _ (List.mem_of_getElem? hy)).1.2
  simp only at e1 e2
  subst e1 e2
  exact w_learn_at hI hn hc k (by omega) c a1 a2 _ k1 _ k2 hy p
 · rw [if_pos g]
  have hcl := w_isClient hI.st who
  rw [decide_eq_false g] at hcl
  clear hI hn hc g
  go_enter Tryz.func103, Tryz.ntmps103
  go_wp2_with fail
  refine hcl.mono ?_
  rintro e wx ⟨rfl, hwx⟩
  obtain rfl : w = wx := hwx.symm
  go_wp2
  go_ret
  exact ⟨rfl, H⟩
structure CBx (W0 wx : World) (b : Nat) (R : Cl) (v1 v2 : Value) : Prop where
 box : wx.heap[b]? = some (boxC R v1 v2)
 bk : BkT wx v1 v2 R
 base : W0.heap.size ≤ b
 below : Below W0.heap.size W0 wx
theorem cbx_A {W0 w1 : World} {R : Cl} {v1 v2 : Value} (hA : Below W0.heap.size W0 w1) (hT : BkT w1 v1 v2 R) : CBx W0 (w1.alloc (boxC R v1 v2)) w1.heap.size R v1 v2 := ⟨heap_new _ _, bkT_later hT (grew (Below.refl _ _) _), hA.size, grew hA _⟩
theorem cbx_B {W0 w1 : World} {b : Nat} {R : Cl} {v1 v2 : Value} (hx : w1.heap[b]? = some (boxZ)) (hB : Below W0.heap.size W0 w1) (hT : BkT w1 v1 v2 R) (hb : W0.heap.size ≤ b) : CBx W0 (st12 w1 b R v1 v2) b R v1 v2 :=
 ⟨st12_box (show w1.heap[b]? = some (boxC Cl.zero nil0 nil0) from hx) R v1 v2, bkT_st12 ⟨_, hx⟩ hT _ _ _, hb, st12_below hB hb _ _ _⟩
theorem stC_other {w : World} {g q : Nat} {ob : Obj} (h : w.heap[q]? = some ob) (hne : q ≠ g) (o : Nat) (y : Cb) : (stC w g o y).heap[q]? = some ob := by
 unfold stC
 exact other_block (other_block (other_block (other_block (other_block (other_block (other_block (other_block (other_block (other_block (other_block (other_block h hne _ _) hne _ _) hne _ _) hne _ _) hne _ _) hne _ _) hne _ _) hne _ _) hne _ _) hne _ _) hne _ _) hne _ _
theorem heap_drew {w : World} {q : Nat} {ob : Obj} (h : w.heap[q]? = some ob) : w.drew.heap[q]? = some ob := h
theorem has_tip {X w : World} {B g1 g2 : Nat} {W : Wd} (h : WHas X w B g1 g2 W) (q : Int) : WHas X (w.setCell ⟨B, 1, none⟩ (.int .i64 q)) B g1 g2 ⟨W.ns, q, W.cs, W.t⟩ := by
 obtain ⟨xs, cs, h1, h2, h3⟩ := h
 exact ⟨xs, cs, ⟨h1.st.setTip q, h1.three, h1.three'⟩, h2, h3⟩
theorem w_atClient_at {X w : World} {B g1 g2 : Nat} {W : Wd} (hW : RW W) {xs : List Nb} {cs : List Cb} (hI : WIn X w B g1 g2 xs W.tip cs W.t) (hn : nodesOf xs = W.ns) (hc : clientsOf cs = W.cs) (k : Nat) (hk : k < 3) (c : Cl) (a1 a2 : Option Addr) (m1 k1 m2 k2 : Nat) (hy : cs[k]? = some ⟨c, .slice a1 m1 k1, .slice a2 m2 k2⟩)
  (xk xn xj xp : Int) (xe : En) :
  AnsW 75 #[.pointer (some ⟨B, 0, none⟩), Hp.val ⟨xk, (k : Int), xn, xj, xp, xe⟩] X w B g1 g2 (if (doesAt W c ⟨xk, (k : Int), xn, xj, xp, xe⟩).2 ≠ 0 then (W, (doesAt W c ⟨xk, (k : Int), xn, xj, xp, xe⟩).2) else (⟨W.ns, if xk = 3 then W.tip + 1 else W.tip, W.cs.set k (doesAt W c ⟨xk, (k : Int), xn, xj, xp, xe⟩).1, W.t⟩, 0)) := by
 obtain ⟨⟨R, d⟩, hq⟩ : ∃ q, doesAt W c ⟨xk, (k : Int), xn, xj, xp, xe⟩ = q := ⟨_, rfl⟩
 rw [hq]
 simp only
 obtain ⟨tp, HTP⟩ : ∃ tp, Hid ((if xk = 3 then W.tip + 1 else W.tip) = tp) := ⟨_, rfl⟩
 rw [HTP.out]
 have hbA : Below w.heap.size w (w.alloc (boxH ⟨xk, (k : Int), xn, xj, xp, xe⟩)) := grew (Below.refl _ _) _
 have hcl := w_isClient (hI.later hbA).st (k : Int)
 rw [decide_eq_true (show 0 ≤ (k : Int) ∧ (k : Int) ≤ 2 by omega)] at hcl
 have kc : Aside (∀ V, Below w.heap.size w V → AnsT 110 #[.pointer (some ⟨B, 0, none⟩), c.val (.slice a1 m1 k1) (.slice a2 m2 k2), Hp.val ⟨xk, (k : Int), xn, xj, xp, xe⟩] V (R, d)) := fun V hV => by
  have := w_does hW (hI.later hV) hn c (.slice a1 m1 k1) (.slice a2 m2 k2) (bkAt_later (hI.st.clients _ (List.mem_of_getElem? hy)).1 hV) ⟨xk, (k : Int), xn, xj, xp, xe⟩
  rwa [hq] at this
 have HI0 : Aside (WIn X (w.alloc (boxH ⟨xk, (k : Int), xn, xj, xp, xe⟩)) B g1 g2 xs W.tip cs W.t) := hI.later hbA
 have HX0 : Aside ((w.alloc (boxH ⟨xk, (k : Int), xn, xj, xp, xe⟩)).heap[w.heap.size]? = some (boxH ⟨xk, (k : Int), xn, xj, xp, xe⟩)) := heap_new _ _
 have HB0 : Aside (Below w.heap.size w (w.alloc (boxH ⟨xk, (k : Int), xn, xj, xp, xe⟩))) := hbA
 have HE : Aside (nodesOf xs = W.ns ∧ clientsOf cs = W.cs) := ⟨hn, hc⟩
 have HY : Aside (cs[k]? = some ⟨c, .slice a1 m1 k1, .slice a2 m2 k2⟩) := hy
 have HG : Aside (g2 < w.heap.size ∧ B < w.heap.size) := ⟨heap_lt hI.st.crow, heap_lt hI.st.box⟩
 have HT3 : Aside (W.tip ≤ 60) := hW.tip.2
 have HT0 : Aside (0 ≤ W.tip) := hW.tip.1
 have hki : (k : Int) < 3 := by omega
 have hk0 : (0 : Int) ≤ (k : Int) := by omega
 obtain ⟨rr, HRR⟩ : ∃ rr, Hid ((if d ≠ 0 then (W, d) else ((⟨W.ns, tp, W.cs.set k R, W.t⟩ : Wd), 0)) = rr) := ⟨_, rfl⟩
 rw [HRR.out]
 have HC : Hid ((d ≠ 0 ∧ rr = (W, d)) ∨ (d = 0 ∧ rr = (⟨W.ns, tp, W.cs.set k R, W.t⟩, 0))) := by
  have := HRR.out
  by_cases h0 : d = 0
  · rw [if_neg (not_not_intro h0)] at this; exact Or.inr ⟨h0, this.symm⟩
  · rw [if_pos h0] at this; exact Or.inl ⟨h0, this.symm⟩
 clear hq hI hn hc hy HRR hW hbA
 go_enter Tryz.func75, Tryz.ntmps75
 go_upto_region 1 with fail
 generalize w.alloc (boxH ⟨xk, (k : Int), xn, xj, xp, xe⟩) = w1 at *
 have HI1 : Aside (WIn X w1 B g1 g2 xs W.tip cs W.t) := HI0.out
 have HX1 : Aside (w1.heap[w.heap.size]? = some (boxH ⟨xk, (k : Int), xn, xj, xp, xe⟩)) := HX0.out
 have zh := fun i => Joins.cell_of_block HX1.out i
 clear HI0 HX0
 go_wp2_with fail
 refine hcl.mono ?_
 rintro e wx ⟨rfl, hwx⟩
 obtain rfl : w1 = wx := hwx.symm
 clear hcl
 go_upto_region 3 with fail
 clear zh
 have HK1 : Aside (∀ V, Below w1.heap.size w1 V → AnsT 110 #[.pointer (some ⟨B, 0, none⟩), c.val (.slice a1 m1 k1) (.slice a2 m2 k2), Hp.val ⟨xk, (k : Int), xn, xj, xp, xe⟩] V (R, d)) := fun V hV => kc.out V (HB0.out.trans (hV.mono HB0.out.size))
 clear kc
 go_cut [5, 6] from 12 to 25 (fun s5 s6 wx => ∃ (b : Nat) (v1 v2 : Value), s5 = .pointer (some ⟨b, 0, none⟩) ∧ s6 = .int .i64 d ∧ CBx w1 wx b R v1 v2)
 case first =>
  refine wp_region_held_drew (S := fun W' => Below w1.heap.size w1 W') (by kernel_rfl) ((Below.refl _ _).drew) (fun hHeld => ?_)
  refine tk 0 (v := ?_) rfl (by kernel_rfl) (by rfl) (by assumption) (fun _ _ _ h => h) ?_ ?_
  rotate_left
  · intro w0 hSw; clear hSw; go_simp; first | done | with_reducible rfl
  try simp only [Act.put, qa, qb, qc]
  refine tk 1 (v := ?_) rfl (by kernel_rfl) (by rfl) (by assumption) (fun _ _ _ h => h) ?_ ?_
  rotate_left
  · intro w0 hSw; clear hSw; go_simp; first | done | with_reducible rfl
  try simp only [Act.put, qa, qb, qc]
  refine tk 2 (v := ?_) rfl (by kernel_rfl) (by rfl) (by assumption) (fun _ _ _ h => h) ?_ ?_
  rotate_left
  · intro w0 hSw; clear hSw; go_simp; first | done | with_reducible rfl
  try simp only [Act.put, qa, qb, qc]
  refine tk 3 (v := ?_) rfl (by kernel_rfl) (by rfl) (by assumption) (fun _ _ _ h => h) ?_ ?_
  rotate_left
  · intro w0 hSw; clear hSw; go_simp; first | done | with_reducible rfl
  try simp only [Act.put, qa, qb, qc]
  refine tk 4 (v := ?_) rfl (by kernel_rfl) (by rfl) (by assumption) (fun _ _ _ h => h) ?_ ?_
  rotate_left
  · intro w0 hSw; have z := (HI1.out.later hSw).boxz; clear hSw; go_simp; first | done | with_reducible rfl
  try simp only [Act.put, qa, qb, qc]
  refine tk 5 (v := ?_) rfl (by kernel_rfl) (by rfl) (by assumption) (fun _ _ _ h => h) ?_ ?_
  rotate_left
  · intro w0 hSw; clear hSw; go_simp; first | done | with_reducible rfl
  try simp only [Act.put, qa, qb, qc]
  refine tk 6 (v := ?_) rfl (by kernel_rfl) (by rfl) (by assumption) (fun _ _ _ h => h) ?_ ?_
  rotate_left
  · intro w0 hSw; have z := (show ∀ i, w0.cell? ⟨w.heap.size, i, none⟩ = #[Value.int .i64 xk, .int .i64 (k : Int), .int .i64 xn, .int .i64 xj, .int .i64 xp, .int .i64 xe.k, .int .i64 xe.j, .int .i64 xe.v, .int .i64 xe.t, .int .i64 xe.c][i]? from fun i => Joins.cell_of_block (heap_below HX1.out hSw (heap_lt HX1.out)) i); clear hSw; go_simp; first | done | with_reducible rfl
  try simp only [Act.put, qa, qb, qc]
  refine tk 7 (v := ?_) rfl (by kernel_rfl) (by rfl) (by assumption) (fun _ _ _ h => h) ?_ ?_
  rotate_left
  · intro w0 hSw; clear hSw; go_simp; first | done | with_reducible rfl
  try simp only [Act.put, qa, qb, qc]
  refine tk 8 (v := ?_) rfl (by kernel_rfl) (by rfl) (by assumption) (fun _ _ _ h => h) ?_ ?_
  rotate_left
  · intro w0 hSw; have y0 := (HI1.out.later hSw).cat HY.out (i := 0) rfl; have y1 := (HI1.out.later hSw).cat HY.out (i := 1) rfl; have y2 := (HI1.out.later hSw).cat HY.out (i := 2) rfl; have y3 := (HI1.out.later hSw).cat HY.out (i := 3) rfl; have y4 := (HI1.out.later hSw).cat HY.out (i := 4) rfl; have y5 := (HI1.out.later hSw).cat HY.out (i := 5) rfl; have y6 := (HI1.out.later hSw).cat HY.out (i := 6) rfl; have y7 := (HI1.out.later hSw).cat HY.out (i := 7) rfl; have y8 := (HI1.out.later hSw).cat HY.out (i := 8) rfl; have y9 := (HI1.out.later hSw).cat HY.out (i := 9) rfl; have y10 := (HI1.out.later hSw).cat HY.out (i := 10) rfl; have y11 := (HI1.out.later hSw).cat HY.out (i := 11) rfl; simp only [Nat.add_zero] at y0; clear hSw; go_simp; first | done | with_reducible rfl
  try simp only [Act.put, qa, qb, qc]
  refine tk 9 (v := ?_) rfl (by kernel_rfl) (by rfl) (by assumption) (fun _ _ _ h => h) ?_ ?_
  rotate_left
  · intro w0 hSw; have z := (show ∀ i, w0.cell? ⟨w.heap.size, i, none⟩ = #[Value.int .i64 xk, .int .i64 (k : Int), .int .i64 xn, .int .i64 xj, .int .i64 xp, .int .i64 xe.k, .int .i64 xe.j, .int .i64 xe.v, .int .i64 xe.t, .int .i64 xe.c][i]? from fun i => Joins.cell_of_block (heap_below HX1.out hSw (heap_lt HX1.out)) i); clear hSw; go_simp; first | done | with_reducible rfl
  try simp only [Act.put, qa, qb, qc]
  refine wpAnyH_ready (rs := [10, 14]) (by kernel_rfl) (by simp) ?_
  refine AllReadyH.cons (o := ?o10p) ?hi10p ?step10p (AllReadyH.cons (o := ?o14p) ?hi14p ?step14p AllReadyH.nil)
  case hi10p => (simp only [List.getElem?_toArray, List.getElem?_cons_succ, List.getElem?_cons_zero]; rfl)
  case hi14p => (simp only [List.getElem?_toArray, List.getElem?_cons_succ, List.getElem?_cons_zero]; rfl)
  case step10p =>
   intro K hK
   go_simp
   refine (HK1.out _ hHeld).mono ?_
   rintro e wv ⟨u1, u2, rfl, hT, hb1⟩
   obtain ⟨s1, o1, s2, o2, rfl, rfl⟩ := bk_slices hT.1.1 hT.1.2
   obtain ⟨n1, hn1⟩ : ∃ n, Hid (R.js.length = n) := ⟨_, rfl⟩
   obtain ⟨n2, hn2⟩ : ∃ n, Hid (R.rs.length = n) := ⟨_, rfl⟩
   rw [hn1.out, hn2.out] at hT ⊢
   have hA1 : Below w1.heap.size w1 wv := step_below1 hHeld hb1
   refine hK.out _ _ hA1 (fun hHeld => ?_)
   clear hK K
   try simp only [Act.put, qa, qb, qc]
   refine tk 11 (v := ?_) rfl (by kernel_rfl) (by rfl) (by assumption) (fun _ _ _ h => h) ?_ ?_
   rotate_left
   · intro w0 hSw; clear hSw; go_simp; first | done | with_reducible rfl
   try simp only [Act.put, qa, qb, qc]
   refine tk 12 (v := ?_) rfl (by kernel_rfl) (by rfl) (by assumption) (fun _ _ _ h => h) ?_ ?_
   rotate_left
   · intro w0 hSw; clear hSw; go_simp; first | done | with_reducible rfl
   try simp only [Act.put, qa, qb, qc]
   refine tk 13 (v := ?_) rfl (by kernel_rfl) (by rfl) (by assumption) (fun _ _ _ h => h) ?_ ?_
   rotate_left
   · intro w0 hSw; clear hSw; go_simp; first | done | with_reducible rfl
   try simp only [Act.put, qa, qb, qc]
   refine rdy 14 (by kernel_rfl) rfl (fun K hK => ?_)
   go_simp
   refine hK.out _ _ (grew hHeld _) (fun hHeld => ?_)
   clear hK K
   try simp only [Act.put, qa, qb, qc]
   refine rdy 15 (by kernel_rfl) rfl (fun K hK => ?_)
   go_simp
   refine hK.out _ _ (grew hA1 _) (fun hHeld => ?_)
   clear hK K
   try simp only [Act.put, qa, qb, qc]
   refine rdy 16 (by kernel_rfl) rfl (fun K hK => ?_)
   go_simp
   refine hK.out _ _ (hHeld) (fun hHeld => ?_)
   clear hK K
   try simp only [Act.put, qa, qb, qc]
   refine wpAnyH_done (by kernel_rfl) ?_ _
   go_wp2_with fail
   go_meet
   case rel => exact ⟨_, _, _, rfl, rfl, cbx_A hA1 hT⟩
  case step14p =>
   intro K hK
   go_simp
   refine hK.out _ _ (grew hHeld _) (fun hHeld => ?_)
   clear hK K
   try simp only [Act.put, qa, qb, qc]
   have hx1 : ((w1.alloc (boxZ)).drew).heap[w1.heap.size]? = some (boxZ) := heap_new w1 _
   refine rdy 10 (by kernel_rfl) rfl (fun K hK => ?_)
   go_simp
   refine (HK1.out _ hHeld).mono ?_
   rintro e wv ⟨u1, u2, rfl, hT, hb1⟩
   obtain ⟨s1, o1, s2, o2, rfl, rfl⟩ := bk_slices hT.1.1 hT.1.2
   obtain ⟨n1, hn1⟩ : ∃ n, Hid (R.js.length = n) := ⟨_, rfl⟩
   obtain ⟨n2, hn2⟩ : ∃ n, Hid (R.rs.length = n) := ⟨_, rfl⟩
   rw [hn1.out, hn2.out] at hT ⊢
   have hB1 : Below w1.heap.size w1 wv := step_below1 hHeld hb1
   have hx2 := heap_below hx1 hb1 (heap_lt hx1)
   have c7 := fun i => Joins.cell_of_block hx2 i
   have f7 := fun i => Joins.unfrozen_of_block hx2 i
   refine hK.out _ _ hB1 (fun hHeld => ?_)
   clear hK K
   try simp only [Act.put, qa, qb, qc]
   refine tk 11 (v := ?_) rfl (by kernel_rfl) (by rfl) (by assumption) (fun _ _ _ h => h) ?_ ?_
   rotate_left
   · intro w0 hSw; clear hSw; go_simp; first | done | with_reducible rfl
   try simp only [Act.put, qa, qb, qc]
   refine tk 12 (v := ?_) rfl (by kernel_rfl) (by rfl) (by assumption) (fun _ _ _ h => h) ?_ ?_
   rotate_left
   · intro w0 hSw; clear hSw; go_simp; first | done | with_reducible rfl
   try simp only [Act.put, qa, qb, qc]
   refine tk 13 (v := ?_) rfl (by kernel_rfl) (by rfl) (by assumption) (fun _ _ _ h => h) ?_ ?_
   rotate_left
   · intro w0 hSw; clear hSw; go_simp; first | done | with_reducible rfl
   try simp only [Act.put, qa, qb, qc]
   refine rdy 15 (by kernel_rfl) rfl (fun K hK => ?_)
   go_simp
   refine hK.out _ _ (st12_below hHeld (Nat.le_refl _) _ _ _) (fun hHeld => ?_)
   clear hK K
   try simp only [Act.put, qa, qb, qc]
   refine rdy 16 (by kernel_rfl) rfl (fun K hK => ?_)
   go_simp
   refine hK.out _ _ (hHeld) (fun hHeld => ?_)
   clear hK K
   try simp only [Act.put, qa, qb, qc]
   refine wpAnyH_done (by kernel_rfl) ?_ _
   go_wp2_with fail
   go_meet
   case rel => exact ⟨_, _, _, rfl, rfl, cbx_B hx2 hB1 hT (Nat.le_refl _)⟩
 case rest =>
  obtain ⟨b, v1, v2, rfl, rfl, hR⟩ := hcut
  obtain ⟨s1, o1, s2, o2, rfl, rfl⟩ := bk_slices hR.bk.1.1 hR.bk.1.2
  obtain ⟨n1, hn1⟩ : ∃ n, Hid (R.js.length = n) := ⟨_, rfl⟩
  obtain ⟨n2, hn2⟩ : ∃ n, Hid (R.rs.length = n) := ⟨_, rfl⟩
  rw [hn1.out, hn2.out] at hR
  have HR : Aside (CBx w1 wc b R (.slice s1 n1 o1) (.slice s2 n2 o2)) := hR
  have HI2 : Aside _ := HI1.out.later hR.below
  have HX2 : Aside _ := heap_below HX1.out hR.below (heap_lt HX1.out)
  clear hR HI1 HX1 HB0 HK1
  generalize wc = w2 at *
  rcases HC.out with ⟨h0, h1⟩ | ⟨h0, h1⟩
  · have hz : (d != 0) = true := by rw [bne_iff_ne]; exact h0
   subst h1
   clear h0 HC HR HX2
   go_wp2
   go_ret
   exact ⟨rfl, xs, cs, HI2.out, HE.out.1, HE.out.2⟩
  · have hz : (d != 0) = false := by rw [h0]; rfl
   subst h1
   clear h0 HC
   have zb := HI2.out.boxz
   have zh := fun i => Joins.cell_of_block HX2.out i
   have zx := fun i => Joins.cell_of_block HR.out.box i
   have y0 := HI2.out.cat HY.out (i := 0) rfl
   have y1 := HI2.out.cat HY.out (i := 1) rfl
   have y2 := HI2.out.cat HY.out (i := 2) rfl
   have y3 := HI2.out.cat HY.out (i := 3) rfl
   have y4 := HI2.out.cat HY.out (i := 4) rfl
   have y5 := HI2.out.cat HY.out (i := 5) rfl
   have y6 := HI2.out.cat HY.out (i := 6) rfl
   have y7 := HI2.out.cat HY.out (i := 7) rfl
   have y8 := HI2.out.cat HY.out (i := 8) rfl
   have y9 := HI2.out.cat HY.out (i := 9) rfl
   have y10 := HI2.out.cat HY.out (i := 10) rfl
   have y11 := HI2.out.cat HY.out (i := 11) rfl
   simp only [Nat.add_zero] at y0
   have fy := HI2.out.cfz
   have HS : Aside (WHas X (stC w2 g2 (k * 12) ⟨R, .slice s1 n1 o1, .slice s2 n2 o2⟩).drew B g1 g2 ⟨W.ns, W.tip, W.cs.set k R, W.t⟩) := by
    have := (has_putC (z := ⟨R, .slice s1 n1 o1, .slice s2 n2 o2⟩) HI2.out HE.out.1 HE.out.2 HY.out HR.out.bk).later (Below.refl _ _).drew
    rw [Wd.putC, Int.toNat_natCast] at this
    exact this
   have HX3 : Aside ((stC w2 g2 (k * 12) ⟨R, .slice s1 n1 o1, .slice s2 n2 o2⟩).drew.heap[w.heap.size]? = some (boxH ⟨xk, (k : Int), xn, xj, xp, xe⟩)) := heap_drew (stC_other HX2.out (by have := HG.out.1; omega) _ _)
   clear HR HI2 HX2 HY HE
   go_upto_region 6 with fail
   go_region
   go_upto_region 7 with fail
   clear zb zh zx y0 y1 y2 y3 y4 y5 y6 y7 y8 y9 y10 y11 fy
   change Aside (WHas X ((((((((((((w2.setCell ⟨g2, k * 12, none⟩ (.int .i64 R.p)).setCell ⟨g2, k * 12 + 1, none⟩ (.int .i64 R.d)).setCell ⟨g2, k * 12 + 2, none⟩ (.int .i64 R.e.k)).setCell ⟨g2, k * 12 + 3, none⟩ (.int .i64 R.e.j)).setCell ⟨g2, k * 12 + 4, none⟩ (.int .i64 R.e.v)).setCell ⟨g2, k * 12 + 5, none⟩ (.int .i64 R.e.t)).setCell ⟨g2, k * 12 + 6, none⟩ (.int .i64 R.e.c)).setCell ⟨g2, k * 12 + 7, none⟩ (.int .i64 R.a)).setCell ⟨g2, k * 12 + 8, none⟩ (.int .i64 R.l)).setCell ⟨g2, k * 12 + 9, none⟩ (.int .i64 R.n)).setCell ⟨g2, k * 12 + 10, none⟩ (.slice s1 n1 o1)).setCell ⟨g2, k * 12 + 11, none⟩ (.slice s2 n2 o2)).drew B g1 g2 ⟨W.ns, W.tip, W.cs.set k R, W.t⟩) at HS
   change Aside (((((((((((((w2.setCell ⟨g2, k * 12, none⟩ (.int .i64 R.p)).setCell ⟨g2, k * 12 + 1, none⟩ (.int .i64 R.d)).setCell ⟨g2, k * 12 + 2, none⟩ (.int .i64 R.e.k)).setCell ⟨g2, k * 12 + 3, none⟩ (.int .i64 R.e.j)).setCell ⟨g2, k * 12 + 4, none⟩ (.int .i64 R.e.v)).setCell ⟨g2, k * 12 + 5, none⟩ (.int .i64 R.e.t)).setCell ⟨g2, k * 12 + 6, none⟩ (.int .i64 R.e.c)).setCell ⟨g2, k * 12 + 7, none⟩ (.int .i64 R.a)).setCell ⟨g2, k * 12 + 8, none⟩ (.int .i64 R.l)).setCell ⟨g2, k * 12 + 9, none⟩ (.int .i64 R.n)).setCell ⟨g2, k * 12 + 10, none⟩ (.slice s1 n1 o1)).setCell ⟨g2, k * 12 + 11, none⟩ (.slice s2 n2 o2)).drew.heap[w.heap.size]? = some (boxH ⟨xk, (k : Int), xn, xj, xp, xe⟩)) at HX3
   generalize ((((((((((((w2.setCell ⟨g2, k * 12, none⟩ (.int .i64 R.p)).setCell ⟨g2, k * 12 + 1, none⟩ (.int .i64 R.d)).setCell ⟨g2, k * 12 + 2, none⟩ (.int .i64 R.e.k)).setCell ⟨g2, k * 12 + 3, none⟩ (.int .i64 R.e.j)).setCell ⟨g2, k * 12 + 4, none⟩ (.int .i64 R.e.v)).setCell ⟨g2, k * 12 + 5, none⟩ (.int .i64 R.e.t)).setCell ⟨g2, k * 12 + 6, none⟩ (.int .i64 R.e.c)).setCell ⟨g2, k * 12 + 7, none⟩ (.int .i64 R.a)).setCell ⟨g2, k * 12 + 8, none⟩ (.int .i64 R.l)).setCell ⟨g2, k * 12 + 9, none⟩ (.int .i64 R.n)).setCell ⟨g2, k * 12 + 10, none⟩ (.slice s1 n1 o1)).setCell ⟨g2, k * 12 + 11, none⟩ (.slice s2 n2 o2)).drew = w3 at *
   have zh := fun i => Joins.cell_of_block HX3.out i
   by_cases h3 : xk = 3
   · have htp : Hid (tp = W.tip + 1) := by rw [Hid, ← HTP.out, if_pos h3]
    have hb3 : (xk == 3) = true := by rw [h3]; rfl
    have hw1 : IntKind.i64.wrap (W.tip + 1) = W.tip + 1 := by rw [IntKind.wrap_i64]; have := HT3.out; have := HT0.out; omega
    obtain ⟨ys, ds, hJ, hJn, hJc⟩ := HS.out
    have zb := hJ.boxz
    have fb := fun i => Joins.unfrozen_of_block hJ.st.box i
    clear h3 hJ hJn hJc HTP
    go_wp2
    go_ret
    exact ⟨rfl, by rw [htp.out]; exact has_tip HS.out _⟩
   · have htp : Hid (tp = W.tip) := by rw [Hid, ← HTP.out, if_neg h3]
    have hb3 : (xk == 3) = false := by rw [beq_eq_false_iff_ne]; exact h3
    clear h3 HTP
    go_wp2
    go_ret
    exact ⟨rfl, by rw [htp.out]; exact HS.out⟩
theorem w_atClient {X w : World} {B g1 g2 : Nat} {W : Wd} (hW : RW W) (h : WHas X w B g1 g2 W) (x : Hp) : AnsW 75 #[.pointer (some ⟨B, 0, none⟩), x.val] X w B g1 g2 (atClient W x) := by
 have H := h
 obtain ⟨xs, cs, hI, hn, hc⟩ := h
 unfold atClient
 by_cases g : 0 ≤ x.c ∧ x.c ≤ 2
 · rw [if_neg (not_not_intro g)]
  obtain ⟨xk, xc, xn, xj, xp, xe⟩ := x
  simp only at g ⊢
  obtain ⟨k, rfl⟩ : ∃ k : Nat, xc = k := ⟨xc.toNat, by omega⟩
  obtain ⟨y, hy⟩ : ∃ y, cs[k]? = some y := ⟨cs[k]'(by have := hI.three'; omega), List.getElem?_eq_getElem _⟩
  rw [wd_cl hc hy, Int.toNat_natCast]
  obtain ⟨c, v1, v2⟩ := y
  obtain ⟨a1, k1, a2, k2, e1, e2⟩ := bk_slices (hI.st.clients _ (List.mem_of_getElem? hy)).1.1 (hI.st.clients _ (List.mem_of_getElem? hy)).1.2
  simp only at e1 e2
  subst e1 e2
  exact w_atClient_at hW hI hn hc k (by omega) c a1 a2 _ k1 _ k2 hy xk xn xj xp xe
 · rw [if_pos g]
  have hbA : Below w.heap.size w (w.alloc (boxH x)) := grew (Below.refl _ _) _
  have hcl := w_isClient (hI.later hbA).st x.c
  rw [decide_eq_false g] at hcl
  have HX0 : Aside ((w.alloc (boxH x)).heap[w.heap.size]? = some (boxH x)) := heap_new _ _
  have HH : Aside (WHas X (w.alloc (boxH x)) B g1 g2 W) := H.later hbA
  clear hI hn hc g hbA H hW
  go_enter Tryz.func75, Tryz.ntmps75
  go_upto_region 1 with fail
  generalize w.alloc (boxH x) = w1 at *
  have zh := fun i => Joins.cell_of_block HX0.out i
  go_wp2_with fail
  refine hcl.mono ?_
  rintro e wx ⟨rfl, hwx⟩
  obtain rfl : w1 = wx := hwx.symm
  clear hcl zh
  go_wp2
  go_ret
  exact ⟨rfl, HH.out⟩
end Go.Proofs.YtmoaobfmopimlafGreatDoor
