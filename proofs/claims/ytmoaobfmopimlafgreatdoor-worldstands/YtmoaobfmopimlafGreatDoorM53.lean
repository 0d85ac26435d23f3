/- For the law. -/
import Derived.Test.YtmoaobfmopimlafGreatDoorM52
set_option linter.unusedSimpArgs false
set_option linter.unusedVariables false
namespace Go.Proofs.YtmoaobfmopimlafGreatDoor
open Go.RowKit
section
open scoped Classical
set_option maxHeartbeats 4000000 in
set_option maxRecDepth 100000 in
theorem chLink_bad (v : Value) (xs : List Ub) (k a ep : Int) (x : En) (w : World) (h : ChAt w v xs) (d : Int) (hd : (linkOf (unitsOf xs) k a x ep).2.2 = d) (hz : (d != 0) = true) :
  Calls Tryz.prog 105 #[v, .int .i64 k, .int .i64 a, x.val, .int .i64 ep] w fun e w' => e = .returned (.tuple #[(((Rc.zero, En.zero, d) : Rc × En × Int)).1.val, (((Rc.zero, En.zero, d) : Rc × En × Int)).2.1.val, .int .i64 (((Rc.zero, En.zero, d) : Rc × En × Int)).2.2]) ∧ Below w.heap.size w w' := by
 have HB0 : Aside (Below w.heap.size w (((w.alloc (boxE x.k x.j x.v x.t x.c)).alloc (boxRc Rc.zero)).alloc (boxE 0 0 0 0 0))) := grew (grew (grew (Below.refl _ _) _) _) _
 have HX0 : Aside ((((w.alloc (boxE x.k x.j x.v x.t x.c)).alloc (boxRc Rc.zero)).alloc (boxE 0 0 0 0 0)).heap[w.heap.size]? = some (boxE x.k x.j x.v x.t x.c)) := heap_old (heap_old (heap_new _ _) _) _
 have HR0 : Aside ((((w.alloc (boxE x.k x.j x.v x.t x.c)).alloc (boxRc Rc.zero)).alloc (boxE 0 0 0 0 0)).heap[w.heap.size + 1]? = some (boxRc Rc.zero)) := by
  have := heap_new (w.alloc (boxE x.k x.j x.v x.t x.c)) (boxRc Rc.zero)
  rw [World.size_alloc] at this
  exact heap_old this _
 have HE0 : Aside ((((w.alloc (boxE x.k x.j x.v x.t x.c)).alloc (boxRc Rc.zero)).alloc (boxE 0 0 0 0 0)).heap[w.heap.size + 1 + 1]? = some (boxE 0 0 0 0 0)) := by
  have := heap_new ((w.alloc (boxE x.k x.j x.v x.t x.c)).alloc (boxRc Rc.zero)) (boxE 0 0 0 0 0)
  rwa [World.size_alloc, World.size_alloc] at this
 have hml := may_any v xs k a ep x _ (h.later HB0.out)
 rw [hd] at hml
 clear h hd
 go_enter Tryz.func105, Tryz.ntmps105
 go_wp2_with fail
 refine hml.mono ?_
 rintro e w1 ⟨rfl, hb1⟩
 have HX1 := hv HX0 hb1
 have HR1 := hv HR0 hb1
 have HE1 := hv HE0 hb1
 have HB1 := sb HB0 hb1
 clear hb1 HX0 HR0 HE0 HB0
 clear hml
 have zr := cb HR1
 have fr := cf HR1
 have ze := cb HE1
 have fe := cf HE1
 go_wp2
 have hst := link_stored HR1.out (f := En.zero) HE1.out (by omega) (Rc.zero) (En.zero) rfl
 exact ret3 (p := 10) (q := 11) (t := 12) (r := Rc.zero) (e := En.zero) Tryz.results105 rfl rfl rfl rfl hst.1 hst.2 ⟨rfl, link_below HB1.out (by omega) (by omega) _ _ _ _ _ _ _ _ _ _ _ _ _⟩
set_option maxHeartbeats 4000000 in
set_option maxRecDepth 100000 in
theorem chLink0_stands (b off c m : Nat) (ep : Int) (x : En) (U0 U1 U2 : Un) (a0 a1 a2 : Option Addr) (c0 c1 c2 : Nat) (w : World) (hch : ChAt w (.slice (some ⟨b, off, none⟩) 3 c) [⟨U0, .slice a0 60 c0⟩, ⟨U1, .slice a1 60 c1⟩, ⟨U2, .slice a2 60 c2⟩]) (hm : m < 60) (hd : (linkOf [U0, U1, U2] 0 (m : Int) x ep).2.2 = 0) (y : En) (hy : U0.cells[m]? = some y) (hib : y.isB = false) :
  Calls Tryz.prog 105 #[.slice (some ⟨b, off, none⟩) 3 c, .int .i64 0, .int .i64 (m : Int), x.val, .int .i64 ep] w fun e w' => e = .returned (.tuple #[(((Rc.zero, y, 0) : Rc × En × Int)).1.val, (((Rc.zero, y, 0) : Rc × En × Int)).2.1.val, .int .i64 (((Rc.zero, y, 0) : Rc × En × Int)).2.2]) ∧ Below w.heap.size w w' := by
 have HB0 : Aside (Below w.heap.size w (((w.alloc (boxE x.k x.j x.v x.t x.c)).alloc (boxRc Rc.zero)).alloc (boxE 0 0 0 0 0))) := grew (grew (grew (Below.refl _ _) _) _) _
 have HX0 : Aside ((((w.alloc (boxE x.k x.j x.v x.t x.c)).alloc (boxRc Rc.zero)).alloc (boxE 0 0 0 0 0)).heap[w.heap.size]? = some (boxE x.k x.j x.v x.t x.c)) := heap_old (heap_old (heap_new _ _) _) _
 have HR0 : Aside ((((w.alloc (boxE x.k x.j x.v x.t x.c)).alloc (boxRc Rc.zero)).alloc (boxE 0 0 0 0 0)).heap[w.heap.size + 1]? = some (boxRc Rc.zero)) := by
  have := heap_new (w.alloc (boxE x.k x.j x.v x.t x.c)) (boxRc Rc.zero)
  rw [World.size_alloc] at this
  exact heap_old this _
 have HE0 : Aside ((((w.alloc (boxE x.k x.j x.v x.t x.c)).alloc (boxRc Rc.zero)).alloc (boxE 0 0 0 0 0)).heap[w.heap.size + 1 + 1]? = some (boxE 0 0 0 0 0)) := by
  have := heap_new ((w.alloc (boxE x.k x.j x.v x.t x.c)).alloc (boxRc Rc.zero)) (boxE 0 0 0 0 0)
  rwa [World.size_alloc, World.size_alloc] at this
 have hml := may_any _ _ 0 (m : Int) ep x _ (hch.later HB0.out)
 rw [show (linkOf (unitsOf [⟨U0, .slice a0 60 c0⟩, ⟨U1, .slice a1 60 c1⟩, ⟨U2, .slice a2 60 c2⟩]) 0 (m : Int) x ep).2.2 = 0 from hd] at hml
 have kst := fun W => stands_any y W
 rw [hib, Bool.not_false] at kst
 have HCH : Aside (ChAt w (.slice (some ⟨b, off, none⟩) 3 c) [⟨U0, .slice a0 60 c0⟩, ⟨U1, .slice a1 60 c1⟩, ⟨U2, .slice a2 60 c2⟩]) := hch
 have HY : Hid (U0.cells[m]? = some y) := hy
 have hmi : (m : Int) < 60 := by omega
 have hm0 : (0 : Int) ≤ (m : Int) := by omega
 clear hch hd hy hib
 go_enter Tryz.func105, Tryz.ntmps105
 go_wp2_with fail
 refine hml.mono ?_
 rintro e w3 ⟨rfl, hb3⟩
 have HX3 := hv HX0 hb3
 have HR3 := hv HR0 hb3
 have HE3 := hv HE0 hb3
 have HB3 := sb HB0 hb3
 clear hb3 HX0 HR0 HE0 HB0
 clear hml
 have hc3 := HCH.out.later HB3.out
 obtain ⟨b3, off3, eb3, hrow3⟩ := hc3.rows.at (by omega)
 injection eb3 with eb3
 injection eb3 with eb4 eb5 _
 subst eb4 eb5
 obtain ⟨⟨p0, s0⟩, ⟨p1, s1⟩, ⟨p2, s2⟩⟩ := row_three hrow3
 obtain ⟨by_, oy, ey, hEy⟩ := SlOf.at (cs := En.cells) (k := 5) (hc3.each ⟨U0, .slice a0 60 c0⟩ (by simp)).ents (by omega)
 subst ey
 have g0 : w3.cell? ⟨by_, oy + m * 5, none⟩ = some (.int .i64 y.k) := hEy m y HY.out 0 _ rfl
 have g1 : w3.cell? ⟨by_, oy + m * 5 + 1, none⟩ = some (.int .i64 y.j) := hEy m y HY.out 1 _ rfl
 have g2 : w3.cell? ⟨by_, oy + m * 5 + 2, none⟩ = some (.int .i64 y.v) := hEy m y HY.out 2 _ rfl
 have g3 : w3.cell? ⟨by_, oy + m * 5 + 3, none⟩ = some (.int .i64 y.t) := hEy m y HY.out 3 _ rfl
 have g4 : w3.cell? ⟨by_, oy + m * 5 + 4, none⟩ = some (.int .i64 y.c) := hEy m y HY.out 4 _ rfl
 have hyb := heap_lt HE3.out
 have HX4 : Aside _ := heap_old HX3.out (boxE y.k y.j y.v y.t y.c)
 have HR4 : Aside _ := heap_old HR3.out (boxE y.k y.j y.v y.t y.c)
 have HE4 : Aside _ := heap_old HE3.out (boxE y.k y.j y.v y.t y.c)
 have HY4 : Aside _ := heap_new w3 (boxE y.k y.j y.v y.t y.c)
 have HB4 : Aside _ := grew HB3.out (boxE y.k y.j y.v y.t y.c)
 clear hrow3 hEy hc3 HX3 HR3 HE3 HB3 HCH
 go_upto_region 5 with fail
 generalize w3.alloc (boxE y.k y.j y.v y.t y.c) = w4 at *
 generalize w3.heap.size = yb at *
 clear g0 g1 g2 g3 g4 p0 s0 p1 s1 p2 s2
 have zy := cb HY4
 go_wp2_with fail
 refine (kst _).mono ?_
 rintro e w6 ⟨rfl, hb6⟩
 have HX6 := hv HX4 hb6
 have HR6 := hv HR4 hb6
 have HE6 := hv HE4 hb6
 have HY6 := hv HY4 hb6
 have HB6 := sb HB4 hb6
 clear hb6 kst zy HX4 HR4 HE4 HY4 HB4
 go_wp2_with fail
 have hz5 : C5 w6 yb y := c5_of HY6.out
 have hgr : yb ≠ w.heap.size + 1 := by omega
 have hge : yb ≠ w.heap.size + 1 + 1 := by omega
 have HRd : Aside (w6.drew.heap[w.heap.size + 1]? = some (boxRc Rc.zero)) := HR6.out
 have HEd : Aside (w6.drew.heap[w.heap.size + 1 + 1]? = some (boxE 0 0 0 0 0)) := HE6.out
 have HBd : Aside (Below w.heap.size w w6.drew) := HB6.out.drew
 clear HX6 HR6 HE6 HY6 HB6
 refine wp_region_held_drew (S := fun w' => C5 w' yb y) (by kernel_rfl) (hz5) (fun hHeld => ?_)
 clear hz5
 generalize w6.drew = X at *
 refine tk 0 (v := ?_) rfl (by kernel_rfl) (by rfl) (by assumption) (fun _ _ _ h => h) ?_ ?_
 rotate_left
 ·intro w0 hSw; (try dsimp only at hSw); go_simp; first | done | with_reducible rfl
 try simp only [Act.put, qa, qb, qc]
 refine tk 1 (v := ?_) rfl (by kernel_rfl) (by rfl) (by assumption) (fun _ _ _ h => h) ?_ ?_
 rotate_left
 ·intro w0 hSw; (try dsimp only at hSw); go_simp; first | done | with_reducible rfl
 try simp only [Act.put, qa, qb, qc]
 have zr := cb HRd
 have fr := cf HRd
 have ze := cb HEd
 have fe := cf HEd
 refine rdy 2 (by kernel_rfl) rfl (fun K hK => ?_)
 go_simp
 refine hK.out _ _ (c5_set (c5_set (c5_set (c5_set (c5_set (c5_set (c5_set (c5_set (hHeld) hgr 0 _) hgr 1 _) hgr 2 _) hgr 3 _) hgr 4 _) hgr 5 _) hgr 6 _) hgr 7 _) (fun hHeld => ?_)
 clear hK K
 try simp only [Act.put, qa, qb, qc]
 refine rdy 3 (by kernel_rfl) rfl (fun K hK => ?_)
 go_simp
 refine hK.out _ _ (c5_set (c5_set (c5_set (c5_set (c5_set (hHeld) hge 0 _) hge 1 _) hge 2 _) hge 3 _) hge 4 _) (fun hHeld => ?_)
 clear hK K
 try simp only [Act.put, qa, qb, qc]
 refine tk 4 (v := ?_) rfl (by kernel_rfl) (by rfl) (by assumption) (fun _ _ _ h => h) ?_ ?_
 rotate_left
 ·intro w0 hSw; (try dsimp only at hSw); go_simp; first | done | with_reducible rfl
 try simp only [Act.put, qa, qb, qc]
 refine wpAnyH_done (by kernel_rfl) ?_ _
 clear zr fr ze fe
 go_wp2
 have hst := link_stored (w := X) (rb := w.heap.size + 1) (eb := w.heap.size + 1 + 1) HRd.out (f := En.zero) HEd.out (by omega) (Rc.zero) (y) rfl
 exact ret3 (p := 10) (q := 11) (t := 12) (r := Rc.zero) (e := y) Tryz.results105 rfl rfl rfl rfl hst.1 hst.2 ⟨rfl, link_below HBd.out (by omega) (by omega) _ _ _ _ _ _ _ _ _ _ _ _ _⟩
set_option maxHeartbeats 4000000 in
set_option maxRecDepth 100000 in
theorem chLink0_new (b off c m : Nat) (ep : Int) (x : En) (U0 U1 U2 : Un) (a0 a1 a2 : Option Addr) (c0 c1 c2 : Nat) (w : World) (hch : ChAt w (.slice (some ⟨b, off, none⟩) 3 c) [⟨U0, .slice a0 60 c0⟩, ⟨U1, .slice a1 60 c1⟩, ⟨U2, .slice a2 60 c2⟩]) (hm : m < 60) (hd : (linkOf [U0, U1, U2] 0 (m : Int) x ep).2.2 = 0) (y : En) (hy : U0.cells[m]? = some y) (hib : y.isB = true) :
  Calls Tryz.prog 105 #[.slice (some ⟨b, off, none⟩) 3 c, .int .i64 0, .int .i64 (m : Int), x.val, .int .i64 ep] w fun e w' => e = .returned (.tuple #[(((⟨1, (m : Int), 0, x⟩, x, 0) : Rc × En × Int)).1.val, (((⟨1, (m : Int), 0, x⟩, x, 0) : Rc × En × Int)).2.1.val, .int .i64 (((⟨1, (m : Int), 0, x⟩, x, 0) : Rc × En × Int)).2.2]) ∧ Below w.heap.size w w' := by
 have HB0 : Aside (Below w.heap.size w (((w.alloc (boxE x.k x.j x.v x.t x.c)).alloc (boxRc Rc.zero)).alloc (boxE 0 0 0 0 0))) := grew (grew (grew (Below.refl _ _) _) _) _
 have HX0 : Aside ((((w.alloc (boxE x.k x.j x.v x.t x.c)).alloc (boxRc Rc.zero)).alloc (boxE 0 0 0 0 0)).heap[w.heap.size]? = some (boxE x.k x.j x.v x.t x.c)) := heap_old (heap_old (heap_new _ _) _) _
 have HR0 : Aside ((((w.alloc (boxE x.k x.j x.v x.t x.c)).alloc (boxRc Rc.zero)).alloc (boxE 0 0 0 0 0)).heap[w.heap.size + 1]? = some (boxRc Rc.zero)) := by
  have := heap_new (w.alloc (boxE x.k x.j x.v x.t x.c)) (boxRc Rc.zero)
  rw [World.size_alloc] at this
  exact heap_old this _
 have HE0 : Aside ((((w.alloc (boxE x.k x.j x.v x.t x.c)).alloc (boxRc Rc.zero)).alloc (boxE 0 0 0 0 0)).heap[w.heap.size + 1 + 1]? = some (boxE 0 0 0 0 0)) := by
  have := heap_new ((w.alloc (boxE x.k x.j x.v x.t x.c)).alloc (boxRc Rc.zero)) (boxE 0 0 0 0 0)
  rwa [World.size_alloc, World.size_alloc] at this
 have hml := may_any _ _ 0 (m : Int) ep x _ (hch.later HB0.out)
 rw [show (linkOf (unitsOf [⟨U0, .slice a0 60 c0⟩, ⟨U1, .slice a1 60 c1⟩, ⟨U2, .slice a2 60 c2⟩]) 0 (m : Int) x ep).2.2 = 0 from hd] at hml
 have kst := fun W => stands_any y W
 rw [hib, Bool.not_true] at kst
 have HCH : Aside (ChAt w (.slice (some ⟨b, off, none⟩) 3 c) [⟨U0, .slice a0 60 c0⟩, ⟨U1, .slice a1 60 c1⟩, ⟨U2, .slice a2 60 c2⟩]) := hch
 have HY : Hid (U0.cells[m]? = some y) := hy
 have hmi : (m : Int) < 60 := by omega
 have hm0 : (0 : Int) ≤ (m : Int) := by omega
 clear hch hd hy hib
 go_enter Tryz.func105, Tryz.ntmps105
 go_wp2_with fail
 refine hml.mono ?_
 rintro e w3 ⟨rfl, hb3⟩
 have HX3 := hv HX0 hb3
 have HR3 := hv HR0 hb3
 have HE3 := hv HE0 hb3
 have HB3 := sb HB0 hb3
 clear hb3 HX0 HR0 HE0 HB0
 clear hml
 have hc3 := HCH.out.later HB3.out
 obtain ⟨b3, off3, eb3, hrow3⟩ := hc3.rows.at (by omega)
 injection eb3 with eb3
 injection eb3 with eb4 eb5 _
 subst eb4 eb5
 obtain ⟨⟨p0, s0⟩, ⟨p1, s1⟩, ⟨p2, s2⟩⟩ := row_three hrow3
 obtain ⟨by_, oy, ey, hEy⟩ := SlOf.at (cs := En.cells) (k := 5) (hc3.each ⟨U0, .slice a0 60 c0⟩ (by simp)).ents (by omega)
 subst ey
 have g0 : w3.cell? ⟨by_, oy + m * 5, none⟩ = some (.int .i64 y.k) := hEy m y HY.out 0 _ rfl
 have g1 : w3.cell? ⟨by_, oy + m * 5 + 1, none⟩ = some (.int .i64 y.j) := hEy m y HY.out 1 _ rfl
 have g2 : w3.cell? ⟨by_, oy + m * 5 + 2, none⟩ = some (.int .i64 y.v) := hEy m y HY.out 2 _ rfl
 have g3 : w3.cell? ⟨by_, oy + m * 5 + 3, none⟩ = some (.int .i64 y.t) := hEy m y HY.out 3 _ rfl
 have g4 : w3.cell? ⟨by_, oy + m * 5 + 4, none⟩ = some (.int .i64 y.c) := hEy m y HY.out 4 _ rfl
 have hyb := heap_lt HE3.out
 have HX4 : Aside _ := heap_old HX3.out (boxE y.k y.j y.v y.t y.c)
 have HR4 : Aside _ := heap_old HR3.out (boxE y.k y.j y.v y.t y.c)
 have HE4 : Aside _ := heap_old HE3.out (boxE y.k y.j y.v y.t y.c)
 have HY4 : Aside _ := heap_new w3 (boxE y.k y.j y.v y.t y.c)
 have HB4 : Aside _ := grew HB3.out (boxE y.k y.j y.v y.t y.c)
 clear hrow3 hEy hc3 HX3 HR3 HE3 HB3 HCH
 go_upto_region 5 with fail
 generalize w3.alloc (boxE y.k y.j y.v y.t y.c) = w4 at *
 generalize w3.heap.size = yb at *
 clear g0 g1 g2 g3 g4 p0 s0 p1 s1 p2 s2
 have zy := cb HY4
 go_wp2_with fail
 refine (kst _).mono ?_
 rintro e w6 ⟨rfl, hb6⟩
 have HX6 := hv HX4 hb6
 have HR6 := hv HR4 hb6
 have HE6 := hv HE4 hb6
 have HY6 := hv HY4 hb6
 have HB6 := sb HB4 hb6
 clear hb6 kst zy HX4 HR4 HE4 HY4 HB4
 go_wp2_with fail
 have hz5 : C5 w6 w.heap.size x := c5_of HX6.out
 have hgr : w.heap.size ≠ w.heap.size + 1 := by omega
 have hge : w.heap.size ≠ w.heap.size + 1 + 1 := by omega
 have HRd : Aside (w6.drew.heap[w.heap.size + 1]? = some (boxRc Rc.zero)) := HR6.out
 have HEd : Aside (w6.drew.heap[w.heap.size + 1 + 1]? = some (boxE 0 0 0 0 0)) := HE6.out
 have HBd : Aside (Below w.heap.size w w6.drew) := HB6.out.drew
 clear HX6 HR6 HE6 HY6 HB6
 refine wp_region_held_drew (S := fun w' => C5 w' w.heap.size x) (by kernel_rfl) (hz5) (fun hHeld => ?_)
 clear hz5
 generalize w6.drew = X at *
 refine tk 0 (v := ?_) rfl (by kernel_rfl) (by rfl) (by assumption) (fun _ _ _ h => h) ?_ ?_
 rotate_left
 ·intro w0 hSw; (try dsimp only at hSw); go_simp; first | done | with_reducible rfl
 try simp only [Act.put, qa, qb, qc]
 refine tk 1 (v := ?_) rfl (by kernel_rfl) (by rfl) (by assumption) (fun _ _ _ h => h) ?_ ?_
 rotate_left
 ·intro w0 hSw; (try dsimp only at hSw); go_simp; first | done | with_reducible rfl
 try simp only [Act.put, qa, qb, qc]
 refine tk 2 (v := ?_) rfl (by kernel_rfl) (by rfl) (by assumption) (fun _ _ _ h => h) ?_ ?_
 rotate_left
 ·intro w0 hSw; (try dsimp only at hSw); go_simp; first | done | with_reducible rfl
 try simp only [Act.put, qa, qb, qc]
 refine tk 3 (v := ?_) rfl (by kernel_rfl) (by rfl) (by assumption) (fun _ _ _ h => h) ?_ ?_
 rotate_left
 ·intro w0 hSw; (try dsimp only at hSw); go_simp; first | done | with_reducible rfl
 try simp only [Act.put, qa, qb, qc]
 have zr := cb HRd
 have fr := cf HRd
 have ze := cb HEd
 have fe := cf HEd
 refine rdy 4 (by kernel_rfl) rfl (fun K hK => ?_)
 go_simp
 refine hK.out _ _ (c5_set (c5_set (c5_set (c5_set (c5_set (c5_set (c5_set (c5_set (hHeld) hgr 0 _) hgr 1 _) hgr 2 _) hgr 3 _) hgr 4 _) hgr 5 _) hgr 6 _) hgr 7 _) (fun hHeld => ?_)
 clear hK K
 try simp only [Act.put, qa, qb, qc]
 refine rdy 5 (by kernel_rfl) rfl (fun K hK => ?_)
 go_simp
 refine hK.out _ _ (c5_set (c5_set (c5_set (c5_set (c5_set (hHeld) hge 0 _) hge 1 _) hge 2 _) hge 3 _) hge 4 _) (fun hHeld => ?_)
 clear hK K
 try simp only [Act.put, qa, qb, qc]
 refine tk 6 (v := ?_) rfl (by kernel_rfl) (by rfl) (by assumption) (fun _ _ _ h => h) ?_ ?_
 rotate_left
 ·intro w0 hSw; (try dsimp only at hSw); go_simp; first | done | with_reducible rfl
 try simp only [Act.put, qa, qb, qc]
 refine wpAnyH_done (by kernel_rfl) ?_ _
 clear zr fr ze fe
 go_wp2
 have hst := link_stored (w := X) (rb := w.heap.size + 1) (eb := w.heap.size + 1 + 1) HRd.out (f := En.zero) HEd.out (by omega) (⟨1, (m : Int), 0, x⟩) (x) rfl
 exact ret3 (p := 10) (q := 11) (t := 12) (r := ⟨1, (m : Int), 0, x⟩) (e := x) Tryz.results105 rfl rfl rfl rfl hst.1 hst.2 ⟨rfl, link_below HBd.out (by omega) (by omega) _ _ _ _ _ _ _ _ _ _ _ _ _⟩
set_option maxHeartbeats 4000000 in
set_option maxRecDepth 100000 in
theorem chLink1_stands (b off c m : Nat) (ep : Int) (x : En) (U0 U1 U2 : Un) (a0 a1 a2 : Option Addr) (c0 c1 c2 : Nat) (w : World) (hch : ChAt w (.slice (some ⟨b, off, none⟩) 3 c) [⟨U0, .slice a0 60 c0⟩, ⟨U1, .slice a1 60 c1⟩, ⟨U2, .slice a2 60 c2⟩]) (hm : m < 60) (hd : (linkOf [U0, U1, U2] 1 (m : Int) x ep).2.2 = 0) (y : En) (hy : U1.cells[m]? = some y) (hib : y.isB = false) :
  Calls Tryz.prog 105 #[.slice (some ⟨b, off, none⟩) 3 c, .int .i64 1, .int .i64 (m : Int), x.val, .int .i64 ep] w fun e w' => e = .returned (.tuple #[(((Rc.zero, y, 0) : Rc × En × Int)).1.val, (((Rc.zero, y, 0) : Rc × En × Int)).2.1.val, .int .i64 (((Rc.zero, y, 0) : Rc × En × Int)).2.2]) ∧ Below w.heap.size w w' := by
 have HB0 : Aside (Below w.heap.size w (((w.alloc (boxE x.k x.j x.v x.t x.c)).alloc (boxRc Rc.zero)).alloc (boxE 0 0 0 0 0))) := grew (grew (grew (Below.refl _ _) _) _) _
 have HX0 : Aside ((((w.alloc (boxE x.k x.j x.v x.t x.c)).alloc (boxRc Rc.zero)).alloc (boxE 0 0 0 0 0)).heap[w.heap.size]? = some (boxE x.k x.j x.v x.t x.c)) := heap_old (heap_old (heap_new _ _) _) _
 have HR0 : Aside ((((w.alloc (boxE x.k x.j x.v x.t x.c)).alloc (boxRc Rc.zero)).alloc (boxE 0 0 0 0 0)).heap[w.heap.size + 1]? = some (boxRc Rc.zero)) := by
  have := heap_new (w.alloc (boxE x.k x.j x.v x.t x.c)) (boxRc Rc.zero)
  rw [World.size_alloc] at this
  exact heap_old this _
 have HE0 : Aside ((((w.alloc (boxE x.k x.j x.v x.t x.c)).alloc (boxRc Rc.zero)).alloc (boxE 0 0 0 0 0)).heap[w.heap.size + 1 + 1]? = some (boxE 0 0 0 0 0)) := by
  have := heap_new ((w.alloc (boxE x.k x.j x.v x.t x.c)).alloc (boxRc Rc.zero)) (boxE 0 0 0 0 0)
  rwa [World.size_alloc, World.size_alloc] at this
 have hml := may_any _ _ 1 (m : Int) ep x _ (hch.later HB0.out)
 rw [show (linkOf (unitsOf [⟨U0, .slice a0 60 c0⟩, ⟨U1, .slice a1 60 c1⟩, ⟨U2, .slice a2 60 c2⟩]) 1 (m : Int) x ep).2.2 = 0 from hd] at hml
 have kst := fun W => stands_any y W
 rw [hib, Bool.not_false] at kst
 have HCH : Aside (ChAt w (.slice (some ⟨b, off, none⟩) 3 c) [⟨U0, .slice a0 60 c0⟩, ⟨U1, .slice a1 60 c1⟩, ⟨U2, .slice a2 60 c2⟩]) := hch
 have HY : Hid (U1.cells[m]? = some y) := hy
 have hmi : (m : Int) < 60 := by omega
 have hm0 : (0 : Int) ≤ (m : Int) := by omega
 clear hch hd hy hib
 go_enter Tryz.func105, Tryz.ntmps105
 go_wp2_with fail
 refine hml.mono ?_
 rintro e w3 ⟨rfl, hb3⟩
 have HX3 := hv HX0 hb3
 have HR3 := hv HR0 hb3
 have HE3 := hv HE0 hb3
 have HB3 := sb HB0 hb3
 clear hb3 HX0 HR0 HE0 HB0
 clear hml
 have hc3 := HCH.out.later HB3.out
 obtain ⟨b3, off3, eb3, hrow3⟩ := hc3.rows.at (by omega)
 injection eb3 with eb3
 injection eb3 with eb4 eb5 _
 subst eb4 eb5
 obtain ⟨⟨p0, s0⟩, ⟨p1, s1⟩, ⟨p2, s2⟩⟩ := row_three hrow3
 obtain ⟨by_, oy, ey, hEy⟩ := SlOf.at (cs := En.cells) (k := 5) (hc3.each ⟨U1, .slice a1 60 c1⟩ (by simp)).ents (by omega)
 subst ey
 have g0 : w3.cell? ⟨by_, oy + m * 5, none⟩ = some (.int .i64 y.k) := hEy m y HY.out 0 _ rfl
 have g1 : w3.cell? ⟨by_, oy + m * 5 + 1, none⟩ = some (.int .i64 y.j) := hEy m y HY.out 1 _ rfl
 have g2 : w3.cell? ⟨by_, oy + m * 5 + 2, none⟩ = some (.int .i64 y.v) := hEy m y HY.out 2 _ rfl
 have g3 : w3.cell? ⟨by_, oy + m * 5 + 3, none⟩ = some (.int .i64 y.t) := hEy m y HY.out 3 _ rfl
 have g4 : w3.cell? ⟨by_, oy + m * 5 + 4, none⟩ = some (.int .i64 y.c) := hEy m y HY.out 4 _ rfl
 have hyb := heap_lt HE3.out
 have HX4 : Aside _ := heap_old HX3.out (boxE y.k y.j y.v y.t y.c)
 have HR4 : Aside _ := heap_old HR3.out (boxE y.k y.j y.v y.t y.c)
 have HE4 : Aside _ := heap_old HE3.out (boxE y.k y.j y.v y.t y.c)
 have HY4 : Aside _ := heap_new w3 (boxE y.k y.j y.v y.t y.c)
 have HB4 : Aside _ := grew HB3.out (boxE y.k y.j y.v y.t y.c)
 clear hrow3 hEy hc3 HX3 HR3 HE3 HB3 HCH
 go_upto_region 5 with fail
 generalize w3.alloc (boxE y.k y.j y.v y.t y.c) = w4 at *
 generalize w3.heap.size = yb at *
 clear g0 g1 g2 g3 g4 p0 s0 p1 s1 p2 s2
 have zy := cb HY4
 go_wp2_with fail
 refine (kst _).mono ?_
 rintro e w6 ⟨rfl, hb6⟩
 have HX6 := hv HX4 hb6
 have HR6 := hv HR4 hb6
 have HE6 := hv HE4 hb6
 have HY6 := hv HY4 hb6
 have HB6 := sb HB4 hb6
 clear hb6 kst zy HX4 HR4 HE4 HY4 HB4
 go_wp2_with fail
 have hz5 : C5 w6 yb y := c5_of HY6.out
 have hgr : yb ≠ w.heap.size + 1 := by omega
 have hge : yb ≠ w.heap.size + 1 + 1 := by omega
 have HRd : Aside (w6.drew.heap[w.heap.size + 1]? = some (boxRc Rc.zero)) := HR6.out
 have HEd : Aside (w6.drew.heap[w.heap.size + 1 + 1]? = some (boxE 0 0 0 0 0)) := HE6.out
 have HBd : Aside (Below w.heap.size w w6.drew) := HB6.out.drew
 clear HX6 HR6 HE6 HY6 HB6
 refine wp_region_held_drew (S := fun w' => C5 w' yb y) (by kernel_rfl) (hz5) (fun hHeld => ?_)
 clear hz5
 generalize w6.drew = X at *
 refine tk 0 (v := ?_) rfl (by kernel_rfl) (by rfl) (by assumption) (fun _ _ _ h => h) ?_ ?_
 rotate_left
 ·intro w0 hSw; (try dsimp only at hSw); go_simp; first | done | with_reducible rfl
 try simp only [Act.put, qa, qb, qc]
 refine tk 1 (v := ?_) rfl (by kernel_rfl) (by rfl) (by assumption) (fun _ _ _ h => h) ?_ ?_
 rotate_left
 ·intro w0 hSw; (try dsimp only at hSw); go_simp; first | done | with_reducible rfl
 try simp only [Act.put, qa, qb, qc]
 have zr := cb HRd
 have fr := cf HRd
 have ze := cb HEd
 have fe := cf HEd
 refine rdy 2 (by kernel_rfl) rfl (fun K hK => ?_)
 go_simp
 refine hK.out _ _ (c5_set (c5_set (c5_set (c5_set (c5_set (c5_set (c5_set (c5_set (hHeld) hgr 0 _) hgr 1 _) hgr 2 _) hgr 3 _) hgr 4 _) hgr 5 _) hgr 6 _) hgr 7 _) (fun hHeld => ?_)
 clear hK K
 try simp only [Act.put, qa, qb, qc]
 refine rdy 3 (by kernel_rfl) rfl (fun K hK => ?_)
 go_simp
 refine hK.out _ _ (c5_set (c5_set (c5_set (c5_set (c5_set (hHeld) hge 0 _) hge 1 _) hge 2 _) hge 3 _) hge 4 _) (fun hHeld => ?_)
 clear hK K
 try simp only [Act.put, qa, qb, qc]
 refine tk 4 (v := ?_) rfl (by kernel_rfl) (by rfl) (by assumption) (fun _ _ _ h => h) ?_ ?_
 rotate_left
 ·intro w0 hSw; (try dsimp only at hSw); go_simp; first | done | with_reducible rfl
 try simp only [Act.put, qa, qb, qc]
 refine wpAnyH_done (by kernel_rfl) ?_ _
 clear zr fr ze fe
 go_wp2
 have hst := link_stored (w := X) (rb := w.heap.size + 1) (eb := w.heap.size + 1 + 1) HRd.out (f := En.zero) HEd.out (by omega) (Rc.zero) (y) rfl
 exact ret3 (p := 10) (q := 11) (t := 12) (r := Rc.zero) (e := y) Tryz.results105 rfl rfl rfl rfl hst.1 hst.2 ⟨rfl, link_below HBd.out (by omega) (by omega) _ _ _ _ _ _ _ _ _ _ _ _ _⟩
set_option maxHeartbeats 4000000 in
set_option maxRecDepth 100000 in
theorem chLink1_new (b off c m : Nat) (ep : Int) (x : En) (U0 U1 U2 : Un) (a0 a1 a2 : Option Addr) (c0 c1 c2 : Nat) (w : World) (hch : ChAt w (.slice (some ⟨b, off, none⟩) 3 c) [⟨U0, .slice a0 60 c0⟩, ⟨U1, .slice a1 60 c1⟩, ⟨U2, .slice a2 60 c2⟩]) (hm : m < 60) (hd : (linkOf [U0, U1, U2] 1 (m : Int) x ep).2.2 = 0) (y : En) (hy : U1.cells[m]? = some y) (hib : y.isB = true) :
  Calls Tryz.prog 105 #[.slice (some ⟨b, off, none⟩) 3 c, .int .i64 1, .int .i64 (m : Int), x.val, .int .i64 ep] w fun e w' => e = .returned (.tuple #[(((⟨1, (m : Int), 0, x⟩, x, 0) : Rc × En × Int)).1.val, (((⟨1, (m : Int), 0, x⟩, x, 0) : Rc × En × Int)).2.1.val, .int .i64 (((⟨1, (m : Int), 0, x⟩, x, 0) : Rc × En × Int)).2.2]) ∧ Below w.heap.size w w' := by
 have HB0 : Aside (Below w.heap.size w (((w.alloc (boxE x.k x.j x.v x.t x.c)).alloc (boxRc Rc.zero)).alloc (boxE 0 0 0 0 0))) := grew (grew (grew (Below.refl _ _) _) _) _
 have HX0 : Aside ((((w.alloc (boxE x.k x.j x.v x.t x.c)).alloc (boxRc Rc.zero)).alloc (boxE 0 0 0 0 0)).heap[w.heap.size]? = some (boxE x.k x.j x.v x.t x.c)) := heap_old (heap_old (heap_new _ _) _) _
 have HR0 : Aside ((((w.alloc (boxE x.k x.j x.v x.t x.c)).alloc (boxRc Rc.zero)).alloc (boxE 0 0 0 0 0)).heap[w.heap.size + 1]? = some (boxRc Rc.zero)) := by
  have := heap_new (w.alloc (boxE x.k x.j x.v x.t x.c)) (boxRc Rc.zero)
  rw [World.size_alloc] at this
  exact heap_old this _
 have HE0 : Aside ((((w.alloc (boxE x.k x.j x.v x.t x.c)).alloc (boxRc Rc.zero)).alloc (boxE 0 0 0 0 0)).heap[w.heap.size + 1 + 1]? = some (boxE 0 0 0 0 0)) := by
  have := heap_new ((w.alloc (boxE x.k x.j x.v x.t x.c)).alloc (boxRc Rc.zero)) (boxE 0 0 0 0 0)
  rwa [World.size_alloc, World.size_alloc] at this
 have hml := may_any _ _ 1 (m : Int) ep x _ (hch.later HB0.out)
 rw [show (linkOf (unitsOf [⟨U0, .slice a0 60 c0⟩, ⟨U1, .slice a1 60 c1⟩, ⟨U2, .slice a2 60 c2⟩]) 1 (m : Int) x ep).2.2 = 0 from hd] at hml
 have kst := fun W => stands_any y W
 rw [hib, Bool.not_true] at kst
 have HCH : Aside (ChAt w (.slice (some ⟨b, off, none⟩) 3 c) [⟨U0, .slice a0 60 c0⟩, ⟨U1, .slice a1 60 c1⟩, ⟨U2, .slice a2 60 c2⟩]) := hch
 have HY : Hid (U1.cells[m]? = some y) := hy
 have hmi : (m : Int) < 60 := by omega
 have hm0 : (0 : Int) ≤ (m : Int) := by omega
 clear hch hd hy hib
 go_enter Tryz.func105, Tryz.ntmps105
 go_wp2_with fail
 refine hml.mono ?_
 rintro e w3 ⟨rfl, hb3⟩
 have HX3 := hv HX0 hb3
 have HR3 := hv HR0 hb3
 have HE3 := hv HE0 hb3
 have HB3 := sb HB0 hb3
 clear hb3 HX0 HR0 HE0 HB0
 clear hml
 have hc3 := HCH.out.later HB3.out
 obtain ⟨b3, off3, eb3, hrow3⟩ := hc3.rows.at (by omega)
 injection eb3 with eb3
 injection eb3 with eb4 eb5 _
 subst eb4 eb5
 obtain ⟨⟨p0, s0⟩, ⟨p1, s1⟩, ⟨p2, s2⟩⟩ := row_three hrow3
 obtain ⟨by_, oy, ey, hEy⟩ := SlOf.at (cs := En.cells) (k := 5) (hc3.each ⟨U1, .slice a1 60 c1⟩ (by simp)).ents (by omega)
 subst ey
 have g0 : w3.cell? ⟨by_, oy + m * 5, none⟩ = some (.int .i64 y.k) := hEy m y HY.out 0 _ rfl
 have g1 : w3.cell? ⟨by_, oy + m * 5 + 1, none⟩ = some (.int .i64 y.j) := hEy m y HY.out 1 _ rfl
 have g2 : w3.cell? ⟨by_, oy + m * 5 + 2, none⟩ = some (.int .i64 y.v) := hEy m y HY.out 2 _ rfl
 have g3 : w3.cell? ⟨by_, oy + m * 5 + 3, none⟩ = some (.int .i64 y.t) := hEy m y HY.out 3 _ rfl
 have g4 : w3.cell? ⟨by_, oy + m * 5 + 4, none⟩ = some (.int .i64 y.c) := hEy m y HY.out 4 _ rfl
 have hyb := heap_lt HE3.out
 have HX4 : Aside _ := heap_old HX3.out (boxE y.k y.j y.v y.t y.c)
 have HR4 : Aside _ := heap_old HR3.out (boxE y.k y.j y.v y.t y.c)
 have HE4 : Aside _ := heap_old HE3.out (boxE y.k y.j y.v y.t y.c)
 have HY4 : Aside _ := heap_new w3 (boxE y.k y.j y.v y.t y.c)
 have HB4 : Aside _ := grew HB3.out (boxE y.k y.j y.v y.t y.c)
 clear hrow3 hEy hc3 HX3 HR3 HE3 HB3 HCH
 go_upto_region 5 with fail
 generalize w3.alloc (boxE y.k y.j y.v y.t y.c) = w4 at *
 generalize w3.heap.size = yb at *
 clear g0 g1 g2 g3 g4 p0 s0 p1 s1 p2 s2
 have zy := cb HY4
 go_wp2_with fail
 refine (kst _).mono ?_
 rintro e w6 ⟨rfl, hb6⟩
 have HX6 := hv HX4 hb6
 have HR6 := hv HR4 hb6
 have HE6 := hv HE4 hb6
 have HY6 := hv HY4 hb6
 have HB6 := sb HB4 hb6
 clear hb6 kst zy HX4 HR4 HE4 HY4 HB4
 go_wp2_with fail
 have hz5 : C5 w6 w.heap.size x := c5_of HX6.out
 have hgr : w.heap.size ≠ w.heap.size + 1 := by omega
 have hge : w.heap.size ≠ w.heap.size + 1 + 1 := by omega
 have HRd : Aside (w6.drew.heap[w.heap.size + 1]? = some (boxRc Rc.zero)) := HR6.out
 have HEd : Aside (w6.drew.heap[w.heap.size + 1 + 1]? = some (boxE 0 0 0 0 0)) := HE6.out
 have HBd : Aside (Below w.heap.size w w6.drew) := HB6.out.drew
 clear HX6 HR6 HE6 HY6 HB6
 refine wp_region_held_drew (S := fun w' => C5 w' w.heap.size x) (by kernel_rfl) (hz5) (fun hHeld => ?_)
 clear hz5
 generalize w6.drew = X at *
 refine tk 0 (v := ?_) rfl (by kernel_rfl) (by rfl) (by assumption) (fun _ _ _ h => h) ?_ ?_
 rotate_left
 ·intro w0 hSw; (try dsimp only at hSw); go_simp; first | done | with_reducible rfl
 try simp only [Act.put, qa, qb, qc]
 refine tk 1 (v := ?_) rfl (by kernel_rfl) (by rfl) (by assumption) (fun _ _ _ h => h) ?_ ?_
 rotate_left
 ·intro w0 hSw; (try dsimp only at hSw); go_simp; first | done | with_reducible rfl
 try simp only [Act.put, qa, qb, qc]
 refine tk 2 (v := ?_) rfl (by kernel_rfl) (by rfl) (by assumption) (fun _ _ _ h => h) ?_ ?_
 rotate_left
 ·intro w0 hSw; (try dsimp only at hSw); go_simp; first | done | with_reducible rfl
 try simp only [Act.put, qa, qb, qc]
 refine tk 3 (v := ?_) rfl (by kernel_rfl) (by rfl) (by assumption) (fun _ _ _ h => h) ?_ ?_
 rotate_left
 ·intro w0 hSw; (try dsimp only at hSw); go_simp; first | done | with_reducible rfl
 try simp only [Act.put, qa, qb, qc]
 have zr := cb HRd
 have fr := cf HRd
 have ze := cb HEd
 have fe := cf HEd
 refine rdy 4 (by kernel_rfl) rfl (fun K hK => ?_)
 go_simp
 refine hK.out _ _ (c5_set (c5_set (c5_set (c5_set (c5_set (c5_set (c5_set (c5_set (hHeld) hgr 0 _) hgr 1 _) hgr 2 _) hgr 3 _) hgr 4 _) hgr 5 _) hgr 6 _) hgr 7 _) (fun hHeld => ?_)
 clear hK K
 try simp only [Act.put, qa, qb, qc]
 refine rdy 5 (by kernel_rfl) rfl (fun K hK => ?_)
 go_simp
 refine hK.out _ _ (c5_set (c5_set (c5_set (c5_set (c5_set (hHeld) hge 0 _) hge 1 _) hge 2 _) hge 3 _) hge 4 _) (fun hHeld => ?_)
 clear hK K
 try simp only [Act.put, qa, qb, qc]
 refine tk 6 (v := ?_) rfl (by kernel_rfl) (by rfl) (by assumption) (fun _ _ _ h => h) ?_ ?_
 rotate_left
 ·intro w0 hSw; (try dsimp only at hSw); go_simp; first | done | with_reducible rfl
 try simp only [Act.put, qa, qb, qc]
 refine wpAnyH_done (by kernel_rfl) ?_ _
 clear zr fr ze fe
 go_wp2
 have hst := link_stored (w := X) (rb := w.heap.size + 1) (eb := w.heap.size + 1 + 1) HRd.out (f := En.zero) HEd.out (by omega) (⟨1, (m : Int), 0, x⟩) (x) rfl
 exact ret3 (p := 10) (q := 11) (t := 12) (r := ⟨1, (m : Int), 0, x⟩) (e := x) Tryz.results105 rfl rfl rfl rfl hst.1 hst.2 ⟨rfl, link_below HBd.out (by omega) (by omega) _ _ _ _ _ _ _ _ _ _ _ _ _⟩
set_option maxHeartbeats 4000000 in
set_option maxRecDepth 100000 in
theorem chLink2_stands (b off c m : Nat) (ep : Int) (x : En) (U0 U1 U2 : Un) (a0 a1 a2 : Option Addr) (c0 c1 c2 : Nat) (w : World) (hch : ChAt w (.slice (some ⟨b, off, none⟩) 3 c) [⟨U0, .slice a0 60 c0⟩, ⟨U1, .slice a1 60 c1⟩, ⟨U2, .slice a2 60 c2⟩]) (hm : m < 60) (hd : (linkOf [U0, U1, U2] 2 (m : Int) x ep).2.2 = 0) (y : En) (hy : U2.cells[m]? = some y) (hib : y.isB = false) :
  Calls Tryz.prog 105 #[.slice (some ⟨b, off, none⟩) 3 c, .int .i64 2, .int .i64 (m : Int), x.val, .int .i64 ep] w fun e w' => e = .returned (.tuple #[(((Rc.zero, y, 0) : Rc × En × Int)).1.val, (((Rc.zero, y, 0) : Rc × En × Int)).2.1.val, .int .i64 (((Rc.zero, y, 0) : Rc × En × Int)).2.2]) ∧ Below w.heap.size w w' := by
 have HB0 : Aside (Below w.heap.size w (((w.alloc (boxE x.k x.j x.v x.t x.c)).alloc (boxRc Rc.zero)).alloc (boxE 0 0 0 0 0))) := grew (grew (grew (Below.refl _ _) _) _) _
 have HX0 : Aside ((((w.alloc (boxE x.k x.j x.v x.t x.c)).alloc (boxRc Rc.zero)).alloc (boxE 0 0 0 0 0)).heap[w.heap.size]? = some (boxE x.k x.j x.v x.t x.c)) := heap_old (heap_old (heap_new _ _) _) _
 have HR0 : Aside ((((w.alloc (boxE x.k x.j x.v x.t x.c)).alloc (boxRc Rc.zero)).alloc (boxE 0 0 0 0 0)).heap[w.heap.size + 1]? = some (boxRc Rc.zero)) := by
  have := heap_new (w.alloc (boxE x.k x.j x.v x.t x.c)) (boxRc Rc.zero)
  rw [World.size_alloc] at this
  exact heap_old this _
 have HE0 : Aside ((((w.alloc (boxE x.k x.j x.v x.t x.c)).alloc (boxRc Rc.zero)).alloc (boxE 0 0 0 0 0)).heap[w.heap.size + 1 + 1]? = some (boxE 0 0 0 0 0)) := by
  have := heap_new ((w.alloc (boxE x.k x.j x.v x.t x.c)).alloc (boxRc Rc.zero)) (boxE 0 0 0 0 0)
  rwa [World.size_alloc, World.size_alloc] at this
 have hml := may_any _ _ 2 (m : Int) ep x _ (hch.later HB0.out)
 rw [show (linkOf (unitsOf [⟨U0, .slice a0 60 c0⟩, ⟨U1, .slice a1 60 c1⟩, ⟨U2, .slice a2 60 c2⟩]) 2 (m : Int) x ep).2.2 = 0 from hd] at hml
 have kst := fun W => stands_any y W
 rw [hib, Bool.not_false] at kst
 have HCH : Aside (ChAt w (.slice (some ⟨b, off, none⟩) 3 c) [⟨U0, .slice a0 60 c0⟩, ⟨U1, .slice a1 60 c1⟩, ⟨U2, .slice a2 60 c2⟩]) := hch
 have HY : Hid (U2.cells[m]? = some y) := hy
 have hmi : (m : Int) < 60 := by omega
 have hm0 : (0 : Int) ≤ (m : Int) := by omega
 clear hch hd hy hib
 go_enter Tryz.func105, Tryz.ntmps105
 go_wp2_with fail
 refine hml.mono ?_
 rintro e w3 ⟨rfl, hb3⟩
 have HX3 := hv HX0 hb3
 have HR3 := hv HR0 hb3
 have HE3 := hv HE0 hb3
 have HB3 := sb HB0 hb3
 clear hb3 HX0 HR0 HE0 HB0
 clear hml
 have hc3 := HCH.out.later HB3.out
 obtain ⟨b3, off3, eb3, hrow3⟩ := hc3.rows.at (by omega)
 injection eb3 with eb3
 injection eb3 with eb4 eb5 _
 subst eb4 eb5
 obtain ⟨⟨p0, s0⟩, ⟨p1, s1⟩, ⟨p2, s2⟩⟩ := row_three hrow3
 obtain ⟨by_, oy, ey, hEy⟩ := SlOf.at (cs := En.cells) (k := 5) (hc3.each ⟨U2, .slice a2 60 c2⟩ (by simp)).ents (by omega)
 subst ey
 have g0 : w3.cell? ⟨by_, oy + m * 5, none⟩ = some (.int .i64 y.k) := hEy m y HY.out 0 _ rfl
 have g1 : w3.cell? ⟨by_, oy + m * 5 + 1, none⟩ = some (.int .i64 y.j) := hEy m y HY.out 1 _ rfl
 have g2 : w3.cell? ⟨by_, oy + m * 5 + 2, none⟩ = some (.int .i64 y.v) := hEy m y HY.out 2 _ rfl
 have g3 : w3.cell? ⟨by_, oy + m * 5 + 3, none⟩ = some (.int .i64 y.t) := hEy m y HY.out 3 _ rfl
 have g4 : w3.cell? ⟨by_, oy + m * 5 + 4, none⟩ = some (.int .i64 y.c) := hEy m y HY.out 4 _ rfl
 have hyb := heap_lt HE3.out
 have HX4 : Aside _ := heap_old HX3.out (boxE y.k y.j y.v y.t y.c)
 have HR4 : Aside _ := heap_old HR3.out (boxE y.k y.j y.v y.t y.c)
 have HE4 : Aside _ := heap_old HE3.out (boxE y.k y.j y.v y.t y.c)
 have HY4 : Aside _ := heap_new w3 (boxE y.k y.j y.v y.t y.c)
 have HB4 : Aside _ := grew HB3.out (boxE y.k y.j y.v y.t y.c)
 clear hrow3 hEy hc3 HX3 HR3 HE3 HB3 HCH
 go_upto_region 5 with fail
 generalize w3.alloc (boxE y.k y.j y.v y.t y.c) = w4 at *
 generalize w3.heap.size = yb at *
 clear g0 g1 g2 g3 g4 p0 s0 p1 s1 p2 s2
 have zy := cb HY4
 go_wp2_with fail
 refine (kst _).mono ?_
 rintro e w6 ⟨rfl, hb6⟩
 have HX6 := hv HX4 hb6
 have HR6 := hv HR4 hb6
 have HE6 := hv HE4 hb6
 have HY6 := hv HY4 hb6
 have HB6 := sb HB4 hb6
 clear hb6 kst zy HX4 HR4 HE4 HY4 HB4
 go_wp2_with fail
 have hz5 : C5 w6 yb y := c5_of HY6.out
 have hgr : yb ≠ w.heap.size + 1 := by omega
 have hge : yb ≠ w.heap.size + 1 + 1 := by omega
 have HRd : Aside (w6.drew.heap[w.heap.size + 1]? = some (boxRc Rc.zero)) := HR6.out
 have HEd : Aside (w6.drew.heap[w.heap.size + 1 + 1]? = some (boxE 0 0 0 0 0)) := HE6.out
 have HBd : Aside (Below w.heap.size w w6.drew) := HB6.out.drew
 clear HX6 HR6 HE6 HY6 HB6
 refine wp_region_held_drew (S := fun w' => C5 w' yb y) (by kernel_rfl) (hz5) (fun hHeld => ?_)
 clear hz5
 generalize w6.drew = X at *
 refine tk 0 (v := ?_) rfl (by kernel_rfl) (by rfl) (by assumption) (fun _ _ _ h => h) ?_ ?_
 rotate_left
 ·intro w0 hSw; (try dsimp only at hSw); go_simp; first | done | with_reducible rfl
 try simp only [Act.put, qa, qb, qc]
 refine tk 1 (v := ?_) rfl (by kernel_rfl) (by rfl) (by assumption) (fun _ _ _ h => h) ?_ ?_
 rotate_left
 ·intro w0 hSw; (try dsimp only at hSw); go_simp; first | done | with_reducible rfl
 try simp only [Act.put, qa, qb, qc]
 have zr := cb HRd
 have fr := cf HRd
 have ze := cb HEd
 have fe := cf HEd
 refine rdy 2 (by kernel_rfl) rfl (fun K hK => ?_)
 go_simp
 refine hK.out _ _ (c5_set (c5_set (c5_set (c5_set (c5_set (c5_set (c5_set (c5_set (hHeld) hgr 0 _) hgr 1 _) hgr 2 _) hgr 3 _) hgr 4 _) hgr 5 _) hgr 6 _) hgr 7 _) (fun hHeld => ?_)
 clear hK K
 try simp only [Act.put, qa, qb, qc]
 refine rdy 3 (by kernel_rfl) rfl (fun K hK => ?_)
 go_simp
 refine hK.out _ _ (c5_set (c5_set (c5_set (c5_set (c5_set (hHeld) hge 0 _) hge 1 _) hge 2 _) hge 3 _) hge 4 _) (fun hHeld => ?_)
 clear hK K
 try simp only [Act.put, qa, qb, qc]
 refine tk 4 (v := ?_) rfl (by kernel_rfl) (by rfl) (by assumption) (fun _ _ _ h => h) ?_ ?_
 rotate_left
 ·intro w0 hSw; (try dsimp only at hSw); go_simp; first | done | with_reducible rfl
 try simp only [Act.put, qa, qb, qc]
 refine wpAnyH_done (by kernel_rfl) ?_ _
 clear zr fr ze fe
 go_wp2
 have hst := link_stored (w := X) (rb := w.heap.size + 1) (eb := w.heap.size + 1 + 1) HRd.out (f := En.zero) HEd.out (by omega) (Rc.zero) (y) rfl
 exact ret3 (p := 10) (q := 11) (t := 12) (r := Rc.zero) (e := y) Tryz.results105 rfl rfl rfl rfl hst.1 hst.2 ⟨rfl, link_below HBd.out (by omega) (by omega) _ _ _ _ _ _ _ _ _ _ _ _ _⟩
set_option maxHeartbeats 4000000 in
set_option maxRecDepth 100000 in
theorem chLink2_new (b off c m : Nat) (ep : Int) (x : En) (U0 U1 U2 : Un) (a0 a1 a2 : Option Addr) (c0 c1 c2 : Nat) (w : World) (hch : ChAt w (.slice (some ⟨b, off, none⟩) 3 c) [⟨U0, .slice a0 60 c0⟩, ⟨U1, .slice a1 60 c1⟩, ⟨U2, .slice a2 60 c2⟩]) (hm : m < 60) (hd : (linkOf [U0, U1, U2] 2 (m : Int) x ep).2.2 = 0) (y : En) (hy : U2.cells[m]? = some y) (hib : y.isB = true) :
  Calls Tryz.prog 105 #[.slice (some ⟨b, off, none⟩) 3 c, .int .i64 2, .int .i64 (m : Int), x.val, .int .i64 ep] w fun e w' => e = .returned (.tuple #[(((⟨1, (m : Int), 0, x⟩, x, 0) : Rc × En × Int)).1.val, (((⟨1, (m : Int), 0, x⟩, x, 0) : Rc × En × Int)).2.1.val, .int .i64 (((⟨1, (m : Int), 0, x⟩, x, 0) : Rc × En × Int)).2.2]) ∧ Below w.heap.size w w' := by
 have HB0 : Aside (Below w.heap.size w (((w.alloc (boxE x.k x.j x.v x.t x.c)).alloc (boxRc Rc.zero)).alloc (boxE 0 0 0 0 0))) := grew (grew (grew (Below.refl _ _) _) _) _
 have HX0 : Aside ((((w.alloc (boxE x.k x.j x.v x.t x.c)).alloc (boxRc Rc.zero)).alloc (boxE 0 0 0 0 0)).heap[w.heap.size]? = some (boxE x.k x.j x.v x.t x.c)) := heap_old (heap_old (heap_new _ _) _) _
 have HR0 : Aside ((((w.alloc (boxE x.k x.j x.v x.t x.c)).alloc (boxRc Rc.zero)).alloc (boxE 0 0 0 0 0)).heap[w.heap.size + 1]? = some (boxRc Rc.zero)) := by
  have := heap_new (w.alloc (boxE x.k x.j x.v x.t x.c)) (boxRc Rc.zero)
  rw [World.size_alloc] at this
  exact heap_old this _
 have HE0 : Aside ((((w.alloc (boxE x.k x.j x.v x.t x.c)).alloc (boxRc Rc.zero)).alloc (boxE 0 0 0 0 0)).heap[w.heap.size + 1 + 1]? = some (boxE 0 0 0 0 0)) := by
  have := heap_new ((w.alloc (boxE x.k x.j x.v x.t x.c)).alloc (boxRc Rc.zero)) (boxE 0 0 0 0 0)
  rwa [World.size_alloc, World.size_alloc] at this
 have hml := may_any _ _ 2 (m : Int) ep x _ (hch.later HB0.out)
 rw [show (linkOf (unitsOf [⟨U0, .slice a0 60 c0⟩, ⟨U1, .slice a1 60 c1⟩, ⟨U2, .slice a2 60 c2⟩]) 2 (m : Int) x ep).2.2 = 0 from hd] at hml
 have kst := fun W => stands_any y W
 rw [hib, Bool.not_true] at kst
 have HCH : Aside (ChAt w (.slice (some ⟨b, off, none⟩) 3 c) [⟨U0, .slice a0 60 c0⟩, ⟨U1, .slice a1 60 c1⟩, ⟨U2, .slice a2 60 c2⟩]) := hch
 have HY : Hid (U2.cells[m]? = some y) := hy
 have hmi : (m : Int) < 60 := by omega
 have hm0 : (0 : Int) ≤ (m : Int) := by omega
 clear hch hd hy hib
 go_enter Tryz.func105, Tryz.ntmps105
 go_wp2_with fail
 refine hml.mono ?_
 rintro e w3 ⟨rfl, hb3⟩
 have HX3 := hv HX0 hb3
 have HR3 := hv HR0 hb3
 have HE3 := hv HE0 hb3
 have HB3 := sb HB0 hb3
 clear hb3 HX0 HR0 HE0 HB0
 clear hml
 have hc3 := HCH.out.later HB3.out
 obtain ⟨b3, off3, eb3, hrow3⟩ := hc3.rows.at (by omega)
 injection eb3 with eb3
 injection eb3 with eb4 eb5 _
 subst eb4 eb5
 obtain ⟨⟨p0, s0⟩, ⟨p1, s1⟩, ⟨p2, s2⟩⟩ := row_three hrow3
 obtain ⟨by_, oy, ey, hEy⟩ := SlOf.at (cs := En.cells) (k := 5) (hc3.each ⟨U2, .slice a2 60 c2⟩ (by simp)).ents (by omega)
 subst ey
 have g0 : w3.cell? ⟨by_, oy + m * 5, none⟩ = some (.int .i64 y.k) := hEy m y HY.out 0 _ rfl
 have g1 : w3.cell? ⟨by_, oy + m * 5 + 1, none⟩ = some (.int .i64 y.j) := hEy m y HY.out 1 _ rfl
 have g2 : w3.cell? ⟨by_, oy + m * 5 + 2, none⟩ = some (.int .i64 y.v) := hEy m y HY.out 2 _ rfl
 have g3 : w3.cell? ⟨by_, oy + m * 5 + 3, none⟩ = some (.int .i64 y.t) := hEy m y HY.out 3 _ rfl
 have g4 : w3.cell? ⟨by_, oy + m * 5 + 4, none⟩ = some (.int .i64 y.c) := hEy m y HY.out 4 _ rfl
 have hyb := heap_lt HE3.out
 have HX4 : Aside _ := heap_old HX3.out (boxE y.k y.j y.v y.t y.c)
 have HR4 : Aside _ := heap_old HR3.out (boxE y.k y.j y.v y.t y.c)
 have HE4 : Aside _ := heap_old HE3.out (boxE y.k y.j y.v y.t y.c)
 have HY4 : Aside _ := heap_new w3 (boxE y.k y.j y.v y.t y.c)
 have HB4 : Aside _ := grew HB3.out (boxE y.k y.j y.v y.t y.c)
 clear hrow3 hEy hc3 HX3 HR3 HE3 HB3 HCH
 go_upto_region 5 with fail
 generalize w3.alloc (boxE y.k y.j y.v y.t y.c) = w4 at *
 generalize w3.heap.size = yb at *
 clear g0 g1 g2 g3 g4 p0 s0 p1 s1 p2 s2
 have zy := cb HY4
 go_wp2_with fail
 refine (kst _).mono ?_
 rintro e w6 ⟨rfl, hb6⟩
 have HX6 := hv HX4 hb6
 have HR6 := hv HR4 hb6
 have HE6 := hv HE4 hb6
 have HY6 := hv HY4 hb6
 have HB6 := sb HB4 hb6
 clear hb6 kst zy HX4 HR4 HE4 HY4 HB4
 go_wp2_with fail
 have hz5 : C5 w6 w.heap.size x := c5_of HX6.out
 have hgr : w.heap.size ≠ w.heap.size + 1 := by omega
 have hge : w.heap.size ≠ w.heap.size + 1 + 1 := by omega
 have HRd : Aside (w6.drew.heap[w.heap.size + 1]? = some (boxRc Rc.zero)) := HR6.out
 have HEd : Aside (w6.drew.heap[w.heap.size + 1 + 1]? = some (boxE 0 0 0 0 0)) := HE6.out
 have HBd : Aside (Below w.heap.size w w6.drew) := HB6.out.drew
 clear HX6 HR6 HE6 HY6 HB6
 refine wp_region_held_drew (S := fun w' => C5 w' w.heap.size x) (by kernel_rfl) (hz5) (fun hHeld => ?_)
 clear hz5
 generalize w6.drew = X at *
 refine tk 0 (v := ?_) rfl (by kernel_rfl) (by rfl) (by assumption) (fun _ _ _ h => h) ?_ ?_
 rotate_left
 ·intro w0 hSw; (try dsimp only at hSw); go_simp; first | done | with_reducible rfl
 try simp only [Act.put, qa, qb, qc]
 refine tk 1 (v := ?_) rfl (by kernel_rfl) (by rfl) (by assumption) (fun _ _ _ h => h) ?_ ?_
 rotate_left
 ·intro w0 hSw; (try dsimp only at hSw); go_simp; first | done | with_reducible rfl
 try simp only [Act.put, qa, qb, qc]
 refine tk 2 (v := ?_) rfl (by kernel_rfl) (by rfl) (by assumption) (fun _ _ _ h => h) ?_ ?_
 rotate_left
 ·intro w0 hSw; (try dsimp only at hSw); go_simp; first | done | with_reducible rfl
 try simp only [Act.put, qa, qb, qc]
 refine tk 3 (v := ?_) rfl (by kernel_rfl) (by rfl) (by assumption) (fun _ _ _ h => h) ?_ ?_
 rotate_left
 ·intro w0 hSw; (try dsimp only at hSw); go_simp; first | done | with_reducible rfl
 try simp only [Act.put, qa, qb, qc]
 have zr := cb HRd
 have fr := cf HRd
 have ze := cb HEd
 have fe := cf HEd
 refine rdy 4 (by kernel_rfl) rfl (fun K hK => ?_)
 go_simp
 refine hK.out _ _ (c5_set (c5_set (c5_set (c5_set (c5_set (c5_set (c5_set (c5_set (hHeld) hgr 0 _) hgr 1 _) hgr 2 _) hgr 3 _) hgr 4 _) hgr 5 _) hgr 6 _) hgr 7 _) (fun hHeld => ?_)
 clear hK K
 try simp only [Act.put, qa, qb, qc]
 refine rdy 5 (by kernel_rfl) rfl (fun K hK => ?_)
 go_simp
 refine hK.out _ _ (c5_set (c5_set (c5_set (c5_set (c5_set (hHeld) hge 0 _) hge 1 _) hge 2 _) hge 3 _) hge 4 _) (fun hHeld => ?_)
 clear hK K
 try simp only [Act.put, qa, qb, qc]
 refine tk 6 (v := ?_) rfl (by kernel_rfl) (by rfl) (by assumption) (fun _ _ _ h => h) ?_ ?_
 rotate_left
 ·intro w0 hSw; (try dsimp only at hSw); go_simp; first | done | with_reducible rfl
 try simp only [Act.put, qa, qb, qc]
 refine wpAnyH_done (by kernel_rfl) ?_ _
 clear zr fr ze fe
 go_wp2
 have hst := link_stored (w := X) (rb := w.heap.size + 1) (eb := w.heap.size + 1 + 1) HRd.out (f := En.zero) HEd.out (by omega) (⟨1, (m : Int), 0, x⟩) (x) rfl
 exact ret3 (p := 10) (q := 11) (t := 12) (r := ⟨1, (m : Int), 0, x⟩) (e := x) Tryz.results105 rfl rfl rfl rfl hst.1 hst.2 ⟨rfl, link_below HBd.out (by omega) (by omega) _ _ _ _ _ _ _ _ _ _ _ _ _⟩
set_option maxRecDepth 10000 in
theorem chLink_any (v : Value) (xs : List Ub) (k a ep : Int) (x : En) (w : World) (h : ChAt w v xs) :
  Calls Tryz.prog 105 #[v, .int .i64 k, .int .i64 a, x.val, .int .i64 ep] w fun e w' => e = .returned (.tuple #[(linkOf (unitsOf xs) k a x ep).1.val, (linkOf (unitsOf xs) k a x ep).2.1.val, .int .i64 (linkOf (unitsOf xs) k a x ep).2.2]) ∧ Below w.heap.size w w' := by
 by_cases he : (linkOf (unitsOf xs) k a x ep).2.2 = 0
 ·obtain ⟨hd, hk, ha, hx, hp, hz, hway⟩ := linkOf_ok he
  obtain ⟨U0, U1, U2, a0, c0, a1, c1, a2, c2, b, off, c, rfl, rfl, d0, d1, d2⟩ := right_three h hd
  obtain ⟨m, rfl⟩ : ∃ m : Nat, a = m := ⟨a.toNat, by omega⟩
  have hm : m < 60 := by omega
  obtain ⟨y0, hy0⟩ : ∃ y, U0.cells[m]? = some y := ⟨_, plc_some (us := [U0]) (k := 0) rfl d0 hm⟩
  obtain ⟨y1, hy1⟩ : ∃ y, U1.cells[m]? = some y := ⟨_, plc_some (us := [U1]) (k := 0) rfl d1 hm⟩
  obtain ⟨y2, hy2⟩ : ∃ y, U2.cells[m]? = some y := ⟨_, plc_some (us := [U2]) (k := 0) rfl d2 hm⟩
  have e0 : plc (unitsOf [⟨U0, .slice a0 60 c0⟩, ⟨U1, .slice a1 60 c1⟩, ⟨U2, .slice a2 60 c2⟩]) 0 m = y0 := plc_eq (u := U0) rfl hy0
  have e1 : plc (unitsOf [⟨U0, .slice a0 60 c0⟩, ⟨U1, .slice a1 60 c1⟩, ⟨U2, .slice a2 60 c2⟩]) 1 m = y1 := plc_eq (u := U1) rfl hy1
  have e2 : plc (unitsOf [⟨U0, .slice a0 60 c0⟩, ⟨U1, .slice a1 60 c1⟩, ⟨U2, .slice a2 60 c2⟩]) 2 m = y2 := plc_eq (u := U2) rfl hy2
  have hk' : k = 0 ∨ k = 1 ∨ k = 2 := by omega
  rcases hk' with rfl | rfl | rfl
  ·have ee : plc (unitsOf [⟨U0, .slice a0 60 c0⟩, ⟨U1, .slice a1 60 c1⟩, ⟨U2, .slice a2 60 c2⟩]) (0 : Int).toNat (m : Int).toNat = y0 := e0
   rw [ee] at hway
   rcases hway with ⟨hb, hl⟩ | ⟨hb, hl⟩
   ·rw [hl]; exact chLink0_stands b off c m ep x U0 U1 U2 a0 a1 a2 c0 c1 c2 w h hm he y0 hy0 hb
   ·rw [hl]; exact chLink0_new b off c m ep x U0 U1 U2 a0 a1 a2 c0 c1 c2 w h hm he y0 hy0 hb
  ·have ee : plc (unitsOf [⟨U0, .slice a0 60 c0⟩, ⟨U1, .slice a1 60 c1⟩, ⟨U2, .slice a2 60 c2⟩]) (1 : Int).toNat (m : Int).toNat = y1 := e1
   rw [ee] at hway
   rcases hway with ⟨hb, hl⟩ | ⟨hb, hl⟩
   ·rw [hl]; exact chLink1_stands b off c m ep x U0 U1 U2 a0 a1 a2 c0 c1 c2 w h hm he y1 hy1 hb
   ·rw [hl]; exact chLink1_new b off c m ep x U0 U1 U2 a0 a1 a2 c0 c1 c2 w h hm he y1 hy1 hb
  ·have ee : plc (unitsOf [⟨U0, .slice a0 60 c0⟩, ⟨U1, .slice a1 60 c1⟩, ⟨U2, .slice a2 60 c2⟩]) (2 : Int).toNat (m : Int).toNat = y2 := e2
   rw [ee] at hway
   rcases hway with ⟨hb, hl⟩ | ⟨hb, hl⟩
   ·rw [hl]; exact chLink2_stands b off c m ep x U0 U1 U2 a0 a1 a2 c0 c1 c2 w h hm he y2 hy2 hb
   ·rw [hl]; exact chLink2_new b off c m ep x U0 U1 U2 a0 a1 a2 c0 c1 c2 w h hm he y2 hy2 hb
 ·rw [linkOf_bad he]
  exact chLink_bad v xs k a ep x w h _ rfl (by rw [bne_iff_ne]; exact he)
end
end Go.Proofs.YtmoaobfmopimlafGreatDoor
