/- For the law: Package chain's Link. Package chain's Read. Package chain keeps what the laws ask of it; package unit, too. Package world: play. -/
import Derived.Test.YtmoaobfmopimlafGreatDoorM11
namespace Go.Proofs.YtmoaobfmopimlafGreatDoor
open Go.RowKit
open scoped Classical
set_option linter.unusedSimpArgs false in
set_option maxHeartbeats 4000000 in
set_option maxRecDepth 100000 in
theorem chLink_bad (v : Value) (xs : List Ub) (k a ep : Int) (x : En) (w : World) (h : ChAt w v xs) (d : Int) (hd : (linkOf (unitsOf xs) k a x ep).2.2 = d) (hz : (d != 0) = true) :
    Calls Tryz.prog 105 #[v, .int .i64 k, .int .i64 a, x.val, .int .i64 ep] w fun e w' => e = .returned (.tuple #[(((Rc.zero, En.zero, d) : Rc × En × Int)).1.val, (((Rc.zero, En.zero, d) : Rc × En × Int)).2.1.val, .int .i64 (((Rc.zero, En.zero, d) : Rc × En × Int)).2.2]) ∧ Below w.heap.size w w' := by
  have HB0 : Aside (Below w.heap.size w (((w.alloc (boxE x.k x.j x.v x.t x.c)).alloc (boxRc Rc.zero)).alloc (boxE 0 0 0 0 0))) := grew (grew (grew (Below.refl _ _) _) _) _
  have HX0 : Aside ((((w.alloc (boxE x.k x.j x.v x.t x.c)).alloc (boxRc Rc.zero)).alloc (boxE 0 0 0 0 0)).heap[w.heap.size]? = some (boxE x.k x.j x.v x.t x.c)) := heap_old (heap_old (heap_new _ _) _) _
  have HR0 : Aside ((((w.alloc (boxE x.k x.j x.v x.t x.c)).alloc (boxRc Rc.zero)).alloc (boxE 0 0 0 0 0)).heap[w.heap.size + 1]? = some (boxRc Rc.zero)) := by
    have := heap_new (w.alloc (boxE x.k x.j x.v x.t x.c)) (boxRc Rc.zero)
    rw [World.size_alloc] at this
    exact heap_old this _
  have HE0 : Aside ((((w.alloc (boxE x.k x.j x.v x.t x.c)).alloc (boxRc Rc.zero)).alloc (boxE 0 0 0 0 0)).heap[w.heap.size + 1 + 1]? = some (boxE 0 0 0 0 0)) := by
    have := heap_new ((w.alloc (boxE x.k x.j x.v x.t x.c)).alloc (boxRc Rc.zero)) (boxE 0 0 0 0 0)
    rwa [World.size_alloc, World.size_alloc] at this
  have hml := may_any v xs k a ep x _ (h.later HB0.out)
  rw [hd] at hml
  clear h hd
  go_enter Tryz.func105, Tryz.ntmps105
  go_wp2_with fail
  refine hml.mono ?_
  rintro e w1 ⟨rfl, hb1⟩
  have HX1 : Aside _ := heap_below HX0.out hb1 (heap_lt HX0.out)
  have HR1 : Aside _ := heap_below HR0.out hb1 (heap_lt HR0.out)
  have HE1 : Aside _ := heap_below HE0.out hb1 (heap_lt HE0.out)
  have HB1 : Aside (Below w.heap.size w w1) := step_below1 HB0.out hb1
  clear hb1 HX0 HR0 HE0 HB0
  clear hml
  have zr : ∀ i, w1.cell? ⟨w.heap.size + 1, i, none⟩ = #[Value.int .i64 0, .int .i64 0, .int .i64 0, .int .i64 0, .int .i64 0, .int .i64 0, .int .i64 0, .int .i64 0][i]? := fun i => Joins.cell_of_block HR1.out i
  have fr : ∀ i, w1.frozen? ⟨w.heap.size + 1, i, none⟩ = false := fun i => Joins.unfrozen_of_block HR1.out i
  have ze : ∀ i, w1.cell? ⟨w.heap.size + 1 + 1, i, none⟩ = #[Value.int .i64 0, .int .i64 0, .int .i64 0, .int .i64 0, .int .i64 0][i]? := fun i => Joins.cell_of_block HE1.out i
  have fe : ∀ i, w1.frozen? ⟨w.heap.size + 1 + 1, i, none⟩ = false := fun i => Joins.unfrozen_of_block HE1.out i
  go_wp2
  have hst := link_stored HR1.out (f := En.zero) HE1.out (by omega) (Rc.zero) (En.zero) rfl
  exact ret3 (p := 10) (q := 11) (t := 12) (r := Rc.zero) (e := En.zero) Tryz.results105 rfl rfl rfl rfl hst.1 hst.2 ⟨rfl, link_below HB1.out (by omega) (by omega) _ _ _ _ _ _ _ _ _ _ _ _ _⟩
set_option linter.unusedSimpArgs false in
set_option maxHeartbeats 4000000 in
set_option maxRecDepth 100000 in
theorem chLink0_stands (b off c m : Nat) (ep : Int) (x : En) (U0 U1 U2 : Un) (a0 a1 a2 : Option Addr) (c0 c1 c2 : Nat) (w : World) (hch : ChAt w (.slice (some ⟨b, off, none⟩) 3 c) [⟨U0, .slice a0 60 c0⟩, ⟨U1, .slice a1 60 c1⟩, ⟨U2, .slice a2 60 c2⟩]) (hm : m < 60) (hd : (linkOf [U0, U1, U2] 0 (m : Int) x ep).2.2 = 0) (y : En) (hy : U0.cells[m]? = some y) (hib : y.isB = false) :
    Calls Tryz.prog 105 #[.slice (some ⟨b, off, none⟩) 3 c, .int .i64 0, .int .i64 (m : Int), x.val, .int .i64 ep] w fun e w' => e = .returned (.tuple #[(((Rc.zero, y, 0) : Rc × En × Int)).1.val, (((Rc.zero, y, 0) : Rc × En × Int)).2.1.val, .int .i64 (((Rc.zero, y, 0) : Rc × En × Int)).2.2]) ∧ Below w.heap.size w w' := by
  have HB0 : Aside (Below w.heap.size w (((w.alloc (boxE x.k x.j x.v x.t x.c)).alloc (boxRc Rc.zero)).alloc (boxE 0 0 0 0 0))) := grew (grew (grew (Below.refl _ _) _) _) _
  have HX0 : Aside ((((w.alloc (boxE x.k x.j x.v x.t x.c)).alloc (boxRc Rc.zero)).alloc (boxE 0 0 0 0 0)).heap[w.heap.size]? = some (boxE x.k x.j x.v x.t x.c)) := heap_old (heap_old (heap_new _ _) _) _
  have HR0 : Aside ((((w.alloc (boxE x.k x.j x.v x.t x.c)).alloc (boxRc Rc.zero)).alloc (boxE 0 0 0 0 0)).heap[w.heap.size + 1]? = some (boxRc Rc.zero)) := by
    have := heap_new (w.alloc (boxE x.k x.j x.v x.t x.c)) (boxRc Rc.zero)
    rw [World.size_alloc] at this
    exact heap_old this _
  have HE0 : Aside ((((w.alloc (boxE x.k x.j x.v x.t x.c)).alloc (boxRc Rc.zero)).alloc (boxE 0 0 0 0 0)).heap[w.heap.size + 1 + 1]? = some (boxE 0 0 0 0 0)) := by
    have := heap_new ((w.alloc (boxE x.k x.j x.v x.t x.c)).alloc (boxRc Rc.zero)) (boxE 0 0 0 0 0)
    rwa [World.size_alloc, World.size_alloc] at this
  have hml := may_any _ _ 0 (m : Int) ep x _ (hch.later HB0.out)
  rw [show (linkOf (unitsOf [⟨U0, .slice a0 60 c0⟩, ⟨U1, .slice a1 60 c1⟩, ⟨U2, .slice a2 60 c2⟩]) 0 (m : Int) x ep).2.2 = 0 from hd] at hml
  have kst := fun W => stands_any y W
  rw [hib, Bool.not_false] at kst
  have HCH : Aside (ChAt w (.slice (some ⟨b, off, none⟩) 3 c) [⟨U0, .slice a0 60 c0⟩, ⟨U1, .slice a1 60 c1⟩, ⟨U2, .slice a2 60 c2⟩]) := hch
  have HY : Hid (U0.cells[m]? = some y) := hy
  have hmi : (m : Int) < 60 := by omega
  have hm0 : (0 : Int) ≤ (m : Int) := by omega
  clear hch hd hy hib
  go_enter Tryz.func105, Tryz.ntmps105
  go_wp2_with fail
  refine hml.mono ?_
  rintro e w3 ⟨rfl, hb3⟩
  have HX3 : Aside _ := heap_below HX0.out hb3 (heap_lt HX0.out)
  have HR3 : Aside _ := heap_below HR0.out hb3 (heap_lt HR0.out)
  have HE3 : Aside _ := heap_below HE0.out hb3 (heap_lt HE0.out)
  have HB3 : Aside (Below w.heap.size w w3) := step_below1 HB0.out hb3
  clear hb3 HX0 HR0 HE0 HB0
  clear hml
  have hc3 := HCH.out.later HB3.out
  obtain ⟨b3, off3, eb3, hrow3⟩ := hc3.rows.at (by omega)
  injection eb3 with eb3
  injection eb3 with eb4 eb5 _
  subst eb4 eb5
  obtain ⟨⟨p0, s0⟩, ⟨p1, s1⟩, ⟨p2, s2⟩⟩ := row_three hrow3
  obtain ⟨by_, oy, ey, hEy⟩ := SlOf.at (cs := En.cells) (k := 5) (hc3.each ⟨U0, .slice a0 60 c0⟩ (by simp)).ents (by omega)
  subst ey
  have g0 : w3.cell? ⟨by_, oy + m * 5, none⟩ = some (.int .i64 y.k) := hEy m y HY.out 0 _ rfl
  have g1 : w3.cell? ⟨by_, oy + m * 5 + 1, none⟩ = some (.int .i64 y.j) := hEy m y HY.out 1 _ rfl
  have g2 : w3.cell? ⟨by_, oy + m * 5 + 2, none⟩ = some (.int .i64 y.v) := hEy m y HY.out 2 _ rfl
  have g3 : w3.cell? ⟨by_, oy + m * 5 + 3, none⟩ = some (.int .i64 y.t) := hEy m y HY.out 3 _ rfl
  have g4 : w3.cell? ⟨by_, oy + m * 5 + 4, none⟩ = some (.int .i64 y.c) := hEy m y HY.out 4 _ rfl
  have hyb := heap_lt HE3.out
  have HX4 : Aside _ := heap_old HX3.out (boxE y.k y.j y.v y.t y.c)
  have HR4 : Aside _ := heap_old HR3.out (boxE y.k y.j y.v y.t y.c)
  have HE4 : Aside _ := heap_old HE3.out (boxE y.k y.j y.v y.t y.c)
  have HY4 : Aside _ := heap_new w3 (boxE y.k y.j y.v y.t y.c)
  have HB4 : Aside _ := grew HB3.out (boxE y.k y.j y.v y.t y.c)
  clear hrow3 hEy hc3 HX3 HR3 HE3 HB3 HCH
  go_upto_region 5 with fail
  generalize w3.alloc (boxE y.k y.j y.v y.t y.c) = w4 at *
  generalize w3.heap.size = yb at *
  clear g0 g1 g2 g3 g4 p0 s0 p1 s1 p2 s2
  have zy : ∀ i, w4.cell? ⟨yb, i, none⟩ = #[Value.int .i64 y.k, .int .i64 y.j, .int .i64 y.v, .int .i64 y.t, .int .i64 y.c][i]? := fun i => Joins.cell_of_block HY4.out i
  go_wp2_with fail
  refine (kst _).mono ?_
  rintro e w6 ⟨rfl, hb6⟩
  have HX6 : Aside _ := heap_below HX4.out hb6 (heap_lt HX4.out)
  have HR6 : Aside _ := heap_below HR4.out hb6 (heap_lt HR4.out)
  have HE6 : Aside _ := heap_below HE4.out hb6 (heap_lt HE4.out)
  have HY6 : Aside _ := heap_below HY4.out hb6 (heap_lt HY4.out)
  have HB6 : Aside (Below w.heap.size w w6) := step_below1 HB4.out hb6
  clear hb6 kst zy HX4 HR4 HE4 HY4 HB4
  go_wp2_with fail
  have hz5 : C5 w6 yb y := c5_of HY6.out
  have hgr : yb ≠ w.heap.size + 1 := by omega
  have hge : yb ≠ w.heap.size + 1 + 1 := by omega
  have HRd : Aside (w6.drew.heap[w.heap.size + 1]? = some (boxRc Rc.zero)) := HR6.out
  have HEd : Aside (w6.drew.heap[w.heap.size + 1 + 1]? = some (boxE 0 0 0 0 0)) := HE6.out
  have HBd : Aside (Below w.heap.size w w6.drew) := HB6.out.drew
  clear HX6 HR6 HE6 HY6 HB6
  refine wp_region_held_drew (S := fun w' => C5 w' yb y) (by kernel_rfl) (hz5) (fun hHeld => ?_)
  clear hz5
  generalize w6.drew = X at *
  refine wpAnyH_take (i := 0) (oi := ?oi0) (v := ?v0) ?hi0 ?hs0 ?hf0 ?hr0 ?hQ0 (Or.inl ⟨?hw0, ?hy0⟩) (by assumption) ?h0
  case hi0 => (simp only [List.getElem?_toArray, List.getElem?_cons_succ, List.getElem?_cons_zero]; rfl)
  case hs0 => kernel_rfl
  case hf0 => kernel_rfl
  case hr0 => kernel_rfl
  case hw0 => rfl
  case hy0 => (intro w0 hSw; (try dsimp only at hSw); go_simp; first | done | with_reducible rfl)
  case hQ0 => exact fun _ _ _ h => h
  try simp only [Act.put, List.setIfInBounds_toArray, List.set_cons_zero, List.set_cons_succ]
  refine wpAnyH_take (i := 1) (oi := ?oi1) (v := ?v1) ?hi1 ?hs1 ?hf1 ?hr1 ?hQ1 (Or.inl ⟨?hw1, ?hy1⟩) (by assumption) ?h1
  case hi1 => (simp only [List.getElem?_toArray, List.getElem?_cons_succ, List.getElem?_cons_zero]; rfl)
  case hs1 => kernel_rfl
  case hf1 => kernel_rfl
  case hr1 => kernel_rfl
  case hw1 => rfl
  case hy1 => (intro w0 hSw; (try dsimp only at hSw); go_simp; first | done | with_reducible rfl)
  case hQ1 => exact fun _ _ _ h => h
  try simp only [Act.put, List.setIfInBounds_toArray, List.set_cons_zero, List.set_cons_succ]
  have zr : ∀ i, X.cell? ⟨w.heap.size + 1, i, none⟩ = #[Value.int .i64 0, .int .i64 0, .int .i64 0, .int .i64 0, .int .i64 0, .int .i64 0, .int .i64 0, .int .i64 0][i]? := fun i => Joins.cell_of_block HRd.out i
  have fr : ∀ i, X.frozen? ⟨w.heap.size + 1, i, none⟩ = false := fun i => Joins.unfrozen_of_block HRd.out i
  have ze : ∀ i, X.cell? ⟨w.heap.size + 1 + 1, i, none⟩ = #[Value.int .i64 0, .int .i64 0, .int .i64 0, .int .i64 0, .int .i64 0][i]? := fun i => Joins.cell_of_block HEd.out i
  have fe : ∀ i, X.frozen? ⟨w.heap.size + 1 + 1, i, none⟩ = false := fun i => Joins.unfrozen_of_block HEd.out i
  refine wpAnyH_ready (rs := [2]) (by kernel_rfl) (by simp) ?_
  refine AllReadyH.cons (o := ?o2) ?hi2 ?step2 AllReadyH.nil
  case hi2 => (simp only [List.getElem?_toArray, List.getElem?_cons_succ, List.getElem?_cons_zero]; rfl)
  intro K hK
  go_simp
  refine hK.out _ _ (c5_set (c5_set (c5_set (c5_set (c5_set (c5_set (c5_set (c5_set (hHeld) hgr 0 _) hgr 1 _) hgr 2 _) hgr 3 _) hgr 4 _) hgr 5 _) hgr 6 _) hgr 7 _) (fun hHeld => ?_)
  clear hK K
  try simp only [Act.put, List.setIfInBounds_toArray, List.set_cons_zero, List.set_cons_succ]
  refine wpAnyH_ready (rs := [3]) (by kernel_rfl) (by simp) ?_
  refine AllReadyH.cons (o := ?o3) ?hi3 ?step3 AllReadyH.nil
  case hi3 => (simp only [List.getElem?_toArray, List.getElem?_cons_succ, List.getElem?_cons_zero]; rfl)
  intro K hK
  go_simp
  refine hK.out _ _ (c5_set (c5_set (c5_set (c5_set (c5_set (hHeld) hge 0 _) hge 1 _) hge 2 _) hge 3 _) hge 4 _) (fun hHeld => ?_)
  clear hK K
  try simp only [Act.put, List.setIfInBounds_toArray, List.set_cons_zero, List.set_cons_succ]
  refine wpAnyH_take (i := 4) (oi := ?oi4) (v := ?v4) ?hi4 ?hs4 ?hf4 ?hr4 ?hQ4 (Or.inl ⟨?hw4, ?hy4⟩) (by assumption) ?h4
  case hi4 => (simp only [List.getElem?_toArray, List.getElem?_cons_succ, List.getElem?_cons_zero]; rfl)
  case hs4 => kernel_rfl
  case hf4 => kernel_rfl
  case hr4 => kernel_rfl
  case hw4 => rfl
  case hy4 => (intro w0 hSw; (try dsimp only at hSw); go_simp; first | done | with_reducible rfl)
  case hQ4 => exact fun _ _ _ h => h
  try simp only [Act.put, List.setIfInBounds_toArray, List.set_cons_zero, List.set_cons_succ]
  refine wpAnyH_done (by kernel_rfl) ?_ _
  clear zr fr ze fe
  go_wp2
  have hst := link_stored (w := X) (rb := w.heap.size + 1) (eb := w.heap.size + 1 + 1) HRd.out (f := En.zero) HEd.out (by omega) (Rc.zero) (y) rfl
  exact ret3 (p := 10) (q := 11) (t := 12) (r := Rc.zero) (e := y) Tryz.results105 rfl rfl rfl rfl hst.1 hst.2 ⟨rfl, link_below HBd.out (by omega) (by omega) _ _ _ _ _ _ _ _ _ _ _ _ _⟩
set_option linter.unusedSimpArgs false in
set_option maxHeartbeats 4000000 in
set_option maxRecDepth 100000 in
theorem chLink0_new (b off c m : Nat) (ep : Int) (x : En) (U0 U1 U2 : Un) (a0 a1 a2 : Option Addr) (c0 c1 c2 : Nat) (w : World) (hch : ChAt w (.slice (some ⟨b, off, none⟩) 3 c) [⟨U0, .slice a0 60 c0⟩, ⟨U1, .slice a1 60 c1⟩, ⟨U2, .slice a2 60 c2⟩]) (hm : m < 60) (hd : (linkOf [U0, U1, U2] 0 (m : Int) x ep).2.2 = 0) (y : En) (hy : U0.cells[m]? = some y) (hib : y.isB = true) :
    Calls Tryz.prog 105 #[.slice (some ⟨b, off, none⟩) 3 c, .int .i64 0, .int .i64 (m : Int), x.val, .int .i64 ep] w fun e w' => e = .returned (.tuple #[(((⟨1, (m : Int), 0, x⟩, x, 0) : Rc × En × Int)).1.val, (((⟨1, (m : Int), 0, x⟩, x, 0) : Rc × En × Int)).2.1.val, .int .i64 (((⟨1, (m : Int), 0, x⟩, x, 0) : Rc × En × Int)).2.2]) ∧ Below w.heap.size w w' := by
  have HB0 : Aside (Below w.heap.size w (((w.alloc (boxE x.k x.j x.v x.t x.c)).alloc (boxRc Rc.zero)).alloc (boxE 0 0 0 0 0))) := grew (grew (grew (Below.refl _ _) _) _) _
  have HX0 : Aside ((((w.alloc (boxE x.k x.j x.v x.t x.c)).alloc (boxRc Rc.zero)).alloc (boxE 0 0 0 0 0)).heap[w.heap.size]? = some (boxE x.k x.j x.v x.t x.c)) := heap_old (heap_old (heap_new _ _) _) _
  have HR0 : Aside ((((w.alloc (boxE x.k x.j x.v x.t x.c)).alloc (boxRc Rc.zero)).alloc (boxE 0 0 0 0 0)).heap[w.heap.size + 1]? = some (boxRc Rc.zero)) := by
    have := heap_new (w.alloc (boxE x.k x.j x.v x.t x.c)) (boxRc Rc.zero)
    rw [World.size_alloc] at this
    exact heap_old this _
  have HE0 : Aside ((((w.alloc (boxE x.k x.j x.v x.t x.c)).alloc (boxRc Rc.zero)).alloc (boxE 0 0 0 0 0)).heap[w.heap.size + 1 + 1]? = some (boxE 0 0 0 0 0)) := by
    have := heap_new ((w.alloc (boxE x.k x.j x.v x.t x.c)).alloc (boxRc Rc.zero)) (boxE 0 0 0 0 0)
    rwa [World.size_alloc, World.size_alloc] at this
  have hml := may_any _ _ 0 (m : Int) ep x _ (hch.later HB0.out)
  rw [show (linkOf (unitsOf [⟨U0, .slice a0 60 c0⟩, ⟨U1, .slice a1 60 c1⟩, ⟨U2, .slice a2 60 c2⟩]) 0 (m : Int) x ep).2.2 = 0 from hd] at hml
  have kst := fun W => stands_any y W
  rw [hib, Bool.not_true] at kst
  have HCH : Aside (ChAt w (.slice (some ⟨b, off, none⟩) 3 c) [⟨U0, .slice a0 60 c0⟩, ⟨U1, .slice a1 60 c1⟩, ⟨U2, .slice a2 60 c2⟩]) := hch
  have HY : Hid (U0.cells[m]? = some y) := hy
  have hmi : (m : Int) < 60 := by omega
  have hm0 : (0 : Int) ≤ (m : Int) := by omega
  clear hch hd hy hib
  go_enter Tryz.func105, Tryz.ntmps105
  go_wp2_with fail
  refine hml.mono ?_
  rintro e w3 ⟨rfl, hb3⟩
  have HX3 : Aside _ := heap_below HX0.out hb3 (heap_lt HX0.out)
  have HR3 : Aside _ := heap_below HR0.out hb3 (heap_lt HR0.out)
  have HE3 : Aside _ := heap_below HE0.out hb3 (heap_lt HE0.out)
  have HB3 : Aside (Below w.heap.size w w3) := step_below1 HB0.out hb3
  clear hb3 HX0 HR0 HE0 HB0
  clear hml
  have hc3 := HCH.out.later HB3.out
  obtain ⟨b3, off3, eb3, hrow3⟩ := hc3.rows.at (by omega)
  injection eb3 with eb3
  injection eb3 with eb4 eb5 _
  subst eb4 eb5
  obtain ⟨⟨p0, s0⟩, ⟨p1, s1⟩, ⟨p2, s2⟩⟩ := row_three hrow3
  obtain ⟨by_, oy, ey, hEy⟩ := SlOf.at (cs := En.cells) (k := 5) (hc3.each ⟨U0, .slice a0 60 c0⟩ (by simp)).ents (by omega)
  subst ey
  have g0 : w3.cell? ⟨by_, oy + m * 5, none⟩ = some (.int .i64 y.k) := hEy m y HY.out 0 _ rfl
  have g1 : w3.cell? ⟨by_, oy + m * 5 + 1, none⟩ = some (.int .i64 y.j) := hEy m y HY.out 1 _ rfl
  have g2 : w3.cell? ⟨by_, oy + m * 5 + 2, none⟩ = some (.int .i64 y.v) := hEy m y HY.out 2 _ rfl
  have g3 : w3.cell? ⟨by_, oy + m * 5 + 3, none⟩ = some (.int .i64 y.t) := hEy m y HY.out 3 _ rfl
  have g4 : w3.cell? ⟨by_, oy + m * 5 + 4, none⟩ = some (.int .i64 y.c) := hEy m y HY.out 4 _ rfl
  have hyb := heap_lt HE3.out
  have HX4 : Aside _ := heap_old HX3.out (boxE y.k y.j y.v y.t y.c)
  have HR4 : Aside _ := heap_old HR3.out (boxE y.k y.j y.v y.t y.c)
  have HE4 : Aside _ := heap_old HE3.out (boxE y.k y.j y.v y.t y.c)
  have HY4 : Aside _ := heap_new w3 (boxE y.k y.j y.v y.t y.c)
  have HB4 : Aside _ := grew HB3.out (boxE y.k y.j y.v y.t y.c)
  clear hrow3 hEy hc3 HX3 HR3 HE3 HB3 HCH
  go_upto_region 5 with fail
  generalize w3.alloc (boxE y.k y.j y.v y.t y.c) = w4 at *
  generalize w3.heap.size = yb at *
  clear g0 g1 g2 g3 g4 p0 s0 p1 s1 p2 s2
  have zy : ∀ i, w4.cell? ⟨yb, i, none⟩ = #[Value.int .i64 y.k, .int .i64 y.j, .int .i64 y.v, .int .i64 y.t, .int .i64 y.c][i]? := fun i => Joins.cell_of_block HY4.out i
  go_wp2_with fail
  refine (kst _).mono ?_
  rintro e w6 ⟨rfl, hb6⟩
  have HX6 : Aside _ := heap_below HX4.out hb6 (heap_lt HX4.out)
  have HR6 : Aside _ := heap_below HR4.out hb6 (heap_lt HR4.out)
  have HE6 : Aside _ := heap_below HE4.out hb6 (heap_lt HE4.out)
  have HY6 : Aside _ := heap_below HY4.out hb6 (heap_lt HY4.out)
  have HB6 : Aside (Below w.heap.size w w6) := step_below1 HB4.out hb6
  clear hb6 kst zy HX4 HR4 HE4 HY4 HB4
  go_wp2_with fail
  have hz5 : C5 w6 w.heap.size x := c5_of HX6.out
  have hgr : w.heap.size ≠ w.heap.size + 1 := by omega
  have hge : w.heap.size ≠ w.heap.size + 1 + 1 := by omega
  have HRd : Aside (w6.drew.heap[w.heap.size + 1]? = some (boxRc Rc.zero)) := HR6.out
  have HEd : Aside (w6.drew.heap[w.heap.size + 1 + 1]? = some (boxE 0 0 0 0 0)) := HE6.out
  have HBd : Aside (Below w.heap.size w w6.drew) := HB6.out.drew
  clear HX6 HR6 HE6 HY6 HB6
  refine wp_region_held_drew (S := fun w' => C5 w' w.heap.size x) (by kernel_rfl) (hz5) (fun hHeld => ?_)
  clear hz5
  generalize w6.drew = X at *
  refine wpAnyH_take (i := 0) (oi := ?oi0) (v := ?v0) ?hi0 ?hs0 ?hf0 ?hr0 ?hQ0 (Or.inl ⟨?hw0, ?hy0⟩) (by assumption) ?h0
  case hi0 => (simp only [List.getElem?_toArray, List.getElem?_cons_succ, List.getElem?_cons_zero]; rfl)
  case hs0 => kernel_rfl
  case hf0 => kernel_rfl
  case hr0 => kernel_rfl
  case hw0 => rfl
  case hy0 => (intro w0 hSw; (try dsimp only at hSw); go_simp; first | done | with_reducible rfl)
  case hQ0 => exact fun _ _ _ h => h
  try simp only [Act.put, List.setIfInBounds_toArray, List.set_cons_zero, List.set_cons_succ]
  refine wpAnyH_take (i := 1) (oi := ?oi1) (v := ?v1) ?hi1 ?hs1 ?hf1 ?hr1 ?hQ1 (Or.inl ⟨?hw1, ?hy1⟩) (by assumption) ?h1
  case hi1 => (simp only [List.getElem?_toArray, List.getElem?_cons_succ, List.getElem?_cons_zero]; rfl)
  case hs1 => kernel_rfl
  case hf1 => kernel_rfl
  case hr1 => kernel_rfl
  case hw1 => rfl
  case hy1 => (intro w0 hSw; (try dsimp only at hSw); go_simp; first | done | with_reducible rfl)
  case hQ1 => exact fun _ _ _ h => h
  try simp only [Act.put, List.setIfInBounds_toArray, List.set_cons_zero, List.set_cons_succ]
  refine wpAnyH_take (i := 2) (oi := ?oi2) (v := ?v2) ?hi2 ?hs2 ?hf2 ?hr2 ?hQ2 (Or.inl ⟨?hw2, ?hy2⟩) (by assumption) ?h2
  case hi2 => (simp only [List.getElem?_toArray, List.getElem?_cons_succ, List.getElem?_cons_zero]; rfl)
  case hs2 => kernel_rfl
  case hf2 => kernel_rfl
  case hr2 => kernel_rfl
  case hw2 => rfl
  case hy2 => (intro w0 hSw; (try dsimp only at hSw); go_simp; first | done | with_reducible rfl)
  case hQ2 => exact fun _ _ _ h => h
  try simp only [Act.put, List.setIfInBounds_toArray, List.set_cons_zero, List.set_cons_succ]
  refine wpAnyH_take (i := 3) (oi := ?oi3) (v := ?v3) ?hi3 ?hs3 ?hf3 ?hr3 ?hQ3 (Or.inl ⟨?hw3, ?hy3⟩) (by assumption) ?h3
  case hi3 => (simp only [List.getElem?_toArray, List.getElem?_cons_succ, List.getElem?_cons_zero]; rfl)
  case hs3 => kernel_rfl
  case hf3 => kernel_rfl
  case hr3 => kernel_rfl
  case hw3 => rfl
  case hy3 => (intro w0 hSw; (try dsimp only at hSw); go_simp; first | done | with_reducible rfl)
  case hQ3 => exact fun _ _ _ h => h
  try simp only [Act.put, List.setIfInBounds_toArray, List.set_cons_zero, List.set_cons_succ]
  have zr : ∀ i, X.cell? ⟨w.heap.size + 1, i, none⟩ = #[Value.int .i64 0, .int .i64 0, .int .i64 0, .int .i64 0, .int .i64 0, .int .i64 0, .int .i64 0, .int .i64 0][i]? := fun i => Joins.cell_of_block HRd.out i
  have fr : ∀ i, X.frozen? ⟨w.heap.size + 1, i, none⟩ = false := fun i => Joins.unfrozen_of_block HRd.out i
  have ze : ∀ i, X.cell? ⟨w.heap.size + 1 + 1, i, none⟩ = #[Value.int .i64 0, .int .i64 0, .int .i64 0, .int .i64 0, .int .i64 0][i]? := fun i => Joins.cell_of_block HEd.out i
  have fe : ∀ i, X.frozen? ⟨w.heap.size + 1 + 1, i, none⟩ = false := fun i => Joins.unfrozen_of_block HEd.out i
  refine wpAnyH_ready (rs := [4]) (by kernel_rfl) (by simp) ?_
  refine AllReadyH.cons (o := ?o4) ?hi4 ?step4 AllReadyH.nil
  case hi4 => (simp only [List.getElem?_toArray, List.getElem?_cons_succ, List.getElem?_cons_zero]; rfl)
  intro K hK
  go_simp
  refine hK.out _ _ (c5_set (c5_set (c5_set (c5_set (c5_set (c5_set (c5_set (c5_set (hHeld) hgr 0 _) hgr 1 _) hgr 2 _) hgr 3 _) hgr 4 _) hgr 5 _) hgr 6 _) hgr 7 _) (fun hHeld => ?_)
  clear hK K
  try simp only [Act.put, List.setIfInBounds_toArray, List.set_cons_zero, List.set_cons_succ]
  refine wpAnyH_ready (rs := [5]) (by kernel_rfl) (by simp) ?_
  refine AllReadyH.cons (o := ?o5) ?hi5 ?step5 AllReadyH.nil
  case hi5 => (simp only [List.getElem?_toArray, List.getElem?_cons_succ, List.getElem?_cons_zero]; rfl)
  intro K hK
  go_simp
  refine hK.out _ _ (c5_set (c5_set (c5_set (c5_set (c5_set (hHeld) hge 0 _) hge 1 _) hge 2 _) hge 3 _) hge 4 _) (fun hHeld => ?_)
  clear hK K
  try simp only [Act.put, List.setIfInBounds_toArray, List.set_cons_zero, List.set_cons_succ]
  refine wpAnyH_take (i := 6) (oi := ?oi6) (v := ?v6) ?hi6 ?hs6 ?hf6 ?hr6 ?hQ6 (Or.inl ⟨?hw6, ?hy6⟩) (by assumption) ?h6
  case hi6 => (simp only [List.getElem?_toArray, List.getElem?_cons_succ, List.getElem?_cons_zero]; rfl)
  case hs6 => kernel_rfl
  case hf6 => kernel_rfl
  case hr6 => kernel_rfl
  case hw6 => rfl
  case hy6 => (intro w0 hSw; (try dsimp only at hSw); go_simp; first | done | with_reducible rfl)
  case hQ6 => exact fun _ _ _ h => h
  try simp only [Act.put, List.setIfInBounds_toArray, List.set_cons_zero, List.set_cons_succ]
  refine wpAnyH_done (by kernel_rfl) ?_ _
  clear zr fr ze fe
  go_wp2
  have hst := link_stored (w := X) (rb := w.heap.size + 1) (eb := w.heap.size + 1 + 1) HRd.out (f := En.zero) HEd.out (by omega) (⟨1, (m : Int), 0, x⟩) (x) rfl
  exact ret3 (p := 10) (q := 11) (t := 12) (r := ⟨1, (m : Int), 0, x⟩) (e := x) Tryz.results105 rfl rfl rfl rfl hst.1 hst.2 ⟨rfl, link_below HBd.out (by omega) (by omega) _ _ _ _ _ _ _ _ _ _ _ _ _⟩
set_option linter.unusedSimpArgs false in
set_option maxHeartbeats 4000000 in
set_option maxRecDepth 100000 in
theorem chLink1_stands (b off c m : Nat) (ep : Int) (x : En) (U0 U1 U2 : Un) (a0 a1 a2 : Option Addr) (c0 c1 c2 : Nat) (w : World) (hch : ChAt w (.slice (some ⟨b, off, none⟩) 3 c) [⟨U0, .slice a0 60 c0⟩, ⟨U1, .slice a1 60 c1⟩, ⟨U2, .slice a2 60 c2⟩]) (hm : m < 60) (hd : (linkOf [U0, U1, U2] 1 (m : Int) x ep).2.2 = 0) (y : En) (hy : U1.cells[m]? = some y) (hib : y.isB = false) :
    Calls Tryz.prog 105 #[.slice (some ⟨b, off, none⟩) 3 c, .int .i64 1, .int .i64 (m : Int), x.val, .int .i64 ep] w fun e w' => e = .returned (.tuple #[(((Rc.zero, y, 0) : Rc × En × Int)).1.val, (((Rc.zero, y, 0) : Rc × En × Int)).2.1.val, .int .i64 (((Rc.zero, y, 0) : Rc × En × Int)).2.2]) ∧ Below w.heap.size w w' := by
  have HB0 : Aside (Below w.heap.size w (((w.alloc (boxE x.k x.j x.v x.t x.c)).alloc (boxRc Rc.zero)).alloc (boxE 0 0 0 0 0))) := grew (grew (grew (Below.refl _ _) _) _) _
  have HX0 : Aside ((((w.alloc (boxE x.k x.j x.v x.t x.c)).alloc (boxRc Rc.zero)).alloc (boxE 0 0 0 0 0)).heap[w.heap.size]? = some (boxE x.k x.j x.v x.t x.c)) := heap_old (heap_old (heap_new _ _) _) _
  have HR0 : Aside ((((w.alloc (boxE x.k x.j x.v x.t x.c)).alloc (boxRc Rc.zero)).alloc (boxE 0 0 0 0 0)).heap[w.heap.size + 1]? = some (boxRc Rc.zero)) := by
    have := heap_new (w.alloc (boxE x.k x.j x.v x.t x.c)) (boxRc Rc.zero)
    rw [World.size_alloc] at this
    exact heap_old this _
  have HE0 : Aside ((((w.alloc (boxE x.k x.j x.v x.t x.c)).alloc (boxRc Rc.zero)).alloc (boxE 0 0 0 0 0)).heap[w.heap.size + 1 + 1]? = some (boxE 0 0 0 0 0)) := by
    have := heap_new ((w.alloc (boxE x.k x.j x.v x.t x.c)).alloc (boxRc Rc.zero)) (boxE 0 0 0 0 0)
    rwa [World.size_alloc, World.size_alloc] at this
  have hml := may_any _ _ 1 (m : Int) ep x _ (hch.later HB0.out)
  rw [show (linkOf (unitsOf [⟨U0, .slice a0 60 c0⟩, ⟨U1, .slice a1 60 c1⟩, ⟨U2, .slice a2 60 c2⟩]) 1 (m : Int) x ep).2.2 = 0 from hd] at hml
  have kst := fun W => stands_any y W
  rw [hib, Bool.not_false] at kst
  have HCH : Aside (ChAt w (.slice (some ⟨b, off, none⟩) 3 c) [⟨U0, .slice a0 60 c0⟩, ⟨U1, .slice a1 60 c1⟩, ⟨U2, .slice a2 60 c2⟩]) := hch
  have HY : Hid (U1.cells[m]? = some y) := hy
  have hmi : (m : Int) < 60 := by omega
  have hm0 : (0 : Int) ≤ (m : Int) := by omega
  clear hch hd hy hib
  go_enter Tryz.func105, Tryz.ntmps105
  go_wp2_with fail
  refine hml.mono ?_
  rintro e w3 ⟨rfl, hb3⟩
  have HX3 : Aside _ := heap_below HX0.out hb3 (heap_lt HX0.out)
  have HR3 : Aside _ := heap_below HR0.out hb3 (heap_lt HR0.out)
  have HE3 : Aside _ := heap_below HE0.out hb3 (heap_lt HE0.out)
  have HB3 : Aside (Below w.heap.size w w3) := step_below1 HB0.out hb3
  clear hb3 HX0 HR0 HE0 HB0
  clear hml
  have hc3 := HCH.out.later HB3.out
  obtain ⟨b3, off3, eb3, hrow3⟩ := hc3.rows.at (by omega)
  injection eb3 with eb3
  injection eb3 with eb4 eb5 _
  subst eb4 eb5
  obtain ⟨⟨p0, s0⟩, ⟨p1, s1⟩, ⟨p2, s2⟩⟩ := row_three hrow3
  obtain ⟨by_, oy, ey, hEy⟩ := SlOf.at (cs := En.cells) (k := 5) (hc3.each ⟨U1, .slice a1 60 c1⟩ (by simp)).ents (by omega)
  subst ey
  have g0 : w3.cell? ⟨by_, oy + m * 5, none⟩ = some (.int .i64 y.k) := hEy m y HY.out 0 _ rfl
  have g1 : w3.cell? ⟨by_, oy + m * 5 + 1, none⟩ = some (.int .i64 y.j) := hEy m y HY.out 1 _ rfl
  have g2 : w3.cell? ⟨by_, oy + m * 5 + 2, none⟩ = some (.int .i64 y.v) := hEy m y HY.out 2 _ rfl
  have g3 : w3.cell? ⟨by_, oy + m * 5 + 3, none⟩ = some (.int .i64 y.t) := hEy m y HY.out 3 _ rfl
  have g4 : w3.cell? ⟨by_, oy + m * 5 + 4, none⟩ = some (.int .i64 y.c) := hEy m y HY.out 4 _ rfl
  have hyb := heap_lt HE3.out
  have HX4 : Aside _ := heap_old HX3.out (boxE y.k y.j y.v y.t y.c)
  have HR4 : Aside _ := heap_old HR3.out (boxE y.k y.j y.v y.t y.c)
  have HE4 : Aside _ := heap_old HE3.out (boxE y.k y.j y.v y.t y.c)
  have HY4 : Aside _ := heap_new w3 (boxE y.k y.j y.v y.t y.c)
  have HB4 : Aside _ := grew HB3.out (boxE y.k y.j y.v y.t y.c)
  clear hrow3 hEy hc3 HX3 HR3 HE3 HB3 HCH
  go_upto_region 5 with fail
  generalize w3.alloc (boxE y.k y.j y.v y.t y.c) = w4 at *
  generalize w3.heap.size = yb at *
  clear g0 g1 g2 g3 g4 p0 s0 p1 s1 p2 s2
  have zy : ∀ i, w4.cell? ⟨yb, i, none⟩ = #[Value.int .i64 y.k, .int .i64 y.j, .int .i64 y.v, .int .i64 y.t, .int .i64 y.c][i]? := fun i => Joins.cell_of_block HY4.out i
  go_wp2_with fail
  refine (kst _).mono ?_
  rintro e w6 ⟨rfl, hb6⟩
  have HX6 : Aside _ := heap_below HX4.out hb6 (heap_lt HX4.out)
  have HR6 : Aside _ := heap_below HR4.out hb6 (heap_lt HR4.out)
  have HE6 : Aside _ := heap_below HE4.out hb6 (heap_lt HE4.out)
  have HY6 : Aside _ := heap_below HY4.out hb6 (heap_lt HY4.out)
  have HB6 : Aside (Below w.heap.size w w6) := step_below1 HB4.out hb6
  clear hb6 kst zy HX4 HR4 HE4 HY4 HB4
  go_wp2_with fail
  have hz5 : C5 w6 yb y := c5_of HY6.out
  have hgr : yb ≠ w.heap.size + 1 := by omega
  have hge : yb ≠ w.heap.size + 1 + 1 := by omega
  have HRd : Aside (w6.drew.heap[w.heap.size + 1]? = some (boxRc Rc.zero)) := HR6.out
  have HEd : Aside (w6.drew.heap[w.heap.size + 1 + 1]? = some (boxE 0 0 0 0 0)) := HE6.out
  have HBd : Aside (Below w.heap.size w w6.drew) := HB6.out.drew
  clear HX6 HR6 HE6 HY6 HB6
  refine wp_region_held_drew (S := fun w' => C5 w' yb y) (by kernel_rfl) (hz5) (fun hHeld => ?_)
  clear hz5
  generalize w6.drew = X at *
  refine wpAnyH_take (i := 0) (oi := ?oi0) (v := ?v0) ?hi0 ?hs0 ?hf0 ?hr0 ?hQ0 (Or.inl ⟨?hw0, ?hy0⟩) (by assumption) ?h0
  case hi0 => (simp only [List.getElem?_toArray, List.getElem?_cons_succ, List.getElem?_cons_zero]; rfl)
  case hs0 => kernel_rfl
  case hf0 => kernel_rfl
  case hr0 => kernel_rfl
  case hw0 => rfl
  case hy0 => (intro w0 hSw; (try dsimp only at hSw); go_simp; first | done | with_reducible rfl)
  case hQ0 => exact fun _ _ _ h => h
  try simp only [Act.put, List.setIfInBounds_toArray, List.set_cons_zero, List.set_cons_succ]
  refine wpAnyH_take (i := 1) (oi := ?oi1) (v := ?v1) ?hi1 ?hs1 ?hf1 ?hr1 ?hQ1 (Or.inl ⟨?hw1, ?hy1⟩) (by assumption) ?h1
  case hi1 => (simp only [List.getElem?_toArray, List.getElem?_cons_succ, List.getElem?_cons_zero]; rfl)
  case hs1 => kernel_rfl
  case hf1 => kernel_rfl
  case hr1 => kernel_rfl
  case hw1 => rfl
  case hy1 => (intro w0 hSw; (try dsimp only at hSw); go_simp; first | done | with_reducible rfl)
  case hQ1 => exact fun _ _ _ h => h
  try simp only [Act.put, List.setIfInBounds_toArray, List.set_cons_zero, List.set_cons_succ]
  have zr : ∀ i, X.cell? ⟨w.heap.size + 1, i, none⟩ = #[Value.int .i64 0, .int .i64 0, .int .i64 0, .int .i64 0, .int .i64 0, .int .i64 0, .int .i64 0, .int .i64 0][i]? := fun i => Joins.cell_of_block HRd.out i
  have fr : ∀ i, X.frozen? ⟨w.heap.size + 1, i, none⟩ = false := fun i => Joins.unfrozen_of_block HRd.out i
  have ze : ∀ i, X.cell? ⟨w.heap.size + 1 + 1, i, none⟩ = #[Value.int .i64 0, .int .i64 0, .int .i64 0, .int .i64 0, .int .i64 0][i]? := fun i => Joins.cell_of_block HEd.out i
  have fe : ∀ i, X.frozen? ⟨w.heap.size + 1 + 1, i, none⟩ = false := fun i => Joins.unfrozen_of_block HEd.out i
  refine wpAnyH_ready (rs := [2]) (by kernel_rfl) (by simp) ?_
  refine AllReadyH.cons (o := ?o2) ?hi2 ?step2 AllReadyH.nil
  case hi2 => (simp only [List.getElem?_toArray, List.getElem?_cons_succ, List.getElem?_cons_zero]; rfl)
  intro K hK
  go_simp
  refine hK.out _ _ (c5_set (c5_set (c5_set (c5_set (c5_set (c5_set (c5_set (c5_set (hHeld) hgr 0 _) hgr 1 _) hgr 2 _) hgr 3 _) hgr 4 _) hgr 5 _) hgr 6 _) hgr 7 _) (fun hHeld => ?_)
  clear hK K
  try simp only [Act.put, List.setIfInBounds_toArray, List.set_cons_zero, List.set_cons_succ]
  refine wpAnyH_ready (rs := [3]) (by kernel_rfl) (by simp) ?_
  refine AllReadyH.cons (o := ?o3) ?hi3 ?step3 AllReadyH.nil
  case hi3 => (simp only [List.getElem?_toArray, List.getElem?_cons_succ, List.getElem?_cons_zero]; rfl)
  intro K hK
  go_simp
  refine hK.out _ _ (c5_set (c5_set (c5_set (c5_set (c5_set (hHeld) hge 0 _) hge 1 _) hge 2 _) hge 3 _) hge 4 _) (fun hHeld => ?_)
  clear hK K
  try simp only [Act.put, List.setIfInBounds_toArray, List.set_cons_zero, List.set_cons_succ]
  refine wpAnyH_take (i := 4) (oi := ?oi4) (v := ?v4) ?hi4 ?hs4 ?hf4 ?hr4 ?hQ4 (Or.inl ⟨?hw4, ?hy4⟩) (by assumption) ?h4
  case hi4 => (simp only [List.getElem?_toArray, List.getElem?_cons_succ, List.getElem?_cons_zero]; rfl)
  case hs4 => kernel_rfl
  case hf4 => kernel_rfl
  case hr4 => kernel_rfl
  case hw4 => rfl
  case hy4 => (intro w0 hSw; (try dsimp only at hSw); go_simp; first | done | with_reducible rfl)
  case hQ4 => exact fun _ _ _ h => h
  try simp only [Act.put, List.setIfInBounds_toArray, List.set_cons_zero, List.set_cons_succ]
  refine wpAnyH_done (by kernel_rfl) ?_ _
  clear zr fr ze fe
  go_wp2
  have hst := link_stored (w := X) (rb := w.heap.size + 1) (eb := w.heap.size + 1 + 1) HRd.out (f := En.zero) HEd.out (by omega) (Rc.zero) (y) rfl
  exact ret3 (p := 10) (q := 11) (t := 12) (r := Rc.zero) (e := y) Tryz.results105 rfl rfl rfl rfl hst.1 hst.2 ⟨rfl, link_below HBd.out (by omega) (by omega) _ _ _ _ _ _ _ _ _ _ _ _ _⟩
set_option linter.unusedSimpArgs false in
set_option maxHeartbeats 4000000 in
set_option maxRecDepth 100000 in
theorem chLink1_new (b off c m : Nat) (ep : Int) (x : En) (U0 U1 U2 : Un) (a0 a1 a2 : Option Addr) (c0 c1 c2 : Nat) (w : World) (hch : ChAt w (.slice (some ⟨b, off, none⟩) 3 c) [⟨U0, .slice a0 60 c0⟩, ⟨U1, .slice a1 60 c1⟩, ⟨U2, .slice a2 60 c2⟩]) (hm : m < 60) (hd : (linkOf [U0, U1, U2] 1 (m : Int) x ep).2.2 = 0) (y : En) (hy : U1.cells[m]? = some y) (hib : y.isB = true) :
    Calls Tryz.prog 105 #[.slice (some ⟨b, off, none⟩) 3 c, .int .i64 1, .int .i64 (m : Int), x.val, .int .i64 ep] w fun e w' => e = .returned (.tuple #[(((⟨1, (m : Int), 0, x⟩, x, 0) : Rc × En × Int)).1.val, (((⟨1, (m : Int), 0, x⟩, x, 0) : Rc × En × Int)).2.1.val, .int .i64 (((⟨1, (m : Int), 0, x⟩, x, 0) : Rc × En × Int)).2.2]) ∧ Below w.heap.size w w' := by
  have HB0 : Aside (Below w.heap.size w (((w.alloc (boxE x.k x.j x.v x.t x.c)).alloc (boxRc Rc.zero)).alloc (boxE 0 0 0 0 0))) := grew (grew (grew (Below.refl _ _) _) _) _
  have HX0 : Aside ((((w.alloc (boxE x.k x.j x.v x.t x.c)).alloc (boxRc Rc.zero)).alloc (boxE 0 0 0 0 0)).heap[w.heap.size]? = some (boxE x.k x.j x.v x.t x.c)) := heap_old (heap_old (heap_new _ _) _) _
  have HR0 : Aside ((((w.alloc (boxE x.k x.j x.v x.t x.c)).alloc (boxRc Rc.zero)).alloc (boxE 0 0 0 0 0)).heap[w.heap.size + 1]? = some (boxRc Rc.zero)) := by
    have := heap_new (w.alloc (boxE x.k x.j x.v x.t x.c)) (boxRc Rc.zero)
    rw [World.size_alloc] at this
    exact heap_old this _
  have HE0 : Aside ((((w.alloc (boxE x.k x.j x.v x.t x.c)).alloc (boxRc Rc.zero)).alloc (boxE 0 0 0 0 0)).heap[w.heap.size + 1 + 1]? = some (boxE 0 0 0 0 0)) := by
    have := heap_new ((w.alloc (boxE x.k x.j x.v x.t x.c)).alloc (boxRc Rc.zero)) (boxE 0 0 0 0 0)
    rwa [World.size_alloc, World.size_alloc] at this
  have hml := may_any _ _ 1 (m : Int) ep x _ (hch.later HB0.out)
  rw [show (linkOf (unitsOf [⟨U0, .slice a0 60 c0⟩, ⟨U1, .slice a1 60 c1⟩, ⟨U2, .slice a2 60 c2⟩]) 1 (m : Int) x ep).2.2 = 0 from hd] at hml
  have kst := fun W => stands_any y W
  rw [hib, Bool.not_true] at kst
  have HCH : Aside (ChAt w (.slice (some ⟨b, off, none⟩) 3 c) [⟨U0, .slice a0 60 c0⟩, ⟨U1, .slice a1 60 c1⟩, ⟨U2, .slice a2 60 c2⟩]) := hch
  have HY : Hid (U1.cells[m]? = some y) := hy
  have hmi : (m : Int) < 60 := by omega
  have hm0 : (0 : Int) ≤ (m : Int) := by omega
  clear hch hd hy hib
  go_enter Tryz.func105, Tryz.ntmps105
  go_wp2_with fail
  refine hml.mono ?_
  rintro e w3 ⟨rfl, hb3⟩
  have HX3 : Aside _ := heap_below HX0.out hb3 (heap_lt HX0.out)
  have HR3 : Aside _ := heap_below HR0.out hb3 (heap_lt HR0.out)
  have HE3 : Aside _ := heap_below HE0.out hb3 (heap_lt HE0.out)
  have HB3 : Aside (Below w.heap.size w w3) := step_below1 HB0.out hb3
  clear hb3 HX0 HR0 HE0 HB0
  clear hml
  have hc3 := HCH.out.later HB3.out
  obtain ⟨b3, off3, eb3, hrow3⟩ := hc3.rows.at (by omega)
  injection eb3 with eb3
  injection eb3 with eb4 eb5 _
  subst eb4 eb5
  obtain ⟨⟨p0, s0⟩, ⟨p1, s1⟩, ⟨p2, s2⟩⟩ := row_three hrow3
  obtain ⟨by_, oy, ey, hEy⟩ := SlOf.at (cs := En.cells) (k := 5) (hc3.each ⟨U1, .slice a1 60 c1⟩ (by simp)).ents (by omega)
  subst ey
  have g0 : w3.cell? ⟨by_, oy + m * 5, none⟩ = some (.int .i64 y.k) := hEy m y HY.out 0 _ rfl
  have g1 : w3.cell? ⟨by_, oy + m * 5 + 1, none⟩ = some (.int .i64 y.j) := hEy m y HY.out 1 _ rfl
  have g2 : w3.cell? ⟨by_, oy + m * 5 + 2, none⟩ = some (.int .i64 y.v) := hEy m y HY.out 2 _ rfl
  have g3 : w3.cell? ⟨by_, oy + m * 5 + 3, none⟩ = some (.int .i64 y.t) := hEy m y HY.out 3 _ rfl
  have g4 : w3.cell? ⟨by_, oy + m * 5 + 4, none⟩ = some (.int .i64 y.c) := hEy m y HY.out 4 _ rfl
  have hyb := heap_lt HE3.out
  have HX4 : Aside _ := heap_old HX3.out (boxE y.k y.j y.v y.t y.c)
  have HR4 : Aside _ := heap_old HR3.out (boxE y.k y.j y.v y.t y.c)
  have HE4 : Aside _ := heap_old HE3.out (boxE y.k y.j y.v y.t y.c)
  have HY4 : Aside _ := heap_new w3 (boxE y.k y.j y.v y.t y.c)
  have HB4 : Aside _ := grew HB3.out (boxE y.k y.j y.v y.t y.c)
  clear hrow3 hEy hc3 HX3 HR3 HE3 HB3 HCH
  go_upto_region 5 with fail
  generalize w3.alloc (boxE y.k y.j y.v y.t y.c) = w4 at *
  generalize w3.heap.size = yb at *
  clear g0 g1 g2 g3 g4 p0 s0 p1 s1 p2 s2
  have zy : ∀ i, w4.cell? ⟨yb, i, none⟩ = #[Value.int .i64 y.k, .int .i64 y.j, .int .i64 y.v, .int .i64 y.t, .int .i64 y.c][i]? := fun i => Joins.cell_of_block HY4.out i
  go_wp2_with fail
  refine (kst _).mono ?_
  rintro e w6 ⟨rfl, hb6⟩
  have HX6 : Aside _ := heap_below HX4.out hb6 (heap_lt HX4.out)
  have HR6 : Aside _ := heap_below HR4.out hb6 (heap_lt HR4.out)
  have HE6 : Aside _ := heap_below HE4.out hb6 (heap_lt HE4.out)
  have HY6 : Aside _ := heap_below HY4.out hb6 (heap_lt HY4.out)
  have HB6 : Aside (Below w.heap.size w w6) := step_below1 HB4.out hb6
  clear hb6 kst zy HX4 HR4 HE4 HY4 HB4
  go_wp2_with fail
  have hz5 : C5 w6 w.heap.size x := c5_of HX6.out
  have hgr : w.heap.size ≠ w.heap.size + 1 := by omega
  have hge : w.heap.size ≠ w.heap.size + 1 + 1 := by omega
  have HRd : Aside (w6.drew.heap[w.heap.size + 1]? = some (boxRc Rc.zero)) := HR6.out
  have HEd : Aside (w6.drew.heap[w.heap.size + 1 + 1]? = some (boxE 0 0 0 0 0)) := HE6.out
  have HBd : Aside (Below w.heap.size w w6.drew) := HB6.out.drew
  clear HX6 HR6 HE6 HY6 HB6
  refine wp_region_held_drew (S := fun w' => C5 w' w.heap.size x) (by kernel_rfl) (hz5) (fun hHeld => ?_)
  clear hz5
  generalize w6.drew = X at *
  refine wpAnyH_take (i := 0) (oi := ?oi0) (v := ?v0) ?hi0 ?hs0 ?hf0 ?hr0 ?hQ0 (Or.inl ⟨?hw0, ?hy0⟩) (by assumption) ?h0
  case hi0 => (simp only [List.getElem?_toArray, List.getElem?_cons_succ, List.getElem?_cons_zero]; rfl)
  case hs0 => kernel_rfl
  case hf0 => kernel_rfl
  case hr0 => kernel_rfl
  case hw0 => rfl
  case hy0 => (intro w0 hSw; (try dsimp only at hSw); go_simp; first | done | with_reducible rfl)
  case hQ0 => exact fun _ _ _ h => h
  try simp only [Act.put, List.setIfInBounds_toArray, List.set_cons_zero, List.set_cons_succ]
  refine wpAnyH_take (i := 1) (oi := ?oi1) (v := ?v1) ?hi1 ?hs1 ?hf1 ?hr1 ?hQ1 (Or.inl ⟨?hw1, ?hy1⟩) (by assumption) ?h1
  case hi1 => (simp only [List.getElem?_toArray, List.getElem?_cons_succ, List.getElem?_cons_zero]; rfl)
  case hs1 => kernel_rfl
  case hf1 => kernel_rfl
  case hr1 => kernel_rfl
  case hw1 => rfl
  case hy1 => (intro w0 hSw; (try dsimp only at hSw); go_simp; first | done | with_reducible rfl)
  case hQ1 => exact fun _ _ _ h => h
  try simp only [Act.put, List.setIfInBounds_toArray, List.set_cons_zero, List.set_cons_succ]
  refine wpAnyH_take (i := 2) (oi := ?oi2) (v := ?v2) ?hi2 ?hs2 ?hf2 ?hr2 ?hQ2 (Or.inl ⟨?hw2, ?hy2⟩) (by assumption) ?h2
  case hi2 => (simp only [List.getElem?_toArray, List.getElem?_cons_succ, List.getElem?_cons_zero]; rfl)
  case hs2 => kernel_rfl
  case hf2 => kernel_rfl
  case hr2 => kernel_rfl
  case hw2 => rfl
  case hy2 => (intro w0 hSw; (try dsimp only at hSw); go_simp; first | done | with_reducible rfl)
  case hQ2 => exact fun _ _ _ h => h
  try simp only [Act.put, List.setIfInBounds_toArray, List.set_cons_zero, List.set_cons_succ]
  refine wpAnyH_take (i := 3) (oi := ?oi3) (v := ?v3) ?hi3 ?hs3 ?hf3 ?hr3 ?hQ3 (Or.inl ⟨?hw3, ?hy3⟩) (by assumption) ?h3
  case hi3 => (simp only [List.getElem?_toArray, List.getElem?_cons_succ, List.getElem?_cons_zero]; rfl)
  case hs3 => kernel_rfl
  case hf3 => kernel_rfl
  case hr3 => kernel_rfl
  case hw3 => rfl
  case hy3 => (intro w0 hSw; (try dsimp only at hSw); go_simp; first | done | with_reducible rfl)
  case hQ3 => exact fun _ _ _ h => h
  try simp only [Act.put, List.setIfInBounds_toArray, List.set_cons_zero, List.set_cons_succ]
  have zr : ∀ i, X.cell? ⟨w.heap.size + 1, i, none⟩ = #[Value.int .i64 0, .int .i64 0, .int .i64 0, .int .i64 0, .int .i64 0, .int .i64 0, .int .i64 0, .int .i64 0][i]? := fun i => Joins.cell_of_block HRd.out i
  have fr : ∀ i, X.frozen? ⟨w.heap.size + 1, i, none⟩ = false := fun i => Joins.unfrozen_of_block HRd.out i
  have ze : ∀ i, X.cell? ⟨w.heap.size + 1 + 1, i, none⟩ = #[Value.int .i64 0, .int .i64 0, .int .i64 0, .int .i64 0, .int .i64 0][i]? := fun i => Joins.cell_of_block HEd.out i
  have fe : ∀ i, X.frozen? ⟨w.heap.size + 1 + 1, i, none⟩ = false := fun i => Joins.unfrozen_of_block HEd.out i
  refine wpAnyH_ready (rs := [4]) (by kernel_rfl) (by simp) ?_
  refine AllReadyH.cons (o := ?o4) ?hi4 ?step4 AllReadyH.nil
  case hi4 => (simp only [List.getElem?_toArray, List.getElem?_cons_succ, List.getElem?_cons_zero]; rfl)
  intro K hK
  go_simp
  refine hK.out _ _ (c5_set (c5_set (c5_set (c5_set (c5_set (c5_set (c5_set (c5_set (hHeld) hgr 0 _) hgr 1 _) hgr 2 _) hgr 3 _) hgr 4 _) hgr 5 _) hgr 6 _) hgr 7 _) (fun hHeld => ?_)
  clear hK K
  try simp only [Act.put, List.setIfInBounds_toArray, List.set_cons_zero, List.set_cons_succ]
  refine wpAnyH_ready (rs := [5]) (by kernel_rfl) (by simp) ?_
  refine AllReadyH.cons (o := ?o5) ?hi5 ?step5 AllReadyH.nil
  case hi5 => (simp only [List.getElem?_toArray, List.getElem?_cons_succ, List.getElem?_cons_zero]; rfl)
  intro K hK
  go_simp
  refine hK.out _ _ (c5_set (c5_set (c5_set (c5_set (c5_set (hHeld) hge 0 _) hge 1 _) hge 2 _) hge 3 _) hge 4 _) (fun hHeld => ?_)
  clear hK K
  try simp only [Act.put, List.setIfInBounds_toArray, List.set_cons_zero, List.set_cons_succ]
  refine wpAnyH_take (i := 6) (oi := ?oi6) (v := ?v6) ?hi6 ?hs6 ?hf6 ?hr6 ?hQ6 (Or.inl ⟨?hw6, ?hy6⟩) (by assumption) ?h6
  case hi6 => (simp only [List.getElem?_toArray, List.getElem?_cons_succ, List.getElem?_cons_zero]; rfl)
  case hs6 => kernel_rfl
  case hf6 => kernel_rfl
  case hr6 => kernel_rfl
  case hw6 => rfl
  case hy6 => (intro w0 hSw; (try dsimp only at hSw); go_simp; first | done | with_reducible rfl)
  case hQ6 => exact fun _ _ _ h => h
  try simp only [Act.put, List.setIfInBounds_toArray, List.set_cons_zero, List.set_cons_succ]
  refine wpAnyH_done (by kernel_rfl) ?_ _
  clear zr fr ze fe
  go_wp2
  have hst := link_stored (w := X) (rb := w.heap.size + 1) (eb := w.heap.size + 1 + 1) HRd.out (f := En.zero) HEd.out (by omega) (⟨1, (m : Int), 0, x⟩) (x) rfl
  exact ret3 (p := 10) (q := 11) (t := 12) (r := ⟨1, (m : Int), 0, x⟩) (e := x) Tryz.results105 rfl rfl rfl rfl hst.1 hst.2 ⟨rfl, link_below HBd.out (by omega) (by omega) _ _ _ _ _ _ _ _ _ _ _ _ _⟩
set_option linter.unusedSimpArgs false in
set_option maxHeartbeats 4000000 in
set_option maxRecDepth 100000 in
theorem chLink2_stands (b off c m : Nat) (ep : Int) (x : En) (U0 U1 U2 : Un) (a0 a1 a2 : Option Addr) (c0 c1 c2 : Nat) (w : World) (hch : ChAt w (.slice (some ⟨b, off, none⟩) 3 c) [⟨U0, .slice a0 60 c0⟩, ⟨U1, .slice a1 60 c1⟩, ⟨U2, .slice a2 60 c2⟩]) (hm : m < 60) (hd : (linkOf [U0, U1, U2] 2 (m : Int) x ep).2.2 = 0) (y : En) (hy : U2.cells[m]? = some y) (hib : y.isB = false) :
    Calls Tryz.prog 105 #[.slice (some ⟨b, off, none⟩) 3 c, .int .i64 2, .int .i64 (m : Int), x.val, .int .i64 ep] w fun e w' => e = .returned (.tuple #[(((Rc.zero, y, 0) : Rc × En × Int)).1.val, (((Rc.zero, y, 0) : Rc × En × Int)).2.1.val, .int .i64 (((Rc.zero, y, 0) : Rc × En × Int)).2.2]) ∧ Below w.heap.size w w' := by
  have HB0 : Aside (Below w.heap.size w (((w.alloc (boxE x.k x.j x.v x.t x.c)).alloc (boxRc Rc.zero)).alloc (boxE 0 0 0 0 0))) := grew (grew (grew (Below.refl _ _) _) _) _
  have HX0 : Aside ((((w.alloc (boxE x.k x.j x.v x.t x.c)).alloc (boxRc Rc.zero)).alloc (boxE 0 0 0 0 0)).heap[w.heap.size]? = some (boxE x.k x.j x.v x.t x.c)) := heap_old (heap_old (heap_new _ _) _) _
  have HR0 : Aside ((((w.alloc (boxE x.k x.j x.v x.t x.c)).alloc (boxRc Rc.zero)).alloc (boxE 0 0 0 0 0)).heap[w.heap.size + 1]? = some (boxRc Rc.zero)) := by
    have := heap_new (w.alloc (boxE x.k x.j x.v x.t x.c)) (boxRc Rc.zero)
    rw [World.size_alloc] at this
    exact heap_old this _
  have HE0 : Aside ((((w.alloc (boxE x.k x.j x.v x.t x.c)).alloc (boxRc Rc.zero)).alloc (boxE 0 0 0 0 0)).heap[w.heap.size + 1 + 1]? = some (boxE 0 0 0 0 0)) := by
    have := heap_new ((w.alloc (boxE x.k x.j x.v x.t x.c)).alloc (boxRc Rc.zero)) (boxE 0 0 0 0 0)
    rwa [World.size_alloc, World.size_alloc] at this
  have hml := may_any _ _ 2 (m : Int) ep x _ (hch.later HB0.out)
  rw [show (linkOf (unitsOf [⟨U0, .slice a0 60 c0⟩, ⟨U1, .slice a1 60 c1⟩, ⟨U2, .slice a2 60 c2⟩]) 2 (m : Int) x ep).2.2 = 0 from hd] at hml
  have kst := fun W => stands_any y W
  rw [hib, Bool.not_false] at kst
  have HCH : Aside (ChAt w (.slice (some ⟨b, off, none⟩) 3 c) [⟨U0, .slice a0 60 c0⟩, ⟨U1, .slice a1 60 c1⟩, ⟨U2, .slice a2 60 c2⟩]) := hch
  have HY : Hid (U2.cells[m]? = some y) := hy
  have hmi : (m : Int) < 60 := by omega
  have hm0 : (0 : Int) ≤ (m : Int) := by omega
  clear hch hd hy hib
  go_enter Tryz.func105, Tryz.ntmps105
  go_wp2_with fail
  refine hml.mono ?_
  rintro e w3 ⟨rfl, hb3⟩
  have HX3 : Aside _ := heap_below HX0.out hb3 (heap_lt HX0.out)
  have HR3 : Aside _ := heap_below HR0.out hb3 (heap_lt HR0.out)
  have HE3 : Aside _ := heap_below HE0.out hb3 (heap_lt HE0.out)
  have HB3 : Aside (Below w.heap.size w w3) := step_below1 HB0.out hb3
  clear hb3 HX0 HR0 HE0 HB0
  clear hml
  have hc3 := HCH.out.later HB3.out
  obtain ⟨b3, off3, eb3, hrow3⟩ := hc3.rows.at (by omega)
  injection eb3 with eb3
  injection eb3 with eb4 eb5 _
  subst eb4 eb5
  obtain ⟨⟨p0, s0⟩, ⟨p1, s1⟩, ⟨p2, s2⟩⟩ := row_three hrow3
  obtain ⟨by_, oy, ey, hEy⟩ := SlOf.at (cs := En.cells) (k := 5) (hc3.each ⟨U2, .slice a2 60 c2⟩ (by simp)).ents (by omega)
  subst ey
  have g0 : w3.cell? ⟨by_, oy + m * 5, none⟩ = some (.int .i64 y.k) := hEy m y HY.out 0 _ rfl
  have g1 : w3.cell? ⟨by_, oy + m * 5 + 1, none⟩ = some (.int .i64 y.j) := hEy m y HY.out 1 _ rfl
  have g2 : w3.cell? ⟨by_, oy + m * 5 + 2, none⟩ = some (.int .i64 y.v) := hEy m y HY.out 2 _ rfl
  have g3 : w3.cell? ⟨by_, oy + m * 5 + 3, none⟩ = some (.int .i64 y.t) := hEy m y HY.out 3 _ rfl
  have g4 : w3.cell? ⟨by_, oy + m * 5 + 4, none⟩ = some (.int .i64 y.c) := hEy m y HY.out 4 _ rfl
  have hyb := heap_lt HE3.out
  have HX4 : Aside _ := heap_old HX3.out (boxE y.k y.j y.v y.t y.c)
  have HR4 : Aside _ := heap_old HR3.out (boxE y.k y.j y.v y.t y.c)
  have HE4 : Aside _ := heap_old HE3.out (boxE y.k y.j y.v y.t y.c)
  have HY4 : Aside _ := heap_new w3 (boxE y.k y.j y.v y.t y.c)
  have HB4 : Aside _ := grew HB3.out (boxE y.k y.j y.v y.t y.c)
  clear hrow3 hEy hc3 HX3 HR3 HE3 HB3 HCH
  go_upto_region 5 with fail
  generalize w3.alloc (boxE y.k y.j y.v y.t y.c) = w4 at *
  generalize w3.heap.size = yb at *
  clear g0 g1 g2 g3 g4 p0 s0 p1 s1 p2 s2
  have zy : ∀ i, w4.cell? ⟨yb, i, none⟩ = #[Value.int .i64 y.k, .int .i64 y.j, .int .i64 y.v, .int .i64 y.t, .int .i64 y.c][i]? := fun i => Joins.cell_of_block HY4.out i
  go_wp2_with fail
  refine (kst _).mono ?_
  rintro e w6 ⟨rfl, hb6⟩
  have HX6 : Aside _ := heap_below HX4.out hb6 (heap_lt HX4.out)
  have HR6 : Aside _ := heap_below HR4.out hb6 (heap_lt HR4.out)
  have HE6 : Aside _ := heap_below HE4.out hb6 (heap_lt HE4.out)
  have HY6 : Aside _ := heap_below HY4.out hb6 (heap_lt HY4.out)
  have HB6 : Aside (Below w.heap.size w w6) := step_below1 HB4.out hb6
  clear hb6 kst zy HX4 HR4 HE4 HY4 HB4
  go_wp2_with fail
  have hz5 : C5 w6 yb y := c5_of HY6.out
  have hgr : yb ≠ w.heap.size + 1 := by omega
  have hge : yb ≠ w.heap.size + 1 + 1 := by omega
  have HRd : Aside (w6.drew.heap[w.heap.size + 1]? = some (boxRc Rc.zero)) := HR6.out
  have HEd : Aside (w6.drew.heap[w.heap.size + 1 + 1]? = some (boxE 0 0 0 0 0)) := HE6.out
  have HBd : Aside (Below w.heap.size w w6.drew) := HB6.out.drew
  clear HX6 HR6 HE6 HY6 HB6
  refine wp_region_held_drew (S := fun w' => C5 w' yb y) (by kernel_rfl) (hz5) (fun hHeld => ?_)
  clear hz5
  generalize w6.drew = X at *
  refine wpAnyH_take (i := 0) (oi := ?oi0) (v := ?v0) ?hi0 ?hs0 ?hf0 ?hr0 ?hQ0 (Or.inl ⟨?hw0, ?hy0⟩) (by assumption) ?h0
  case hi0 => (simp only [List.getElem?_toArray, List.getElem?_cons_succ, List.getElem?_cons_zero]; rfl)
  case hs0 => kernel_rfl
  case hf0 => kernel_rfl
  case hr0 => kernel_rfl
  case hw0 => rfl
  case hy0 => (intro w0 hSw; (try dsimp only at hSw); go_simp; first | done | with_reducible rfl)
  case hQ0 => exact fun _ _ _ h => h
  try simp only [Act.put, List.setIfInBounds_toArray, List.set_cons_zero, List.set_cons_succ]
  refine wpAnyH_take (i := 1) (oi := ?oi1) (v := ?v1) ?hi1 ?hs1 ?hf1 ?hr1 ?hQ1 (Or.inl ⟨?hw1, ?hy1⟩) (by assumption) ?h1
  case hi1 => (simp only [List.getElem?_toArray, List.getElem?_cons_succ, List.getElem?_cons_zero]; rfl)
  case hs1 => kernel_rfl
  case hf1 => kernel_rfl
  case hr1 => kernel_rfl
  case hw1 => rfl
  case hy1 => (intro w0 hSw; (try dsimp only at hSw); go_simp; first | done | with_reducible rfl)
  case hQ1 => exact fun _ _ _ h => h
  try simp only [Act.put, List.setIfInBounds_toArray, List.set_cons_zero, List.set_cons_succ]
  have zr : ∀ i, X.cell? ⟨w.heap.size + 1, i, none⟩ = #[Value.int .i64 0, .int .i64 0, .int .i64 0, .int .i64 0, .int .i64 0, .int .i64 0, .int .i64 0, .int .i64 0][i]? := fun i => Joins.cell_of_block HRd.out i
  have fr : ∀ i, X.frozen? ⟨w.heap.size + 1, i, none⟩ = false := fun i => Joins.unfrozen_of_block HRd.out i
  have ze : ∀ i, X.cell? ⟨w.heap.size + 1 + 1, i, none⟩ = #[Value.int .i64 0, .int .i64 0, .int .i64 0, .int .i64 0, .int .i64 0][i]? := fun i => Joins.cell_of_block HEd.out i
  have fe : ∀ i, X.frozen? ⟨w.heap.size + 1 + 1, i, none⟩ = false := fun i => Joins.unfrozen_of_block HEd.out i
  refine wpAnyH_ready (rs := [2]) (by kernel_rfl) (by simp) ?_
  refine AllReadyH.cons (o := ?o2) ?hi2 ?step2 AllReadyH.nil
  case hi2 => (simp only [List.getElem?_toArray, List.getElem?_cons_succ, List.getElem?_cons_zero]; rfl)
  intro K hK
  go_simp
  refine hK.out _ _ (c5_set (c5_set (c5_set (c5_set (c5_set (c5_set (c5_set (c5_set (hHeld) hgr 0 _) hgr 1 _) hgr 2 _) hgr 3 _) hgr 4 _) hgr 5 _) hgr 6 _) hgr 7 _) (fun hHeld => ?_)
  clear hK K
  try simp only [Act.put, List.setIfInBounds_toArray, List.set_cons_zero, List.set_cons_succ]
  refine wpAnyH_ready (rs := [3]) (by kernel_rfl) (by simp) ?_
  refine AllReadyH.cons (o := ?o3) ?hi3 ?step3 AllReadyH.nil
  case hi3 => (simp only [List.getElem?_toArray, List.getElem?_cons_succ, List.getElem?_cons_zero]; rfl)
  intro K hK
  go_simp
  refine hK.out _ _ (c5_set (c5_set (c5_set (c5_set (c5_set (hHeld) hge 0 _) hge 1 _) hge 2 _) hge 3 _) hge 4 _) (fun hHeld => ?_)
  clear hK K
  try simp only [Act.put, List.setIfInBounds_toArray, List.set_cons_zero, List.set_cons_succ]
  refine wpAnyH_take (i := 4) (oi := ?oi4) (v := ?v4) ?hi4 ?hs4 ?hf4 ?hr4 ?hQ4 (Or.inl ⟨?hw4, ?hy4⟩) (by assumption) ?h4
  case hi4 => (simp only [List.getElem?_toArray, List.getElem?_cons_succ, List.getElem?_cons_zero]; rfl)
  case hs4 => kernel_rfl
  case hf4 => kernel_rfl
  case hr4 => kernel_rfl
  case hw4 => rfl
  case hy4 => (intro w0 hSw; (try dsimp only at hSw); go_simp; first | done | with_reducible rfl)
  case hQ4 => exact fun _ _ _ h => h
  try simp only [Act.put, List.setIfInBounds_toArray, List.set_cons_zero, List.set_cons_succ]
  refine wpAnyH_done (by kernel_rfl) ?_ _
  clear zr fr ze fe
  go_wp2
  have hst := link_stored (w := X) (rb := w.heap.size + 1) (eb := w.heap.size + 1 + 1) HRd.out (f := En.zero) HEd.out (by omega) (Rc.zero) (y) rfl
  exact ret3 (p := 10) (q := 11) (t := 12) (r := Rc.zero) (e := y) Tryz.results105 rfl rfl rfl rfl hst.1 hst.2 ⟨rfl, link_below HBd.out (by omega) (by omega) _ _ _ _ _ _ _ _ _ _ _ _ _⟩
set_option linter.unusedSimpArgs false in
set_option maxHeartbeats 4000000 in
set_option maxRecDepth 100000 in
theorem chLink2_new (b off c m : Nat) (ep : Int) (x : En) (U0 U1 U2 : Un) (a0 a1 a2 : Option Addr) (c0 c1 c2 : Nat) (w : World) (hch : ChAt w (.slice (some ⟨b, off, none⟩) 3 c) [⟨U0, .slice a0 60 c0⟩, ⟨U1, .slice a1 60 c1⟩, ⟨U2, .slice a2 60 c2⟩]) (hm : m < 60) (hd : (linkOf [U0, U1, U2] 2 (m : Int) x ep).2.2 = 0) (y : En) (hy : U2.cells[m]? = some y) (hib : y.isB = true) :
    Calls Tryz.prog 105 #[.slice (some ⟨b, off, none⟩) 3 c, .int .i64 2, .int .i64 (m : Int), x.val, .int .i64 ep] w fun e w' => e = .returned (.tuple #[(((⟨1, (m : Int), 0, x⟩, x, 0) : Rc × En × Int)).1.val, (((⟨1, (m : Int), 0, x⟩, x, 0) : Rc × En × Int)).2.1.val, .int .i64 (((⟨1, (m : Int), 0, x⟩, x, 0) : Rc × En × Int)).2.2]) ∧ Below w.heap.size w w' := by
  have HB0 : Aside (Below w.heap.size w (((w.alloc (boxE x.k x.j x.v x.t x.c)).alloc (boxRc Rc.zero)).alloc (boxE 0 0 0 0 0))) := grew (grew (grew (Below.refl _ _) _) _) _
  have HX0 : Aside ((((w.alloc (boxE x.k x.j x.v x.t x.c)).alloc (boxRc Rc.zero)).alloc (boxE 0 0 0 0 0)).heap[w.heap.size]? = some (boxE x.k x.j x.v x.t x.c)) := heap_old (heap_old (heap_new _ _) _) _
  have HR0 : Aside ((((w.alloc (boxE x.k x.j x.v x.t x.c)).alloc (boxRc Rc.zero)).alloc (boxE 0 0 0 0 0)).heap[w.heap.size + 1]? = some (boxRc Rc.zero)) := by
    have := heap_new (w.alloc (boxE x.k x.j x.v x.t x.c)) (boxRc Rc.zero)
    rw [World.size_alloc] at this
    exact heap_old this _
  have HE0 : Aside ((((w.alloc (boxE x.k x.j x.v x.t x.c)).alloc (boxRc Rc.zero)).alloc (boxE 0 0 0 0 0)).heap[w.heap.size + 1 + 1]? = some (boxE 0 0 0 0 0)) := by
    have := heap_new ((w.alloc (boxE x.k x.j x.v x.t x.c)).alloc (boxRc Rc.zero)) (boxE 0 0 0 0 0)
    rwa [World.size_alloc, World.size_alloc] at this
  have hml := may_any _ _ 2 (m : Int) ep x _ (hch.later HB0.out)
  rw [show (linkOf (unitsOf [⟨U0, .slice a0 60 c0⟩, ⟨U1, .slice a1 60 c1⟩, ⟨U2, .slice a2 60 c2⟩]) 2 (m : Int) x ep).2.2 = 0 from hd] at hml
  have kst := fun W => stands_any y W
  rw [hib, Bool.not_true] at kst
  have HCH : Aside (ChAt w (.slice (some ⟨b, off, none⟩) 3 c) [⟨U0, .slice a0 60 c0⟩, ⟨U1, .slice a1 60 c1⟩, ⟨U2, .slice a2 60 c2⟩]) := hch
  have HY : Hid (U2.cells[m]? = some y) := hy
  have hmi : (m : Int) < 60 := by omega
  have hm0 : (0 : Int) ≤ (m : Int) := by omega
  clear hch hd hy hib
  go_enter Tryz.func105, Tryz.ntmps105
  go_wp2_with fail
  refine hml.mono ?_
  rintro e w3 ⟨rfl, hb3⟩
  have HX3 : Aside _ := heap_below HX0.out hb3 (heap_lt HX0.out)
  have HR3 : Aside _ := heap_below HR0.out hb3 (heap_lt HR0.out)
  have HE3 : Aside _ := heap_below HE0.out hb3 (heap_lt HE0.out)
  have HB3 : Aside (Below w.heap.size w w3) := step_below1 HB0.out hb3
  clear hb3 HX0 HR0 HE0 HB0
  clear hml
  have hc3 := HCH.out.later HB3.out
  obtain ⟨b3, off3, eb3, hrow3⟩ := hc3.rows.at (by omega)
  injection eb3 with eb3
  injection eb3 with eb4 eb5 _
  subst eb4 eb5
  obtain ⟨⟨p0, s0⟩, ⟨p1, s1⟩, ⟨p2, s2⟩⟩ := row_three hrow3
  obtain ⟨by_, oy, ey, hEy⟩ := SlOf.at (cs := En.cells) (k := 5) (hc3.each ⟨U2, .slice a2 60 c2⟩ (by simp)).ents (by omega)
  subst ey
  have g0 : w3.cell? ⟨by_, oy + m * 5, none⟩ = some (.int .i64 y.k) := hEy m y HY.out 0 _ rfl
  have g1 : w3.cell? ⟨by_, oy + m * 5 + 1, none⟩ = some (.int .i64 y.j) := hEy m y HY.out 1 _ rfl
  have g2 : w3.cell? ⟨by_, oy + m * 5 + 2, none⟩ = some (.int .i64 y.v) := hEy m y HY.out 2 _ rfl
  have g3 : w3.cell? ⟨by_, oy + m * 5 + 3, none⟩ = some (.int .i64 y.t) := hEy m y HY.out 3 _ rfl
  have g4 : w3.cell? ⟨by_, oy + m * 5 + 4, none⟩ = some (.int .i64 y.c) := hEy m y HY.out 4 _ rfl
  have hyb := heap_lt HE3.out
  have HX4 : Aside _ := heap_old HX3.out (boxE y.k y.j y.v y.t y.c)
  have HR4 : Aside _ := heap_old HR3.out (boxE y.k y.j y.v y.t y.c)
  have HE4 : Aside _ := heap_old HE3.out (boxE y.k y.j y.v y.t y.c)
  have HY4 : Aside _ := heap_new w3 (boxE y.k y.j y.v y.t y.c)
  have HB4 : Aside _ := grew HB3.out (boxE y.k y.j y.v y.t y.c)
  clear hrow3 hEy hc3 HX3 HR3 HE3 HB3 HCH
  go_upto_region 5 with fail
  generalize w3.alloc (boxE y.k y.j y.v y.t y.c) = w4 at *
  generalize w3.heap.size = yb at *
  clear g0 g1 g2 g3 g4 p0 s0 p1 s1 p2 s2
  have zy : ∀ i, w4.cell? ⟨yb, i, none⟩ = #[Value.int .i64 y.k, .int .i64 y.j, .int .i64 y.v, .int .i64 y.t, .int .i64 y.c][i]? := fun i => Joins.cell_of_block HY4.out i
  go_wp2_with fail
  refine (kst _).mono ?_
  rintro e w6 ⟨rfl, hb6⟩
  have HX6 : Aside _ := heap_below HX4.out hb6 (heap_lt HX4.out)
  have HR6 : Aside _ := heap_below HR4.out hb6 (heap_lt HR4.out)
  have HE6 : Aside _ := heap_below HE4.out hb6 (heap_lt HE4.out)
  have HY6 : Aside _ := heap_below HY4.out hb6 (heap_lt HY4.out)
  have HB6 : Aside (Below w.heap.size w w6) := step_below1 HB4.out hb6
  clear hb6 kst zy HX4 HR4 HE4 HY4 HB4
  go_wp2_with fail
  have hz5 : C5 w6 w.heap.size x := c5_of HX6.out
  have hgr : w.heap.size ≠ w.heap.size + 1 := by omega
  have hge : w.heap.size ≠ w.heap.size + 1 + 1 := by omega
  have HRd : Aside (w6.drew.heap[w.heap.size + 1]? = some (boxRc Rc.zero)) := HR6.out
  have HEd : Aside (w6.drew.heap[w.heap.size + 1 + 1]? = some (boxE 0 0 0 0 0)) := HE6.out
  have HBd : Aside (Below w.heap.size w w6.drew) := HB6.out.drew
  clear HX6 HR6 HE6 HY6 HB6
  refine wp_region_held_drew (S := fun w' => C5 w' w.heap.size x) (by kernel_rfl) (hz5) (fun hHeld => ?_)
  clear hz5
  generalize w6.drew = X at *
  refine wpAnyH_take (i := 0) (oi := ?oi0) (v := ?v0) ?hi0 ?hs0 ?hf0 ?hr0 ?hQ0 (Or.inl ⟨?hw0, ?hy0⟩) (by assumption) ?h0
  case hi0 => (simp only [List.getElem?_toArray, List.getElem?_cons_succ, List.getElem?_cons_zero]; rfl)
  case hs0 => kernel_rfl
  case hf0 => kernel_rfl
  case hr0 => kernel_rfl
  case hw0 => rfl
  case hy0 => (intro w0 hSw; (try dsimp only at hSw); go_simp; first | done | with_reducible rfl)
  case hQ0 => exact fun _ _ _ h => h
  try simp only [Act.put, List.setIfInBounds_toArray, List.set_cons_zero, List.set_cons_succ]
  refine wpAnyH_take (i := 1) (oi := ?oi1) (v := ?v1) ?hi1 ?hs1 ?hf1 ?hr1 ?hQ1 (Or.inl ⟨?hw1, ?hy1⟩) (by assumption) ?h1
  case hi1 => (simp only [List.getElem?_toArray, List.getElem?_cons_succ, List.getElem?_cons_zero]; rfl)
  case hs1 => kernel_rfl
  case hf1 => kernel_rfl
  case hr1 => kernel_rfl
  case hw1 => rfl
  case hy1 => (intro w0 hSw; (try dsimp only at hSw); go_simp; first | done | with_reducible rfl)
  case hQ1 => exact fun _ _ _ h => h
  try simp only [Act.put, List.setIfInBounds_toArray, List.set_cons_zero, List.set_cons_succ]
  refine wpAnyH_take (i := 2) (oi := ?oi2) (v := ?v2) ?hi2 ?hs2 ?hf2 ?hr2 ?hQ2 (Or.inl ⟨?hw2, ?hy2⟩) (by assumption) ?h2
  case hi2 => (simp only [List.getElem?_toArray, List.getElem?_cons_succ, List.getElem?_cons_zero]; rfl)
  case hs2 => kernel_rfl
  case hf2 => kernel_rfl
  case hr2 => kernel_rfl
  case hw2 => rfl
  case hy2 => (intro w0 hSw; (try dsimp only at hSw); go_simp; first | done | with_reducible rfl)
  case hQ2 => exact fun _ _ _ h => h
  try simp only [Act.put, List.setIfInBounds_toArray, List.set_cons_zero, List.set_cons_succ]
  refine wpAnyH_take (i := 3) (oi := ?oi3) (v := ?v3) ?hi3 ?hs3 ?hf3 ?hr3 ?hQ3 (Or.inl ⟨?hw3, ?hy3⟩) (by assumption) ?h3
  case hi3 => (simp only [List.getElem?_toArray, List.getElem?_cons_succ, List.getElem?_cons_zero]; rfl)
  case hs3 => kernel_rfl
  case hf3 => kernel_rfl
  case hr3 => kernel_rfl
  case hw3 => rfl
  case hy3 => (intro w0 hSw; (try dsimp only at hSw); go_simp; first | done | with_reducible rfl)
  case hQ3 => exact fun _ _ _ h => h
  try simp only [Act.put, List.setIfInBounds_toArray, List.set_cons_zero, List.set_cons_succ]
  have zr : ∀ i, X.cell? ⟨w.heap.size + 1, i, none⟩ = #[Value.int .i64 0, .int .i64 0, .int .i64 0, .int .i64 0, .int .i64 0, .int .i64 0, .int .i64 0, .int .i64 0][i]? := fun i => Joins.cell_of_block HRd.out i
  have fr : ∀ i, X.frozen? ⟨w.heap.size + 1, i, none⟩ = false := fun i => Joins.unfrozen_of_block HRd.out i
  have ze : ∀ i, X.cell? ⟨w.heap.size + 1 + 1, i, none⟩ = #[Value.int .i64 0, .int .i64 0, .int .i64 0, .int .i64 0, .int .i64 0][i]? := fun i => Joins.cell_of_block HEd.out i
  have fe : ∀ i, X.frozen? ⟨w.heap.size + 1 + 1, i, none⟩ = false := fun i => Joins.unfrozen_of_block HEd.out i
  refine wpAnyH_ready (rs := [4]) (by kernel_rfl) (by simp) ?_
  refine AllReadyH.cons (o := ?o4) ?hi4 ?step4 AllReadyH.nil
  case hi4 => (simp only [List.getElem?_toArray, List.getElem?_cons_succ, List.getElem?_cons_zero]; rfl)
  intro K hK
  go_simp
  refine hK.out _ _ (c5_set (c5_set (c5_set (c5_set (c5_set (c5_set (c5_set (c5_set (hHeld) hgr 0 _) hgr 1 _) hgr 2 _) hgr 3 _) hgr 4 _) hgr 5 _) hgr 6 _) hgr 7 _) (fun hHeld => ?_)
  clear hK K
  try simp only [Act.put, List.setIfInBounds_toArray, List.set_cons_zero, List.set_cons_succ]
  refine wpAnyH_ready (rs := [5]) (by kernel_rfl) (by simp) ?_
  refine AllReadyH.cons (o := ?o5) ?hi5 ?step5 AllReadyH.nil
  case hi5 => (simp only [List.getElem?_toArray, List.getElem?_cons_succ, List.getElem?_cons_zero]; rfl)
  intro K hK
  go_simp
  refine hK.out _ _ (c5_set (c5_set (c5_set (c5_set (c5_set (hHeld) hge 0 _) hge 1 _) hge 2 _) hge 3 _) hge 4 _) (fun hHeld => ?_)
  clear hK K
  try simp only [Act.put, List.setIfInBounds_toArray, List.set_cons_zero, List.set_cons_succ]
  refine wpAnyH_take (i := 6) (oi := ?oi6) (v := ?v6) ?hi6 ?hs6 ?hf6 ?hr6 ?hQ6 (Or.inl ⟨?hw6, ?hy6⟩) (by assumption) ?h6
  case hi6 => (simp only [List.getElem?_toArray, List.getElem?_cons_succ, List.getElem?_cons_zero]; rfl)
  case hs6 => kernel_rfl
  case hf6 => kernel_rfl
  case hr6 => kernel_rfl
  case hw6 => rfl
  case hy6 => (intro w0 hSw; (try dsimp only at hSw); go_simp; first | done | with_reducible rfl)
  case hQ6 => exact fun _ _ _ h => h
  try simp only [Act.put, List.setIfInBounds_toArray, List.set_cons_zero, List.set_cons_succ]
  refine wpAnyH_done (by kernel_rfl) ?_ _
  clear zr fr ze fe
  go_wp2
  have hst := link_stored (w := X) (rb := w.heap.size + 1) (eb := w.heap.size + 1 + 1) HRd.out (f := En.zero) HEd.out (by omega) (⟨1, (m : Int), 0, x⟩) (x) rfl
  exact ret3 (p := 10) (q := 11) (t := 12) (r := ⟨1, (m : Int), 0, x⟩) (e := x) Tryz.results105 rfl rfl rfl rfl hst.1 hst.2 ⟨rfl, link_below HBd.out (by omega) (by omega) _ _ _ _ _ _ _ _ _ _ _ _ _⟩
set_option maxRecDepth 10000 in
/-- Package chain's Link. -/
theorem chLink_any (v : Value) (xs : List Ub) (k a ep : Int) (x : En) (w : World) (h : ChAt w v xs) :
    Calls Tryz.prog 105 #[v, .int .i64 k, .int .i64 a, x.val, .int .i64 ep] w fun e w' => e = .returned (.tuple #[(linkOf (unitsOf xs) k a x ep).1.val, (linkOf (unitsOf xs) k a x ep).2.1.val, .int .i64 (linkOf (unitsOf xs) k a x ep).2.2]) ∧ Below w.heap.size w w' := by
  by_cases he : (linkOf (unitsOf xs) k a x ep).2.2 = 0
  · obtain ⟨hd, hk, ha, hx, hp, hz, hway⟩ := linkOf_ok he
    obtain ⟨U0, U1, U2, a0, c0, a1, c1, a2, c2, b, off, c, rfl, rfl, d0, d1, d2⟩ := right_three h hd
    obtain ⟨m, rfl⟩ : ∃ m : Nat, a = m := ⟨a.toNat, by omega⟩
    have hm : m < 60 := by omega
    obtain ⟨y0, hy0⟩ : ∃ y, U0.cells[m]? = some y := ⟨_, plc_some (us := [U0]) (k := 0) rfl d0 hm⟩
    obtain ⟨y1, hy1⟩ : ∃ y, U1.cells[m]? = some y := ⟨_, plc_some (us := [U1]) (k := 0) rfl d1 hm⟩
    obtain ⟨y2, hy2⟩ : ∃ y, U2.cells[m]? = some y := ⟨_, plc_some (us := [U2]) (k := 0) rfl d2 hm⟩
    have e0 : plc (unitsOf [⟨U0, .slice a0 60 c0⟩, ⟨U1, .slice a1 60 c1⟩, ⟨U2, .slice a2 60 c2⟩]) 0 m = y0 := plc_eq (u := U0) rfl hy0
    have e1 : plc (unitsOf [⟨U0, .slice a0 60 c0⟩, ⟨U1, .slice a1 60 c1⟩, ⟨U2, .slice a2 60 c2⟩]) 1 m = y1 := plc_eq (u := U1) rfl hy1
    have e2 : plc (unitsOf [⟨U0, .slice a0 60 c0⟩, ⟨U1, .slice a1 60 c1⟩, ⟨U2, .slice a2 60 c2⟩]) 2 m = y2 := plc_eq (u := U2) rfl hy2
    have hk' : k = 0 ∨ k = 1 ∨ k = 2 := by omega
    rcases hk' with rfl | rfl | rfl
    · have ee : plc (unitsOf [⟨U0, .slice a0 60 c0⟩, ⟨U1, .slice a1 60 c1⟩, ⟨U2, .slice a2 60 c2⟩]) (0 : Int).toNat (m : Int).toNat = y0 := e0
      rw [ee] at hway
      rcases hway with ⟨hb, hl⟩ | ⟨hb, hl⟩
      · rw [hl]; exact chLink0_stands b off c m ep x U0 U1 U2 a0 a1 a2 c0 c1 c2 w h hm he y0 hy0 hb
      · rw [hl]; exact chLink0_new b off c m ep x U0 U1 U2 a0 a1 a2 c0 c1 c2 w h hm he y0 hy0 hb
    · have ee : plc (unitsOf [⟨U0, .slice a0 60 c0⟩, ⟨U1, .slice a1 60 c1⟩, ⟨U2, .slice a2 60 c2⟩]) (1 : Int).toNat (m : Int).toNat = y1 := e1
      rw [ee] at hway
      rcases hway with ⟨hb, hl⟩ | ⟨hb, hl⟩
      · rw [hl]; exact chLink1_stands b off c m ep x U0 U1 U2 a0 a1 a2 c0 c1 c2 w h hm he y1 hy1 hb
      · rw [hl]; exact chLink1_new b off c m ep x U0 U1 U2 a0 a1 a2 c0 c1 c2 w h hm he y1 hy1 hb
    · have ee : plc (unitsOf [⟨U0, .slice a0 60 c0⟩, ⟨U1, .slice a1 60 c1⟩, ⟨U2, .slice a2 60 c2⟩]) (2 : Int).toNat (m : Int).toNat = y2 := e2
      rw [ee] at hway
      rcases hway with ⟨hb, hl⟩ | ⟨hb, hl⟩
      · rw [hl]; exact chLink2_stands b off c m ep x U0 U1 U2 a0 a1 a2 c0 c1 c2 w h hm he y2 hy2 hb
      · rw [hl]; exact chLink2_new b off c m ep x U0 U1 U2 a0 a1 a2 c0 c1 c2 w h hm he y2 hy2 hb
  · rw [linkOf_bad he]
    exact chLink_bad v xs k a ep x w h _ rfl (by rw [bne_iff_ne]; exact he)
end Go.Proofs.YtmoaobfmopimlafGreatDoor
namespace Go.Proofs.YtmoaobfmopimlafGreatDoor
open Go.RowKit
open scoped Classical
set_option linter.unusedSimpArgs false in
set_option maxHeartbeats 4000000 in
set_option maxRecDepth 100000 in
theorem chRead_ck (v : Value) (xs : List Ub) (a : Int) (w : World) (h : ChAt w v xs) (d : Int) (hd : ckChain (unitsOf xs) = d) (hz : (d != 0) = true) :
    Calls Tryz.prog 178 #[v, .int .i64 a] w fun e w' => e = .returned (.tuple #[(((En.zero, d) : En × Int)).1.val, .int .i64 (((En.zero, d) : En × Int)).2]) ∧ Below w.heap.size w w' := by
  have HB0 : Aside (Below w.heap.size w (w.alloc (boxE 0 0 0 0 0))) := grew (Below.refl _ _) _
  have HE0 : Aside ((w.alloc (boxE 0 0 0 0 0)).heap[w.heap.size]? = some (boxE 0 0 0 0 0)) := heap_new _ _
  have hck := chCheck_any v xs _ (h.later HB0.out)
  rw [hd] at hck
  clear h hd
  go_enter Tryz.func178, Tryz.ntmps178
  go_wp2_with fail
  refine hck.mono ?_
  rintro e w1 ⟨rfl, hb1⟩
  have HE1 : Aside _ := heap_below HE0.out hb1 (heap_lt HE0.out)
  have HB1 : Aside (Below w.heap.size w w1) := step_below1 HB0.out hb1
  clear HE0 HB0 hb1
  clear hck
  have ze : ∀ i, w1.cell? ⟨w.heap.size, i, none⟩ = #[Value.int .i64 0, .int .i64 0, .int .i64 0, .int .i64 0, .int .i64 0][i]? := fun i => Joins.cell_of_block HE1.out i
  have fe : ∀ i, w1.frozen? ⟨w.heap.size, i, none⟩ = false := fun i => Joins.unfrozen_of_block HE1.out i
  go_wp2
  exact ret_ent (p := 4) (q := 5) (e := En.zero) Tryz.results178 rfl rfl rfl (five_box (f := En.zero) HE1.out (En.zero)) ⟨rfl, five_below HB1.out (Nat.le_refl _) _ _ _ _ _⟩
set_option linter.unusedSimpArgs false in
set_option maxHeartbeats 4000000 in
set_option maxRecDepth 100000 in
theorem chRead_who (v : Value) (xs : List Ub) (a : Int) (w : World) (h : ChAt w v xs) (hd : ckChain (unitsOf xs) = 0) (ha : ¬ (0 ≤ a ∧ a ≤ 59)) :
    Calls Tryz.prog 178 #[v, .int .i64 a] w fun e w' => e = .returned (.tuple #[(((En.zero, 5) : En × Int)).1.val, .int .i64 (((En.zero, 5) : En × Int)).2]) ∧ Below w.heap.size w w' := by
  have HB0 : Aside (Below w.heap.size w (w.alloc (boxE 0 0 0 0 0))) := grew (Below.refl _ _) _
  have HE0 : Aside ((w.alloc (boxE 0 0 0 0 0)).heap[w.heap.size]? = some (boxE 0 0 0 0 0)) := heap_new _ _
  have hck := chCheck_any v xs _ (h.later HB0.out)
  rw [hd] at hck
  have kp := fun W => isPlace_any a W
  rw [decide_eq_false ha] at kp
  clear h hd ha
  go_enter Tryz.func178, Tryz.ntmps178
  go_wp2_with fail
  refine hck.mono ?_
  rintro e w1 ⟨rfl, hb1⟩
  have HE1 : Aside _ := heap_below HE0.out hb1 (heap_lt HE0.out)
  have HB1 : Aside (Below w.heap.size w w1) := step_below1 HB0.out hb1
  clear HE0 HB0 hb1
  clear hck
  go_wp2_with fail
  refine (kp _).mono ?_
  rintro e w1 ⟨rfl, rfl⟩
  have ze : ∀ i, w1.cell? ⟨w.heap.size, i, none⟩ = #[Value.int .i64 0, .int .i64 0, .int .i64 0, .int .i64 0, .int .i64 0][i]? := fun i => Joins.cell_of_block HE1.out i
  have fe : ∀ i, w1.frozen? ⟨w.heap.size, i, none⟩ = false := fun i => Joins.unfrozen_of_block HE1.out i
  go_wp2
  exact ret_ent (p := 4) (q := 5) (e := En.zero) Tryz.results178 rfl rfl rfl (five_box (f := En.zero) HE1.out (En.zero)) ⟨rfl, five_below HB1.out (Nat.le_refl _) _ _ _ _ _⟩
set_option linter.unusedSimpArgs false in
set_option maxHeartbeats 4000000 in
set_option maxRecDepth 100000 in
theorem chRead_late (b off c m : Nat) (U0 U1 U2 : Un) (a0 a1 a2 : Option Addr) (c0 c1 c2 : Nat) (w : World) (h : ChAt w (.slice (some ⟨b, off, none⟩) 3 c) [⟨U0, .slice a0 60 c0⟩, ⟨U1, .slice a1 60 c1⟩, ⟨U2, .slice a2 60 c2⟩]) (hd : ckChain [U0, U1, U2] = 0) (hm : m < 60) (y : En) (hy : U2.cells[m]? = some y) (hib : y.isB = true) :
    Calls Tryz.prog 178 #[.slice (some ⟨b, off, none⟩) 3 c, .int .i64 (m : Int)] w fun e w' => e = .returned (.tuple #[(((En.zero, 7) : En × Int)).1.val, .int .i64 (((En.zero, 7) : En × Int)).2]) ∧ Below w.heap.size w w' := by
  have HB0 : Aside (Below w.heap.size w (w.alloc (boxE 0 0 0 0 0))) := grew (Below.refl _ _) _
  have HE0 : Aside ((w.alloc (boxE 0 0 0 0 0)).heap[w.heap.size]? = some (boxE 0 0 0 0 0)) := heap_new _ _
  have hck := chCheck_any _ _ _ (h.later HB0.out)
  rw [show ckChain (unitsOf [⟨U0, .slice a0 60 c0⟩, ⟨U1, .slice a1 60 c1⟩, ⟨U2, .slice a2 60 c2⟩]) = 0 from hd] at hck
  have kp := fun W => isPlace_any (m : Int) W
  rw [decide_eq_true (by omega)] at kp
  have kst := fun W => stands_any y W
  rw [hib, Bool.not_true] at kst
  have HCH : Aside (ChAt w (.slice (some ⟨b, off, none⟩) 3 c) [⟨U0, .slice a0 60 c0⟩, ⟨U1, .slice a1 60 c1⟩, ⟨U2, .slice a2 60 c2⟩]) := h
  have HY : Hid (U2.cells[m]? = some y) := hy
  have hmi : (m : Int) < 60 := by omega
  have hm0 : (0 : Int) ≤ (m : Int) := by omega
  clear h hd hy hib
  go_enter Tryz.func178, Tryz.ntmps178
  go_wp2_with fail
  refine hck.mono ?_
  rintro e w1 ⟨rfl, hb1⟩
  have HE1 : Aside _ := heap_below HE0.out hb1 (heap_lt HE0.out)
  have HB1 : Aside (Below w.heap.size w w1) := step_below1 HB0.out hb1
  clear HE0 HB0 hb1
  clear hck
  go_wp2_with fail
  refine (kp _).mono ?_
  rintro e w1 ⟨rfl, rfl⟩
  have hc1 := HCH.out.later HB1.out
  obtain ⟨b', off', eb, hrow⟩ := hc1.rows.at (by omega)
  injection eb with eb
  injection eb with eb1 eb2 _
  subst eb1 eb2
  obtain ⟨⟨p0, s0⟩, ⟨p1, s1⟩, ⟨p2, s2⟩⟩ := row_three hrow
  obtain ⟨by_, oy, ey, hEy⟩ := SlOf.at (cs := En.cells) (k := 5) (hc1.each ⟨U2, .slice a2 60 c2⟩ (by simp)).ents (by omega)
  subst ey
  have g0 : w1.cell? ⟨by_, oy + m * 5, none⟩ = some (.int .i64 y.k) := hEy m y HY.out 0 _ rfl
  have g1 : w1.cell? ⟨by_, oy + m * 5 + 1, none⟩ = some (.int .i64 y.j) := hEy m y HY.out 1 _ rfl
  have g2 : w1.cell? ⟨by_, oy + m * 5 + 2, none⟩ = some (.int .i64 y.v) := hEy m y HY.out 2 _ rfl
  have g3 : w1.cell? ⟨by_, oy + m * 5 + 3, none⟩ = some (.int .i64 y.t) := hEy m y HY.out 3 _ rfl
  have g4 : w1.cell? ⟨by_, oy + m * 5 + 4, none⟩ = some (.int .i64 y.c) := hEy m y HY.out 4 _ rfl
  have hyb := heap_lt HE1.out
  have HE4 : Aside _ := heap_old HE1.out (boxE y.k y.j y.v y.t y.c)
  have HY4 : Aside _ := heap_new w1 (boxE y.k y.j y.v y.t y.c)
  have HB4 : Aside _ := grew HB1.out (boxE y.k y.j y.v y.t y.c)
  clear hrow hEy hc1 HE1 HB1 HCH kp
  go_upto_region 7 with fail
  generalize w1.alloc (boxE y.k y.j y.v y.t y.c) = w4 at *
  generalize w1.heap.size = yb at *
  clear g0 g1 g2 g3 g4 p0 s0 p1 s1 p2 s2
  have zy : ∀ i, w4.cell? ⟨yb, i, none⟩ = #[Value.int .i64 y.k, .int .i64 y.j, .int .i64 y.v, .int .i64 y.t, .int .i64 y.c][i]? := fun i => Joins.cell_of_block HY4.out i
  go_wp2_with fail
  refine (kst _).mono ?_
  rintro e w6 ⟨rfl, hb6⟩
  have HE6 : Aside _ := heap_below HE4.out hb6 (heap_lt HE4.out)
  have HY6 : Aside _ := heap_below HY4.out hb6 (heap_lt HY4.out)
  have HB6 : Aside (Below w.heap.size w w6) := step_below1 HB4.out hb6
  clear hb6 kst zy HE4 HY4 HB4
  have zy : ∀ i, w6.cell? ⟨yb, i, none⟩ = #[Value.int .i64 y.k, .int .i64 y.j, .int .i64 y.v, .int .i64 y.t, .int .i64 y.c][i]? := fun i => Joins.cell_of_block HY6.out i
  have ze : ∀ i, w6.cell? ⟨w.heap.size, i, none⟩ = #[Value.int .i64 0, .int .i64 0, .int .i64 0, .int .i64 0, .int .i64 0][i]? := fun i => Joins.cell_of_block HE6.out i
  have fe : ∀ i, w6.frozen? ⟨w.heap.size, i, none⟩ = false := fun i => Joins.unfrozen_of_block HE6.out i
  go_wp2
  exact ret_ent (p := 4) (q := 5) (e := En.zero) Tryz.results178 rfl rfl rfl (five_box (f := En.zero) HE6.out (En.zero)) ⟨rfl, five_below HB6.out (Nat.le_refl _) _ _ _ _ _⟩
set_option linter.unusedSimpArgs false in
set_option maxHeartbeats 4000000 in
set_option maxRecDepth 100000 in
theorem chRead_stands (b off c m : Nat) (U0 U1 U2 : Un) (a0 a1 a2 : Option Addr) (c0 c1 c2 : Nat) (w : World) (h : ChAt w (.slice (some ⟨b, off, none⟩) 3 c) [⟨U0, .slice a0 60 c0⟩, ⟨U1, .slice a1 60 c1⟩, ⟨U2, .slice a2 60 c2⟩]) (hd : ckChain [U0, U1, U2] = 0) (hm : m < 60) (y : En) (hy : U2.cells[m]? = some y) (hib : y.isB = false) :
    Calls Tryz.prog 178 #[.slice (some ⟨b, off, none⟩) 3 c, .int .i64 (m : Int)] w fun e w' => e = .returned (.tuple #[(((y, 0) : En × Int)).1.val, .int .i64 (((y, 0) : En × Int)).2]) ∧ Below w.heap.size w w' := by
  have HB0 : Aside (Below w.heap.size w (w.alloc (boxE 0 0 0 0 0))) := grew (Below.refl _ _) _
  have HE0 : Aside ((w.alloc (boxE 0 0 0 0 0)).heap[w.heap.size]? = some (boxE 0 0 0 0 0)) := heap_new _ _
  have hck := chCheck_any _ _ _ (h.later HB0.out)
  rw [show ckChain (unitsOf [⟨U0, .slice a0 60 c0⟩, ⟨U1, .slice a1 60 c1⟩, ⟨U2, .slice a2 60 c2⟩]) = 0 from hd] at hck
  have kp := fun W => isPlace_any (m : Int) W
  rw [decide_eq_true (by omega)] at kp
  have kst := fun W => stands_any y W
  rw [hib, Bool.not_false] at kst
  have HCH : Aside (ChAt w (.slice (some ⟨b, off, none⟩) 3 c) [⟨U0, .slice a0 60 c0⟩, ⟨U1, .slice a1 60 c1⟩, ⟨U2, .slice a2 60 c2⟩]) := h
  have HY : Hid (U2.cells[m]? = some y) := hy
  have hmi : (m : Int) < 60 := by omega
  have hm0 : (0 : Int) ≤ (m : Int) := by omega
  clear h hd hy hib
  go_enter Tryz.func178, Tryz.ntmps178
  go_wp2_with fail
  refine hck.mono ?_
  rintro e w1 ⟨rfl, hb1⟩
  have HE1 : Aside _ := heap_below HE0.out hb1 (heap_lt HE0.out)
  have HB1 : Aside (Below w.heap.size w w1) := step_below1 HB0.out hb1
  clear HE0 HB0 hb1
  clear hck
  go_wp2_with fail
  refine (kp _).mono ?_
  rintro e w1 ⟨rfl, rfl⟩
  have hc1 := HCH.out.later HB1.out
  obtain ⟨b', off', eb, hrow⟩ := hc1.rows.at (by omega)
  injection eb with eb
  injection eb with eb1 eb2 _
  subst eb1 eb2
  obtain ⟨⟨p0, s0⟩, ⟨p1, s1⟩, ⟨p2, s2⟩⟩ := row_three hrow
  obtain ⟨by_, oy, ey, hEy⟩ := SlOf.at (cs := En.cells) (k := 5) (hc1.each ⟨U2, .slice a2 60 c2⟩ (by simp)).ents (by omega)
  subst ey
  have g0 : w1.cell? ⟨by_, oy + m * 5, none⟩ = some (.int .i64 y.k) := hEy m y HY.out 0 _ rfl
  have g1 : w1.cell? ⟨by_, oy + m * 5 + 1, none⟩ = some (.int .i64 y.j) := hEy m y HY.out 1 _ rfl
  have g2 : w1.cell? ⟨by_, oy + m * 5 + 2, none⟩ = some (.int .i64 y.v) := hEy m y HY.out 2 _ rfl
  have g3 : w1.cell? ⟨by_, oy + m * 5 + 3, none⟩ = some (.int .i64 y.t) := hEy m y HY.out 3 _ rfl
  have g4 : w1.cell? ⟨by_, oy + m * 5 + 4, none⟩ = some (.int .i64 y.c) := hEy m y HY.out 4 _ rfl
  have hyb := heap_lt HE1.out
  have HE4 : Aside _ := heap_old HE1.out (boxE y.k y.j y.v y.t y.c)
  have HY4 : Aside _ := heap_new w1 (boxE y.k y.j y.v y.t y.c)
  have HB4 : Aside _ := grew HB1.out (boxE y.k y.j y.v y.t y.c)
  clear hrow hEy hc1 HE1 HB1 HCH kp
  go_upto_region 7 with fail
  generalize w1.alloc (boxE y.k y.j y.v y.t y.c) = w4 at *
  generalize w1.heap.size = yb at *
  clear g0 g1 g2 g3 g4 p0 s0 p1 s1 p2 s2
  have zy : ∀ i, w4.cell? ⟨yb, i, none⟩ = #[Value.int .i64 y.k, .int .i64 y.j, .int .i64 y.v, .int .i64 y.t, .int .i64 y.c][i]? := fun i => Joins.cell_of_block HY4.out i
  go_wp2_with fail
  refine (kst _).mono ?_
  rintro e w6 ⟨rfl, hb6⟩
  have HE6 : Aside _ := heap_below HE4.out hb6 (heap_lt HE4.out)
  have HY6 : Aside _ := heap_below HY4.out hb6 (heap_lt HY4.out)
  have HB6 : Aside (Below w.heap.size w w6) := step_below1 HB4.out hb6
  clear hb6 kst zy HE4 HY4 HB4
  have zy : ∀ i, w6.cell? ⟨yb, i, none⟩ = #[Value.int .i64 y.k, .int .i64 y.j, .int .i64 y.v, .int .i64 y.t, .int .i64 y.c][i]? := fun i => Joins.cell_of_block HY6.out i
  have ze : ∀ i, w6.cell? ⟨w.heap.size, i, none⟩ = #[Value.int .i64 0, .int .i64 0, .int .i64 0, .int .i64 0, .int .i64 0][i]? := fun i => Joins.cell_of_block HE6.out i
  have fe : ∀ i, w6.frozen? ⟨w.heap.size, i, none⟩ = false := fun i => Joins.unfrozen_of_block HE6.out i
  go_wp2
  exact ret_ent (p := 4) (q := 5) (e := y) Tryz.results178 rfl rfl rfl (five_box (f := En.zero) HE6.out (y)) ⟨rfl, five_below HB6.out (Nat.le_refl _) _ _ _ _ _⟩
/-- Package chain's Read. -/
theorem chRead_any (v : Value) (xs : List Ub) (a : Int) (w : World) (h : ChAt w v xs) :
    Calls Tryz.prog 178 #[v, .int .i64 a] w fun e w' => e = .returned (.tuple #[(readOf (unitsOf xs) a).1.val, .int .i64 (readOf (unitsOf xs) a).2]) ∧ Below w.heap.size w w' := by
  by_cases hd : ckChain (unitsOf xs) = 0
  · by_cases ha : 0 ≤ a ∧ a ≤ 59
    · obtain ⟨U0, U1, U2, a0, c0, a1, c1, a2, c2, b, off, c, rfl, rfl, d0, d1, d2⟩ := right_three h hd
      obtain ⟨m, rfl⟩ : ∃ m : Nat, a = m := ⟨a.toNat, by omega⟩
      have hm : m < 60 := by omega
      obtain ⟨y2, hy2⟩ : ∃ y, U2.cells[m]? = some y := ⟨_, plc_some (us := [U2]) (k := 0) rfl d2 hm⟩
      have e2 : plc (unitsOf [⟨U0, .slice a0 60 c0⟩, ⟨U1, .slice a1 60 c1⟩, ⟨U2, .slice a2 60 c2⟩]) 2 m = y2 := plc_eq (u := U2) rfl hy2
      rw [readOf, if_neg (by simpa using hd), if_neg (by simpa using ha), show ((m : Int).toNat) = m from rfl, e2]
      cases hb : y2.isB with
      | true => rw [if_pos rfl]; exact chRead_late b off c m U0 U1 U2 a0 a1 a2 c0 c1 c2 w h hd hm y2 hy2 hb
      | false => rw [if_neg (by simp)]; exact chRead_stands b off c m U0 U1 U2 a0 a1 a2 c0 c1 c2 w h hd hm y2 hy2 hb
    · rw [readOf, if_neg (by simpa using hd), if_pos ha]
      exact chRead_who v xs a w h hd ha
  · rw [readOf, if_pos hd]
    exact chRead_ck v xs a w h _ rfl (by rw [bne_iff_ne]; exact hd)
end Go.Proofs.YtmoaobfmopimlafGreatDoor
namespace Go.Proofs.YtmoaobfmopimlafGreatDoor
open Go.RowKit
open scoped Classical
theorem chains_any : Chains where
  check := fun v xs W h _ => chCheck_any v xs W h
  link := fun v xs k a ep x W h _ => chLink_any v xs k a ep x W h
  read := fun v xs a W h _ => chRead_any v xs a W h
end Go.Proofs.YtmoaobfmopimlafGreatDoor
namespace Go.Proofs.YtmoaobfmopimlafGreatDoor
open Go.RowKit
/-- An entry's cells stored. -/
abbrev stE (w : World) (b : Nat) (x : En) : World := ((((w.setCell ⟨b, 0, none⟩ (.int .i64 x.k)).setCell ⟨b, 1, none⟩ (.int .i64 x.j)).setCell ⟨b, 2, none⟩ (.int .i64 x.v)).setCell ⟨b, 3, none⟩ (.int .i64 x.t)).setCell ⟨b, 4, none⟩ (.int .i64 x.c)
theorem stE_below {W0 w : World} {b : Nat} (h : Below W0.heap.size W0 w) (hb : W0.heap.size ≤ b) (x : En) : Below W0.heap.size W0 (stE w b x) :=
  ((((h.setCell (p := ⟨b, 0, none⟩) hb _).setCell (p := ⟨b, 1, none⟩) hb _).setCell (p := ⟨b, 2, none⟩) hb _).setCell (p := ⟨b, 3, none⟩) hb _).setCell (p := ⟨b, 4, none⟩) hb _
theorem stE_box {w : World} {b : Nat} {k j v t c : Int} (h : w.heap[b]? = some (boxE k j v t c)) (x : En) : (stE w b x).heap[b]? = some (boxE x.k x.j x.v x.t x.c) := by
  have g0 := Joins.block_setCell h (i := 0) (.int .i64 x.k)
  have g1 := Joins.block_setCell g0 (i := 1) (.int .i64 x.j)
  have g2 := Joins.block_setCell g1 (i := 2) (.int .i64 x.v)
  have g3 := Joins.block_setCell g2 (i := 3) (.int .i64 x.t)
  have g4 := Joins.block_setCell g3 (i := 4) (.int .i64 x.c)
  simp only [List.setIfInBounds_toArray, List.set_cons_zero, List.set_cons_succ] at g4
  exact g4
theorem stE_other {w : World} {b q : Nat} {o : Obj} (h : w.heap[q]? = some o) (hne : q ≠ b) (x : En) : (stE w b x).heap[q]? = some o :=
  other_block (other_block (other_block (other_block (other_block h hne _ _) hne _ _) hne _ _) hne _ _) hne _ _
/-- An entry in a box that was made. -/
structure EBx (W0 wx : World) (b : Nat) (x : En) : Prop where
  box : wx.heap[b]? = some (boxE x.k x.j x.v x.t x.c)
  base : W0.heap.size ≤ b
  below : Below W0.heap.size W0 wx
/-- What a chain is asked for, ahead of a call. -/
theorem kread {xs : List Nb} (hf : Fits (ubsOf xs)) (hc : ckChain ((nodesOf xs).map Nd.u) = 0) (a : Int) {x : En} {d : Int} (hq : readIn ((nodesOf xs).map Nd.u) a = (x, d)) (W : World) (u : Value) (h : ChAt W u (ubsOf xs)) :
    Calls Tryz.prog 178 #[u, .int .i64 a] W fun e w' => e = .returned (.tuple #[x.val, .int .i64 d]) ∧ Below W.heap.size W w' := by
  have := chains_any.read u (ubsOf xs) a W h hf
  rw [ubs_units, readOf_in hc, hq] at this
  exact this
set_option linter.unusedSimpArgs false in
set_option maxHeartbeats 8000000 in
set_option maxRecDepth 100000 in
theorem w_play_at (c : Cl) (a1 a2 : Option Addr) (m1 k1 m2 k2 : Nat) (xs : List Nb) (g1 : Nat) (w : World) (hb : BkAt w (.slice a1 m1 k1) (.slice a2 m2 k2) c) (hv : SlOf Nb.cells 5 w (.slice (some ⟨g1, 0, none⟩) 3 3) xs) (hu : ∀ x, x ∈ xs → NodeT w x) (hf : Fits (ubsOf xs)) (hc : ckChain ((nodesOf xs).map Nd.u) = 0)
    (h60 : (c.n == 60) = false) {x2 : Nb} (hx2 : xs[2]? = some x2) (hup : x2.n.up = true) :
    AnsT 141 #[c.val (.slice a1 m1 k1) (.slice a2 m2 k2), .slice (some ⟨g1, 0, none⟩) 3 3] w (if (readIn ((nodesOf xs).map Nd.u) c.n).2 ≠ 0 then (Cl.zero, (readIn ((nodesOf xs).map Nd.u) c.n).2) else playOf c (readIn ((nodesOf xs).map Nd.u) c.n).1) := by
  obtain ⟨⟨s, d⟩, hq⟩ : ∃ q, readIn ((nodesOf xs).map Nd.u) c.n = q := ⟨_, rfl⟩
  obtain ⟨⟨R, f⟩, hp⟩ : ∃ q, playOf c s = q := ⟨_, rfl⟩
  rw [hq]
  simp only
  rw [hp]
  have hl3 : xs.length = 3 := hv.len
  obtain ⟨rr, HRR⟩ : ∃ rr, Hid ((if d ≠ 0 then (Cl.zero, d) else (R, f)) = rr) := ⟨_, rfl⟩
  rw [HRR.out]
  have HC : Hid ((d ≠ 0 ∧ rr = (Cl.zero, d)) ∨ (d = 0 ∧ rr = (R, f))) := by
    have := HRR.out
    by_cases h0 : d = 0
    · rw [if_neg (not_not_intro h0)] at this; exact Or.inr ⟨h0, this.symm⟩
    · rw [if_pos h0] at this; exact Or.inl ⟨h0, this.symm⟩
  have kr : Aside (∀ W u, ChAt W u (ubsOf xs) → Calls Tryz.prog 178 #[u, .int .i64 c.n] W fun e w' => e = .returned (.tuple #[s.val, .int .i64 d]) ∧ Below W.heap.size W w') := kread hf hc c.n hq
  have kU : Aside (∀ W, Below w.heap.size w W → Calls Tryz.prog 106 #[.slice (some ⟨g1, 0, none⟩) 3 3] W fun e w' => ∃ u, e = .returned u ∧ ChAt w' u (ubsOf xs) ∧ Below W.heap.size W w') := fun W hb' => w_units _ xs W (hv.later hb') (by omega) (fun y hy => (hu y hy).later hb')
  have kp : Aside (∀ W, Below w.heap.size w W → AnsT 179 #[c.val (.slice a1 m1 k1) (.slice a2 m2 k2), s.val] W (R, f)) := fun W hb' => by
    have := cl_play c s (.slice a1 m1 k1) (.slice a2 m2 k2) W (bkAt_later hb hb')
    rwa [hp] at this
  have HE : Aside (RowAt Nb.cells 5 w g1 0 xs) := by
    obtain ⟨b, off, he, hE⟩ := hv.at (by omega)
    injection he with he
    injection he with e1 e2 e3
    rw [← e1, ← e2] at hE
    exact hE
  have hup14 : Aside (∀ W, Below w.heap.size w W → W.cell? ⟨g1, 14, none⟩ = some (.bool true)) := fun W hb' => by
    have := (HE.out.later hb') 2 x2 hx2 4 _ rfl
    rw [hup] at this
    simpa using this
  clear hq hp hv hu hf hc hb hx2 hup HRR hl3 HE
  have B0 : Aside (Below w.heap.size w ((w.alloc (boxC c (.slice a1 m1 k1) (.slice a2 m2 k2))).alloc (boxZ))) := grew (grew (Below.refl _ _) _) _
  have h0_0 : Aside (((w.alloc (boxC c (.slice a1 m1 k1) (.slice a2 m2 k2))).alloc (boxZ)).heap[w.heap.size]? = some (boxC c (.slice a1 m1 k1) (.slice a2 m2 k2))) := by
    have := heap_new w (boxC c (.slice a1 m1 k1) (.slice a2 m2 k2))
    exact heap_old (this) _
  have h1_0 : Aside (((w.alloc (boxC c (.slice a1 m1 k1) (.slice a2 m2 k2))).alloc (boxZ)).heap[w.heap.size + 1]? = some (boxZ)) := by
    have := heap_new (w.alloc (boxC c (.slice a1 m1 k1) (.slice a2 m2 k2))) (boxZ)
    rw [World.size_alloc] at this
    exact this
  go_enter Tryz.func141, Tryz.ntmps141
  go_upto_region 1 with fail
  generalize ((w.alloc (boxC c (.slice a1 m1 k1) (.slice a2 m2 k2))).alloc (boxZ)) = w0 at *
  have z0 : ∀ i, w0.cell? ⟨w.heap.size, i, none⟩ = #[Value.int .i64 c.p, .int .i64 c.d, .int .i64 c.e.k, .int .i64 c.e.j, .int .i64 c.e.v, .int .i64 c.e.t, .int .i64 c.e.c, .int .i64 c.a, .int .i64 c.l, .int .i64 c.n, .slice a1 m1 k1, .slice a2 m2 k2][i]? := fun i => Joins.cell_of_block h0_0.out i
  have hu14 := hup14.out w0 B0.out
  clear hup14
  go_upto_region 5 with fail
  clear z0 hu14
  have ku : Aside (∀ W, Below w0.heap.size w0 W → Calls Tryz.prog 106 #[.slice (some ⟨g1, 0, none⟩) 3 3] W fun e w' => ∃ u, e = .returned u ∧ ChAt w' u (ubsOf xs) ∧ Below W.heap.size W w') := fun W hb' => kU.out W (B0.out.trans (hb'.mono B0.out.size))
  clear kU
  generalize w0 = W0 at *
  go_cut [6, 7] from 21 to 28 (fun s6 s7 wx => ∃ b : Nat, s6 = .pointer (some ⟨b, 0, none⟩) ∧ s7 = .int .i64 d ∧ EBx W0 wx b s)
  case first =>
    refine wp_region_held_drew (S := fun W' => Below W0.heap.size W0 W') (by kernel_rfl) ((Below.refl _ _).drew) (fun hHeld => ?_)
    refine wpAnyH_take (i := 0) (oi := ?oi0r) (v := ?v0r) ?hi0r ?hs0r ?hf0r ?hr0r ?hQ0r (Or.inl ⟨?hw0r, ?hy0r⟩) (by assumption) ?h0r
    case hi0r => (simp only [List.getElem?_toArray, List.getElem?_cons_succ, List.getElem?_cons_zero]; rfl)
    case hs0r => kernel_rfl
    case hf0r => kernel_rfl
    case hr0r => kernel_rfl
    case hw0r => rfl
    case hy0r => (intro w0 hSw; clear hSw; go_simp; first | done | with_reducible rfl)
    case hQ0r => exact fun _ _ _ h => h
    try simp only [Act.put, List.setIfInBounds_toArray, List.set_cons_zero, List.set_cons_succ]
    refine wpAnyH_take (i := 2) (oi := ?oi2r) (v := ?v2r) ?hi2r ?hs2r ?hf2r ?hr2r ?hQ2r (Or.inl ⟨?hw2r, ?hy2r⟩) (by assumption) ?h2r
    case hi2r => (simp only [List.getElem?_toArray, List.getElem?_cons_succ, List.getElem?_cons_zero]; rfl)
    case hs2r => kernel_rfl
    case hf2r => kernel_rfl
    case hr2r => kernel_rfl
    case hw2r => rfl
    case hy2r => (intro w0 hSw; clear hSw; go_simp; first | done | with_reducible rfl)
    case hQ2r => exact fun _ _ _ h => h
    try simp only [Act.put, List.setIfInBounds_toArray, List.set_cons_zero, List.set_cons_succ]
    refine wpAnyH_take (i := 3) (oi := ?oi3r) (v := ?v3r) ?hi3r ?hs3r ?hf3r ?hr3r ?hQ3r (Or.inl ⟨?hw3r, ?hy3r⟩) (by assumption) ?h3r
    case hi3r => (simp only [List.getElem?_toArray, List.getElem?_cons_succ, List.getElem?_cons_zero]; rfl)
    case hs3r => kernel_rfl
    case hf3r => kernel_rfl
    case hr3r => kernel_rfl
    case hw3r => rfl
    case hy3r => (intro w0 hSw; have z := (show ∀ i, w0.cell? ⟨w.heap.size, i, none⟩ = #[Value.int .i64 c.p, .int .i64 c.d, .int .i64 c.e.k, .int .i64 c.e.j, .int .i64 c.e.v, .int .i64 c.e.t, .int .i64 c.e.c, .int .i64 c.a, .int .i64 c.l, .int .i64 c.n, .slice a1 m1 k1, .slice a2 m2 k2][i]? from fun i => Joins.cell_of_block (heap_below h0_0.out hSw (heap_lt h0_0.out)) i); clear hSw; go_simp; first | done | with_reducible rfl)
    case hQ3r => exact fun _ _ _ h => h
    try simp only [Act.put, List.setIfInBounds_toArray, List.set_cons_zero, List.set_cons_succ]
    refine wpAnyH_ready (rs := [1, 8]) (by kernel_rfl) (by simp) ?_
    refine AllReadyH.cons (o := ?o1r) ?hi1r ?step1r (AllReadyH.cons (o := ?o8r) ?hi8r ?step8r AllReadyH.nil)
    case hi1r => (simp only [List.getElem?_toArray, List.getElem?_cons_succ, List.getElem?_cons_zero]; rfl)
    case hi8r => (simp only [List.getElem?_toArray, List.getElem?_cons_succ, List.getElem?_cons_zero]; rfl)
    case step1r =>
      intro K hK
      go_simp
      refine (ku.out _ hHeld).mono ?_
      rintro e w1 ⟨u, rfl, hch, hb1⟩
      have hH1 : Below W0.heap.size W0 w1 := step_below1 hHeld hb1
      refine hK.out _ _ hH1 (fun hHeld => ?_)
      clear hK K
      try simp only [Act.put, List.setIfInBounds_toArray, List.set_cons_zero, List.set_cons_succ]
      refine wpAnyH_ready (rs := [4, 8]) (by kernel_rfl) (by simp) ?_
      refine AllReadyH.cons (o := ?o4ra) ?hi4ra ?step4ra (AllReadyH.cons (o := ?o8ra) ?hi8ra ?step8ra AllReadyH.nil)
      case hi4ra => (simp only [List.getElem?_toArray, List.getElem?_cons_succ, List.getElem?_cons_zero]; rfl)
      case hi8ra => (simp only [List.getElem?_toArray, List.getElem?_cons_succ, List.getElem?_cons_zero]; rfl)
      case step4ra =>
        intro K hK
        go_simp
        refine (kr.out _ _ hch).mono ?_
        rintro e w2 ⟨rfl, hb2⟩
        have hH2 : Below W0.heap.size W0 w2 := step_below1 hHeld hb2
        have hch2 := ChAt.later hch hb2
        refine hK.out _ _ hH2 (fun hHeld => ?_)
        clear hK K
        try simp only [Act.put, List.setIfInBounds_toArray, List.set_cons_zero, List.set_cons_succ]
        refine wpAnyH_take (i := 5) (oi := ?oi5raa) (v := ?v5raa) ?hi5raa ?hs5raa ?hf5raa ?hr5raa ?hQ5raa (Or.inl ⟨?hw5raa, ?hy5raa⟩) (by assumption) ?h5raa
        case hi5raa => (simp only [List.getElem?_toArray, List.getElem?_cons_succ, List.getElem?_cons_zero]; rfl)
        case hs5raa => kernel_rfl
        case hf5raa => kernel_rfl
        case hr5raa => kernel_rfl
        case hw5raa => rfl
        case hy5raa => (intro w0 hSw; clear hSw; go_simp; first | done | with_reducible rfl)
        case hQ5raa => exact fun _ _ _ h => h
        try simp only [Act.put, List.setIfInBounds_toArray, List.set_cons_zero, List.set_cons_succ]
        refine wpAnyH_take (i := 6) (oi := ?oi6raa) (v := ?v6raa) ?hi6raa ?hs6raa ?hf6raa ?hr6raa ?hQ6raa (Or.inl ⟨?hw6raa, ?hy6raa⟩) (by assumption) ?h6raa
        case hi6raa => (simp only [List.getElem?_toArray, List.getElem?_cons_succ, List.getElem?_cons_zero]; rfl)
        case hs6raa => kernel_rfl
        case hf6raa => kernel_rfl
        case hr6raa => kernel_rfl
        case hw6raa => rfl
        case hy6raa => (intro w0 hSw; clear hSw; go_simp; first | done | with_reducible rfl)
        case hQ6raa => exact fun _ _ _ h => h
        try simp only [Act.put, List.setIfInBounds_toArray, List.set_cons_zero, List.set_cons_succ]
        refine wpAnyH_take (i := 7) (oi := ?oi7raa) (v := ?v7raa) ?hi7raa ?hs7raa ?hf7raa ?hr7raa ?hQ7raa (Or.inl ⟨?hw7raa, ?hy7raa⟩) (by assumption) ?h7raa
        case hi7raa => (simp only [List.getElem?_toArray, List.getElem?_cons_succ, List.getElem?_cons_zero]; rfl)
        case hs7raa => kernel_rfl
        case hf7raa => kernel_rfl
        case hr7raa => kernel_rfl
        case hw7raa => rfl
        case hy7raa => (intro w0 hSw; clear hSw; go_simp; first | done | with_reducible rfl)
        case hQ7raa => exact fun _ _ _ h => h
        try simp only [Act.put, List.setIfInBounds_toArray, List.set_cons_zero, List.set_cons_succ]
        refine wpAnyH_ready (rs := [8]) (by kernel_rfl) (by simp) ?_
        refine AllReadyH.cons (o := ?o8raa) ?hi8raa ?step8raa AllReadyH.nil
        case hi8raa => (simp only [List.getElem?_toArray, List.getElem?_cons_succ, List.getElem?_cons_zero]; rfl)
        intro K hK
        go_simp
        have lx : W0.heap.size ≤ w2.heap.size := hHeld.size
        refine hK.out _ _ (grew hHeld _) (fun hHeld => ?_)
        clear hK K
        try simp only [Act.put, List.setIfInBounds_toArray, List.set_cons_zero, List.set_cons_succ]
        have x3 : (w2.alloc (boxE 0 0 0 0 0)).heap[w2.heap.size]? = some (boxE 0 0 0 0 0) := heap_new _ _
        have hch3 : _ := ChAt.later hch2 (show Below w2.heap.size w2 (w2.alloc (boxE 0 0 0 0 0)) from grew (Below.refl _ _) _)
        generalize w2.alloc (boxE 0 0 0 0 0) = w3 at *
        generalize w2.heap.size = dx at *
        have cc := fun i => Joins.cell_of_block x3 i
        have ff := fun i => Joins.unfrozen_of_block x3 i
        refine wpAnyH_ready (rs := [9]) (by kernel_rfl) (by simp) ?_
        refine AllReadyH.cons (o := ?o9raax) ?hi9raax ?step9raax AllReadyH.nil
        case hi9raax => (simp only [List.getElem?_toArray, List.getElem?_cons_succ, List.getElem?_cons_zero]; rfl)
        intro K hK
        go_simp
        refine hK.out _ _ (stE_below hHeld lx s) (fun hHeld => ?_)
        clear hK K
        try simp only [Act.put, List.setIfInBounds_toArray, List.set_cons_zero, List.set_cons_succ]
        refine wpAnyH_ready (rs := [10]) (by kernel_rfl) (by simp) ?_
        refine AllReadyH.cons (o := ?o10raax) ?hi10raax ?step10raax AllReadyH.nil
        case hi10raax => (simp only [List.getElem?_toArray, List.getElem?_cons_succ, List.getElem?_cons_zero]; rfl)
        intro K hK
        go_simp
        refine hK.out _ _ (hHeld) (fun hHeld => ?_)
        clear hK K
        try simp only [Act.put, List.setIfInBounds_toArray, List.set_cons_zero, List.set_cons_succ]
        refine wpAnyH_done (by kernel_rfl) ?_ _
        go_wp2_with fail
        go_meet
        case rel => exact ⟨_, rfl, rfl, ⟨stE_box x3 s, lx, hHeld⟩⟩
      case step8ra =>
        intro K hK
        go_simp
        have lx : W0.heap.size ≤ w1.heap.size := hHeld.size
        refine hK.out _ _ (grew hHeld _) (fun hHeld => ?_)
        clear hK K
        try simp only [Act.put, List.setIfInBounds_toArray, List.set_cons_zero, List.set_cons_succ]
        have x2 : (w1.alloc (boxE 0 0 0 0 0)).heap[w1.heap.size]? = some (boxE 0 0 0 0 0) := heap_new _ _
        have hch2 : _ := ChAt.later hch (show Below w1.heap.size w1 (w1.alloc (boxE 0 0 0 0 0)) from grew (Below.refl _ _) _)
        generalize w1.alloc (boxE 0 0 0 0 0) = w2 at *
        generalize w1.heap.size = dx at *
        refine wpAnyH_ready (rs := [4]) (by kernel_rfl) (by simp) ?_
        refine AllReadyH.cons (o := ?o4rab) ?hi4rab ?step4rab AllReadyH.nil
        case hi4rab => (simp only [List.getElem?_toArray, List.getElem?_cons_succ, List.getElem?_cons_zero]; rfl)
        intro K hK
        go_simp
        refine (kr.out _ _ hch2).mono ?_
        rintro e w3 ⟨rfl, hb3⟩
        have hH3 : Below W0.heap.size W0 w3 := step_below1 hHeld hb3
        have hch3 := ChAt.later hch2 hb3
        have x3 := heap_below x2 hb3 (heap_lt x2)
        refine hK.out _ _ hH3 (fun hHeld => ?_)
        clear hK K
        try simp only [Act.put, List.setIfInBounds_toArray, List.set_cons_zero, List.set_cons_succ]
        refine wpAnyH_take (i := 5) (oi := ?oi5rabx) (v := ?v5rabx) ?hi5rabx ?hs5rabx ?hf5rabx ?hr5rabx ?hQ5rabx (Or.inl ⟨?hw5rabx, ?hy5rabx⟩) (by assumption) ?h5rabx
        case hi5rabx => (simp only [List.getElem?_toArray, List.getElem?_cons_succ, List.getElem?_cons_zero]; rfl)
        case hs5rabx => kernel_rfl
        case hf5rabx => kernel_rfl
        case hr5rabx => kernel_rfl
        case hw5rabx => rfl
        case hy5rabx => (intro w0 hSw; clear hSw; go_simp; first | done | with_reducible rfl)
        case hQ5rabx => exact fun _ _ _ h => h
        try simp only [Act.put, List.setIfInBounds_toArray, List.set_cons_zero, List.set_cons_succ]
        refine wpAnyH_take (i := 6) (oi := ?oi6rabx) (v := ?v6rabx) ?hi6rabx ?hs6rabx ?hf6rabx ?hr6rabx ?hQ6rabx (Or.inl ⟨?hw6rabx, ?hy6rabx⟩) (by assumption) ?h6rabx
        case hi6rabx => (simp only [List.getElem?_toArray, List.getElem?_cons_succ, List.getElem?_cons_zero]; rfl)
        case hs6rabx => kernel_rfl
        case hf6rabx => kernel_rfl
        case hr6rabx => kernel_rfl
        case hw6rabx => rfl
        case hy6rabx => (intro w0 hSw; clear hSw; go_simp; first | done | with_reducible rfl)
        case hQ6rabx => exact fun _ _ _ h => h
        try simp only [Act.put, List.setIfInBounds_toArray, List.set_cons_zero, List.set_cons_succ]
        refine wpAnyH_take (i := 7) (oi := ?oi7rabx) (v := ?v7rabx) ?hi7rabx ?hs7rabx ?hf7rabx ?hr7rabx ?hQ7rabx (Or.inl ⟨?hw7rabx, ?hy7rabx⟩) (by assumption) ?h7rabx
        case hi7rabx => (simp only [List.getElem?_toArray, List.getElem?_cons_succ, List.getElem?_cons_zero]; rfl)
        case hs7rabx => kernel_rfl
        case hf7rabx => kernel_rfl
        case hr7rabx => kernel_rfl
        case hw7rabx => rfl
        case hy7rabx => (intro w0 hSw; clear hSw; go_simp; first | done | with_reducible rfl)
        case hQ7rabx => exact fun _ _ _ h => h
        try simp only [Act.put, List.setIfInBounds_toArray, List.set_cons_zero, List.set_cons_succ]
        have cc := fun i => Joins.cell_of_block x3 i
        have ff := fun i => Joins.unfrozen_of_block x3 i
        refine wpAnyH_ready (rs := [9]) (by kernel_rfl) (by simp) ?_
        refine AllReadyH.cons (o := ?o9rabx) ?hi9rabx ?step9rabx AllReadyH.nil
        case hi9rabx => (simp only [List.getElem?_toArray, List.getElem?_cons_succ, List.getElem?_cons_zero]; rfl)
        intro K hK
        go_simp
        refine hK.out _ _ (stE_below hHeld lx s) (fun hHeld => ?_)
        clear hK K
        try simp only [Act.put, List.setIfInBounds_toArray, List.set_cons_zero, List.set_cons_succ]
        refine wpAnyH_ready (rs := [10]) (by kernel_rfl) (by simp) ?_
        refine AllReadyH.cons (o := ?o10rabx) ?hi10rabx ?step10rabx AllReadyH.nil
        case hi10rabx => (simp only [List.getElem?_toArray, List.getElem?_cons_succ, List.getElem?_cons_zero]; rfl)
        intro K hK
        go_simp
        refine hK.out _ _ (hHeld) (fun hHeld => ?_)
        clear hK K
        try simp only [Act.put, List.setIfInBounds_toArray, List.set_cons_zero, List.set_cons_succ]
        refine wpAnyH_done (by kernel_rfl) ?_ _
        go_wp2_with fail
        go_meet
        case rel => exact ⟨_, rfl, rfl, ⟨stE_box x3 s, lx, hHeld⟩⟩
    case step8r =>
      intro K hK
      go_simp
      have lx : W0.heap.size ≤ W0.heap.size := Nat.le_refl _
      refine hK.out _ _ (grew hHeld _) (fun hHeld => ?_)
      clear hK K
      try simp only [Act.put, List.setIfInBounds_toArray, List.set_cons_zero, List.set_cons_succ]
      have x1 : ((W0.alloc (boxE 0 0 0 0 0)).drew).heap[W0.heap.size]? = some (boxE 0 0 0 0 0) := heap_new _ _
      generalize (W0.alloc (boxE 0 0 0 0 0)).drew = w1 at *
      refine wpAnyH_ready (rs := [1]) (by kernel_rfl) (by simp) ?_
      refine AllReadyH.cons (o := ?o1rb) ?hi1rb ?step1rb AllReadyH.nil
      case hi1rb => (simp only [List.getElem?_toArray, List.getElem?_cons_succ, List.getElem?_cons_zero]; rfl)
      intro K hK
      go_simp
      refine (ku.out _ hHeld).mono ?_
      rintro e w2 ⟨u, rfl, hch, hb2⟩
      have hH2 : Below W0.heap.size W0 w2 := step_below1 hHeld hb2
      have x2 := heap_below x1 hb2 (heap_lt x1)
      refine hK.out _ _ hH2 (fun hHeld => ?_)
      clear hK K
      try simp only [Act.put, List.setIfInBounds_toArray, List.set_cons_zero, List.set_cons_succ]
      refine wpAnyH_ready (rs := [4]) (by kernel_rfl) (by simp) ?_
      refine AllReadyH.cons (o := ?o4rbx) ?hi4rbx ?step4rbx AllReadyH.nil
      case hi4rbx => (simp only [List.getElem?_toArray, List.getElem?_cons_succ, List.getElem?_cons_zero]; rfl)
      intro K hK
      go_simp
      refine (kr.out _ _ hch).mono ?_
      rintro e w3 ⟨rfl, hb3⟩
      have hH3 : Below W0.heap.size W0 w3 := step_below1 hHeld hb3
      have x3 := heap_below x2 hb3 (heap_lt x2)
      have hch3 := ChAt.later hch hb3
      refine hK.out _ _ hH3 (fun hHeld => ?_)
      clear hK K
      try simp only [Act.put, List.setIfInBounds_toArray, List.set_cons_zero, List.set_cons_succ]
      refine wpAnyH_take (i := 5) (oi := ?oi5rbxx) (v := ?v5rbxx) ?hi5rbxx ?hs5rbxx ?hf5rbxx ?hr5rbxx ?hQ5rbxx (Or.inl ⟨?hw5rbxx, ?hy5rbxx⟩) (by assumption) ?h5rbxx
      case hi5rbxx => (simp only [List.getElem?_toArray, List.getElem?_cons_succ, List.getElem?_cons_zero]; rfl)
      case hs5rbxx => kernel_rfl
      case hf5rbxx => kernel_rfl
      case hr5rbxx => kernel_rfl
      case hw5rbxx => rfl
      case hy5rbxx => (intro w0 hSw; clear hSw; go_simp; first | done | with_reducible rfl)
      case hQ5rbxx => exact fun _ _ _ h => h
      try simp only [Act.put, List.setIfInBounds_toArray, List.set_cons_zero, List.set_cons_succ]
      refine wpAnyH_take (i := 6) (oi := ?oi6rbxx) (v := ?v6rbxx) ?hi6rbxx ?hs6rbxx ?hf6rbxx ?hr6rbxx ?hQ6rbxx (Or.inl ⟨?hw6rbxx, ?hy6rbxx⟩) (by assumption) ?h6rbxx
      case hi6rbxx => (simp only [List.getElem?_toArray, List.getElem?_cons_succ, List.getElem?_cons_zero]; rfl)
      case hs6rbxx => kernel_rfl
      case hf6rbxx => kernel_rfl
      case hr6rbxx => kernel_rfl
      case hw6rbxx => rfl
      case hy6rbxx => (intro w0 hSw; clear hSw; go_simp; first | done | with_reducible rfl)
      case hQ6rbxx => exact fun _ _ _ h => h
      try simp only [Act.put, List.setIfInBounds_toArray, List.set_cons_zero, List.set_cons_succ]
      refine wpAnyH_take (i := 7) (oi := ?oi7rbxx) (v := ?v7rbxx) ?hi7rbxx ?hs7rbxx ?hf7rbxx ?hr7rbxx ?hQ7rbxx (Or.inl ⟨?hw7rbxx, ?hy7rbxx⟩) (by assumption) ?h7rbxx
      case hi7rbxx => (simp only [List.getElem?_toArray, List.getElem?_cons_succ, List.getElem?_cons_zero]; rfl)
      case hs7rbxx => kernel_rfl
      case hf7rbxx => kernel_rfl
      case hr7rbxx => kernel_rfl
      case hw7rbxx => rfl
      case hy7rbxx => (intro w0 hSw; clear hSw; go_simp; first | done | with_reducible rfl)
      case hQ7rbxx => exact fun _ _ _ h => h
      try simp only [Act.put, List.setIfInBounds_toArray, List.set_cons_zero, List.set_cons_succ]
      have cc := fun i => Joins.cell_of_block x3 i
      have ff := fun i => Joins.unfrozen_of_block x3 i
      refine wpAnyH_ready (rs := [9]) (by kernel_rfl) (by simp) ?_
      refine AllReadyH.cons (o := ?o9rbxx) ?hi9rbxx ?step9rbxx AllReadyH.nil
      case hi9rbxx => (simp only [List.getElem?_toArray, List.getElem?_cons_succ, List.getElem?_cons_zero]; rfl)
      intro K hK
      go_simp
      refine hK.out _ _ (stE_below hHeld lx s) (fun hHeld => ?_)
      clear hK K
      try simp only [Act.put, List.setIfInBounds_toArray, List.set_cons_zero, List.set_cons_succ]
      refine wpAnyH_ready (rs := [10]) (by kernel_rfl) (by simp) ?_
      refine AllReadyH.cons (o := ?o10rbxx) ?hi10rbxx ?step10rbxx AllReadyH.nil
      case hi10rbxx => (simp only [List.getElem?_toArray, List.getElem?_cons_succ, List.getElem?_cons_zero]; rfl)
      intro K hK
      go_simp
      refine hK.out _ _ (hHeld) (fun hHeld => ?_)
      clear hK K
      try simp only [Act.put, List.setIfInBounds_toArray, List.set_cons_zero, List.set_cons_succ]
      refine wpAnyH_done (by kernel_rfl) ?_ _
      go_wp2_with fail
      go_meet
      case rel => exact ⟨_, rfl, rfl, ⟨stE_box x3 s, lx, hHeld⟩⟩
  case rest =>
    obtain ⟨b, rfl, rfl, hE⟩ := hcut
    have h0_1 : Aside _ := heap_below h0_0.out hE.below (heap_lt h0_0.out)
    have h1_1 : Aside _ := heap_below h1_0.out hE.below (heap_lt h1_0.out)
    have B1 : Aside (Below w.heap.size w wc) := B0.out.trans (hE.below.mono B0.out.size)
    have HX : Aside (wc.heap[b]? = some (boxE s.k s.j s.v s.t s.c)) := hE.box
    clear hE h0_0 h1_0 B0 ku kr
    generalize wc = w1 at *
    rcases HC.out with ⟨h0, h1⟩ | ⟨h0, h1⟩
    · have hz : (d != 0) = true := by rw [bne_iff_ne]; exact h0
      subst h1
      clear h0 HC kp HX h0_1
      have z1 : ∀ i, w1.cell? ⟨w.heap.size + 1, i, none⟩ = #[Value.int .i64 0, .int .i64 0, .int .i64 0, .int .i64 0, .int .i64 0, .int .i64 0, .int .i64 0, .int .i64 0, .int .i64 0, .int .i64 0, .slice none 0 0, .slice none 0 0][i]? := fun i => Joins.cell_of_block h1_1.out i
      have fz1 : ∀ i, w1.frozen? ⟨w.heap.size + 1, i, none⟩ = false := fun i => Joins.unfrozen_of_block h1_1.out i
      go_wp2
      refine ret_st (p := 4) (q := 5) w1 (w.heap.size + 1) Cl.zero nil0 nil0 (o := Cl.zero) (u1 := nil0) (u2 := nil0) Tryz.results141 rfl rfl rfl h1_1.out rfl ?_
      exact ⟨nil0, nil0, rfl, bkT_nil _ rfl rfl, st12_below B1.out (by omega) _ _ _⟩
    · have hz : (d != 0) = false := by rw [h0]; rfl
      subst h1
      clear h0 HC
      have zx : ∀ i, w1.cell? ⟨b, i, none⟩ = #[Value.int .i64 s.k, .int .i64 s.j, .int .i64 s.v, .int .i64 s.t, .int .i64 s.c][i]? := fun i => Joins.cell_of_block HX.out i
      have z0 : ∀ i, w1.cell? ⟨w.heap.size, i, none⟩ = #[Value.int .i64 c.p, .int .i64 c.d, .int .i64 c.e.k, .int .i64 c.e.j, .int .i64 c.e.v, .int .i64 c.e.t, .int .i64 c.e.c, .int .i64 c.a, .int .i64 c.l, .int .i64 c.n, .slice a1 m1 k1, .slice a2 m2 k2][i]? := fun i => Joins.cell_of_block h0_1.out i
      go_wp2_with fail
      refine (kp.out w1 B1.out).mono ?_
      rintro e w2 ⟨u1, u2, rfl, hT, hb2⟩
      have hR : Aside (w2.heap[w.heap.size + 1]? = some (boxZ)) := heap_below h1_1.out hb2 (heap_lt h1_1.out)
      have hB : Aside (Below w.heap.size w w2) := step_below1 B1.out hb2
      have HT : Aside (BkT w2 u1 u2 R) := hT
      obtain ⟨s1, o1, s2, o2, rfl, rfl⟩ := bk_slices hT.1.1 hT.1.2
      clear hb2 B1 hT h0_1 h1_1 zx z0 kp HX
      obtain ⟨n1, hn1⟩ : ∃ n, Hid ((R).js.length = n) := ⟨_, rfl⟩
      obtain ⟨n2, hn2⟩ : ∃ n, Hid ((R).rs.length = n) := ⟨_, rfl⟩
      rw [hn1.out, hn2.out] at HT ⊢
      have zr : ∀ i, w2.cell? ⟨w.heap.size + 1, i, none⟩ = #[Value.int .i64 0, .int .i64 0, .int .i64 0, .int .i64 0, .int .i64 0, .int .i64 0, .int .i64 0, .int .i64 0, .int .i64 0, .int .i64 0, .slice none 0 0, .slice none 0 0][i]? := fun i => Joins.cell_of_block hR.out i
      have fzr : ∀ i, w2.frozen? ⟨w.heap.size + 1, i, none⟩ = false := fun i => Joins.unfrozen_of_block hR.out i
      go_wp2
      refine ret_st (p := 4) (q := 5) w2 (w.heap.size + 1) (R) (.slice s1 n1 o1) (.slice s2 n2 o2) (o := Cl.zero) (u1 := nil0) (u2 := nil0) Tryz.results141 rfl rfl rfl hR.out rfl ?_
      exact ⟨(.slice s1 n1 o1), (.slice s2 n2 o2), rfl, bkT_st12 ⟨_, hR.out⟩ HT.out _ _ _, st12_below hB.out (by omega) _ _ _⟩
end Go.Proofs.YtmoaobfmopimlafGreatDoor
