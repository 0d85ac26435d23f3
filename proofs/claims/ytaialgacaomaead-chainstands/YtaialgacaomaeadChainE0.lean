/- The reference's Linked at a right entry, unit 0. -/
import Derived.Test.YtaialgacaomaeadChainD
namespace Go.Proofs.Ytaialgacaomaead
open Go.RowKit
open scoped Classical

set_option linter.unusedSimpArgs false in
set_option maxHeartbeats 4000000 in
set_option maxRecDepth 100000 in
theorem linked0_old (b off c m : Nat) (ep : Int) (x : En) (U0 U1 U2 : Un) (a0 a1 a2 : Option Addr) (c0 c1 c2 : Nat) (w : World) (hch : ChAt w (.slice (some ⟨b, off, none⟩) 3 c) [⟨U0, .slice a0 60 c0⟩, ⟨U1, .slice a1 60 c1⟩, ⟨U2, .slice a2 60 c2⟩]) (hd : rkChain [U0, U1, U2] = 0) (hm : m < 60) (hx : x.chk = 0) (y : En) (hy : U0.cells[m]? = some y) (hep : (U0.p != ep) = true) :
    Calls Try.prog 22 #[.slice (some ⟨b, off, none⟩) 3 c, .int .i64 0, .int .i64 (m : Int), x.val, .int .i64 ep] w fun e w' => e = .returned (.tuple #[(((Rc.zero, En.zero, 8) : Rc × En × Int)).1.val, (((Rc.zero, En.zero, 8) : Rc × En × Int)).2.1.val, .int .i64 (((Rc.zero, En.zero, 8) : Rc × En × Int)).2.2]) ∧ Below w.heap.size w w' := by
  have HB0 : Aside (Below w.heap.size w (((w.alloc (boxE x.k x.j x.v x.t x.c)).alloc (boxRc Rc.zero)).alloc (boxE 0 0 0 0 0))) := grew (grew (grew (Below.refl _ _) _) _) _
  have HX0 : Aside ((((w.alloc (boxE x.k x.j x.v x.t x.c)).alloc (boxRc Rc.zero)).alloc (boxE 0 0 0 0 0)).heap[w.heap.size]? = some (boxE x.k x.j x.v x.t x.c)) := heap_old (heap_old (heap_new _ _) _) _
  have HR0 : Aside ((((w.alloc (boxE x.k x.j x.v x.t x.c)).alloc (boxRc Rc.zero)).alloc (boxE 0 0 0 0 0)).heap[w.heap.size + 1]? = some (boxRc Rc.zero)) := by
    have := heap_new (w.alloc (boxE x.k x.j x.v x.t x.c)) (boxRc Rc.zero)
    rw [World.size_alloc] at this
    exact heap_old this _
  have HE0 : Aside ((((w.alloc (boxE x.k x.j x.v x.t x.c)).alloc (boxRc Rc.zero)).alloc (boxE 0 0 0 0 0)).heap[w.heap.size + 1 + 1]? = some (boxE 0 0 0 0 0)) := by
    have := heap_new ((w.alloc (boxE x.k x.j x.v x.t x.c)).alloc (boxRc Rc.zero)) (boxE 0 0 0 0 0)
    rwa [World.size_alloc, World.size_alloc] at this
  have hck := ref_rkChain _ _ _ (hch.later HB0.out)
  rw [show rkChain (unitsOf [⟨U0, .slice a0 60 c0⟩, ⟨U1, .slice a1 60 c1⟩, ⟨U2, .slice a2 60 c2⟩]) = 0 from hd] at hck
  have i1 := fun W => in_any 0 0 2 W
  rw [decide_eq_true (by decide)] at i1
  have i2 := fun W => in_any (m : Int) 0 59 W
  rw [decide_eq_true (by omega)] at i2
  have hce := fun W => ref_check x.k x.j x.v x.t x.c W
  change ∀ W, Calls _ _ _ _ fun e w' => e = .returned (.int .i64 x.chk) ∧ _ at hce
  rw [hx] at hce
  have HCH : Aside (ChAt w (.slice (some ⟨b, off, none⟩) 3 c) [⟨U0, .slice a0 60 c0⟩, ⟨U1, .slice a1 60 c1⟩, ⟨U2, .slice a2 60 c2⟩]) := hch
  have HY : Hid (U0.cells[m]? = some y) := hy
  have hmi : (m : Int) < 60 := by omega
  have hm0 : (0 : Int) ≤ (m : Int) := by omega
  clear hch hd hx hy
  go_enter Try.func22, Try.ntmps22
  go_wp2_with fail
  refine hck.mono ?_
  rintro e w1 ⟨rfl, hb1⟩
  have HX1 : Aside _ := heap_below HX0.out hb1 (heap_lt HX0.out)
  have HR1 : Aside _ := heap_below HR0.out hb1 (heap_lt HR0.out)
  have HE1 : Aside _ := heap_below HE0.out hb1 (heap_lt HE0.out)
  have HB1 : Aside (Below w.heap.size w w1) := step_below1 HB0.out hb1
  clear hb1 HX0 HR0 HE0 HB0
  clear hck
  go_wp2_with fail
  refine (i1 _).mono ?_
  rintro e w1 ⟨rfl, rfl⟩
  go_wp2_with fail
  refine (i2 _).mono ?_
  rintro e w1 ⟨rfl, rfl⟩
  have zx : ∀ i, w1.cell? ⟨w.heap.size, i, none⟩ = #[Value.int .i64 x.k, .int .i64 x.j, .int .i64 x.v, .int .i64 x.t, .int .i64 x.c][i]? := fun i => Joins.cell_of_block HX1.out i
  go_wp2_with fail
  refine (hce _).mono ?_
  rintro e w3 ⟨rfl, hb3⟩
  have HX3 : Aside _ := heap_below HX1.out hb3 (heap_lt HX1.out)
  have HR3 : Aside _ := heap_below HR1.out hb3 (heap_lt HR1.out)
  have HE3 : Aside _ := heap_below HE1.out hb3 (heap_lt HE1.out)
  have HB3 : Aside (Below w.heap.size w w3) := step_below1 HB1.out hb3
  clear hb3 HX1 HR1 HE1 HB1
  clear hce zx i1 i2
  have hB4 := grew HB3.out (boxE y.k y.j y.v y.t y.c)
  have hc3 := HCH.out.later HB3.out
  have hc4 := HCH.out.later hB4
  obtain ⟨b', off', eb, hrow⟩ := hc4.rows.at (by omega)
  obtain ⟨b3, off3, eb3, hrow3⟩ := hc3.rows.at (by omega)
  injection eb with eb
  injection eb with eb1 eb2 _
  injection eb3 with eb3
  injection eb3 with eb4 eb5 _
  subst eb1 eb2 eb4 eb5
  obtain ⟨⟨p0, s0⟩, ⟨p1, s1⟩, ⟨p2, s2⟩⟩ := row_three hrow
  obtain ⟨⟨P0, S0⟩, ⟨P1, S1⟩, ⟨P2, S2⟩⟩ := row_three hrow3
  obtain ⟨by_, oy, ey, hEy⟩ := SlOf.at (cs := En.cells) (k := 5) (hc3.each ⟨U0, .slice a0 60 c0⟩ (by simp)).ents (by omega)
  subst ey
  have g0 : w3.cell? ⟨by_, oy + m * 5, none⟩ = some (.int .i64 y.k) := hEy m y HY.out 0 _ rfl
  have g1 : w3.cell? ⟨by_, oy + m * 5 + 1, none⟩ = some (.int .i64 y.j) := hEy m y HY.out 1 _ rfl
  have g2 : w3.cell? ⟨by_, oy + m * 5 + 2, none⟩ = some (.int .i64 y.v) := hEy m y HY.out 2 _ rfl
  have g3 : w3.cell? ⟨by_, oy + m * 5 + 3, none⟩ = some (.int .i64 y.t) := hEy m y HY.out 3 _ rfl
  have g4 : w3.cell? ⟨by_, oy + m * 5 + 4, none⟩ = some (.int .i64 y.c) := hEy m y HY.out 4 _ rfl
  have hyb := heap_lt HE3.out
  have HX4 : Aside _ := heap_old HX3.out (boxE y.k y.j y.v y.t y.c)
  have HR4 : Aside _ := heap_old HR3.out (boxE y.k y.j y.v y.t y.c)
  have HE4 : Aside _ := heap_old HE3.out (boxE y.k y.j y.v y.t y.c)
  have HY4 : Aside _ := heap_new w3 (boxE y.k y.j y.v y.t y.c)
  have HB4 : Aside _ := hB4
  clear hrow hrow3 hEy hc3 hc4 hB4 HX3 HR3 HE3 HB3 HCH
  go_upto_region 11 with fail
  generalize w3.alloc (boxE y.k y.j y.v y.t y.c) = w4 at *
  generalize w3.heap.size = yb at *
  clear g0 g1 g2 g3 g4 P0 S0 P1 S1 P2 S2
  have zx : ∀ i, w4.cell? ⟨w.heap.size, i, none⟩ = #[Value.int .i64 x.k, .int .i64 x.j, .int .i64 x.v, .int .i64 x.t, .int .i64 x.c][i]? := fun i => Joins.cell_of_block HX4.out i
  go_wp2_with fail
  refine (linkBad 8 _).mono ?_
  rintro e w5 ⟨rfl, hb5⟩
  have HX5 : Aside _ := heap_below HX4.out hb5 (heap_lt HX4.out)
  have HR5 : Aside _ := heap_below HR4.out hb5 (heap_lt HR4.out)
  have HE5 : Aside _ := heap_below HE4.out hb5 (heap_lt HE4.out)
  have HB5 : Aside (Below w.heap.size w w5) := step_below1 HB4.out hb5
  clear hb5 HX4 HR4 HE4 HB4
  have zr : ∀ i, w5.cell? ⟨w.heap.size + 1, i, none⟩ = #[Value.int .i64 0, .int .i64 0, .int .i64 0, .int .i64 0, .int .i64 0, .int .i64 0, .int .i64 0, .int .i64 0][i]? := fun i => Joins.cell_of_block HR5.out i
  have fr : ∀ i, w5.frozen? ⟨w.heap.size + 1, i, none⟩ = false := fun i => Joins.unfrozen_of_block HR5.out i
  have ze : ∀ i, w5.cell? ⟨w.heap.size + 1 + 1, i, none⟩ = #[Value.int .i64 0, .int .i64 0, .int .i64 0, .int .i64 0, .int .i64 0][i]? := fun i => Joins.cell_of_block HE5.out i
  have fe : ∀ i, w5.frozen? ⟨w.heap.size + 1 + 1, i, none⟩ = false := fun i => Joins.unfrozen_of_block HE5.out i
  go_wp2
  have hst := link_stored HR5.out (f := En.zero) HE5.out (by omega) (Rc.zero) (En.zero) rfl
  exact ret3 (p := 10) (q := 11) (t := 12) (r := Rc.zero) (e := En.zero) Try.results22 rfl rfl rfl rfl hst.1 hst.2 ⟨rfl, link_below HB5.out (by omega) (by omega) _ _ _ _ _ _ _ _ _ _ _ _ _⟩

set_option linter.unusedSimpArgs false in
set_option maxHeartbeats 4000000 in
set_option maxRecDepth 100000 in
theorem linked0_stands (b off c m : Nat) (ep : Int) (x : En) (U0 U1 U2 : Un) (a0 a1 a2 : Option Addr) (c0 c1 c2 : Nat) (w : World) (hch : ChAt w (.slice (some ⟨b, off, none⟩) 3 c) [⟨U0, .slice a0 60 c0⟩, ⟨U1, .slice a1 60 c1⟩, ⟨U2, .slice a2 60 c2⟩]) (hd : rkChain [U0, U1, U2] = 0) (hm : m < 60) (hx : x.chk = 0) (y : En) (hy : U0.cells[m]? = some y) (hep : (U0.p != ep) = false) (hib : y.isB = false) :
    Calls Try.prog 22 #[.slice (some ⟨b, off, none⟩) 3 c, .int .i64 0, .int .i64 (m : Int), x.val, .int .i64 ep] w fun e w' => e = .returned (.tuple #[(((Rc.zero, y, 0) : Rc × En × Int)).1.val, (((Rc.zero, y, 0) : Rc × En × Int)).2.1.val, .int .i64 (((Rc.zero, y, 0) : Rc × En × Int)).2.2]) ∧ Below w.heap.size w w' := by
  have HB0 : Aside (Below w.heap.size w (((w.alloc (boxE x.k x.j x.v x.t x.c)).alloc (boxRc Rc.zero)).alloc (boxE 0 0 0 0 0))) := grew (grew (grew (Below.refl _ _) _) _) _
  have HX0 : Aside ((((w.alloc (boxE x.k x.j x.v x.t x.c)).alloc (boxRc Rc.zero)).alloc (boxE 0 0 0 0 0)).heap[w.heap.size]? = some (boxE x.k x.j x.v x.t x.c)) := heap_old (heap_old (heap_new _ _) _) _
  have HR0 : Aside ((((w.alloc (boxE x.k x.j x.v x.t x.c)).alloc (boxRc Rc.zero)).alloc (boxE 0 0 0 0 0)).heap[w.heap.size + 1]? = some (boxRc Rc.zero)) := by
    have := heap_new (w.alloc (boxE x.k x.j x.v x.t x.c)) (boxRc Rc.zero)
    rw [World.size_alloc] at this
    exact heap_old this _
  have HE0 : Aside ((((w.alloc (boxE x.k x.j x.v x.t x.c)).alloc (boxRc Rc.zero)).alloc (boxE 0 0 0 0 0)).heap[w.heap.size + 1 + 1]? = some (boxE 0 0 0 0 0)) := by
    have := heap_new ((w.alloc (boxE x.k x.j x.v x.t x.c)).alloc (boxRc Rc.zero)) (boxE 0 0 0 0 0)
    rwa [World.size_alloc, World.size_alloc] at this
  have hck := ref_rkChain _ _ _ (hch.later HB0.out)
  rw [show rkChain (unitsOf [⟨U0, .slice a0 60 c0⟩, ⟨U1, .slice a1 60 c1⟩, ⟨U2, .slice a2 60 c2⟩]) = 0 from hd] at hck
  have i1 := fun W => in_any 0 0 2 W
  rw [decide_eq_true (by decide)] at i1
  have i2 := fun W => in_any (m : Int) 0 59 W
  rw [decide_eq_true (by omega)] at i2
  have hce := fun W => ref_check x.k x.j x.v x.t x.c W
  change ∀ W, Calls _ _ _ _ fun e w' => e = .returned (.int .i64 x.chk) ∧ _ at hce
  rw [hx] at hce
  have HCH : Aside (ChAt w (.slice (some ⟨b, off, none⟩) 3 c) [⟨U0, .slice a0 60 c0⟩, ⟨U1, .slice a1 60 c1⟩, ⟨U2, .slice a2 60 c2⟩]) := hch
  have HY : Hid (U0.cells[m]? = some y) := hy
  have hmi : (m : Int) < 60 := by omega
  have hm0 : (0 : Int) ≤ (m : Int) := by omega
  clear hch hd hx hy
  go_enter Try.func22, Try.ntmps22
  go_wp2_with fail
  refine hck.mono ?_
  rintro e w1 ⟨rfl, hb1⟩
  have HX1 : Aside _ := heap_below HX0.out hb1 (heap_lt HX0.out)
  have HR1 : Aside _ := heap_below HR0.out hb1 (heap_lt HR0.out)
  have HE1 : Aside _ := heap_below HE0.out hb1 (heap_lt HE0.out)
  have HB1 : Aside (Below w.heap.size w w1) := step_below1 HB0.out hb1
  clear hb1 HX0 HR0 HE0 HB0
  clear hck
  go_wp2_with fail
  refine (i1 _).mono ?_
  rintro e w1 ⟨rfl, rfl⟩
  go_wp2_with fail
  refine (i2 _).mono ?_
  rintro e w1 ⟨rfl, rfl⟩
  have zx : ∀ i, w1.cell? ⟨w.heap.size, i, none⟩ = #[Value.int .i64 x.k, .int .i64 x.j, .int .i64 x.v, .int .i64 x.t, .int .i64 x.c][i]? := fun i => Joins.cell_of_block HX1.out i
  go_wp2_with fail
  refine (hce _).mono ?_
  rintro e w3 ⟨rfl, hb3⟩
  have HX3 : Aside _ := heap_below HX1.out hb3 (heap_lt HX1.out)
  have HR3 : Aside _ := heap_below HR1.out hb3 (heap_lt HR1.out)
  have HE3 : Aside _ := heap_below HE1.out hb3 (heap_lt HE1.out)
  have HB3 : Aside (Below w.heap.size w w3) := step_below1 HB1.out hb3
  clear hb3 HX1 HR1 HE1 HB1
  clear hce zx i1 i2
  have hB4 := grew HB3.out (boxE y.k y.j y.v y.t y.c)
  have hc3 := HCH.out.later HB3.out
  have hc4 := HCH.out.later hB4
  obtain ⟨b', off', eb, hrow⟩ := hc4.rows.at (by omega)
  obtain ⟨b3, off3, eb3, hrow3⟩ := hc3.rows.at (by omega)
  injection eb with eb
  injection eb with eb1 eb2 _
  injection eb3 with eb3
  injection eb3 with eb4 eb5 _
  subst eb1 eb2 eb4 eb5
  obtain ⟨⟨p0, s0⟩, ⟨p1, s1⟩, ⟨p2, s2⟩⟩ := row_three hrow
  obtain ⟨⟨P0, S0⟩, ⟨P1, S1⟩, ⟨P2, S2⟩⟩ := row_three hrow3
  obtain ⟨by_, oy, ey, hEy⟩ := SlOf.at (cs := En.cells) (k := 5) (hc3.each ⟨U0, .slice a0 60 c0⟩ (by simp)).ents (by omega)
  subst ey
  have g0 : w3.cell? ⟨by_, oy + m * 5, none⟩ = some (.int .i64 y.k) := hEy m y HY.out 0 _ rfl
  have g1 : w3.cell? ⟨by_, oy + m * 5 + 1, none⟩ = some (.int .i64 y.j) := hEy m y HY.out 1 _ rfl
  have g2 : w3.cell? ⟨by_, oy + m * 5 + 2, none⟩ = some (.int .i64 y.v) := hEy m y HY.out 2 _ rfl
  have g3 : w3.cell? ⟨by_, oy + m * 5 + 3, none⟩ = some (.int .i64 y.t) := hEy m y HY.out 3 _ rfl
  have g4 : w3.cell? ⟨by_, oy + m * 5 + 4, none⟩ = some (.int .i64 y.c) := hEy m y HY.out 4 _ rfl
  have hyb := heap_lt HE3.out
  have HX4 : Aside _ := heap_old HX3.out (boxE y.k y.j y.v y.t y.c)
  have HR4 : Aside _ := heap_old HR3.out (boxE y.k y.j y.v y.t y.c)
  have HE4 : Aside _ := heap_old HE3.out (boxE y.k y.j y.v y.t y.c)
  have HY4 : Aside _ := heap_new w3 (boxE y.k y.j y.v y.t y.c)
  have HB4 : Aside _ := hB4
  clear hrow hrow3 hEy hc3 hc4 hB4 HX3 HR3 HE3 HB3 HCH
  go_upto_region 11 with fail
  generalize w3.alloc (boxE y.k y.j y.v y.t y.c) = w4 at *
  generalize w3.heap.size = yb at *
  clear g0 g1 g2 g3 g4 P0 S0 P1 S1 P2 S2
  have zx : ∀ i, w4.cell? ⟨w.heap.size, i, none⟩ = #[Value.int .i64 x.k, .int .i64 x.j, .int .i64 x.v, .int .i64 x.t, .int .i64 x.c][i]? := fun i => Joins.cell_of_block HX4.out i
  have hnb : ∀ W, (binOp .neq 26 (ev y.k y.j y.v y.t y.c) (ev 4 0 0 0 0)).run Try.prog W = .ok (.bool (!y.isB)) W := fun W => by
    rw [neq_entry y.k y.j y.v y.t y.c 4 0 0 0 0 W, En.isB, Bool.not_not]
  rw [hib] at hnb
  go_wp2_with fail
  go_quiet (fail)
  go_upto_region 15 with fail
  have hq5 := below_drewN (Below.refl w4.heap.size w4) nq
  have HX5 : Aside _ := heap_below HX4.out hq5 (heap_lt HX4.out)
  have HR5 : Aside _ := heap_below HR4.out hq5 (heap_lt HR4.out)
  have HE5 : Aside _ := heap_below HE4.out hq5 (heap_lt HE4.out)
  have HY5 : Aside _ := heap_below HY4.out hq5 (heap_lt HY4.out)
  have HB5 : Aside _ := step_below1 HB4.out hq5
  clear hq5 HX4 HR4 HE4 HY4 HB4 zx p0 s0 p1 s1 p2 s2
  generalize w4.drewN nq = w5 at *
  have hS0 : BeS w5 w5 yb y := beS_of HY5.out
  have hbd : Below w5.heap.size w5 w5.drew := (Below.refl _ _).drew
  go_region_held3 (fun w' => BeS w5 w' yb y) (exact beS_step (by assumption) (by assumption)) (first | (go_at_call 30; refine (blank_any _).mono ?_; rintro e w6 ⟨rfl, hb6⟩))
  rename_i hS
  have HX6 : Aside _ := heap_below HX5.out hS.1 (heap_lt HX5.out)
  have HR6 : Aside _ := heap_below HR5.out hS.1 (heap_lt HR5.out)
  have HE6 : Aside _ := heap_below HE5.out hS.1 (heap_lt HE5.out)
  have HY6 : Aside _ := heap_below HY5.out hS.1 (heap_lt HY5.out)
  have HB6 : Aside (Below w.heap.size w _) := step_below1 HB5.out hS.1
  clear hS hS0 hbd hb6 HX5 HR5 HE5 HY5 HB5
  have zx : ∀ i, w6.cell? ⟨w.heap.size, i, none⟩ = #[Value.int .i64 x.k, .int .i64 x.j, .int .i64 x.v, .int .i64 x.t, .int .i64 x.c][i]? := fun i => Joins.cell_of_block HX6.out i
  have zy : ∀ i, w6.cell? ⟨yb, i, none⟩ = #[Value.int .i64 y.k, .int .i64 y.j, .int .i64 y.v, .int .i64 y.t, .int .i64 y.c][i]? := fun i => Joins.cell_of_block HY6.out i
  have zr : ∀ i, w6.cell? ⟨w.heap.size + 1, i, none⟩ = #[Value.int .i64 0, .int .i64 0, .int .i64 0, .int .i64 0, .int .i64 0, .int .i64 0, .int .i64 0, .int .i64 0][i]? := fun i => Joins.cell_of_block HR6.out i
  have fr : ∀ i, w6.frozen? ⟨w.heap.size + 1, i, none⟩ = false := fun i => Joins.unfrozen_of_block HR6.out i
  have ze : ∀ i, w6.cell? ⟨w.heap.size + 1 + 1, i, none⟩ = #[Value.int .i64 0, .int .i64 0, .int .i64 0, .int .i64 0, .int .i64 0][i]? := fun i => Joins.cell_of_block HE6.out i
  have fe : ∀ i, w6.frozen? ⟨w.heap.size + 1 + 1, i, none⟩ = false := fun i => Joins.unfrozen_of_block HE6.out i
  go_wp2_with fail
  have hz5 : C5 w6 yb y := c5_of HY6.out
  have hgr : yb ≠ w.heap.size + 1 := by omega
  have hge : yb ≠ w.heap.size + 1 + 1 := by omega
  have HRd : Aside (w6.drew.heap[w.heap.size + 1]? = some (boxRc Rc.zero)) := HR6.out
  have HEd : Aside (w6.drew.heap[w.heap.size + 1 + 1]? = some (boxE 0 0 0 0 0)) := HE6.out
  have HBd : Aside (Below w.heap.size w w6.drew) := HB6.out.drew
  clear zr fr ze fe zx zy HX6 HR6 HE6 HY6 HB6
  refine wp_region_held_drew (S := fun w' => C5 w' yb y) (by kernel_rfl) (hz5) (fun hHeld => ?_)
  clear hz5
  generalize w6.drew = X at *
  refine wpAnyH_take (i := 0) (oi := ?oi0) (v := ?v0) ?hi0 ?hs0 ?hf0 ?hr0 ?hQ0 (Or.inl ⟨?hw0, ?hy0⟩) (by assumption) ?h0
  case hi0 => (simp only [List.getElem?_toArray, List.getElem?_cons_succ, List.getElem?_cons_zero]; rfl)
  case hs0 => kernel_rfl
  case hf0 => kernel_rfl
  case hr0 => kernel_rfl
  case hw0 => rfl
  case hy0 => (intro w0 hSw; (try dsimp only at hSw); go_simp; first | done | with_reducible rfl)
  case hQ0 => exact fun _ _ _ h => h
  try simp only [Act.put, List.setIfInBounds_toArray, List.set_cons_zero, List.set_cons_succ]
  refine wpAnyH_take (i := 1) (oi := ?oi1) (v := ?v1) ?hi1 ?hs1 ?hf1 ?hr1 ?hQ1 (Or.inl ⟨?hw1, ?hy1⟩) (by assumption) ?h1
  case hi1 => (simp only [List.getElem?_toArray, List.getElem?_cons_succ, List.getElem?_cons_zero]; rfl)
  case hs1 => kernel_rfl
  case hf1 => kernel_rfl
  case hr1 => kernel_rfl
  case hw1 => rfl
  case hy1 => (intro w0 hSw; (try dsimp only at hSw); go_simp; first | done | with_reducible rfl)
  case hQ1 => exact fun _ _ _ h => h
  try simp only [Act.put, List.setIfInBounds_toArray, List.set_cons_zero, List.set_cons_succ]
  have zr : ∀ i, X.cell? ⟨w.heap.size + 1, i, none⟩ = #[Value.int .i64 0, .int .i64 0, .int .i64 0, .int .i64 0, .int .i64 0, .int .i64 0, .int .i64 0, .int .i64 0][i]? := fun i => Joins.cell_of_block HRd.out i
  have fr : ∀ i, X.frozen? ⟨w.heap.size + 1, i, none⟩ = false := fun i => Joins.unfrozen_of_block HRd.out i
  have ze : ∀ i, X.cell? ⟨w.heap.size + 1 + 1, i, none⟩ = #[Value.int .i64 0, .int .i64 0, .int .i64 0, .int .i64 0, .int .i64 0][i]? := fun i => Joins.cell_of_block HEd.out i
  have fe : ∀ i, X.frozen? ⟨w.heap.size + 1 + 1, i, none⟩ = false := fun i => Joins.unfrozen_of_block HEd.out i
  refine wpAnyH_ready (rs := [2]) (by kernel_rfl) (by simp) ?_
  refine AllReadyH.cons (o := ?o2) ?hi2 ?step2 AllReadyH.nil
  case hi2 => (simp only [List.getElem?_toArray, List.getElem?_cons_succ, List.getElem?_cons_zero]; rfl)
  intro K hK
  go_simp
  refine hK.out _ _ (c5_set (c5_set (c5_set (c5_set (c5_set (c5_set (c5_set (c5_set (hHeld) hgr 0 _) hgr 1 _) hgr 2 _) hgr 3 _) hgr 4 _) hgr 5 _) hgr 6 _) hgr 7 _) (fun hHeld => ?_)
  clear hK K
  try simp only [Act.put, List.setIfInBounds_toArray, List.set_cons_zero, List.set_cons_succ]
  refine wpAnyH_ready (rs := [3]) (by kernel_rfl) (by simp) ?_
  refine AllReadyH.cons (o := ?o3) ?hi3 ?step3 AllReadyH.nil
  case hi3 => (simp only [List.getElem?_toArray, List.getElem?_cons_succ, List.getElem?_cons_zero]; rfl)
  intro K hK
  go_simp
  refine hK.out _ _ (c5_set (c5_set (c5_set (c5_set (c5_set (hHeld) hge 0 _) hge 1 _) hge 2 _) hge 3 _) hge 4 _) (fun hHeld => ?_)
  clear hK K
  try simp only [Act.put, List.setIfInBounds_toArray, List.set_cons_zero, List.set_cons_succ]
  refine wpAnyH_take (i := 4) (oi := ?oi4) (v := ?v4) ?hi4 ?hs4 ?hf4 ?hr4 ?hQ4 (Or.inl ⟨?hw4, ?hy4⟩) (by assumption) ?h4
  case hi4 => (simp only [List.getElem?_toArray, List.getElem?_cons_succ, List.getElem?_cons_zero]; rfl)
  case hs4 => kernel_rfl
  case hf4 => kernel_rfl
  case hr4 => kernel_rfl
  case hw4 => rfl
  case hy4 => (intro w0 hSw; (try dsimp only at hSw); go_simp; first | done | with_reducible rfl)
  case hQ4 => exact fun _ _ _ h => h
  try simp only [Act.put, List.setIfInBounds_toArray, List.set_cons_zero, List.set_cons_succ]
  refine wpAnyH_done (by kernel_rfl) ?_ _
  clear zr fr ze fe
  go_wp2
  have hst := link_stored (w := X) (rb := w.heap.size + 1) (eb := w.heap.size + 1 + 1) HRd.out (f := En.zero) HEd.out (by omega) (Rc.zero) (y) rfl
  exact ret3 (p := 10) (q := 11) (t := 12) (r := Rc.zero) (e := y) Try.results22 rfl rfl rfl rfl hst.1 hst.2 ⟨rfl, link_below HBd.out (by omega) (by omega) _ _ _ _ _ _ _ _ _ _ _ _ _⟩

set_option linter.unusedSimpArgs false in
set_option maxHeartbeats 4000000 in
set_option maxRecDepth 100000 in
theorem linked0_new (b off c m : Nat) (ep : Int) (x : En) (U0 U1 U2 : Un) (a0 a1 a2 : Option Addr) (c0 c1 c2 : Nat) (w : World) (hch : ChAt w (.slice (some ⟨b, off, none⟩) 3 c) [⟨U0, .slice a0 60 c0⟩, ⟨U1, .slice a1 60 c1⟩, ⟨U2, .slice a2 60 c2⟩]) (hd : rkChain [U0, U1, U2] = 0) (hm : m < 60) (hx : x.chk = 0) (y : En) (hy : U0.cells[m]? = some y) (hep : (U0.p != ep) = false) (hib : y.isB = true) :
    Calls Try.prog 22 #[.slice (some ⟨b, off, none⟩) 3 c, .int .i64 0, .int .i64 (m : Int), x.val, .int .i64 ep] w fun e w' => e = .returned (.tuple #[(((⟨1, (m : Int), 0, x⟩, x, 0) : Rc × En × Int)).1.val, (((⟨1, (m : Int), 0, x⟩, x, 0) : Rc × En × Int)).2.1.val, .int .i64 (((⟨1, (m : Int), 0, x⟩, x, 0) : Rc × En × Int)).2.2]) ∧ Below w.heap.size w w' := by
  have HB0 : Aside (Below w.heap.size w (((w.alloc (boxE x.k x.j x.v x.t x.c)).alloc (boxRc Rc.zero)).alloc (boxE 0 0 0 0 0))) := grew (grew (grew (Below.refl _ _) _) _) _
  have HX0 : Aside ((((w.alloc (boxE x.k x.j x.v x.t x.c)).alloc (boxRc Rc.zero)).alloc (boxE 0 0 0 0 0)).heap[w.heap.size]? = some (boxE x.k x.j x.v x.t x.c)) := heap_old (heap_old (heap_new _ _) _) _
  have HR0 : Aside ((((w.alloc (boxE x.k x.j x.v x.t x.c)).alloc (boxRc Rc.zero)).alloc (boxE 0 0 0 0 0)).heap[w.heap.size + 1]? = some (boxRc Rc.zero)) := by
    have := heap_new (w.alloc (boxE x.k x.j x.v x.t x.c)) (boxRc Rc.zero)
    rw [World.size_alloc] at this
    exact heap_old this _
  have HE0 : Aside ((((w.alloc (boxE x.k x.j x.v x.t x.c)).alloc (boxRc Rc.zero)).alloc (boxE 0 0 0 0 0)).heap[w.heap.size + 1 + 1]? = some (boxE 0 0 0 0 0)) := by
    have := heap_new ((w.alloc (boxE x.k x.j x.v x.t x.c)).alloc (boxRc Rc.zero)) (boxE 0 0 0 0 0)
    rwa [World.size_alloc, World.size_alloc] at this
  have hck := ref_rkChain _ _ _ (hch.later HB0.out)
  rw [show rkChain (unitsOf [⟨U0, .slice a0 60 c0⟩, ⟨U1, .slice a1 60 c1⟩, ⟨U2, .slice a2 60 c2⟩]) = 0 from hd] at hck
  have i1 := fun W => in_any 0 0 2 W
  rw [decide_eq_true (by decide)] at i1
  have i2 := fun W => in_any (m : Int) 0 59 W
  rw [decide_eq_true (by omega)] at i2
  have hce := fun W => ref_check x.k x.j x.v x.t x.c W
  change ∀ W, Calls _ _ _ _ fun e w' => e = .returned (.int .i64 x.chk) ∧ _ at hce
  rw [hx] at hce
  have HCH : Aside (ChAt w (.slice (some ⟨b, off, none⟩) 3 c) [⟨U0, .slice a0 60 c0⟩, ⟨U1, .slice a1 60 c1⟩, ⟨U2, .slice a2 60 c2⟩]) := hch
  have HY : Hid (U0.cells[m]? = some y) := hy
  have hmi : (m : Int) < 60 := by omega
  have hm0 : (0 : Int) ≤ (m : Int) := by omega
  clear hch hd hx hy
  go_enter Try.func22, Try.ntmps22
  go_wp2_with fail
  refine hck.mono ?_
  rintro e w1 ⟨rfl, hb1⟩
  have HX1 : Aside _ := heap_below HX0.out hb1 (heap_lt HX0.out)
  have HR1 : Aside _ := heap_below HR0.out hb1 (heap_lt HR0.out)
  have HE1 : Aside _ := heap_below HE0.out hb1 (heap_lt HE0.out)
  have HB1 : Aside (Below w.heap.size w w1) := step_below1 HB0.out hb1
  clear hb1 HX0 HR0 HE0 HB0
  clear hck
  go_wp2_with fail
  refine (i1 _).mono ?_
  rintro e w1 ⟨rfl, rfl⟩
  go_wp2_with fail
  refine (i2 _).mono ?_
  rintro e w1 ⟨rfl, rfl⟩
  have zx : ∀ i, w1.cell? ⟨w.heap.size, i, none⟩ = #[Value.int .i64 x.k, .int .i64 x.j, .int .i64 x.v, .int .i64 x.t, .int .i64 x.c][i]? := fun i => Joins.cell_of_block HX1.out i
  go_wp2_with fail
  refine (hce _).mono ?_
  rintro e w3 ⟨rfl, hb3⟩
  have HX3 : Aside _ := heap_below HX1.out hb3 (heap_lt HX1.out)
  have HR3 : Aside _ := heap_below HR1.out hb3 (heap_lt HR1.out)
  have HE3 : Aside _ := heap_below HE1.out hb3 (heap_lt HE1.out)
  have HB3 : Aside (Below w.heap.size w w3) := step_below1 HB1.out hb3
  clear hb3 HX1 HR1 HE1 HB1
  clear hce zx i1 i2
  have hB4 := grew HB3.out (boxE y.k y.j y.v y.t y.c)
  have hc3 := HCH.out.later HB3.out
  have hc4 := HCH.out.later hB4
  obtain ⟨b', off', eb, hrow⟩ := hc4.rows.at (by omega)
  obtain ⟨b3, off3, eb3, hrow3⟩ := hc3.rows.at (by omega)
  injection eb with eb
  injection eb with eb1 eb2 _
  injection eb3 with eb3
  injection eb3 with eb4 eb5 _
  subst eb1 eb2 eb4 eb5
  obtain ⟨⟨p0, s0⟩, ⟨p1, s1⟩, ⟨p2, s2⟩⟩ := row_three hrow
  obtain ⟨⟨P0, S0⟩, ⟨P1, S1⟩, ⟨P2, S2⟩⟩ := row_three hrow3
  obtain ⟨by_, oy, ey, hEy⟩ := SlOf.at (cs := En.cells) (k := 5) (hc3.each ⟨U0, .slice a0 60 c0⟩ (by simp)).ents (by omega)
  subst ey
  have g0 : w3.cell? ⟨by_, oy + m * 5, none⟩ = some (.int .i64 y.k) := hEy m y HY.out 0 _ rfl
  have g1 : w3.cell? ⟨by_, oy + m * 5 + 1, none⟩ = some (.int .i64 y.j) := hEy m y HY.out 1 _ rfl
  have g2 : w3.cell? ⟨by_, oy + m * 5 + 2, none⟩ = some (.int .i64 y.v) := hEy m y HY.out 2 _ rfl
  have g3 : w3.cell? ⟨by_, oy + m * 5 + 3, none⟩ = some (.int .i64 y.t) := hEy m y HY.out 3 _ rfl
  have g4 : w3.cell? ⟨by_, oy + m * 5 + 4, none⟩ = some (.int .i64 y.c) := hEy m y HY.out 4 _ rfl
  have hyb := heap_lt HE3.out
  have HX4 : Aside _ := heap_old HX3.out (boxE y.k y.j y.v y.t y.c)
  have HR4 : Aside _ := heap_old HR3.out (boxE y.k y.j y.v y.t y.c)
  have HE4 : Aside _ := heap_old HE3.out (boxE y.k y.j y.v y.t y.c)
  have HY4 : Aside _ := heap_new w3 (boxE y.k y.j y.v y.t y.c)
  have HB4 : Aside _ := hB4
  clear hrow hrow3 hEy hc3 hc4 hB4 HX3 HR3 HE3 HB3 HCH
  go_upto_region 11 with fail
  generalize w3.alloc (boxE y.k y.j y.v y.t y.c) = w4 at *
  generalize w3.heap.size = yb at *
  clear g0 g1 g2 g3 g4 P0 S0 P1 S1 P2 S2
  have zx : ∀ i, w4.cell? ⟨w.heap.size, i, none⟩ = #[Value.int .i64 x.k, .int .i64 x.j, .int .i64 x.v, .int .i64 x.t, .int .i64 x.c][i]? := fun i => Joins.cell_of_block HX4.out i
  have hnb : ∀ W, (binOp .neq 26 (ev y.k y.j y.v y.t y.c) (ev 4 0 0 0 0)).run Try.prog W = .ok (.bool (!y.isB)) W := fun W => by
    rw [neq_entry y.k y.j y.v y.t y.c 4 0 0 0 0 W, En.isB, Bool.not_not]
  rw [hib] at hnb
  go_wp2_with fail
  go_quiet (fail)
  go_upto_region 15 with fail
  have hq5 := below_drewN (Below.refl w4.heap.size w4) nq
  have HX5 : Aside _ := heap_below HX4.out hq5 (heap_lt HX4.out)
  have HR5 : Aside _ := heap_below HR4.out hq5 (heap_lt HR4.out)
  have HE5 : Aside _ := heap_below HE4.out hq5 (heap_lt HE4.out)
  have HY5 : Aside _ := heap_below HY4.out hq5 (heap_lt HY4.out)
  have HB5 : Aside _ := step_below1 HB4.out hq5
  clear hq5 HX4 HR4 HE4 HY4 HB4 zx p0 s0 p1 s1 p2 s2
  generalize w4.drewN nq = w5 at *
  have hS0 : BeS w5 w5 yb y := beS_of HY5.out
  have hbd : Below w5.heap.size w5 w5.drew := (Below.refl _ _).drew
  go_region_held3 (fun w' => BeS w5 w' yb y) (exact beS_step (by assumption) (by assumption)) (first | (go_at_call 30; refine (blank_any _).mono ?_; rintro e w6 ⟨rfl, hb6⟩))
  rename_i hS
  have HX6 : Aside _ := heap_below HX5.out hS.1 (heap_lt HX5.out)
  have HR6 : Aside _ := heap_below HR5.out hS.1 (heap_lt HR5.out)
  have HE6 : Aside _ := heap_below HE5.out hS.1 (heap_lt HE5.out)
  have HY6 : Aside _ := heap_below HY5.out hS.1 (heap_lt HY5.out)
  have HB6 : Aside (Below w.heap.size w _) := step_below1 HB5.out hS.1
  clear hS hS0 hbd hb6 HX5 HR5 HE5 HY5 HB5
  have zx : ∀ i, w6.cell? ⟨w.heap.size, i, none⟩ = #[Value.int .i64 x.k, .int .i64 x.j, .int .i64 x.v, .int .i64 x.t, .int .i64 x.c][i]? := fun i => Joins.cell_of_block HX6.out i
  have zy : ∀ i, w6.cell? ⟨yb, i, none⟩ = #[Value.int .i64 y.k, .int .i64 y.j, .int .i64 y.v, .int .i64 y.t, .int .i64 y.c][i]? := fun i => Joins.cell_of_block HY6.out i
  have zr : ∀ i, w6.cell? ⟨w.heap.size + 1, i, none⟩ = #[Value.int .i64 0, .int .i64 0, .int .i64 0, .int .i64 0, .int .i64 0, .int .i64 0, .int .i64 0, .int .i64 0][i]? := fun i => Joins.cell_of_block HR6.out i
  have fr : ∀ i, w6.frozen? ⟨w.heap.size + 1, i, none⟩ = false := fun i => Joins.unfrozen_of_block HR6.out i
  have ze : ∀ i, w6.cell? ⟨w.heap.size + 1 + 1, i, none⟩ = #[Value.int .i64 0, .int .i64 0, .int .i64 0, .int .i64 0, .int .i64 0][i]? := fun i => Joins.cell_of_block HE6.out i
  have fe : ∀ i, w6.frozen? ⟨w.heap.size + 1 + 1, i, none⟩ = false := fun i => Joins.unfrozen_of_block HE6.out i
  go_wp2_with fail
  have hz5 : C5 w6 w.heap.size x := c5_of HX6.out
  have hgr : w.heap.size ≠ w.heap.size + 1 := by omega
  have hge : w.heap.size ≠ w.heap.size + 1 + 1 := by omega
  have HRd : Aside (w6.drew.heap[w.heap.size + 1]? = some (boxRc Rc.zero)) := HR6.out
  have HEd : Aside (w6.drew.heap[w.heap.size + 1 + 1]? = some (boxE 0 0 0 0 0)) := HE6.out
  have HBd : Aside (Below w.heap.size w w6.drew) := HB6.out.drew
  clear zr fr ze fe zx zy HX6 HR6 HE6 HY6 HB6
  refine wp_region_held_drew (S := fun w' => C5 w' w.heap.size x) (by kernel_rfl) (hz5) (fun hHeld => ?_)
  clear hz5
  generalize w6.drew = X at *
  refine wpAnyH_take (i := 0) (oi := ?oi0) (v := ?v0) ?hi0 ?hs0 ?hf0 ?hr0 ?hQ0 (Or.inl ⟨?hw0, ?hy0⟩) (by assumption) ?h0
  case hi0 => (simp only [List.getElem?_toArray, List.getElem?_cons_succ, List.getElem?_cons_zero]; rfl)
  case hs0 => kernel_rfl
  case hf0 => kernel_rfl
  case hr0 => kernel_rfl
  case hw0 => rfl
  case hy0 => (intro w0 hSw; (try dsimp only at hSw); go_simp; first | done | with_reducible rfl)
  case hQ0 => exact fun _ _ _ h => h
  try simp only [Act.put, List.setIfInBounds_toArray, List.set_cons_zero, List.set_cons_succ]
  refine wpAnyH_take (i := 1) (oi := ?oi1) (v := ?v1) ?hi1 ?hs1 ?hf1 ?hr1 ?hQ1 (Or.inl ⟨?hw1, ?hy1⟩) (by assumption) ?h1
  case hi1 => (simp only [List.getElem?_toArray, List.getElem?_cons_succ, List.getElem?_cons_zero]; rfl)
  case hs1 => kernel_rfl
  case hf1 => kernel_rfl
  case hr1 => kernel_rfl
  case hw1 => rfl
  case hy1 => (intro w0 hSw; (try dsimp only at hSw); go_simp; first | done | with_reducible rfl)
  case hQ1 => exact fun _ _ _ h => h
  try simp only [Act.put, List.setIfInBounds_toArray, List.set_cons_zero, List.set_cons_succ]
  refine wpAnyH_take (i := 2) (oi := ?oi2) (v := ?v2) ?hi2 ?hs2 ?hf2 ?hr2 ?hQ2 (Or.inl ⟨?hw2, ?hy2⟩) (by assumption) ?h2
  case hi2 => (simp only [List.getElem?_toArray, List.getElem?_cons_succ, List.getElem?_cons_zero]; rfl)
  case hs2 => kernel_rfl
  case hf2 => kernel_rfl
  case hr2 => kernel_rfl
  case hw2 => rfl
  case hy2 => (intro w0 hSw; (try dsimp only at hSw); go_simp; first | done | with_reducible rfl)
  case hQ2 => exact fun _ _ _ h => h
  try simp only [Act.put, List.setIfInBounds_toArray, List.set_cons_zero, List.set_cons_succ]
  refine wpAnyH_take (i := 3) (oi := ?oi3) (v := ?v3) ?hi3 ?hs3 ?hf3 ?hr3 ?hQ3 (Or.inl ⟨?hw3, ?hy3⟩) (by assumption) ?h3
  case hi3 => (simp only [List.getElem?_toArray, List.getElem?_cons_succ, List.getElem?_cons_zero]; rfl)
  case hs3 => kernel_rfl
  case hf3 => kernel_rfl
  case hr3 => kernel_rfl
  case hw3 => rfl
  case hy3 => (intro w0 hSw; (try dsimp only at hSw); go_simp; first | done | with_reducible rfl)
  case hQ3 => exact fun _ _ _ h => h
  try simp only [Act.put, List.setIfInBounds_toArray, List.set_cons_zero, List.set_cons_succ]
  have zr : ∀ i, X.cell? ⟨w.heap.size + 1, i, none⟩ = #[Value.int .i64 0, .int .i64 0, .int .i64 0, .int .i64 0, .int .i64 0, .int .i64 0, .int .i64 0, .int .i64 0][i]? := fun i => Joins.cell_of_block HRd.out i
  have fr : ∀ i, X.frozen? ⟨w.heap.size + 1, i, none⟩ = false := fun i => Joins.unfrozen_of_block HRd.out i
  have ze : ∀ i, X.cell? ⟨w.heap.size + 1 + 1, i, none⟩ = #[Value.int .i64 0, .int .i64 0, .int .i64 0, .int .i64 0, .int .i64 0][i]? := fun i => Joins.cell_of_block HEd.out i
  have fe : ∀ i, X.frozen? ⟨w.heap.size + 1 + 1, i, none⟩ = false := fun i => Joins.unfrozen_of_block HEd.out i
  refine wpAnyH_ready (rs := [4]) (by kernel_rfl) (by simp) ?_
  refine AllReadyH.cons (o := ?o4) ?hi4 ?step4 AllReadyH.nil
  case hi4 => (simp only [List.getElem?_toArray, List.getElem?_cons_succ, List.getElem?_cons_zero]; rfl)
  intro K hK
  go_simp
  refine hK.out _ _ (c5_set (c5_set (c5_set (c5_set (c5_set (c5_set (c5_set (c5_set (hHeld) hgr 0 _) hgr 1 _) hgr 2 _) hgr 3 _) hgr 4 _) hgr 5 _) hgr 6 _) hgr 7 _) (fun hHeld => ?_)
  clear hK K
  try simp only [Act.put, List.setIfInBounds_toArray, List.set_cons_zero, List.set_cons_succ]
  refine wpAnyH_ready (rs := [5]) (by kernel_rfl) (by simp) ?_
  refine AllReadyH.cons (o := ?o5) ?hi5 ?step5 AllReadyH.nil
  case hi5 => (simp only [List.getElem?_toArray, List.getElem?_cons_succ, List.getElem?_cons_zero]; rfl)
  intro K hK
  go_simp
  refine hK.out _ _ (c5_set (c5_set (c5_set (c5_set (c5_set (hHeld) hge 0 _) hge 1 _) hge 2 _) hge 3 _) hge 4 _) (fun hHeld => ?_)
  clear hK K
  try simp only [Act.put, List.setIfInBounds_toArray, List.set_cons_zero, List.set_cons_succ]
  refine wpAnyH_take (i := 6) (oi := ?oi6) (v := ?v6) ?hi6 ?hs6 ?hf6 ?hr6 ?hQ6 (Or.inl ⟨?hw6, ?hy6⟩) (by assumption) ?h6
  case hi6 => (simp only [List.getElem?_toArray, List.getElem?_cons_succ, List.getElem?_cons_zero]; rfl)
  case hs6 => kernel_rfl
  case hf6 => kernel_rfl
  case hr6 => kernel_rfl
  case hw6 => rfl
  case hy6 => (intro w0 hSw; (try dsimp only at hSw); go_simp; first | done | with_reducible rfl)
  case hQ6 => exact fun _ _ _ h => h
  try simp only [Act.put, List.setIfInBounds_toArray, List.set_cons_zero, List.set_cons_succ]
  refine wpAnyH_done (by kernel_rfl) ?_ _
  clear zr fr ze fe
  go_wp2
  have hst := link_stored (w := X) (rb := w.heap.size + 1) (eb := w.heap.size + 1 + 1) HRd.out (f := En.zero) HEd.out (by omega) (⟨1, (m : Int), 0, x⟩) (x) rfl
  exact ret3 (p := 10) (q := 11) (t := 12) (r := ⟨1, (m : Int), 0, x⟩) (e := x) Try.results22 rfl rfl rfl rfl hst.1 hst.2 ⟨rfl, link_below HBd.out (by omega) (by omega) _ _ _ _ _ _ _ _ _ _ _ _ _⟩

end Go.Proofs.Ytaialgacaomaead
