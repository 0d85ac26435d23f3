/- Package chain's Read. -/
import Derived.Test.YtaialgacaomaeadChainZa
import Derived.Test.YtaialgacaomaeadChainF
namespace Go.Proofs.Ytaialgacaomaead
open Go.RowKit
open scoped Classical

set_option linter.unusedSimpArgs false in
set_option maxHeartbeats 4000000 in
set_option maxRecDepth 100000 in
theorem chRead_ck (v : Value) (xs : List Ub) (a : Int) (w : World) (h : ChAt w v xs) (d : Int) (hd : ckChain (unitsOf xs) = d) (hz : (d != 0) = true) :
    Calls Try.prog 21 #[v, .int .i64 a] w fun e w' => e = .returned (.tuple #[(((En.zero, d) : En × Int)).1.val, .int .i64 (((En.zero, d) : En × Int)).2]) ∧ Below w.heap.size w w' := by
  have HB0 : Aside (Below w.heap.size w (w.alloc (boxE 0 0 0 0 0))) := grew (Below.refl _ _) _
  have HE0 : Aside ((w.alloc (boxE 0 0 0 0 0)).heap[w.heap.size]? = some (boxE 0 0 0 0 0)) := heap_new _ _
  have hck := chCheck_any v xs _ (h.later HB0.out)
  rw [hd] at hck
  clear h hd
  go_enter Try.func21, Try.ntmps21
  go_wp2_with fail
  refine hck.mono ?_
  rintro e w1 ⟨rfl, hb1⟩
  have HE1 : Aside _ := heap_below HE0.out hb1 (heap_lt HE0.out)
  have HB1 : Aside (Below w.heap.size w w1) := step_below1 HB0.out hb1
  clear HE0 HB0 hb1
  clear hck
  have ze : ∀ i, w1.cell? ⟨w.heap.size, i, none⟩ = #[Value.int .i64 0, .int .i64 0, .int .i64 0, .int .i64 0, .int .i64 0][i]? := fun i => Joins.cell_of_block HE1.out i
  have fe : ∀ i, w1.frozen? ⟨w.heap.size, i, none⟩ = false := fun i => Joins.unfrozen_of_block HE1.out i
  go_wp2
  exact ret_ent (p := 4) (q := 5) (e := En.zero) Try.results21 rfl rfl rfl (five_box (f := En.zero) HE1.out (En.zero)) ⟨rfl, five_below HB1.out (Nat.le_refl _) _ _ _ _ _⟩

set_option linter.unusedSimpArgs false in
set_option maxHeartbeats 4000000 in
set_option maxRecDepth 100000 in
theorem chRead_who (v : Value) (xs : List Ub) (a : Int) (w : World) (h : ChAt w v xs) (hd : ckChain (unitsOf xs) = 0) (ha : ¬ (0 ≤ a ∧ a ≤ 59)) :
    Calls Try.prog 21 #[v, .int .i64 a] w fun e w' => e = .returned (.tuple #[(((En.zero, 5) : En × Int)).1.val, .int .i64 (((En.zero, 5) : En × Int)).2]) ∧ Below w.heap.size w w' := by
  have HB0 : Aside (Below w.heap.size w (w.alloc (boxE 0 0 0 0 0))) := grew (Below.refl _ _) _
  have HE0 : Aside ((w.alloc (boxE 0 0 0 0 0)).heap[w.heap.size]? = some (boxE 0 0 0 0 0)) := heap_new _ _
  have hck := chCheck_any v xs _ (h.later HB0.out)
  rw [hd] at hck
  have kp := fun W => isPlace_any a W
  rw [decide_eq_false ha] at kp
  clear h hd ha
  go_enter Try.func21, Try.ntmps21
  go_wp2_with fail
  refine hck.mono ?_
  rintro e w1 ⟨rfl, hb1⟩
  have HE1 : Aside _ := heap_below HE0.out hb1 (heap_lt HE0.out)
  have HB1 : Aside (Below w.heap.size w w1) := step_below1 HB0.out hb1
  clear HE0 HB0 hb1
  clear hck
  go_wp2_with fail
  refine (kp _).mono ?_
  rintro e w1 ⟨rfl, rfl⟩
  have ze : ∀ i, w1.cell? ⟨w.heap.size, i, none⟩ = #[Value.int .i64 0, .int .i64 0, .int .i64 0, .int .i64 0, .int .i64 0][i]? := fun i => Joins.cell_of_block HE1.out i
  have fe : ∀ i, w1.frozen? ⟨w.heap.size, i, none⟩ = false := fun i => Joins.unfrozen_of_block HE1.out i
  go_wp2
  exact ret_ent (p := 4) (q := 5) (e := En.zero) Try.results21 rfl rfl rfl (five_box (f := En.zero) HE1.out (En.zero)) ⟨rfl, five_below HB1.out (Nat.le_refl _) _ _ _ _ _⟩

set_option linter.unusedSimpArgs false in
set_option maxHeartbeats 4000000 in
set_option maxRecDepth 100000 in
theorem chRead_late (b off c m : Nat) (U0 U1 U2 : Un) (a0 a1 a2 : Option Addr) (c0 c1 c2 : Nat) (w : World) (h : ChAt w (.slice (some ⟨b, off, none⟩) 3 c) [⟨U0, .slice a0 60 c0⟩, ⟨U1, .slice a1 60 c1⟩, ⟨U2, .slice a2 60 c2⟩]) (hd : ckChain [U0, U1, U2] = 0) (hm : m < 60) (y : En) (hy : U2.cells[m]? = some y) (hib : y.isB = true) :
    Calls Try.prog 21 #[.slice (some ⟨b, off, none⟩) 3 c, .int .i64 (m : Int)] w fun e w' => e = .returned (.tuple #[(((En.zero, 7) : En × Int)).1.val, .int .i64 (((En.zero, 7) : En × Int)).2]) ∧ Below w.heap.size w w' := by
  have HB0 : Aside (Below w.heap.size w (w.alloc (boxE 0 0 0 0 0))) := grew (Below.refl _ _) _
  have HE0 : Aside ((w.alloc (boxE 0 0 0 0 0)).heap[w.heap.size]? = some (boxE 0 0 0 0 0)) := heap_new _ _
  have hck := chCheck_any _ _ _ (h.later HB0.out)
  rw [show ckChain (unitsOf [⟨U0, .slice a0 60 c0⟩, ⟨U1, .slice a1 60 c1⟩, ⟨U2, .slice a2 60 c2⟩]) = 0 from hd] at hck
  have kp := fun W => isPlace_any (m : Int) W
  rw [decide_eq_true (by omega)] at kp
  have kst := fun W => stands_any y W
  rw [hib, Bool.not_true] at kst
  have HCH : Aside (ChAt w (.slice (some ⟨b, off, none⟩) 3 c) [⟨U0, .slice a0 60 c0⟩, ⟨U1, .slice a1 60 c1⟩, ⟨U2, .slice a2 60 c2⟩]) := h
  have HY : Hid (U2.cells[m]? = some y) := hy
  have hmi : (m : Int) < 60 := by omega
  have hm0 : (0 : Int) ≤ (m : Int) := by omega
  clear h hd hy hib
  go_enter Try.func21, Try.ntmps21
  go_wp2_with fail
  refine hck.mono ?_
  rintro e w1 ⟨rfl, hb1⟩
  have HE1 : Aside _ := heap_below HE0.out hb1 (heap_lt HE0.out)
  have HB1 : Aside (Below w.heap.size w w1) := step_below1 HB0.out hb1
  clear HE0 HB0 hb1
  clear hck
  go_wp2_with fail
  refine (kp _).mono ?_
  rintro e w1 ⟨rfl, rfl⟩
  have hc1 := HCH.out.later HB1.out
  obtain ⟨b', off', eb, hrow⟩ := hc1.rows.at (by omega)
  injection eb with eb
  injection eb with eb1 eb2 _
  subst eb1 eb2
  obtain ⟨⟨p0, s0⟩, ⟨p1, s1⟩, ⟨p2, s2⟩⟩ := row_three hrow
  obtain ⟨by_, oy, ey, hEy⟩ := SlOf.at (cs := En.cells) (k := 5) (hc1.each ⟨U2, .slice a2 60 c2⟩ (by simp)).ents (by omega)
  subst ey
  have g0 : w1.cell? ⟨by_, oy + m * 5, none⟩ = some (.int .i64 y.k) := hEy m y HY.out 0 _ rfl
  have g1 : w1.cell? ⟨by_, oy + m * 5 + 1, none⟩ = some (.int .i64 y.j) := hEy m y HY.out 1 _ rfl
  have g2 : w1.cell? ⟨by_, oy + m * 5 + 2, none⟩ = some (.int .i64 y.v) := hEy m y HY.out 2 _ rfl
  have g3 : w1.cell? ⟨by_, oy + m * 5 + 3, none⟩ = some (.int .i64 y.t) := hEy m y HY.out 3 _ rfl
  have g4 : w1.cell? ⟨by_, oy + m * 5 + 4, none⟩ = some (.int .i64 y.c) := hEy m y HY.out 4 _ rfl
  have hyb := heap_lt HE1.out
  have HE4 : Aside _ := heap_old HE1.out (boxE y.k y.j y.v y.t y.c)
  have HY4 : Aside _ := heap_new w1 (boxE y.k y.j y.v y.t y.c)
  have HB4 : Aside _ := grew HB1.out (boxE y.k y.j y.v y.t y.c)
  clear hrow hEy hc1 HE1 HB1 HCH kp
  go_upto_region 7 with fail
  generalize w1.alloc (boxE y.k y.j y.v y.t y.c) = w4 at *
  generalize w1.heap.size = yb at *
  clear g0 g1 g2 g3 g4 p0 s0 p1 s1 p2 s2
  have zy : ∀ i, w4.cell? ⟨yb, i, none⟩ = #[Value.int .i64 y.k, .int .i64 y.j, .int .i64 y.v, .int .i64 y.t, .int .i64 y.c][i]? := fun i => Joins.cell_of_block HY4.out i
  go_wp2_with fail
  refine (kst _).mono ?_
  rintro e w6 ⟨rfl, hb6⟩
  have HE6 : Aside _ := heap_below HE4.out hb6 (heap_lt HE4.out)
  have HY6 : Aside _ := heap_below HY4.out hb6 (heap_lt HY4.out)
  have HB6 : Aside (Below w.heap.size w w6) := step_below1 HB4.out hb6
  clear hb6 kst zy HE4 HY4 HB4
  have zy : ∀ i, w6.cell? ⟨yb, i, none⟩ = #[Value.int .i64 y.k, .int .i64 y.j, .int .i64 y.v, .int .i64 y.t, .int .i64 y.c][i]? := fun i => Joins.cell_of_block HY6.out i
  have ze : ∀ i, w6.cell? ⟨w.heap.size, i, none⟩ = #[Value.int .i64 0, .int .i64 0, .int .i64 0, .int .i64 0, .int .i64 0][i]? := fun i => Joins.cell_of_block HE6.out i
  have fe : ∀ i, w6.frozen? ⟨w.heap.size, i, none⟩ = false := fun i => Joins.unfrozen_of_block HE6.out i
  go_wp2
  exact ret_ent (p := 4) (q := 5) (e := En.zero) Try.results21 rfl rfl rfl (five_box (f := En.zero) HE6.out (En.zero)) ⟨rfl, five_below HB6.out (Nat.le_refl _) _ _ _ _ _⟩

set_option linter.unusedSimpArgs false in
set_option maxHeartbeats 4000000 in
set_option maxRecDepth 100000 in
theorem chRead_stands (b off c m : Nat) (U0 U1 U2 : Un) (a0 a1 a2 : Option Addr) (c0 c1 c2 : Nat) (w : World) (h : ChAt w (.slice (some ⟨b, off, none⟩) 3 c) [⟨U0, .slice a0 60 c0⟩, ⟨U1, .slice a1 60 c1⟩, ⟨U2, .slice a2 60 c2⟩]) (hd : ckChain [U0, U1, U2] = 0) (hm : m < 60) (y : En) (hy : U2.cells[m]? = some y) (hib : y.isB = false) :
    Calls Try.prog 21 #[.slice (some ⟨b, off, none⟩) 3 c, .int .i64 (m : Int)] w fun e w' => e = .returned (.tuple #[(((y, 0) : En × Int)).1.val, .int .i64 (((y, 0) : En × Int)).2]) ∧ Below w.heap.size w w' := by
  have HB0 : Aside (Below w.heap.size w (w.alloc (boxE 0 0 0 0 0))) := grew (Below.refl _ _) _
  have HE0 : Aside ((w.alloc (boxE 0 0 0 0 0)).heap[w.heap.size]? = some (boxE 0 0 0 0 0)) := heap_new _ _
  have hck := chCheck_any _ _ _ (h.later HB0.out)
  rw [show ckChain (unitsOf [⟨U0, .slice a0 60 c0⟩, ⟨U1, .slice a1 60 c1⟩, ⟨U2, .slice a2 60 c2⟩]) = 0 from hd] at hck
  have kp := fun W => isPlace_any (m : Int) W
  rw [decide_eq_true (by omega)] at kp
  have kst := fun W => stands_any y W
  rw [hib, Bool.not_false] at kst
  have HCH : Aside (ChAt w (.slice (some ⟨b, off, none⟩) 3 c) [⟨U0, .slice a0 60 c0⟩, ⟨U1, .slice a1 60 c1⟩, ⟨U2, .slice a2 60 c2⟩]) := h
  have HY : Hid (U2.cells[m]? = some y) := hy
  have hmi : (m : Int) < 60 := by omega
  have hm0 : (0 : Int) ≤ (m : Int) := by omega
  clear h hd hy hib
  go_enter Try.func21, Try.ntmps21
  go_wp2_with fail
  refine hck.mono ?_
  rintro e w1 ⟨rfl, hb1⟩
  have HE1 : Aside _ := heap_below HE0.out hb1 (heap_lt HE0.out)
  have HB1 : Aside (Below w.heap.size w w1) := step_below1 HB0.out hb1
  clear HE0 HB0 hb1
  clear hck
  go_wp2_with fail
  refine (kp _).mono ?_
  rintro e w1 ⟨rfl, rfl⟩
  have hc1 := HCH.out.later HB1.out
  obtain ⟨b', off', eb, hrow⟩ := hc1.rows.at (by omega)
  injection eb with eb
  injection eb with eb1 eb2 _
  subst eb1 eb2
  obtain ⟨⟨p0, s0⟩, ⟨p1, s1⟩, ⟨p2, s2⟩⟩ := row_three hrow
  obtain ⟨by_, oy, ey, hEy⟩ := SlOf.at (cs := En.cells) (k := 5) (hc1.each ⟨U2, .slice a2 60 c2⟩ (by simp)).ents (by omega)
  subst ey
  have g0 : w1.cell? ⟨by_, oy + m * 5, none⟩ = some (.int .i64 y.k) := hEy m y HY.out 0 _ rfl
  have g1 : w1.cell? ⟨by_, oy + m * 5 + 1, none⟩ = some (.int .i64 y.j) := hEy m y HY.out 1 _ rfl
  have g2 : w1.cell? ⟨by_, oy + m * 5 + 2, none⟩ = some (.int .i64 y.v) := hEy m y HY.out 2 _ rfl
  have g3 : w1.cell? ⟨by_, oy + m * 5 + 3, none⟩ = some (.int .i64 y.t) := hEy m y HY.out 3 _ rfl
  have g4 : w1.cell? ⟨by_, oy + m * 5 + 4, none⟩ = some (.int .i64 y.c) := hEy m y HY.out 4 _ rfl
  have hyb := heap_lt HE1.out
  have HE4 : Aside _ := heap_old HE1.out (boxE y.k y.j y.v y.t y.c)
  have HY4 : Aside _ := heap_new w1 (boxE y.k y.j y.v y.t y.c)
  have HB4 : Aside _ := grew HB1.out (boxE y.k y.j y.v y.t y.c)
  clear hrow hEy hc1 HE1 HB1 HCH kp
  go_upto_region 7 with fail
  generalize w1.alloc (boxE y.k y.j y.v y.t y.c) = w4 at *
  generalize w1.heap.size = yb at *
  clear g0 g1 g2 g3 g4 p0 s0 p1 s1 p2 s2
  have zy : ∀ i, w4.cell? ⟨yb, i, none⟩ = #[Value.int .i64 y.k, .int .i64 y.j, .int .i64 y.v, .int .i64 y.t, .int .i64 y.c][i]? := fun i => Joins.cell_of_block HY4.out i
  go_wp2_with fail
  refine (kst _).mono ?_
  rintro e w6 ⟨rfl, hb6⟩
  have HE6 : Aside _ := heap_below HE4.out hb6 (heap_lt HE4.out)
  have HY6 : Aside _ := heap_below HY4.out hb6 (heap_lt HY4.out)
  have HB6 : Aside (Below w.heap.size w w6) := step_below1 HB4.out hb6
  clear hb6 kst zy HE4 HY4 HB4
  have zy : ∀ i, w6.cell? ⟨yb, i, none⟩ = #[Value.int .i64 y.k, .int .i64 y.j, .int .i64 y.v, .int .i64 y.t, .int .i64 y.c][i]? := fun i => Joins.cell_of_block HY6.out i
  have ze : ∀ i, w6.cell? ⟨w.heap.size, i, none⟩ = #[Value.int .i64 0, .int .i64 0, .int .i64 0, .int .i64 0, .int .i64 0][i]? := fun i => Joins.cell_of_block HE6.out i
  have fe : ∀ i, w6.frozen? ⟨w.heap.size, i, none⟩ = false := fun i => Joins.unfrozen_of_block HE6.out i
  go_wp2
  exact ret_ent (p := 4) (q := 5) (e := y) Try.results21 rfl rfl rfl (five_box (f := En.zero) HE6.out (y)) ⟨rfl, five_below HB6.out (Nat.le_refl _) _ _ _ _ _⟩

/-- Package chain's Read. -/
theorem chRead_any (v : Value) (xs : List Ub) (a : Int) (w : World) (h : ChAt w v xs) :
    Calls Try.prog 21 #[v, .int .i64 a] w fun e w' => e = .returned (.tuple #[(readOf (unitsOf xs) a).1.val, .int .i64 (readOf (unitsOf xs) a).2]) ∧ Below w.heap.size w w' := by
  by_cases hd : ckChain (unitsOf xs) = 0
  · by_cases ha : 0 ≤ a ∧ a ≤ 59
    · obtain ⟨U0, U1, U2, a0, c0, a1, c1, a2, c2, b, off, c, rfl, rfl, d0, d1, d2⟩ := right_three h hd
      obtain ⟨m, rfl⟩ : ∃ m : Nat, a = m := ⟨a.toNat, by omega⟩
      have hm : m < 60 := by omega
      obtain ⟨y2, hy2⟩ : ∃ y, U2.cells[m]? = some y := ⟨_, plc_some (us := [U2]) (k := 0) rfl d2 hm⟩
      have e2 : plc (unitsOf [⟨U0, .slice a0 60 c0⟩, ⟨U1, .slice a1 60 c1⟩, ⟨U2, .slice a2 60 c2⟩]) 2 m = y2 := plc_eq (u := U2) rfl hy2
      rw [readOf, if_neg (by simpa using hd), if_neg (by simpa using ha), show ((m : Int).toNat) = m from rfl, e2]
      cases hb : y2.isB with
      | true => rw [if_pos rfl]; exact chRead_late b off c m U0 U1 U2 a0 a1 a2 c0 c1 c2 w h hd hm y2 hy2 hb
      | false => rw [if_neg (by simp)]; exact chRead_stands b off c m U0 U1 U2 a0 a1 a2 c0 c1 c2 w h hd hm y2 hy2 hb
    · rw [readOf, if_neg (by simpa using hd), if_pos ha]
      exact chRead_who v xs a w h hd ha
  · rw [readOf, if_pos hd]
    exact chRead_ck v xs a w h _ rfl (by rw [bne_iff_ne]; exact hd)

end Go.Proofs.Ytaialgacaomaead
