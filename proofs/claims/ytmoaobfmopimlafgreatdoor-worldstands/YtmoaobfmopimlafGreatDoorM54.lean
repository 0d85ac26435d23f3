/- For the law. -/
import Derived.Test.YtmoaobfmopimlafGreatDoorM53
set_option linter.unusedSimpArgs false
set_option linter.unusedVariables false
namespace Go.Proofs.YtmoaobfmopimlafGreatDoor
open Go.RowKit
section
open scoped Classical
set_option maxHeartbeats 4000000 in
set_option maxRecDepth 100000 in
theorem chRead_ck (v : Value) (xs : List Ub) (a : Int) (w : World) (h : ChAt w v xs) (d : Int) (hd : ckChain (unitsOf xs) = d) (hz : (d != 0) = true) :
  Calls Tryz.prog 178 #[v, .int .i64 a] w fun e w' => e = .returned (.tuple #[(((En.zero, d) : En × Int)).1.val, .int .i64 (((En.zero, d) : En × Int)).2]) ∧ Below w.heap.size w w' := by
 have HB0 : Aside (Below w.heap.size w (w.alloc (boxE 0 0 0 0 0))) := grew (Below.refl _ _) _
 have HE0 : Aside ((w.alloc (boxE 0 0 0 0 0)).heap[w.heap.size]? = some (boxE 0 0 0 0 0)) := heap_new _ _
 have hck := chCheck_any v xs _ (h.later HB0.out)
 rw [hd] at hck
 clear h hd
 go_enter Tryz.func178, Tryz.ntmps178
 go_wp2_with fail
 refine hck.mono ?_
 rintro e w1 ⟨rfl, hb1⟩
 have HE1 := hv HE0 hb1
 have HB1 := sb HB0 hb1
 clear HE0 HB0 hb1
 clear hck
 have ze := cb HE1
 have fe := cf HE1
 go_wp2
 exact ret_ent (p := 4) (q := 5) (e := En.zero) Tryz.results178 rfl rfl rfl (five_box (f := En.zero) HE1.out (En.zero)) ⟨rfl, five_below HB1.out (Nat.le_refl _) _ _ _ _ _⟩
set_option maxHeartbeats 4000000 in
set_option maxRecDepth 100000 in
theorem chRead_who (v : Value) (xs : List Ub) (a : Int) (w : World) (h : ChAt w v xs) (hd : ckChain (unitsOf xs) = 0) (ha : ¬ (0 ≤ a ∧ a ≤ 59)) :
  Calls Tryz.prog 178 #[v, .int .i64 a] w fun e w' => e = .returned (.tuple #[(((En.zero, 5) : En × Int)).1.val, .int .i64 (((En.zero, 5) : En × Int)).2]) ∧ Below w.heap.size w w' := by
 have HB0 : Aside (Below w.heap.size w (w.alloc (boxE 0 0 0 0 0))) := grew (Below.refl _ _) _
 have HE0 : Aside ((w.alloc (boxE 0 0 0 0 0)).heap[w.heap.size]? = some (boxE 0 0 0 0 0)) := heap_new _ _
 have hck := chCheck_any v xs _ (h.later HB0.out)
 rw [hd] at hck
 have kp := fun W => isPlace_any a W
 rw [decide_eq_false ha] at kp
 clear h hd ha
 go_enter Tryz.func178, Tryz.ntmps178
 go_wp2_with fail
 refine hck.mono ?_
 rintro e w1 ⟨rfl, hb1⟩
 have HE1 := hv HE0 hb1
 have HB1 := sb HB0 hb1
 clear HE0 HB0 hb1
 clear hck
 go_wp2_with fail
 refine (kp _).mono ?_
 rintro e w1 ⟨rfl, rfl⟩
 have ze := cb HE1
 have fe := cf HE1
 go_wp2
 exact ret_ent (p := 4) (q := 5) (e := En.zero) Tryz.results178 rfl rfl rfl (five_box (f := En.zero) HE1.out (En.zero)) ⟨rfl, five_below HB1.out (Nat.le_refl _) _ _ _ _ _⟩
set_option maxHeartbeats 4000000 in
set_option maxRecDepth 100000 in
theorem chRead_late (b off c m : Nat) (U0 U1 U2 : Un) (a0 a1 a2 : Option Addr) (c0 c1 c2 : Nat) (w : World) (h : ChAt w (.slice (some ⟨b, off, none⟩) 3 c) [⟨U0, .slice a0 60 c0⟩, ⟨U1, .slice a1 60 c1⟩, ⟨U2, .slice a2 60 c2⟩]) (hd : ckChain [U0, U1, U2] = 0) (hm : m < 60) (y : En) (hy : U2.cells[m]? = some y) (hib : y.isB = true) :
  Calls Tryz.prog 178 #[.slice (some ⟨b, off, none⟩) 3 c, .int .i64 (m : Int)] w fun e w' => e = .returned (.tuple #[(((En.zero, 7) : En × Int)).1.val, .int .i64 (((En.zero, 7) : En × Int)).2]) ∧ Below w.heap.size w w' := by
 have HB0 : Aside (Below w.heap.size w (w.alloc (boxE 0 0 0 0 0))) := grew (Below.refl _ _) _
 have HE0 : Aside ((w.alloc (boxE 0 0 0 0 0)).heap[w.heap.size]? = some (boxE 0 0 0 0 0)) := heap_new _ _
 have hck := chCheck_any _ _ _ (h.later HB0.out)
 rw [show ckChain (unitsOf [⟨U0, .slice a0 60 c0⟩, ⟨U1, .slice a1 60 c1⟩, ⟨U2, .slice a2 60 c2⟩]) = 0 from hd] at hck
 have kp := fun W => isPlace_any (m : Int) W
 rw [decide_eq_true (by omega)] at kp
 have kst := fun W => stands_any y W
 rw [hib, Bool.not_true] at kst
 have HCH : Aside (ChAt w (.slice (some ⟨b, off, none⟩) 3 c) [⟨U0, .slice a0 60 c0⟩, ⟨U1, .slice a1 60 c1⟩, ⟨U2, .slice a2 60 c2⟩]) := h
 have HY : Hid (U2.cells[m]? = some y) := hy
 have hmi : (m : Int) < 60 := by omega
 have hm0 : (0 : Int) ≤ (m : Int) := by omega
 clear h hd hy hib
 go_enter Tryz.func178, Tryz.ntmps178
 go_wp2_with fail
 refine hck.mono ?_
 rintro e w1 ⟨rfl, hb1⟩
 have HE1 := hv HE0 hb1
 have HB1 := sb HB0 hb1
 clear HE0 HB0 hb1
 clear hck
 go_wp2_with fail
 refine (kp _).mono ?_
 rintro e w1 ⟨rfl, rfl⟩
 have hc1 := HCH.out.later HB1.out
 obtain ⟨b', off', eb, hrow⟩ := hc1.rows.at (by omega)
 injection eb with eb
 injection eb with eb1 eb2 _
 subst eb1 eb2
 obtain ⟨⟨p0, s0⟩, ⟨p1, s1⟩, ⟨p2, s2⟩⟩ := row_three hrow
 obtain ⟨by_, oy, ey, hEy⟩ := SlOf.at (cs := En.cells) (k := 5) (hc1.each ⟨U2, .slice a2 60 c2⟩ (by simp)).ents (by omega)
 subst ey
 have g0 : w1.cell? ⟨by_, oy + m * 5, none⟩ = some (.int .i64 y.k) := hEy m y HY.out 0 _ rfl
 have g1 : w1.cell? ⟨by_, oy + m * 5 + 1, none⟩ = some (.int .i64 y.j) := hEy m y HY.out 1 _ rfl
 have g2 : w1.cell? ⟨by_, oy + m * 5 + 2, none⟩ = some (.int .i64 y.v) := hEy m y HY.out 2 _ rfl
 have g3 : w1.cell? ⟨by_, oy + m * 5 + 3, none⟩ = some (.int .i64 y.t) := hEy m y HY.out 3 _ rfl
 have g4 : w1.cell? ⟨by_, oy + m * 5 + 4, none⟩ = some (.int .i64 y.c) := hEy m y HY.out 4 _ rfl
 have hyb := heap_lt HE1.out
 have HE4 : Aside _ := heap_old HE1.out (boxE y.k y.j y.v y.t y.c)
 have HY4 : Aside _ := heap_new w1 (boxE y.k y.j y.v y.t y.c)
 have HB4 : Aside _ := grew HB1.out (boxE y.k y.j y.v y.t y.c)
 clear hrow hEy hc1 HE1 HB1 HCH kp
 go_upto_region 7 with fail
 generalize w1.alloc (boxE y.k y.j y.v y.t y.c) = w4 at *
 generalize w1.heap.size = yb at *
 clear g0 g1 g2 g3 g4 p0 s0 p1 s1 p2 s2
 have zy := cb HY4
 go_wp2_with fail
 refine (kst _).mono ?_
 rintro e w6 ⟨rfl, hb6⟩
 have HE6 := hv HE4 hb6
 have HY6 := hv HY4 hb6
 have HB6 := sb HB4 hb6
 clear hb6 kst zy HE4 HY4 HB4
 have zy := cb HY6
 have ze := cb HE6
 have fe := cf HE6
 go_wp2
 exact ret_ent (p := 4) (q := 5) (e := En.zero) Tryz.results178 rfl rfl rfl (five_box (f := En.zero) HE6.out (En.zero)) ⟨rfl, five_below HB6.out (Nat.le_refl _) _ _ _ _ _⟩
set_option maxHeartbeats 4000000 in
set_option maxRecDepth 100000 in
theorem chRead_stands (b off c m : Nat) (U0 U1 U2 : Un) (a0 a1 a2 : Option Addr) (c0 c1 c2 : Nat) (w : World) (h : ChAt w (.slice (some ⟨b, off, none⟩) 3 c) [⟨U0, .slice a0 60 c0⟩, ⟨U1, .slice a1 60 c1⟩, ⟨U2, .slice a2 60 c2⟩]) (hd : ckChain [U0, U1, U2] = 0) (hm : m < 60) (y : En) (hy : U2.cells[m]? = some y) (hib : y.isB = false) :
  Calls Tryz.prog 178 #[.slice (some ⟨b, off, none⟩) 3 c, .int .i64 (m : Int)] w fun e w' => e = .returned (.tuple #[(((y, 0) : En × Int)).1.val, .int .i64 (((y, 0) : En × Int)).2]) ∧ Below w.heap.size w w' := by
 have HB0 : Aside (Below w.heap.size w (w.alloc (boxE 0 0 0 0 0))) := grew (Below.refl _ _) _
 have HE0 : Aside ((w.alloc (boxE 0 0 0 0 0)).heap[w.heap.size]? = some (boxE 0 0 0 0 0)) := heap_new _ _
 have hck := chCheck_any _ _ _ (h.later HB0.out)
 rw [show ckChain (unitsOf [⟨U0, .slice a0 60 c0⟩, ⟨U1, .slice a1 60 c1⟩, ⟨U2, .slice a2 60 c2⟩]) = 0 from hd] at hck
 have kp := fun W => isPlace_any (m : Int) W
 rw [decide_eq_true (by omega)] at kp
 have kst := fun W => stands_any y W
 rw [hib, Bool.not_false] at kst
 have HCH : Aside (ChAt w (.slice (some ⟨b, off, none⟩) 3 c) [⟨U0, .slice a0 60 c0⟩, ⟨U1, .slice a1 60 c1⟩, ⟨U2, .slice a2 60 c2⟩]) := h
 have HY : Hid (U2.cells[m]? = some y) := hy
 have hmi : (m : Int) < 60 := by omega
 have hm0 : (0 : Int) ≤ (m : Int) := by omega
 clear h hd hy hib
 go_enter Tryz.func178, Tryz.ntmps178
 go_wp2_with fail
 refine hck.mono ?_
 rintro e w1 ⟨rfl, hb1⟩
 have HE1 := hv HE0 hb1
 have HB1 := sb HB0 hb1
 clear HE0 HB0 hb1
 clear hck
 go_wp2_with fail
 refine (kp _).mono ?_
 rintro e w1 ⟨rfl, rfl⟩
 have hc1 := HCH.out.later HB1.out
 obtain ⟨b', off', eb, hrow⟩ := hc1.rows.at (by omega)
 injection eb with eb
 injection eb with eb1 eb2 _
 subst eb1 eb2
 obtain ⟨⟨p0, s0⟩, ⟨p1, s1⟩, ⟨p2, s2⟩⟩ := row_three hrow
 obtain ⟨by_, oy, ey, hEy⟩ := SlOf.at (cs := En.cells) (k := 5) (hc1.each ⟨U2, .slice a2 60 c2⟩ (by simp)).ents (by omega)
 subst ey
 have g0 : w1.cell? ⟨by_, oy + m * 5, none⟩ = some (.int .i64 y.k) := hEy m y HY.out 0 _ rfl
 have g1 : w1.cell? ⟨by_, oy + m * 5 + 1, none⟩ = some (.int .i64 y.j) := hEy m y HY.out 1 _ rfl
 have g2 : w1.cell? ⟨by_, oy + m * 5 + 2, none⟩ = some (.int .i64 y.v) := hEy m y HY.out 2 _ rfl
 have g3 : w1.cell? ⟨by_, oy + m * 5 + 3, none⟩ = some (.int .i64 y.t) := hEy m y HY.out 3 _ rfl
 have g4 : w1.cell? ⟨by_, oy + m * 5 + 4, none⟩ = some (.int .i64 y.c) := hEy m y HY.out 4 _ rfl
 have hyb := heap_lt HE1.out
 have HE4 : Aside _ := heap_old HE1.out (boxE y.k y.j y.v y.t y.c)
 have HY4 : Aside _ := heap_new w1 (boxE y.k y.j y.v y.t y.c)
 have HB4 : Aside _ := grew HB1.out (boxE y.k y.j y.v y.t y.c)
 clear hrow hEy hc1 HE1 HB1 HCH kp
 go_upto_region 7 with fail
 generalize w1.alloc (boxE y.k y.j y.v y.t y.c) = w4 at *
 generalize w1.heap.size = yb at *
 clear g0 g1 g2 g3 g4 p0 s0 p1 s1 p2 s2
 have zy := cb HY4
 go_wp2_with fail
 refine (kst _).mono ?_
 rintro e w6 ⟨rfl, hb6⟩
 have HE6 := hv HE4 hb6
 have HY6 := hv HY4 hb6
 have HB6 := sb HB4 hb6
 clear hb6 kst zy HE4 HY4 HB4
 have zy := cb HY6
 have ze := cb HE6
 have fe := cf HE6
 go_wp2
 exact ret_ent (p := 4) (q := 5) (e := y) Tryz.results178 rfl rfl rfl (five_box (f := En.zero) HE6.out (y)) ⟨rfl, five_below HB6.out (Nat.le_refl _) _ _ _ _ _⟩
theorem chRead_any (v : Value) (xs : List Ub) (a : Int) (w : World) (h : ChAt w v xs) :
  Calls Tryz.prog 178 #[v, .int .i64 a] w fun e w' => e = .returned (.tuple #[(readOf (unitsOf xs) a).1.val, .int .i64 (readOf (unitsOf xs) a).2]) ∧ Below w.heap.size w w' := by
 by_cases hd : ckChain (unitsOf xs) = 0
 ·by_cases ha : 0 ≤ a ∧ a ≤ 59
  ·obtain ⟨U0, U1, U2, a0, c0, a1, c1, a2, c2, b, off, c, rfl, rfl, d0, d1, d2⟩ := right_three h hd
   obtain ⟨m, rfl⟩ : ∃ m : Nat, a = m := ⟨a.toNat, by omega⟩
   have hm : m < 60 := by omega
   obtain ⟨y2, hy2⟩ : ∃ y, U2.cells[m]? = some y := ⟨_, plc_some (us := [U2]) (k := 0) rfl d2 hm⟩
   have e2 : plc (unitsOf [⟨U0, .slice a0 60 c0⟩, ⟨U1, .slice a1 60 c1⟩, ⟨U2, .slice a2 60 c2⟩]) 2 m = y2 := plc_eq (u := U2) rfl hy2
   rw [readOf, if_neg (by simpa using hd), if_neg (by simpa using ha), show ((m : Int).toNat) = m from rfl, e2]
   cases hb : y2.isB with
   | true => rw [if_pos rfl]; exact chRead_late b off c m U0 U1 U2 a0 a1 a2 c0 c1 c2 w h hd hm y2 hy2 hb
   | false => rw [if_neg (by simp)]; exact chRead_stands b off c m U0 U1 U2 a0 a1 a2 c0 c1 c2 w h hd hm y2 hy2 hb
  ·rw [readOf, if_neg (by simpa using hd), if_pos ha]
   exact chRead_who v xs a w h hd ha
 ·rw [readOf, if_pos hd]
  exact chRead_ck v xs a w h _ rfl (by rw [bne_iff_ne]; exact hd)
end
section
open scoped Classical
theorem chains_any : Chains where
 check := fun v xs W h _ => chCheck_any v xs W h
 link := fun v xs k a ep x W h _ => chLink_any v xs k a ep x W h
 read := fun v xs a W h _ => chRead_any v xs a W h
end
abbrev stE (w : World) (b : Nat) (x : En) : World := ((((w.setCell ⟨b, 0, none⟩ (.int .i64 x.k)).setCell ⟨b, 1, none⟩ (.int .i64 x.j)).setCell ⟨b, 2, none⟩ (.int .i64 x.v)).setCell ⟨b, 3, none⟩ (.int .i64 x.t)).setCell ⟨b, 4, none⟩ (.int .i64 x.c)
theorem stE_below {W0 w : World} {b : Nat} (h : Below W0.heap.size W0 w) (hb : W0.heap.size ≤ b) (x : En) : Below W0.heap.size W0 (stE w b x) :=
 ((((h.setCell (p := ⟨b, 0, none⟩) hb _).setCell (p := ⟨b, 1, none⟩) hb _).setCell (p := ⟨b, 2, none⟩) hb _).setCell (p := ⟨b, 3, none⟩) hb _).setCell (p := ⟨b, 4, none⟩) hb _
theorem stE_box {w : World} {b : Nat} {k j v t c : Int} (h : w.heap[b]? = some (boxE k j v t c)) (x : En) : (stE w b x).heap[b]? = some (boxE x.k x.j x.v x.t x.c) := by
 have g0 := Joins.block_setCell h (i := 0) (.int .i64 x.k)
 have g1 := Joins.block_setCell g0 (i := 1) (.int .i64 x.j)
 have g2 := Joins.block_setCell g1 (i := 2) (.int .i64 x.v)
 have g3 := Joins.block_setCell g2 (i := 3) (.int .i64 x.t)
 have g4 := Joins.block_setCell g3 (i := 4) (.int .i64 x.c)
 simp only [List.setIfInBounds_toArray, List.set_cons_zero, List.set_cons_succ] at g4
 exact g4
theorem stE_other {w : World} {b q : Nat} {o : Obj} (h : w.heap[q]? = some o) (hne : q ≠ b) (x : En) : (stE w b x).heap[q]? = some o :=
 other_block (other_block (other_block (other_block (other_block h hne _ _) hne _ _) hne _ _) hne _ _) hne _ _
structure EBx (W0 wx : World) (b : Nat) (x : En) : Prop where
 box : wx.heap[b]? = some (boxE x.k x.j x.v x.t x.c)
 base : W0.heap.size ≤ b
 below : Below W0.heap.size W0 wx
theorem kread {xs : List Nb} (hf : Fits (ubsOf xs)) (hc : ckChain ((nodesOf xs).map Nd.u) = 0) (a : Int) {x : En} {d : Int} (hq : readIn ((nodesOf xs).map Nd.u) a = (x, d)) (W : World) (u : Value) (h : ChAt W u (ubsOf xs)) :
  Calls Tryz.prog 178 #[u, .int .i64 a] W fun e w' => e = .returned (.tuple #[x.val, .int .i64 d]) ∧ Below W.heap.size W w' := by
 have := chains_any.read u (ubsOf xs) a W h hf
 rw [ubs_units, readOf_in hc, hq] at this
 exact this
set_option maxHeartbeats 8000000 in
set_option maxRecDepth 100000 in
theorem w_play_at (c : Cl) (a1 a2 : Option Addr) (m1 k1 m2 k2 : Nat) (xs : List Nb) (g1 : Nat) (w : World) (hb : BkAt w (.slice a1 m1 k1) (.slice a2 m2 k2) c) (hv : SlOf Nb.cells 5 w (.slice (some ⟨g1, 0, none⟩) 3 3) xs) (hu : ∀ x, x ∈ xs → NodeT w x) (hf : Fits (ubsOf xs)) (hc : ckChain ((nodesOf xs).map Nd.u) = 0)
  (h60 : (c.n == 60) = false) {x2 : Nb} (hx2 : xs[2]? = some x2) (hup : x2.n.up = true) :
  AnsT 141 #[c.val (.slice a1 m1 k1) (.slice a2 m2 k2), .slice (some ⟨g1, 0, none⟩) 3 3] w (if (readIn ((nodesOf xs).map Nd.u) c.n).2 ≠ 0 then (Cl.zero, (readIn ((nodesOf xs).map Nd.u) c.n).2) else playOf c (readIn ((nodesOf xs).map Nd.u) c.n).1) := by
 obtain ⟨⟨s, d⟩, hq⟩ : ∃ q, readIn ((nodesOf xs).map Nd.u) c.n = q := ⟨_, rfl⟩
 obtain ⟨⟨R, f⟩, hp⟩ : ∃ q, playOf c s = q := ⟨_, rfl⟩
 rw [hq]
 simp only
 rw [hp]
 have hl3 : xs.length = 3 := hv.len
 obtain ⟨rr, HRR⟩ : ∃ rr, Hid ((if d ≠ 0 then (Cl.zero, d) else (R, f)) = rr) := ⟨_, rfl⟩
 rw [HRR.out]
 have HC : Hid ((d ≠ 0 ∧ rr = (Cl.zero, d)) ∨ (d = 0 ∧ rr = (R, f))) := by
  have := HRR.out
  by_cases h0 : d = 0
  ·rw [if_neg (not_not_intro h0)] at this; exact Or.inr ⟨h0, this.symm⟩
  ·rw [if_pos h0] at this; exact Or.inl ⟨h0, this.symm⟩
 have kr : Aside (∀ W u, ChAt W u (ubsOf xs) → Calls Tryz.prog 178 #[u, .int .i64 c.n] W fun e w' => e = .returned (.tuple #[s.val, .int .i64 d]) ∧ Below W.heap.size W w') := kread hf hc c.n hq
 have kU : Aside (∀ W, Below w.heap.size w W → Calls Tryz.prog 106 #[.slice (some ⟨g1, 0, none⟩) 3 3] W fun e w' => ∃ u, e = .returned u ∧ ChAt w' u (ubsOf xs) ∧ Below W.heap.size W w') := fun W hb' => w_units _ xs W (hv.later hb') (by omega) (fun y hy => (hu y hy).later hb')
 have kp : Aside (∀ W, Below w.heap.size w W → AnsT 179 #[c.val (.slice a1 m1 k1) (.slice a2 m2 k2), s.val] W (R, f)) := fun W hb' => by
  have := cl_play c s (.slice a1 m1 k1) (.slice a2 m2 k2) W (bkAt_later hb hb')
  rwa [hp] at this
 have HE : Aside (RowAt Nb.cells 5 w g1 0 xs) := by
  obtain ⟨b, off, he, hE⟩ := hv.at (by omega)
  injection he with he
  injection he with e1 e2 e3
  rw [← e1, ← e2] at hE
  exact hE
 have hup14 : Aside (∀ W, Below w.heap.size w W → W.cell? ⟨g1, 14, none⟩ = some (.bool true)) := fun W hb' => by
  have := (HE.out.later hb') 2 x2 hx2 4 _ rfl
  rw [hup] at this
  simpa using this
 clear hq hp hv hu hf hc hb hx2 hup HRR hl3 HE
 have B0 : Aside (Below w.heap.size w ((w.alloc (boxC c (.slice a1 m1 k1) (.slice a2 m2 k2))).alloc (boxZ))) := grew (grew (Below.refl _ _) _) _
 have h0_0 : Aside (((w.alloc (boxC c (.slice a1 m1 k1) (.slice a2 m2 k2))).alloc (boxZ)).heap[w.heap.size]? = some (boxC c (.slice a1 m1 k1) (.slice a2 m2 k2))) := by
  have := heap_new w (boxC c (.slice a1 m1 k1) (.slice a2 m2 k2))
  exact heap_old (this) _
 have h1_0 : Aside (((w.alloc (boxC c (.slice a1 m1 k1) (.slice a2 m2 k2))).alloc (boxZ)).heap[w.heap.size + 1]? = some (boxZ)) := by
  have := heap_new (w.alloc (boxC c (.slice a1 m1 k1) (.slice a2 m2 k2))) (boxZ)
  rw [World.size_alloc] at this
  exact this
 go_enter Tryz.func141, Tryz.ntmps141
 go_upto_region 1 with fail
 generalize ((w.alloc (boxC c (.slice a1 m1 k1) (.slice a2 m2 k2))).alloc (boxZ)) = w0 at *
 have z0 := cb h0_0
 have hu14 := hup14.out w0 B0.out
 clear hup14
 go_upto_region 5 with fail
 clear z0 hu14
 have ku : Aside (∀ W, Below w0.heap.size w0 W → Calls Tryz.prog 106 #[.slice (some ⟨g1, 0, none⟩) 3 3] W fun e w' => ∃ u, e = .returned u ∧ ChAt w' u (ubsOf xs) ∧ Below W.heap.size W w') := fun W hb' => kU.out W (B0.out.trans (hb'.mono B0.out.size))
 clear kU
 generalize w0 = W0 at *
 go_cut [6, 7] from 21 to 28 (fun s6 s7 wx => ∃ b : Nat, s6 = .pointer (some ⟨b, 0, none⟩) ∧ s7 = .int .i64 d ∧ EBx W0 wx b s)
 case first =>
  refine wp_region_held_drew (S := fun W' => Below W0.heap.size W0 W') (by kernel_rfl) ((Below.refl _ _).drew) (fun hHeld => ?_)
  refine tk 0 (v := ?_) rfl (by kernel_rfl) (by rfl) (by assumption) (fun _ _ _ h => h) ?_ ?_
  rotate_left
  ·intro w0 hSw; clear hSw; go_simp; first | done | with_reducible rfl
  try simp only [Act.put, qa, qb, qc]
  refine tk 2 (v := ?_) rfl (by kernel_rfl) (by rfl) (by assumption) (fun _ _ _ h => h) ?_ ?_
  rotate_left
  ·intro w0 hSw; clear hSw; go_simp; first | done | with_reducible rfl
  try simp only [Act.put, qa, qb, qc]
  refine tk 3 (v := ?_) rfl (by kernel_rfl) (by rfl) (by assumption) (fun _ _ _ h => h) ?_ ?_
  rotate_left
  ·intro w0 hSw; have z := (show ∀ i, w0.cell? ⟨w.heap.size, i, none⟩ = #[Value.int .i64 c.p, .int .i64 c.d, .int .i64 c.e.k, .int .i64 c.e.j, .int .i64 c.e.v, .int .i64 c.e.t, .int .i64 c.e.c, .int .i64 c.a, .int .i64 c.l, .int .i64 c.n, .slice a1 m1 k1, .slice a2 m2 k2][i]? from fun i => Joins.cell_of_block (heap_below h0_0.out hSw (heap_lt h0_0.out)) i); clear hSw; go_simp; first | done | with_reducible rfl
  try simp only [Act.put, qa, qb, qc]
  refine wpAnyH_ready (rs := [1, 8]) (by kernel_rfl) (by simp) ?_
  refine AllReadyH.cons (o := ?o1r) ?hi1r ?step1r (AllReadyH.cons (o := ?o8r) ?hi8r ?step8r AllReadyH.nil)
  case hi1r => (simp only [List.getElem?_toArray, List.getElem?_cons_succ, List.getElem?_cons_zero]; rfl)
  case hi8r => (simp only [List.getElem?_toArray, List.getElem?_cons_succ, List.getElem?_cons_zero]; rfl)
  case step1r =>
   intro K hK
   go_simp
   refine (ku.out _ hHeld).mono ?_
   rintro e w1 ⟨u, rfl, hch, hb1⟩
   have hH1 : Below W0.heap.size W0 w1 := step_below1 hHeld hb1
   refine hK.out _ _ hH1 (fun hHeld => ?_)
   clear hK K
   try simp only [Act.put, qa, qb, qc]
   refine wpAnyH_ready (rs := [4, 8]) (by kernel_rfl) (by simp) ?_
   refine AllReadyH.cons (o := ?o4ra) ?hi4ra ?step4ra (AllReadyH.cons (o := ?o8ra) ?hi8ra ?step8ra AllReadyH.nil)
   case hi4ra => (simp only [List.getElem?_toArray, List.getElem?_cons_succ, List.getElem?_cons_zero]; rfl)
   case hi8ra => (simp only [List.getElem?_toArray, List.getElem?_cons_succ, List.getElem?_cons_zero]; rfl)
   case step4ra =>
    intro K hK
    go_simp
    refine (kr.out _ _ hch).mono ?_
    rintro e w2 ⟨rfl, hb2⟩
    have hH2 : Below W0.heap.size W0 w2 := step_below1 hHeld hb2
    have hch2 := ChAt.later hch hb2
    refine hK.out _ _ hH2 (fun hHeld => ?_)
    clear hK K
    try simp only [Act.put, qa, qb, qc]
    refine tk 5 (v := ?_) rfl (by kernel_rfl) (by rfl) (by assumption) (fun _ _ _ h => h) ?_ ?_
    rotate_left
    ·intro w0 hSw; clear hSw; go_simp; first | done | with_reducible rfl
    try simp only [Act.put, qa, qb, qc]
    refine tk 6 (v := ?_) rfl (by kernel_rfl) (by rfl) (by assumption) (fun _ _ _ h => h) ?_ ?_
    rotate_left
    ·intro w0 hSw; clear hSw; go_simp; first | done | with_reducible rfl
    try simp only [Act.put, qa, qb, qc]
    refine tk 7 (v := ?_) rfl (by kernel_rfl) (by rfl) (by assumption) (fun _ _ _ h => h) ?_ ?_
    rotate_left
    ·intro w0 hSw; clear hSw; go_simp; first | done | with_reducible rfl
    try simp only [Act.put, qa, qb, qc]
    refine rdy 8 (by kernel_rfl) rfl (fun K hK => ?_)
    go_simp
    have lx : W0.heap.size ≤ w2.heap.size := hHeld.size
    refine hK.out _ _ (grew hHeld _) (fun hHeld => ?_)
    clear hK K
    try simp only [Act.put, qa, qb, qc]
    have x3 : (w2.alloc (boxE 0 0 0 0 0)).heap[w2.heap.size]? = some (boxE 0 0 0 0 0) := heap_new _ _
    have hch3 : _ := ChAt.later hch2 (show Below w2.heap.size w2 (w2.alloc (boxE 0 0 0 0 0)) from grew (Below.refl _ _) _)
    generalize w2.alloc (boxE 0 0 0 0 0) = w3 at *
    generalize w2.heap.size = dx at *
    have cc := fun i => Joins.cell_of_block x3 i
    have ff := fun i => Joins.unfrozen_of_block x3 i
    refine rdy 9 (by kernel_rfl) rfl (fun K hK => ?_)
    go_simp
    refine hK.out _ _ (stE_below hHeld lx s) (fun hHeld => ?_)
    clear hK K
    try simp only [Act.put, qa, qb, qc]
    refine rdy 10 (by kernel_rfl) rfl (fun K hK => ?_)
    go_simp
    refine hK.out _ _ (hHeld) (fun hHeld => ?_)
    clear hK K
    try simp only [Act.put, qa, qb, qc]
    refine wpAnyH_done (by kernel_rfl) ?_ _
    go_wp2_with fail
    go_meet
    case rel => exact ⟨_, rfl, rfl, ⟨stE_box x3 s, lx, hHeld⟩⟩
   case step8ra =>
    intro K hK
    go_simp
    have lx : W0.heap.size ≤ w1.heap.size := hHeld.size
    refine hK.out _ _ (grew hHeld _) (fun hHeld => ?_)
    clear hK K
    try simp only [Act.put, qa, qb, qc]
    have x2 : (w1.alloc (boxE 0 0 0 0 0)).heap[w1.heap.size]? = some (boxE 0 0 0 0 0) := heap_new _ _
    have hch2 : _ := ChAt.later hch (show Below w1.heap.size w1 (w1.alloc (boxE 0 0 0 0 0)) from grew (Below.refl _ _) _)
    generalize w1.alloc (boxE 0 0 0 0 0) = w2 at *
    generalize w1.heap.size = dx at *
    refine rdy 4 (by kernel_rfl) rfl (fun K hK => ?_)
    go_simp
    refine (kr.out _ _ hch2).mono ?_
    rintro e w3 ⟨rfl, hb3⟩
    have hH3 : Below W0.heap.size W0 w3 := step_below1 hHeld hb3
    have hch3 := ChAt.later hch2 hb3
    have x3 := heap_below x2 hb3 (heap_lt x2)
    refine hK.out _ _ hH3 (fun hHeld => ?_)
    clear hK K
    try simp only [Act.put, qa, qb, qc]
    refine tk 5 (v := ?_) rfl (by kernel_rfl) (by rfl) (by assumption) (fun _ _ _ h => h) ?_ ?_
    rotate_left
    ·intro w0 hSw; clear hSw; go_simp; first | done | with_reducible rfl
    try simp only [Act.put, qa, qb, qc]
    refine tk 6 (v := ?_) rfl (by kernel_rfl) (by rfl) (by assumption) (fun _ _ _ h => h) ?_ ?_
    rotate_left
    ·intro w0 hSw; clear hSw; go_simp; first | done | with_reducible rfl
    try simp only [Act.put, qa, qb, qc]
    refine tk 7 (v := ?_) rfl (by kernel_rfl) (by rfl) (by assumption) (fun _ _ _ h => h) ?_ ?_
    rotate_left
    ·intro w0 hSw; clear hSw; go_simp; first | done | with_reducible rfl
    try simp only [Act.put, qa, qb, qc]
    have cc := fun i => Joins.cell_of_block x3 i
    have ff := fun i => Joins.unfrozen_of_block x3 i
    refine rdy 9 (by kernel_rfl) rfl (fun K hK => ?_)
    go_simp
    refine hK.out _ _ (stE_below hHeld lx s) (fun hHeld => ?_)
    clear hK K
    try simp only [Act.put, qa, qb, qc]
    refine rdy 10 (by kernel_rfl) rfl (fun K hK => ?_)
    go_simp
    refine hK.out _ _ (hHeld) (fun hHeld => ?_)
    clear hK K
    try simp only [Act.put, qa, qb, qc]
    refine wpAnyH_done (by kernel_rfl) ?_ _
    go_wp2_with fail
    go_meet
    case rel => exact ⟨_, rfl, rfl, ⟨stE_box x3 s, lx, hHeld⟩⟩
  case step8r =>
   intro K hK
   go_simp
   have lx : W0.heap.size ≤ W0.heap.size := Nat.le_refl _
   refine hK.out _ _ (grew hHeld _) (fun hHeld => ?_)
   clear hK K
   try simp only [Act.put, qa, qb, qc]
   have x1 : ((W0.alloc (boxE 0 0 0 0 0)).drew).heap[W0.heap.size]? = some (boxE 0 0 0 0 0) := heap_new _ _
   generalize (W0.alloc (boxE 0 0 0 0 0)).drew = w1 at *
   refine rdy 1 (by kernel_rfl) rfl (fun K hK => ?_)
   go_simp
   refine (ku.out _ hHeld).mono ?_
   rintro e w2 ⟨u, rfl, hch, hb2⟩
   have hH2 : Below W0.heap.size W0 w2 := step_below1 hHeld hb2
   have x2 := heap_below x1 hb2 (heap_lt x1)
   refine hK.out _ _ hH2 (fun hHeld => ?_)
   clear hK K
   try simp only [Act.put, qa, qb, qc]
   refine rdy 4 (by kernel_rfl) rfl (fun K hK => ?_)
   go_simp
   refine (kr.out _ _ hch).mono ?_
   rintro e w3 ⟨rfl, hb3⟩
   have hH3 : Below W0.heap.size W0 w3 := step_below1 hHeld hb3
   have x3 := heap_below x2 hb3 (heap_lt x2)
   have hch3 := ChAt.later hch hb3
   refine hK.out _ _ hH3 (fun hHeld => ?_)
   clear hK K
   try simp only [Act.put, qa, qb, qc]
   refine tk 5 (v := ?_) rfl (by kernel_rfl) (by rfl) (by assumption) (fun _ _ _ h => h) ?_ ?_
   rotate_left
   ·intro w0 hSw; clear hSw; go_simp; first | done | with_reducible rfl
   try simp only [Act.put, qa, qb, qc]
   refine tk 6 (v := ?_) rfl (by kernel_rfl) (by rfl) (by assumption) (fun _ _ _ h => h) ?_ ?_
   rotate_left
   ·intro w0 hSw; clear hSw; go_simp; first | done | with_reducible rfl
   try simp only [Act.put, qa, qb, qc]
   refine tk 7 (v := ?_) rfl (by kernel_rfl) (by rfl) (by assumption) (fun _ _ _ h => h) ?_ ?_
   rotate_left
   ·intro w0 hSw; clear hSw; go_simp; first | done | with_reducible rfl
   try simp only [Act.put, qa, qb, qc]
   have cc := fun i => Joins.cell_of_block x3 i
   have ff := fun i => Joins.unfrozen_of_block x3 i
   refine rdy 9 (by kernel_rfl) rfl (fun K hK => ?_)
   go_simp
   refine hK.out _ _ (stE_below hHeld lx s) (fun hHeld => ?_)
   clear hK K
   try simp only [Act.put, qa, qb, qc]
   refine rdy 10 (by kernel_rfl) rfl (fun K hK => ?_)
   go_simp
   refine hK.out _ _ (hHeld) (fun hHeld => ?_)
   clear hK K
   try simp only [Act.put, qa, qb, qc]
   refine wpAnyH_done (by kernel_rfl) ?_ _
   go_wp2_with fail
   go_meet
   case rel => exact ⟨_, rfl, rfl, ⟨stE_box x3 s, lx, hHeld⟩⟩
 case rest =>
  obtain ⟨b, rfl, rfl, hE⟩ := hcut
  have h0_1 : Aside _ := heap_below h0_0.out hE.below (heap_lt h0_0.out)
  have h1_1 : Aside _ := heap_below h1_0.out hE.below (heap_lt h1_0.out)
  have B1 : Aside (Below w.heap.size w wc) := B0.out.trans (hE.below.mono B0.out.size)
  have HX : Aside (wc.heap[b]? = some (boxE s.k s.j s.v s.t s.c)) := hE.box
  clear hE h0_0 h1_0 B0 ku kr
  generalize wc = w1 at *
  rcases HC.out with ⟨h0, h1⟩ | ⟨h0, h1⟩
  ·have hz : (d != 0) = true := by rw [bne_iff_ne]; exact h0
   subst h1
   clear h0 HC kp HX h0_1
   have z1 := cb h1_1
   have fz1 := cf h1_1
   go_wp2
   refine ret_st (p := 4) (q := 5) w1 (w.heap.size + 1) Cl.zero nil0 nil0 (o := Cl.zero) (u1 := nil0) (u2 := nil0) Tryz.results141 rfl rfl rfl h1_1.out rfl ?_
   exact ⟨nil0, nil0, rfl, bkT_nil _ rfl rfl, st12_below B1.out (by omega) _ _ _⟩
  ·have hz : (d != 0) = false := by rw [h0]; rfl
   subst h1
   clear h0 HC
   have zx := cb HX
   have z0 := cb h0_1
   go_wp2_with fail
   refine (kp.out w1 B1.out).mono ?_
   rintro e w2 ⟨u1, u2, rfl, hT, hb2⟩
   have hR := hv h1_1 hb2
   have hB := sb B1 hb2
   have HT : Aside (BkT w2 u1 u2 R) := hT
   obtain ⟨s1, o1, s2, o2, rfl, rfl⟩ := bk_slices hT.1.1 hT.1.2
   clear hb2 B1 hT h0_1 h1_1 zx z0 kp HX
   obtain ⟨n1, hn1⟩ : ∃ n, Hid ((R).js.length = n) := ⟨_, rfl⟩
   obtain ⟨n2, hn2⟩ : ∃ n, Hid ((R).rs.length = n) := ⟨_, rfl⟩
   rw [hn1.out, hn2.out] at HT ⊢
   have zr := cb hR
   have fzr := cf hR
   go_wp2
   refine ret_st (p := 4) (q := 5) w2 (w.heap.size + 1) (R) (.slice s1 n1 o1) (.slice s2 n2 o2) (o := Cl.zero) (u1 := nil0) (u2 := nil0) Tryz.results141 rfl rfl rfl hR.out rfl ?_
   exact ⟨(.slice s1 n1 o1), (.slice s2 n2 o2), rfl, bkT_st12 ⟨_, hR.out⟩ HT.out _ _ _, st12_below hB.out (by omega) _ _ _⟩
end Go.Proofs.YtmoaobfmopimlafGreatDoor
