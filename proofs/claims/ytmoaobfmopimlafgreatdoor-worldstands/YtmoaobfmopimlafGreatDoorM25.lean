/- For the law. -/
import Derived.Test.YtmoaobfmopimlafGreatDoorM24
set_option linter.unusedSimpArgs false
set_option linter.unusedVariables false
namespace Go.Proofs.YtmoaobfmopimlafGreatDoor
open Go.RowKit
def recD (s t : List UInt8) : Dk × Un × Int :=
 if ckDisk s t ≠ 0 then (([], []), Un.zero, ckDisk s t) else if (unitOf (recovered s t).2).2 ≠ 0 then (([], []), Un.zero, (unitOf (recovered s t).2).2) else ((recovered s t).1, (unitOf (recovered s t).2).1, 0)
abbrev AnsQ (f : FuncId) (args : Array Value) (w : World) (r : Dk × Un × Int) : Prop :=
 Calls Tryz.prog f args w fun e w' => ∃ u1 u2 v', e = .returned (.tuple #[.agg #[u1, u2], .agg #[.int .i64 r.2.1.p, v'], .int .i64 r.2.2]) ∧ DiskR w' u1 u2 r.1 ∧ UnitAt w' v' r.2.1 ∧ Below w.heap.size w w'
theorem ret_du {fn : Func} {R : Ending → World → Prop} {a : Act} {W : World} {b c p q r : Nat} {v1 v2 y y' x : Value} (hf : fn.results = #[.cell p 47, .cell q 44, .tmp r]) (hd : a.defers = [])
  (h2 : a.tmps.getD p undef = .pointer (some ⟨b, 0, none⟩)) (h3 : a.tmps.getD q undef = .pointer (some ⟨c, 0, none⟩)) (h4 : a.tmps.getD r undef = x) (hR : W.heap[b]? = some (boxD v1 v2)) (hU : W.heap[c]? = some (.cells #[y, y'] 44)) (hp : R (.returned (.tuple #[.agg #[v1, v2], .agg #[y, y'], x])) W) :
  bodyPost Tryz.prog fn R .ret a W := by
 have c0 := fun i => Joins.cell_of_block hR i
 have c1 := fun i => Joins.cell_of_block hU i
 have h2' : a.tmps[p]?.getD undef = .pointer (some ⟨b, 0, none⟩) := by simpa using h2
 have h3' : a.tmps[q]?.getD undef = .pointer (some ⟨c, 0, none⟩) := by simpa using h3
 have h4' : a.tmps[r]?.getD undef = x := by simpa using h4
 refine bodyPost_ret (v := .tuple #[.agg #[v1, v2], .agg #[y, y'], x]) ?_ hd hp
 simp [results, hf, h2', h3', h4', go_sem, c0, c1]
theorem recs_box {W : World} {b : Nat} {a1 a2 : Option Addr} {n1 n2 c1 c2 : Nat} {v : Value} {l : List Rc} (h : RecSl W v l) (hb : W.heap[b]? = some (boxD (.slice a1 n1 c1) (.slice a2 n2 c2))) (e1 e2 : Option Addr) (m1 m2 d1 d2 : Nat) :
  RecSl ((W.setCell ⟨b, 0, none⟩ (.slice e1 m1 d1)).setCell ⟨b, 1, none⟩ (.slice e2 m2 d2)) v l := bytes_two hb rc_num h
theorem unitOf_sixty {l : List Rc} {u : Un} (h : unitOf l = (u, 0)) : u.cells.length = 60 := by
 have hl : l.length ≤ 160 := by
  rcases Nat.lt_or_ge 160 l.length with hh | hh
  ·rw [unitOf, if_pos hh] at h; cases h
  ·exact hh
 exact (Un.ck_zero.1 (unitOf_right hl h)).2.1
theorem stored_two {W : World} {b : Nat} {A : Array Value} {T : TypeId} (h : W.heap[b]? = some (.cells A T)) (h2 : A.size = 2) (u1 u2 : Value) : ((W.setCell ⟨b, 0, none⟩ u1).setCell ⟨b, 1, none⟩ u2).heap[b]? = some (.cells #[u1, u2] T) := by
 rw [Joins.block_setCell (Joins.block_setCell h u1) u2]
 obtain ⟨l⟩ := A
 match l, h2 with
 | [x, y], _ => rfl
theorem other_two {W : World} {b q : Nat} {o : Obj} (h : W.heap[q]? = some o) (hne : q ≠ b) (u1 u2 : Value) : ((W.setCell ⟨b, 0, none⟩ u1).setCell ⟨b, 1, none⟩ u2).heap[q]? = some o := other_block (other_block h hne 0 u1) hne 1 u2
theorem dskR_nil (w : World) : DiskR w nilB nilB ([], []) := ⟨SlOf.nil _ _, SlOf.nil _ _, ⟨none, 0, 0, rfl, Nat.le_refl _⟩, ⟨none, 0, 0, rfl, Nat.le_refl _⟩⟩
set_option maxHeartbeats 4000000 in
set_option maxRecDepth 100000 in
theorem recov_at (a1 a2 : Option Addr) (n1 n2 c1 c2 : Nat) (s t : List UInt8) (w : World) (hL : Laid w) (h : DiskR w (.slice a1 n1 c1) (.slice a2 n2 c2) (s, t)) (hn1 : s.length ≤ topLen) (hn2 : t.length ≤ topLen) :
  AnsQ 113 #[.agg #[.slice a1 n1 c1, .slice a2 n2 c2]] w (recD s t) := by
 have hB0 := grew (grew (grew (Below.refl w.heap.size w) (boxD (.slice a1 n1 c1) (.slice a2 n2 c2))) (boxD nilB nilB)) (boxU 0 (.slice none 0 0))
 have HB0 : Aside (Below w.heap.size w (((w.alloc (boxD (.slice a1 n1 c1) (.slice a2 n2 c2))).alloc (boxD nilB nilB)).alloc (boxU 0 (.slice none 0 0)))) := hB0
 have HX0 : Aside ((((w.alloc (boxD (.slice a1 n1 c1) (.slice a2 n2 c2))).alloc (boxD nilB nilB)).alloc (boxU 0 (.slice none 0 0))).heap[w.heap.size]? = some (boxD (.slice a1 n1 c1) (.slice a2 n2 c2))) := heap_old (heap_old (heap_new _ _) _) _
 have HY0 : Aside ((((w.alloc (boxD (.slice a1 n1 c1) (.slice a2 n2 c2))).alloc (boxD nilB nilB)).alloc (boxU 0 (.slice none 0 0))).heap[w.heap.size + 1]? = some (boxD nilB nilB)) := by
  have := heap_new (w.alloc (boxD (.slice a1 n1 c1) (.slice a2 n2 c2))) (boxD nilB nilB)
  rw [World.size_alloc] at this
  exact heap_old this _
 have HZ0 : Aside ((((w.alloc (boxD (.slice a1 n1 c1) (.slice a2 n2 c2))).alloc (boxD nilB nilB)).alloc (boxU 0 (.slice none 0 0))).heap[w.heap.size + 1 + 1]? = some (boxU 0 (.slice none 0 0))) := by
  have := heap_new ((w.alloc (boxD (.slice a1 n1 c1) (.slice a2 n2 c2))).alloc (boxD nilB nilB)) (boxU 0 (.slice none 0 0))
  rwa [World.size_alloc, World.size_alloc] at this
 have hr := diskRecover_any (.slice a1 n1 c1) (.slice a2 n2 c2) (s, t) (((w.alloc (boxD (.slice a1 n1 c1) (.slice a2 n2 c2))).alloc (boxD nilB nilB)).alloc (boxU 0 (.slice none 0 0))) (hL.later hB0) ⟨h.safe.later hB0, h.wait.later hB0, h.room1, h.room2⟩ hn1 hn2
 have hcase : (ckDisk s t ≠ 0 ∧ recD s t = (([], []), Un.zero, ckDisk s t) ∧ drecover s t = (([], []), [], ckDisk s t)) ∨ (drecover s t = ((recovered s t).1, (recovered s t).2, 0) ∧ recD s t = if (unitOf (recovered s t).2).2 ≠ 0 then (([], []), Un.zero, (unitOf (recovered s t).2).2) else ((recovered s t).1, (unitOf (recovered s t).2).1, 0)) := by
  by_cases hc : ckDisk s t = 0
  ·exact Or.inr ⟨by rw [drecover, if_neg (by simpa using hc)], by rw [recD, if_neg (by simpa using hc)]⟩
  ·exact Or.inl ⟨hc, by rw [recD, if_pos hc], by rw [drecover, if_pos hc]⟩
 clear hB0 h hn1 hn2 hL
 rcases hcase with ⟨hc, e1, e2⟩ | ⟨e2, e1⟩
 ·rw [e1]
  rw [e2] at hr
  obtain ⟨d, hd⟩ : ∃ d, ckDisk s t = d := ⟨_, rfl⟩
  rw [hd] at hr hc ⊢
  have hz : (d != 0) = true := by rw [bne_iff_ne]; exact hc
  clear e1 e2 hd hc
  go_enter Tryz.func113, Tryz.ntmps113
  go_upto_region 1 with fail
  generalize ((w.alloc (boxD (.slice a1 n1 c1) (.slice a2 n2 c2))).alloc (boxD nilB nilB)).alloc (boxU 0 (.slice none 0 0)) = W0 at *
  have z := cb HX0
  go_wp2_with fail
  refine hr.mono ?_
  rintro e w1 ⟨u1, u2, u3, rfl, hD, hR, hb1, hro⟩
  have HX1 := hv HX0 hb1
  have HY1 := hv HY0 hb1
  have HZ1 := hv HZ0 hb1
  have HB1 := sb HB0 hb1
  obtain ⟨b1, m1, k1, rfl⟩ := roomy_sl hD.room1
  obtain ⟨b2, m2, k2, rfl⟩ := roomy_sl hD.room2
  clear z hb1 HX0 HY0 HZ0 HB0 hr hD hR hro
  have z := cb HX1
  have fz := cf HX1
  have z1 := cb HY1
  have fz1 := cf HY1
  have z2 := cb HZ1
  have fz2 := cf HZ1
  go_wp2
  exact ret_du (p := 2) (q := 3) (r := 4) Tryz.results113 rfl rfl rfl rfl (other_two (stored_two (other_two HY1.out (by omega) _ _) rfl _ _) (by omega) _ _) (stored_two (other_two (other_two HZ1.out (by omega) _ _) (by omega) _ _) rfl _ _)
   ⟨nilB, nilB, .slice none 0 0, rfl, dskR_nil _, unit_nil _, below_two2 (below_two2 (below_two2 HB1.out (Nat.le_refl _) _ _) (by omega) _ _) (by omega) _ _⟩
 ·rw [e2] at hr
  have hp := fun W (hh : ∃ u3, RecSl W u3 (recovered s t).2) => hh
  obtain ⟨rr, HRR⟩ : ∃ rr, Hid (recD s t = rr) := ⟨_, rfl⟩
  obtain ⟨⟨U, d⟩, hq⟩ : ∃ q, unitOf (recovered s t).2 = q := ⟨_, rfl⟩
  have HQ : Hid (unitOf (recovered s t).2 = (U, d)) := hq
  have HC : Hid ((d = 0 ∧ rr = ((recovered s t).1, U, 0)) ∨ (d ≠ 0 ∧ rr = (([], []), Un.zero, d))) := by
   rw [hq, HRR.out] at e1
   by_cases h0 : d = 0
   ·rw [if_neg (by simpa using h0)] at e1; exact Or.inl ⟨h0, e1⟩
   ·rw [if_pos h0] at e1; exact Or.inr ⟨h0, e1⟩
  rw [HRR.out]
  clear e1 e2 hp hq HRR
  go_enter Tryz.func113, Tryz.ntmps113
  go_upto_region 1 with fail
  generalize ((w.alloc (boxD (.slice a1 n1 c1) (.slice a2 n2 c2))).alloc (boxD nilB nilB)).alloc (boxU 0 (.slice none 0 0)) = W0 at *
  have z := cb HX0
  go_wp2_with fail
  refine hr.mono ?_
  rintro e w1 ⟨u1, u2, u3, rfl, hD, hR, hb1, hro⟩
  have HX1 := hv HX0 hb1
  have HY1 := hv HY0 hb1
  have HZ1 := hv HZ0 hb1
  have HB1 := sb HB0 hb1
  obtain ⟨b1, m1, k1, rfl⟩ := roomy_sl hD.room1
  obtain ⟨b2, m2, k2, rfl⟩ := roomy_sl hD.room2
  have HX2 : Aside (((w1.setCell ⟨w.heap.size, 0, none⟩ (.slice b1 m1 k1)).setCell ⟨w.heap.size, 1, none⟩ (.slice b2 m2 k2)).heap[w.heap.size]? = some (boxD (.slice b1 m1 k1) (.slice b2 m2 k2))) := stored_two HX1.out rfl _ _
  have HY2 : Aside (((w1.setCell ⟨w.heap.size, 0, none⟩ (.slice b1 m1 k1)).setCell ⟨w.heap.size, 1, none⟩ (.slice b2 m2 k2)).heap[w.heap.size + 1]? = some (boxD nilB nilB)) := other_two HY1.out (by omega) _ _
  have HZ2 : Aside (((w1.setCell ⟨w.heap.size, 0, none⟩ (.slice b1 m1 k1)).setCell ⟨w.heap.size, 1, none⟩ (.slice b2 m2 k2)).heap[w.heap.size + 1 + 1]? = some (boxU 0 (.slice none 0 0))) := other_two HZ1.out (by omega) _ _
  have HB2 : Aside (Below w.heap.size w ((w1.setCell ⟨w.heap.size, 0, none⟩ (.slice b1 m1 k1)).setCell ⟨w.heap.size, 1, none⟩ (.slice b2 m2 k2))) := below_two2 HB1.out (Nat.le_refl _) _ _
  have HD2 : Aside (DiskR ((w1.setCell ⟨w.heap.size, 0, none⟩ (.slice b1 m1 k1)).setCell ⟨w.heap.size, 1, none⟩ (.slice b2 m2 k2)) (.slice b1 m1 k1) (.slice b2 m2 k2) (recovered s t).1) := ⟨bytes_two HX1.out bt_num hD.safe, bytes_two HX1.out bt_num hD.wait, hD.room1, hD.room2⟩
  have HR2 : Aside (RecSl ((w1.setCell ⟨w.heap.size, 0, none⟩ (.slice b1 m1 k1)).setCell ⟨w.heap.size, 1, none⟩ (.slice b2 m2 k2)) u3 (recovered s t).2) := recs_box hR HX1.out _ _ _ _ _ _
  have fz := cf HX1
  have z1 := cb HX1
  clear z hb1 HX0 HY0 HZ0 HB0 hr hD hR hro HX1 HY1 HZ1 HB1
  go_upto_region 2 with fail
  clear fz z1
  generalize (w1.setCell ⟨w.heap.size, 0, none⟩ (.slice b1 m1 k1)).setCell ⟨w.heap.size, 1, none⟩ (.slice b2 m2 k2) = w2 at *
  have hp := unitReplay_any u3 (recovered s t).2 w2 HR2.out
  rw [HQ.out] at hp
  clear HR2
  go_wp2_with fail
  refine hp.mono ?_
  rintro e w3 ⟨v', rfl, hU, hb3, _⟩
  have HX3 := hv HX2 hb3
  have HY3 := hv HY2 hb3
  have HZ3 := hv HZ2 hb3
  have HB3 := sb HB2 hb3
  have HD3 : Aside (DiskR w3 (.slice b1 m1 k1) (.slice b2 m2 k2) (recovered s t).1) := ⟨HD2.out.safe.later hb3, HD2.out.wait.later hb3, HD2.out.room1, HD2.out.room2⟩
  obtain ⟨b3, m3, k3, rfl⟩ := roomy_sl hU.room
  have HU3 : Aside (UnitAt w3 (.slice b3 m3 k3) U) := hU
  clear hb3 HX2 HY2 HZ2 HB2 HD2 hp hU
  have HX4 : Aside ((w3.alloc (boxU U.p (.slice b3 m3 k3))).heap[w.heap.size]? = some (boxD (.slice b1 m1 k1) (.slice b2 m2 k2))) := heap_old HX3.out _
  have HY4 : Aside ((w3.alloc (boxU U.p (.slice b3 m3 k3))).heap[w.heap.size + 1]? = some (boxD nilB nilB)) := heap_old HY3.out _
  have HZ4 : Aside ((w3.alloc (boxU U.p (.slice b3 m3 k3))).heap[w.heap.size + 1 + 1]? = some (boxU 0 (.slice none 0 0))) := heap_old HZ3.out _
  have HW4 : Aside ((w3.alloc (boxU U.p (.slice b3 m3 k3))).heap[w3.heap.size]? = some (boxU U.p (.slice b3 m3 k3))) := heap_new _ _
  have HB4 : Aside (Below w.heap.size w (w3.alloc (boxU U.p (.slice b3 m3 k3)))) := grew HB3.out _
  have hbA : Below w3.heap.size w3 (w3.alloc (boxU U.p (.slice b3 m3 k3))) := grew (Below.refl _ _) _
  have HD4 : Aside (DiskR (w3.alloc (boxU U.p (.slice b3 m3 k3))) (.slice b1 m1 k1) (.slice b2 m2 k2) (recovered s t).1) := ⟨HD3.out.safe.later hbA, HD3.out.wait.later hbA, HD3.out.room1, HD3.out.room2⟩
  have HU4 : Aside _ := HU3.out.later hbA
  have hlt := heap_lt HZ3.out
  clear HX3 HY3 HZ3 HB3 HD3 HU3 hbA
  go_upto_region 5 with fail
  generalize w3.alloc (boxU U.p (.slice b3 m3 k3)) = w4 at *
  generalize w3.heap.size = g at *
  have z := cb HX4
  have z1 := cb HY4
  have fz1 := cf HY4
  have z2 := cb HZ4
  have fz2 := cf HZ4
  have z3 := cb HW4
  rcases HC.out with ⟨h0, h1⟩ | ⟨h0, h1⟩
  ·have hz : (d != 0) = false := by rw [h0]; rfl
   subst h1
   have H60 : Aside (U.cells.length = 60) := unitOf_sixty (HQ.out.trans (by rw [h0]))
   clear h0 HC
   go_upto_region 7 with fail
   go_region
   go_wp2
   have h60 := H60.out
   have q1 := other_two HZ4.out (by omega : w.heap.size + 1 + 1 ≠ w.heap.size + 1) (.slice b1 m1 k1) (.slice b2 m2 k2)
   have qd := disk_off2 (disk_off2 HD4.out HY4.out (slnob _ _ _) (slnob _ _ _) (slnob b1 m1 k1) (.slice b2 m2 k2)) q1 (int_nob _) (slnob _ _ _) (int_nob U.p) (.slice b3 m3 k3)
   have qu := unit_off2 (unit_off2 HU4.out h60 HY4.out (.slice b1 m1 k1) (.slice b2 m2 k2)) h60 q1 (.int .i64 U.p) (.slice b3 m3 k3)
   have qb := below_two2 (below_two2 HB4.out (by omega : w.heap.size ≤ w.heap.size + 1) (.slice b1 m1 k1) (.slice b2 m2 k2)) (by omega : w.heap.size ≤ w.heap.size + 1 + 1) (.int .i64 U.p) (.slice b3 m3 k3)
   exact ret_du (p := 2) (q := 3) (r := 4) Tryz.results113 rfl rfl rfl rfl (other_two (stored_two HY4.out rfl _ _) (by omega) _ _) (stored_two q1 rfl _ _)
    ⟨_, _, _, rfl, qd.later (Below.refl _ _).drew, qu.later (Below.refl _ _).drew, qb.drew⟩
  ·have hz : (d != 0) = true := by rw [bne_iff_ne]; exact h0
   subst h1
   clear h0 HC z z3
   go_wp2
   exact ret_du (p := 2) (q := 3) (r := 4) Tryz.results113 rfl rfl rfl rfl (other_two (stored_two HY4.out rfl _ _) (by omega) _ _) (stored_two (other_two HZ4.out (by omega) _ _) rfl _ _)
    ⟨nilB, nilB, .slice none 0 0, rfl, dskR_nil _, unit_nil _, below_two2 (below_two2 HB4.out (by omega) _ _) (by omega) _ _⟩
theorem w_recovered (v1 v2 : Value) (s t : List UInt8) (w : World) (hL : Laid w) (h : DiskR w v1 v2 (s, t)) (hn1 : s.length ≤ topLen) (hn2 : t.length ≤ topLen) : AnsQ 113 #[.agg #[v1, v2]] w (recD s t) := by
 obtain ⟨a1, n1, c1, rfl⟩ := roomy_sl h.room1
 obtain ⟨a2, n2, c2, rfl⟩ := roomy_sl h.room2
 exact recov_at a1 a2 n1 n2 c1 c2 s t w hL h hn1 hn2
theorem recD_ways (s t : List UInt8) : ((recov s t).2 = 0 ∧ recD s t = ((recovered s t).1, (recov s t).1, 0)) ∨ ((recov s t).2 ≠ 0 ∧ recD s t = (([], []), Un.zero, (recov s t).2)) := by
 by_cases h1 : ckDisk s t = 0
 ·have e1 : recov s t = unitOf (recovered s t).2 := by rw [recov, if_neg (not_not_intro h1)]
  rw [e1]
  by_cases h2 : (unitOf (recovered s t).2).2 = 0
  ·refine Or.inl ⟨h2, ?_⟩
   unfold recD
   rw [if_neg (show ¬ (ckDisk s t ≠ 0) from not_not_intro h1), if_neg (not_not_intro h2)]
  ·refine Or.inr ⟨h2, ?_⟩
   unfold recD
   rw [if_neg (show ¬ (ckDisk s t ≠ 0) from not_not_intro h1), if_pos h2]
 ·have e1 : recov s t = (Un.zero, ckDisk s t) := by rw [recov, if_pos h1]
  rw [e1]
  refine Or.inr ⟨h1, ?_⟩
  unfold recD
  rw [if_pos (show ckDisk s t ≠ 0 from h1)]
theorem recD_err (s t : List UInt8) : (recD s t).2.2 = (recov s t).2 := by
 rcases recD_ways s t with ⟨h, e⟩ | ⟨_, e⟩
 ·rw [e, h]
 ·rw [e]
theorem recD_ok {s t : List UInt8} (h : (recov s t).2 = 0) : recD s t = ((recovered s t).1, (recov s t).1, 0) := by
 rcases recD_ways s t with ⟨_, e⟩ | ⟨h', _⟩
 ·exact e
 ·exact absurd h h'
set_option maxHeartbeats 4000000 in
set_option maxRecDepth 100000 in
theorem w_boot {w : World} {g o : Nat} {NC : List Value} {x : Nb} (hL : Laid w) (h : NAt w g o NC x) (hn1 : x.n.s.length ≤ topLen) (hn2 : x.n.w.length ≤ topLen) :
  Calls Tryz.prog 101 #[.pointer (some ⟨g, o, none⟩)] w fun e w' => e = .returned (.int .i64 x.n.boot.2) ∧ Post st5 w w' g o x x.n.boot.1 := by
 obtain ⟨a1, m1, k1, e1⟩ := roomy_sl h.rows.disk.room1
 obtain ⟨a2, m2, k2, e2⟩ := roomy_sl h.rows.disk.room2
 have hd := h.rows.disk
 have c2 : w.cell? ⟨g, o + 2, none⟩ = some x.vs := h.cell (i := 2) rfl
 have c3 : w.cell? ⟨g, o + 2 + 1, none⟩ = some x.vw := h.cell (i := 3) rfl
 have c4 : w.cell? ⟨g, o + 4, none⟩ = some (.bool x.n.up) := h.cell (i := 4) rfl
 have H : Aside (NAt w g o NC x) := h
 rw [e1] at c2
 rw [e2] at c3
 rw [e1, e2] at hd
 have hr := w_recovered (.slice a1 m1 k1) (.slice a2 m2 k2) x.n.s x.n.w w hL hd hn1 hn2
 clear h hd hn1 hn2 hL
 cases hup : x.n.up with
 | true =>
  have hb : x.n.boot = (x.n, 7) := by rw [Nd.boot, hup, if_pos rfl]
  rw [hb]
  rw [hup] at c4
  clear hr c2 c3 hb
  go_enter Tryz.func101, Tryz.ntmps101
  go_wp2
  go_ret
  exact ⟨rfl, w, Below.refl _ _, Or.inl ⟨rfl, rfl⟩⟩
 | false =>
  rw [hup] at c4
  by_cases hz : (recov x.n.s x.n.w).2 = 0
  ·have hb : x.n.boot = (⟨(recov x.n.s x.n.w).1, (recovered x.n.s x.n.w).1.1, [], true⟩, 0) := by rw [Nd.boot, hup, if_neg (by simp), if_neg (by simpa using hz)]
   rw [hb]
   rw [recD_ok hz] at hr
   have hrw : (recovered x.n.s x.n.w).1.2 = [] := rfl
   clear hb hz hup
   generalize recov x.n.s x.n.w = rv at *
   generalize recovered x.n.s x.n.w = rc at *
   have HW : Hid (rc.1.2 = []) := hrw
   clear hrw
   go_enter Tryz.func101, Tryz.ntmps101
   go_wp2_with fail
   refine hr.mono ?_
   rintro e w1 ⟨u1, u2, u3, rfl, hD, hU, hb1⟩
   obtain ⟨b1, n1, l1, rfl⟩ := roomy_sl hD.room1
   obtain ⟨b2, n2, l2, rfl⟩ := roomy_sl hD.room2
   obtain ⟨b3, n3, l3, rfl⟩ := roomy_sl hU.room
   have hBA : Below w1.heap.size w1 ((w1.alloc (boxD (.slice b1 n1 l1) (.slice b2 n2 l2))).alloc (boxU rv.1.p (.slice b3 n3 l3))) := grew (grew (Below.refl _ _) _) _
   have HB2 : Aside (Below w.heap.size w ((w1.alloc (boxD (.slice b1 n1 l1) (.slice b2 n2 l2))).alloc (boxU rv.1.p (.slice b3 n3 l3)))) := grew (grew hb1 _) _
   have HN2 : Aside (NAt _ g o NC x) := (H.out.later hb1).later hBA
   have HR2 : Aside (NodeT _ ⟨⟨rv.1, rc.1.1, [], true⟩, .slice b3 n3 l3, .slice b1 n1 l1, .slice b2 n2 l2⟩) := ⟨hU.later hBA, by have := hD.later hBA; rw [← HW.out]; exact this⟩
   have HX2 : Aside (((w1.alloc (boxD (.slice b1 n1 l1) (.slice b2 n2 l2))).alloc (boxU rv.1.p (.slice b3 n3 l3))).heap[w1.heap.size]? = some (boxD (.slice b1 n1 l1) (.slice b2 n2 l2))) := heap_old (heap_new _ _) _
   have HY2 : Aside (((w1.alloc (boxD (.slice b1 n1 l1) (.slice b2 n2 l2))).alloc (boxU rv.1.p (.slice b3 n3 l3))).heap[w1.heap.size + 1]? = some (boxU rv.1.p (.slice b3 n3 l3))) := by
    have := heap_new (w1.alloc (boxD (.slice b1 n1 l1) (.slice b2 n2 l2))) (boxU rv.1.p (.slice b3 n3 l3))
    rwa [World.size_alloc] at this
   clear hD hU hb1 hBA hr c2 c3 c4 H
   go_upto_region 6 with fail
   generalize (w1.alloc (boxD (.slice b1 n1 l1) (.slice b2 n2 l2))).alloc (boxU rv.1.p (.slice b3 n3 l3)) = w2 at *
   generalize w1.heap.size = d at *
   have z1 := cb HX2
   have z2 := cb HY2
   have y0 := HN2.out.cell (i := 0) rfl
   have y1 := HN2.out.cell (i := 1) rfl
   have y2 := HN2.out.cell (i := 2) rfl
   have y3 := HN2.out.cell (i := 3) rfl
   have y4 := HN2.out.cell (i := 4) rfl
   have fz := HN2.out.fz
   simp only [Nat.add_zero] at y0
   go_wp2
   go_ret
   exact ⟨rfl, w2, HB2.out, Or.inr ⟨_, HR2.out, rfl, rfl⟩⟩
  ·have hb : x.n.boot = (x.n, (recov x.n.s x.n.w).2) := by rw [Nd.boot, hup, if_neg (by simp), if_pos hz]
   rw [hb]
   obtain ⟨⟨D, U, d⟩, hq⟩ : ∃ q, recD x.n.s x.n.w = q := ⟨_, rfl⟩
   have hd : (recov x.n.s x.n.w).2 = d := by rw [← recD_err, hq]
   rw [hd] at hz ⊢
   rw [hq] at hr
   have hzb : (d != 0) = true := by rw [bne_iff_ne]; exact hz
   clear hb hz hup hq hd
   go_enter Tryz.func101, Tryz.ntmps101
   go_wp2_with fail
   refine hr.mono ?_
   rintro e w1 ⟨u1, u2, u3, rfl, hD, hU, hb1⟩
   obtain ⟨b1, n1, l1, rfl⟩ := roomy_sl hD.room1
   obtain ⟨b2, n2, l2, rfl⟩ := roomy_sl hD.room2
   obtain ⟨b3, n3, l3, rfl⟩ := roomy_sl hU.room
   clear hD hU hr c2 c3 c4
   go_wp2
   go_ret
   exact ⟨rfl, _, grew (grew hb1 _) _, Or.inl ⟨rfl, rfl⟩⟩
end Go.Proofs.YtmoaobfmopimlafGreatDoor
