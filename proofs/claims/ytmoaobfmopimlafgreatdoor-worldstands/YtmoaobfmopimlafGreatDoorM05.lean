/- For the law. -/
import Derived.Test.YtmoaobfmopimlafGreatDoorM04
set_option linter.unusedSimpArgs false
set_option linter.unusedVariables false
set_option maxHeartbeats 16000000
set_option maxRecDepth 100000
namespace Go.Proofs.YtmoaobfmopimlafGreatDoor
open Go Go.ChangeShapes Go.WideShapes Go.ChangeAt Go.RowKit
def recD (s t : List UInt8) : Dk × Un × Int :=
 if ckDisk s t ≠ 0 then (([], []), Un.zero, ckDisk s t) else if (unitOf (recovered s t).2).2 ≠ 0 then (([], []), Un.zero, (unitOf (recovered s t).2).2) else ((recovered s t).1, (unitOf (recovered s t).2).1, 0)
abbrev AnsQ (f : FuncId) (args : Array Value) (w : World) (r : Dk × Un × Int) : Prop :=
 Calls Tryz.prog f args w fun e w' => ∃ u1 u2 v', e = .returned (.tuple #[.agg #[u1, u2], .agg #[.int .i64 r.2.1.p, v'], .int .i64 r.2.2]) ∧ DiskR w' u1 u2 r.1 ∧ UnitAt w' v' r.2.1 ∧ Below w.heap.size w w'
theorem ret_du {fn : Func} {R : Ending → World → Prop} {a : Act} {W : World} {b c p q r : Nat} {v1 v2 y y' x : Value} (hf : fn.results = #[.cell p 47, .cell q 44, .tmp r]) (hd : a.defers = [])
  (h2 : a.tmps.getD p undef = .pointer (some ⟨b, 0, none⟩)) (h3 : a.tmps.getD q undef = .pointer (some ⟨c, 0, none⟩)) (h4 : a.tmps.getD r undef = x) (hR : W.heap[b]? = some (boxD v1 v2)) (hU : W.heap[c]? = some (.cells #[y, y'] 44)) (hp : R (.returned (.tuple #[.agg #[v1, v2], .agg #[y, y'], x])) W) :
  bodyPost Tryz.prog fn R .ret a W := by
 have c0 := fun i => Joins.cell_of_block hR i
 have c1 := fun i => Joins.cell_of_block hU i
 have h2' : a.tmps[p]?.getD undef = .pointer (some ⟨b, 0, none⟩) := by simpa using h2
 have h3' : a.tmps[q]?.getD undef = .pointer (some ⟨c, 0, none⟩) := by simpa using h3
 have h4' : a.tmps[r]?.getD undef = x := by simpa using h4
 refine bodyPost_ret (v := .tuple #[.agg #[v1, v2], .agg #[y, y'], x]) ?_ hd hp
 simp [results, hf, h2', h3', h4', go_sem, c0, c1]
theorem recs_box {W : World} {b : Nat} {a1 a2 : Option Addr} {n1 n2 c1 c2 : Nat} {v : Value} {l : List Rc} (h : RecSl W v l) (hb : W.heap[b]? = some (boxD (.slice a1 n1 c1) (.slice a2 n2 c2))) (e1 e2 : Option Addr) (m1 m2 d1 d2 : Nat) :
  RecSl ((W.setCell ⟨b, 0, none⟩ (.slice e1 m1 d1)).setCell ⟨b, 1, none⟩ (.slice e2 m2 d2)) v l := bytes_two hb rc_num h
theorem unitOf_sixty {l : List Rc} {u : Un} (h : unitOf l = (u, 0)) : u.cells.length = 60 := by
 have hl : l.length ≤ 160 := by
  rcases Nat.lt_or_ge 160 l.length with hh | hh
  · rw [unitOf, if_pos hh] at h; cases h
  · exact hh
 exact (Un.ck_zero.1 (unitOf_right hl h)).2.1
theorem stored_two {W : World} {b : Nat} {A : Array Value} {T : TypeId} (h : W.heap[b]? = some (.cells A T)) (h2 : A.size = 2) (u1 u2 : Value) : ((W.setCell ⟨b, 0, none⟩ u1).setCell ⟨b, 1, none⟩ u2).heap[b]? = some (.cells #[u1, u2] T) := by
 rw [Joins.block_setCell (Joins.block_setCell h u1) u2]
 obtain ⟨l⟩ := A
 match l, h2 with
 | [x, y], _ => rfl
theorem other_two {W : World} {b q : Nat} {o : Obj} (h : W.heap[q]? = some o) (hne : q ≠ b) (u1 u2 : Value) : ((W.setCell ⟨b, 0, none⟩ u1).setCell ⟨b, 1, none⟩ u2).heap[q]? = some o := other_block (other_block h hne 0 u1) hne 1 u2
theorem dskR_nil (w : World) : DiskR w nilB nilB ([], []) := ⟨SlOf.nil _ _, SlOf.nil _ _, ⟨none, 0, 0, rfl, Nat.le_refl _⟩, ⟨none, 0, 0, rfl, Nat.le_refl _⟩⟩
theorem recov_at (a1 a2 : Option Addr) (n1 n2 c1 c2 : Nat) (s t : List UInt8) (w : World) (hL : Laid w) (h : DiskR w (.slice a1 n1 c1) (.slice a2 n2 c2) (s, t)) (hn1 : s.length ≤ topLen) (hn2 : t.length ≤ topLen) :
  AnsQ 113 #[.agg #[.slice a1 n1 c1, .slice a2 n2 c2]] w (recD s t) := by
 have hB0 := grew (grew (grew (Below.refl w.heap.size w) (boxD (.slice a1 n1 c1) (.slice a2 n2 c2))) (boxD nilB nilB)) (boxU 0 (.slice none 0 0))
 have HB0 : Aside (Below w.heap.size w (((w.alloc (boxD (.slice a1 n1 c1) (.slice a2 n2 c2))).alloc (boxD nilB nilB)).alloc (boxU 0 (.slice none 0 0)))) := hB0
 have HX0 : Aside ((((w.alloc (boxD (.slice a1 n1 c1) (.slice a2 n2 c2))).alloc (boxD nilB nilB)).alloc (boxU 0 (.slice none 0 0))).heap[w.heap.size]? = some (boxD (.slice a1 n1 c1) (.slice a2 n2 c2))) := heap_old (heap_old (heap_new _ _) _) _
 have HY0 : Aside ((((w.alloc (boxD (.slice a1 n1 c1) (.slice a2 n2 c2))).alloc (boxD nilB nilB)).alloc (boxU 0 (.slice none 0 0))).heap[w.heap.size + 1]? = some (boxD nilB nilB)) := by
  have := heap_new (w.alloc (boxD (.slice a1 n1 c1) (.slice a2 n2 c2))) (boxD nilB nilB)
  rw [World.size_alloc] at this
  exact heap_old this _
 have HZ0 : Aside ((((w.alloc (boxD (.slice a1 n1 c1) (.slice a2 n2 c2))).alloc (boxD nilB nilB)).alloc (boxU 0 (.slice none 0 0))).heap[w.heap.size + 1 + 1]? = some (boxU 0 (.slice none 0 0))) := by
  have := heap_new ((w.alloc (boxD (.slice a1 n1 c1) (.slice a2 n2 c2))).alloc (boxD nilB nilB)) (boxU 0 (.slice none 0 0))
  rwa [World.size_alloc, World.size_alloc] at this
 have hr := diskRecover_any (.slice a1 n1 c1) (.slice a2 n2 c2) (s, t) (((w.alloc (boxD (.slice a1 n1 c1) (.slice a2 n2 c2))).alloc (boxD nilB nilB)).alloc (boxU 0 (.slice none 0 0))) (hL.later hB0) ⟨h.safe.later hB0, h.wait.later hB0, h.room1, h.room2⟩ hn1 hn2
 have hcase : (ckDisk s t ≠ 0 ∧ recD s t = (([], []), Un.zero, ckDisk s t) ∧ drecover s t = (([], []), [], ckDisk s t)) ∨ (drecover s t = ((recovered s t).1, (recovered s t).2, 0) ∧ recD s t = if (unitOf (recovered s t).2).2 ≠ 0 then (([], []), Un.zero, (unitOf (recovered s t).2).2) else ((recovered s t).1, (unitOf (recovered s t).2).1, 0)) := by
  by_cases hc : ckDisk s t = 0
  · exact Or.inr ⟨by rw [drecover, if_neg (by simpa using hc)], by rw [recD, if_neg (by simpa using hc)]⟩
  · exact Or.inl ⟨hc, by rw [recD, if_pos hc], by rw [drecover, if_pos hc]⟩
 clear hB0 h hn1 hn2 hL
 rcases hcase with ⟨hc, e1, e2⟩ | ⟨e2, e1⟩
 · rw [e1]
  rw [e2] at hr
  obtain ⟨d, hd⟩ : ∃ d, ckDisk s t = d := ⟨_, rfl⟩
  rw [hd] at hr hc ⊢
  have hz : (d != 0) = true := by rw [bne_iff_ne]; exact hc
  clear e1 e2 hd hc
  go_enter Tryz.func113, Tryz.ntmps113
  go_upto_region 1 with fail
  generalize ((w.alloc (boxD (.slice a1 n1 c1) (.slice a2 n2 c2))).alloc (boxD nilB nilB)).alloc (boxU 0 (.slice none 0 0)) = W0 at *
  have z := fun i => Joins.cell_of_block HX0.out i
  go_wp2_with fail
  refine hr.mono ?_
  rintro e w1 ⟨u1, u2, u3, rfl, hD, hR, hb1, hro⟩
  have HX1 : Aside _ := heap_below HX0.out hb1 (heap_lt HX0.out)
  have HY1 : Aside _ := heap_below HY0.out hb1 (heap_lt HY0.out)
  have HZ1 : Aside _ := heap_below HZ0.out hb1 (heap_lt HZ0.out)
  have HB1 : Aside _ := step_below1 HB0.out hb1
  obtain ⟨b1, m1, k1, rfl⟩ := roomy_sl hD.room1
  obtain ⟨b2, m2, k2, rfl⟩ := roomy_sl hD.room2
  clear z hb1 HX0 HY0 HZ0 HB0 hr hD hR hro
  have z := fun i => Joins.cell_of_block HX1.out i
  have fz := fun i => Joins.unfrozen_of_block HX1.out i
  have z1 := fun i => Joins.cell_of_block HY1.out i
  have fz1 := fun i => Joins.unfrozen_of_block HY1.out i
  have z2 := fun i => Joins.cell_of_block HZ1.out i
  have fz2 := fun i => Joins.unfrozen_of_block HZ1.out i
  go_wp2
  exact ret_du (p := 2) (q := 3) (r := 4) Tryz.results113 rfl rfl rfl rfl (other_two (stored_two (other_two HY1.out (by omega) _ _) rfl _ _) (by omega) _ _) (stored_two (other_two (other_two HZ1.out (by omega) _ _) (by omega) _ _) rfl _ _)
   ⟨nilB, nilB, .slice none 0 0, rfl, dskR_nil _, unit_nil _, below_two2 (below_two2 (below_two2 HB1.out (Nat.le_refl _) _ _) (by omega) _ _) (by omega) _ _⟩
 · rw [e2] at hr
  have hp := fun W (hh : ∃ u3, RecSl W u3 (recovered s t).2) => hh
  obtain ⟨rr, HRR⟩ : ∃ rr, Hid (recD s t = rr) := ⟨_, rfl⟩
  obtain ⟨⟨U, d⟩, hq⟩ : ∃ q, unitOf (recovered s t).2 = q := ⟨_, rfl⟩
  have HQ : Hid (unitOf (recovered s t).2 = (U, d)) := hq
  have HC : Hid ((d = 0 ∧ rr = ((recovered s t).1, U, 0)) ∨ (d ≠ 0 ∧ rr = (([], []), Un.zero, d))) := by
   rw [hq, HRR.out] at e1
   by_cases h0 : d = 0
   · rw [if_neg (by simpa using h0)] at e1; exact Or.inl ⟨h0, e1⟩
   · rw [if_pos h0] at e1; exact Or.inr ⟨h0, e1⟩
  rw [HRR.out]
  clear e1 e2 hp hq HRR
  go_enter Tryz.func113, Tryz.ntmps113
  go_upto_region 1 with fail
  generalize ((w.alloc (boxD (.slice a1 n1 c1) (.slice a2 n2 c2))).alloc (boxD nilB nilB)).alloc (boxU 0 (.slice none 0 0)) = W0 at *
  have z := fun i => Joins.cell_of_block HX0.out i
  go_wp2_with fail
  refine hr.mono ?_
  rintro e w1 ⟨u1, u2, u3, rfl, hD, hR, hb1, hro⟩
  have HX1 : Aside _ := heap_below HX0.out hb1 (heap_lt HX0.out)
  have HY1 : Aside _ := heap_below HY0.out hb1 (heap_lt HY0.out)
  have HZ1 : Aside _ := heap_below HZ0.out hb1 (heap_lt HZ0.out)
  have HB1 : Aside _ := step_below1 HB0.out hb1
  obtain ⟨b1, m1, k1, rfl⟩ := roomy_sl hD.room1
  obtain ⟨b2, m2, k2, rfl⟩ := roomy_sl hD.room2
  have HX2 : Aside (((w1.setCell ⟨w.heap.size, 0, none⟩ (.slice b1 m1 k1)).setCell ⟨w.heap.size, 1, none⟩ (.slice b2 m2 k2)).heap[w.heap.size]? = some (boxD (.slice b1 m1 k1) (.slice b2 m2 k2))) := stored_two HX1.out rfl _ _
  have HY2 : Aside (((w1.setCell ⟨w.heap.size, 0, none⟩ (.slice b1 m1 k1)).setCell ⟨w.heap.size, 1, none⟩ (.slice b2 m2 k2)).heap[w.heap.size + 1]? = some (boxD nilB nilB)) := other_two HY1.out (by omega) _ _
  have HZ2 : Aside (((w1.setCell ⟨w.heap.size, 0, none⟩ (.slice b1 m1 k1)).setCell ⟨w.heap.size, 1, none⟩ (.slice b2 m2 k2)).heap[w.heap.size + 1 + 1]? = some (boxU 0 (.slice none 0 0))) := other_two HZ1.out (by omega) _ _
  have HB2 : Aside (Below w.heap.size w ((w1.setCell ⟨w.heap.size, 0, none⟩ (.slice b1 m1 k1)).setCell ⟨w.heap.size, 1, none⟩ (.slice b2 m2 k2))) := below_two2 HB1.out (Nat.le_refl _) _ _
  have HD2 : Aside (DiskR ((w1.setCell ⟨w.heap.size, 0, none⟩ (.slice b1 m1 k1)).setCell ⟨w.heap.size, 1, none⟩ (.slice b2 m2 k2)) (.slice b1 m1 k1) (.slice b2 m2 k2) (recovered s t).1) := ⟨bytes_two HX1.out bt_num hD.safe, bytes_two HX1.out bt_num hD.wait, hD.room1, hD.room2⟩
  have HR2 : Aside (RecSl ((w1.setCell ⟨w.heap.size, 0, none⟩ (.slice b1 m1 k1)).setCell ⟨w.heap.size, 1, none⟩ (.slice b2 m2 k2)) u3 (recovered s t).2) := recs_box hR HX1.out _ _ _ _ _ _
  have fz := fun i => Joins.unfrozen_of_block HX1.out i
  have z1 := fun i => Joins.cell_of_block HX1.out i
  clear z hb1 HX0 HY0 HZ0 HB0 hr hD hR hro HX1 HY1 HZ1 HB1
  go_upto_region 2 with fail
  clear fz z1
  generalize (w1.setCell ⟨w.heap.size, 0, none⟩ (.slice b1 m1 k1)).setCell ⟨w.heap.size, 1, none⟩ (.slice b2 m2 k2) = w2 at *
  have hp := unitReplay_any u3 (recovered s t).2 w2 HR2.out
  rw [HQ.out] at hp
  clear HR2
  go_wp2_with fail
  refine hp.mono ?_
  rintro e w3 ⟨v', rfl, hU, hb3, _⟩
  have HX3 : Aside _ := heap_below HX2.out hb3 (heap_lt HX2.out)
  have HY3 : Aside _ := heap_below HY2.out hb3 (heap_lt HY2.out)
  have HZ3 : Aside _ := heap_below HZ2.out hb3 (heap_lt HZ2.out)
  have HB3 : Aside _ := step_below1 HB2.out hb3
  have HD3 : Aside (DiskR w3 (.slice b1 m1 k1) (.slice b2 m2 k2) (recovered s t).1) := ⟨HD2.out.safe.later hb3, HD2.out.wait.later hb3, HD2.out.room1, HD2.out.room2⟩
  obtain ⟨b3, m3, k3, rfl⟩ := roomy_sl hU.room
  have HU3 : Aside (UnitAt w3 (.slice b3 m3 k3) U) := hU
  clear hb3 HX2 HY2 HZ2 HB2 HD2 hp hU
  have HX4 : Aside ((w3.alloc (boxU U.p (.slice b3 m3 k3))).heap[w.heap.size]? = some (boxD (.slice b1 m1 k1) (.slice b2 m2 k2))) := heap_old HX3.out _
  have HY4 : Aside ((w3.alloc (boxU U.p (.slice b3 m3 k3))).heap[w.heap.size + 1]? = some (boxD nilB nilB)) := heap_old HY3.out _
  have HZ4 : Aside ((w3.alloc (boxU U.p (.slice b3 m3 k3))).heap[w.heap.size + 1 + 1]? = some (boxU 0 (.slice none 0 0))) := heap_old HZ3.out _
  have HW4 : Aside ((w3.alloc (boxU U.p (.slice b3 m3 k3))).heap[w3.heap.size]? = some (boxU U.p (.slice b3 m3 k3))) := heap_new _ _
  have HB4 : Aside (Below w.heap.size w (w3.alloc (boxU U.p (.slice b3 m3 k3)))) := grew HB3.out _
  have hbA : Below w3.heap.size w3 (w3.alloc (boxU U.p (.slice b3 m3 k3))) := grew (Below.refl _ _) _
  have HD4 : Aside (DiskR (w3.alloc (boxU U.p (.slice b3 m3 k3))) (.slice b1 m1 k1) (.slice b2 m2 k2) (recovered s t).1) := ⟨HD3.out.safe.later hbA, HD3.out.wait.later hbA, HD3.out.room1, HD3.out.room2⟩
  have HU4 : Aside _ := HU3.out.later hbA
  have hlt := heap_lt HZ3.out
  clear HX3 HY3 HZ3 HB3 HD3 HU3 hbA
  go_upto_region 5 with fail
  generalize w3.alloc (boxU U.p (.slice b3 m3 k3)) = w4 at *
  generalize w3.heap.size = g at *
  have z := fun i => Joins.cell_of_block HX4.out i
  have z1 := fun i => Joins.cell_of_block HY4.out i
  have fz1 := fun i => Joins.unfrozen_of_block HY4.out i
  have z2 := fun i => Joins.cell_of_block HZ4.out i
  have fz2 := fun i => Joins.unfrozen_of_block HZ4.out i
  have z3 := fun i => Joins.cell_of_block HW4.out i
  rcases HC.out with ⟨h0, h1⟩ | ⟨h0, h1⟩
  · have hz : (d != 0) = false := by rw [h0]; rfl
   subst h1
   have H60 : Aside (U.cells.length = 60) := unitOf_sixty (HQ.out.trans (by rw [h0]))
   clear h0 HC
   go_upto_region 7 with fail
   go_region
   go_wp2
   have h60 := H60.out
   have q1 := other_two HZ4.out (by omega : w.heap.size + 1 + 1 ≠ w.heap.size + 1) (.slice b1 m1 k1) (.slice b2 m2 k2)
   have qd := disk_off2 (disk_off2 HD4.out HY4.out (slnob _ _ _) (slnob _ _ _) (slnob b1 m1 k1) (.slice b2 m2 k2)) q1 (int_nob _) (slnob _ _ _) (int_nob U.p) (.slice b3 m3 k3)
   have qu := unit_off2 (unit_off2 HU4.out h60 HY4.out (.slice b1 m1 k1) (.slice b2 m2 k2)) h60 q1 (.int .i64 U.p) (.slice b3 m3 k3)
   have qb := below_two2 (below_two2 HB4.out (by omega : w.heap.size ≤ w.heap.size + 1) (.slice b1 m1 k1) (.slice b2 m2 k2)) (by omega : w.heap.size ≤ w.heap.size + 1 + 1) (.int .i64 U.p) (.slice b3 m3 k3)
   exact ret_du (p := 2) (q := 3) (r := 4) Tryz.results113 rfl rfl rfl rfl (other_two (stored_two HY4.out rfl _ _) (by omega) _ _) (stored_two q1 rfl _ _)
    ⟨_, _, _, rfl, qd.later (Below.refl _ _).drew, qu.later (Below.refl _ _).drew, qb.drew⟩
  · have hz : (d != 0) = true := by rw [bne_iff_ne]; exact h0
   subst h1
   clear h0 HC z z3
   go_wp2
   exact ret_du (p := 2) (q := 3) (r := 4) Tryz.results113 rfl rfl rfl rfl (other_two (stored_two HY4.out rfl _ _) (by omega) _ _) (stored_two (other_two HZ4.out (by omega) _ _) rfl _ _)
    ⟨nilB, nilB, .slice none 0 0, rfl, dskR_nil _, unit_nil _, below_two2 (below_two2 HB4.out (by omega) _ _) (by omega) _ _⟩
theorem w_recovered (v1 v2 : Value) (s t : List UInt8) (w : World) (hL : Laid w) (h : DiskR w v1 v2 (s, t)) (hn1 : s.length ≤ topLen) (hn2 : t.length ≤ topLen) : AnsQ 113 #[.agg #[v1, v2]] w (recD s t) := by
 obtain ⟨a1, n1, c1, rfl⟩ := roomy_sl h.room1
 obtain ⟨a2, n2, c2, rfl⟩ := roomy_sl h.room2
 exact recov_at a1 a2 n1 n2 c1 c2 s t w hL h hn1 hn2
theorem recD_ways (s t : List UInt8) : ((recov s t).2 = 0 ∧ recD s t = ((recovered s t).1, (recov s t).1, 0)) ∨ ((recov s t).2 ≠ 0 ∧ recD s t = (([], []), Un.zero, (recov s t).2)) := by
 by_cases h1 : ckDisk s t = 0
 · have e1 : recov s t = unitOf (recovered s t).2 := by rw [recov, if_neg (not_not_intro h1)]
  rw [e1]
  by_cases h2 : (unitOf (recovered s t).2).2 = 0
  · refine Or.inl ⟨h2, ?_⟩
   unfold recD
   rw [if_neg (show ¬ (ckDisk s t ≠ 0) from not_not_intro h1), if_neg (not_not_intro h2)]
  · refine Or.inr ⟨h2, ?_⟩
   unfold recD
   rw [if_neg (show ¬ (ckDisk s t ≠ 0) from not_not_intro h1), if_pos h2]
 · have e1 : recov s t = (Un.zero, ckDisk s t) := by rw [recov, if_pos h1]
  rw [e1]
  refine Or.inr ⟨h1, ?_⟩
  unfold recD
  rw [if_pos (show ckDisk s t ≠ 0 from h1)]
theorem recD_err (s t : List UInt8) : (recD s t).2.2 = (recov s t).2 := by
 rcases recD_ways s t with ⟨h, e⟩ | ⟨_, e⟩
 · rw [e, h]
 · rw [e]
theorem recD_ok {s t : List UInt8} (h : (recov s t).2 = 0) : recD s t = ((recovered s t).1, (recov s t).1, 0) := by
 rcases recD_ways s t with ⟨_, e⟩ | ⟨h', _⟩
 · exact e
 · exact absurd h h'
theorem w_boot {w : World} {g o : Nat} {NC : List Value} {x : Nb} (hL : Laid w) (h : NAt w g o NC x) (hn1 : x.n.s.length ≤ topLen) (hn2 : x.n.w.length ≤ topLen) :
  Calls Tryz.prog 101 #[.pointer (some ⟨g, o, none⟩)] w fun e w' => e = .returned (.int .i64 x.n.boot.2) ∧ Post st5 w w' g o x x.n.boot.1 := by
 obtain ⟨a1, m1, k1, e1⟩ := roomy_sl h.rows.disk.room1
 obtain ⟨a2, m2, k2, e2⟩ := roomy_sl h.rows.disk.room2
 have hd := h.rows.disk
 have c2 : w.cell? ⟨g, o + 2, none⟩ = some x.vs := h.cell (i := 2) rfl
 have c3 : w.cell? ⟨g, o + 2 + 1, none⟩ = some x.vw := h.cell (i := 3) rfl
 have c4 : w.cell? ⟨g, o + 4, none⟩ = some (.bool x.n.up) := h.cell (i := 4) rfl
 have H : Aside (NAt w g o NC x) := h
 rw [e1] at c2
 rw [e2] at c3
 rw [e1, e2] at hd
 have hr := w_recovered (.slice a1 m1 k1) (.slice a2 m2 k2) x.n.s x.n.w w hL hd hn1 hn2
 clear h hd hn1 hn2 hL
 cases hup : x.n.up with
 | true =>
  have hb : x.n.boot = (x.n, 7) := by rw [Nd.boot, hup, if_pos rfl]
  rw [hb]
  rw [hup] at c4
  clear hr c2 c3 hb
  go_enter Tryz.func101, Tryz.ntmps101
  go_wp2
  go_ret
  exact ⟨rfl, w, Below.refl _ _, Or.inl ⟨rfl, rfl⟩⟩
 | false =>
  rw [hup] at c4
  by_cases hz : (recov x.n.s x.n.w).2 = 0
  · have hb : x.n.boot = (⟨(recov x.n.s x.n.w).1, (recovered x.n.s x.n.w).1.1, [], true⟩, 0) := by rw [Nd.boot, hup, if_neg (by simp), if_neg (by simpa using hz)]
   rw [hb]
   rw [recD_ok hz] at hr
   have hrw : (recovered x.n.s x.n.w).1.2 = [] := rfl
   clear hb hz hup
   generalize recov x.n.s x.n.w = rv at *
   generalize recovered x.n.s x.n.w = rc at *
   have HW : Hid (rc.1.2 = []) := hrw
   clear hrw
   go_enter Tryz.func101, Tryz.ntmps101
   go_wp2_with fail
   refine hr.mono ?_
   rintro e w1 ⟨u1, u2, u3, rfl, hD, hU, hb1⟩
   obtain ⟨b1, n1, l1, rfl⟩ := roomy_sl hD.room1
   obtain ⟨b2, n2, l2, rfl⟩ := roomy_sl hD.room2
   obtain ⟨b3, n3, l3, rfl⟩ := roomy_sl hU.room
   have hBA : Below w1.heap.size w1 ((w1.alloc (boxD (.slice b1 n1 l1) (.slice b2 n2 l2))).alloc (boxU rv.1.p (.slice b3 n3 l3))) := grew (grew (Below.refl _ _) _) _
   have HB2 : Aside (Below w.heap.size w ((w1.alloc (boxD (.slice b1 n1 l1) (.slice b2 n2 l2))).alloc (boxU rv.1.p (.slice b3 n3 l3)))) := grew (grew hb1 _) _
   have HN2 : Aside (NAt _ g o NC x) := (H.out.later hb1).later hBA
   have HR2 : Aside (NodeT _ ⟨⟨rv.1, rc.1.1, [], true⟩, .slice b3 n3 l3, .slice b1 n1 l1, .slice b2 n2 l2⟩) := ⟨hU.later hBA, by have := hD.later hBA; rw [← HW.out]; exact this⟩
   have HX2 : Aside (((w1.alloc (boxD (.slice b1 n1 l1) (.slice b2 n2 l2))).alloc (boxU rv.1.p (.slice b3 n3 l3))).heap[w1.heap.size]? = some (boxD (.slice b1 n1 l1) (.slice b2 n2 l2))) := heap_old (heap_new _ _) _
   have HY2 : Aside (((w1.alloc (boxD (.slice b1 n1 l1) (.slice b2 n2 l2))).alloc (boxU rv.1.p (.slice b3 n3 l3))).heap[w1.heap.size + 1]? = some (boxU rv.1.p (.slice b3 n3 l3))) := by
    have := heap_new (w1.alloc (boxD (.slice b1 n1 l1) (.slice b2 n2 l2))) (boxU rv.1.p (.slice b3 n3 l3))
    rwa [World.size_alloc] at this
   clear hD hU hb1 hBA hr c2 c3 c4 H
   go_upto_region 6 with fail
   generalize (w1.alloc (boxD (.slice b1 n1 l1) (.slice b2 n2 l2))).alloc (boxU rv.1.p (.slice b3 n3 l3)) = w2 at *
   generalize w1.heap.size = d at *
   have z1 := fun i => Joins.cell_of_block HX2.out i
   have z2 := fun i => Joins.cell_of_block HY2.out i
   have y0 := HN2.out.cell (i := 0) rfl
   have y1 := HN2.out.cell (i := 1) rfl
   have y2 := HN2.out.cell (i := 2) rfl
   have y3 := HN2.out.cell (i := 3) rfl
   have y4 := HN2.out.cell (i := 4) rfl
   have fz := HN2.out.fz
   simp only [Nat.add_zero] at y0
   go_wp2
   go_ret
   exact ⟨rfl, w2, HB2.out, Or.inr ⟨_, HR2.out, rfl, rfl⟩⟩
  · have hb : x.n.boot = (x.n, (recov x.n.s x.n.w).2) := by rw [Nd.boot, hup, if_neg (by simp), if_pos hz]
   rw [hb]
   obtain ⟨⟨D, U, d⟩, hq⟩ : ∃ q, recD x.n.s x.n.w = q := ⟨_, rfl⟩
   have hd : (recov x.n.s x.n.w).2 = d := by rw [← recD_err, hq]
   rw [hd] at hz ⊢
   rw [hq] at hr
   have hzb : (d != 0) = true := by rw [bne_iff_ne]; exact hz
   clear hb hz hup hq hd
   go_enter Tryz.func101, Tryz.ntmps101
   go_wp2_with fail
   refine hr.mono ?_
   rintro e w1 ⟨u1, u2, u3, rfl, hD, hU, hb1⟩
   obtain ⟨b1, n1, l1, rfl⟩ := roomy_sl hD.room1
   obtain ⟨b2, n2, l2, rfl⟩ := roomy_sl hD.room2
   obtain ⟨b3, n3, l3, rfl⟩ := roomy_sl hU.room
   clear hD hU hr c2 c3 c4
   go_wp2
   go_ret
   exact ⟨rfl, _, grew (grew hb1 _) _, Or.inl ⟨rfl, rfl⟩⟩
theorem sync_at (a1 a2 : Option Addr) (n1 n2 c1 c2 : Nat) (s t : List UInt8) (w : World) (hL : Laid w) (h : DiskR w (.slice a1 n1 c1) (.slice a2 n2 c2) (s, t)) (hs : s.length = n1) (ht : t.length = n2) (hn1 : s.length ≤ topLen) (hn2 : t.length ≤ topLen) :
  AnsR 130 (.slice a1 n1 c1) (.slice a2 n2 c2) #[.agg #[.slice a1 n1 c1, .slice a2 n2 c2]] w (dsync s t) := by
 have hB := grew (grew (Below.refl w.heap.size w) (boxD (.slice a1 n1 c1) (.slice a2 n2 c2))) (boxD nilB nilB)
 have hbD : ((w.alloc (boxD (.slice a1 n1 c1) (.slice a2 n2 c2))).alloc (boxD nilB nilB)).heap[w.heap.size]? = some (boxD (.slice a1 n1 c1) (.slice a2 n2 c2)) := heap_old (heap_new _ _) _
 have hbZ : ((w.alloc (boxD (.slice a1 n1 c1) (.slice a2 n2 c2))).alloc (boxD nilB nilB)).heap[w.heap.size + 1]? = some (boxD nilB nilB) := by
  have := heap_new (w.alloc (boxD (.slice a1 n1 c1) (.slice a2 n2 c2))) (boxD nilB nilB)
  rwa [World.size_alloc] at this
 have hck := diskCheck_any _ _ (s, t) _ (hL.later hB) (h.later hB) hn1 hn2
 have HB : Aside _ := hB
 have HL : Aside (Laid w) := hL
 have HH : Aside (DiskR w (.slice a1 n1 c1) (.slice a2 n2 c2) (s, t)) := h
 have HLn : Hid (s.length = n1 ∧ t.length = n2) := ⟨hs, ht⟩
 obtain ⟨rr, HRR⟩ : ∃ rr, Hid (dsync s t = rr) := ⟨_, rfl⟩
 rw [HRR.out]
 have HK0 : Hid (ckDisk s t ≠ 0 → rr = (([], []), ckDisk s t)) := fun h => by rw [← HRR.out, dsync, if_pos h]
 have HK1 : Hid (ckDisk s t = 0 → rr = synced s t) := fun h => by rw [← HRR.out, dsync, if_neg (by rw [h]; simp)]
 have HKL : Hid (ckDisk s t = 0 → n1 + n2 ≤ 30000) := fun h => by have := (ckDisk_zero.1 h).1; omega
 change Calls _ _ _ _ fun e w' => e = .returned (.int .i64 (ckDisk s t)) ∧ _ at hck
 clear hB h hs ht hL HRR hn1 hn2
 generalize ckDisk s t = k at *
 go_enter Tryz.func130, Tryz.ntmps130
 have d0 : ∀ i, ((w.alloc (boxD (.slice a1 n1 c1) (.slice a2 n2 c2))).alloc (boxD nilB nilB)).cell? ⟨w.heap.size, i, none⟩ = #[Value.slice a1 n1 c1, .slice a2 n2 c2][i]? := fun i => Joins.cell_of_block hbD i
 go_wp2_with fail
 refine hck.mono ?_
 rintro e w1 ⟨rfl, hb1⟩
 have hB1 : Aside (Below w.heap.size w w1) := HB.out.trans (hb1.mono HB.out.size)
 have hD1 := heap_below hbD hb1 (heap_lt hbD)
 have hZ1 := heap_below hbZ hb1 (heap_lt hbZ)
 have hlz1 := heap_lt hZ1
 have HZ1 : Aside (w1.heap[w.heap.size + 1]? = some (boxD nilB nilB)) := hZ1
 have HD1 : Aside (w1.heap[w.heap.size]? = some (boxD (.slice a1 n1 c1) (.slice a2 n2 c2))) := hD1
 have d1 := fun i => Joins.cell_of_block hD1 i
 have z1 := fun i => Joins.cell_of_block hZ1 i
 have f1 := fun i => Joins.unfrozen_of_block hZ1 i
 clear hck hb1 hbD hbZ HB hD1 hZ1 d0
 by_cases hk : k = 0
 · subst hk
  have hn12 : n1 + n2 ≤ 30000 := HKL.out rfl
  have HF1 : Hid (rr = synced s t) := HK1.out rfl
  have hjn := joinY _ _ s t w1 (HH.out.safe.later hB1.out) (HH.out.wait.later hB1.out) (by rw [HLn.out.1, HLn.out.2]; omega)
  have HLE : Hid ((s ++ t).length ≤ 30000) := by rw [Hid, List.length_append, HLn.out.1, HLn.out.2]; exact hn12
  clear HK0 HK1 HKL z1 f1 hn12
  go_wp2_with fail
  refine hjn.mono ?_
  rintro e w2 ⟨u, g, rfl, ho⟩
  have hb2 := ho.below
  have m1 : Aside (Mk w w2 u (s ++ t)) := Mk.of ho hB1.out.size
  have hB2 : Below w.heap.size w w2 := hB1.out.trans (hb2.mono hB1.out.size)
  have hZ2 := heap_below HZ1.out hb2 hlz1
  have hg2 := grew (Below.refl w2.heap.size w2) (boxD u nilB)
  have hB3 : Aside (Below w.heap.size w (w2.alloc (boxD u nilB))) := hB2.trans (hg2.mono hB2.size)
  have m3 : Aside _ := m1.out.later hg2
  have HZ3 : Aside ((w2.alloc (boxD u nilB)).heap[w.heap.size + 1]? = some (boxD nilB nilB)) := heap_old hZ2 _
  have HE3 : Aside ((w2.alloc (boxD u nilB)).heap[w2.heap.size]? = some (boxD u nilB)) := heap_new _ _
  obtain ⟨b1, q1, hu, hq⟩ := m1.out.form
  have hck2 := diskCheck_any u nilB (s ++ t, []) _ (HL.out.later hB3.out) ⟨m3.out.sl, SlOf.nil _ _, ⟨_, _, _, hu, hq⟩, ⟨_, _, _, rfl, Nat.le_refl _⟩⟩ (by show (s ++ t).length ≤ topLen; have := HLE.out; unfold topLen; omega) (Nat.zero_le _)
  change Calls _ _ _ _ fun e w' => e = .returned (.int .i64 (ckDisk (s ++ t) [])) ∧ _ at hck2
  have HF2 : Hid (ckDisk (s ++ t) [] ≠ 0 → rr = (([], []), ckDisk (s ++ t) [])) := fun h => by rw [HF1.out, synced, if_pos h]
  have HF3 : Hid (ckDisk (s ++ t) [] = 0 → rr = ((s ++ t, []), 0)) := fun h => by rw [HF1.out, synced, if_neg (by rw [h]; simp)]
  generalize ckDisk (s ++ t) [] = k2 at *
  clear hjn ho m1 hB2 hZ2 hg2 HF1 hb2 HZ1 HD1 hB1 d1
  subst hu
  obtain ⟨x1, hx1⟩ : ∃ x1 : Nat, (s ++ t).length = x1 := ⟨_, rfl⟩
  rw [hx1] at hck2 m3 hB3 HZ3 HE3 ⊢
  clear hx1 hq
  go_wp2_with fail
  refine hck2.mono ?_
  rintro e w4 ⟨rfl, hb4⟩
  have hB4 : Aside (Below w.heap.size w w4) := hB3.out.trans (hb4.mono hB3.out.size)
  have hZ4 := heap_below HZ3.out hb4 (heap_lt HZ3.out)
  have hE4 := heap_below HE3.out hb4 (heap_lt HE3.out)
  have hlz4 := heap_lt hZ4
  have HZ4 : Aside (w4.heap[w.heap.size + 1]? = some (boxD nilB nilB)) := hZ4
  have m4 : Aside _ := m3.out.later hb4
  have z4 := fun i => Joins.cell_of_block hZ4 i
  have f4 := fun i => Joins.unfrozen_of_block hZ4 i
  have e4 := fun i => Joins.cell_of_block hE4 i
  clear hck2 hb4 HZ3 HE3 m3 hB3 hZ4 hE4
  by_cases hk2 : k2 = 0
  · have HF : Hid (rr = ((s ++ t, []), 0)) := HF3.out hk2
   have hkb : (k2 != 0) = false := by rw [hk2]; rfl
   have HA : Aside _ := answered HZ4.out (by omega) hB4.out m4.out (Mk.none w w4) (.slice a1 n1 c1) (.slice a2 n2 c2)
   clear HF2 HF3 m4 hk2
   go_wp2
   exact ret_dk (v1 := .slice b1 x1 q1) (v2 := nilB) Tryz.results130 rfl rfl rfl (disk_stored HZ4.out _ _) ⟨_, _, by rw [HF.out]; rfl, by rw [HF.out]; exact HA.out.1, HA.out.2⟩
  · have HF : Hid (rr = (([], []), k2)) := HF2.out hk2
   have hkb : (k2 != 0) = true := by rw [bne_iff_ne]; exact hk2
   have HA : Aside _ := answered HZ4.out (by omega) hB4.out (Mk.none w w4) (Mk.none w w4) (.slice a1 n1 c1) (.slice a2 n2 c2)
   clear HF2 HF3 m4 hk2 e4
   go_wp2
   exact ret_dk (v1 := nilB) (v2 := nilB) Tryz.results130 rfl rfl rfl (disk_stored HZ4.out _ _) ⟨nilB, nilB, by rw [HF.out]; rfl, by rw [HF.out]; exact HA.out.1, HA.out.2⟩
 · have HF : Hid (rr = (([], []), k)) := HK0.out hk
  have hkb : (k != 0) = true := by rw [bne_iff_ne]; exact hk
  have HA : Aside _ := answered HZ1.out (by omega) hB1.out (Mk.none w w1) (Mk.none w w1) (.slice a1 n1 c1) (.slice a2 n2 c2)
  clear HK0 HK1 HKL hk d1
  go_wp2
  exact ret_dk (v1 := nilB) (v2 := nilB) Tryz.results130 rfl rfl rfl (disk_stored HZ1.out _ _) ⟨nilB, nilB, by rw [HF.out]; rfl, by rw [HF.out]; exact HA.out.1, HA.out.2⟩
theorem diskSync_any (v1 v2 : Value) (d : Dk) (W : World) (hL : Laid W) (h : DiskR W v1 v2 d) (hn1 : d.1.length ≤ topLen) (hn2 : d.2.length ≤ topLen) : AnsR 130 v1 v2 #[.agg #[v1, v2]] W (dsync d.1 d.2) := by
 obtain ⟨s, t⟩ := d
 have h' := h
 obtain ⟨a1, c1, rfl, _⟩ := h.safe
 obtain ⟨a2, c2, rfl, _⟩ := h.wait
 exact sync_at a1 a2 _ _ c1 c2 s t W hL h' rfl rfl hn1 hn2
theorem crash_at (a1 a2 : Option Addr) (n1 n2 c1 c2 : Nat) (s t : List UInt8) (n : Int) (w : World) (hL : Laid w) (h : DiskR w (.slice a1 n1 c1) (.slice a2 n2 c2) (s, t)) (hs : s.length = n1) (ht : t.length = n2) (hn1 : s.length ≤ topLen) (hn2 : t.length ≤ topLen) :
  AnsR 135 (.slice a1 n1 c1) (.slice a2 n2 c2) #[.agg #[.slice a1 n1 c1, .slice a2 n2 c2], .int .i64 n] w (dcrash s t n) := by
 have hB := grew (grew (Below.refl w.heap.size w) (boxD (.slice a1 n1 c1) (.slice a2 n2 c2))) (boxD nilB nilB)
 have hbD : ((w.alloc (boxD (.slice a1 n1 c1) (.slice a2 n2 c2))).alloc (boxD nilB nilB)).heap[w.heap.size]? = some (boxD (.slice a1 n1 c1) (.slice a2 n2 c2)) := heap_old (heap_new _ _) _
 have hbZ : ((w.alloc (boxD (.slice a1 n1 c1) (.slice a2 n2 c2))).alloc (boxD nilB nilB)).heap[w.heap.size + 1]? = some (boxD nilB nilB) := by
  have := heap_new (w.alloc (boxD (.slice a1 n1 c1) (.slice a2 n2 c2))) (boxD nilB nilB)
  rwa [World.size_alloc] at this
 have hck := diskCheck_any _ _ (s, t) _ (hL.later hB) (h.later hB) hn1 hn2
 have HB : Aside _ := hB
 have HL : Aside (Laid w) := hL
 have HH : Aside (DiskR w (.slice a1 n1 c1) (.slice a2 n2 c2) (s, t)) := h
 have HLn : Hid (s.length = n1 ∧ t.length = n2) := ⟨hs, ht⟩
 obtain ⟨rr, HRR⟩ : ∃ rr, Hid (dcrash s t n = rr) := ⟨_, rfl⟩
 rw [HRR.out]
 have HK0 : Hid (ckDisk s t ≠ 0 → rr = (([], []), ckDisk s t)) := fun h => by rw [← HRR.out, dcrash, if_pos h]
 have HK1 : Hid (ckDisk s t = 0 → n < 0 ∨ (t.length : Int) < n → rr = (([], []), 3)) := fun h h' => by rw [← HRR.out, dcrash, if_neg (by rw [h]; simp), if_pos h']
 have HK2 : Hid (ckDisk s t = 0 → ¬ (n < 0 ∨ (t.length : Int) < n) → rr = ((s, t.take n.toNat), 0)) := fun h h' => by rw [← HRR.out, dcrash, if_neg (by rw [h]; simp), if_neg h']
 have HKL : Hid (ckDisk s t = 0 → n1 + n2 ≤ 30000) := fun h => by have := (ckDisk_zero.1 h).1; omega
 change Calls _ _ _ _ fun e w' => e = .returned (.int .i64 (ckDisk s t)) ∧ _ at hck
 clear hB h hs ht hL HRR hn1 hn2
 generalize ckDisk s t = k at *
 go_enter Tryz.func135, Tryz.ntmps135
 have d0 : ∀ i, ((w.alloc (boxD (.slice a1 n1 c1) (.slice a2 n2 c2))).alloc (boxD nilB nilB)).cell? ⟨w.heap.size, i, none⟩ = #[Value.slice a1 n1 c1, .slice a2 n2 c2][i]? := fun i => Joins.cell_of_block hbD i
 go_wp2_with fail
 refine hck.mono ?_
 rintro e w1 ⟨rfl, hb1⟩
 have hB1 : Aside (Below w.heap.size w w1) := HB.out.trans (hb1.mono HB.out.size)
 have hD1 := heap_below hbD hb1 (heap_lt hbD)
 have hZ1 := heap_below hbZ hb1 (heap_lt hbZ)
 have hlz1 := heap_lt hZ1
 have HZ1 : Aside (w1.heap[w.heap.size + 1]? = some (boxD nilB nilB)) := hZ1
 have HD1 : Aside (w1.heap[w.heap.size]? = some (boxD (.slice a1 n1 c1) (.slice a2 n2 c2))) := hD1
 have d1 := fun i => Joins.cell_of_block hD1 i
 have z1 := fun i => Joins.cell_of_block hZ1 i
 have f1 := fun i => Joins.unfrozen_of_block hZ1 i
 clear hck hb1 hbD hbZ HB hD1 hZ1 d0
 by_cases hk : k = 0
 · have HG1 : Hid (n < 0 ∨ (t.length : Int) < n → rr = (([], []), 3)) := HK1.out hk
  have HG2 : Hid (¬ (n < 0 ∨ (t.length : Int) < n) → rr = ((s, t.take n.toNat), 0)) := HK2.out hk
  have hn12 : n1 + n2 ≤ 30000 := HKL.out hk
  have hkb : (k != 0) = false := by rw [hk]; rfl
  have HLE : Hid (n1 + n2 ≤ 30000) := hn12
  have hq2 : n2 ≤ 30000 := by omega
  have hq1 : n1 ≤ 30000 := by omega
  clear HK0 HK1 HK2 HKL hk hn12
  by_cases h0 : n < 0
  · have HF : Hid (rr = (([], []), 3)) := HG1.out (Or.inl h0)
   have HA : Aside _ := answered HZ1.out (by omega) hB1.out (Mk.none w w1) (Mk.none w w1) (.slice a1 n1 c1) (.slice a2 n2 c2)
   have hb0 : decide (n < 0) = true := decide_eq_true h0
   clear HG1 HG2
   go_wp2
   exact ret_dk (v1 := nilB) (v2 := nilB) Tryz.results135 rfl rfl rfl (disk_stored HZ1.out _ _) ⟨nilB, nilB, by rw [HF.out]; rfl, by rw [HF.out]; exact HA.out.1, HA.out.2⟩
  · by_cases h2 : (n2 : Int) < n
   · have HF : Hid (rr = (([], []), 3)) := HG1.out (Or.inr (by rw [HLn.out.2]; exact h2))
    have HA : Aside _ := answered HZ1.out (by omega) hB1.out (Mk.none w w1) (Mk.none w w1) (.slice a1 n1 c1) (.slice a2 n2 c2)
    have hb0 : decide (n < 0) = false := decide_eq_false h0
    have hb2 : decide ((n2 : Int) < n) = true := decide_eq_true h2
    clear HG1 HG2
    go_wp2
    exact ret_dk (v1 := nilB) (v2 := nilB) Tryz.results135 rfl rfl rfl (disk_stored HZ1.out _ _) ⟨nilB, nilB, by rw [HF.out]; rfl, by rw [HF.out]; exact HA.out.1, HA.out.2⟩
   · obtain ⟨m, rfl⟩ : ∃ m : Nat, n = (m : Int) := ⟨n.toNat, by omega⟩
    have HF : Hid (rr = ((s, t.take m), 0)) := by
     have := HG2.out (by rw [HLn.out.2]; omega)
     rwa [Int.toNat_natCast] at this
    have hb0 : decide ((m : Int) < 0) = false := decide_eq_false h0
    have hmn : m ≤ n2 := by omega
    have hb2 : decide ((n2 : Int) < (m : Int)) = false := decide_eq_false h2
    have hb3 : decide (n2 < m) = false := decide_eq_false (by omega)
    obtain ⟨ar, nr, cr, er, hroom⟩ := HH.out.room2
    injection er with er1 er2 er3
    subst er1 er2 er3
    have hm0 : (0 : Int) ≤ (m : Int) := by omega
    have hmc : (m : Int) ≤ (c2 : Int) := by omega
    have hcp : ∀ X, Below w.heap.size w X → Calls Tryz.prog 166 #[.slice a1 n1 c1] X fun e w' => ∃ u g, e = .returned u ∧ Own1 X w' u s g := fun X hX => copyOfY _ s X (HH.out.safe.later hX) (by rw [HLn.out.1]; omega)
    have hcq : ∀ X, Below w.heap.size w X → Calls Tryz.prog 166 #[.slice a2 m c2] X fun e w' => ∃ u g, e = .returned u ∧ Own1 X w' u (t.take m) g := fun X hX => copyOfY _ (t.take m) X ((HH.out.wait.later hX).upto m hmn) (by rw [List.length_take, HLn.out.2]; omega)
    clear HG1 HG2 z1 f1 h0 h2 hmn hroom HH HD1
    go_wp2_with fail
    refine wp_region_held_drew (S := fun w' => PtS0 w' w.heap.size (.slice a1 n1 c1) (.slice a2 n2 c2)) (by kernel_rfl) (⟨d1 0, d1 1⟩) (fun hHeld => ?_)
    refine tk 0 (v := ?_) rfl (by kernel_rfl) (by rfl) (by assumption) (fun _ _ _ h => h) ?_ ?_
    rotate_left
    · intro w0 hSw; (try dsimp only at hSw); go_simp; first | done | with_reducible rfl
    try simp only [Act.put, qa, qb, qc]
    refine tk 1 (v := ?_) rfl (by kernel_rfl) (by rfl) (by assumption) (fun _ _ _ h => h) ?_ ?_
    rotate_left
    · intro w0 hSw; (try dsimp only at hSw); go_simp; first | done | with_reducible rfl
    try simp only [Act.put, qa, qb, qc]
    refine tk 3 (v := ?_) rfl (by kernel_rfl) (by rfl) (by assumption) (fun _ _ _ h => h) ?_ ?_
    rotate_left
    · intro w0 hSw; (try dsimp only at hSw); go_simp; first | done | with_reducible rfl
    try simp only [Act.put, qa, qb, qc]
    refine tk 4 (v := ?_) rfl (by kernel_rfl) (by rfl) (by assumption) (fun _ _ _ h => h) ?_ ?_
    rotate_left
    · intro w0 hSw; (try dsimp only at hSw); go_simp; first | done | with_reducible rfl
    try simp only [Act.put, qa, qb, qc]
    refine tk 5 (v := ?_) rfl (by kernel_rfl) (by rfl) (by assumption) (fun _ _ _ h => h) ?_ ?_
    rotate_left
    · intro w0 hSw; (try dsimp only at hSw); go_simp; first | done | with_reducible rfl
    try simp only [Act.put, qa, qb, qc]
    refine tk 6 (v := ?_) rfl (by kernel_rfl) (by rfl) (by assumption) (fun _ _ _ h => h) ?_ ?_
    rotate_left
    · intro w0 hSw; (try dsimp only at hSw); go_simp; first | done | with_reducible rfl
    try simp only [Act.put, qa, qb, qc]
    have hX0 : Aside (Below w.heap.size w w1.drew) := hB1.out.drew
    have hZ0 : Aside (w1.drew.heap[w.heap.size + 1]? = some (boxD nilB nilB)) := HZ1.out
    have hz0 : w.heap.size + 1 < w1.drew.heap.size := hlz1
    clear HZ1 hB1 d1 hlz1
    generalize w1.drew = X0 at *
    refine rdy 2 (by kernel_rfl) rfl (fun K hK => ?_)
    go_simp
    refine (hcp X0 hX0.out).mono ?_
    rintro e X1 ⟨u1, g1, rfl, ho1⟩
    refine hK.out _ _ (ptS0_step hHeld ho1.below) (fun hHeld => ?_)
    clear hK K
    try simp only [Act.put, qa, qb, qc]
    have hX1 : Below w.heap.size w X1 := hX0.out.trans (ho1.below.mono hX0.out.size)
    refine rdy 7 (by kernel_rfl) rfl (fun K hK => ?_)
    go_simp
    refine (hcq X1 hX1).mono ?_
    rintro e X9 ⟨u2, g2, rfl, ho2⟩
    refine hK.out _ _ (ptS0_step hHeld ho2.below) (fun hHeld => ?_)
    clear hK K
    try simp only [Act.put, qa, qb, qc]
    have hB9 : Below w.heap.size w X9 := hX1.trans (ho2.below.mono hX1.size)
    have m1 : Mk w X9 u1 s := (Mk.of ho1 hX0.out.size).later ho2.below
    have m2 : Mk w X9 u2 (t.take m) := Mk.of ho2 hX1.size
    have hZ9 := heap_below (heap_below hZ0.out ho1.below hz0) ho2.below (Nat.lt_of_lt_of_le hz0 ho1.below.size)
    have hlt9 := heap_lt hZ9
    have HZ9 : Aside (X9.heap[w.heap.size + 1]? = some (boxD nilB nilB)) := hZ9
    have HAN : Aside _ := answered HZ9.out (by omega) hB9 m1 m2 (.slice a1 n1 c1) (.slice a2 n2 c2)
    have z9 := fun i => Joins.cell_of_block hZ9 i
    have f9 := fun i => Joins.unfrozen_of_block hZ9 i
    obtain ⟨b1, q1, rfl, _⟩ := m1.form
    obtain ⟨b2, q2, rfl, _⟩ := m2.form
    obtain ⟨x1, hx1⟩ : ∃ x1 : Nat, s.length = x1 := ⟨_, rfl⟩
    obtain ⟨x2, hx2⟩ : ∃ x2 : Nat, (t.take m).length = x2 := ⟨_, rfl⟩
    rw [hx1, hx2] at HAN
    rw [hx1, hx2]
    clear hx1 hx2 m1 m2 hX1 hB9 hZ9 hcp hcq ho1 ho2
    refine tk 8 (v := ?_) rfl (by kernel_rfl) (by rfl) (by assumption) (fun _ _ _ h => h) ?_ ?_
    rotate_left
    · intro w0 hSw; (try dsimp only at hSw); go_simp; first | done | with_reducible rfl
    try simp only [Act.put, qa, qb, qc]
    refine rdy 9 (by kernel_rfl) rfl (fun K hK => ?_)
    go_simp
    refine hK.out _ _ (ptS0_two (by omega) hHeld _ _) (fun hHeld => ?_)
    clear hK K
    try simp only [Act.put, qa, qb, qc]
    refine tk 10 (v := ?_) rfl (by kernel_rfl) (by rfl) (by assumption) (fun _ _ _ h => h) ?_ ?_
    rotate_left
    · intro w0 hSw; (try dsimp only at hSw); go_simp; first | done | with_reducible rfl
    try simp only [Act.put, qa, qb, qc]
    refine wpAnyH_done (by kernel_rfl) ?_ _
    go_wp2
    exact ret_dk (v1 := .slice b1 x1 q1) (v2 := .slice b2 x2 q2) Tryz.results135 rfl rfl rfl (disk_stored HZ9.out _ _) ⟨_, _, by rw [HF.out]; rfl, by rw [HF.out]; exact HAN.out.1, HAN.out.2⟩
 · have HF : Hid (rr = (([], []), k)) := HK0.out hk
  have hkb : (k != 0) = true := by rw [bne_iff_ne]; exact hk
  have HA : Aside _ := answered HZ1.out (by omega) hB1.out (Mk.none w w1) (Mk.none w w1) (.slice a1 n1 c1) (.slice a2 n2 c2)
  clear HK0 HK1 HK2 HKL hk d1
  go_wp2
  exact ret_dk (v1 := nilB) (v2 := nilB) Tryz.results135 rfl rfl rfl (disk_stored HZ1.out _ _) ⟨nilB, nilB, by rw [HF.out]; rfl, by rw [HF.out]; exact HA.out.1, HA.out.2⟩
theorem diskCrash_any (v1 v2 : Value) (d : Dk) (n : Int) (W : World) (hL : Laid W) (h : DiskR W v1 v2 d) (hn1 : d.1.length ≤ topLen) (hn2 : d.2.length ≤ topLen) : AnsR 135 v1 v2 #[.agg #[v1, v2], .int .i64 n] W (dcrash d.1 d.2 n) := by
 obtain ⟨s, t⟩ := d
 have h' := h
 obtain ⟨a1, c1, rfl, _⟩ := h.safe
 obtain ⟨a2, c2, rfl, _⟩ := h.wait
 exact crash_at a1 a2 _ _ c1 c2 s t n W hL h' rfl rfl hn1 hn2
theorem ents_box {W : World} {v : Value} {es : List En} (h : EntSl W v es) {b : Nat} {A : Array Value} {T : TypeId} (hb : W.heap[b]? = some (.cells A T)) (hA : A.size < 5) (i : Nat) (u : Value) : EntSl (W.setCell ⟨b, i, none⟩ u) v es := by
 obtain ⟨a', c', hv, hc⟩ := h
 refine ⟨a', c', hv, ?_⟩
 rcases hc with hc | ⟨b', off, ha, hE⟩
 · exact Or.inl hc
 · refine Or.inr ⟨b', off, ha, fun j e hj i' u' hi => ?_⟩
  have hne : b' ≠ b := fun e' => by
   have hcell := hE j e hj 4 (.int .i64 e.c) rfl
   rw [e', Joins.cell_of_block hb] at hcell
   have := (Array.getElem?_eq_some_iff.1 hcell).1
   omega
  rw [World.cell?_of_block (Below.heap_setCell _ _ _ _ (by exact hne))]
  exact hE j e hj i' u' hi
theorem unit_box2 {W : World} {v : Value} {u : Un} (h : UnitAt W v u) {b : Nat} {x y : Value} {T : TypeId} (hb : W.heap[b]? = some (.cells #[x, y] T)) (u1 u2 : Value) : UnitAt ((W.setCell ⟨b, 0, none⟩ u1).setCell ⟨b, 1, none⟩ u2) v u := by
 have h0 : (W.setCell ⟨b, 0, none⟩ u1).heap[b]? = some (.cells #[u1, y] T) := by rw [Joins.block_setCell hb]; rfl
 exact ⟨ents_box (ents_box h.ents hb (by simp) 0 u1) h0 (by simp) 1 u2, h.room⟩
structure UBx (W0 wx : World) (b : Nat) (U : Un) (v : Value) : Prop where
 box : wx.heap[b]? = some (boxU U.p v)
 unit : UnitAt wx v U
 base : W0.heap.size ≤ b
 below : Below W0.heap.size W0 wx
structure DBx (W0 wx : World) (b : Nat) (D : Dk) (v1 v2 : Value) : Prop where
 box : wx.heap[b]? = some (boxD v1 v2)
 disk : DiskR wx v1 v2 D
 base : W0.heap.size ≤ b
 below : Below W0.heap.size W0 wx
theorem ubx_A {W0 w1 : World} {U : Un} {v : Value} (hA : Below W0.heap.size W0 w1) (hU : UnitAt w1 v U) : UBx W0 (w1.alloc (boxU U.p v)) w1.heap.size U v := ⟨heap_new _ _, hU.later (grew (Below.refl _ _) _), hA.size, grew hA _⟩
theorem ubx_B {W0 w1 : World} {b : Nat} {x y : Value} {U : Un} {v : Value} (hx : w1.heap[b]? = some (.cells #[x, y] 44)) (hB : Below W0.heap.size W0 w1) (hU : UnitAt w1 v U) (hb : W0.heap.size ≤ b) : UBx W0 ((w1.setCell ⟨b, 0, none⟩ (.int .i64 U.p)).setCell ⟨b, 1, none⟩ v) b U v :=
 ⟨stored_two hx rfl _ _, unit_box2 hU hx _ _, hb, below_two2 hB hb _ _⟩
theorem dbx_A {W0 w1 : World} {D : Dk} {v1 v2 : Value} (hA : Below W0.heap.size W0 w1) (hD : DiskR w1 v1 v2 D) : DBx W0 (w1.alloc (boxD v1 v2)) w1.heap.size D v1 v2 := ⟨heap_new _ _, hD.later (grew (Below.refl _ _) _), hA.size, grew hA _⟩
theorem dbx_B {W0 w1 : World} {b : Nat} {a1 a2 c1 c2 : Option Addr} {n1 n2 m1 m2 k1 k2 l1 l2 : Nat} {D : Dk} (hx : w1.heap[b]? = some (boxD (.slice c1 k1 l1) (.slice c2 k2 l2))) (hB : Below W0.heap.size W0 w1) (hD : DiskR w1 (.slice a1 n1 m1) (.slice a2 n2 m2) D) (hb : W0.heap.size ≤ b) :
  DBx W0 ((w1.setCell ⟨b, 0, none⟩ (.slice a1 n1 m1)).setCell ⟨b, 1, none⟩ (.slice a2 n2 m2)) b D (.slice a1 n1 m1) (.slice a2 n2 m2) :=
 ⟨stored_two hx rfl _ _, disk_off2 hD hx (slnob _ _ _) (slnob _ _ _) (slnob _ _ _) _, hb, below_two2 hB hb _ _⟩
theorem UBx.later {W0 wx w' : World} {b : Nat} {U : Un} {v : Value} (h : UBx W0 wx b U v) (hb : Below wx.heap.size wx w') : UBx W0 w' b U v := ⟨heap_below h.box hb (heap_lt h.box), h.unit.later hb, h.base, step_below1 h.below hb⟩
theorem DBx.later {W0 wx w' : World} {b : Nat} {D : Dk} {v1 v2 : Value} (h : DBx W0 wx b D v1 v2) (hb : Below wx.heap.size wx w') : DBx W0 w' b D v1 v2 := ⟨heap_below h.box hb (heap_lt h.box), h.disk.later hb, h.base, step_below1 h.below hb⟩
theorem dput_fit {s t : List UInt8} {c : Rc} (h : (dput s t c).2 = 0) : (dput s t c).1.1.length ≤ topLen ∧ (dput s t c).1.2.length ≤ topLen := by
 unfold dput at h ⊢
 by_cases h1 : ckDisk s t = 0
 · rw [if_neg (not_not_intro h1)] at h ⊢
  have hl := (ckDisk_zero.1 h1).1
  unfold putOn at h ⊢
  by_cases h2 : c.chk = 0
  · rw [if_neg (not_not_intro h2)] at h ⊢
   by_cases h3 : 30000 < s.length + t.length + c.txt.length + 1
   · rw [if_pos h3] at h; cases h
   · rw [if_neg h3]
    unfold topLen
    constructor
    · show s.length ≤ _; omega
    · show (t ++ (c.txt ++ [10])).length ≤ _; simp; omega
  · rw [if_pos h2] at h; exact absurd h h2
 · rw [if_pos h1] at h; exact absurd h h1
theorem write_ways (n : Nd) (r : Rc) (U : Un) (D E : Dk) (d1 d2 d3 : Int) (q1 : unext n.u r = (U, d1)) (q2 : dput n.s n.w r = (D, d2)) (q3 : dsync D.1 D.2 = (E, d3)) :
  (d1 ≠ 0 ∧ n.write r = (n, d1)) ∨ (d1 = 0 ∧ ((d2 ≠ 0 ∧ n.write r = (n, d2)) ∨ (d2 = 0 ∧ ((d3 ≠ 0 ∧ n.write r = (n, d3)) ∨ (d3 = 0 ∧ n.write r = (⟨U, E.1, E.2, n.up⟩, 0)))))) := by
 unfold Nd.write
 rw [q1, q2]
 simp only
 rw [q3]
 by_cases h1 : d1 = 0
 · refine Or.inr ⟨h1, ?_⟩
  rw [if_neg (not_not_intro h1)]
  by_cases h2 : d2 = 0
  · refine Or.inr ⟨h2, ?_⟩
   rw [if_neg (not_not_intro h2)]
   by_cases h3 : d3 = 0
   · exact Or.inr ⟨h3, by rw [if_neg (not_not_intro h3)]⟩
   · exact Or.inl ⟨h3, by rw [if_pos h3]⟩
  · exact Or.inl ⟨h2, by rw [if_pos h2]⟩
 · exact Or.inl ⟨h1, by rw [if_pos h1]⟩
theorem w_write_at {w : World} {g o : Nat} {NC : List Value} (u : Un) (s t : List UInt8) (up : Bool) (a0 a1 a2 : Option Addr) (m0 k0 m1 k1 m2 k2 : Nat) (hL : Laid w) (h : NAt w g o NC ⟨⟨u, s, t, up⟩, (.slice a0 m0 k0), (.slice a1 m1 k1), (.slice a2 m2 k2)⟩) (hn1 : s.length ≤ topLen) (hn2 : t.length ≤ topLen) (r : Rc) :
  Calls Tryz.prog 102 #[.pointer (some ⟨g, o, none⟩), r.val] w fun e w' => e = .returned (.int .i64 (Nd.write ⟨u, s, t, up⟩ r).2) ∧ Post st4 w w' g o ⟨⟨u, s, t, up⟩, (.slice a0 m0 k0), (.slice a1 m1 k1), (.slice a2 m2 k2)⟩ (Nd.write ⟨u, s, t, up⟩ r).1 := by
 obtain ⟨⟨U, d1⟩, q1⟩ : ∃ q, unext u r = q := ⟨_, rfl⟩
 obtain ⟨⟨D, d2⟩, q2⟩ : ∃ q, dput s t r = q := ⟨_, rfl⟩
 obtain ⟨⟨E, d3⟩, q3⟩ : ∃ q, dsync D.1 D.2 = q := ⟨_, rfl⟩
 have hw := write_ways ⟨u, s, t, up⟩ r U D E d1 d2 d3 q1 q2 q3
 have kn : Aside (∀ W, Below w.heap.size w W → AnsO 128 #[.agg #[.int .i64 u.p, (.slice a0 m0 k0)], r.val] W (U, d1)) := fun W hb => by
  have := unitNext_any (.slice a0 m0 k0) u r W (h.rows.unit.later hb)
  rwa [q1] at this
 have kp : Aside (∀ W, Below w.heap.size w W → AnsR 129 (.slice a1 m1 k1) (.slice a2 m2 k2) #[.agg #[(.slice a1 m1 k1), (.slice a2 m2 k2)], r.val] W (D, d2)) := fun W hb => by
  have := diskPut_any (.slice a1 m1 k1) (.slice a2 m2 k2) (s, t) r W (hL.later hb) (h.rows.disk.later hb) hn1 hn2
  rwa [q2] at this
 have hfit : d2 = 0 → D.1.length ≤ topLen ∧ D.2.length ≤ topLen := fun h0 => by
  have := dput_fit (s := s) (t := t) (c := r) (by rw [q2]; exact h0)
  rwa [q2] at this
 have ks : Aside (∀ W v1 v2, Below w.heap.size w W → d2 = 0 → DiskR W v1 v2 D → AnsR 130 v1 v2 #[.agg #[v1, v2]] W (E, d3)) := fun W v1 v2 hb h0 hD => by
  have := diskSync_any v1 v2 D W (hL.later hb) hD (hfit h0).1 (hfit h0).2
  rwa [q3] at this
 obtain ⟨rr, HRR⟩ : ∃ rr, Hid (Nd.write ⟨u, s, t, up⟩ r = rr) := ⟨_, rfl⟩
 rw [HRR.out] at hw ⊢
 have HC : Hid _ := hw
 have HN0 : Aside (NAt (w.alloc (boxRc r)) g o NC ⟨⟨u, s, t, up⟩, (.slice a0 m0 k0), (.slice a1 m1 k1), (.slice a2 m2 k2)⟩) := h.later (grew (Below.refl _ _) _)
 have HX0 : Aside ((w.alloc (boxRc r)).heap[w.heap.size]? = some (boxRc r)) := heap_new _ _
 have HB0 : Aside (Below w.heap.size w (w.alloc (boxRc r))) := grew (Below.refl _ _) _
 clear hL h hn1 hn2 q1 q2 q3 hfit hw HRR
 go_enter Tryz.func102, Tryz.ntmps102
 go_upto_region 1 with fail
 generalize w.alloc (boxRc r) = W0 at *
 have HK1 : Aside (∀ W, Below W0.heap.size W0 W → AnsO 128 #[.agg #[.int .i64 u.p, (.slice a0 m0 k0)], r.val] W (U, d1)) := fun W hb => kn.out W (HB0.out.trans (hb.mono HB0.out.size))
 clear kn
 go_cut [5, 6] from 8 to 16 (fun s5 s6 wx => ∃ (b : Nat) (v : Value), s5 = .pointer (some ⟨b, 0, none⟩) ∧ s6 = .int .i64 d1 ∧ UBx W0 wx b U v)
 case first =>
  refine wp_region_held_drew (S := fun W' => Below W0.heap.size W0 W') (by kernel_rfl) ((Below.refl _ _).drew) (fun hHeld => ?_)
  refine tk 0 (v := ?_) rfl (by kernel_rfl) (by rfl) (by assumption) (fun _ _ _ h => h) ?_ ?_
  rotate_left
  · intro w0 hSw; clear hSw; go_simp; first | done | with_reducible rfl
  try simp only [Act.put, qa, qb, qc]
  refine tk 1 (v := ?_) rfl (by kernel_rfl) (by rfl) (by assumption) (fun _ _ _ h => h) ?_ ?_
  rotate_left
  · intro w0 hSw; clear hSw; go_simp; first | done | with_reducible rfl
  try simp only [Act.put, qa, qb, qc]
  refine tk 2 (v := ?_) rfl (by kernel_rfl) (by rfl) (by assumption) (fun _ _ _ h => h) ?_ ?_
  rotate_left
  · intro w0 hSw; clear hSw; go_simp; first | done | with_reducible rfl
  try simp only [Act.put, qa, qb, qc]
  refine tk 3 (v := ?_) rfl (by kernel_rfl) (by rfl) (by assumption) (fun _ _ _ h => h) ?_ ?_
  rotate_left
  · intro w0 hSw; have y0 := (HN0.out.later hSw).cell (i := 0) rfl; have y1 := (HN0.out.later hSw).cell (i := 1) rfl; simp only [Nat.add_zero] at y0; clear hSw; go_simp; first | done | with_reducible rfl
  try simp only [Act.put, qa, qb, qc]
  refine tk 4 (v := ?_) rfl (by kernel_rfl) (by rfl) (by assumption) (fun _ _ _ h => h) ?_ ?_
  rotate_left
  · intro w0 hSw; have z := (show ∀ i, w0.cell? ⟨w.heap.size, i, none⟩ = #[Value.int .i64 r.k, .int .i64 r.a, .int .i64 r.p, .int .i64 r.e.k, .int .i64 r.e.j, .int .i64 r.e.v, .int .i64 r.e.t, .int .i64 r.e.c][i]? from fun i => Joins.cell_of_block (heap_below HX0.out hSw (heap_lt HX0.out)) i); clear hSw; go_simp; first | done | with_reducible rfl
  try simp only [Act.put, qa, qb, qc]
  refine wpAnyH_ready (rs := [5, 9]) (by kernel_rfl) (by simp) ?_
  refine AllReadyH.cons (o := ?o5p) ?hi5p ?step5p (AllReadyH.cons (o := ?o9p) ?hi9p ?step9p AllReadyH.nil)
  case hi5p => (simp only [List.getElem?_toArray, List.getElem?_cons_succ, List.getElem?_cons_zero]; rfl)
  case hi9p => (simp only [List.getElem?_toArray, List.getElem?_cons_succ, List.getElem?_cons_zero]; rfl)
  case step5p =>
   intro K hK
   go_simp
   refine (HK1.out _ hHeld).mono ?_
   rintro e w1 ⟨v1, rfl, hU, hb1, _⟩
   obtain ⟨a3, m3, k3, rfl⟩ := roomy_sl hU.room
   have hA1 : Below W0.heap.size W0 w1 := step_below1 hHeld hb1
   refine hK.out _ _ hA1 (fun hHeld => ?_)
   clear hK K
   try simp only [Act.put, qa, qb, qc]
   refine tk 6 (v := ?_) rfl (by kernel_rfl) (by rfl) (by assumption) (fun _ _ _ h => h) ?_ ?_
   rotate_left
   · intro w0 hSw; clear hSw; go_simp; first | done | with_reducible rfl
   try simp only [Act.put, qa, qb, qc]
   refine tk 7 (v := ?_) rfl (by kernel_rfl) (by rfl) (by assumption) (fun _ _ _ h => h) ?_ ?_
   rotate_left
   · intro w0 hSw; clear hSw; go_simp; first | done | with_reducible rfl
   try simp only [Act.put, qa, qb, qc]
   refine tk 8 (v := ?_) rfl (by kernel_rfl) (by rfl) (by assumption) (fun _ _ _ h => h) ?_ ?_
   rotate_left
   · intro w0 hSw; clear hSw; go_simp; first | done | with_reducible rfl
   try simp only [Act.put, qa, qb, qc]
   refine rdy 9 (by kernel_rfl) rfl (fun K hK => ?_)
   go_simp
   refine hK.out _ _ (grew hHeld _) (fun hHeld => ?_)
   clear hK K
   try simp only [Act.put, qa, qb, qc]
   refine rdy 10 (by kernel_rfl) rfl (fun K hK => ?_)
   go_simp
   refine hK.out _ _ (grew hA1 _) (fun hHeld => ?_)
   clear hK K
   try simp only [Act.put, qa, qb, qc]
   refine rdy 11 (by kernel_rfl) rfl (fun K hK => ?_)
   go_simp
   refine hK.out _ _ (hHeld) (fun hHeld => ?_)
   clear hK K
   try simp only [Act.put, qa, qb, qc]
   refine wpAnyH_done (by kernel_rfl) ?_ _
   go_wp2_with fail
   go_meet
   case rel => exact ⟨_, _, rfl, rfl, ubx_A hA1 hU⟩
  case step9p =>
   intro K hK
   go_simp
   refine hK.out _ _ (grew hHeld _) (fun hHeld => ?_)
   clear hK K
   try simp only [Act.put, qa, qb, qc]
   have hx1 : ((W0.alloc (boxU 0 (.slice none 0 0))).drew).heap[W0.heap.size]? = some (boxU 0 (.slice none 0 0)) := heap_new W0 _
   refine rdy 5 (by kernel_rfl) rfl (fun K hK => ?_)
   go_simp
   refine (HK1.out _ hHeld).mono ?_
   rintro e w1 ⟨v1, rfl, hU, hb1, _⟩
   obtain ⟨a3, m3, k3, rfl⟩ := roomy_sl hU.room
   have hB1 : Below W0.heap.size W0 w1 := step_below1 hHeld hb1
   have hx2 := heap_below hx1 hb1 (heap_lt hx1)
   have c7 := fun i => Joins.cell_of_block hx2 i
   have f7 := fun i => Joins.unfrozen_of_block hx2 i
   refine hK.out _ _ hB1 (fun hHeld => ?_)
   clear hK K
   try simp only [Act.put, qa, qb, qc]
   refine tk 6 (v := ?_) rfl (by kernel_rfl) (by rfl) (by assumption) (fun _ _ _ h => h) ?_ ?_
   rotate_left
   · intro w0 hSw; clear hSw; go_simp; first | done | with_reducible rfl
   try simp only [Act.put, qa, qb, qc]
   refine tk 7 (v := ?_) rfl (by kernel_rfl) (by rfl) (by assumption) (fun _ _ _ h => h) ?_ ?_
   rotate_left
   · intro w0 hSw; clear hSw; go_simp; first | done | with_reducible rfl
   try simp only [Act.put, qa, qb, qc]
   refine tk 8 (v := ?_) rfl (by kernel_rfl) (by rfl) (by assumption) (fun _ _ _ h => h) ?_ ?_
   rotate_left
   · intro w0 hSw; clear hSw; go_simp; first | done | with_reducible rfl
   try simp only [Act.put, qa, qb, qc]
   refine rdy 10 (by kernel_rfl) rfl (fun K hK => ?_)
   go_simp
   refine hK.out _ _ (below_two2 hHeld (Nat.le_refl _) _ _) (fun hHeld => ?_)
   clear hK K
   try simp only [Act.put, qa, qb, qc]
   refine rdy 11 (by kernel_rfl) rfl (fun K hK => ?_)
   go_simp
   refine hK.out _ _ (hHeld) (fun hHeld => ?_)
   clear hK K
   try simp only [Act.put, qa, qb, qc]
   refine wpAnyH_done (by kernel_rfl) ?_ _
   go_wp2_with fail
   go_meet
   case rel => exact ⟨_, _, rfl, rfl, ubx_B hx2 hB1 hU (Nat.le_refl _)⟩
 case rest =>
  obtain ⟨b1, v1, rfl, rfl, hU⟩ := hcut
  obtain ⟨a3, m3, k3, rfl⟩ := roomy_sl hU.unit.room
  have HU1 : Aside (UBx W0 wc b1 U (.slice a3 m3 k3)) := hU
  have HN1 : Aside _ := HN0.out.later hU.below
  have HX1 : Aside _ := heap_below HX0.out hU.below (heap_lt HX0.out)
  have HB1 : Aside (Below w.heap.size w wc) := HB0.out.trans (hU.below.mono HB0.out.size)
  clear hU HN0 HX0 HB0 HK1
  generalize wc = W1 at *
  rcases HC.out with ⟨h0, h1⟩ | ⟨h0, HC1⟩
  · have hz : (d1 != 0) = true := by rw [bne_iff_ne]; exact h0
   subst h1
   clear h0 HC kp ks
   go_wp2
   go_ret
   exact ⟨rfl, W1, HB1.out, Or.inl ⟨rfl, rfl⟩⟩
  · have hz : (d1 != 0) = false := by rw [h0]; rfl
   have HC2 : Hid _ := HC1
   clear h0 HC HC1
   have HK2 : Aside (∀ W, Below W1.heap.size W1 W → AnsR 129 (.slice a1 m1 k1) (.slice a2 m2 k2) #[.agg #[(.slice a1 m1 k1), (.slice a2 m2 k2)], r.val] W (D, d2)) := fun W hb => kp.out W (HB1.out.trans (hb.mono HB1.out.size))
   clear kp
   go_upto_region 4 with fail
   go_cut [6, 7] from 20 to 28 (fun s6 s7 wx => ∃ (b : Nat) (v1 v2 : Value), s7 = .pointer (some ⟨b, 0, none⟩) ∧ s6 = .int .i64 d2 ∧ DBx W1 wx b D v1 v2)
   case first =>
    refine wp_region_held_drew (S := fun W' => Below W1.heap.size W1 W') (by kernel_rfl) ((Below.refl _ _).drew) (fun hHeld => ?_)
    refine tk 0 (v := ?_) rfl (by kernel_rfl) (by rfl) (by assumption) (fun _ _ _ h => h) ?_ ?_
    rotate_left
    · intro w0 hSw; clear hSw; go_simp; first | done | with_reducible rfl
    try simp only [Act.put, qa, qb, qc]
    refine tk 1 (v := ?_) rfl (by kernel_rfl) (by rfl) (by assumption) (fun _ _ _ h => h) ?_ ?_
    rotate_left
    · intro w0 hSw; clear hSw; go_simp; first | done | with_reducible rfl
    try simp only [Act.put, qa, qb, qc]
    refine tk 2 (v := ?_) rfl (by kernel_rfl) (by rfl) (by assumption) (fun _ _ _ h => h) ?_ ?_
    rotate_left
    · intro w0 hSw; clear hSw; go_simp; first | done | with_reducible rfl
    try simp only [Act.put, qa, qb, qc]
    refine tk 3 (v := ?_) rfl (by kernel_rfl) (by rfl) (by assumption) (fun _ _ _ h => h) ?_ ?_
    rotate_left
    · intro w0 hSw; have y2 := (HN1.out.later hSw).cell (i := 2) rfl; have y3 := (HN1.out.later hSw).cell (i := 3) rfl; clear hSw; go_simp; first | done | with_reducible rfl
    try simp only [Act.put, qa, qb, qc]
    refine tk 4 (v := ?_) rfl (by kernel_rfl) (by rfl) (by assumption) (fun _ _ _ h => h) ?_ ?_
    rotate_left
    · intro w0 hSw; have z := (show ∀ i, w0.cell? ⟨w.heap.size, i, none⟩ = #[Value.int .i64 r.k, .int .i64 r.a, .int .i64 r.p, .int .i64 r.e.k, .int .i64 r.e.j, .int .i64 r.e.v, .int .i64 r.e.t, .int .i64 r.e.c][i]? from fun i => Joins.cell_of_block (heap_below HX1.out hSw (heap_lt HX1.out)) i); clear hSw; go_simp; first | done | with_reducible rfl
    try simp only [Act.put, qa, qb, qc]
    refine wpAnyH_ready (rs := [5, 9]) (by kernel_rfl) (by simp) ?_
    refine AllReadyH.cons (o := ?o5pq) ?hi5pq ?step5pq (AllReadyH.cons (o := ?o9pq) ?hi9pq ?step9pq AllReadyH.nil)
    case hi5pq => (simp only [List.getElem?_toArray, List.getElem?_cons_succ, List.getElem?_cons_zero]; rfl)
    case hi9pq => (simp only [List.getElem?_toArray, List.getElem?_cons_succ, List.getElem?_cons_zero]; rfl)
    case step5pq =>
     intro K hK
     go_simp
     refine (HK2.out _ hHeld).mono ?_
     rintro e w1 ⟨v1, v2, rfl, hD, hb1, _, _⟩
     obtain ⟨a4, m4, k4, rfl⟩ := roomy_sl hD.room1
     obtain ⟨a5, m5, k5, rfl⟩ := roomy_sl hD.room2
     have hA1 : Below W1.heap.size W1 w1 := step_below1 hHeld hb1
     refine hK.out _ _ hA1 (fun hHeld => ?_)
     clear hK K
     try simp only [Act.put, qa, qb, qc]
     refine tk 6 (v := ?_) rfl (by kernel_rfl) (by rfl) (by assumption) (fun _ _ _ h => h) ?_ ?_
     rotate_left
     · intro w0 hSw; clear hSw; go_simp; first | done | with_reducible rfl
     try simp only [Act.put, qa, qb, qc]
     refine tk 7 (v := ?_) rfl (by kernel_rfl) (by rfl) (by assumption) (fun _ _ _ h => h) ?_ ?_
     rotate_left
     · intro w0 hSw; clear hSw; go_simp; first | done | with_reducible rfl
     try simp only [Act.put, qa, qb, qc]
     refine tk 8 (v := ?_) rfl (by kernel_rfl) (by rfl) (by assumption) (fun _ _ _ h => h) ?_ ?_
     rotate_left
     · intro w0 hSw; clear hSw; go_simp; first | done | with_reducible rfl
     try simp only [Act.put, qa, qb, qc]
     refine rdy 9 (by kernel_rfl) rfl (fun K hK => ?_)
     go_simp
     refine hK.out _ _ (grew hHeld _) (fun hHeld => ?_)
     clear hK K
     try simp only [Act.put, qa, qb, qc]
     refine rdy 10 (by kernel_rfl) rfl (fun K hK => ?_)
     go_simp
     refine hK.out _ _ (grew hA1 _) (fun hHeld => ?_)
     clear hK K
     try simp only [Act.put, qa, qb, qc]
     refine rdy 11 (by kernel_rfl) rfl (fun K hK => ?_)
     go_simp
     refine hK.out _ _ (hHeld) (fun hHeld => ?_)
     clear hK K
     try simp only [Act.put, qa, qb, qc]
     refine wpAnyH_done (by kernel_rfl) ?_ _
     go_wp2_with fail
     go_meet
     case rel => exact ⟨_, _, _, rfl, rfl, dbx_A hA1 hD⟩
    case step9pq =>
     intro K hK
     go_simp
     refine hK.out _ _ (grew hHeld _) (fun hHeld => ?_)
     clear hK K
     try simp only [Act.put, qa, qb, qc]
     have hx1 : ((W1.alloc (boxD nilB nilB)).drew).heap[W1.heap.size]? = some (boxD nilB nilB) := heap_new W1 _
     refine rdy 5 (by kernel_rfl) rfl (fun K hK => ?_)
     go_simp
     refine (HK2.out _ hHeld).mono ?_
     rintro e w1 ⟨v1, v2, rfl, hD, hb1, _, _⟩
     obtain ⟨a4, m4, k4, rfl⟩ := roomy_sl hD.room1
     obtain ⟨a5, m5, k5, rfl⟩ := roomy_sl hD.room2
     have hB1 : Below W1.heap.size W1 w1 := step_below1 hHeld hb1
     have hx2 := heap_below hx1 hb1 (heap_lt hx1)
     have c7 := fun i => Joins.cell_of_block hx2 i
     have f7 := fun i => Joins.unfrozen_of_block hx2 i
     refine hK.out _ _ hB1 (fun hHeld => ?_)
     clear hK K
     try simp only [Act.put, qa, qb, qc]
     refine tk 6 (v := ?_) rfl (by kernel_rfl) (by rfl) (by assumption) (fun _ _ _ h => h) ?_ ?_
     rotate_left
     · intro w0 hSw; clear hSw; go_simp; first | done | with_reducible rfl
     try simp only [Act.put, qa, qb, qc]
     refine tk 7 (v := ?_) rfl (by kernel_rfl) (by rfl) (by assumption) (fun _ _ _ h => h) ?_ ?_
     rotate_left
     · intro w0 hSw; clear hSw; go_simp; first | done | with_reducible rfl
     try simp only [Act.put, qa, qb, qc]
     refine tk 8 (v := ?_) rfl (by kernel_rfl) (by rfl) (by assumption) (fun _ _ _ h => h) ?_ ?_
     rotate_left
     · intro w0 hSw; clear hSw; go_simp; first | done | with_reducible rfl
     try simp only [Act.put, qa, qb, qc]
     refine rdy 10 (by kernel_rfl) rfl (fun K hK => ?_)
     go_simp
     refine hK.out _ _ (below_two2 hHeld (Nat.le_refl _) _ _) (fun hHeld => ?_)
     clear hK K
     try simp only [Act.put, qa, qb, qc]
     refine rdy 11 (by kernel_rfl) rfl (fun K hK => ?_)
     go_simp
     refine hK.out _ _ (hHeld) (fun hHeld => ?_)
     clear hK K
     try simp only [Act.put, qa, qb, qc]
     refine wpAnyH_done (by kernel_rfl) ?_ _
     go_wp2_with fail
     go_meet
     case rel => exact ⟨_, _, _, rfl, rfl, dbx_B hx2 hB1 hD (Nat.le_refl _)⟩
   case rest =>
    obtain ⟨b2, v4, v5, rfl, rfl, hD⟩ := hcut
    obtain ⟨a4, m4, k4, rfl⟩ := roomy_sl hD.disk.room1
    obtain ⟨a5, m5, k5, rfl⟩ := roomy_sl hD.disk.room2
    have HD2 : Aside (DBx W1 wc b2 D (.slice a4 m4 k4) (.slice a5 m5 k5)) := hD
    have HU2 : Aside _ := HU1.out.later hD.below
    have HN2 : Aside _ := HN1.out.later hD.below
    have HB2 : Aside (Below w.heap.size w wc) := HB1.out.trans (hD.below.mono HB1.out.size)
    have hl1 := heap_lt HU1.out.box
    have hne : b1 ≠ b2 := by have := hD.base; omega
    have hgo := heap_lt HN1.out.blk
    have hgb : g ≠ b2 := by have := hD.base; omega
    have HL : Aside (w.heap.size ≤ b2) := by have := hD.base; have := HB1.out.size; exact Nat.le_trans HB1.out.size hD.base
    clear hD HU1 HN1 HX1 HB1 HK2 hl1 hgo
    generalize wc = W2 at *
    rcases HC2.out with ⟨h0, h1⟩ | ⟨h0, HC1⟩
    · have hz : (d2 != 0) = true := by rw [bne_iff_ne]; exact h0
     subst h1
     clear h0 HC2 ks
     go_wp2
     go_ret
     exact ⟨rfl, W2, HB2.out, Or.inl ⟨rfl, rfl⟩⟩
    · have hz : (d2 != 0) = false := by rw [h0]; rfl
     have HC3 : Hid _ := HC1
     have hs := ks.out W2 _ _ HB2.out h0 HD2.out.disk
     clear h0 HC2 HC1 ks
     have z2 := fun i => Joins.cell_of_block HD2.out.box i
     go_wp2_with fail
     refine hs.mono ?_
     rintro e w3 ⟨v6, v7, rfl, hE, hb3, _, _⟩
     obtain ⟨a6, m6, k6, rfl⟩ := roomy_sl hE.room1
     obtain ⟨a7, m7, k7, rfl⟩ := roomy_sl hE.room2
     have HD3 : Aside (w3.heap[b2]? = some (boxD (.slice a4 m4 k4) (.slice a5 m5 k5))) := (HD2.out.later hb3).box
     have HU3 : Aside _ := HU2.out.later hb3
     have HN3 : Aside _ := HN2.out.later hb3
     have HB3 : Aside _ := step_below1 HB2.out hb3
     have HE3 : Aside (DiskR w3 (.slice a6 m6 k6) (.slice a7 m7 k7) E) := hE
     clear hs hE hb3 z2 HD2 HU2 HN2 HB2
     have z2 := fun i => Joins.cell_of_block HD3.out i
     have f2 := fun i => Joins.unfrozen_of_block HD3.out i
     have HD4 : Aside (((w3.setCell ⟨b2, 0, none⟩ (.slice a6 m6 k6)).setCell ⟨b2, 1, none⟩ (.slice a7 m7 k7)).heap[b2]? = some (boxD (.slice a6 m6 k6) (.slice a7 m7 k7))) := stored_two HD3.out rfl _ _
     have HU4 : Aside (((w3.setCell ⟨b2, 0, none⟩ (.slice a6 m6 k6)).setCell ⟨b2, 1, none⟩ (.slice a7 m7 k7)).heap[b1]? = some (boxU U.p (.slice a3 m3 k3))) := other_two HU3.out.box hne _ _
     have HG4 : Aside (((w3.setCell ⟨b2, 0, none⟩ (.slice a6 m6 k6)).setCell ⟨b2, 1, none⟩ (.slice a7 m7 k7)).heap[g]? = some (.cells NC.toArray 49)) := other_two HN3.out.blk hgb _ _
     have HR4 : Aside (NodeT ((w3.setCell ⟨b2, 0, none⟩ (.slice a6 m6 k6)).setCell ⟨b2, 1, none⟩ (.slice a7 m7 k7)) ⟨⟨U, E.1, E.2, up⟩, .slice a3 m3 k3, .slice a6 m6 k6, .slice a7 m7 k7⟩) :=
      ⟨unit_box2 HU3.out.unit HD3.out _ _, disk_off2 HE3.out HD3.out (slnob _ _ _) (slnob _ _ _) (slnob _ _ _) _⟩
     have HB4 : Aside (Below w.heap.size w ((w3.setCell ⟨b2, 0, none⟩ (.slice a6 m6 k6)).setCell ⟨b2, 1, none⟩ (.slice a7 m7 k7))) := below_two2 HB3.out HL.out _ _
     have HP4 : Aside (∀ (i : Nat) (v : Value), (Nb.cells ⟨⟨u, s, t, up⟩, (.slice a0 m0 k0), (.slice a1 m1 k1), (.slice a2 m2 k2)⟩)[i]? = some v → NC[o + i]? = some v) := HN3.out.place
     go_upto_region 8 with fail
     clear z2 f2
     generalize (w3.setCell ⟨b2, 0, none⟩ (.slice a6 m6 k6)).setCell ⟨b2, 1, none⟩ (.slice a7 m7 k7) = W4 at *
     clear HD3 HU3 HN3 HB3 HE3 HL
     rcases HC3.out with ⟨h0, h1⟩ | ⟨h0, h1⟩
     · have hz : (d3 != 0) = true := by rw [bne_iff_ne]; exact h0
      subst h1
      clear h0 HC3
      go_wp2
      go_ret
      exact ⟨rfl, W4, HB4.out, Or.inl ⟨rfl, rfl⟩⟩
     · have hz : (d3 != 0) = false := by rw [h0]; rfl
      subst h1
      clear h0 HC3
      have z1 := fun i => Joins.cell_of_block HU4.out i
      have z2 := fun i => Joins.cell_of_block HD4.out i
      have yz : ∀ (i : Nat) (v : Value), (Nb.cells ⟨⟨u, s, t, up⟩, (.slice a0 m0 k0), (.slice a1 m1 k1), (.slice a2 m2 k2)⟩)[i]? = some v → W4.cell? ⟨g, o + i, none⟩ = some v := fun i v hv => by
       rw [Joins.cell_of_block HG4.out]
       simpa using HP4.out i v hv
      have y0 := yz 0 _ rfl
      have y1 := yz 1 _ rfl
      have y2 := yz 2 _ rfl
      have y3 := yz 3 _ rfl
      simp only [Nat.add_zero] at y0
      have fz := fun i => Joins.unfrozen_of_block HG4.out i
      clear yz
      go_upto_region 10 with fail
      go_region
      go_wp2
      go_ret
      exact ⟨rfl, W4.drew, HB4.out.drew, Or.inr ⟨_, HR4.out.later (Below.refl _ _).drew, rfl, rfl⟩⟩
theorem w_write {w : World} {g o : Nat} {NC : List Value} {x : Nb} (hL : Laid w) (h : NAt w g o NC x) (hn1 : x.n.s.length ≤ topLen) (hn2 : x.n.w.length ≤ topLen) (r : Rc) :
  Calls Tryz.prog 102 #[.pointer (some ⟨g, o, none⟩), r.val] w fun e w' => e = .returned (.int .i64 (x.n.write r).2) ∧ Post st4 w w' g o x (x.n.write r).1 := by
 obtain ⟨⟨u, s, t, up⟩, vc, vs, vw⟩ := x
 obtain ⟨a0, m0, k0, rfl⟩ := roomy_sl h.rows.unit.room
 obtain ⟨a1, m1, k1, rfl⟩ := roomy_sl h.rows.disk.room1
 obtain ⟨a2, m2, k2, rfl⟩ := roomy_sl h.rows.disk.room2
 exact w_write_at u s t up a0 a1 a2 m0 k0 m1 k1 m2 k2 hL h hn1 hn2 r
theorem Post.from {st : World → Nat → Nat → Nb → World} {w W w' : World} {g o : Nat} {x : Nb} {n' : Nd} (hb : Below w.heap.size w W) (h : Post st W w' g o x n') : Post st w w' g o x n' := by
 obtain ⟨w1, h1, h2⟩ := h
 exact ⟨w1, step_below1 hb h1, h2⟩
theorem none_same {r : Rc} (hr : r = Rc.zero ∨ r.k = 1) : (r.same Rc.zero = true ∧ r.k = 0) ∨ (r.same Rc.zero = false ∧ r.k ≠ 0) := by
 rcases hr with rfl | h
 · exact Or.inl ⟨by decide, rfl⟩
 · refine Or.inr ⟨?_, by omega⟩
  unfold Rc.same
  rw [decide_eq_false (fun hh => by have := hh.1; rw [h] at this; cases this)]
  rfl
theorem w_writeAny {w : World} {g o : Nat} {NC : List Value} {x : Nb} (hL : Laid w) (h : NAt w g o NC x) (hn1 : x.n.s.length ≤ topLen) (hn2 : x.n.w.length ≤ topLen) {r : Rc} (hr : r = Rc.zero ∨ r.k = 1) :
  Calls Tryz.prog 108 #[.pointer (some ⟨g, o, none⟩), r.val] w fun e w' => e = .returned (.int .i64 (x.n.writeAny r).2) ∧ Post st4 w w' g o x (x.n.writeAny r).1 := by
 have hB0 : Below w.heap.size w (w.alloc (boxRc r)) := grew (Below.refl _ _) _
 have HB0 : Aside (Below w.heap.size w (w.alloc (boxRc r))) := hB0
 have HX0 : Aside ((w.alloc (boxRc r)).heap[w.heap.size]? = some (boxRc r)) := heap_new _ _
 have hno := w_isNone r (w.alloc (boxRc r))
 have kw : Aside (∀ W, Below w.heap.size w W → Calls Tryz.prog 102 #[.pointer (some ⟨g, o, none⟩), r.val] W fun e w' => e = .returned (.int .i64 (x.n.write r).2) ∧ Post st4 W w' g o x (x.n.write r).1) := fun W hb => w_write (hL.later hb) (h.later hb) hn1 hn2 r
 have hway := none_same hr
 clear hL h hn1 hn2 hr hB0
 rcases hway with ⟨hs, hk⟩ | ⟨hs, hk⟩
 · rw [hs] at hno
  rw [show x.n.writeAny r = (x.n, 0) by rw [Nd.writeAny, if_pos hk]]
  clear kw hs hk
  go_enter Tryz.func108, Tryz.ntmps108
  go_upto_region 1 with fail
  generalize w.alloc (boxRc r) = W0 at *
  have z := fun i => Joins.cell_of_block HX0.out i
  go_wp2_with fail
  refine hno.mono ?_
  rintro e w1 ⟨rfl, hb1⟩
  have HB1 : Aside _ := step_below1 HB0.out hb1
  clear z hno hb1 HB0 HX0
  go_wp2
  go_ret
  exact ⟨rfl, w1, HB1.out, Or.inl ⟨rfl, rfl⟩⟩
 · rw [hs] at hno
  rw [show x.n.writeAny r = x.n.write r by rw [Nd.writeAny, if_neg hk]]
  obtain ⟨rr, HRR⟩ : ∃ rr, Hid (x.n.write r = rr) := ⟨_, rfl⟩
  rw [HRR.out] at kw ⊢
  clear hs hk HRR
  go_enter Tryz.func108, Tryz.ntmps108
  go_upto_region 1 with fail
  generalize w.alloc (boxRc r) = W0 at *
  have z := fun i => Joins.cell_of_block HX0.out i
  go_wp2_with fail
  refine hno.mono ?_
  rintro e w1 ⟨rfl, hb1⟩
  have HB1 : Aside _ := step_below1 HB0.out hb1
  have HX1 : Aside _ := heap_below HX0.out hb1 (heap_lt HX0.out)
  clear z hno hb1 HB0 HX0
  have z := fun i => Joins.cell_of_block HX1.out i
  go_wp2_with fail
  refine (kw.out _ HB1.out).mono ?_
  rintro e w2 ⟨rfl, hp⟩
  have HP : Aside (Post st4 w w2 g o x rr.1) := hp.from HB1.out
  clear hp kw z HX1 HB1
  go_wp2
  go_ret
  exact ⟨rfl, HP.out⟩
theorem crash_put {s t : List UInt8} {c : Rc} (h : (dput s t c).2 = 0) {m : Int} (h0 : 0 ≤ m) (h1 : m ≤ (dput s t c).1.2.length) : dcrash (dput s t c).1.1 (dput s t c).1.2 m = (((dput s t c).1.1, (dput s t c).1.2.take m.toNat), 0) := by
 have hk : ckDisk (dput s t c).1.1 (dput s t c).1.2 = 0 := by
  clear h0 h1
  unfold dput at h ⊢
  by_cases h1 : ckDisk s t = 0
  · rw [if_neg (not_not_intro h1)] at h ⊢
   have hl := ckDisk_zero.1 h1
   unfold putOn at h ⊢
   by_cases h2 : c.chk = 0
   · rw [if_neg (not_not_intro h2)] at h ⊢
    by_cases h3 : 30000 < s.length + t.length + c.txt.length + 1
    · rw [if_pos h3] at h; cases h
    · rw [if_neg h3]
     refine ckDisk_zero.2 ⟨?_, hl.2⟩
     show s.length + (t ++ (c.txt ++ [10])).length ≤ _
     simp; omega
   · rw [if_pos h2] at h; exact absurd h h2
  · rw [if_pos h1] at h; exact absurd h h1
 rw [dcrash, if_neg (not_not_intro hk), if_neg (by omega)]
theorem kept_int (k : Int) (n : Nat) : 0 ≤ min (max k 0) (n : Int) ∧ min (max k 0) (n : Int) ≤ n ∧ (min (max k 0) (n : Int)).toNat = keptOf k n := by
 unfold keptOf
 omega
theorem tear_ways (n : Nd) {r : Rc} (k : Int) (D : Dk) (d2 : Int) (q2 : dput n.s n.w r = (D, d2)) (hk : r.k ≠ 0) :
  (d2 ≠ 0 ∧ n.tear r k = (n, d2)) ∨ (d2 = 0 ∧ n.tear r k = (⟨n.u, D.1, D.2.take (keptOf k D.2.length), false⟩, 0) ∧ dcrash D.1 D.2 (min (max k 0) (D.2.length : Int)) = ((D.1, D.2.take (keptOf k D.2.length)), 0)) := by
 unfold Nd.tear
 rw [if_neg hk, q2]
 by_cases h2 : d2 = 0
 · refine Or.inr ⟨h2, by rw [if_neg (not_not_intro h2)], ?_⟩
  obtain ⟨g1, g2, g3⟩ := kept_int k D.2.length
  have := crash_put (s := n.s) (t := n.w) (c := r) (by rw [q2]; exact h2) g1 (by rw [q2]; exact g2)
  rw [q2, g3] at this
  exact this
 · exact Or.inl ⟨h2, by rw [if_pos h2]⟩
theorem w_tear_at {w : World} {g o : Nat} {NC : List Value} (u : Un) (s t : List UInt8) (up : Bool) (a0 a1 a2 : Option Addr) (m0 k0 m1 k1 m2 k2 : Nat) (hL : Laid w) (h : NAt w g o NC ⟨⟨u, s, t, up⟩, (.slice a0 m0 k0), (.slice a1 m1 k1), (.slice a2 m2 k2)⟩) (hn1 : s.length ≤ topLen) (hn2 : t.length ≤ topLen) (r : Rc) (hs : r.same Rc.zero = false) (hk : r.k ≠ 0) (kk : Int) :
  Calls Tryz.prog 107 #[.pointer (some ⟨g, o, none⟩), r.val, .int .i64 kk] w fun e w' => e = .returned (.int .i64 (Nd.tear ⟨u, s, t, up⟩ r kk).2) ∧ Post3 w w' g o ⟨⟨u, s, t, up⟩, (.slice a0 m0 k0), (.slice a1 m1 k1), (.slice a2 m2 k2)⟩ (Nd.tear ⟨u, s, t, up⟩ r kk).1 := by
 obtain ⟨⟨D, d2⟩, q2⟩ : ∃ q, dput s t r = q := ⟨_, rfl⟩
 have hw := tear_ways ⟨u, s, t, up⟩ kk D d2 q2 hk
 obtain ⟨T, hT⟩ : ∃ T, Hid (D.2.take (keptOf kk D.2.length) = T) := ⟨_, rfl⟩
 rw [hT.out] at hw
 have kp : Aside (∀ W, Below w.heap.size w W → AnsR 129 (.slice a1 m1 k1) (.slice a2 m2 k2) #[.agg #[(.slice a1 m1 k1), (.slice a2 m2 k2)], r.val] W (D, d2)) := fun W hb => by
  have := diskPut_any (.slice a1 m1 k1) (.slice a2 m2 k2) (s, t) r W (hL.later hb) (h.rows.disk.later hb) hn1 hn2
  rwa [q2] at this
 have hfit : d2 = 0 → D.1.length ≤ topLen ∧ D.2.length ≤ topLen := fun h0 => by
  have := dput_fit (s := s) (t := t) (c := r) (by rw [q2]; exact h0)
  rwa [q2] at this
 have ks : Aside (∀ W v1 v2 m, Below w.heap.size w W → d2 = 0 → DiskR W v1 v2 D → AnsR 135 v1 v2 #[.agg #[v1, v2], .int .i64 m] W (dcrash D.1 D.2 m)) := fun W v1 v2 m hb h0 hD =>
  diskCrash_any v1 v2 D m W (hL.later hb) hD (hfit h0).1 (hfit h0).2
 have hno := w_isNone r (w.alloc (boxRc r))
 rw [hs] at hno
 obtain ⟨rr, HRR⟩ : ∃ rr, Hid (Nd.tear ⟨u, s, t, up⟩ r kk = rr) := ⟨_, rfl⟩
 rw [HRR.out] at hw ⊢
 have HC : Hid _ := hw
 have HN0 : Aside (NAt (w.alloc (boxRc r)) g o NC ⟨⟨u, s, t, up⟩, (.slice a0 m0 k0), (.slice a1 m1 k1), (.slice a2 m2 k2)⟩) := h.later (grew (Below.refl _ _) _)
 have HX0 : Aside ((w.alloc (boxRc r)).heap[w.heap.size]? = some (boxRc r)) := heap_new _ _
 have HB0 : Aside (Below w.heap.size w (w.alloc (boxRc r))) := grew (Below.refl _ _) _
 clear hL h hn1 hn2 q2 hfit hw HRR hs hk
 go_enter Tryz.func107, Tryz.ntmps107
 go_upto_region 1 with fail
 generalize w.alloc (boxRc r) = W0 at *
 have z := fun i => Joins.cell_of_block HX0.out i
 go_wp2_with fail
 refine hno.mono ?_
 rintro e W1 ⟨rfl, hb1⟩
 have HN1 : Aside _ := HN0.out.later hb1
 have HB1 : Aside _ := step_below1 HB0.out hb1
 have HX1 : Aside _ := heap_below HX0.out hb1 (heap_lt HX0.out)
 clear z hno hb1 HB0 HX0 HN0
 have HK2 : Aside (∀ W, Below W1.heap.size W1 W → AnsR 129 (.slice a1 m1 k1) (.slice a2 m2 k2) #[.agg #[(.slice a1 m1 k1), (.slice a2 m2 k2)], r.val] W (D, d2)) := fun W hb => kp.out W (HB1.out.trans (hb.mono HB1.out.size))
 clear kp
 go_upto_region 3 with fail
 go_cut [7, 8] from 11 to 19 (fun s7 s8 wx => ∃ (b : Nat) (v1 v2 : Value), s7 = .pointer (some ⟨b, 0, none⟩) ∧ s8 = .int .i64 d2 ∧ DBx W1 wx b D v1 v2)
 case first =>
  refine wp_region_held_drew (S := fun W' => Below W1.heap.size W1 W') (by kernel_rfl) ((Below.refl _ _).drew) (fun hHeld => ?_)
  refine tk 0 (v := ?_) rfl (by kernel_rfl) (by rfl) (by assumption) (fun _ _ _ h => h) ?_ ?_
  rotate_left
  · intro w0 hSw; clear hSw; go_simp; first | done | with_reducible rfl
  try simp only [Act.put, qa, qb, qc]
  refine tk 1 (v := ?_) rfl (by kernel_rfl) (by rfl) (by assumption) (fun _ _ _ h => h) ?_ ?_
  rotate_left
  · intro w0 hSw; clear hSw; go_simp; first | done | with_reducible rfl
  try simp only [Act.put, qa, qb, qc]
  refine tk 2 (v := ?_) rfl (by kernel_rfl) (by rfl) (by assumption) (fun _ _ _ h => h) ?_ ?_
  rotate_left
  · intro w0 hSw; clear hSw; go_simp; first | done | with_reducible rfl
  try simp only [Act.put, qa, qb, qc]
  refine tk 3 (v := ?_) rfl (by kernel_rfl) (by rfl) (by assumption) (fun _ _ _ h => h) ?_ ?_
  rotate_left
  · intro w0 hSw; have y2 := (HN1.out.later hSw).cell (i := 2) rfl; have y3 := (HN1.out.later hSw).cell (i := 3) rfl; clear hSw; go_simp; first | done | with_reducible rfl
  try simp only [Act.put, qa, qb, qc]
  refine tk 4 (v := ?_) rfl (by kernel_rfl) (by rfl) (by assumption) (fun _ _ _ h => h) ?_ ?_
  rotate_left
  · intro w0 hSw; have z := (show ∀ i, w0.cell? ⟨w.heap.size, i, none⟩ = #[Value.int .i64 r.k, .int .i64 r.a, .int .i64 r.p, .int .i64 r.e.k, .int .i64 r.e.j, .int .i64 r.e.v, .int .i64 r.e.t, .int .i64 r.e.c][i]? from fun i => Joins.cell_of_block (heap_below HX1.out hSw (heap_lt HX1.out)) i); clear hSw; go_simp; first | done | with_reducible rfl
  try simp only [Act.put, qa, qb, qc]
  refine wpAnyH_ready (rs := [5, 9]) (by kernel_rfl) (by simp) ?_
  refine AllReadyH.cons (o := ?o5p) ?hi5p ?step5p (AllReadyH.cons (o := ?o9p) ?hi9p ?step9p AllReadyH.nil)
  case hi5p => (simp only [List.getElem?_toArray, List.getElem?_cons_succ, List.getElem?_cons_zero]; rfl)
  case hi9p => (simp only [List.getElem?_toArray, List.getElem?_cons_succ, List.getElem?_cons_zero]; rfl)
  case step5p =>
   intro K hK
   go_simp
   refine (HK2.out _ hHeld).mono ?_
   rintro e w1 ⟨v1, v2, rfl, hD, hb1, _, _⟩
   obtain ⟨a4, m4, k4, rfl⟩ := roomy_sl hD.room1
   obtain ⟨a5, m5, k5, rfl⟩ := roomy_sl hD.room2
   have hA1 : Below W1.heap.size W1 w1 := step_below1 hHeld hb1
   refine hK.out _ _ hA1 (fun hHeld => ?_)
   clear hK K
   try simp only [Act.put, qa, qb, qc]
   refine tk 6 (v := ?_) rfl (by kernel_rfl) (by rfl) (by assumption) (fun _ _ _ h => h) ?_ ?_
   rotate_left
   · intro w0 hSw; clear hSw; go_simp; first | done | with_reducible rfl
   try simp only [Act.put, qa, qb, qc]
   refine tk 7 (v := ?_) rfl (by kernel_rfl) (by rfl) (by assumption) (fun _ _ _ h => h) ?_ ?_
   rotate_left
   · intro w0 hSw; clear hSw; go_simp; first | done | with_reducible rfl
   try simp only [Act.put, qa, qb, qc]
   refine tk 8 (v := ?_) rfl (by kernel_rfl) (by rfl) (by assumption) (fun _ _ _ h => h) ?_ ?_
   rotate_left
   · intro w0 hSw; clear hSw; go_simp; first | done | with_reducible rfl
   try simp only [Act.put, qa, qb, qc]
   refine rdy 9 (by kernel_rfl) rfl (fun K hK => ?_)
   go_simp
   refine hK.out _ _ (grew hHeld _) (fun hHeld => ?_)
   clear hK K
   try simp only [Act.put, qa, qb, qc]
   refine rdy 10 (by kernel_rfl) rfl (fun K hK => ?_)
   go_simp
   refine hK.out _ _ (grew hA1 _) (fun hHeld => ?_)
   clear hK K
   try simp only [Act.put, qa, qb, qc]
   refine rdy 11 (by kernel_rfl) rfl (fun K hK => ?_)
   go_simp
   refine hK.out _ _ (hHeld) (fun hHeld => ?_)
   clear hK K
   try simp only [Act.put, qa, qb, qc]
   refine wpAnyH_done (by kernel_rfl) ?_ _
   go_wp2_with fail
   go_meet
   case rel => exact ⟨_, _, _, rfl, rfl, dbx_A hA1 hD⟩
  case step9p =>
   intro K hK
   go_simp
   refine hK.out _ _ (grew hHeld _) (fun hHeld => ?_)
   clear hK K
   try simp only [Act.put, qa, qb, qc]
   have hx1 : ((W1.alloc (boxD nilB nilB)).drew).heap[W1.heap.size]? = some (boxD nilB nilB) := heap_new W1 _
   refine rdy 5 (by kernel_rfl) rfl (fun K hK => ?_)
   go_simp
   refine (HK2.out _ hHeld).mono ?_
   rintro e w1 ⟨v1, v2, rfl, hD, hb1, _, _⟩
   obtain ⟨a4, m4, k4, rfl⟩ := roomy_sl hD.room1
   obtain ⟨a5, m5, k5, rfl⟩ := roomy_sl hD.room2
   have hB1 : Below W1.heap.size W1 w1 := step_below1 hHeld hb1
   have hx2 := heap_below hx1 hb1 (heap_lt hx1)
   have c7 := fun i => Joins.cell_of_block hx2 i
   have f7 := fun i => Joins.unfrozen_of_block hx2 i
   refine hK.out _ _ hB1 (fun hHeld => ?_)
   clear hK K
   try simp only [Act.put, qa, qb, qc]
   refine tk 6 (v := ?_) rfl (by kernel_rfl) (by rfl) (by assumption) (fun _ _ _ h => h) ?_ ?_
   rotate_left
   · intro w0 hSw; clear hSw; go_simp; first | done | with_reducible rfl
   try simp only [Act.put, qa, qb, qc]
   refine tk 7 (v := ?_) rfl (by kernel_rfl) (by rfl) (by assumption) (fun _ _ _ h => h) ?_ ?_
   rotate_left
   · intro w0 hSw; clear hSw; go_simp; first | done | with_reducible rfl
   try simp only [Act.put, qa, qb, qc]
   refine tk 8 (v := ?_) rfl (by kernel_rfl) (by rfl) (by assumption) (fun _ _ _ h => h) ?_ ?_
   rotate_left
   · intro w0 hSw; clear hSw; go_simp; first | done | with_reducible rfl
   try simp only [Act.put, qa, qb, qc]
   refine rdy 10 (by kernel_rfl) rfl (fun K hK => ?_)
   go_simp
   refine hK.out _ _ (below_two2 hHeld (Nat.le_refl _) _ _) (fun hHeld => ?_)
   clear hK K
   try simp only [Act.put, qa, qb, qc]
   refine rdy 11 (by kernel_rfl) rfl (fun K hK => ?_)
   go_simp
   refine hK.out _ _ (hHeld) (fun hHeld => ?_)
   clear hK K
   try simp only [Act.put, qa, qb, qc]
   refine wpAnyH_done (by kernel_rfl) ?_ _
   go_wp2_with fail
   go_meet
   case rel => exact ⟨_, _, _, rfl, rfl, dbx_B hx2 hB1 hD (Nat.le_refl _)⟩
 case rest =>
  obtain ⟨b2, v4, v5, rfl, rfl, hD⟩ := hcut
  obtain ⟨a4, m4, k4, rfl⟩ := roomy_sl hD.disk.room1
  obtain ⟨a5, m5, k5, rfl⟩ := roomy_sl hD.disk.room2
  have hm5 : D.2.length = m5 := SlOf.len (cs := bt) (k := 1) hD.disk.wait
  have HD2 : Aside (DBx W1 wc b2 D (.slice a4 m4 k4) (.slice a5 m5 k5)) := hD
  have HN2 : Aside _ := HN1.out.later hD.below
  have HB2 : Aside (Below w.heap.size w wc) := HB1.out.trans (hD.below.mono HB1.out.size)
  have hgo := heap_lt HN1.out.blk
  have hgb : g ≠ b2 := by have := hD.base; omega
  have HL : Aside (w.heap.size ≤ b2) := Nat.le_trans HB1.out.size hD.base
  clear hD HN1 HX1 HB1 HK2 hgo
  generalize wc = W2 at *
  rcases HC.out with ⟨h0, h1⟩ | ⟨h0, h1, h3⟩
  · have hz : (d2 != 0) = true := by rw [bne_iff_ne]; exact h0
   subst h1
   clear h0 HC ks hm5
   go_wp2
   go_ret
   exact ⟨rfl, W2, HB2.out, Or.inl ⟨rfl, rfl⟩⟩
  · have hz : (d2 != 0) = false := by rw [h0]; rfl
   subst h1
   rw [hm5] at h3
   have hs := ks.out W2 _ _ (min (max kk 0) (m5 : Int)) HB2.out h0 HD2.out.disk
   rw [h3] at hs
   clear h0 HC h3 ks hm5 hT
   have z2 := fun i => Joins.cell_of_block HD2.out.box i
   go_wp2_with fail
   refine hs.mono ?_
   rintro e w3 ⟨v6, v7, rfl, hE, hb3, _, _⟩
   obtain ⟨a6, m6, k6, rfl⟩ := roomy_sl hE.room1
   obtain ⟨a7, m7, k7, rfl⟩ := roomy_sl hE.room2
   have HD3 : Aside (w3.heap[b2]? = some (boxD (.slice a4 m4 k4) (.slice a5 m5 k5))) := (HD2.out.later hb3).box
   have HN3 : Aside _ := HN2.out.later hb3
   have HB3 : Aside _ := step_below1 HB2.out hb3
   have HE3 : Aside (DiskR w3 (.slice a6 m6 k6) (.slice a7 m7 k7) (D.1, T)) := hE
   clear hs hE hb3 z2 HD2 HN2 HB2
   have z2 := fun i => Joins.cell_of_block HD3.out i
   have f2 := fun i => Joins.unfrozen_of_block HD3.out i
   have HD4 : Aside (((w3.setCell ⟨b2, 0, none⟩ (.slice a6 m6 k6)).setCell ⟨b2, 1, none⟩ (.slice a7 m7 k7)).heap[b2]? = some (boxD (.slice a6 m6 k6) (.slice a7 m7 k7))) := stored_two HD3.out rfl _ _
   have HG4 : Aside (((w3.setCell ⟨b2, 0, none⟩ (.slice a6 m6 k6)).setCell ⟨b2, 1, none⟩ (.slice a7 m7 k7)).heap[g]? = some (.cells NC.toArray 49)) := other_two HN3.out.blk hgb _ _
   have HR4 : Aside (NodeT ((w3.setCell ⟨b2, 0, none⟩ (.slice a6 m6 k6)).setCell ⟨b2, 1, none⟩ (.slice a7 m7 k7)) ⟨⟨u, D.1, T, false⟩, (.slice a0 m0 k0), .slice a6 m6 k6, .slice a7 m7 k7⟩) :=
    ⟨unit_box2 HN3.out.rows.unit HD3.out _ _, disk_off2 HE3.out HD3.out (slnob _ _ _) (slnob _ _ _) (slnob _ _ _) _⟩
   have HB4 : Aside (Below w.heap.size w ((w3.setCell ⟨b2, 0, none⟩ (.slice a6 m6 k6)).setCell ⟨b2, 1, none⟩ (.slice a7 m7 k7))) := below_two2 HB3.out HL.out _ _
   have HP4 : Aside (∀ (i : Nat) (v : Value), (Nb.cells ⟨⟨u, s, t, up⟩, (.slice a0 m0 k0), (.slice a1 m1 k1), (.slice a2 m2 k2)⟩)[i]? = some v → NC[o + i]? = some v) := HN3.out.place
   go_upto_region 7 with fail
   clear z2 f2
   generalize (w3.setCell ⟨b2, 0, none⟩ (.slice a6 m6 k6)).setCell ⟨b2, 1, none⟩ (.slice a7 m7 k7) = W4 at *
   clear HD3 HN3 HB3 HE3 HL
   have z2 := fun i => Joins.cell_of_block HD4.out i
   have yz : ∀ (i : Nat) (v : Value), (Nb.cells ⟨⟨u, s, t, up⟩, (.slice a0 m0 k0), (.slice a1 m1 k1), (.slice a2 m2 k2)⟩)[i]? = some v → W4.cell? ⟨g, o + i, none⟩ = some v := fun i v hv => by
    rw [Joins.cell_of_block HG4.out]
    simpa using HP4.out i v hv
   have y2 := yz 2 _ rfl
   have y3 := yz 3 _ rfl
   have y4 := yz 4 _ rfl
   have fz := fun i => Joins.unfrozen_of_block HG4.out i
   clear yz
   go_wp2
   go_ret
   exact ⟨rfl, W4, HB4.out, Or.inr ⟨_, HR4.out, rfl, rfl, rfl⟩⟩
theorem w_tear_none {w : World} {g o : Nat} {r : Rc} (hs : r.same Rc.zero = true) (kk : Int) :
  Calls Tryz.prog 107 #[.pointer (some ⟨g, o, none⟩), r.val, .int .i64 kk] w fun e w' => e = .returned (.int .i64 6) ∧ Below w.heap.size w w' := by
 have hno := w_isNone r (w.alloc (boxRc r))
 rw [hs] at hno
 have HX0 : Aside ((w.alloc (boxRc r)).heap[w.heap.size]? = some (boxRc r)) := heap_new _ _
 have HB0 : Aside (Below w.heap.size w (w.alloc (boxRc r))) := grew (Below.refl _ _) _
 clear hs
 go_enter Tryz.func107, Tryz.ntmps107
 go_upto_region 1 with fail
 generalize w.alloc (boxRc r) = W0 at *
 have z := fun i => Joins.cell_of_block HX0.out i
 go_wp2_with fail
 refine hno.mono ?_
 rintro e W1 ⟨rfl, hb1⟩
 have HB1 : Aside _ := step_below1 HB0.out hb1
 clear z hno hb1 HB0 HX0
 go_wp2
 go_ret
 exact ⟨rfl, HB1.out⟩
theorem w_tear {w : World} {g o : Nat} {NC : List Value} {x : Nb} (hL : Laid w) (h : NAt w g o NC x) (hn1 : x.n.s.length ≤ topLen) (hn2 : x.n.w.length ≤ topLen) {r : Rc} (hr : r = Rc.zero ∨ r.k = 1) (kk : Int) :
  Calls Tryz.prog 107 #[.pointer (some ⟨g, o, none⟩), r.val, .int .i64 kk] w fun e w' => e = .returned (.int .i64 (x.n.tear r kk).2) ∧ Post3 w w' g o x (x.n.tear r kk).1 := by
 obtain ⟨⟨u, s, t, up⟩, vc, vs, vw⟩ := x
 obtain ⟨a0, m0, k0, rfl⟩ := roomy_sl h.rows.unit.room
 obtain ⟨a1, m1, k1, rfl⟩ := roomy_sl h.rows.disk.room1
 obtain ⟨a2, m2, k2, rfl⟩ := roomy_sl h.rows.disk.room2
 rcases none_same hr with ⟨hs, hk⟩ | ⟨hs, hk⟩
 · rw [show Nd.tear ⟨u, s, t, up⟩ r kk = (⟨u, s, t, up⟩, 6) by rw [Nd.tear, if_pos hk]]
  exact (w_tear_none hs kk).mono fun e w' ⟨he, hb⟩ => ⟨he, w', hb, Or.inl ⟨rfl, rfl⟩⟩
 · exact w_tear_at u s t up a0 a1 a2 m0 k0 m1 k1 m2 k2 hL h hn1 hn2 r hs hk kk
abbrev C5 (w : World) (g : Nat) (x : En) : Prop := w.cell? ⟨g, 0, none⟩ = some (.int .i64 x.k) ∧ w.cell? ⟨g, 1, none⟩ = some (.int .i64 x.j) ∧ w.cell? ⟨g, 2, none⟩ = some (.int .i64 x.v) ∧ w.cell? ⟨g, 3, none⟩ = some (.int .i64 x.t) ∧ w.cell? ⟨g, 4, none⟩ = some (.int .i64 x.c)
theorem c5_far {w : World} {b g : Nat} (hne : g ≠ b) (i j : Nat) (v : Value) : (w.setCell ⟨b, i, none⟩ v).cell? ⟨g, j, none⟩ = w.cell? ⟨g, j, none⟩ := by
 have hh : (w.setCell ⟨b, i, none⟩ v).heap[g]? = w.heap[g]? := Below.heap_setCell _ _ _ _ (by show g ≠ b; exact hne)
 simp only [World.cell?, hh]
theorem c5_set {w : World} {g b : Nat} {x : En} (h : C5 w g x) (hne : g ≠ b) (i : Nat) (v : Value) : C5 (w.setCell ⟨b, i, none⟩ v) g x :=
 ⟨(c5_far hne _ _ _).trans h.1, (c5_far hne _ _ _).trans h.2.1, (c5_far hne _ _ _).trans h.2.2.1, (c5_far hne _ _ _).trans h.2.2.2.1, (c5_far hne _ _ _).trans h.2.2.2.2⟩
theorem c5_of {w : World} {g : Nat} {x : En} (h : w.heap[g]? = some (boxE x.k x.j x.v x.t x.c)) : C5 w g x := ⟨Joins.cell_of_block h 0, Joins.cell_of_block h 1, Joins.cell_of_block h 2, Joins.cell_of_block h 3, Joins.cell_of_block h 4⟩
section
open scoped Classical
theorem ret3 {fn : Func} {R : Ending → World → Prop} {a : Act} {W : World} {rb eb p q t : Nat} {r : Rc} {e : En} {y : Value} (hf : fn.results = #[.cell p 94, .cell q 27, .tmp t]) (hd : a.defers = [])
  (h1 : a.tmps.getD p undef = .pointer (some ⟨rb, 0, none⟩)) (h2 : a.tmps.getD q undef = .pointer (some ⟨eb, 0, none⟩)) (h3 : a.tmps.getD t undef = y) (hR : W.heap[rb]? = some (boxRc r)) (hE : W.heap[eb]? = some (boxE e.k e.j e.v e.t e.c)) (hp : R (.returned (.tuple #[r.val, e.val, y])) W) :
  bodyPost Tryz.prog fn R .ret a W := by
 have c0 := fun i => Joins.cell_of_block hR i
 have c1 := fun i => Joins.cell_of_block hE i
 have h1' : a.tmps[p]?.getD undef = .pointer (some ⟨rb, 0, none⟩) := by simpa using h1
 have h2' : a.tmps[q]?.getD undef = .pointer (some ⟨eb, 0, none⟩) := by simpa using h2
 have h3' : a.tmps[t]?.getD undef = y := by simpa using h3
 refine bodyPost_ret (v := .tuple #[r.val, e.val, y]) ?_ hd hp
 simp [results, hf, h1', h2', h3', go_sem, c0, c1]
theorem link_stored {w : World} {rb eb : Nat} {q : Rc} {f : En} (hr : w.heap[rb]? = some (boxRc q)) (he : w.heap[eb]? = some (boxE f.k f.j f.v f.t f.c)) (hne : rb ≠ eb) (r : Rc) (e : En) {E : World}
  (hE : E = ((((((((w.setCell ⟨rb, 0, none⟩ (.int .i64 r.k)).setCell ⟨rb, 1, none⟩ (.int .i64 r.a)).setCell ⟨rb, 2, none⟩ (.int .i64 r.p)).setCell ⟨rb, 3, none⟩ (.int .i64 r.e.k)).setCell ⟨rb, 4, none⟩ (.int .i64 r.e.j)).setCell ⟨rb, 5, none⟩ (.int .i64 r.e.v)).setCell ⟨rb, 6, none⟩ (.int .i64 r.e.t)).setCell ⟨rb, 7, none⟩ (.int .i64 r.e.c))) :
  (((((E.setCell ⟨eb, 0, none⟩ (.int .i64 e.k)).setCell ⟨eb, 1, none⟩ (.int .i64 e.j)).setCell ⟨eb, 2, none⟩ (.int .i64 e.v)).setCell ⟨eb, 3, none⟩ (.int .i64 e.t)).setCell ⟨eb, 4, none⟩ (.int .i64 e.c)).heap[rb]? = some (boxRc r) ∧
  (((((E.setCell ⟨eb, 0, none⟩ (.int .i64 e.k)).setCell ⟨eb, 1, none⟩ (.int .i64 e.j)).setCell ⟨eb, 2, none⟩ (.int .i64 e.v)).setCell ⟨eb, 3, none⟩ (.int .i64 e.t)).setCell ⟨eb, 4, none⟩ (.int .i64 e.c)).heap[eb]? = some (boxE e.k e.j e.v e.t e.c) := by
 have h1 : E.heap[rb]? = some (boxRc r) := by rw [hE]; exact eight_stores hr r
 have h2 : E.heap[eb]? = some (boxE f.k f.j f.v f.t f.c) := by
  rw [hE, Below.heap_setCell _ _ _ _ (by exact hne.symm), Below.heap_setCell _ _ _ _ (by exact hne.symm), Below.heap_setCell _ _ _ _ (by exact hne.symm), Below.heap_setCell _ _ _ _ (by exact hne.symm), Below.heap_setCell _ _ _ _ (by exact hne.symm), Below.heap_setCell _ _ _ _ (by exact hne.symm), Below.heap_setCell _ _ _ _ (by exact hne.symm), Below.heap_setCell _ _ _ _ (by exact hne.symm)]
  exact he
 refine ⟨?_, ?_⟩
 · rw [Below.heap_setCell _ _ _ _ (by exact hne), Below.heap_setCell _ _ _ _ (by exact hne), Below.heap_setCell _ _ _ _ (by exact hne), Below.heap_setCell _ _ _ _ (by exact hne), Below.heap_setCell _ _ _ _ (by exact hne)]
  exact h1
 · have g1 := Joins.block_setCell h2 (i := 0) (.int .i64 e.k)
  have g2 := Joins.block_setCell g1 (i := 1) (.int .i64 e.j)
  have g3 := Joins.block_setCell g2 (i := 2) (.int .i64 e.v)
  have g4 := Joins.block_setCell g3 (i := 3) (.int .i64 e.t)
  have g5 := Joins.block_setCell g4 (i := 4) (.int .i64 e.c)
  simp only [List.setIfInBounds_toArray, List.set_cons_zero, List.set_cons_succ] at g5
  exact g5
theorem link_below {w W : World} {rb eb : Nat} (h : Below w.heap.size w W) (hr : w.heap.size ≤ rb) (he : w.heap.size ≤ eb) (v0 v1 v2 v3 v4 v5 v6 v7 u0 u1 u2 u3 u4 : Value) :
  Below w.heap.size w (((((((((((((W.setCell ⟨rb, 0, none⟩ v0).setCell ⟨rb, 1, none⟩ v1).setCell ⟨rb, 2, none⟩ v2).setCell ⟨rb, 3, none⟩ v3).setCell ⟨rb, 4, none⟩ v4).setCell ⟨rb, 5, none⟩ v5).setCell ⟨rb, 6, none⟩ v6).setCell ⟨rb, 7, none⟩ v7).setCell ⟨eb, 0, none⟩ u0).setCell ⟨eb, 1, none⟩ u1).setCell ⟨eb, 2, none⟩ u2).setCell ⟨eb, 3, none⟩ u3).setCell ⟨eb, 4, none⟩ u4) :=
 (((((below_eight h hr v0 v1 v2 v3 v4 v5 v6 v7).setCell (p := ⟨eb, 0, none⟩) he _).setCell (p := ⟨eb, 1, none⟩) he _).setCell (p := ⟨eb, 2, none⟩) he _).setCell (p := ⟨eb, 3, none⟩) he _).setCell (p := ⟨eb, 4, none⟩) he _
end
section
open scoped Classical
theorem plc_eq {us : List Un} {k m : Nat} {u : Un} {y : En} (hu : us[k]? = some u) (hy : u.cells[m]? = some y) : plc us k m = y := by
 have e : us.getD k Un.zero = u := by rw [List.getD_eq_getElem?_getD, hu]; rfl
 unfold plc
 rw [e, List.getD_eq_getElem?_getD, hy]
 rfl
theorem right_three {w : World} {v : Value} {xs : List Ub} (h : ChAt w v xs) (hd : ckChain (unitsOf xs) = 0) :
  ∃ U0 U1 U2 a0 c0 a1 c1 a2 c2 b off c, xs = [⟨U0, .slice a0 60 c0⟩, ⟨U1, .slice a1 60 c1⟩, ⟨U2, .slice a2 60 c2⟩] ∧ v = .slice (some ⟨b, off, none⟩) 3 c ∧ U0.ck = 0 ∧ U1.ck = 0 ∧ U2.ck = 0 := by
 obtain ⟨a, n, c, rfl, _⟩ := id h.room
 have hl := h.rows.len
 have h3 := ckChain_len hd
 rw [List.length_map] at h3
 obtain rfl : n = 3 := by omega
 obtain ⟨u0, u1, u2, a0, n0, c0, a1, n1, c1, a2, n2, c2, b, off, rfl, rfl, hE, ⟨g0, g1, g2⟩, l0, l1, l2⟩ := three_of h
 obtain ⟨v0, v1, v2, e, d0, d1, d2, _, _⟩ := ckChain_zero.1 hd
 have e' : [u0, u1, u2] = [v0, v1, v2] := e
 simp only [List.cons.injEq, and_true] at e'
 obtain ⟨rfl, rfl, rfl⟩ := e'
 have m0 := (Un.ck_zero.1 d0).2.1
 have m1 := (Un.ck_zero.1 d1).2.1
 have m2 := (Un.ck_zero.1 d2).2.1
 obtain rfl : n0 = 60 := by omega
 obtain rfl : n1 = 60 := by omega
 obtain rfl : n2 = 60 := by omega
 exact ⟨u0, u1, u2, a0, c0, a1, c1, a2, c2, b, off, c, rfl, rfl, d0, d1, d2⟩
theorem ret_ent {fn : Func} {R : Ending → World → Prop} {a : Act} {W : World} {b p q : Nat} {e : En} {y : Value} (hf : fn.results = #[.cell p 27, .tmp q]) (hd : a.defers = [])
  (h2 : a.tmps.getD p undef = .pointer (some ⟨b, 0, none⟩)) (h3 : a.tmps.getD q undef = y) (hR : W.heap[b]? = some (boxE e.k e.j e.v e.t e.c)) (hp : R (.returned (.tuple #[e.val, y])) W) :
  bodyPost Tryz.prog fn R .ret a W := by
 have c0 := fun i => Joins.cell_of_block hR i
 refine bodyPost_ret (v := .tuple #[e.val, y]) ?_ hd hp
 rw [results_cell_tmp hf, h2, h3]
 simp [go_sem, c0]
theorem five_below {B : Nat} {a W : World} {b : Nat} (h : Below B a W) (hb : B ≤ b) (v0 v1 v2 v3 v4 : Value) :
  Below B a (((((W.setCell ⟨b, 0, none⟩ v0).setCell ⟨b, 1, none⟩ v1).setCell ⟨b, 2, none⟩ v2).setCell ⟨b, 3, none⟩ v3).setCell ⟨b, 4, none⟩ v4) :=
 ((((h.setCell (p := ⟨b, 0, none⟩) hb _).setCell (p := ⟨b, 1, none⟩) hb _).setCell (p := ⟨b, 2, none⟩) hb _).setCell (p := ⟨b, 3, none⟩) hb _).setCell (p := ⟨b, 4, none⟩) hb _
theorem five_box {W : World} {b : Nat} {f : En} (h : W.heap[b]? = some (boxE f.k f.j f.v f.t f.c)) (e : En) :
  (((((W.setCell ⟨b, 0, none⟩ (.int .i64 e.k)).setCell ⟨b, 1, none⟩ (.int .i64 e.j)).setCell ⟨b, 2, none⟩ (.int .i64 e.v)).setCell ⟨b, 3, none⟩ (.int .i64 e.t)).setCell ⟨b, 4, none⟩ (.int .i64 e.c)).heap[b]? = some (boxE e.k e.j e.v e.t e.c) := by
 have g1 := Joins.block_setCell h (i := 0) (.int .i64 e.k)
 have g2 := Joins.block_setCell g1 (i := 1) (.int .i64 e.j)
 have g3 := Joins.block_setCell g2 (i := 2) (.int .i64 e.v)
 have g4 := Joins.block_setCell g3 (i := 3) (.int .i64 e.t)
 have g5 := Joins.block_setCell g4 (i := 4) (.int .i64 e.c)
 simp only [List.setIfInBounds_toArray, List.set_cons_zero, List.set_cons_succ] at g5
 exact g5
end
section
open scoped Classical
def Fits (xs : List Ub) : Prop := xs.length ≤ topN ∧ ∀ x, x ∈ xs → x.u.cells.length ≤ topN
structure Chains : Prop where
 check : ∀ (v : Value) (xs : List Ub) (W : World), ChAt W v xs → Fits xs → Calls Tryz.prog 169 #[v] W fun e w' => e = .returned (.int .i64 (ckChain (unitsOf xs))) ∧ Below W.heap.size W w'
 link : ∀ (v : Value) (xs : List Ub) (k a ep : Int) (x : En) (W : World), ChAt W v xs → Fits xs → Calls Tryz.prog 105 #[v, .int .i64 k, .int .i64 a, x.val, .int .i64 ep] W fun e w' => e = .returned (.tuple #[(linkOf (unitsOf xs) k a x ep).1.val, (linkOf (unitsOf xs) k a x ep).2.1.val, .int .i64 (linkOf (unitsOf xs) k a x ep).2.2]) ∧ Below W.heap.size W w'
 read : ∀ (v : Value) (xs : List Ub) (a : Int) (W : World), ChAt W v xs → Fits xs → Calls Tryz.prog 178 #[v, .int .i64 a] W fun e w' => e = .returned (.tuple #[(readOf (unitsOf xs) a).1.val, .int .i64 (readOf (unitsOf xs) a).2]) ∧ Below W.heap.size W w'
end
theorem infoUn : (Tryz.prog.info? 44).map (fun i => (i.zero, i.size, i.bytes)) = some (some (Value.agg #[.int .i64 0, .slice none 0 0]), 2, 32) := by kernel_rfl
def Nb.ub (x : Nb) : Ub := ⟨x.n.u, x.vc⟩
abbrev ubsOf (xs : List Nb) : List Ub := xs.map Nb.ub
theorem ubs_units (xs : List Nb) : unitsOf (ubsOf xs) = (nodesOf xs).map Nd.u := by
 show (xs.map Nb.ub).map Ub.u = (xs.map Nb.n).map Nd.u
 rw [List.map_map, List.map_map]; rfl
def UnAt (wr : World) (g n k : Nat) (xs : List Nb) : Prop := ∃ C : List Value, wr.heap[g]? = some (.cells ((ubsOf (xs.take k)).flatMap Ub.cells ++ C).toArray 44) ∧ C.length = (n - k) * 2
theorem UnAt.later {wr w' : World} {g n k : Nat} {xs : List Nb} (h : UnAt wr g n k xs) (hb : Below wr.heap.size wr w') : UnAt w' g n k xs := by
 obtain ⟨C, h1, h2⟩ := h
 exact ⟨C, heap_below h1 hb (heap_lt h1), h2⟩
theorem UnAt.step {wr : World} {g n k : Nat} {xs : List Nb} (h : UnAt wr g n k xs) (hk : k < n) {x : Nb} (hx : xs[k]? = some x) :
  UnAt ((wr.setCell ⟨g, k * 2, none⟩ (.int .i64 x.n.u.p)).setCell ⟨g, k * 2 + 1, none⟩ x.vc) g n (k + 1) xs := by
 obtain ⟨C, h1, h2⟩ := h
 have hlt := (List.getElem?_eq_some_iff.1 hx).1
 match C, h2 with
 | [], h2 => simp at h2; omega
 | [c], h2 => simp at h2; omega
 | a :: b :: C', h2 =>
  have hA : ((ubsOf (xs.take k)).flatMap Ub.cells).length = k * 2 := by rw [row_len Ub.two]; simp; omega
  refine ⟨C', ?_, by simp at h2; omega⟩
  have e : xs.take (k + 1) = xs.take k ++ [x] := by rw [List.take_add_one, hx]; rfl
  have h3 := block_put (block_put h1 (k * 2 + 0) (.int .i64 x.n.u.p)) (k * 2 + 1) x.vc
  rw [show a :: b :: C' = [a, b] ++ C' from rfl, seg_set hA (by simp), seg_set hA (by simp)] at h3
  rw [e]
  simp only [ubsOf, List.map_append, List.flatMap_append, List.map_cons, List.map_nil, List.flatMap_cons, List.flatMap_nil, List.append_nil, List.append_assoc]
  exact h3
theorem UnAt.cells {wr : World} {g n k : Nat} {xs : List Nb} (h : UnAt wr g n k xs) (hk : k < n) (hn : xs.length = n) : (∃ v, wr.cell? ⟨g, k * 2, none⟩ = some v) ∧ (∃ v, wr.cell? ⟨g, k * 2 + 1, none⟩ = some v) ∧ ∀ i, wr.frozen? ⟨g, i, none⟩ = false := by
 obtain ⟨C, h1, h2⟩ := h
 have hA : ((ubsOf (xs.take k)).flatMap Ub.cells).length = k * 2 := by rw [row_len Ub.two]; simp; omega
 refine ⟨?_, ?_, fun i => Joins.unfrozen_of_block h1 i⟩
 · rw [Joins.cell_of_block h1]
  simp only [List.getElem?_toArray]
  exact ⟨_, List.getElem?_eq_getElem (by rw [List.length_append, hA]; omega)⟩
 · rw [Joins.cell_of_block h1]
  simp only [List.getElem?_toArray]
  exact ⟨_, List.getElem?_eq_getElem (by rw [List.length_append, hA]; omega)⟩
theorem UnAt.done {wr : World} {g n : Nat} {xs : List Nb} (h : UnAt wr g n n xs) (hn : xs.length = n) : SlOf Ub.cells 2 wr (.slice (some ⟨g, 0, none⟩) n n) (ubsOf xs) := by
 obtain ⟨C, h1, h2⟩ := h
 have hC : C = [] := List.eq_nil_of_length_eq_zero (by simpa using h2)
 rw [hC, List.append_nil, List.take_of_length_le (by omega)] at h1
 have := slOf_lit (xs := ubsOf xs) (c := n) Ub.two h1 rfl
 rwa [List.length_map, hn] at this
theorem w_units (v : Value) (xs : List Nb) (w : World) (hv : SlOf Nb.cells 5 w v xs) (hn : xs.length ≤ 1000000) (hu : ∀ x, x ∈ xs → NodeT w x) :
  Calls Tryz.prog 106 #[v] w fun e w' => ∃ u, e = .returned u ∧ ChAt w' u (ubsOf xs) ∧ Below w.heap.size w w' := by
 obtain ⟨i0, hi, hz0, hz1, hz2⟩ := info_parts infoUn
 have H1 : Aside (SlOf Nb.cells 5 w v xs) := hv
 have HU : Aside (∀ x, x ∈ xs → NodeT w x) := hu
 obtain ⟨a1, c1, rfl, _⟩ := hv
 obtain ⟨n, hn1⟩ : ∃ n, xs.length = n := ⟨_, rfl⟩
 have HL : Aside (xs.length = n) := hn1
 rw [hn1] at H1 hn ⊢
 clear hn1 hu
 go_enter Tryz.func106, Tryz.ntmps106
 go_wp2_with (at_make; refine wpList_make_full _ rfl _ _ 100 rfl w.heap.size 44 i0 (.agg #[.int .i64 0, .slice none 0 0]) 2 Tryz.underlying100 hi hz0 hz1 _ _ _ _ n rfl rfl rfl rfl (by rw [hz2]; omega) (by unfold maxLen; omega) (Nat.le_refl _) ?_)
 intro w1 hown hgrow
 obtain ⟨hl0, ho⟩ := hown
 rcases ho with ⟨h, _⟩ | ⟨g, cap, cur, hv', _, hg, _, _, hsz, htake⟩
 · cases h
 injection hv' with ha _ hc
 injection ha with ha
 injection ha with ha _ _
 subst ha hc
 have HB1 : Aside (Below w.heap.size w w1) := ⟨hgrow.os, hgrow.tape, hgrow.output, hgrow.size, fun k hk => hgrow.block k hk (fun h => by cases h)⟩
 have HS1 : Aside (UnAt w1 w.heap.size n 0 xs) := ⟨cur.toList, by simpa using hg, by simpa using hsz⟩
 clear hi hz0 hz1 hz2 hl0 htake hgrow hg hsz
 go_wp2
 go_loopw [11] (fun i wr => ∃ k : Nat, k ≤ n ∧ i = .int .i64 k ∧ Below w.heap.size w wr ∧ UnAt wr w.heap.size n k xs) (fun i _ => n - (intOf i).toNat)
 case atStart => exact ⟨0, Nat.zero_le _, rfl, HB1.out, HS1.out⟩
 case round =>
  clear HB1 HS1
  obtain ⟨k, hk, rfl, hB, hU⟩ := hrel
  by_cases hlt : k < n
  · obtain ⟨x, hx⟩ : ∃ x, xs[k]? = some x := ⟨xs[k]'(by have := HL.out; omega), List.getElem?_eq_getElem _⟩
   obtain ⟨b, off, rfl, hE0⟩ := SlOf.at (cs := Nb.cells) (k := 5) H1.out (by omega)
   have hE := RowAt.later hE0 hB
   have hxt := HU.out x (List.mem_of_getElem? hx)
   obtain ⟨⟨u, s, t, up⟩, vc, vs, vw⟩ := x
   obtain ⟨a4, m4, k4, rfl⟩ := roomy_sl hxt.unit.room
   obtain ⟨a5, m5, k5, rfl⟩ := roomy_sl hxt.disk.room1
   obtain ⟨a6, m6, k6, rfl⟩ := roomy_sl hxt.disk.room2
   have y0 : wr.cell? ⟨b, off + k * 5, none⟩ = some (.int .i64 u.p) := hE k _ hx 0 _ rfl
   have y1 : wr.cell? ⟨b, off + k * 5 + 1, none⟩ = some (.slice a4 m4 k4) := hE k _ hx 1 _ rfl
   have y2 : wr.cell? ⟨b, off + k * 5 + 2, none⟩ = some (.slice a5 m5 k5) := hE k _ hx 2 _ rfl
   have y3 : wr.cell? ⟨b, off + k * 5 + 3, none⟩ = some (.slice a6 m6 k6) := hE k _ hx 3 _ rfl
   have y4 : wr.cell? ⟨b, off + k * 5 + 4, none⟩ = some (.bool up) := hE k _ hx 4 _ rfl
   have HB2 : Aside (Below w.heap.size w (wr.alloc (boxNb ⟨⟨u, s, t, up⟩, .slice a4 m4 k4, .slice a5 m5 k5, .slice a6 m6 k6⟩))) := grew hB _
   have HU2 : Aside (UnAt (wr.alloc (boxNb ⟨⟨u, s, t, up⟩, .slice a4 m4 k4, .slice a5 m5 k5, .slice a6 m6 k6⟩)) w.heap.size n k xs) := hU.later (grew (Below.refl _ _) _)
   have HXB : Aside ((wr.alloc (boxNb ⟨⟨u, s, t, up⟩, .slice a4 m4 k4, .slice a5 m5 k5, .slice a6 m6 k6⟩)).heap[wr.heap.size]? = some (boxNb ⟨⟨u, s, t, up⟩, .slice a4 m4 k4, .slice a5 m5 k5, .slice a6 m6 k6⟩)) := heap_new _ _
   have HX : Aside (xs[k]? = some ⟨⟨u, s, t, up⟩, .slice a4 m4 k4, .slice a5 m5 k5, .slice a6 m6 k6⟩) := hx
   clear hE hE0 hxt hx hB hU
   go_upto_region 5 with fail
   generalize wr.alloc (boxNb ⟨⟨u, s, t, up⟩, .slice a4 m4 k4, .slice a5 m5 k5, .slice a6 m6 k6⟩) = W at *
   generalize wr.heap.size = d at *
   have z := fun i => Joins.cell_of_block HXB.out i
   obtain ⟨⟨o1, r1⟩, ⟨o2, r2⟩, fz⟩ := HU2.out.cells hlt HL.out
   have HB3 : Aside (Below w.heap.size w ((W.setCell ⟨w.heap.size, k * 2, none⟩ (.int .i64 u.p)).setCell ⟨w.heap.size, k * 2 + 1, none⟩ (.slice a4 m4 k4))) := (HB2.out.setCell (p := ⟨w.heap.size, k * 2, none⟩) (Nat.le_refl _) _).setCell (p := ⟨w.heap.size, k * 2 + 1, none⟩) (Nat.le_refl _) _
   have HU3 : Aside (UnAt ((W.setCell ⟨w.heap.size, k * 2, none⟩ (.int .i64 u.p)).setCell ⟨w.heap.size, k * 2 + 1, none⟩ (.slice a4 m4 k4)) w.heap.size n (k + 1) xs) := by
    have := HU2.out.step hlt HX.out
    exact this
   clear y0 y1 y2 y3 y4 HB2 HU2 HX HXB
   go_wp2
   go_roundw
   case rel => exact ⟨k + 1, by omega, by go_num, HB3.out, HU3.out⟩
   case measure => simp [intOf]; omega
  · obtain rfl : k = n := by omega
   have HB2 : Aside (Below w.heap.size w wr) := hB
   have HU2 : Aside (UnAt wr w.heap.size k k xs) := hU
   clear hB hU
   go_wp2
   go_ret
   refine ⟨_, rfl, ⟨HU2.out.done HL.out, fun y hy => ?_, ⟨_, _, _, rfl, Nat.le_refl _⟩⟩, HB2.out⟩
   obtain ⟨x, hx, rfl⟩ := List.mem_map.1 hy
   exact (HU.out x hx).unit.later HB2.out
section
open scoped Classical
theorem wfollows_any (au aa : Option Addr) (cu ca : Nat) (p q : Int) (us ah : List En) (w : World) (hu : EntSl w (.slice au 60 cu) us) (ha : EntSl w (.slice aa 60 ca) ah) (lu : us.length = 60) (la : ah.length = 60) :
  Calls Tryz.prog 81 #[.agg #[.int .i64 p, .slice au 60 cu], .agg #[.int .i64 q, .slice aa 60 ca]] w fun e w' => e = .returned (.bool (decide (Within us ah))) ∧ Below w.heap.size w w' := by
 obtain ⟨bu, ou, rfl, hEu⟩ := SlOf.at (cs := En.cells) (k := 5) hu (by omega)
 obtain ⟨bv, ov, rfl, hEv⟩ := SlOf.at (cs := En.cells) (k := 5) ha (by omega)
 have HEu : Aside (RowAt En.cells 5 w bu ou us) := hEu
 have HEv : Aside (RowAt En.cells 5 w bv ov ah) := hEv
 have HL : Hid (us.length = 60 ∧ ah.length = 60) := ⟨lu, la⟩
 have HB0 : Aside (Below w.heap.size w ((w.alloc (boxU p (.slice (some ⟨bu, ou, none⟩) 60 cu))).alloc (boxU q (.slice (some ⟨bv, ov, none⟩) 60 ca)))) := grew (grew (Below.refl _ _) _) _
 have HX0 : Aside (((w.alloc (boxU p (.slice (some ⟨bu, ou, none⟩) 60 cu))).alloc (boxU q (.slice (some ⟨bv, ov, none⟩) 60 ca))).heap[w.heap.size + 1]? = some (boxU q (.slice (some ⟨bv, ov, none⟩) 60 ca))) := by
  have := heap_new (w.alloc (boxU p (.slice (some ⟨bu, ou, none⟩) 60 cu))) (boxU q (.slice (some ⟨bv, ov, none⟩) 60 ca))
  rwa [World.size_alloc] at this
 obtain ⟨bb, HBB⟩ : ∃ bb, Hid (decide (Within us ah) = bb) := ⟨_, rfl⟩
 rw [HBB.out]
 clear hu ha lu la hEu hEv
 go_enter Tryz.func81, Tryz.ntmps81
 go_wp2
 go_loopw [10] (fun i wr => ∃ k : Nat, k ≤ 60 ∧ i = .int .i64 k ∧ Below w.heap.size w wr ∧ wr.heap[w.heap.size + 1]? = some (boxU q (.slice (some ⟨bv, ov, none⟩) 60 ca)) ∧ Hid (∀ (j : Nat) (c : En), j < k → us[j]? = some c → c.isB = true ∨ ah[j]? = some c)) (fun i _ => 60 - (intOf i).toNat)
 case atStart => exact ⟨0, Nat.zero_le _, rfl, HB0.out, HX0.out, fun j c hj => absurd hj (Nat.not_lt_zero j)⟩
 case round =>
  clear HB0 HX0
  obtain ⟨k, hk, rfl, hB, hX, hst⟩ := hrel
  by_cases hlt : k < 60
  · obtain ⟨x, hx⟩ : ∃ x, us[k]? = some x := ⟨us[k]'(by have := HL.out.1; omega), List.getElem?_eq_getElem _⟩
   obtain ⟨y, hy⟩ : ∃ y, ah[k]? = some y := ⟨ah[k]'(by have := HL.out.2; omega), List.getElem?_eq_getElem _⟩
   have hE := RowAt.later HEu.out hB
   have c0 : wr.cell? ⟨bu, ou + k * 5, none⟩ = some (.int .i64 x.k) := hE k x hx 0 _ rfl
   have c1 : wr.cell? ⟨bu, ou + k * 5 + 1, none⟩ = some (.int .i64 x.j) := hE k x hx 1 _ rfl
   have c2 : wr.cell? ⟨bu, ou + k * 5 + 2, none⟩ = some (.int .i64 x.v) := hE k x hx 2 _ rfl
   have c3 : wr.cell? ⟨bu, ou + k * 5 + 3, none⟩ = some (.int .i64 x.t) := hE k x hx 3 _ rfl
   have c4 : wr.cell? ⟨bu, ou + k * 5 + 4, none⟩ = some (.int .i64 x.c) := hE k x hx 4 _ rfl
   have hB1 := grew hB (boxE x.k x.j x.v x.t x.c)
   have hF := RowAt.later HEv.out hB1
   have hX1 := heap_old hX (boxE x.k x.j x.v x.t x.c)
   have hS1 : WiS (wr.alloc (boxE x.k x.j x.v x.t x.c)) (wr.alloc (boxE x.k x.j x.v x.t x.c)) wr.heap.size (w.heap.size + 1) (.slice (some ⟨bv, ov, none⟩) 60 ca) bv ov k x y := ⟨beS_of (heap_new _ _), Joins.cell_of_block hX1 1, hF k y hy 0 _ rfl, hF k y hy 1 _ rfl, hF k y hy 2 _ rfl, hF k y hy 3 _ rfl, hF k y hy 4 _ rfl⟩
   have hn1 : ∀ W, (binOp .neq 27 (ev x.k x.j x.v x.t x.c) (ev 4 0 0 0 0)).run Tryz.prog W = .ok (.bool (!x.isB)) W := fun W => by
    rw [neq_entry x.k x.j x.v x.t x.c 4 0 0 0 0 W, En.isB, Bool.not_not]
   have hn2 := fun W => neq_entry x.k x.j x.v x.t x.c y.k y.j y.v y.t y.c W
   have HST : Hid (us[k]? = some x ∧ ah[k]? = some y ∧ ∀ (j : Nat) (c : En), j < k → us[j]? = some c → c.isB = true ∨ ah[j]? = some c) := ⟨hx, hy, hst.out⟩
   have nxt : Hid (x.isB = true ∨ ah[k]? = some x → ∀ (j : Nat) (c : En), j < k + 1 → us[j]? = some c → c.isB = true ∨ ah[j]? = some c) := fun h j c hj hc => by
    by_cases hjk : j < k
    · exact HST.out.2.2 j c hjk hc
    · obtain rfl : j = k := by omega
     obtain rfl := Option.some.inj (hc.symm.trans HST.out.1)
     exact h
   have HB1 : Aside _ := hB1
   have HX1 : Aside _ := hX1
   have hki : (k : Int) < 60 := by omega
   have hk0 : (0 : Int) ≤ (k : Int) := by omega
   clear hE hF hst hx hy hB hX hB1 hX1
   go_upto_region 4 with fail
   generalize wr.alloc (boxE x.k x.j x.v x.t x.c) = Z at *
   generalize wr.heap.size = cb at *
   clear c0 c1 c2 c3 c4
   cases hib : x.isB with
   | true =>
    rw [hib, Bool.not_true] at hn1
    have hN := nxt.out (Or.inl hib)
    have HN : Hid _ := hN
    have hS0 : BeS Z Z cb x := hS1.1
    obtain ⟨e0, e1, e2, e3, e4⟩ : Z.cell? ⟨cb, 0, none⟩ = some (.int .i64 x.k) ∧ Z.cell? ⟨cb, 1, none⟩ = some (.int .i64 x.j) ∧ Z.cell? ⟨cb, 2, none⟩ = some (.int .i64 x.v) ∧ Z.cell? ⟨cb, 3, none⟩ = some (.int .i64 x.t) ∧ Z.cell? ⟨cb, 4, none⟩ = some (.int .i64 x.c) := hS0.2
    clear nxt hib hN hS1 hn2 hS0
    go_quiet (fail)
    go_wp2
    go_roundw
    case rel => exact ⟨k + 1, by omega, by go_num, below_drewN HB1.out _, heap_below HX1.out (below_drewN (Below.refl _ _) _) (heap_lt HX1.out), HN⟩
    case measure => simp [intOf]; omega
   | false =>
    rw [hib, Bool.not_false] at hn1
    obtain ⟨⟨-, e0, e1, e2, e3, e4⟩, q0, q1, q2, q3, q4, q5⟩ := hS1
    by_cases hxy : x = y
    · rw [show unlike x.k x.j x.v x.t x.c y.k y.j y.v y.t y.c = false by rw [hxy]; simp [unlike]] at hn2
     have HN : Hid _ := nxt.out (Or.inr (by rw [HST.out.2.1, hxy]))
     clear nxt hib hxy
     go_quiet (fail)
     go_wp2
     go_roundw
     case rel => exact ⟨k + 1, by omega, by go_num, below_drewN HB1.out _, heap_below HX1.out (below_drewN (Below.refl _ _) _) (heap_lt HX1.out), HN⟩
     case measure => simp [intOf]; omega
    · rw [show unlike x.k x.j x.v x.t x.c y.k y.j y.v y.t y.c = true by rw [← Bool.not_eq_false]; exact fun h => hxy (en_eq h)] at hn2
     have HR : Hid (bb = false) := by
      rw [Hid, ← HBB.out, decide_eq_false]
      intro hw
      rcases hw k x HST.out.1 with h | h
      · rw [hib] at h; cases h
      · exact hxy (Option.some.inj (h.symm.trans HST.out.2.1))
     clear nxt hib hxy HBB
     go_quiet (fail)
     go_wp2
     go_ret
     exact ⟨by rw [HR.out]; rfl, below_drewN HB1.out _⟩
  · have HR : Hid (bb = true) := by
    rw [Hid, ← HBB.out, decide_eq_true]
    exact fun j c hc => hst.out j c (by have := (List.getElem?_eq_some_iff.1 hc).1; have := HL.out.1; omega) hc
   obtain rfl : k = 60 := by omega
   clear hst HBB
   go_wp2
   go_ret
   exact ⟨by rw [HR.out]; rfl, hB⟩
end
section
open scoped Classical
def ckN (n : Nd) : Un × Int :=
 if ckDisk n.s n.w ≠ 0 then (Un.zero, ckDisk n.s n.w) else if n.up = true ∧ 0 < n.w.length then (Un.zero, 4) else if (recD n.s []).2.2 ≠ 0 then (Un.zero, (recD n.s []).2.2)
 else if n.u.same (recD n.s []).2.1 = false then (Un.zero, 4) else ((recD n.s n.w).2.1, (recD n.s n.w).2.2)
theorem recD_len (s t : List UInt8) : (recD s t).2.1.cells = [] ∨ (recD s t).2.1.cells.length = 60 := by
 unfold recD
 by_cases h1 : ckDisk s t = 0
 · rw [if_neg (not_not_intro h1)]
  by_cases h2 : (unitOf (recovered s t).2).2 = 0
  · rw [if_neg (not_not_intro h2)]
   refine Or.inr (unitOf_sixty (l := (recovered s t).2) ?_)
   rw [← h2]
  · rw [if_pos h2]
   exact Or.inl rfl
 · rw [if_pos h1]
  exact Or.inl rfl
theorem unit_set2 {W : World} {v : Value} {u : Un} (h : UnitAt W v u) (hl : u.cells = [] ∨ u.cells.length = 60) {b : Nat} {x y : Value} {T : TypeId} (hb : W.heap[b]? = some (.cells #[x, y] T)) (u1 u2 : Value) : UnitAt ((W.setCell ⟨b, 0, none⟩ u1).setCell ⟨b, 1, none⟩ u2) v u := by
 rcases hl with hl | hl
 · refine ⟨?_, h.room⟩
  obtain ⟨a, c, rfl, _⟩ := h.ents
  rw [hl]
  exact SlOf.nil _ _
 · exact unit_off2 h hl hb _ _
theorem checkNode_at (u : Un) (s t : List UInt8) (up : Bool) (a0 a1 a2 : Option Addr) (m0 k0 m1 k1 m2 k2 : Nat) (w : World) (hL : Laid w) (hU : UnitAt w (.slice a0 m0 k0) u) (hD : DiskR w (.slice a1 m1 k1) (.slice a2 m2 k2) (s, t))
  (hn0 : u.cells.length ≤ topN) (hn1 : s.length ≤ topLen) (hn2 : t.length ≤ topLen) :
  AnsU 80 #[.agg #[.int .i64 u.p, .slice a0 m0 k0, .slice a1 m1 k1, .slice a2 m2 k2, .bool up]] w (ckN ⟨u, s, t, up⟩) := by
 have hB0 := grew (grew (Below.refl w.heap.size w) (boxNb ⟨⟨u, s, t, up⟩, .slice a0 m0 k0, .slice a1 m1 k1, .slice a2 m2 k2⟩)) (boxU 0 (.slice none 0 0))
 have HB0 : Aside (Below w.heap.size w ((w.alloc (boxNb ⟨⟨u, s, t, up⟩, .slice a0 m0 k0, .slice a1 m1 k1, .slice a2 m2 k2⟩)).alloc (boxU 0 (.slice none 0 0)))) := hB0
 have HX0 : Aside (((w.alloc (boxNb ⟨⟨u, s, t, up⟩, .slice a0 m0 k0, .slice a1 m1 k1, .slice a2 m2 k2⟩)).alloc (boxU 0 (.slice none 0 0))).heap[w.heap.size]? = some (.cells #[.int .i64 u.p, .slice a0 m0 k0, .slice a1 m1 k1, .slice a2 m2 k2, .bool up] 49)) := heap_old (heap_new _ _) _
 have HY0 : Aside (((w.alloc (boxNb ⟨⟨u, s, t, up⟩, .slice a0 m0 k0, .slice a1 m1 k1, .slice a2 m2 k2⟩)).alloc (boxU 0 (.slice none 0 0))).heap[w.heap.size + 1]? = some (.cells #[.int .i64 0, .slice none 0 0] 44)) := by
  have := heap_new (w.alloc (boxNb ⟨⟨u, s, t, up⟩, .slice a0 m0 k0, .slice a1 m1 k1, .slice a2 m2 k2⟩)) (boxU 0 (.slice none 0 0))
  rwa [World.size_alloc] at this
 have HG : Hid (∀ W, Below w.heap.size w W → Laid W ∧ UnitAt W (.slice a0 m0 k0) u ∧ DiskR W (.slice a1 m1 k1) (.slice a2 m2 k2) (s, t) ∧ DiskR W (.slice a1 m1 k1) (.slice none 0 0) (s, [])) := fun W hb => ⟨hL.later hb, hU.later hb, hD.later hb, ⟨(hD.later hb).safe, SlOf.nil _ _, hD.room1, ⟨none, 0, 0, rfl, Nat.le_refl _⟩⟩⟩
 have HM : Hid (t.length = m2) := hD.wait.len
 have HN : Hid (u.cells.length ≤ topN ∧ s.length ≤ topLen ∧ t.length ≤ topLen) := ⟨hn0, hn1, hn2⟩
 obtain ⟨R, HR⟩ : ∃ R, Hid (ckN ⟨u, s, t, up⟩ = R) := ⟨_, rfl⟩
 rw [HR.out]
 clear hL hU hD hn0 hn1 hn2 hB0
 go_enter Tryz.func80, Tryz.ntmps80
 go_upto_region 1 with fail
 generalize (w.alloc (boxNb ⟨⟨u, s, t, up⟩, .slice a0 m0 k0, .slice a1 m1 k1, .slice a2 m2 k2⟩)).alloc (boxU 0 (.slice none 0 0)) = W0 at *
 have kd := diskCheck_any (.slice a1 m1 k1) (.slice a2 m2 k2) (s, t) W0 (HG.out W0 HB0.out).1 (HG.out W0 HB0.out).2.2.1 HN.out.2.1 HN.out.2.2
 dsimp only at kd
 have z := fun i => Joins.cell_of_block HX0.out i
 obtain ⟨d, HD⟩ : ∃ d, Hid (ckDisk s t = d) := ⟨_, rfl⟩
 rw [HD.out] at kd
 go_wp2_with fail
 refine kd.mono ?_
 rintro e w1 ⟨rfl, hb1⟩
 have HB1 : Aside _ := step_below1 HB0.out hb1
 have HX1 : Aside _ := heap_below HX0.out hb1 (heap_lt HX0.out)
 have HY1 : Aside _ := heap_below HY0.out hb1 (heap_lt HY0.out)
 clear kd z HB0 HX0 HY0 hb1
 have z1 := fun i => Joins.cell_of_block HX1.out i
 have y1 := fun i => Joins.cell_of_block HY1.out i
 have f1 := fun i => Joins.unfrozen_of_block HY1.out i
 by_cases hd : d = 0
 · subst hd
  have HD0 : Hid (ckDisk s t = 0) := HD.out
  have hm0 : t.length = m2 := HM.out
  by_cases hw : up = true ∧ 0 < m2
  · obtain ⟨rfl, hw2⟩ := hw
   have hR : R = (Un.zero, 4) := by rw [← HR.out, ckN]; dsimp only; rw [if_neg (by rw [HD0.out]; simp), if_pos ⟨rfl, by rw [HM.out]; exact hw2⟩]
   subst hR
   have hwi : decide (0 < m2) = true := by rw [decide_eq_true_iff]; omega
   clear HR HD HD0 hm0
   go_wp2
   exact ret_unit (p := 2) (q := 3) Tryz.results80 rfl rfl rfl (stored_two HY1.out rfl _ _) ⟨_, rfl, unit_nil _, below_two2 HB1.out (by omega) _ _⟩
  · have hR1 : R = if (recD s []).2.2 ≠ 0 then (Un.zero, (recD s []).2.2) else if u.same (recD s []).2.1 = false then (Un.zero, 4) else ((recD s t).2.1, (recD s t).2.2) := by rw [← HR.out, ckN]; dsimp only; rw [if_neg (by rw [HD0.out]; simp), if_neg (by rw [HM.out]; exact hw)]
   have HR1 : Hid _ := hR1
   have kr := w_recovered (.slice a1 m1 k1) (.slice none 0 0) s [] w1 (HG.out w1 HB1.out).1 (HG.out w1 HB1.out).2.2.2 HN.out.2.1 (Nat.zero_le _)
   obtain ⟨⟨Q0, Q1, q⟩, HQ⟩ : ∃ q, Hid (recD s [] = q) := ⟨_, rfl⟩
   rw [HQ.out] at kr
   have hwc : up = false ∨ (up = true ∧ decide (0 < m2) = false) := by
    cases up with
    | false => exact Or.inl rfl
    | true => exact Or.inr ⟨rfl, by rw [decide_eq_false_iff_not]; intro h; exact hw ⟨rfl, by omega⟩⟩
   clear hR1 HR HD hm0 hw
   rcases hwc with rfl | ⟨rfl, hwi⟩
   · go_wp2_with fail
    refine kr.mono ?_
    rintro e w2 ⟨u1, u2, v3, rfl, hD3, hU3, hb2⟩
    dsimp only at hU3 hD3
    obtain ⟨b1, bn1, bl1, rfl⟩ := roomy_sl hD3.room1
    obtain ⟨b2, bn2, bl2, rfl⟩ := roomy_sl hD3.room2
    obtain ⟨b3, bn3, bl3, rfl⟩ := roomy_sl hU3.room
    have hBA3 : Below w2.heap.size w2 ((w2.alloc (boxD (.slice b1 bn1 bl1) (.slice b2 bn2 bl2))).alloc (boxU Q1.p (.slice b3 bn3 bl3))) := grew (grew (Below.refl _ _) _) _
    have HB3 : Aside (Below w.heap.size w ((w2.alloc (boxD (.slice b1 bn1 bl1) (.slice b2 bn2 bl2))).alloc (boxU Q1.p (.slice b3 bn3 bl3)))) := step_below1 (step_below1 HB1.out hb2) hBA3
    have HX3 : Aside (((w2.alloc (boxD (.slice b1 bn1 bl1) (.slice b2 bn2 bl2))).alloc (boxU Q1.p (.slice b3 bn3 bl3))).heap[w.heap.size]? = some (.cells #[.int .i64 u.p, .slice a0 m0 k0, .slice a1 m1 k1, .slice a2 m2 k2, .bool false] 49)) := heap_below (heap_below HX1.out hb2 (heap_lt HX1.out)) hBA3 (heap_lt (heap_below HX1.out hb2 (heap_lt HX1.out)))
    have HY3 : Aside (((w2.alloc (boxD (.slice b1 bn1 bl1) (.slice b2 bn2 bl2))).alloc (boxU Q1.p (.slice b3 bn3 bl3))).heap[w.heap.size + 1]? = some (.cells #[.int .i64 0, .slice none 0 0] 44)) := heap_below (heap_below HY1.out hb2 (heap_lt HY1.out)) hBA3 (heap_lt (heap_below HY1.out hb2 (heap_lt HY1.out)))
    have HZ3 : Aside (((w2.alloc (boxD (.slice b1 bn1 bl1) (.slice b2 bn2 bl2))).alloc (boxU Q1.p (.slice b3 bn3 bl3))).heap[w2.heap.size + 1]? = some (boxU Q1.p (.slice b3 bn3 bl3))) := by
     have := heap_new (w2.alloc (boxD (.slice b1 bn1 bl1) (.slice b2 bn2 bl2))) (boxU Q1.p (.slice b3 bn3 bl3))
     rwa [World.size_alloc] at this
    have HU3 : Aside (UnitAt ((w2.alloc (boxD (.slice b1 bn1 bl1) (.slice b2 bn2 bl2))).alloc (boxU Q1.p (.slice b3 bn3 bl3))) (.slice b3 bn3 bl3) Q1) := hU3.later hBA3
    clear hD3 hU3 hBA3 hb2 kr z1 y1 f1 HX1 HY1 HB1
    go_upto_region 7 with fail
    generalize (w2.alloc (boxD (.slice b1 bn1 bl1) (.slice b2 bn2 bl2))).alloc (boxU Q1.p (.slice b3 bn3 bl3)) = W3 at *
    generalize w2.heap.size = d3 at *
    have z3 := fun i => Joins.cell_of_block HX3.out i
    have y3 := fun i => Joins.cell_of_block HY3.out i
    have f3 := fun i => Joins.unfrozen_of_block HY3.out i
    have q3 := fun i => Joins.cell_of_block HZ3.out i
    by_cases hq : q = 0
    · subst hq
     have ks := unitSame_any (.slice a0 m0 k0) (.slice b3 bn3 bl3) u Q1 W3 (HG.out W3 HB3.out).2.1.ents HU3.out.ents HN.out.1
     obtain ⟨sb, HS⟩ : ∃ sb, Hid (decide (u = Q1) = sb) := ⟨_, rfl⟩
     rw [HS.out] at ks
     go_wp2_with fail
     refine ks.mono ?_
     rintro e w4 ⟨rfl, hb4⟩
     have HB4 : Aside _ := step_below1 HB3.out hb4
     have HX4 : Aside _ := heap_below HX3.out hb4 (heap_lt HX3.out)
     have HY4 : Aside _ := heap_below HY3.out hb4 (heap_lt HY3.out)
     clear ks z3 y3 f3 q3 HB3 HX3 HY3 HZ3 HU3 hb4
     have z4 := fun i => Joins.cell_of_block HX4.out i
     have y4 := fun i => Joins.cell_of_block HY4.out i
     have f4 := fun i => Joins.unfrozen_of_block HY4.out i
     cases sb with
     | false =>
      have hR : R = (Un.zero, 4) := by rw [HR1.out, HQ.out]; dsimp only; rw [if_neg (by simp), if_pos (by rw [← Bool.not_eq_true, Un.same_iff]; exact of_decide_eq_false HS.out)]
      subst hR
      clear HR1
      go_wp2
      exact ret_unit (p := 2) (q := 3) Tryz.results80 rfl rfl rfl (stored_two HY4.out rfl _ _) ⟨_, rfl, unit_nil _, below_two2 HB4.out (by omega) _ _⟩
     | true =>
      have kr2 := w_recovered (.slice a1 m1 k1) (.slice a2 m2 k2) s t w4 (HG.out w4 HB4.out).1 (HG.out w4 HB4.out).2.2.1 HN.out.2.1 HN.out.2.2
      obtain ⟨⟨P0, P1, p⟩, HP⟩ : ∃ q, Hid (recD s t = q) := ⟨_, rfl⟩
      have hR : R = (P1, p) := by rw [HR1.out, HQ.out, HP.out]; dsimp only; rw [if_neg (by simp), if_neg (by rw [Un.same_iff.2 (of_decide_eq_true HS.out)]; simp)]
      subst hR
      rw [HP.out] at kr2
      clear HR1
      go_wp2_with fail
      refine kr2.mono ?_
      rintro e w5 ⟨u3, u4, v4, rfl, hD6, hU6, hb5⟩
      dsimp only at hU6 hD6
      obtain ⟨c1, cn1, cl1, rfl⟩ := roomy_sl hD6.room1
      obtain ⟨c2, cn2, cl2, rfl⟩ := roomy_sl hD6.room2
      obtain ⟨c3, cn3, cl3, rfl⟩ := roomy_sl hU6.room
      have hBA6 : Below w5.heap.size w5 ((w5.alloc (boxD (.slice c1 cn1 cl1) (.slice c2 cn2 cl2))).alloc (boxU P1.p (.slice c3 cn3 cl3))) := grew (grew (Below.refl _ _) _) _
      have HB6 : Aside (Below w.heap.size w ((w5.alloc (boxD (.slice c1 cn1 cl1) (.slice c2 cn2 cl2))).alloc (boxU P1.p (.slice c3 cn3 cl3)))) := step_below1 (step_below1 HB4.out hb5) hBA6
      have HX6 : Aside (((w5.alloc (boxD (.slice c1 cn1 cl1) (.slice c2 cn2 cl2))).alloc (boxU P1.p (.slice c3 cn3 cl3))).heap[w.heap.size]? = some (.cells #[.int .i64 u.p, .slice a0 m0 k0, .slice a1 m1 k1, .slice a2 m2 k2, .bool false] 49)) := heap_below (heap_below HX4.out hb5 (heap_lt HX4.out)) hBA6 (heap_lt (heap_below HX4.out hb5 (heap_lt HX4.out)))
      have HY6 : Aside (((w5.alloc (boxD (.slice c1 cn1 cl1) (.slice c2 cn2 cl2))).alloc (boxU P1.p (.slice c3 cn3 cl3))).heap[w.heap.size + 1]? = some (.cells #[.int .i64 0, .slice none 0 0] 44)) := heap_below (heap_below HY4.out hb5 (heap_lt HY4.out)) hBA6 (heap_lt (heap_below HY4.out hb5 (heap_lt HY4.out)))
      have HZ6 : Aside (((w5.alloc (boxD (.slice c1 cn1 cl1) (.slice c2 cn2 cl2))).alloc (boxU P1.p (.slice c3 cn3 cl3))).heap[w5.heap.size + 1]? = some (boxU P1.p (.slice c3 cn3 cl3))) := by
       have := heap_new (w5.alloc (boxD (.slice c1 cn1 cl1) (.slice c2 cn2 cl2))) (boxU P1.p (.slice c3 cn3 cl3))
       rwa [World.size_alloc] at this
      have HU6 : Aside (UnitAt ((w5.alloc (boxD (.slice c1 cn1 cl1) (.slice c2 cn2 cl2))).alloc (boxU P1.p (.slice c3 cn3 cl3))) (.slice c3 cn3 cl3) P1) := hU6.later hBA6
      clear hD6 hU6 hBA6 hb5 kr2 z4 y4 f4 HX4 HY4 HB4
      go_upto_region 12 with fail
      generalize (w5.alloc (boxD (.slice c1 cn1 cl1) (.slice c2 cn2 cl2))).alloc (boxU P1.p (.slice c3 cn3 cl3)) = W6 at *
      generalize w5.heap.size = d6 at *
      have z6 := fun i => Joins.cell_of_block HX6.out i
      have y6 := fun i => Joins.cell_of_block HY6.out i
      have f6 := fun i => Joins.unfrozen_of_block HY6.out i
      have q6 := fun i => Joins.cell_of_block HZ6.out i
      go_wp2
      exact ret_unit (p := 2) (q := 3) Tryz.results80 rfl rfl rfl (stored_two HY6.out rfl _ _) ⟨_, rfl, unit_set2 HU6.out (by have := recD_len s t; rw [HP.out] at this; exact this) HY6.out _ _, below_two2 HB6.out (by omega) _ _⟩
    · have hR : R = (Un.zero, q) := by rw [HR1.out, HQ.out]; dsimp only; rw [if_pos hq]
     subst hR
     have hzq : (q != 0) = true := by rw [bne_iff_ne]; exact hq
     clear hq HR1
     go_wp2
     exact ret_unit (p := 2) (q := 3) Tryz.results80 rfl rfl rfl (stored_two HY3.out rfl _ _) ⟨_, rfl, unit_nil _, below_two2 HB3.out (by omega) _ _⟩
   · go_wp2_with fail
    refine kr.mono ?_
    rintro e w2 ⟨u1, u2, v3, rfl, hD3, hU3, hb2⟩
    dsimp only at hU3 hD3
    obtain ⟨b1, bn1, bl1, rfl⟩ := roomy_sl hD3.room1
    obtain ⟨b2, bn2, bl2, rfl⟩ := roomy_sl hD3.room2
    obtain ⟨b3, bn3, bl3, rfl⟩ := roomy_sl hU3.room
    have hBA3 : Below w2.heap.size w2 ((w2.alloc (boxD (.slice b1 bn1 bl1) (.slice b2 bn2 bl2))).alloc (boxU Q1.p (.slice b3 bn3 bl3))) := grew (grew (Below.refl _ _) _) _
    have HB3 : Aside (Below w.heap.size w ((w2.alloc (boxD (.slice b1 bn1 bl1) (.slice b2 bn2 bl2))).alloc (boxU Q1.p (.slice b3 bn3 bl3)))) := step_below1 (step_below1 HB1.out hb2) hBA3
    have HX3 : Aside (((w2.alloc (boxD (.slice b1 bn1 bl1) (.slice b2 bn2 bl2))).alloc (boxU Q1.p (.slice b3 bn3 bl3))).heap[w.heap.size]? = some (.cells #[.int .i64 u.p, .slice a0 m0 k0, .slice a1 m1 k1, .slice a2 m2 k2, .bool true] 49)) := heap_below (heap_below HX1.out hb2 (heap_lt HX1.out)) hBA3 (heap_lt (heap_below HX1.out hb2 (heap_lt HX1.out)))
    have HY3 : Aside (((w2.alloc (boxD (.slice b1 bn1 bl1) (.slice b2 bn2 bl2))).alloc (boxU Q1.p (.slice b3 bn3 bl3))).heap[w.heap.size + 1]? = some (.cells #[.int .i64 0, .slice none 0 0] 44)) := heap_below (heap_below HY1.out hb2 (heap_lt HY1.out)) hBA3 (heap_lt (heap_below HY1.out hb2 (heap_lt HY1.out)))
    have HZ3 : Aside (((w2.alloc (boxD (.slice b1 bn1 bl1) (.slice b2 bn2 bl2))).alloc (boxU Q1.p (.slice b3 bn3 bl3))).heap[w2.heap.size + 1]? = some (boxU Q1.p (.slice b3 bn3 bl3))) := by
     have := heap_new (w2.alloc (boxD (.slice b1 bn1 bl1) (.slice b2 bn2 bl2))) (boxU Q1.p (.slice b3 bn3 bl3))
     rwa [World.size_alloc] at this
    have HU3 : Aside (UnitAt ((w2.alloc (boxD (.slice b1 bn1 bl1) (.slice b2 bn2 bl2))).alloc (boxU Q1.p (.slice b3 bn3 bl3))) (.slice b3 bn3 bl3) Q1) := hU3.later hBA3
    clear hD3 hU3 hBA3 hb2 kr z1 y1 f1 HX1 HY1 HB1
    go_upto_region 7 with fail
    generalize (w2.alloc (boxD (.slice b1 bn1 bl1) (.slice b2 bn2 bl2))).alloc (boxU Q1.p (.slice b3 bn3 bl3)) = W3 at *
    generalize w2.heap.size = d3 at *
    have z3 := fun i => Joins.cell_of_block HX3.out i
    have y3 := fun i => Joins.cell_of_block HY3.out i
    have f3 := fun i => Joins.unfrozen_of_block HY3.out i
    have q3 := fun i => Joins.cell_of_block HZ3.out i
    by_cases hq : q = 0
    · subst hq
     have ks := unitSame_any (.slice a0 m0 k0) (.slice b3 bn3 bl3) u Q1 W3 (HG.out W3 HB3.out).2.1.ents HU3.out.ents HN.out.1
     obtain ⟨sb, HS⟩ : ∃ sb, Hid (decide (u = Q1) = sb) := ⟨_, rfl⟩
     rw [HS.out] at ks
     go_wp2_with fail
     refine ks.mono ?_
     rintro e w4 ⟨rfl, hb4⟩
     have HB4 : Aside _ := step_below1 HB3.out hb4
     have HX4 : Aside _ := heap_below HX3.out hb4 (heap_lt HX3.out)
     have HY4 : Aside _ := heap_below HY3.out hb4 (heap_lt HY3.out)
     clear ks z3 y3 f3 q3 HB3 HX3 HY3 HZ3 HU3 hb4
     have z4 := fun i => Joins.cell_of_block HX4.out i
     have y4 := fun i => Joins.cell_of_block HY4.out i
     have f4 := fun i => Joins.unfrozen_of_block HY4.out i
     cases sb with
     | false =>
      have hR : R = (Un.zero, 4) := by rw [HR1.out, HQ.out]; dsimp only; rw [if_neg (by simp), if_pos (by rw [← Bool.not_eq_true, Un.same_iff]; exact of_decide_eq_false HS.out)]
      subst hR
      clear HR1
      go_wp2
      exact ret_unit (p := 2) (q := 3) Tryz.results80 rfl rfl rfl (stored_two HY4.out rfl _ _) ⟨_, rfl, unit_nil _, below_two2 HB4.out (by omega) _ _⟩
     | true =>
      have kr2 := w_recovered (.slice a1 m1 k1) (.slice a2 m2 k2) s t w4 (HG.out w4 HB4.out).1 (HG.out w4 HB4.out).2.2.1 HN.out.2.1 HN.out.2.2
      obtain ⟨⟨P0, P1, p⟩, HP⟩ : ∃ q, Hid (recD s t = q) := ⟨_, rfl⟩
      have hR : R = (P1, p) := by rw [HR1.out, HQ.out, HP.out]; dsimp only; rw [if_neg (by simp), if_neg (by rw [Un.same_iff.2 (of_decide_eq_true HS.out)]; simp)]
      subst hR
      rw [HP.out] at kr2
      clear HR1
      go_wp2_with fail
      refine kr2.mono ?_
      rintro e w5 ⟨u3, u4, v4, rfl, hD6, hU6, hb5⟩
      dsimp only at hU6 hD6
      obtain ⟨c1, cn1, cl1, rfl⟩ := roomy_sl hD6.room1
      obtain ⟨c2, cn2, cl2, rfl⟩ := roomy_sl hD6.room2
      obtain ⟨c3, cn3, cl3, rfl⟩ := roomy_sl hU6.room
      have hBA6 : Below w5.heap.size w5 ((w5.alloc (boxD (.slice c1 cn1 cl1) (.slice c2 cn2 cl2))).alloc (boxU P1.p (.slice c3 cn3 cl3))) := grew (grew (Below.refl _ _) _) _
      have HB6 : Aside (Below w.heap.size w ((w5.alloc (boxD (.slice c1 cn1 cl1) (.slice c2 cn2 cl2))).alloc (boxU P1.p (.slice c3 cn3 cl3)))) := step_below1 (step_below1 HB4.out hb5) hBA6
      have HX6 : Aside (((w5.alloc (boxD (.slice c1 cn1 cl1) (.slice c2 cn2 cl2))).alloc (boxU P1.p (.slice c3 cn3 cl3))).heap[w.heap.size]? = some (.cells #[.int .i64 u.p, .slice a0 m0 k0, .slice a1 m1 k1, .slice a2 m2 k2, .bool true] 49)) := heap_below (heap_below HX4.out hb5 (heap_lt HX4.out)) hBA6 (heap_lt (heap_below HX4.out hb5 (heap_lt HX4.out)))
      have HY6 : Aside (((w5.alloc (boxD (.slice c1 cn1 cl1) (.slice c2 cn2 cl2))).alloc (boxU P1.p (.slice c3 cn3 cl3))).heap[w.heap.size + 1]? = some (.cells #[.int .i64 0, .slice none 0 0] 44)) := heap_below (heap_below HY4.out hb5 (heap_lt HY4.out)) hBA6 (heap_lt (heap_below HY4.out hb5 (heap_lt HY4.out)))
      have HZ6 : Aside (((w5.alloc (boxD (.slice c1 cn1 cl1) (.slice c2 cn2 cl2))).alloc (boxU P1.p (.slice c3 cn3 cl3))).heap[w5.heap.size + 1]? = some (boxU P1.p (.slice c3 cn3 cl3))) := by
       have := heap_new (w5.alloc (boxD (.slice c1 cn1 cl1) (.slice c2 cn2 cl2))) (boxU P1.p (.slice c3 cn3 cl3))
       rwa [World.size_alloc] at this
      have HU6 : Aside (UnitAt ((w5.alloc (boxD (.slice c1 cn1 cl1) (.slice c2 cn2 cl2))).alloc (boxU P1.p (.slice c3 cn3 cl3))) (.slice c3 cn3 cl3) P1) := hU6.later hBA6
      clear hD6 hU6 hBA6 hb5 kr2 z4 y4 f4 HX4 HY4 HB4
      go_upto_region 12 with fail
      generalize (w5.alloc (boxD (.slice c1 cn1 cl1) (.slice c2 cn2 cl2))).alloc (boxU P1.p (.slice c3 cn3 cl3)) = W6 at *
      generalize w5.heap.size = d6 at *
      have z6 := fun i => Joins.cell_of_block HX6.out i
      have y6 := fun i => Joins.cell_of_block HY6.out i
      have f6 := fun i => Joins.unfrozen_of_block HY6.out i
      have q6 := fun i => Joins.cell_of_block HZ6.out i
      go_wp2
      exact ret_unit (p := 2) (q := 3) Tryz.results80 rfl rfl rfl (stored_two HY6.out rfl _ _) ⟨_, rfl, unit_set2 HU6.out (by have := recD_len s t; rw [HP.out] at this; exact this) HY6.out _ _, below_two2 HB6.out (by omega) _ _⟩
    · have hR : R = (Un.zero, q) := by rw [HR1.out, HQ.out]; dsimp only; rw [if_pos hq]
     subst hR
     have hzq : (q != 0) = true := by rw [bne_iff_ne]; exact hq
     clear hq HR1
     go_wp2
     exact ret_unit (p := 2) (q := 3) Tryz.results80 rfl rfl rfl (stored_two HY3.out rfl _ _) ⟨_, rfl, unit_nil _, below_two2 HB3.out (by omega) _ _⟩
 · have hR : R = (Un.zero, d) := by rw [← HR.out, ckN]; dsimp only; rw [if_pos (by rw [HD.out]; exact hd), HD.out]
  subst hR
  have hz : (d != 0) = true := by rw [bne_iff_ne]; exact hd
  clear hd HR
  go_wp2
  exact ret_unit (p := 2) (q := 3) Tryz.results80 rfl rfl rfl (stored_two HY1.out rfl _ _) ⟨_, rfl, unit_nil _, below_two2 HB1.out (by omega) _ _⟩
end
end Go.Proofs.YtmoaobfmopimlafGreatDoor
