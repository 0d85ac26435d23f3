/- For the law. -/
import Derived.Test.YtmoaobfmopimlafGreatDoorM29
set_option linter.unusedSimpArgs false
set_option linter.unusedVariables false
namespace Go.Proofs.YtmoaobfmopimlafGreatDoor
open Go.RowKit
section
open scoped Classical
def ckN (n : Nd) : Un × Int :=
 if ckDisk n.s n.w ≠ 0 then (Un.zero, ckDisk n.s n.w) else if n.up = true ∧ 0 < n.w.length then (Un.zero, 4) else if (recD n.s []).2.2 ≠ 0 then (Un.zero, (recD n.s []).2.2)
 else if n.u.same (recD n.s []).2.1 = false then (Un.zero, 4) else ((recD n.s n.w).2.1, (recD n.s n.w).2.2)
theorem recD_len (s t : List UInt8) : (recD s t).2.1.cells = [] ∨ (recD s t).2.1.cells.length = 60 := by
 unfold recD
 by_cases h1 : ckDisk s t = 0
 ·rw [if_neg (not_not_intro h1)]
  by_cases h2 : (unitOf (recovered s t).2).2 = 0
  ·rw [if_neg (not_not_intro h2)]
   refine Or.inr (unitOf_sixty (l := (recovered s t).2) ?_)
   rw [← h2]
  ·rw [if_pos h2]
   exact Or.inl rfl
 ·rw [if_pos h1]
  exact Or.inl rfl
theorem unit_set2 {W : World} {v : Value} {u : Un} (h : UnitAt W v u) (hl : u.cells = [] ∨ u.cells.length = 60) {b : Nat} {x y : Value} {T : TypeId} (hb : W.heap[b]? = some (.cells #[x, y] T)) (u1 u2 : Value) : UnitAt ((W.setCell ⟨b, 0, none⟩ u1).setCell ⟨b, 1, none⟩ u2) v u := by
 rcases hl with hl | hl
 ·refine ⟨?_, h.room⟩
  obtain ⟨a, c, rfl, _⟩ := h.ents
  rw [hl]
  exact SlOf.nil _ _
 ·exact unit_off2 h hl hb _ _
set_option maxHeartbeats 4000000 in
set_option maxRecDepth 100000 in
theorem checkNode_at (u : Un) (s t : List UInt8) (up : Bool) (a0 a1 a2 : Option Addr) (m0 k0 m1 k1 m2 k2 : Nat) (w : World) (hL : Laid w) (hU : UnitAt w (.slice a0 m0 k0) u) (hD : DiskR w (.slice a1 m1 k1) (.slice a2 m2 k2) (s, t))
  (hn0 : u.cells.length ≤ topN) (hn1 : s.length ≤ topLen) (hn2 : t.length ≤ topLen) :
  AnsU 80 #[.agg #[.int .i64 u.p, .slice a0 m0 k0, .slice a1 m1 k1, .slice a2 m2 k2, .bool up]] w (ckN ⟨u, s, t, up⟩) := by
 have hB0 := grew (grew (Below.refl w.heap.size w) (boxNb ⟨⟨u, s, t, up⟩, .slice a0 m0 k0, .slice a1 m1 k1, .slice a2 m2 k2⟩)) (boxU 0 (.slice none 0 0))
 have HB0 : Aside (Below w.heap.size w ((w.alloc (boxNb ⟨⟨u, s, t, up⟩, .slice a0 m0 k0, .slice a1 m1 k1, .slice a2 m2 k2⟩)).alloc (boxU 0 (.slice none 0 0)))) := hB0
 have HX0 : Aside (((w.alloc (boxNb ⟨⟨u, s, t, up⟩, .slice a0 m0 k0, .slice a1 m1 k1, .slice a2 m2 k2⟩)).alloc (boxU 0 (.slice none 0 0))).heap[w.heap.size]? = some (.cells #[.int .i64 u.p, .slice a0 m0 k0, .slice a1 m1 k1, .slice a2 m2 k2, .bool up] 49)) := heap_old (heap_new _ _) _
 have HY0 : Aside (((w.alloc (boxNb ⟨⟨u, s, t, up⟩, .slice a0 m0 k0, .slice a1 m1 k1, .slice a2 m2 k2⟩)).alloc (boxU 0 (.slice none 0 0))).heap[w.heap.size + 1]? = some (.cells #[.int .i64 0, .slice none 0 0] 44)) := by
  have := heap_new (w.alloc (boxNb ⟨⟨u, s, t, up⟩, .slice a0 m0 k0, .slice a1 m1 k1, .slice a2 m2 k2⟩)) (boxU 0 (.slice none 0 0))
  rwa [World.size_alloc] at this
 have HG : Hid (∀ W, Below w.heap.size w W → Laid W ∧ UnitAt W (.slice a0 m0 k0) u ∧ DiskR W (.slice a1 m1 k1) (.slice a2 m2 k2) (s, t) ∧ DiskR W (.slice a1 m1 k1) (.slice none 0 0) (s, [])) := fun W hb => ⟨hL.later hb, hU.later hb, hD.later hb, ⟨(hD.later hb).safe, SlOf.nil _ _, hD.room1, ⟨none, 0, 0, rfl, Nat.le_refl _⟩⟩⟩
 have HM : Hid (t.length = m2) := hD.wait.len
 have HN : Hid (u.cells.length ≤ topN ∧ s.length ≤ topLen ∧ t.length ≤ topLen) := ⟨hn0, hn1, hn2⟩
 obtain ⟨R, HR⟩ : ∃ R, Hid (ckN ⟨u, s, t, up⟩ = R) := ⟨_, rfl⟩
 rw [HR.out]
 clear hL hU hD hn0 hn1 hn2 hB0
 go_enter Tryz.func80, Tryz.ntmps80
 go_upto_region 1 with fail
 generalize (w.alloc (boxNb ⟨⟨u, s, t, up⟩, .slice a0 m0 k0, .slice a1 m1 k1, .slice a2 m2 k2⟩)).alloc (boxU 0 (.slice none 0 0)) = W0 at *
 have kd := diskCheck_any (.slice a1 m1 k1) (.slice a2 m2 k2) (s, t) W0 (HG.out W0 HB0.out).1 (HG.out W0 HB0.out).2.2.1 HN.out.2.1 HN.out.2.2
 dsimp only at kd
 have z := cb HX0
 obtain ⟨d, HD⟩ : ∃ d, Hid (ckDisk s t = d) := ⟨_, rfl⟩
 rw [HD.out] at kd
 go_wp2_with fail
 refine kd.mono ?_
 rintro e w1 ⟨rfl, hb1⟩
 have HB1 := sb HB0 hb1
 have HX1 := hv HX0 hb1
 have HY1 := hv HY0 hb1
 clear kd z HB0 HX0 HY0 hb1
 have z1 := cb HX1
 have y1 := cb HY1
 have f1 := cf HY1
 by_cases hd : d = 0
 ·subst hd
  have HD0 : Hid (ckDisk s t = 0) := HD.out
  have hm0 : t.length = m2 := HM.out
  by_cases hw : up = true ∧ 0 < m2
  ·obtain ⟨rfl, hw2⟩ := hw
   have hR : R = (Un.zero, 4) := by rw [← HR.out, ckN]; dsimp only; rw [if_neg (by rw [HD0.out]; simp), if_pos ⟨rfl, by rw [HM.out]; exact hw2⟩]
   subst hR
   have hwi : decide (0 < m2) = true := by rw [decide_eq_true_iff]; omega
   clear HR HD HD0 hm0
   go_wp2
   exact ret_unit (p := 2) (q := 3) Tryz.results80 rfl rfl rfl (stored_two HY1.out rfl _ _) ⟨_, rfl, unit_nil _, below_two2 HB1.out (by omega) _ _⟩
  ·have hR1 : R = if (recD s []).2.2 ≠ 0 then (Un.zero, (recD s []).2.2) else if u.same (recD s []).2.1 = false then (Un.zero, 4) else ((recD s t).2.1, (recD s t).2.2) := by rw [← HR.out, ckN]; dsimp only; rw [if_neg (by rw [HD0.out]; simp), if_neg (by rw [HM.out]; exact hw)]
   have HR1 : Hid _ := hR1
   have kr := w_recovered (.slice a1 m1 k1) (.slice none 0 0) s [] w1 (HG.out w1 HB1.out).1 (HG.out w1 HB1.out).2.2.2 HN.out.2.1 (Nat.zero_le _)
   obtain ⟨⟨Q0, Q1, q⟩, HQ⟩ : ∃ q, Hid (recD s [] = q) := ⟨_, rfl⟩
   rw [HQ.out] at kr
   have hwc : up = false ∨ (up = true ∧ decide (0 < m2) = false) := by
    cases up with
    | false => exact Or.inl rfl
    | true => exact Or.inr ⟨rfl, by rw [decide_eq_false_iff_not]; intro h; exact hw ⟨rfl, by omega⟩⟩
   clear hR1 HR HD hm0 hw
   rcases hwc with rfl | ⟨rfl, hwi⟩
   ·go_wp2_with fail
    refine kr.mono ?_
    rintro e w2 ⟨u1, u2, v3, rfl, hD3, hU3, hb2⟩
    dsimp only at hU3 hD3
    obtain ⟨b1, bn1, bl1, rfl⟩ := roomy_sl hD3.room1
    obtain ⟨b2, bn2, bl2, rfl⟩ := roomy_sl hD3.room2
    obtain ⟨b3, bn3, bl3, rfl⟩ := roomy_sl hU3.room
    have hBA3 : Below w2.heap.size w2 ((w2.alloc (boxD (.slice b1 bn1 bl1) (.slice b2 bn2 bl2))).alloc (boxU Q1.p (.slice b3 bn3 bl3))) := grew (grew (Below.refl _ _) _) _
    have HB3 : Aside (Below w.heap.size w ((w2.alloc (boxD (.slice b1 bn1 bl1) (.slice b2 bn2 bl2))).alloc (boxU Q1.p (.slice b3 bn3 bl3)))) := step_below1 (step_below1 HB1.out hb2) hBA3
    have HX3 : Aside (((w2.alloc (boxD (.slice b1 bn1 bl1) (.slice b2 bn2 bl2))).alloc (boxU Q1.p (.slice b3 bn3 bl3))).heap[w.heap.size]? = some (.cells #[.int .i64 u.p, .slice a0 m0 k0, .slice a1 m1 k1, .slice a2 m2 k2, .bool false] 49)) := heap_below (heap_below HX1.out hb2 (heap_lt HX1.out)) hBA3 (heap_lt (heap_below HX1.out hb2 (heap_lt HX1.out)))
    have HY3 : Aside (((w2.alloc (boxD (.slice b1 bn1 bl1) (.slice b2 bn2 bl2))).alloc (boxU Q1.p (.slice b3 bn3 bl3))).heap[w.heap.size + 1]? = some (.cells #[.int .i64 0, .slice none 0 0] 44)) := heap_below (heap_below HY1.out hb2 (heap_lt HY1.out)) hBA3 (heap_lt (heap_below HY1.out hb2 (heap_lt HY1.out)))
    have HZ3 : Aside (((w2.alloc (boxD (.slice b1 bn1 bl1) (.slice b2 bn2 bl2))).alloc (boxU Q1.p (.slice b3 bn3 bl3))).heap[w2.heap.size + 1]? = some (boxU Q1.p (.slice b3 bn3 bl3))) := by
     have := heap_new (w2.alloc (boxD (.slice b1 bn1 bl1) (.slice b2 bn2 bl2))) (boxU Q1.p (.slice b3 bn3 bl3))
     rwa [World.size_alloc] at this
    have HU3 : Aside (UnitAt ((w2.alloc (boxD (.slice b1 bn1 bl1) (.slice b2 bn2 bl2))).alloc (boxU Q1.p (.slice b3 bn3 bl3))) (.slice b3 bn3 bl3) Q1) := hU3.later hBA3
    clear hD3 hU3 hBA3 hb2 kr z1 y1 f1 HX1 HY1 HB1
    go_upto_region 7 with fail
    generalize (w2.alloc (boxD (.slice b1 bn1 bl1) (.slice b2 bn2 bl2))).alloc (boxU Q1.p (.slice b3 bn3 bl3)) = W3 at *
    generalize w2.heap.size = d3 at *
    have z3 := cb HX3
    have y3 := cb HY3
    have f3 := cf HY3
    have q3 := cb HZ3
    by_cases hq : q = 0
    ·subst hq
     have ks := unitSame_any (.slice a0 m0 k0) (.slice b3 bn3 bl3) u Q1 W3 (HG.out W3 HB3.out).2.1.ents HU3.out.ents HN.out.1
     obtain ⟨sb, HS⟩ : ∃ sb, Hid (decide (u = Q1) = sb) := ⟨_, rfl⟩
     rw [HS.out] at ks
     go_wp2_with fail
     refine ks.mono ?_
     rintro e w4 ⟨rfl, hb4⟩
     have HB4 := sb HB3 hb4
     have HX4 := hv HX3 hb4
     have HY4 := hv HY3 hb4
     clear ks z3 y3 f3 q3 HB3 HX3 HY3 HZ3 HU3 hb4
     have z4 := cb HX4
     have y4 := cb HY4
     have f4 := cf HY4
     cases sb with
     | false =>
      have hR : R = (Un.zero, 4) := by rw [HR1.out, HQ.out]; dsimp only; rw [if_neg (by simp), if_pos (by rw [← Bool.not_eq_true, Un.same_iff]; exact of_decide_eq_false HS.out)]
      subst hR
      clear HR1
      go_wp2
      exact ret_unit (p := 2) (q := 3) Tryz.results80 rfl rfl rfl (stored_two HY4.out rfl _ _) ⟨_, rfl, unit_nil _, below_two2 HB4.out (by omega) _ _⟩
     | true =>
      have kr2 := w_recovered (.slice a1 m1 k1) (.slice a2 m2 k2) s t w4 (HG.out w4 HB4.out).1 (HG.out w4 HB4.out).2.2.1 HN.out.2.1 HN.out.2.2
      obtain ⟨⟨P0, P1, p⟩, HP⟩ : ∃ q, Hid (recD s t = q) := ⟨_, rfl⟩
      have hR : R = (P1, p) := by rw [HR1.out, HQ.out, HP.out]; dsimp only; rw [if_neg (by simp), if_neg (by rw [Un.same_iff.2 (of_decide_eq_true HS.out)]; simp)]
      subst hR
      rw [HP.out] at kr2
      clear HR1
      go_wp2_with fail
      refine kr2.mono ?_
      rintro e w5 ⟨u3, u4, v4, rfl, hD6, hU6, hb5⟩
      dsimp only at hU6 hD6
      obtain ⟨c1, cn1, cl1, rfl⟩ := roomy_sl hD6.room1
      obtain ⟨c2, cn2, cl2, rfl⟩ := roomy_sl hD6.room2
      obtain ⟨c3, cn3, cl3, rfl⟩ := roomy_sl hU6.room
      have hBA6 : Below w5.heap.size w5 ((w5.alloc (boxD (.slice c1 cn1 cl1) (.slice c2 cn2 cl2))).alloc (boxU P1.p (.slice c3 cn3 cl3))) := grew (grew (Below.refl _ _) _) _
      have HB6 : Aside (Below w.heap.size w ((w5.alloc (boxD (.slice c1 cn1 cl1) (.slice c2 cn2 cl2))).alloc (boxU P1.p (.slice c3 cn3 cl3)))) := step_below1 (step_below1 HB4.out hb5) hBA6
      have HX6 : Aside (((w5.alloc (boxD (.slice c1 cn1 cl1) (.slice c2 cn2 cl2))).alloc (boxU P1.p (.slice c3 cn3 cl3))).heap[w.heap.size]? = some (.cells #[.int .i64 u.p, .slice a0 m0 k0, .slice a1 m1 k1, .slice a2 m2 k2, .bool false] 49)) := heap_below (heap_below HX4.out hb5 (heap_lt HX4.out)) hBA6 (heap_lt (heap_below HX4.out hb5 (heap_lt HX4.out)))
      have HY6 : Aside (((w5.alloc (boxD (.slice c1 cn1 cl1) (.slice c2 cn2 cl2))).alloc (boxU P1.p (.slice c3 cn3 cl3))).heap[w.heap.size + 1]? = some (.cells #[.int .i64 0, .slice none 0 0] 44)) := heap_below (heap_below HY4.out hb5 (heap_lt HY4.out)) hBA6 (heap_lt (heap_below HY4.out hb5 (heap_lt HY4.out)))
      have HZ6 : Aside (((w5.alloc (boxD (.slice c1 cn1 cl1) (.slice c2 cn2 cl2))).alloc (boxU P1.p (.slice c3 cn3 cl3))).heap[w5.heap.size + 1]? = some (boxU P1.p (.slice c3 cn3 cl3))) := by
       have := heap_new (w5.alloc (boxD (.slice c1 cn1 cl1) (.slice c2 cn2 cl2))) (boxU P1.p (.slice c3 cn3 cl3))
       rwa [World.size_alloc] at this
      have HU6 : Aside (UnitAt ((w5.alloc (boxD (.slice c1 cn1 cl1) (.slice c2 cn2 cl2))).alloc (boxU P1.p (.slice c3 cn3 cl3))) (.slice c3 cn3 cl3) P1) := hU6.later hBA6
      clear hD6 hU6 hBA6 hb5 kr2 z4 y4 f4 HX4 HY4 HB4
      go_upto_region 12 with fail
      generalize (w5.alloc (boxD (.slice c1 cn1 cl1) (.slice c2 cn2 cl2))).alloc (boxU P1.p (.slice c3 cn3 cl3)) = W6 at *
      generalize w5.heap.size = d6 at *
      have z6 := cb HX6
      have y6 := cb HY6
      have f6 := cf HY6
      have q6 := cb HZ6
      go_wp2
      exact ret_unit (p := 2) (q := 3) Tryz.results80 rfl rfl rfl (stored_two HY6.out rfl _ _) ⟨_, rfl, unit_set2 HU6.out (by have := recD_len s t; rw [HP.out] at this; exact this) HY6.out _ _, below_two2 HB6.out (by omega) _ _⟩
    ·have hR : R = (Un.zero, q) := by rw [HR1.out, HQ.out]; dsimp only; rw [if_pos hq]
     subst hR
     have hzq : (q != 0) = true := by rw [bne_iff_ne]; exact hq
     clear hq HR1
     go_wp2
     exact ret_unit (p := 2) (q := 3) Tryz.results80 rfl rfl rfl (stored_two HY3.out rfl _ _) ⟨_, rfl, unit_nil _, below_two2 HB3.out (by omega) _ _⟩
   ·go_wp2_with fail
    refine kr.mono ?_
    rintro e w2 ⟨u1, u2, v3, rfl, hD3, hU3, hb2⟩
    dsimp only at hU3 hD3
    obtain ⟨b1, bn1, bl1, rfl⟩ := roomy_sl hD3.room1
    obtain ⟨b2, bn2, bl2, rfl⟩ := roomy_sl hD3.room2
    obtain ⟨b3, bn3, bl3, rfl⟩ := roomy_sl hU3.room
    have hBA3 : Below w2.heap.size w2 ((w2.alloc (boxD (.slice b1 bn1 bl1) (.slice b2 bn2 bl2))).alloc (boxU Q1.p (.slice b3 bn3 bl3))) := grew (grew (Below.refl _ _) _) _
    have HB3 : Aside (Below w.heap.size w ((w2.alloc (boxD (.slice b1 bn1 bl1) (.slice b2 bn2 bl2))).alloc (boxU Q1.p (.slice b3 bn3 bl3)))) := step_below1 (step_below1 HB1.out hb2) hBA3
    have HX3 : Aside (((w2.alloc (boxD (.slice b1 bn1 bl1) (.slice b2 bn2 bl2))).alloc (boxU Q1.p (.slice b3 bn3 bl3))).heap[w.heap.size]? = some (.cells #[.int .i64 u.p, .slice a0 m0 k0, .slice a1 m1 k1, .slice a2 m2 k2, .bool true] 49)) := heap_below (heap_below HX1.out hb2 (heap_lt HX1.out)) hBA3 (heap_lt (heap_below HX1.out hb2 (heap_lt HX1.out)))
    have HY3 : Aside (((w2.alloc (boxD (.slice b1 bn1 bl1) (.slice b2 bn2 bl2))).alloc (boxU Q1.p (.slice b3 bn3 bl3))).heap[w.heap.size + 1]? = some (.cells #[.int .i64 0, .slice none 0 0] 44)) := heap_below (heap_below HY1.out hb2 (heap_lt HY1.out)) hBA3 (heap_lt (heap_below HY1.out hb2 (heap_lt HY1.out)))
    have HZ3 : Aside (((w2.alloc (boxD (.slice b1 bn1 bl1) (.slice b2 bn2 bl2))).alloc (boxU Q1.p (.slice b3 bn3 bl3))).heap[w2.heap.size + 1]? = some (boxU Q1.p (.slice b3 bn3 bl3))) := by
     have := heap_new (w2.alloc (boxD (.slice b1 bn1 bl1) (.slice b2 bn2 bl2))) (boxU Q1.p (.slice b3 bn3 bl3))
     rwa [World.size_alloc] at this
    have HU3 : Aside (UnitAt ((w2.alloc (boxD (.slice b1 bn1 bl1) (.slice b2 bn2 bl2))).alloc (boxU Q1.p (.slice b3 bn3 bl3))) (.slice b3 bn3 bl3) Q1) := hU3.later hBA3
    clear hD3 hU3 hBA3 hb2 kr z1 y1 f1 HX1 HY1 HB1
    go_upto_region 7 with fail
    generalize (w2.alloc (boxD (.slice b1 bn1 bl1) (.slice b2 bn2 bl2))).alloc (boxU Q1.p (.slice b3 bn3 bl3)) = W3 at *
    generalize w2.heap.size = d3 at *
    have z3 := cb HX3
    have y3 := cb HY3
    have f3 := cf HY3
    have q3 := cb HZ3
    by_cases hq : q = 0
    ·subst hq
     have ks := unitSame_any (.slice a0 m0 k0) (.slice b3 bn3 bl3) u Q1 W3 (HG.out W3 HB3.out).2.1.ents HU3.out.ents HN.out.1
     obtain ⟨sb, HS⟩ : ∃ sb, Hid (decide (u = Q1) = sb) := ⟨_, rfl⟩
     rw [HS.out] at ks
     go_wp2_with fail
     refine ks.mono ?_
     rintro e w4 ⟨rfl, hb4⟩
     have HB4 := sb HB3 hb4
     have HX4 := hv HX3 hb4
     have HY4 := hv HY3 hb4
     clear ks z3 y3 f3 q3 HB3 HX3 HY3 HZ3 HU3 hb4
     have z4 := cb HX4
     have y4 := cb HY4
     have f4 := cf HY4
     cases sb with
     | false =>
      have hR : R = (Un.zero, 4) := by rw [HR1.out, HQ.out]; dsimp only; rw [if_neg (by simp), if_pos (by rw [← Bool.not_eq_true, Un.same_iff]; exact of_decide_eq_false HS.out)]
      subst hR
      clear HR1
      go_wp2
      exact ret_unit (p := 2) (q := 3) Tryz.results80 rfl rfl rfl (stored_two HY4.out rfl _ _) ⟨_, rfl, unit_nil _, below_two2 HB4.out (by omega) _ _⟩
     | true =>
      have kr2 := w_recovered (.slice a1 m1 k1) (.slice a2 m2 k2) s t w4 (HG.out w4 HB4.out).1 (HG.out w4 HB4.out).2.2.1 HN.out.2.1 HN.out.2.2
      obtain ⟨⟨P0, P1, p⟩, HP⟩ : ∃ q, Hid (recD s t = q) := ⟨_, rfl⟩
      have hR : R = (P1, p) := by rw [HR1.out, HQ.out, HP.out]; dsimp only; rw [if_neg (by simp), if_neg (by rw [Un.same_iff.2 (of_decide_eq_true HS.out)]; simp)]
      subst hR
      rw [HP.out] at kr2
      clear HR1
      go_wp2_with fail
      refine kr2.mono ?_
      rintro e w5 ⟨u3, u4, v4, rfl, hD6, hU6, hb5⟩
      dsimp only at hU6 hD6
      obtain ⟨c1, cn1, cl1, rfl⟩ := roomy_sl hD6.room1
      obtain ⟨c2, cn2, cl2, rfl⟩ := roomy_sl hD6.room2
      obtain ⟨c3, cn3, cl3, rfl⟩ := roomy_sl hU6.room
      have hBA6 : Below w5.heap.size w5 ((w5.alloc (boxD (.slice c1 cn1 cl1) (.slice c2 cn2 cl2))).alloc (boxU P1.p (.slice c3 cn3 cl3))) := grew (grew (Below.refl _ _) _) _
      have HB6 : Aside (Below w.heap.size w ((w5.alloc (boxD (.slice c1 cn1 cl1) (.slice c2 cn2 cl2))).alloc (boxU P1.p (.slice c3 cn3 cl3)))) := step_below1 (step_below1 HB4.out hb5) hBA6
      have HX6 : Aside (((w5.alloc (boxD (.slice c1 cn1 cl1) (.slice c2 cn2 cl2))).alloc (boxU P1.p (.slice c3 cn3 cl3))).heap[w.heap.size]? = some (.cells #[.int .i64 u.p, .slice a0 m0 k0, .slice a1 m1 k1, .slice a2 m2 k2, .bool true] 49)) := heap_below (heap_below HX4.out hb5 (heap_lt HX4.out)) hBA6 (heap_lt (heap_below HX4.out hb5 (heap_lt HX4.out)))
      have HY6 : Aside (((w5.alloc (boxD (.slice c1 cn1 cl1) (.slice c2 cn2 cl2))).alloc (boxU P1.p (.slice c3 cn3 cl3))).heap[w.heap.size + 1]? = some (.cells #[.int .i64 0, .slice none 0 0] 44)) := heap_below (heap_below HY4.out hb5 (heap_lt HY4.out)) hBA6 (heap_lt (heap_below HY4.out hb5 (heap_lt HY4.out)))
      have HZ6 : Aside (((w5.alloc (boxD (.slice c1 cn1 cl1) (.slice c2 cn2 cl2))).alloc (boxU P1.p (.slice c3 cn3 cl3))).heap[w5.heap.size + 1]? = some (boxU P1.p (.slice c3 cn3 cl3))) := by
       have := heap_new (w5.alloc (boxD (.slice c1 cn1 cl1) (.slice c2 cn2 cl2))) (boxU P1.p (.slice c3 cn3 cl3))
       rwa [World.size_alloc] at this
      have HU6 : Aside (UnitAt ((w5.alloc (boxD (.slice c1 cn1 cl1) (.slice c2 cn2 cl2))).alloc (boxU P1.p (.slice c3 cn3 cl3))) (.slice c3 cn3 cl3) P1) := hU6.later hBA6
      clear hD6 hU6 hBA6 hb5 kr2 z4 y4 f4 HX4 HY4 HB4
      go_upto_region 12 with fail
      generalize (w5.alloc (boxD (.slice c1 cn1 cl1) (.slice c2 cn2 cl2))).alloc (boxU P1.p (.slice c3 cn3 cl3)) = W6 at *
      generalize w5.heap.size = d6 at *
      have z6 := cb HX6
      have y6 := cb HY6
      have f6 := cf HY6
      have q6 := cb HZ6
      go_wp2
      exact ret_unit (p := 2) (q := 3) Tryz.results80 rfl rfl rfl (stored_two HY6.out rfl _ _) ⟨_, rfl, unit_set2 HU6.out (by have := recD_len s t; rw [HP.out] at this; exact this) HY6.out _ _, below_two2 HB6.out (by omega) _ _⟩
    ·have hR : R = (Un.zero, q) := by rw [HR1.out, HQ.out]; dsimp only; rw [if_pos hq]
     subst hR
     have hzq : (q != 0) = true := by rw [bne_iff_ne]; exact hq
     clear hq HR1
     go_wp2
     exact ret_unit (p := 2) (q := 3) Tryz.results80 rfl rfl rfl (stored_two HY3.out rfl _ _) ⟨_, rfl, unit_nil _, below_two2 HB3.out (by omega) _ _⟩
 ·have hR : R = (Un.zero, d) := by rw [← HR.out, ckN]; dsimp only; rw [if_pos (by rw [HD.out]; exact hd), HD.out]
  subst hR
  have hz : (d != 0) = true := by rw [bne_iff_ne]; exact hd
  clear hd HR
  go_wp2
  exact ret_unit (p := 2) (q := 3) Tryz.results80 rfl rfl rfl (stored_two HY1.out rfl _ _) ⟨_, rfl, unit_nil _, below_two2 HB1.out (by omega) _ _⟩
end
end Go.Proofs.YtmoaobfmopimlafGreatDoor
