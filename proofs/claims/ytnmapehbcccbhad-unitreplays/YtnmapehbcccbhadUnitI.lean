/- The walks of UnitReplays and UnitSays, given package unit's contracts. -/
import Derived.Test.YtnmapehbcccbhadUnitG
import Derived.Test.YtnmapehbcccbhadUnitH
import Derived.Deep.RegionHeld3
namespace Go.Proofs.Ytnmapehbcccbhad
open Go.RowKit
open scoped Classical

theorem unext_len (u : Un) (r : Rc) : (unext u r).1.cells.length ≤ topN := by
  by_cases h : (unext u r).2 = 0
  · rw [(Un.ck_zero.1 (unext_ck h)).2.1]; decide
  · have e : (unext u r).1 = Un.zero := by
      unfold unext at h ⊢
      split
      · rfl
      · rename_i h1
        rw [if_neg h1] at h
        split
        · rfl
        · rename_i h2
          rw [if_neg h2] at h
          unfold uwrite at h ⊢
          split
          · rename_i hk
            rw [if_pos hk] at h
            split
            · rfl
            · rename_i hp
              rw [if_neg hp] at h
              exact absurd rfl h
          · rename_i hk
            rw [if_neg hk] at h
            split
            · rfl
            · rename_i hp
              rw [if_neg hp] at h
              exact absurd rfl h
    rw [e]; decide

theorem ufold_len : ∀ (l : List Rc) (u : Un), u.cells.length ≤ topN → (ufold u l).1.cells.length ≤ topN
  | [], _, h => h
  | r :: l, u, _ => by
    rw [ufold]
    split
    · exact Nat.zero_le _
    · exact ufold_len l _ (unext_len u r)

theorem unitOf_len (l : List Rc) : (unitOf l).1.cells.length ≤ topN := by
  unfold unitOf
  split
  · exact Nat.zero_le _
  · exact ufold_len l unew (by decide)

set_option maxHeartbeats 4000000 in
set_option maxRecDepth 100000 in
theorem unitReplays_any (hK : Units) (v : Value) (rs : List Rc) (w : World) (hv : RecSl w v rs) (hr : Roomy v) (hn : rs.length ≤ topN) :
    Calls Try.prog 4 #[v] w fun e w' => e = .returned (.bool true) ∧ Below w.heap.size w w' := by
  obtain ⟨a, n, c, rfl, _⟩ := id hr
  have k1 := hK.replay _ rs w hv hr hn
  have k2 := fun W (hb : Below w.heap.size w W) => ref_unitOf _ rs W (hv.later hb)
  have k3 := fun W => stood_any hK W
  have hlen := unitOf_len rs
  obtain ⟨⟨u, f⟩, hu⟩ : ∃ q, unitOf rs = q := ⟨_, rfl⟩
  rw [hu] at k1 k2 hlen
  change u.cells.length ≤ topN at hlen
  have HLEN : Aside (u.cells.length ≤ topN) := hlen
  clear hK hv hr hn hu hlen
  go_enter Try.func4, Try.ntmps4
  go_wp2_with fail
  refine k1.mono ?_
  rintro e w1 ⟨v1, rfl, hU1, hb1⟩
  obtain ⟨a1, n1, c1, rfl, _⟩ := id hU1.room
  have hB1 : Below w.heap.size w (w1.alloc (boxU u.p (.slice a1 n1 c1))) := grew hb1 _
  have HX1 : Aside ((w1.alloc (boxU u.p (.slice a1 n1 c1))).heap[w1.heap.size]? = some (boxU u.p (.slice a1 n1 c1))) := heap_new _ _
  have HU1 : Aside (UnitAt (w1.alloc (boxU u.p (.slice a1 n1 c1))) (.slice a1 n1 c1) u) := hU1.later (grew (Below.refl _ _) _)
  have k2' := k2 _ hB1
  have HB1 : Aside _ := hB1
  clear k1 hU1 hb1 k2 hB1
  go_wp2_with fail
  refine k2'.mono ?_
  rintro e w2 ⟨v2, rfl, hU2, hb2⟩
  obtain ⟨a2, n2, c2, rfl, _⟩ := id hU2.room
  have HX2 : Aside ((w2.alloc (boxU u.p (.slice a2 n2 c2))).heap[w1.heap.size]? = some (boxU u.p (.slice a1 n1 c1))) := heap_old (heap_below HX1.out hb2 (heap_lt HX1.out)) _
  have HU2 : Aside (UnitAt (w2.alloc (boxU u.p (.slice a2 n2 c2))) (.slice a1 n1 c1) u) := HU1.out.later (grew hb2 _)
  have HY2 : Aside ((w2.alloc (boxU u.p (.slice a2 n2 c2))).heap[w2.heap.size]? = some (boxU u.p (.slice a2 n2 c2))) := heap_new _ _
  have HV2 : Aside (UnitAt (w2.alloc (boxU u.p (.slice a2 n2 c2))) (.slice a2 n2 c2) u) := hU2.later (grew (Below.refl _ _) _)
  have HB2 : Aside (Below w.heap.size w (w2.alloc (boxU u.p (.slice a2 n2 c2)))) := grew (step_below1 HB1.out hb2) _
  clear k2' hU2 hb2 HX1 HU1 HB1
  go_wp2_with fail
  refine (k3 _).mono ?_
  rintro e w3 ⟨rfl, hb3⟩
  have x3 := heap_below HX2.out hb3 (heap_lt HX2.out)
  have y3 := heap_below HY2.out hb3 (heap_lt HY2.out)
  have k4 := ref_sameUnit _ _ u u w3 (HU2.out.later hb3).ents (HV2.out.later hb3).ents HLEN.out
  rw [decide_eq_true rfl] at k4
  have HB3 : Aside (Below w.heap.size w w3) := step_below1 HB2.out hb3
  have z0 : ∀ i, w3.cell? ⟨w1.heap.size, i, none⟩ = #[Value.int .i64 u.p, .slice a1 n1 c1][i]? := fun i => Joins.cell_of_block x3 i
  have z1 : ∀ i, w3.cell? ⟨w2.heap.size, i, none⟩ = #[Value.int .i64 u.p, .slice a2 n2 c2][i]? := fun i => Joins.cell_of_block y3 i
  clear k3 hb3 x3 y3 HX2 HU2 HY2 HV2 HB2
  go_wp2_with fail
  refine k4.mono ?_
  rintro e w4 ⟨rfl, hb4⟩
  have HB4 : Aside (Below w.heap.size w w4) := step_below1 HB3.out hb4
  clear k4 hb4 HB3 z0 z1
  go_wp2
  go_ret
  exact ⟨rfl, HB4.out⟩

/-- What UnitSays' guards read. -/
abbrev UsS (P : World → Prop) (W : World) (b g h j : Nat) (p q x y : Int) (s t v z : Value) : Prop :=
  P W ∧ W.cell? ⟨b, 0, none⟩ = some (.int .i64 p) ∧ W.cell? ⟨b, 1, none⟩ = some s ∧ W.cell? ⟨g, 0, none⟩ = some (.int .i64 q) ∧ W.cell? ⟨g, 1, none⟩ = some t ∧ W.cell? ⟨h, 0, none⟩ = some (.int .i64 x) ∧ W.cell? ⟨h, 1, none⟩ = some v ∧ W.cell? ⟨j, 0, none⟩ = some (.int .i64 y) ∧ W.cell? ⟨j, 1, none⟩ = some z
theorem usS_step {P : World → Prop} (hP : ∀ W W', P W → Below W.heap.size W W' → P W') {W W' : World} {b g h j : Nat} {p q x y : Int} {s t v z : Value} (k : UsS P W b g h j p q x y s t v z) (hb : Below W.heap.size W W') : UsS P W' b g h j p q x y s t v z :=
  ⟨hP _ _ k.1 hb, cell_later hb k.2.1, cell_later hb k.2.2.1, cell_later hb k.2.2.2.1, cell_later hb k.2.2.2.2.1, cell_later hb k.2.2.2.2.2.1, cell_later hb k.2.2.2.2.2.2.1, cell_later hb k.2.2.2.2.2.2.2.1, cell_later hb k.2.2.2.2.2.2.2.2⟩
theorem usS_P {P : World → Prop} {W : World} {b g h j : Nat} {p q x y : Int} {s t v z : Value} (k : UsS P W b g h j p q x y s t v z) : P W := k.1

set_option linter.unusedSimpArgs false in
set_option maxHeartbeats 8000000 in
set_option maxRecDepth 100000 in
theorem unitSays_any (hK : Units) (v vx : Value) (u x : Un) (r : Rc) (w : World) (hU : UnitAt w v u) (hX : UnitAt w vx x) (hn : u.cells.length ≤ topN) (hnx : x.cells.length ≤ topN) :
    Calls Try.prog 3 #[.agg #[.int .i64 u.p, v], r.val, .agg #[.int .i64 x.p, vx]] w fun e w' => e = .returned (.bool true) ∧ Below w.heap.size w w' := by
  obtain ⟨a, n, c, rfl, _⟩ := id hU.room
  obtain ⟨ax, nx, cx, rfl, _⟩ := id hX.room
  have hB0 := grew (grew (grew (Below.refl w.heap.size w) (boxU u.p (.slice a n c))) (boxRc r)) (boxU x.p (.slice ax nx cx))
  have e1 := heap_old (heap_old (heap_new w (boxU u.p (.slice a n c))) (boxRc r)) (boxU x.p (.slice ax nx cx))
  have e2 := heap_old (heap_new (w.alloc (boxU u.p (.slice a n c))) (boxRc r)) (boxU x.p (.slice ax nx cx))
  have e3 := heap_new ((w.alloc (boxU u.p (.slice a n c))).alloc (boxRc r)) (boxU x.p (.slice ax nx cx))
  simp only [World.size_alloc] at e2 e3
  have k1 := hK.next _ u r _ (hU.later hB0) hn
  have k2 := fun W (hb : Below w.heap.size w W) => ref_next _ u r W (hU.later hb)
  have hlen := unext_len u r
  obtain ⟨⟨u2, f⟩, hu⟩ : ∃ q, unext u r = q := ⟨_, rfl⟩
  rw [hu] at k1 k2 hlen
  change u2.cells.length ≤ topN at hlen
  have HE1 : Aside _ := e1
  have HE2 : Aside _ := e2
  have HE3 : Aside _ := e3
  have HB0 : Aside _ := hB0
  have HN : Aside (u.cells.length ≤ topN ∧ x.cells.length ≤ topN ∧ u2.cells.length ≤ topN) := ⟨hn, hnx, hlen⟩
  have HU : Aside (∀ W, Below w.heap.size w W → UnitAt W (.slice a n c) u) := fun W hb => hU.later hb
  have HX : Aside (∀ W, Below w.heap.size w W → UnitAt W (.slice ax nx cx) x) := fun W hb => hX.later hb
  have HK : Aside Units := hK
  clear hK hU hX hn hnx hu hlen e1 e2 e3 hB0
  go_enter Try.func3, Try.ntmps3
  go_wp2_with fail
  refine k1.mono ?_
  rintro e w1 ⟨v1, rfl, hU1, hb1⟩
  obtain ⟨a1, n1, c1, rfl, _⟩ := id hU1.room
  have hbb := grew hb1 (boxU u2.p (.slice a1 n1 c1))
  have F1 := heap_below HE1.out hbb (heap_lt HE1.out)
  have F2 := heap_below HE2.out hbb (heap_lt HE2.out)
  have F3 := heap_below HE3.out hbb (heap_lt HE3.out)
  have F4 := heap_new w1 (boxU u2.p (.slice a1 n1 c1))
  have hB1 := step_below1 HB0.out hbb
  have hU1' := hU1.later (grew (Below.refl w1.heap.size w1) (boxU u2.p (.slice a1 n1 c1)))
  have k2' := k2 _ hB1
  have z1 : ∀ i, (w1.alloc (boxU u2.p (.slice a1 n1 c1))).cell? ⟨w.heap.size, i, none⟩ = #[Value.int .i64 u.p, .slice a n c][i]? := fun i => Joins.cell_of_block F1 i
  have z2 : ∀ i, (w1.alloc (boxU u2.p (.slice a1 n1 c1))).cell? ⟨w.heap.size + 1, i, none⟩ = #[Value.int .i64 r.k, .int .i64 r.a, .int .i64 r.p, .int .i64 r.e.k, .int .i64 r.e.j, .int .i64 r.e.v, .int .i64 r.e.t, .int .i64 r.e.c][i]? := fun i => Joins.cell_of_block F2 i
  have HF1 : Aside _ := F1
  have HF3 : Aside _ := F3
  have HF4 : Aside _ := F4
  have HB1 : Aside _ := hB1
  have HU1 : Aside _ := hU1'
  clear k1 k2 hU1 hb1 hbb F1 F2 F3 F4 hB1 hU1' HE1 HE2 HE3 HB0
  go_upto_region 2 with fail
  generalize w1.alloc (boxU u2.p (.slice a1 n1 c1)) = X1 at *
  generalize w1.heap.size = B1 at *
  go_wp2_with fail
  refine k2'.mono ?_
  rintro e w2 ⟨v2, rfl, hU2, hb2⟩
  obtain ⟨a2, n2, c2, rfl, _⟩ := id hU2.room
  have hbb := grew hb2 (boxU u2.p (.slice a2 n2 c2))
  have F1 := heap_below HF1.out hbb (heap_lt HF1.out)
  have F3 := heap_below HF3.out hbb (heap_lt HF3.out)
  have F4 := heap_below HF4.out hbb (heap_lt HF4.out)
  have F5 := heap_new w2 (boxU u2.p (.slice a2 n2 c2))
  have hU5 := hU2.later (grew (Below.refl w2.heap.size w2) (boxU u2.p (.slice a2 n2 c2)))
  have hU4 := HU1.out.later hbb
  have HB2 : Aside (Below w.heap.size w _) := step_below1 HB1.out hbb
  clear k2' hU2 hb2 hbb z1 z2 HF1 HF3 HF4 HB1 HU1
  go_upto_region 3 with fail
  generalize w2.alloc (boxU u2.p (.slice a2 n2 c2)) = Y at *
  generalize w2.heap.size = B2 at *
  have ws := fun W (_ : Below Y.heap.size Y W) => stood_any HK.out W
  have below := fun W (h : Below Y.heap.size Y W) => HB2.out.trans (h.mono HB2.out.size)
  have BL : Aside _ := below
  have wc := fun W (h : Below Y.heap.size Y W) => HK.out.check _ u W (HU.out W (BL.out W h)) HN.out.1
  have rc := fun W (h : Below Y.heap.size Y W) => ref_ckUnit _ u W (HU.out W (BL.out W h)).ents
  have wm := fun W (h : Below Y.heap.size Y W) => HK.out.same _ _ u x W (HU.out W (BL.out W h)) (HX.out W (BL.out W h)) HN.out.1 HN.out.2.1
  have rm := fun W (h : Below Y.heap.size Y W) => ref_sameUnit _ _ u x W (HU.out W (BL.out W h)).ents (HX.out W (BL.out W h)).ents HN.out.1
  have wt := fun W (h : Below Y.heap.size Y W) => HK.out.tail _ u W (HU.out W (BL.out W h)) HN.out.1
  have rt := fun W (h : Below Y.heap.size Y W) => ref_tail _ u W (HU.out W (BL.out W h)).ents HN.out.1
  have wn := HK.out.new
  have rn := fun W => ref_fresh W
  have ns : ∀ v v' W, UnitAt W v unew → UnitAt W v' unew → Calls Try.prog 10 #[.agg #[.int .i64 1, v], .agg #[.int .i64 1, v']] W fun e w' => e = .returned (.bool true) ∧ Below W.heap.size W w' := fun v v' W h h' => by
    have := HK.out.same v v' unew unew W h h' (by decide) (by decide)
    rw [decide_eq_true rfl] at this
    exact this
  have rs2 := fun W (h : Below Y.heap.size Y W) => ref_sameUnit _ _ u2 u2 W (hU4.later h).ents (hU5.later h).ents HN.out.2.2
  rw [decide_eq_true rfl] at rs2
  generalize decide (u = x) = d1 at *
  generalize u.ck = d2 at *
  generalize tailOf u.cells = d3 at *
  have hS0 : UsS (fun W => Below Y.heap.size Y W) Y w.heap.size (w.heap.size + 1 + 1) B1 B2 u.p x.p u2.p u2.p (.slice a n c) (.slice ax nx cx) (.slice a1 n1 c1) (.slice a2 n2 c2) := ⟨Below.refl _ _, Joins.cell_of_block F1 0, Joins.cell_of_block F1 1, Joins.cell_of_block F3 0, Joins.cell_of_block F3 1, Joins.cell_of_block F4 0, Joins.cell_of_block F4 1, Joins.cell_of_block F5 0, Joins.cell_of_block F5 1⟩
  have hbd : Below Y.heap.size Y Y.drew := (Below.refl _ _).drew
  clear F1 F3 F4 F5 hU4 hU5 below HU HX
  go_region_held3 (fun w' => UsS (fun W => Below Y.heap.size Y W) w' w.heap.size (w.heap.size + 1 + 1) B1 B2 u.p x.p u2.p u2.p (.slice a n c) (.slice ax nx cx) (.slice a1 n1 c1) (.slice a2 n2 c2)) (exact usS_step (fun _ _ h hb => h.trans (hb.mono h.size)) (by assumption) (by assumption)) (first | (go_at_call 7; refine (ws _ (usS_P (by assumption))).mono ?_; rintro e x1 ⟨rfl, hx1⟩) | (go_at_call 8; refine (wc _ (usS_P (by assumption))).mono ?_; rintro e x2 ⟨rfl, hx2⟩) | (go_at_call 9; refine (rc _ (usS_P (by assumption))).mono ?_; rintro e x3 ⟨rfl, hx3⟩) | (go_at_call 10; (first | (with_reducible refine (wm _ (usS_P (by assumption))).mono ?_; rintro e x4 ⟨rfl, hx4⟩) | (with_reducible refine (ns _ _ _ (by assumption) (by assumption)).mono ?_; rintro e x10 ⟨rfl, hx10⟩))) | (go_at_call 11; (first | (with_reducible refine (rm _ (usS_P (by assumption))).mono ?_; rintro e x5 ⟨rfl, hx5⟩) | (with_reducible refine (rs2 _ (usS_P (by assumption))).mono ?_; rintro e x11 ⟨rfl, hx11⟩))) | (go_at_call 12; refine (wt _ (usS_P (by assumption))).mono ?_; rintro e x6 ⟨rfl, hx6⟩) | (go_at_call 13; refine (rt _ (usS_P (by assumption))).mono ?_; rintro e x7 ⟨rfl, hx7⟩) | (go_at_call 14; refine (wn _).mono ?_; rintro e x8 ⟨vn, rfl, hn8, hx8⟩) | (go_at_call 15; refine (rn _).mono ?_; rintro e x9 ⟨vf, rfl, hf9, hx9⟩; have hn9 := hn8.later hx9))
  all_goals
    rename_i hS
    have HBE : Aside (Below w.heap.size w _) := BL.out _ hS.1
    clear hS
    go_wp2
    go_ret
    exact ⟨by simp, HBE.out⟩

end Go.Proofs.Ytnmapehbcccbhad
