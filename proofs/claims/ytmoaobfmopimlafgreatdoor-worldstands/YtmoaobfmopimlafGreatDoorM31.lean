/- For the law. -/
import Derived.Test.YtmoaobfmopimlafGreatDoorM30
set_option linter.unusedSimpArgs false
set_option linter.unusedVariables false
namespace Go.Proofs.YtmoaobfmopimlafGreatDoor
open Go.RowKit
section
open scoped Classical
theorem w_checkNode (x : Nb) (w : World) (hL : Laid w) (h : NodeT w x) (hn0 : x.n.u.cells.length ≤ topN) (hn1 : x.n.s.length ≤ topLen) (hn2 : x.n.w.length ≤ topLen) : AnsU 80 #[x.val] w (ckN x.n) := by
 obtain ⟨⟨u, s, t, up⟩, vc, vs, vw⟩ := x
 obtain ⟨a0, m0, k0, e0⟩ := roomy_sl h.unit.room
 obtain ⟨a1, m1, k1, e1⟩ := roomy_sl h.disk.room1
 obtain ⟨a2, m2, k2, e2⟩ := roomy_sl h.disk.room2
 dsimp only at e0 e1 e2
 subst e0 e1 e2
 exact checkNode_at u s t up a0 a1 a2 m0 k0 m1 k1 m2 k2 w hL h.unit h.disk hn0 hn1 hn2
theorem ckN_err (n : Nd) : (ckN n).2 = n.ck := by
 unfold ckN Nd.ck
 by_cases h1 : ckDisk n.s n.w ≠ 0
 ·rw [if_pos h1, if_pos h1]
 ·rw [if_neg h1, if_neg h1]
  by_cases h2 : n.up = true ∧ 0 < n.w.length
  ·rw [if_pos h2, if_pos h2]
  ·rw [if_neg h2, if_neg h2, recD_err]
   by_cases h3 : (recov n.s []).2 ≠ 0
   ·rw [if_pos h3, if_pos h3]
   ·rw [if_neg h3, if_neg h3, recD_ok (Classical.not_not.1 h3)]
    by_cases h4 : n.u.same (recov n.s []).1 = false
    ·rw [if_pos h4, if_pos h4]
    ·rw [if_neg h4, if_neg h4, recD_err]
theorem recov_len {s t : List UInt8} (h : (recov s t).2 = 0) : (recov s t).1.cells.length = 60 := by
 by_cases h1 : ckDisk s t = 0
 ·rw [recov, if_neg (not_not_intro h1)] at h ⊢
  exact unitOf_sixty (by rw [← h])
 ·rw [recov, if_pos h1] at h
  exact absurd h h1
theorem ckN_ok {n : Nd} (h : n.ck = 0) : (ckN n).1 = n.whole ∧ n.whole.cells.length = 60 ∧ n.u.cells.length = 60 := by
 have h1 : ckDisk n.s n.w = 0 := by
  by_cases h1 : ckDisk n.s n.w = 0
  ·exact h1
  ·rw [Nd.ck, if_pos h1] at h; exact absurd h h1
 rw [Nd.ck, if_neg (not_not_intro h1)] at h
 have h2 : ¬ (n.up = true ∧ 0 < n.w.length) := fun h2 => by rw [if_pos h2] at h; cases h
 rw [if_neg h2] at h
 have h3 : (recov n.s []).2 = 0 := by
  by_cases h3 : (recov n.s []).2 = 0
  ·exact h3
  ·rw [if_pos h3] at h; exact absurd h h3
 rw [if_neg (not_not_intro h3)] at h
 have h4 : ¬ n.u.same (recov n.s []).1 = false := fun h4 => by rw [if_pos h4] at h; cases h
 rw [if_neg h4] at h
 refine ⟨?_, recov_len h, ?_⟩
 ·rw [ckN, if_neg (not_not_intro h1), if_neg h2, recD_err, if_neg (not_not_intro h3), recD_ok h3]
  dsimp only
  rw [if_neg h4, recD_ok h]; rfl
 ·rw [Bool.not_eq_false, Un.same_iff] at h4
  rw [h4]; exact recov_len h3
theorem row_threeN {w : World} {b off : Nat} {x0 x1 x2 : Nb} (h : RowAt Nb.cells 5 w b off [x0, x1, x2]) :
  (w.cell? ⟨b, off, none⟩ = some (.int .i64 x0.n.u.p) ∧ w.cell? ⟨b, off + 1, none⟩ = some x0.vc ∧ w.cell? ⟨b, off + 2, none⟩ = some x0.vs ∧ w.cell? ⟨b, off + 3, none⟩ = some x0.vw ∧ w.cell? ⟨b, off + 4, none⟩ = some (.bool x0.n.up)) ∧ (w.cell? ⟨b, off + 5, none⟩ = some (.int .i64 x1.n.u.p) ∧ w.cell? ⟨b, off + 5 + 1, none⟩ = some x1.vc ∧ w.cell? ⟨b, off + 5 + 2, none⟩ = some x1.vs ∧ w.cell? ⟨b, off + 5 + 3, none⟩ = some x1.vw ∧ w.cell? ⟨b, off + 5 + 4, none⟩ = some (.bool x1.n.up)) ∧ (w.cell? ⟨b, off + 10, none⟩ = some (.int .i64 x2.n.u.p) ∧ w.cell? ⟨b, off + 10 + 1, none⟩ = some x2.vc ∧ w.cell? ⟨b, off + 10 + 2, none⟩ = some x2.vs ∧ w.cell? ⟨b, off + 10 + 3, none⟩ = some x2.vw ∧ w.cell? ⟨b, off + 10 + 4, none⟩ = some (.bool x2.n.up)) :=
 ⟨⟨h 0 _ rfl 0 _ rfl, h 0 _ rfl 1 _ rfl, h 0 _ rfl 2 _ rfl, h 0 _ rfl 3 _ rfl, h 0 _ rfl 4 _ rfl⟩, ⟨h 1 _ rfl 0 _ rfl, h 1 _ rfl 1 _ rfl, h 1 _ rfl 2 _ rfl, h 1 _ rfl 3 _ rfl, h 1 _ rfl 4 _ rfl⟩, ⟨h 2 _ rfl 0 _ rfl, h 2 _ rfl 1 _ rfl, h 2 _ rfl 2 _ rfl, h 2 _ rfl 3 _ rfl, h 2 _ rfl 4 _ rfl⟩⟩
set_option maxHeartbeats 4000000 in
set_option maxRecDepth 100000 in
theorem checkNodes_at (b off c : Nat) (N0 N1 N2 : Nd) (sa0 ta0 ua0 : Option Addr) (sm0 sc0 tm0 tc0 um0 uc0 : Nat) (sa1 ta1 ua1 : Option Addr) (sm1 sc1 tm1 tc1 um1 uc1 : Nat) (sa2 ta2 ua2 : Option Addr) (sm2 sc2 tm2 tc2 um2 uc2 : Nat) (w : World) (hL : Laid w) (hE : RowAt Nb.cells 5 w b off [⟨N0, .slice sa0 sm0 sc0, .slice ta0 tm0 tc0, .slice ua0 um0 uc0⟩, ⟨N1, .slice sa1 sm1 sc1, .slice ta1 tm1 tc1, .slice ua1 um1 uc1⟩, ⟨N2, .slice sa2 sm2 sc2, .slice ta2 tm2 tc2, .slice ua2 um2 uc2⟩]) (h0 : NodeT w ⟨N0, .slice sa0 sm0 sc0, .slice ta0 tm0 tc0, .slice ua0 um0 uc0⟩) (h1 : NodeT w ⟨N1, .slice sa1 sm1 sc1, .slice ta1 tm1 tc1, .slice ua1 um1 uc1⟩) (h2 : NodeT w ⟨N2, .slice sa2 sm2 sc2, .slice ta2 tm2 tc2, .slice ua2 um2 uc2⟩)
  (hn : ∀ n : Nd, n ∈ [N0, N1, N2] → n.u.cells.length ≤ topN ∧ n.s.length ≤ topLen ∧ n.w.length ≤ topLen) :
  Calls Tryz.prog 32 #[.slice (some ⟨b, off, none⟩) 3 c] w fun e w' => e = .returned (.int .i64 (ckNds none [N0, N1, N2])) ∧ Below w.heap.size w w' := by
 have HE : Aside (∀ W, Below w.heap.size w W → RowAt Nb.cells 5 W b off [⟨N0, .slice sa0 sm0 sc0, .slice ta0 tm0 tc0, .slice ua0 um0 uc0⟩, ⟨N1, .slice sa1 sm1 sc1, .slice ta1 tm1 tc1, .slice ua1 um1 uc1⟩, ⟨N2, .slice sa2 sm2 sc2, .slice ta2 tm2 tc2, .slice ua2 um2 uc2⟩]) := fun W hb => hE.later hb
 have HG : Aside (∀ W, Below w.heap.size w W → Laid W ∧ NodeT W ⟨N0, .slice sa0 sm0 sc0, .slice ta0 tm0 tc0, .slice ua0 um0 uc0⟩ ∧ NodeT W ⟨N1, .slice sa1 sm1 sc1, .slice ta1 tm1 tc1, .slice ua1 um1 uc1⟩ ∧ NodeT W ⟨N2, .slice sa2 sm2 sc2, .slice ta2 tm2 tc2, .slice ua2 um2 uc2⟩) := fun W hb => ⟨hL.later hb, h0.later hb, h1.later hb, h2.later hb⟩
 have HN : Hid ((N0.u.cells.length ≤ topN ∧ N0.s.length ≤ topLen ∧ N0.w.length ≤ topLen) ∧ (N1.u.cells.length ≤ topN ∧ N1.s.length ≤ topLen ∧ N1.w.length ≤ topLen) ∧ (N2.u.cells.length ≤ topN ∧ N2.s.length ≤ topLen ∧ N2.w.length ≤ topLen)) := ⟨hn N0 (by simp), hn N1 (by simp), hn N2 (by simp)⟩
 have HC : Hid (ckNds none [N0, N1, N2] = if N0.ck ≠ 0 then N0.ck else if behindB none N0.whole.cells = false then 4 else if N1.ck ≠ 0 then N1.ck else if withinB N1.whole.cells N0.u.cells = false then 4 else if N2.ck ≠ 0 then N2.ck else if withinB N2.whole.cells N1.u.cells = false then 4 else 0) := rfl
 obtain ⟨cc, HCC⟩ : ∃ cc, Hid (ckNds none [N0, N1, N2] = cc) := ⟨_, rfl⟩
 rw [HCC.out] at HC ⊢
 clear hE h0 h1 h2 hL hn HCC
 go_enter Tryz.func32, Tryz.ntmps32
 go_wp2
 go_loopw [9] (fun i wr => ∃ k : Nat, ((k = 0 ∧ i = .int .i64 0) ∨ (k = 1 ∧ i = .int .i64 1) ∨ (k = 2 ∧ i = .int .i64 2) ∨ (k = 3 ∧ i = .int .i64 3)) ∧ Below w.heap.size w wr ∧ Hid ((1 ≤ k → N0.ck = 0) ∧ (2 ≤ k → N1.ck = 0 ∧ withinB N1.whole.cells N0.u.cells = true) ∧ (3 ≤ k → N2.ck = 0 ∧ withinB N2.whole.cells N1.u.cells = true))) (fun i _ => 3 - (intOf i).toNat)
 case atStart => exact ⟨0, Or.inl ⟨rfl, rfl⟩, Below.refl _ _, ⟨fun h => (by omega), fun h => (by omega), fun h => (by omega)⟩⟩
 case round =>
  obtain ⟨k, hk', hB, hst⟩ := hrel
  obtain ⟨⟨p0, p1, p2, p3, p4⟩, ⟨q0, q1, q2, q3, q4⟩, ⟨r0, r1, r2, r3, r4⟩⟩ := row_threeN (HE.out _ hB)
  rcases hk' with ⟨rfl, rfl⟩ | ⟨rfl, rfl⟩ | ⟨rfl, rfl⟩ | ⟨rfl, rfl⟩
  ·have hB1 := grew hB (boxNb ⟨N0, .slice sa0 sm0 sc0, .slice ta0 tm0 tc0, .slice ua0 um0 uc0⟩)
   have kc := w_checkNode ⟨N0, .slice sa0 sm0 sc0, .slice ta0 tm0 tc0, .slice ua0 um0 uc0⟩ _ (HG.out _ hB1).1 (HG.out _ hB1).2.1 HN.out.1.1 HN.out.1.2.1 HN.out.1.2.2
   have HB1 : Aside _ := hB1
   have HX1 : Aside ((wr.alloc (boxNb ⟨N0, .slice sa0 sm0 sc0, .slice ta0 tm0 tc0, .slice ua0 um0 uc0⟩)).heap[wr.heap.size]? = some (boxNb ⟨N0, .slice sa0 sm0 sc0, .slice ta0 tm0 tc0, .slice ua0 um0 uc0⟩)) := heap_new _ _
   have HS : Hid _ := hst.out
   obtain ⟨⟨P, d⟩, HQ⟩ : ∃ q, Hid (ckN N0 = q) := ⟨_, rfl⟩
   have hde : N0.ck = d := by rw [← ckN_err, HQ.out]
   have HD : Hid (N0.ck = d) := hde
   rw [HQ.out] at kc
   clear hB hB1 hst hde
   go_upto_region 4 with fail
   clear p0 p1 p2 p3 p4 q0 q1 q2 q3 q4 r0 r1 r2 r3 r4
   generalize wr.alloc (boxNb ⟨N0, .slice sa0 sm0 sc0, .slice ta0 tm0 tc0, .slice ua0 um0 uc0⟩) = Z at *
   generalize wr.heap.size = cb at *
   have z := cb HX1
   go_wp2_with fail
   refine kc.mono ?_
   rintro e w1 ⟨v', rfl, hU2, hb1⟩
   dsimp only at hU2
   obtain ⟨b1, n1, l1, rfl⟩ := roomy_sl hU2.room
   have hBA : Below w1.heap.size w1 (w1.alloc (boxU P.p (.slice b1 n1 l1))) := grew (Below.refl _ _) _
   have HB2 : Aside (Below w.heap.size w (w1.alloc (boxU P.p (.slice b1 n1 l1)))) := step_below1 (step_below1 HB1.out hb1) hBA
   have HY2 : Aside ((w1.alloc (boxU P.p (.slice b1 n1 l1))).heap[w1.heap.size]? = some (boxU P.p (.slice b1 n1 l1))) := heap_new _ _
   have HU2 : Aside (UnitAt (w1.alloc (boxU P.p (.slice b1 n1 l1))) (.slice b1 n1 l1) P) := hU2.later hBA
   clear kc z HB1 HX1 hU2 hb1 hBA
   go_upto_region 5 with fail
   generalize w1.alloc (boxU P.p (.slice b1 n1 l1)) = W2 at *
   generalize w1.heap.size = db at *
   by_cases hd : d = 0
   ·subst hd
    go_upto_region 7 with fail
    go_quiet (fail)
    go_wp2
    go_roundw
    case rel => exact ⟨1, Or.inr (Or.inl ⟨rfl, rfl⟩), below_drewN HB2.out _, ⟨fun _ => HD.out, fun h => (by omega), fun h => (by omega)⟩⟩
    case measure => simp [intOf]
   ·have hdb : (d != 0) = true := by rw [bne_iff_ne]; exact hd
    have HR : Hid (cc = d) := by rw [Hid, HC.out, if_pos (by rw [HD.out]; exact hd), HD.out]
    clear hd HC
    go_wp2
    go_ret
    exact ⟨by rw [HR.out]; rfl, HB2.out⟩
  ·have hB1 := grew hB (boxNb ⟨N1, .slice sa1 sm1 sc1, .slice ta1 tm1 tc1, .slice ua1 um1 uc1⟩)
   have kc := w_checkNode ⟨N1, .slice sa1 sm1 sc1, .slice ta1 tm1 tc1, .slice ua1 um1 uc1⟩ _ (HG.out _ hB1).1 (HG.out _ hB1).2.2.1 HN.out.2.1.1 HN.out.2.1.2.1 HN.out.2.1.2.2
   have HB1 : Aside _ := hB1
   have HX1 : Aside ((wr.alloc (boxNb ⟨N1, .slice sa1 sm1 sc1, .slice ta1 tm1 tc1, .slice ua1 um1 uc1⟩)).heap[wr.heap.size]? = some (boxNb ⟨N1, .slice sa1 sm1 sc1, .slice ta1 tm1 tc1, .slice ua1 um1 uc1⟩)) := heap_new _ _
   have HS : Hid _ := hst.out
   obtain ⟨⟨P, d⟩, HQ⟩ : ∃ q, Hid (ckN N1 = q) := ⟨_, rfl⟩
   have hde : N1.ck = d := by rw [← ckN_err, HQ.out]
   have HD : Hid (N1.ck = d) := hde
   rw [HQ.out] at kc
   clear hB hB1 hst hde
   go_upto_region 4 with fail
   clear p0 p1 p2 p3 p4 q0 q1 q2 q3 q4 r0 r1 r2 r3 r4
   generalize wr.alloc (boxNb ⟨N1, .slice sa1 sm1 sc1, .slice ta1 tm1 tc1, .slice ua1 um1 uc1⟩) = Z at *
   generalize wr.heap.size = cb at *
   have z := cb HX1
   go_wp2_with fail
   refine kc.mono ?_
   rintro e w1 ⟨v', rfl, hU2, hb1⟩
   dsimp only at hU2
   obtain ⟨b1, n1, l1, rfl⟩ := roomy_sl hU2.room
   have hBA : Below w1.heap.size w1 (w1.alloc (boxU P.p (.slice b1 n1 l1))) := grew (Below.refl _ _) _
   have HB2 : Aside (Below w.heap.size w (w1.alloc (boxU P.p (.slice b1 n1 l1)))) := step_below1 (step_below1 HB1.out hb1) hBA
   have HY2 : Aside ((w1.alloc (boxU P.p (.slice b1 n1 l1))).heap[w1.heap.size]? = some (boxU P.p (.slice b1 n1 l1))) := heap_new _ _
   have HU2 : Aside (UnitAt (w1.alloc (boxU P.p (.slice b1 n1 l1))) (.slice b1 n1 l1) P) := hU2.later hBA
   clear kc z HB1 HX1 hU2 hb1 hBA
   go_upto_region 5 with fail
   generalize w1.alloc (boxU P.p (.slice b1 n1 l1)) = W2 at *
   generalize w1.heap.size = db at *
   by_cases hd : d = 0
   ·subst hd
    have hP : Hid (P = N1.whole) := by have := (ckN_ok HD.out).1; rw [HQ.out] at this; exact this
    have HA : Aside (EntSl W2 (.slice sa0 sm0 sc0) N0.u.cells) := by have := (HG.out W2 HB2.out).2.1.unit.ents; exact this
    obtain rfl : sm0 = 60 := by
     have h60 : N0.ck = 0 := HS.out.1 (by omega)
     rw [← SlOf.len (cs := En.cells) (k := 5) HA.out]; exact (ckN_ok h60).2.2
    obtain rfl : n1 = 60 := by
     rw [← SlOf.len (cs := En.cells) (k := 5) HU2.out.ents, hP.out]; exact (ckN_ok HD.out).2.1
    have hl1 : P.cells.length = 60 := SlOf.len (cs := En.cells) (k := 5) HU2.out.ents
    have hl3 : N0.u.cells.length = 60 := SlOf.len (cs := En.cells) (k := 5) HA.out
    obtain ⟨p0, p1, -, -, -⟩ := (row_threeN (HE.out _ HB2.out)).1
    have kf := fun W (h : Below W2.heap.size W2 W) => wfollows_any b1 sa0 l1 sc0 P.p N0.u.p P.cells N0.u.cells W (HU2.out.later h).ents (SlOf.later (cs := En.cells) (k := 5) HA.out h) hl1 hl3
    obtain ⟨sb, HSB⟩ : ∃ sb, Hid (decide (Within P.cells N0.u.cells) = sb) := ⟨_, rfl⟩
    rw [HSB.out] at kf
    have hwr0 : IntKind.i64.wrap 0 = 0 := rfl
    have hwr1 : IntKind.i64.wrap 1 = 1 := rfl
    have e0 : Aside (W2.cell? ⟨b, off, none⟩ = some (.int .i64 N0.u.p)) := p0
    have e1 : Aside (W2.cell? ⟨b, off + 1, none⟩ = some (.slice sa0 60 sc0)) := p1
    clear hl1 hl3 p0 p1
    go_upto_region 7 with fail
    refine wp_region_held_drew (S := fun W' => Below W2.heap.size W2 W') (by kernel_rfl) ((Below.refl _ _).drew) (fun hHeld => ?_)
    refine tk 0 (v := ?_) rfl (by kernel_rfl) (by rfl) (by assumption) (fun _ _ _ h => h) ?_ ?_
    rotate_left
    ·intro w0 hSw; clear hSw; go_simp; first | done | with_reducible rfl
    try simp only [Act.put, qa, qb, qc]
    refine tk 1 (v := ?_) rfl (by kernel_rfl) (by rfl) (by assumption) (fun _ _ _ h => h) ?_ ?_
    rotate_left
    ·intro w0 hSw; clear hSw; go_simp; first | done | with_reducible rfl
    try simp only [Act.put, qa, qb, qc]
    refine tk 2 (v := ?_) rfl (by kernel_rfl) (by rfl) (by assumption) (fun _ _ _ h => h) ?_ ?_
    rotate_left
    ·intro w0 hSw; clear hSw; go_simp; first | done | with_reducible rfl
    try simp only [Act.put, qa, qb, qc]
    refine tk 3 (v := ?_) rfl (by kernel_rfl) (by rfl) (by assumption) (fun _ _ _ h => h) ?_ ?_
    rotate_left
    ·intro w0 hSw; have q := fun i => Joins.cell_of_block (heap_below HY2.out hSw (heap_lt HY2.out)) i; clear hSw; go_simp; first | done | with_reducible rfl
    try simp only [Act.put, qa, qb, qc]
    refine tk 4 (v := ?_) rfl (by kernel_rfl) (by rfl) (by assumption) (fun _ _ _ h => h) ?_ ?_
    rotate_left
    ·intro w0 hSw; clear hSw; go_simp; first | done | with_reducible rfl
    try simp only [Act.put, qa, qb, qc]
    refine tk 5 (v := ?_) rfl (by kernel_rfl) (by rfl) (by assumption) (fun _ _ _ h => h) ?_ ?_
    rotate_left
    ·intro w0 hSw; clear hSw; go_simp; first | done | with_reducible rfl
    try simp only [Act.put, qa, qb, qc]
    refine tk 6 (v := ?_) rfl (by kernel_rfl) (by rfl) (by assumption) (fun _ _ _ h => h) ?_ ?_
    rotate_left
    ·intro w0 hSw; clear hSw; go_simp; first | done | with_reducible rfl
    try simp only [Act.put, qa, qb, qc]
    refine tk 7 (v := ?_) rfl (by kernel_rfl) (by rfl) (by assumption) (fun _ _ _ h => h) ?_ ?_
    rotate_left
    ·intro w0 hSw; clear hSw; go_simp; first | done | with_reducible rfl
    try simp only [Act.put, qa, qb, qc]
    refine tk 8 (v := ?_) rfl (by kernel_rfl) (by rfl) (by assumption) (fun _ _ _ h => h) ?_ ?_
    rotate_left
    ·intro w0 hSw; clear hSw; go_simp; first | done | with_reducible rfl
    try simp only [Act.put, qa, qb, qc]
    refine tk 9 (v := ?_) rfl (by kernel_rfl) (by rfl) (by assumption) (fun _ _ _ h => h) ?_ ?_
    rotate_left
    ·intro w0 hSw; have q0 := cell_later hSw e0.out; have q1 := cell_later hSw e1.out; clear hSw; go_simp; first | done | with_reducible rfl
    try simp only [Act.put, qa, qb, qc]
    refine rdy 10 (by kernel_rfl) rfl (fun K hK => ?_)
    go_simp
    refine (kf _ hHeld).mono ?_
    rintro e w3 ⟨rfl, hb3⟩
    refine hK.out _ _ (step_below1 hHeld hb3) (fun hHeld => ?_)
    clear hK K
    try simp only [Act.put, qa, qb, qc]
    refine tk 11 (v := ?_) rfl (by kernel_rfl) (by rfl) (by assumption) (fun _ _ _ h => h) ?_ ?_
    rotate_left
    ·intro w0 hSw; clear hSw; go_simp; first | done | with_reducible rfl
    try simp only [Act.put, qa, qb, qc]
    refine tk 12 (v := ?_) rfl (by kernel_rfl) (by rfl) (by assumption) (fun _ _ _ h => h) ?_ ?_
    rotate_left
    ·intro w0 hSw; clear hSw; go_simp; first | done | with_reducible rfl
    try simp only [Act.put, qa, qb, qc]
    refine wpAnyH_done (by kernel_rfl) ?_ _
    have HB3 := sb HB2 hHeld
    cases sb with
    | false =>
     have HR : Hid (cc = 4) := by
      rw [Hid, HC.out, if_neg (by simpa using HS.out.1 (by omega)), if_neg (by simp [behindB]), if_neg (by simpa using HD.out), if_pos]
      rw [← hP.out, ← Bool.not_eq_true, withinB_iff]; exact of_decide_eq_false HSB.out
     clear HC hP
     go_wp2
     go_ret
     exact ⟨by rw [HR.out]; rfl, HB3.out⟩
    | true =>
     have HW : Hid (withinB N1.whole.cells N0.u.cells = true) := by rw [Hid, ← hP.out, withinB_iff]; exact of_decide_eq_true HSB.out
     clear hP
     go_wp2
     go_roundw
     case rel => exact ⟨2, Or.inr (Or.inr (Or.inl ⟨rfl, rfl⟩)), HB3.out, ⟨fun _ => HS.out.1 (by omega), fun _ => ⟨HD.out, HW.out⟩, fun h => (by omega)⟩⟩
     case measure => simp [intOf]
   ·have hdb : (d != 0) = true := by rw [bne_iff_ne]; exact hd
    have HR : Hid (cc = d) := by rw [Hid, HC.out, if_neg (by simpa using HS.out.1 (by omega)), if_neg (by simp [behindB]), if_pos (by rw [HD.out]; exact hd), HD.out]
    clear hd HC
    go_wp2
    go_ret
    exact ⟨by rw [HR.out]; rfl, HB2.out⟩
  ·have hB1 := grew hB (boxNb ⟨N2, .slice sa2 sm2 sc2, .slice ta2 tm2 tc2, .slice ua2 um2 uc2⟩)
   have kc := w_checkNode ⟨N2, .slice sa2 sm2 sc2, .slice ta2 tm2 tc2, .slice ua2 um2 uc2⟩ _ (HG.out _ hB1).1 (HG.out _ hB1).2.2.2 HN.out.2.2.1 HN.out.2.2.2.1 HN.out.2.2.2.2
   have HB1 : Aside _ := hB1
   have HX1 : Aside ((wr.alloc (boxNb ⟨N2, .slice sa2 sm2 sc2, .slice ta2 tm2 tc2, .slice ua2 um2 uc2⟩)).heap[wr.heap.size]? = some (boxNb ⟨N2, .slice sa2 sm2 sc2, .slice ta2 tm2 tc2, .slice ua2 um2 uc2⟩)) := heap_new _ _
   have HS : Hid _ := hst.out
   obtain ⟨⟨P, d⟩, HQ⟩ : ∃ q, Hid (ckN N2 = q) := ⟨_, rfl⟩
   have hde : N2.ck = d := by rw [← ckN_err, HQ.out]
   have HD : Hid (N2.ck = d) := hde
   rw [HQ.out] at kc
   clear hB hB1 hst hde
   go_upto_region 4 with fail
   clear p0 p1 p2 p3 p4 q0 q1 q2 q3 q4 r0 r1 r2 r3 r4
   generalize wr.alloc (boxNb ⟨N2, .slice sa2 sm2 sc2, .slice ta2 tm2 tc2, .slice ua2 um2 uc2⟩) = Z at *
   generalize wr.heap.size = cb at *
   have z := cb HX1
   go_wp2_with fail
   refine kc.mono ?_
   rintro e w1 ⟨v', rfl, hU2, hb1⟩
   dsimp only at hU2
   obtain ⟨b1, n1, l1, rfl⟩ := roomy_sl hU2.room
   have hBA : Below w1.heap.size w1 (w1.alloc (boxU P.p (.slice b1 n1 l1))) := grew (Below.refl _ _) _
   have HB2 : Aside (Below w.heap.size w (w1.alloc (boxU P.p (.slice b1 n1 l1)))) := step_below1 (step_below1 HB1.out hb1) hBA
   have HY2 : Aside ((w1.alloc (boxU P.p (.slice b1 n1 l1))).heap[w1.heap.size]? = some (boxU P.p (.slice b1 n1 l1))) := heap_new _ _
   have HU2 : Aside (UnitAt (w1.alloc (boxU P.p (.slice b1 n1 l1))) (.slice b1 n1 l1) P) := hU2.later hBA
   clear kc z HB1 HX1 hU2 hb1 hBA
   go_upto_region 5 with fail
   generalize w1.alloc (boxU P.p (.slice b1 n1 l1)) = W2 at *
   generalize w1.heap.size = db at *
   by_cases hd : d = 0
   ·subst hd
    have hP : Hid (P = N2.whole) := by have := (ckN_ok HD.out).1; rw [HQ.out] at this; exact this
    have HA : Aside (EntSl W2 (.slice sa1 sm1 sc1) N1.u.cells) := by have := (HG.out W2 HB2.out).2.2.1.unit.ents; exact this
    obtain rfl : sm1 = 60 := by
     have h60 : N1.ck = 0 := (HS.out.2.1 (by omega)).1
     rw [← SlOf.len (cs := En.cells) (k := 5) HA.out]; exact (ckN_ok h60).2.2
    obtain rfl : n1 = 60 := by
     rw [← SlOf.len (cs := En.cells) (k := 5) HU2.out.ents, hP.out]; exact (ckN_ok HD.out).2.1
    have hl1 : P.cells.length = 60 := SlOf.len (cs := En.cells) (k := 5) HU2.out.ents
    have hl3 : N1.u.cells.length = 60 := SlOf.len (cs := En.cells) (k := 5) HA.out
    obtain ⟨q0, q1, -, -, -⟩ := (row_threeN (HE.out _ HB2.out)).2.1
    have kf := fun W (h : Below W2.heap.size W2 W) => wfollows_any b1 sa1 l1 sc1 P.p N1.u.p P.cells N1.u.cells W (HU2.out.later h).ents (SlOf.later (cs := En.cells) (k := 5) HA.out h) hl1 hl3
    obtain ⟨sb, HSB⟩ : ∃ sb, Hid (decide (Within P.cells N1.u.cells) = sb) := ⟨_, rfl⟩
    rw [HSB.out] at kf
    have hwr0 : IntKind.i64.wrap 0 = 0 := rfl
    have hwr1 : IntKind.i64.wrap 1 = 1 := rfl
    have e0 : Aside (W2.cell? ⟨b, off + 5, none⟩ = some (.int .i64 N1.u.p)) := q0
    have e1 : Aside (W2.cell? ⟨b, off + 5 + 1, none⟩ = some (.slice sa1 60 sc1)) := q1
    clear hl1 hl3 q0 q1
    go_upto_region 7 with fail
    refine wp_region_held_drew (S := fun W' => Below W2.heap.size W2 W') (by kernel_rfl) ((Below.refl _ _).drew) (fun hHeld => ?_)
    refine tk 0 (v := ?_) rfl (by kernel_rfl) (by rfl) (by assumption) (fun _ _ _ h => h) ?_ ?_
    rotate_left
    ·intro w0 hSw; clear hSw; go_simp; first | done | with_reducible rfl
    try simp only [Act.put, qa, qb, qc]
    refine tk 1 (v := ?_) rfl (by kernel_rfl) (by rfl) (by assumption) (fun _ _ _ h => h) ?_ ?_
    rotate_left
    ·intro w0 hSw; clear hSw; go_simp; first | done | with_reducible rfl
    try simp only [Act.put, qa, qb, qc]
    refine tk 2 (v := ?_) rfl (by kernel_rfl) (by rfl) (by assumption) (fun _ _ _ h => h) ?_ ?_
    rotate_left
    ·intro w0 hSw; clear hSw; go_simp; first | done | with_reducible rfl
    try simp only [Act.put, qa, qb, qc]
    refine tk 3 (v := ?_) rfl (by kernel_rfl) (by rfl) (by assumption) (fun _ _ _ h => h) ?_ ?_
    rotate_left
    ·intro w0 hSw; have q := fun i => Joins.cell_of_block (heap_below HY2.out hSw (heap_lt HY2.out)) i; clear hSw; go_simp; first | done | with_reducible rfl
    try simp only [Act.put, qa, qb, qc]
    refine tk 4 (v := ?_) rfl (by kernel_rfl) (by rfl) (by assumption) (fun _ _ _ h => h) ?_ ?_
    rotate_left
    ·intro w0 hSw; clear hSw; go_simp; first | done | with_reducible rfl
    try simp only [Act.put, qa, qb, qc]
    refine tk 5 (v := ?_) rfl (by kernel_rfl) (by rfl) (by assumption) (fun _ _ _ h => h) ?_ ?_
    rotate_left
    ·intro w0 hSw; clear hSw; go_simp; first | done | with_reducible rfl
    try simp only [Act.put, qa, qb, qc]
    refine tk 6 (v := ?_) rfl (by kernel_rfl) (by rfl) (by assumption) (fun _ _ _ h => h) ?_ ?_
    rotate_left
    ·intro w0 hSw; clear hSw; go_simp; first | done | with_reducible rfl
    try simp only [Act.put, qa, qb, qc]
    refine tk 7 (v := ?_) rfl (by kernel_rfl) (by rfl) (by assumption) (fun _ _ _ h => h) ?_ ?_
    rotate_left
    ·intro w0 hSw; clear hSw; go_simp; first | done | with_reducible rfl
    try simp only [Act.put, qa, qb, qc]
    refine tk 8 (v := ?_) rfl (by kernel_rfl) (by rfl) (by assumption) (fun _ _ _ h => h) ?_ ?_
    rotate_left
    ·intro w0 hSw; clear hSw; go_simp; first | done | with_reducible rfl
    try simp only [Act.put, qa, qb, qc]
    refine tk 9 (v := ?_) rfl (by kernel_rfl) (by rfl) (by assumption) (fun _ _ _ h => h) ?_ ?_
    rotate_left
    ·intro w0 hSw; have q0 := cell_later hSw e0.out; have q1 := cell_later hSw e1.out; clear hSw; go_simp; first | done | with_reducible rfl
    try simp only [Act.put, qa, qb, qc]
    refine rdy 10 (by kernel_rfl) rfl (fun K hK => ?_)
    go_simp
    refine (kf _ hHeld).mono ?_
    rintro e w3 ⟨rfl, hb3⟩
    refine hK.out _ _ (step_below1 hHeld hb3) (fun hHeld => ?_)
    clear hK K
    try simp only [Act.put, qa, qb, qc]
    refine tk 11 (v := ?_) rfl (by kernel_rfl) (by rfl) (by assumption) (fun _ _ _ h => h) ?_ ?_
    rotate_left
    ·intro w0 hSw; clear hSw; go_simp; first | done | with_reducible rfl
    try simp only [Act.put, qa, qb, qc]
    refine tk 12 (v := ?_) rfl (by kernel_rfl) (by rfl) (by assumption) (fun _ _ _ h => h) ?_ ?_
    rotate_left
    ·intro w0 hSw; clear hSw; go_simp; first | done | with_reducible rfl
    try simp only [Act.put, qa, qb, qc]
    refine wpAnyH_done (by kernel_rfl) ?_ _
    have HB3 := sb HB2 hHeld
    cases sb with
    | false =>
     have HR : Hid (cc = 4) := by
      rw [Hid, HC.out, if_neg (by simpa using HS.out.1 (by omega)), if_neg (by simp [behindB]), if_neg (by simpa using (HS.out.2.1 (by omega)).1), if_neg (by rw [(HS.out.2.1 (by omega)).2]; simp), if_neg (by simpa using HD.out), if_pos]
      rw [← hP.out, ← Bool.not_eq_true, withinB_iff]; exact of_decide_eq_false HSB.out
     clear HC hP
     go_wp2
     go_ret
     exact ⟨by rw [HR.out]; rfl, HB3.out⟩
    | true =>
     have HW : Hid (withinB N2.whole.cells N1.u.cells = true) := by rw [Hid, ← hP.out, withinB_iff]; exact of_decide_eq_true HSB.out
     clear hP
     go_wp2
     go_roundw
     case rel => exact ⟨3, Or.inr (Or.inr (Or.inr ⟨rfl, rfl⟩)), HB3.out, ⟨fun _ => HS.out.1 (by omega), fun _ => HS.out.2.1 (by omega), fun _ => ⟨HD.out, HW.out⟩⟩⟩
     case measure => simp [intOf]
   ·have hdb : (d != 0) = true := by rw [bne_iff_ne]; exact hd
    have HR : Hid (cc = d) := by rw [Hid, HC.out, if_neg (by simpa using HS.out.1 (by omega)), if_neg (by simp [behindB]), if_neg (by simpa using (HS.out.2.1 (by omega)).1), if_neg (by rw [(HS.out.2.1 (by omega)).2]; simp), if_pos (by rw [HD.out]; exact hd), HD.out]
    clear hd HC
    go_wp2
    go_ret
    exact ⟨by rw [HR.out]; rfl, HB2.out⟩
  ·have HS : Hid _ := hst.out
   have HR : Hid (cc = 0) := by rw [Hid, HC.out, if_neg (by simpa using HS.out.1 (by omega)), if_neg (by simp [behindB]), if_neg (by simpa using (HS.out.2.1 (by omega)).1), if_neg (by rw [(HS.out.2.1 (by omega)).2]; simp), if_neg (by simpa using (HS.out.2.2 (by omega)).1), if_neg (by rw [(HS.out.2.2 (by omega)).2]; simp)]
   have HB2 : Aside (Below w.heap.size w wr) := hB
   clear hst HC hB
   clear p0 p1 p2 p3 p4 q0 q1 q2 q3 q4 r0 r1 r2 r3 r4
   go_wp2
   go_ret
   exact ⟨by rw [HR.out]; rfl, HB2.out⟩
end
end Go.Proofs.YtmoaobfmopimlafGreatDoor
