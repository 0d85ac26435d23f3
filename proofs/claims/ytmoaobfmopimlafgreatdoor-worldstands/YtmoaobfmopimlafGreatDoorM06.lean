/- For the law. -/
import Derived.Test.YtmoaobfmopimlafGreatDoorM05
set_option linter.unusedSimpArgs false
set_option linter.unusedVariables false
set_option maxHeartbeats 16000000
set_option maxRecDepth 100000
namespace Go.Proofs.YtmoaobfmopimlafGreatDoor
open Go Go.ChangeShapes Go.WideShapes Go.ChangeAt Go.RowKit
section
open scoped Classical
theorem w_checkNode (x : Nb) (w : World) (hL : Laid w) (h : NodeT w x) (hn0 : x.n.u.cells.length ≤ topN) (hn1 : x.n.s.length ≤ topLen) (hn2 : x.n.w.length ≤ topLen) : AnsU 80 #[x.val] w (ckN x.n) := by
 obtain ⟨⟨u, s, t, up⟩, vc, vs, vw⟩ := x
 obtain ⟨a0, m0, k0, e0⟩ := roomy_sl h.unit.room
 obtain ⟨a1, m1, k1, e1⟩ := roomy_sl h.disk.room1
 obtain ⟨a2, m2, k2, e2⟩ := roomy_sl h.disk.room2
 dsimp only at e0 e1 e2
 subst e0 e1 e2
 exact checkNode_at u s t up a0 a1 a2 m0 k0 m1 k1 m2 k2 w hL h.unit h.disk hn0 hn1 hn2
theorem ckN_err (n : Nd) : (ckN n).2 = n.ck := by
 unfold ckN Nd.ck
 by_cases h1 : ckDisk n.s n.w ≠ 0
 · rw [if_pos h1, if_pos h1]
 · rw [if_neg h1, if_neg h1]
  by_cases h2 : n.up = true ∧ 0 < n.w.length
  · rw [if_pos h2, if_pos h2]
  · rw [if_neg h2, if_neg h2, recD_err]
   by_cases h3 : (recov n.s []).2 ≠ 0
   · rw [if_pos h3, if_pos h3]
   · rw [if_neg h3, if_neg h3, recD_ok (Classical.not_not.1 h3)]
    by_cases h4 : n.u.same (recov n.s []).1 = false
    · rw [if_pos h4, if_pos h4]
    · rw [if_neg h4, if_neg h4, recD_err]
theorem recov_len {s t : List UInt8} (h : (recov s t).2 = 0) : (recov s t).1.cells.length = 60 := by
 by_cases h1 : ckDisk s t = 0
 · rw [recov, if_neg (not_not_intro h1)] at h ⊢
  exact unitOf_sixty (by rw [← h])
 · rw [recov, if_pos h1] at h
  exact absurd h h1
theorem ckN_ok {n : Nd} (h : n.ck = 0) : (ckN n).1 = n.whole ∧ n.whole.cells.length = 60 ∧ n.u.cells.length = 60 := by
 have h1 : ckDisk n.s n.w = 0 := by
  by_cases h1 : ckDisk n.s n.w = 0
  · exact h1
  · rw [Nd.ck, if_pos h1] at h; exact absurd h h1
 rw [Nd.ck, if_neg (not_not_intro h1)] at h
 have h2 : ¬ (n.up = true ∧ 0 < n.w.length) := fun h2 => by rw [if_pos h2] at h; cases h
 rw [if_neg h2] at h
 have h3 : (recov n.s []).2 = 0 := by
  by_cases h3 : (recov n.s []).2 = 0
  · exact h3
  · rw [if_pos h3] at h; exact absurd h h3
 rw [if_neg (not_not_intro h3)] at h
 have h4 : ¬ n.u.same (recov n.s []).1 = false := fun h4 => by rw [if_pos h4] at h; cases h
 rw [if_neg h4] at h
 refine ⟨?_, recov_len h, ?_⟩
 · rw [ckN, if_neg (not_not_intro h1), if_neg h2, recD_err, if_neg (not_not_intro h3), recD_ok h3]
  dsimp only
  rw [if_neg h4, recD_ok h]; rfl
 · rw [Bool.not_eq_false, Un.same_iff] at h4
  rw [h4]; exact recov_len h3
theorem row_threeN {w : World} {b off : Nat} {x0 x1 x2 : Nb} (h : RowAt Nb.cells 5 w b off [x0, x1, x2]) :
  (w.cell? ⟨b, off, none⟩ = some (.int .i64 x0.n.u.p) ∧ w.cell? ⟨b, off + 1, none⟩ = some x0.vc ∧ w.cell? ⟨b, off + 2, none⟩ = some x0.vs ∧ w.cell? ⟨b, off + 3, none⟩ = some x0.vw ∧ w.cell? ⟨b, off + 4, none⟩ = some (.bool x0.n.up)) ∧ (w.cell? ⟨b, off + 5, none⟩ = some (.int .i64 x1.n.u.p) ∧ w.cell? ⟨b, off + 5 + 1, none⟩ = some x1.vc ∧ w.cell? ⟨b, off + 5 + 2, none⟩ = some x1.vs ∧ w.cell? ⟨b, off + 5 + 3, none⟩ = some x1.vw ∧ w.cell? ⟨b, off + 5 + 4, none⟩ = some (.bool x1.n.up)) ∧ (w.cell? ⟨b, off + 10, none⟩ = some (.int .i64 x2.n.u.p) ∧ w.cell? ⟨b, off + 10 + 1, none⟩ = some x2.vc ∧ w.cell? ⟨b, off + 10 + 2, none⟩ = some x2.vs ∧ w.cell? ⟨b, off + 10 + 3, none⟩ = some x2.vw ∧ w.cell? ⟨b, off + 10 + 4, none⟩ = some (.bool x2.n.up)) :=
 ⟨⟨h 0 _ rfl 0 _ rfl, h 0 _ rfl 1 _ rfl, h 0 _ rfl 2 _ rfl, h 0 _ rfl 3 _ rfl, h 0 _ rfl 4 _ rfl⟩, ⟨h 1 _ rfl 0 _ rfl, h 1 _ rfl 1 _ rfl, h 1 _ rfl 2 _ rfl, h 1 _ rfl 3 _ rfl, h 1 _ rfl 4 _ rfl⟩, ⟨h 2 _ rfl 0 _ rfl, h 2 _ rfl 1 _ rfl, h 2 _ rfl 2 _ rfl, h 2 _ rfl 3 _ rfl, h 2 _ rfl 4 _ rfl⟩⟩
theorem checkNodes_at (b off c : Nat) (N0 N1 N2 : Nd) (sa0 ta0 ua0 : Option Addr) (sm0 sc0 tm0 tc0 um0 uc0 : Nat) (sa1 ta1 ua1 : Option Addr) (sm1 sc1 tm1 tc1 um1 uc1 : Nat) (sa2 ta2 ua2 : Option Addr) (sm2 sc2 tm2 tc2 um2 uc2 : Nat) (w : World) (hL : Laid w) (hE : RowAt Nb.cells 5 w b off [⟨N0, .slice sa0 sm0 sc0, .slice ta0 tm0 tc0, .slice ua0 um0 uc0⟩, ⟨N1, .slice sa1 sm1 sc1, .slice ta1 tm1 tc1, .slice ua1 um1 uc1⟩, ⟨N2, .slice sa2 sm2 sc2, .slice ta2 tm2 tc2, .slice ua2 um2 uc2⟩]) (h0 : NodeT w ⟨N0, .slice sa0 sm0 sc0, .slice ta0 tm0 tc0, .slice ua0 um0 uc0⟩) (h1 : NodeT w ⟨N1, .slice sa1 sm1 sc1, .slice ta1 tm1 tc1, .slice ua1 um1 uc1⟩) (h2 : NodeT w ⟨N2, .slice sa2 sm2 sc2, .slice ta2 tm2 tc2, .slice ua2 um2 uc2⟩)
  (hn : ∀ n : Nd, n ∈ [N0, N1, N2] → n.u.cells.length ≤ topN ∧ n.s.length ≤ topLen ∧ n.w.length ≤ topLen) :
  Calls Tryz.prog 32 #[.slice (some ⟨b, off, none⟩) 3 c] w fun e w' => e = .returned (.int .i64 (ckNds none [N0, N1, N2])) ∧ Below w.heap.size w w' := by
 have HE : Aside (∀ W, Below w.heap.size w W → RowAt Nb.cells 5 W b off [⟨N0, .slice sa0 sm0 sc0, .slice ta0 tm0 tc0, .slice ua0 um0 uc0⟩, ⟨N1, .slice sa1 sm1 sc1, .slice ta1 tm1 tc1, .slice ua1 um1 uc1⟩, ⟨N2, .slice sa2 sm2 sc2, .slice ta2 tm2 tc2, .slice ua2 um2 uc2⟩]) := fun W hb => hE.later hb
 have HG : Aside (∀ W, Below w.heap.size w W → Laid W ∧ NodeT W ⟨N0, .slice sa0 sm0 sc0, .slice ta0 tm0 tc0, .slice ua0 um0 uc0⟩ ∧ NodeT W ⟨N1, .slice sa1 sm1 sc1, .slice ta1 tm1 tc1, .slice ua1 um1 uc1⟩ ∧ NodeT W ⟨N2, .slice sa2 sm2 sc2, .slice ta2 tm2 tc2, .slice ua2 um2 uc2⟩) := fun W hb => ⟨hL.later hb, h0.later hb, h1.later hb, h2.later hb⟩
 have HN : Hid ((N0.u.cells.length ≤ topN ∧ N0.s.length ≤ topLen ∧ N0.w.length ≤ topLen) ∧ (N1.u.cells.length ≤ topN ∧ N1.s.length ≤ topLen ∧ N1.w.length ≤ topLen) ∧ (N2.u.cells.length ≤ topN ∧ N2.s.length ≤ topLen ∧ N2.w.length ≤ topLen)) := ⟨hn N0 (by simp), hn N1 (by simp), hn N2 (by simp)⟩
 have HC : Hid (ckNds none [N0, N1, N2] = if N0.ck ≠ 0 then N0.ck else if behindB none N0.whole.cells = false then 4 else if N1.ck ≠ 0 then N1.ck else if withinB N1.whole.cells N0.u.cells = false then 4 else if N2.ck ≠ 0 then N2.ck else if withinB N2.whole.cells N1.u.cells = false then 4 else 0) := rfl
 obtain ⟨cc, HCC⟩ : ∃ cc, Hid (ckNds none [N0, N1, N2] = cc) := ⟨_, rfl⟩
 rw [HCC.out] at HC ⊢
 clear hE h0 h1 h2 hL hn HCC
 go_enter Tryz.func32, Tryz.ntmps32
 go_wp2
 go_loopw [9] (fun i wr => ∃ k : Nat, ((k = 0 ∧ i = .int .i64 0) ∨ (k = 1 ∧ i = .int .i64 1) ∨ (k = 2 ∧ i = .int .i64 2) ∨ (k = 3 ∧ i = .int .i64 3)) ∧ Below w.heap.size w wr ∧ Hid ((1 ≤ k → N0.ck = 0) ∧ (2 ≤ k → N1.ck = 0 ∧ withinB N1.whole.cells N0.u.cells = true) ∧ (3 ≤ k → N2.ck = 0 ∧ withinB N2.whole.cells N1.u.cells = true))) (fun i _ => 3 - (intOf i).toNat)
 case atStart => exact ⟨0, Or.inl ⟨rfl, rfl⟩, Below.refl _ _, ⟨fun h => (by omega), fun h => (by omega), fun h => (by omega)⟩⟩
 case round =>
  obtain ⟨k, hk', hB, hst⟩ := hrel
  obtain ⟨⟨p0, p1, p2, p3, p4⟩, ⟨q0, q1, q2, q3, q4⟩, ⟨r0, r1, r2, r3, r4⟩⟩ := row_threeN (HE.out _ hB)
  rcases hk' with ⟨rfl, rfl⟩ | ⟨rfl, rfl⟩ | ⟨rfl, rfl⟩ | ⟨rfl, rfl⟩
  · have hB1 := grew hB (boxNb ⟨N0, .slice sa0 sm0 sc0, .slice ta0 tm0 tc0, .slice ua0 um0 uc0⟩)
   have kc := w_checkNode ⟨N0, .slice sa0 sm0 sc0, .slice ta0 tm0 tc0, .slice ua0 um0 uc0⟩ _ (HG.out _ hB1).1 (HG.out _ hB1).2.1 HN.out.1.1 HN.out.1.2.1 HN.out.1.2.2
   have HB1 : Aside _ := hB1
   have HX1 : Aside ((wr.alloc (boxNb ⟨N0, .slice sa0 sm0 sc0, .slice ta0 tm0 tc0, .slice ua0 um0 uc0⟩)).heap[wr.heap.size]? = some (boxNb ⟨N0, .slice sa0 sm0 sc0, .slice ta0 tm0 tc0, .slice ua0 um0 uc0⟩)) := heap_new _ _
   have HS : Hid _ := hst.out
   obtain ⟨⟨P, d⟩, HQ⟩ : ∃ q, Hid (ckN N0 = q) := ⟨_, rfl⟩
   have hde : N0.ck = d := by rw [← ckN_err, HQ.out]
   have HD : Hid (N0.ck = d) := hde
   rw [HQ.out] at kc
   clear hB hB1 hst hde
   go_upto_region 4 with fail
   clear p0 p1 p2 p3 p4 q0 q1 q2 q3 q4 r0 r1 r2 r3 r4
   generalize wr.alloc (boxNb ⟨N0, .slice sa0 sm0 sc0, .slice ta0 tm0 tc0, .slice ua0 um0 uc0⟩) = Z at *
   generalize wr.heap.size = cb at *
   have z := fun i => Joins.cell_of_block HX1.out i
   go_wp2_with fail
   refine kc.mono ?_
   rintro e w1 ⟨v', rfl, hU2, hb1⟩
   dsimp only at hU2
   obtain ⟨b1, n1, l1, rfl⟩ := roomy_sl hU2.room
   have hBA : Below w1.heap.size w1 (w1.alloc (boxU P.p (.slice b1 n1 l1))) := grew (Below.refl _ _) _
   have HB2 : Aside (Below w.heap.size w (w1.alloc (boxU P.p (.slice b1 n1 l1)))) := step_below1 (step_below1 HB1.out hb1) hBA
   have HY2 : Aside ((w1.alloc (boxU P.p (.slice b1 n1 l1))).heap[w1.heap.size]? = some (boxU P.p (.slice b1 n1 l1))) := heap_new _ _
   have HU2 : Aside (UnitAt (w1.alloc (boxU P.p (.slice b1 n1 l1))) (.slice b1 n1 l1) P) := hU2.later hBA
   clear kc z HB1 HX1 hU2 hb1 hBA
   go_upto_region 5 with fail
   generalize w1.alloc (boxU P.p (.slice b1 n1 l1)) = W2 at *
   generalize w1.heap.size = db at *
   by_cases hd : d = 0
   · subst hd
    go_upto_region 7 with fail
    go_quiet (fail)
    go_wp2
    go_roundw
    case rel => exact ⟨1, Or.inr (Or.inl ⟨rfl, rfl⟩), below_drewN HB2.out _, ⟨fun _ => HD.out, fun h => (by omega), fun h => (by omega)⟩⟩
    case measure => simp [intOf]
   · have hdb : (d != 0) = true := by rw [bne_iff_ne]; exact hd
    have HR : Hid (cc = d) := by rw [Hid, HC.out, if_pos (by rw [HD.out]; exact hd), HD.out]
    clear hd HC
    go_wp2
    go_ret
    exact ⟨by rw [HR.out]; rfl, HB2.out⟩
  · have hB1 := grew hB (boxNb ⟨N1, .slice sa1 sm1 sc1, .slice ta1 tm1 tc1, .slice ua1 um1 uc1⟩)
   have kc := w_checkNode ⟨N1, .slice sa1 sm1 sc1, .slice ta1 tm1 tc1, .slice ua1 um1 uc1⟩ _ (HG.out _ hB1).1 (HG.out _ hB1).2.2.1 HN.out.2.1.1 HN.out.2.1.2.1 HN.out.2.1.2.2
   have HB1 : Aside _ := hB1
   have HX1 : Aside ((wr.alloc (boxNb ⟨N1, .slice sa1 sm1 sc1, .slice ta1 tm1 tc1, .slice ua1 um1 uc1⟩)).heap[wr.heap.size]? = some (boxNb ⟨N1, .slice sa1 sm1 sc1, .slice ta1 tm1 tc1, .slice ua1 um1 uc1⟩)) := heap_new _ _
   have HS : Hid _ := hst.out
   obtain ⟨⟨P, d⟩, HQ⟩ : ∃ q, Hid (ckN N1 = q) := ⟨_, rfl⟩
   have hde : N1.ck = d := by rw [← ckN_err, HQ.out]
   have HD : Hid (N1.ck = d) := hde
   rw [HQ.out] at kc
   clear hB hB1 hst hde
   go_upto_region 4 with fail
   clear p0 p1 p2 p3 p4 q0 q1 q2 q3 q4 r0 r1 r2 r3 r4
   generalize wr.alloc (boxNb ⟨N1, .slice sa1 sm1 sc1, .slice ta1 tm1 tc1, .slice ua1 um1 uc1⟩) = Z at *
   generalize wr.heap.size = cb at *
   have z := fun i => Joins.cell_of_block HX1.out i
   go_wp2_with fail
   refine kc.mono ?_
   rintro e w1 ⟨v', rfl, hU2, hb1⟩
   dsimp only at hU2
   obtain ⟨b1, n1, l1, rfl⟩ := roomy_sl hU2.room
   have hBA : Below w1.heap.size w1 (w1.alloc (boxU P.p (.slice b1 n1 l1))) := grew (Below.refl _ _) _
   have HB2 : Aside (Below w.heap.size w (w1.alloc (boxU P.p (.slice b1 n1 l1)))) := step_below1 (step_below1 HB1.out hb1) hBA
   have HY2 : Aside ((w1.alloc (boxU P.p (.slice b1 n1 l1))).heap[w1.heap.size]? = some (boxU P.p (.slice b1 n1 l1))) := heap_new _ _
   have HU2 : Aside (UnitAt (w1.alloc (boxU P.p (.slice b1 n1 l1))) (.slice b1 n1 l1) P) := hU2.later hBA
   clear kc z HB1 HX1 hU2 hb1 hBA
   go_upto_region 5 with fail
   generalize w1.alloc (boxU P.p (.slice b1 n1 l1)) = W2 at *
   generalize w1.heap.size = db at *
   by_cases hd : d = 0
   · subst hd
    have hP : Hid (P = N1.whole) := by have := (ckN_ok HD.out).1; rw [HQ.out] at this; exact this
    have HA : Aside (EntSl W2 (.slice sa0 sm0 sc0) N0.u.cells) := by have := (HG.out W2 HB2.out).2.1.unit.ents; exact this
    obtain rfl : sm0 = 60 := by
     have h60 : N0.ck = 0 := HS.out.1 (by omega)
     rw [← SlOf.len (cs := En.cells) (k := 5) HA.out]; exact (ckN_ok h60).2.2
    obtain rfl : n1 = 60 := by
     rw [← SlOf.len (cs := En.cells) (k := 5) HU2.out.ents, hP.out]; exact (ckN_ok HD.out).2.1
    have hl1 : P.cells.length = 60 := SlOf.len (cs := En.cells) (k := 5) HU2.out.ents
    have hl3 : N0.u.cells.length = 60 := SlOf.len (cs := En.cells) (k := 5) HA.out
    obtain ⟨p0, p1, -, -, -⟩ := (row_threeN (HE.out _ HB2.out)).1
    have kf := fun W (h : Below W2.heap.size W2 W) => wfollows_any b1 sa0 l1 sc0 P.p N0.u.p P.cells N0.u.cells W (HU2.out.later h).ents (SlOf.later (cs := En.cells) (k := 5) HA.out h) hl1 hl3
    obtain ⟨sb, HSB⟩ : ∃ sb, Hid (decide (Within P.cells N0.u.cells) = sb) := ⟨_, rfl⟩
    rw [HSB.out] at kf
    have hwr0 : IntKind.i64.wrap 0 = 0 := rfl
    have hwr1 : IntKind.i64.wrap 1 = 1 := rfl
    have e0 : Aside (W2.cell? ⟨b, off, none⟩ = some (.int .i64 N0.u.p)) := p0
    have e1 : Aside (W2.cell? ⟨b, off + 1, none⟩ = some (.slice sa0 60 sc0)) := p1
    clear hl1 hl3 p0 p1
    go_upto_region 7 with fail
    refine wp_region_held_drew (S := fun W' => Below W2.heap.size W2 W') (by kernel_rfl) ((Below.refl _ _).drew) (fun hHeld => ?_)
    refine tk 0 (v := ?_) rfl (by kernel_rfl) (by rfl) (by assumption) (fun _ _ _ h => h) ?_ ?_
    rotate_left
    · intro w0 hSw; clear hSw; go_simp; first | done | with_reducible rfl
    try simp only [Act.put, qa, qb, qc]
    refine tk 1 (v := ?_) rfl (by kernel_rfl) (by rfl) (by assumption) (fun _ _ _ h => h) ?_ ?_
    rotate_left
    · intro w0 hSw; clear hSw; go_simp; first | done | with_reducible rfl
    try simp only [Act.put, qa, qb, qc]
    refine tk 2 (v := ?_) rfl (by kernel_rfl) (by rfl) (by assumption) (fun _ _ _ h => h) ?_ ?_
    rotate_left
    · intro w0 hSw; clear hSw; go_simp; first | done | with_reducible rfl
    try simp only [Act.put, qa, qb, qc]
    refine tk 3 (v := ?_) rfl (by kernel_rfl) (by rfl) (by assumption) (fun _ _ _ h => h) ?_ ?_
    rotate_left
    · intro w0 hSw; have q := fun i => Joins.cell_of_block (heap_below HY2.out hSw (heap_lt HY2.out)) i; clear hSw; go_simp; first | done | with_reducible rfl
    try simp only [Act.put, qa, qb, qc]
    refine tk 4 (v := ?_) rfl (by kernel_rfl) (by rfl) (by assumption) (fun _ _ _ h => h) ?_ ?_
    rotate_left
    · intro w0 hSw; clear hSw; go_simp; first | done | with_reducible rfl
    try simp only [Act.put, qa, qb, qc]
    refine tk 5 (v := ?_) rfl (by kernel_rfl) (by rfl) (by assumption) (fun _ _ _ h => h) ?_ ?_
    rotate_left
    · intro w0 hSw; clear hSw; go_simp; first | done | with_reducible rfl
    try simp only [Act.put, qa, qb, qc]
    refine tk 6 (v := ?_) rfl (by kernel_rfl) (by rfl) (by assumption) (fun _ _ _ h => h) ?_ ?_
    rotate_left
    · intro w0 hSw; clear hSw; go_simp; first | done | with_reducible rfl
    try simp only [Act.put, qa, qb, qc]
    refine tk 7 (v := ?_) rfl (by kernel_rfl) (by rfl) (by assumption) (fun _ _ _ h => h) ?_ ?_
    rotate_left
    · intro w0 hSw; clear hSw; go_simp; first | done | with_reducible rfl
    try simp only [Act.put, qa, qb, qc]
    refine tk 8 (v := ?_) rfl (by kernel_rfl) (by rfl) (by assumption) (fun _ _ _ h => h) ?_ ?_
    rotate_left
    · intro w0 hSw; clear hSw; go_simp; first | done | with_reducible rfl
    try simp only [Act.put, qa, qb, qc]
    refine tk 9 (v := ?_) rfl (by kernel_rfl) (by rfl) (by assumption) (fun _ _ _ h => h) ?_ ?_
    rotate_left
    · intro w0 hSw; have q0 := cell_later hSw e0.out; have q1 := cell_later hSw e1.out; clear hSw; go_simp; first | done | with_reducible rfl
    try simp only [Act.put, qa, qb, qc]
    refine rdy 10 (by kernel_rfl) rfl (fun K hK => ?_)
    go_simp
    refine (kf _ hHeld).mono ?_
    rintro e w3 ⟨rfl, hb3⟩
    refine hK.out _ _ (step_below1 hHeld hb3) (fun hHeld => ?_)
    clear hK K
    try simp only [Act.put, qa, qb, qc]
    refine tk 11 (v := ?_) rfl (by kernel_rfl) (by rfl) (by assumption) (fun _ _ _ h => h) ?_ ?_
    rotate_left
    · intro w0 hSw; clear hSw; go_simp; first | done | with_reducible rfl
    try simp only [Act.put, qa, qb, qc]
    refine tk 12 (v := ?_) rfl (by kernel_rfl) (by rfl) (by assumption) (fun _ _ _ h => h) ?_ ?_
    rotate_left
    · intro w0 hSw; clear hSw; go_simp; first | done | with_reducible rfl
    try simp only [Act.put, qa, qb, qc]
    refine wpAnyH_done (by kernel_rfl) ?_ _
    have HB3 : Aside _ := step_below1 HB2.out hHeld
    cases sb with
    | false =>
     have HR : Hid (cc = 4) := by
      rw [Hid, HC.out, if_neg (by simpa using HS.out.1 (by omega)), if_neg (by simp [behindB]), if_neg (by simpa using HD.out), if_pos]
      rw [← hP.out, ← Bool.not_eq_true, withinB_iff]; exact of_decide_eq_false HSB.out
     clear HC hP
     go_wp2
     go_ret
     exact ⟨by rw [HR.out]; rfl, HB3.out⟩
    | true =>
     have HW : Hid (withinB N1.whole.cells N0.u.cells = true) := by rw [Hid, ← hP.out, withinB_iff]; exact of_decide_eq_true HSB.out
     clear hP
     go_wp2
     go_roundw
     case rel => exact ⟨2, Or.inr (Or.inr (Or.inl ⟨rfl, rfl⟩)), HB3.out, ⟨fun _ => HS.out.1 (by omega), fun _ => ⟨HD.out, HW.out⟩, fun h => (by omega)⟩⟩
     case measure => simp [intOf]
   · have hdb : (d != 0) = true := by rw [bne_iff_ne]; exact hd
    have HR : Hid (cc = d) := by rw [Hid, HC.out, if_neg (by simpa using HS.out.1 (by omega)), if_neg (by simp [behindB]), if_pos (by rw [HD.out]; exact hd), HD.out]
    clear hd HC
    go_wp2
    go_ret
    exact ⟨by rw [HR.out]; rfl, HB2.out⟩
  · have hB1 := grew hB (boxNb ⟨N2, .slice sa2 sm2 sc2, .slice ta2 tm2 tc2, .slice ua2 um2 uc2⟩)
   have kc := w_checkNode ⟨N2, .slice sa2 sm2 sc2, .slice ta2 tm2 tc2, .slice ua2 um2 uc2⟩ _ (HG.out _ hB1).1 (HG.out _ hB1).2.2.2 HN.out.2.2.1 HN.out.2.2.2.1 HN.out.2.2.2.2
   have HB1 : Aside _ := hB1
   have HX1 : Aside ((wr.alloc (boxNb ⟨N2, .slice sa2 sm2 sc2, .slice ta2 tm2 tc2, .slice ua2 um2 uc2⟩)).heap[wr.heap.size]? = some (boxNb ⟨N2, .slice sa2 sm2 sc2, .slice ta2 tm2 tc2, .slice ua2 um2 uc2⟩)) := heap_new _ _
   have HS : Hid _ := hst.out
   obtain ⟨⟨P, d⟩, HQ⟩ : ∃ q, Hid (ckN N2 = q) := ⟨_, rfl⟩
   have hde : N2.ck = d := by rw [← ckN_err, HQ.out]
   have HD : Hid (N2.ck = d) := hde
   rw [HQ.out] at kc
   clear hB hB1 hst hde
   go_upto_region 4 with fail
   clear p0 p1 p2 p3 p4 q0 q1 q2 q3 q4 r0 r1 r2 r3 r4
   generalize wr.alloc (boxNb ⟨N2, .slice sa2 sm2 sc2, .slice ta2 tm2 tc2, .slice ua2 um2 uc2⟩) = Z at *
   generalize wr.heap.size = cb at *
   have z := fun i => Joins.cell_of_block HX1.out i
   go_wp2_with fail
   refine kc.mono ?_
   rintro e w1 ⟨v', rfl, hU2, hb1⟩
   dsimp only at hU2
   obtain ⟨b1, n1, l1, rfl⟩ := roomy_sl hU2.room
   have hBA : Below w1.heap.size w1 (w1.alloc (boxU P.p (.slice b1 n1 l1))) := grew (Below.refl _ _) _
   have HB2 : Aside (Below w.heap.size w (w1.alloc (boxU P.p (.slice b1 n1 l1)))) := step_below1 (step_below1 HB1.out hb1) hBA
   have HY2 : Aside ((w1.alloc (boxU P.p (.slice b1 n1 l1))).heap[w1.heap.size]? = some (boxU P.p (.slice b1 n1 l1))) := heap_new _ _
   have HU2 : Aside (UnitAt (w1.alloc (boxU P.p (.slice b1 n1 l1))) (.slice b1 n1 l1) P) := hU2.later hBA
   clear kc z HB1 HX1 hU2 hb1 hBA
   go_upto_region 5 with fail
   generalize w1.alloc (boxU P.p (.slice b1 n1 l1)) = W2 at *
   generalize w1.heap.size = db at *
   by_cases hd : d = 0
   · subst hd
    have hP : Hid (P = N2.whole) := by have := (ckN_ok HD.out).1; rw [HQ.out] at this; exact this
    have HA : Aside (EntSl W2 (.slice sa1 sm1 sc1) N1.u.cells) := by have := (HG.out W2 HB2.out).2.2.1.unit.ents; exact this
    obtain rfl : sm1 = 60 := by
     have h60 : N1.ck = 0 := (HS.out.2.1 (by omega)).1
     rw [← SlOf.len (cs := En.cells) (k := 5) HA.out]; exact (ckN_ok h60).2.2
    obtain rfl : n1 = 60 := by
     rw [← SlOf.len (cs := En.cells) (k := 5) HU2.out.ents, hP.out]; exact (ckN_ok HD.out).2.1
    have hl1 : P.cells.length = 60 := SlOf.len (cs := En.cells) (k := 5) HU2.out.ents
    have hl3 : N1.u.cells.length = 60 := SlOf.len (cs := En.cells) (k := 5) HA.out
    obtain ⟨q0, q1, -, -, -⟩ := (row_threeN (HE.out _ HB2.out)).2.1
    have kf := fun W (h : Below W2.heap.size W2 W) => wfollows_any b1 sa1 l1 sc1 P.p N1.u.p P.cells N1.u.cells W (HU2.out.later h).ents (SlOf.later (cs := En.cells) (k := 5) HA.out h) hl1 hl3
    obtain ⟨sb, HSB⟩ : ∃ sb, Hid (decide (Within P.cells N1.u.cells) = sb) := ⟨_, rfl⟩
    rw [HSB.out] at kf
    have hwr0 : IntKind.i64.wrap 0 = 0 := rfl
    have hwr1 : IntKind.i64.wrap 1 = 1 := rfl
    have e0 : Aside (W2.cell? ⟨b, off + 5, none⟩ = some (.int .i64 N1.u.p)) := q0
    have e1 : Aside (W2.cell? ⟨b, off + 5 + 1, none⟩ = some (.slice sa1 60 sc1)) := q1
    clear hl1 hl3 q0 q1
    go_upto_region 7 with fail
    refine wp_region_held_drew (S := fun W' => Below W2.heap.size W2 W') (by kernel_rfl) ((Below.refl _ _).drew) (fun hHeld => ?_)
    refine tk 0 (v := ?_) rfl (by kernel_rfl) (by rfl) (by assumption) (fun _ _ _ h => h) ?_ ?_
    rotate_left
    · intro w0 hSw; clear hSw; go_simp; first | done | with_reducible rfl
    try simp only [Act.put, qa, qb, qc]
    refine tk 1 (v := ?_) rfl (by kernel_rfl) (by rfl) (by assumption) (fun _ _ _ h => h) ?_ ?_
    rotate_left
    · intro w0 hSw; clear hSw; go_simp; first | done | with_reducible rfl
    try simp only [Act.put, qa, qb, qc]
    refine tk 2 (v := ?_) rfl (by kernel_rfl) (by rfl) (by assumption) (fun _ _ _ h => h) ?_ ?_
    rotate_left
    · intro w0 hSw; clear hSw; go_simp; first | done | with_reducible rfl
    try simp only [Act.put, qa, qb, qc]
    refine tk 3 (v := ?_) rfl (by kernel_rfl) (by rfl) (by assumption) (fun _ _ _ h => h) ?_ ?_
    rotate_left
    · intro w0 hSw; have q := fun i => Joins.cell_of_block (heap_below HY2.out hSw (heap_lt HY2.out)) i; clear hSw; go_simp; first | done | with_reducible rfl
    try simp only [Act.put, qa, qb, qc]
    refine tk 4 (v := ?_) rfl (by kernel_rfl) (by rfl) (by assumption) (fun _ _ _ h => h) ?_ ?_
    rotate_left
    · intro w0 hSw; clear hSw; go_simp; first | done | with_reducible rfl
    try simp only [Act.put, qa, qb, qc]
    refine tk 5 (v := ?_) rfl (by kernel_rfl) (by rfl) (by assumption) (fun _ _ _ h => h) ?_ ?_
    rotate_left
    · intro w0 hSw; clear hSw; go_simp; first | done | with_reducible rfl
    try simp only [Act.put, qa, qb, qc]
    refine tk 6 (v := ?_) rfl (by kernel_rfl) (by rfl) (by assumption) (fun _ _ _ h => h) ?_ ?_
    rotate_left
    · intro w0 hSw; clear hSw; go_simp; first | done | with_reducible rfl
    try simp only [Act.put, qa, qb, qc]
    refine tk 7 (v := ?_) rfl (by kernel_rfl) (by rfl) (by assumption) (fun _ _ _ h => h) ?_ ?_
    rotate_left
    · intro w0 hSw; clear hSw; go_simp; first | done | with_reducible rfl
    try simp only [Act.put, qa, qb, qc]
    refine tk 8 (v := ?_) rfl (by kernel_rfl) (by rfl) (by assumption) (fun _ _ _ h => h) ?_ ?_
    rotate_left
    · intro w0 hSw; clear hSw; go_simp; first | done | with_reducible rfl
    try simp only [Act.put, qa, qb, qc]
    refine tk 9 (v := ?_) rfl (by kernel_rfl) (by rfl) (by assumption) (fun _ _ _ h => h) ?_ ?_
    rotate_left
    · intro w0 hSw; have q0 := cell_later hSw e0.out; have q1 := cell_later hSw e1.out; clear hSw; go_simp; first | done | with_reducible rfl
    try simp only [Act.put, qa, qb, qc]
    refine rdy 10 (by kernel_rfl) rfl (fun K hK => ?_)
    go_simp
    refine (kf _ hHeld).mono ?_
    rintro e w3 ⟨rfl, hb3⟩
    refine hK.out _ _ (step_below1 hHeld hb3) (fun hHeld => ?_)
    clear hK K
    try simp only [Act.put, qa, qb, qc]
    refine tk 11 (v := ?_) rfl (by kernel_rfl) (by rfl) (by assumption) (fun _ _ _ h => h) ?_ ?_
    rotate_left
    · intro w0 hSw; clear hSw; go_simp; first | done | with_reducible rfl
    try simp only [Act.put, qa, qb, qc]
    refine tk 12 (v := ?_) rfl (by kernel_rfl) (by rfl) (by assumption) (fun _ _ _ h => h) ?_ ?_
    rotate_left
    · intro w0 hSw; clear hSw; go_simp; first | done | with_reducible rfl
    try simp only [Act.put, qa, qb, qc]
    refine wpAnyH_done (by kernel_rfl) ?_ _
    have HB3 : Aside _ := step_below1 HB2.out hHeld
    cases sb with
    | false =>
     have HR : Hid (cc = 4) := by
      rw [Hid, HC.out, if_neg (by simpa using HS.out.1 (by omega)), if_neg (by simp [behindB]), if_neg (by simpa using (HS.out.2.1 (by omega)).1), if_neg (by rw [(HS.out.2.1 (by omega)).2]; simp), if_neg (by simpa using HD.out), if_pos]
      rw [← hP.out, ← Bool.not_eq_true, withinB_iff]; exact of_decide_eq_false HSB.out
     clear HC hP
     go_wp2
     go_ret
     exact ⟨by rw [HR.out]; rfl, HB3.out⟩
    | true =>
     have HW : Hid (withinB N2.whole.cells N1.u.cells = true) := by rw [Hid, ← hP.out, withinB_iff]; exact of_decide_eq_true HSB.out
     clear hP
     go_wp2
     go_roundw
     case rel => exact ⟨3, Or.inr (Or.inr (Or.inr ⟨rfl, rfl⟩)), HB3.out, ⟨fun _ => HS.out.1 (by omega), fun _ => HS.out.2.1 (by omega), fun _ => ⟨HD.out, HW.out⟩⟩⟩
     case measure => simp [intOf]
   · have hdb : (d != 0) = true := by rw [bne_iff_ne]; exact hd
    have HR : Hid (cc = d) := by rw [Hid, HC.out, if_neg (by simpa using HS.out.1 (by omega)), if_neg (by simp [behindB]), if_neg (by simpa using (HS.out.2.1 (by omega)).1), if_neg (by rw [(HS.out.2.1 (by omega)).2]; simp), if_pos (by rw [HD.out]; exact hd), HD.out]
    clear hd HC
    go_wp2
    go_ret
    exact ⟨by rw [HR.out]; rfl, HB2.out⟩
  · have HS : Hid _ := hst.out
   have HR : Hid (cc = 0) := by rw [Hid, HC.out, if_neg (by simpa using HS.out.1 (by omega)), if_neg (by simp [behindB]), if_neg (by simpa using (HS.out.2.1 (by omega)).1), if_neg (by rw [(HS.out.2.1 (by omega)).2]; simp), if_neg (by simpa using (HS.out.2.2 (by omega)).1), if_neg (by rw [(HS.out.2.2 (by omega)).2]; simp)]
   have HB2 : Aside (Below w.heap.size w wr) := hB
   clear hst HC hB
   clear p0 p1 p2 p3 p4 q0 q1 q2 q3 q4 r0 r1 r2 r3 r4
   go_wp2
   go_ret
   exact ⟨by rw [HR.out]; rfl, HB2.out⟩
end
section
open scoped Classical
open Go.Shelf
theorem bk_many (a1 a2 : Option Addr) (n1 n2 c1 c2 : Nat) (w : World) (h : 6 < (n1 : Int) ∨ ((n1 : Int) ≤ 6 ∧ 60 < (n2 : Int))) :
  Calls Tryz.prog 117 #[.agg #[.slice a1 n1 c1, .slice a2 n2 c2]] w fun e w' => e = .returned (.int .i64 2) ∧ Below w.heap.size w w' := by
 rcases h with h | ⟨h, h'⟩
 · go_enter Tryz.func117, Tryz.ntmps117
  go_wp2
  go_ret
  exact ⟨rfl, grew (Below.refl _ _) _⟩
 · go_enter Tryz.func117, Tryz.ntmps117
  go_wp2
  go_ret
  exact ⟨rfl, grew (Below.refl _ _) _⟩
theorem ckRungs_idx (rs : List Rg) : ckRungs rs = if 0 ≤ idx Rg.bad rs then 3 else 0 := by
 rcases idx_ways Rg.bad rs with ⟨h, hn⟩ | ⟨k, x, h, hk, hx, hb, hz⟩
 · rw [h, if_neg (by omega)]
  exact (ckRungs_zero rs).2 hn
 · rw [h, if_pos (by omega)]
  have hx' : x ∈ rs := List.mem_of_getElem? hx
  clear h hk hx hz
  induction rs with
  | nil => cases hx'
  | cons y r ih =>
   rw [ckRungs]
   by_cases hy : y.bad = true
   · rw [if_pos hy]
   · rw [if_neg hy]
    rcases List.mem_cons.1 hx' with rfl | hx'
    · exact absurd hb hy
    · exact ih hx'
theorem check_pred (w : World) (W : World) (x : Rg) (hb : Below w.heap.size w W) :
  Calls Tryz.prog 153 (#[x.val] ++ #[]) W fun e w' => e = .returned (.bool x.bad) ∧ Below w.heap.size w w' := by
 have hin := fun W => rungIn x W
 generalize x.bad = b at *
 show Calls Tryz.prog 153 #[x.val] W _
 go_enter Tryz.func153, Tryz.ntmps153
 go_wp2_with fail
 refine (hin _).mono ?_
 rintro e w' ⟨rfl, hb'⟩
 go_wp2
 go_ret
 exact ⟨by cases b <;> rfl, (hb.alloc hb.size _).trans (hb'.mono (by have := hb.size; simp; omega))⟩
theorem contR (v : Value) (rs : List Rg) (w : World) (hv : RungSl w v rs) (hn : rs.length ≤ most) :
  Calls Tryz.prog 152 #[v, .func (.func 153) #[] #[]] w fun e w' => e = .returned (.bool (decide (0 ≤ idx Rg.bad rs))) ∧ Below w.heap.size w w' := by
 have eg : ∀ args w, (callFunc 153 args).run Tryz.prog w = .ok (.enter 153 args) w := enters_of Tryz.func153 (by kernel_rfl) rfl
 have hcon := idxFR Rg.bad 153 #[] eg v rs w hv hn (check_pred w)
 obtain ⟨a1, c1, rfl, _⟩ := hv
 generalize idx Rg.bad rs = r at hcon ⊢
 generalize rs.length = n1 at *
 go_enter Tryz.func152, Tryz.ntmps152
 go_wp2_with (go_at_call 182; refine hcon.mono ?_; rintro e w' ⟨rfl, hb'⟩)
 all_goals
  go_ret
  exact ⟨by simp_all, hb'⟩
theorem bk_few (a1 a2 : Option Addr) (n1 n2 c1 c2 : Nat) (js : List Jb) (rs : List Rg) (w : World) (h1 : JobSl w (.slice a1 n1 c1) js) (h2 : RungSl w (.slice a2 n2 c2) rs) (hn1 : (n1 : Int) ≤ 6) (hn2 : (n2 : Int) ≤ 60) :
  Calls Tryz.prog 117 #[.agg #[.slice a1 n1 c1, .slice a2 n2 c2]] w fun e w' => e = .returned (.int .i64 (ckBook js rs)) ∧ Below w.heap.size w w' := by
 have L1 : Hid (js.length = n1) := h1.len
 have H1 : Hid (JobSl w (.slice a1 n1 c1) js) := h1
 have HC : Hid (ckBook js rs = if ckJobs (-1) js ≠ 0 then ckJobs (-1) js else ckRungs rs) := by
  have := L1.out; have := h2.len
  rw [Hid, ckBook, if_neg (by omega)]
 have hcont : Aside (∀ W, Below w.heap.size w W → Calls Tryz.prog 152 #[.slice a2 n2 c2, .func (.func 153) #[] #[]] W fun e w' => e = .returned (.bool (decide (0 ≤ idx Rg.bad rs))) ∧ Below W.heap.size W w') :=
  fun W hb => contR _ rs W (h2.later hb) (by have := h2.len; unfold most; omega)
 clear h1 h2
 go_enter Tryz.func117, Tryz.ntmps117
 go_wp2
 go_loopw [3, 19] (fun l i wr => ∃ (k : Nat) (lv : Int), k ≤ n1 ∧ i = .int .i64 k ∧ l = .int .i64 lv ∧ wr.heap[w.heap.size]? = some (boxB (.slice a1 n1 c1) (.slice a2 n2 c2)) ∧ Below w.heap.size w wr ∧ Hid (ckJobs (-1) js = ckJobs lv (js.drop k))) (fun _ i _ => n1 - (intOf i).toNat)
 case atStart => exact ⟨0, -1, Nat.zero_le _, rfl, rfl, heap_new _ _, grew (Below.refl _ _) _, rfl⟩
 case round =>
  obtain ⟨k, lv, hk, rfl, rfl, hb, hB, hst⟩ := hrel
  by_cases hlt : k < n1
  · obtain ⟨x, hx⟩ : ∃ x, js[k]? = some x := ⟨js[k]'(by have := L1.out; omega), List.getElem?_eq_getElem _⟩
   obtain ⟨b, off, rfl, hE0⟩ := H1.out.at (by omega)
   have hE := hE0.later hB
   have c0 : wr.cell? ⟨b, off + k * 3, none⟩ = some (.int .i64 x.i) := hE k x hx 0 _ rfl
   have c1 : wr.cell? ⟨b, off + k * 3 + 1, none⟩ = some (.int .i64 x.e) := hE k x hx 1 _ rfl
   have c2 : wr.cell? ⟨b, off + k * 3 + 2, none⟩ = some (.int .i64 x.n) := hE k x hx 2 _ rfl
   have hd : Hid (ckJobs (-1) js = if x.bad = true then 3 else if x.i ≤ lv then 6 else ckJobs x.i (js.drop (k + 1))) := by
    rw [Hid, hst.out, drop_at hx, ckJobs]
   have hin := fun W => jobIn x W
   clear hE hE0 hst hx H1 hcont
   cases hbad : x.bad with
   | true =>
    have HF : Hid (ckBook js rs = 3) := by rw [Hid, HC.out, hd.out, if_pos hbad]; rfl
    rw [hbad] at hin
    clear hd hbad HC
    go_wp2_with fail
    refine (hin _).mono ?_
    rintro e w1 ⟨rfl, hb1⟩
    have hB1 := step_below' (grew hB (boxJ x)) hb1
    clear hb1 hin
    go_wp2
    go_ret
    exact ⟨by rw [HF.out]; rfl, hB1⟩
   | false =>
    rw [hbad] at hin
    by_cases hle : x.i ≤ lv
    · have HF : Hid (ckBook js rs = 6) := by
      have hv : ckJobs (-1) js = 6 := by rw [hd.out, if_neg (by simp [hbad]), if_pos hle]
      rw [Hid, HC.out, hv]; rfl
     clear hd hbad HC
     go_wp2_with fail
     refine (hin _).mono ?_
     rintro e w1 ⟨rfl, hb1⟩
     have hB1 := step_below' (grew hB (boxJ x)) hb1
     have x1 : w1.heap[wr.heap.size]? = some (boxJ x) := heap_below (heap_new _ _) hb1 (by rw [World.size_alloc]; omega)
     have y1 := fun i => Joins.cell_of_block x1 i
     clear hb1 hin x1
     go_wp2
     go_ret
     exact ⟨by rw [HF.out]; rfl, hB1⟩
    · have HF : Hid (ckJobs (-1) js = ckJobs x.i (js.drop (k + 1))) := by rw [Hid, hd.out, if_neg (by simp [hbad]), if_neg hle]
     have hgt : lv < x.i := by omega
     clear hd hbad hle
     go_wp2_with fail
     refine (hin _).mono ?_
     rintro e w1 ⟨rfl, hb1⟩
     have hB1 := step_below' (grew hB (boxJ x)) hb1
     have x1 : w1.heap[wr.heap.size]? = some (boxJ x) := heap_below (heap_new _ _) hb1 (by rw [World.size_alloc]; omega)
     have hbx : w1.heap[w.heap.size]? = some (boxB (.slice (some ⟨b, off, none⟩) n1 _) (.slice a2 n2 _)) := heap_below (heap_old hb _) hb1 (by rw [World.size_alloc]; have := heap_lt hb; omega)
     have y1 := fun i => Joins.cell_of_block x1 i
     clear hb1 hin x1
     go_wp2
     go_roundw
     case rel => exact ⟨k + 1, x.i, by omega, by go_num, rfl, hbx, hB1, HF.out⟩
     case measure => simp [intOf]; omega
  · have hkn : k = n1 := by omega
   subst hkn
   have HJ : Hid (ckBook js rs = if 0 ≤ idx Rg.bad rs then 3 else 0) := by
    have : ckJobs (-1) js = 0 := by rw [hst.out, List.drop_of_length_le (by have := L1.out; omega)]; rfl
    rw [Hid, HC.out, if_neg (by simp [this]), ckRungs_idx]
   have cB := fun i => Joins.cell_of_block hb i
   have hc := hcont.out wr hB
   clear hst HC H1 hcont
   by_cases hi : 0 ≤ idx Rg.bad rs
   all_goals
    have HF := HJ.out
    first | rw [if_pos hi] at HF | rw [if_neg hi] at HF
    first | rw [decide_eq_true hi] at hc | rw [decide_eq_false hi] at hc
    replace HF : Hid _ := HF
    clear HJ hi
    go_wp2_with (go_at_call 152; refine hc.mono ?_; rintro e w' ⟨rfl, hb'⟩)
    go_ret
    exact ⟨by rw [HF.out]; rfl, step_below' hB hb'⟩
theorem bk_check (v1 v2 : Value) (js : List Jb) (rs : List Rg) (w : World) (h1 : JobSl w v1 js) (h2 : RungSl w v2 rs) :
  Calls Tryz.prog 117 #[.agg #[v1, v2]] w fun e w' => e = .returned (.int .i64 (ckBook js rs)) ∧ Below w.heap.size w w' := by
 have h1' := h1
 have h2' := h2
 obtain ⟨a1, c1, rfl, _⟩ := h1
 obtain ⟨a2, c2, rfl, _⟩ := h2
 by_cases hm : 6 < js.length ∨ 60 < rs.length
 · rw [ckBook_many hm]
  exact bk_many a1 a2 _ _ c1 c2 w (by omega)
 · exact bk_few a1 a2 _ _ c1 c2 js rs w h1' h2' (by omega) (by omega)
theorem bk_same (v1 v2 u1 u2 : Value) (js js' : List Jb) (rs rs' : List Rg) (w : World) (h1 : JobSl w v1 js) (h2 : RungSl w v2 rs) (k1 : JobSl w u1 js') (k2 : RungSl w u2 rs') (hn1 : js.length ≤ most) (hn2 : rs.length ≤ most) :
  Calls Tryz.prog 34 #[.agg #[v1, v2], .agg #[u1, u2]] w fun e w' => e = .returned (.bool (decide (js = js') && decide (rs = rs'))) ∧ Below w.heap.size w w' := by
 have H1 : Hid (JobSl w v1 js) := h1
 have H2 : Hid (RungSl w v2 rs) := h2
 have K1 : Hid (JobSl w u1 js') := k1
 have K2 : Hid (RungSl w u2 rs') := k2
 obtain ⟨a1, c1, rfl, _⟩ := h1
 obtain ⟨a2, c2, rfl, _⟩ := h2
 obtain ⟨b1, d1, rfl, _⟩ := k1
 obtain ⟨b2, d2, rfl, _⟩ := k2
 have hq1 := fun W g1 g2 => equalJ (.slice a1 js.length c1) (.slice b1 js'.length d1) js js' W g1 g2 hn1
 have hq2 := fun W g1 g2 => equalR (.slice a2 rs.length c2) (.slice b2 rs'.length d2) rs rs' W g1 g2 hn2
 clear hn1 hn2
 generalize hm1 : js.length = n1 at *
 generalize hm2 : rs.length = n2 at *
 generalize hm3 : js'.length = n3 at *
 generalize hm4 : rs'.length = n4 at *
 clear hm1 hm2 hm3 hm4
 generalize decide (js = js') = p at *
 generalize decide (rs = rs') = q at *
 go_enter Tryz.func34, Tryz.ntmps34
 go_wp2_with fail
 have hB0 := grew (grew (Below.refl w.heap.size w) (boxB (.slice a1 n1 c1) (.slice a2 n2 c2))) (boxB (.slice b1 n3 d1) (.slice b2 n4 d2))
 refine (hq1 _ (by exact H1.out.later hB0) (by exact K1.out.later hB0)).mono ?_
 rintro e w1 ⟨rfl, hb1⟩
 have x1 : w1.heap[w.heap.size]? = some (boxB (.slice a1 n1 c1) (.slice a2 n2 c2)) := by rw [hb1.block _ (by simp only [World.size_alloc]; omega)]; exact heap_old (heap_new _ _) _
 have x2 : w1.heap[w.heap.size + 1]? = some (boxB (.slice b1 n3 d1) (.slice b2 n4 d2)) := by
  rw [hb1.block _ (by simp only [World.size_alloc]; omega)]
  have := heap_new (w.alloc (boxB (.slice a1 n1 c1) (.slice a2 n2 c2))) (boxB (.slice b1 n3 d1) (.slice b2 n4 d2))
  rwa [World.size_alloc] at this
 have hB1 : Below w.heap.size w w1 := hB0.trans (hb1.mono (by simp; omega))
 clear hb1 hB0 hq1
 have y1 := fun i => Joins.cell_of_block x1 i
 have y2 := fun i => Joins.cell_of_block x2 i
 clear x1 x2
 cases p with
 | false =>
  clear hq2
  go_wp2
  go_ret
  exact ⟨rfl, hB1⟩
 | true =>
  go_wp2_with fail
  refine (hq2 _ (by exact H2.out.later hB1) (by exact K2.out.later hB1)).mono ?_
  rintro e w2 ⟨rfl, hb2⟩
  have hB2 := hB1.trans (hb2.mono hB1.size)
  clear hb2 hq2 hB1 y1 y2
  go_wp2
  go_ret
  exact ⟨by cases q <;> rfl, hB2⟩
end
section
open scoped Classical
theorem junk_any (x : En) (w : World) :
  Calls Tryz.prog 150 #[x.val] w fun e w' => e = .returned (.bool (x.k == 0)) ∧ Below w.heap.size w w' := by
 go_enter Tryz.func150, Tryz.ntmps150
 go_wp2
 go_ret
 exact ⟨rfl, grew (Below.refl _ _) _⟩
theorem cplace_any (q : Int) (w : World) :
  Calls Tryz.prog 146 #[.int .i64 q] w fun e w' => e = .returned (.bool (decide (0 ≤ q ∧ q ≤ 59))) ∧ w' = w := by
 have hc : ¬ 0 ≤ q ∨ (0 ≤ q ∧ ¬ q < 60) ∨ (0 ≤ q ∧ q < 60) := by omega
 rcases hc with h | ⟨h, h'⟩ | ⟨h, h'⟩
 · rw [show decide (0 ≤ q ∧ q ≤ 59) = false from decide_eq_false (by omega)]
  go_enter Tryz.func146, Tryz.ntmps146
  go_wp2
  go_ret
  exact ⟨rfl, rfl⟩
 · rw [show decide (0 ≤ q ∧ q ≤ 59) = false from decide_eq_false (by omega)]
  go_enter Tryz.func146, Tryz.ntmps146
  go_wp2
  go_ret
  exact ⟨ret_bool (by simp <;> omega), rfl⟩
 · rw [show decide (0 ≤ q ∧ q ≤ 59) = true from decide_eq_true (by omega)]
  go_enter Tryz.func146, Tryz.ntmps146
  go_wp2
  go_ret
  exact ⟨ret_bool (by simp <;> omega), rfl⟩
theorem cepoch_any (q : Int) (w : World) :
  Calls Tryz.prog 145 #[.int .i64 q] w fun e w' => e = .returned (.bool (decide (1 ≤ q ∧ q ≤ 20))) ∧ w' = w := by
 have hc : ¬ 1 ≤ q ∨ (1 ≤ q ∧ ¬ q ≤ 20) ∨ (1 ≤ q ∧ q ≤ 20) := by omega
 rcases hc with h | ⟨h, h'⟩ | ⟨h, h'⟩
 · rw [show decide (1 ≤ q ∧ q ≤ 20) = false from decide_eq_false (by omega)]
  go_enter Tryz.func145, Tryz.ntmps145
  go_wp2
  go_ret
  exact ⟨rfl, rfl⟩
 · rw [show decide (1 ≤ q ∧ q ≤ 20) = false from decide_eq_false (by omega)]
  go_enter Tryz.func145, Tryz.ntmps145
  go_wp2
  go_ret
  exact ⟨ret_bool (by simp <;> omega), rfl⟩
 · rw [show decide (1 ≤ q ∧ q ≤ 20) = true from decide_eq_true (by omega)]
  go_enter Tryz.func145, Tryz.ntmps145
  go_wp2
  go_ret
  exact ⟨ret_bool (by simp <;> omega), rfl⟩
theorem cr_0 (c : Cl) (a1 a2 : Option Addr) (m1 k1 m2 k2 : Nat) (w : World)  (h0 : ¬ (1 ≤ c.p ∧ c.p ≤ 20)) :
  Calls Tryz.prog 114 #[c.val (.slice a1 m1 k1) (.slice a2 m2 k2)] w fun e w' => e = .returned (.bool false) ∧ Below w.heap.size w w' := by
 have HX0 : Aside ((w.alloc (boxC c (.slice a1 m1 k1) (.slice a2 m2 k2))).heap[w.heap.size]? = some (boxC c (.slice a1 m1 k1) (.slice a2 m2 k2))) := heap_new _ _
 have HB0 : Aside (Below w.heap.size w (w.alloc (boxC c (.slice a1 m1 k1) (.slice a2 m2 k2)))) := grew (Below.refl _ _) _
 obtain ⟨p, d, e, a, l, n, js, rs⟩ := c
 try simp only at *
 have ip := fun W => cepoch_any p W
 rw [decide_eq_false h0] at ip
 clear h0
 go_enter Tryz.func114, Tryz.ntmps114
 go_wp2_with fail
 refine (ip _).mono ?_
 rintro r wx ⟨rfl, rfl⟩
 go_wp2
 go_ret
 first | exact ⟨rfl, HB0.out⟩ | exact ⟨rfl, HB0.out⟩
theorem cr_1 (c : Cl) (a1 a2 : Option Addr) (m1 k1 m2 k2 : Nat) (w : World) (h0 : 1 ≤ c.p ∧ c.p ≤ 20) (h1 : ¬ (0 ≤ c.d)) :
  Calls Tryz.prog 114 #[c.val (.slice a1 m1 k1) (.slice a2 m2 k2)] w fun e w' => e = .returned (.bool false) ∧ Below w.heap.size w w' := by
 have HX0 : Aside ((w.alloc (boxC c (.slice a1 m1 k1) (.slice a2 m2 k2))).heap[w.heap.size]? = some (boxC c (.slice a1 m1 k1) (.slice a2 m2 k2))) := heap_new _ _
 have HB0 : Aside (Below w.heap.size w (w.alloc (boxC c (.slice a1 m1 k1) (.slice a2 m2 k2)))) := grew (Below.refl _ _) _
 obtain ⟨p, d, e, a, l, n, js, rs⟩ := c
 try simp only at *
 have ip := fun W => cepoch_any p W
 rw [decide_eq_true h0] at ip
 clear h0
 go_enter Tryz.func114, Tryz.ntmps114
 go_wp2_with fail
 refine (ip _).mono ?_
 rintro r wx ⟨rfl, rfl⟩
 go_wp2
 go_ret
 first | exact ⟨rfl, HB0.out⟩ | exact ⟨rfl, HB0.out⟩
theorem cr_2 (c : Cl) (a1 a2 : Option Addr) (m1 k1 m2 k2 : Nat) (w : World) (h0 : 1 ≤ c.p ∧ c.p ≤ 20) (h1 : 0 ≤ c.d) (h2 : ¬ (c.d ≤ 2)) :
  Calls Tryz.prog 114 #[c.val (.slice a1 m1 k1) (.slice a2 m2 k2)] w fun e w' => e = .returned (.bool false) ∧ Below w.heap.size w w' := by
 have HX0 : Aside ((w.alloc (boxC c (.slice a1 m1 k1) (.slice a2 m2 k2))).heap[w.heap.size]? = some (boxC c (.slice a1 m1 k1) (.slice a2 m2 k2))) := heap_new _ _
 have HB0 : Aside (Below w.heap.size w (w.alloc (boxC c (.slice a1 m1 k1) (.slice a2 m2 k2)))) := grew (Below.refl _ _) _
 obtain ⟨p, d, e, a, l, n, js, rs⟩ := c
 try simp only at *
 have ip := fun W => cepoch_any p W
 rw [decide_eq_true h0] at ip
 clear h0
 go_enter Tryz.func114, Tryz.ntmps114
 go_wp2_with fail
 refine (ip _).mono ?_
 rintro r wx ⟨rfl, rfl⟩
 go_wp2
 go_ret
 first | exact ⟨rfl, HB0.out⟩ | exact ⟨ret_bool (by simp <;> omega), HB0.out⟩
theorem cr_3 (c : Cl) (a1 a2 : Option Addr) (m1 k1 m2 k2 : Nat) (w : World) (h0 : 1 ≤ c.p ∧ c.p ≤ 20) (h1 : 0 ≤ c.d) (h2 : c.d ≤ 2) (h3 : ¬ (0 ≤ c.a ∧ c.a ≤ 59)) :
  Calls Tryz.prog 114 #[c.val (.slice a1 m1 k1) (.slice a2 m2 k2)] w fun e w' => e = .returned (.bool false) ∧ Below w.heap.size w w' := by
 have HX0 : Aside ((w.alloc (boxC c (.slice a1 m1 k1) (.slice a2 m2 k2))).heap[w.heap.size]? = some (boxC c (.slice a1 m1 k1) (.slice a2 m2 k2))) := heap_new _ _
 have HB0 : Aside (Below w.heap.size w (w.alloc (boxC c (.slice a1 m1 k1) (.slice a2 m2 k2)))) := grew (Below.refl _ _) _
 obtain ⟨p, d, e, a, l, n, js, rs⟩ := c
 try simp only at *
 have ip := fun W => cepoch_any p W
 rw [decide_eq_true h0] at ip
 have ia := fun W => cplace_any a W
 rw [decide_eq_false h3] at ia
 clear h0 h3
 go_enter Tryz.func114, Tryz.ntmps114
 go_wp2_with fail
 refine (ip _).mono ?_
 rintro r wx ⟨rfl, rfl⟩
 go_wp2_with fail
 refine (ia _).mono ?_
 rintro r wx ⟨rfl, rfl⟩
 go_wp2
 go_ret
 first | exact ⟨rfl, HB0.out⟩ | exact ⟨rfl, HB0.out⟩
theorem cr_4 (c : Cl) (a1 a2 : Option Addr) (m1 k1 m2 k2 : Nat) (w : World) (h0 : 1 ≤ c.p ∧ c.p ≤ 20) (h1 : 0 ≤ c.d) (h2 : c.d ≤ 2) (h3 : 0 ≤ c.a ∧ c.a ≤ 59) (h4 : ¬ (0 ≤ c.l)) :
  Calls Tryz.prog 114 #[c.val (.slice a1 m1 k1) (.slice a2 m2 k2)] w fun e w' => e = .returned (.bool false) ∧ Below w.heap.size w w' := by
 have HX0 : Aside ((w.alloc (boxC c (.slice a1 m1 k1) (.slice a2 m2 k2))).heap[w.heap.size]? = some (boxC c (.slice a1 m1 k1) (.slice a2 m2 k2))) := heap_new _ _
 have HB0 : Aside (Below w.heap.size w (w.alloc (boxC c (.slice a1 m1 k1) (.slice a2 m2 k2)))) := grew (Below.refl _ _) _
 obtain ⟨p, d, e, a, l, n, js, rs⟩ := c
 try simp only at *
 have ip := fun W => cepoch_any p W
 rw [decide_eq_true h0] at ip
 have ia := fun W => cplace_any a W
 rw [decide_eq_true h3] at ia
 clear h0 h3
 go_enter Tryz.func114, Tryz.ntmps114
 go_wp2_with fail
 refine (ip _).mono ?_
 rintro r wx ⟨rfl, rfl⟩
 go_wp2_with fail
 refine (ia _).mono ?_
 rintro r wx ⟨rfl, rfl⟩
 go_wp2
 go_ret
 first | exact ⟨rfl, HB0.out⟩ | exact ⟨rfl, HB0.out⟩
theorem cr_5 (c : Cl) (a1 a2 : Option Addr) (m1 k1 m2 k2 : Nat) (w : World) (h0 : 1 ≤ c.p ∧ c.p ≤ 20) (h1 : 0 ≤ c.d) (h2 : c.d ≤ 2) (h3 : 0 ≤ c.a ∧ c.a ≤ 59) (h4 : 0 ≤ c.l) (h5 : ¬ (c.l < 3)) :
  Calls Tryz.prog 114 #[c.val (.slice a1 m1 k1) (.slice a2 m2 k2)] w fun e w' => e = .returned (.bool false) ∧ Below w.heap.size w w' := by
 have HX0 : Aside ((w.alloc (boxC c (.slice a1 m1 k1) (.slice a2 m2 k2))).heap[w.heap.size]? = some (boxC c (.slice a1 m1 k1) (.slice a2 m2 k2))) := heap_new _ _
 have HB0 : Aside (Below w.heap.size w (w.alloc (boxC c (.slice a1 m1 k1) (.slice a2 m2 k2)))) := grew (Below.refl _ _) _
 obtain ⟨p, d, e, a, l, n, js, rs⟩ := c
 try simp only at *
 have ip := fun W => cepoch_any p W
 rw [decide_eq_true h0] at ip
 have ia := fun W => cplace_any a W
 rw [decide_eq_true h3] at ia
 clear h0 h3
 go_enter Tryz.func114, Tryz.ntmps114
 go_wp2_with fail
 refine (ip _).mono ?_
 rintro r wx ⟨rfl, rfl⟩
 go_wp2_with fail
 refine (ia _).mono ?_
 rintro r wx ⟨rfl, rfl⟩
 go_wp2
 go_ret
 first | exact ⟨rfl, HB0.out⟩ | exact ⟨ret_bool (by simp <;> omega), HB0.out⟩
theorem cr_6 (c : Cl) (a1 a2 : Option Addr) (m1 k1 m2 k2 : Nat) (w : World) (h0 : 1 ≤ c.p ∧ c.p ≤ 20) (h1 : 0 ≤ c.d) (h2 : c.d ≤ 2) (h3 : 0 ≤ c.a ∧ c.a ≤ 59) (h4 : 0 ≤ c.l) (h5 : c.l < 3) (h6 : ¬ (0 ≤ c.n)) :
  Calls Tryz.prog 114 #[c.val (.slice a1 m1 k1) (.slice a2 m2 k2)] w fun e w' => e = .returned (.bool false) ∧ Below w.heap.size w w' := by
 have HX0 : Aside ((w.alloc (boxC c (.slice a1 m1 k1) (.slice a2 m2 k2))).heap[w.heap.size]? = some (boxC c (.slice a1 m1 k1) (.slice a2 m2 k2))) := heap_new _ _
 have HB0 : Aside (Below w.heap.size w (w.alloc (boxC c (.slice a1 m1 k1) (.slice a2 m2 k2)))) := grew (Below.refl _ _) _
 obtain ⟨p, d, e, a, l, n, js, rs⟩ := c
 try simp only at *
 have ip := fun W => cepoch_any p W
 rw [decide_eq_true h0] at ip
 have ia := fun W => cplace_any a W
 rw [decide_eq_true h3] at ia
 clear h0 h3
 go_enter Tryz.func114, Tryz.ntmps114
 go_wp2_with fail
 refine (ip _).mono ?_
 rintro r wx ⟨rfl, rfl⟩
 go_wp2_with fail
 refine (ia _).mono ?_
 rintro r wx ⟨rfl, rfl⟩
 go_wp2
 go_ret
 first | exact ⟨rfl, HB0.out⟩ | exact ⟨rfl, HB0.out⟩
theorem cr_7 (c : Cl) (a1 a2 : Option Addr) (m1 k1 m2 k2 : Nat) (w : World) (h0 : 1 ≤ c.p ∧ c.p ≤ 20) (h1 : 0 ≤ c.d) (h2 : c.d ≤ 2) (h3 : 0 ≤ c.a ∧ c.a ≤ 59) (h4 : 0 ≤ c.l) (h5 : c.l < 3) (h6 : 0 ≤ c.n) (h7 : ¬ (c.n ≤ 60)) :
  Calls Tryz.prog 114 #[c.val (.slice a1 m1 k1) (.slice a2 m2 k2)] w fun e w' => e = .returned (.bool false) ∧ Below w.heap.size w w' := by
 have HX0 : Aside ((w.alloc (boxC c (.slice a1 m1 k1) (.slice a2 m2 k2))).heap[w.heap.size]? = some (boxC c (.slice a1 m1 k1) (.slice a2 m2 k2))) := heap_new _ _
 have HB0 : Aside (Below w.heap.size w (w.alloc (boxC c (.slice a1 m1 k1) (.slice a2 m2 k2)))) := grew (Below.refl _ _) _
 obtain ⟨p, d, e, a, l, n, js, rs⟩ := c
 try simp only at *
 have ip := fun W => cepoch_any p W
 rw [decide_eq_true h0] at ip
 have ia := fun W => cplace_any a W
 rw [decide_eq_true h3] at ia
 clear h0 h3
 go_enter Tryz.func114, Tryz.ntmps114
 go_wp2_with fail
 refine (ip _).mono ?_
 rintro r wx ⟨rfl, rfl⟩
 go_wp2_with fail
 refine (ia _).mono ?_
 rintro r wx ⟨rfl, rfl⟩
 go_wp2
 go_ret
 first | exact ⟨rfl, HB0.out⟩ | exact ⟨ret_bool (by simp <;> omega), HB0.out⟩
theorem cr_8 (c : Cl) (a1 a2 : Option Addr) (m1 k1 m2 k2 : Nat) (w : World) (h0 : 1 ≤ c.p ∧ c.p ≤ 20) (h1 : 0 ≤ c.d) (h2 : c.d ≤ 2) (h3 : 0 ≤ c.a ∧ c.a ≤ 59) (h4 : 0 ≤ c.l) (h5 : c.l < 3) (h6 : 0 ≤ c.n) (h7 : c.n ≤ 60) :
  Calls Tryz.prog 114 #[c.val (.slice a1 m1 k1) (.slice a2 m2 k2)] w fun e w' => e = .returned (.bool true) ∧ Below w.heap.size w w' := by
 have HX0 : Aside ((w.alloc (boxC c (.slice a1 m1 k1) (.slice a2 m2 k2))).heap[w.heap.size]? = some (boxC c (.slice a1 m1 k1) (.slice a2 m2 k2))) := heap_new _ _
 have HB0 : Aside (Below w.heap.size w (w.alloc (boxC c (.slice a1 m1 k1) (.slice a2 m2 k2)))) := grew (Below.refl _ _) _
 obtain ⟨p, d, e, a, l, n, js, rs⟩ := c
 try simp only at *
 have ip := fun W => cepoch_any p W
 rw [decide_eq_true h0] at ip
 have ia := fun W => cplace_any a W
 rw [decide_eq_true h3] at ia
 clear h0 h3
 go_enter Tryz.func114, Tryz.ntmps114
 go_wp2_with fail
 refine (ip _).mono ?_
 rintro r wx ⟨rfl, rfl⟩
 go_wp2_with fail
 refine (ia _).mono ?_
 rintro r wx ⟨rfl, rfl⟩
 go_wp2
 go_ret
 first | exact ⟨rfl, HB0.out⟩ | exact ⟨ret_bool (by simp <;> omega), HB0.out⟩
theorem crange_any (c : Cl) (v1 v2 : Value) (w : World) (hs : ∃ a1 m1 k1 a2 m2 k2, v1 = .slice a1 m1 k1 ∧ v2 = .slice a2 m2 k2) :
  Calls Tryz.prog 114 #[c.val v1 v2] w fun e w' => e = .returned (.bool (!c.out)) ∧ Below w.heap.size w w' := by
 obtain ⟨a1, m1, k1, a2, m2, k2, rfl, rfl⟩ := hs
 have hout : ∀ {P : Prop}, (c.out = false → P) → ¬ P → c.out = true := fun f h => by
  rw [← Bool.not_eq_false]; exact fun h' => h (f h')
 by_cases h0 : 1 ≤ c.p ∧ c.p ≤ 20
 · by_cases h1 : 0 ≤ c.d
  · by_cases h2 : c.d ≤ 2
   · by_cases h3 : 0 ≤ c.a ∧ c.a ≤ 59
    · by_cases h4 : 0 ≤ c.l
     · by_cases h5 : c.l < 3
      · by_cases h6 : 0 ≤ c.n
       · by_cases h7 : c.n ≤ 60
        · rw [Cl.good_of ⟨h0, ⟨h1, h2⟩, h3, ⟨h4, by omega⟩, ⟨h6, h7⟩⟩]
         exact cr_8 c a1 a2 m1 k1 m2 k2 w h0 h1 h2 h3 h4 h5 h6 h7
        · rw [hout (fun h => (Cl.good h).2.2.2.2.2) h7]
         exact cr_7 c a1 a2 m1 k1 m2 k2 w h0 h1 h2 h3 h4 h5 h6 h7
       · rw [hout (fun h => (Cl.good h).2.2.2.2.1) h6]
        exact cr_6 c a1 a2 m1 k1 m2 k2 w h0 h1 h2 h3 h4 h5 h6
      · rw [hout (fun h => (Cl.good h).2.2.2.1.2) (by omega)]
       exact cr_5 c a1 a2 m1 k1 m2 k2 w h0 h1 h2 h3 h4 h5
     · rw [hout (fun h => (Cl.good h).2.2.2.1.1) h4]
      exact cr_4 c a1 a2 m1 k1 m2 k2 w h0 h1 h2 h3 h4
    · rw [hout (fun h => (Cl.good h).2.2.1) h3]
     exact cr_3 c a1 a2 m1 k1 m2 k2 w h0 h1 h2 h3
   · rw [hout (fun h => (Cl.good h).2.1.2) h2]
    exact cr_2 c a1 a2 m1 k1 m2 k2 w h0 h1 h2
  · rw [hout (fun h => (Cl.good h).2.1.1) h1]
   exact cr_1 c a1 a2 m1 k1 m2 k2 w h0 h1
 · rw [hout (fun h => (Cl.good h).1) h0]
  exact cr_0 c a1 a2 m1 k1 m2 k2 w h0
theorem cf_r0 (c : Cl) (a1 a2 : Option Addr) (m1 k1 m2 k2 : Nat) (w : World) (hd : c.d = 0) (h0 : unlike c.e.k c.e.j c.e.v c.e.t c.e.c 0 0 0 0 0 = true) :
  Calls Tryz.prog 116 #[c.val (.slice a1 m1 k1) (.slice a2 m2 k2)] w fun e w' => e = .returned (.bool false) ∧ Below w.heap.size w w' := by
 have HX0 : Aside ((w.alloc (boxC c (.slice a1 m1 k1) (.slice a2 m2 k2))).heap[w.heap.size]? = some (boxC c (.slice a1 m1 k1) (.slice a2 m2 k2))) := heap_new _ _
 have HB0 : Aside (Below w.heap.size w (w.alloc (boxC c (.slice a1 m1 k1) (.slice a2 m2 k2)))) := grew (Below.refl _ _) _
 obtain ⟨p, d, e, a, l, n, js, rs⟩ := c
 try simp only at *
 subst hd
 have hq := fun W => eql_entry e.k e.j e.v e.t e.c 0 0 0 0 0 W
 rw [h0, Bool.not_true] at hq
 clear h0
 go_enter Tryz.func116, Tryz.ntmps116
 go_wp2
 go_ret
 exact ⟨rfl, HB0.out⟩
theorem cf_r1 (c : Cl) (a1 a2 : Option Addr) (m1 k1 m2 k2 : Nat) (w : World) (hd : c.d = 0) (h0 : unlike c.e.k c.e.j c.e.v c.e.t c.e.c 0 0 0 0 0 = false) (h1 : (c.a == 0) = false) :
  Calls Tryz.prog 116 #[c.val (.slice a1 m1 k1) (.slice a2 m2 k2)] w fun e w' => e = .returned (.bool false) ∧ Below w.heap.size w w' := by
 have HX0 : Aside ((w.alloc (boxC c (.slice a1 m1 k1) (.slice a2 m2 k2))).heap[w.heap.size]? = some (boxC c (.slice a1 m1 k1) (.slice a2 m2 k2))) := heap_new _ _
 have HB0 : Aside (Below w.heap.size w (w.alloc (boxC c (.slice a1 m1 k1) (.slice a2 m2 k2)))) := grew (Below.refl _ _) _
 obtain ⟨p, d, e, a, l, n, js, rs⟩ := c
 try simp only at *
 subst hd
 have hq := fun W => eql_entry e.k e.j e.v e.t e.c 0 0 0 0 0 W
 rw [h0, Bool.not_false] at hq
 clear h0
 go_enter Tryz.func116, Tryz.ntmps116
 go_wp2
 go_ret
 exact ⟨rfl, HB0.out⟩
theorem cf_r2 (c : Cl) (a1 a2 : Option Addr) (m1 k1 m2 k2 : Nat) (w : World) (hd : c.d = 0) (h0 : unlike c.e.k c.e.j c.e.v c.e.t c.e.c 0 0 0 0 0 = false) (h1 : (c.a == 0) = true) (h2 : (c.l == 0) = false) :
  Calls Tryz.prog 116 #[c.val (.slice a1 m1 k1) (.slice a2 m2 k2)] w fun e w' => e = .returned (.bool false) ∧ Below w.heap.size w w' := by
 have HX0 : Aside ((w.alloc (boxC c (.slice a1 m1 k1) (.slice a2 m2 k2))).heap[w.heap.size]? = some (boxC c (.slice a1 m1 k1) (.slice a2 m2 k2))) := heap_new _ _
 have HB0 : Aside (Below w.heap.size w (w.alloc (boxC c (.slice a1 m1 k1) (.slice a2 m2 k2)))) := grew (Below.refl _ _) _
 obtain ⟨p, d, e, a, l, n, js, rs⟩ := c
 try simp only at *
 subst hd
 have hq := fun W => eql_entry e.k e.j e.v e.t e.c 0 0 0 0 0 W
 rw [h0, Bool.not_false] at hq
 clear h0
 go_enter Tryz.func116, Tryz.ntmps116
 go_wp2
 go_ret
 exact ⟨rfl, HB0.out⟩
theorem cf_r3 (c : Cl) (a1 a2 : Option Addr) (m1 k1 m2 k2 : Nat) (w : World) (hd : c.d = 0) (h0 : unlike c.e.k c.e.j c.e.v c.e.t c.e.c 0 0 0 0 0 = false) (h1 : (c.a == 0) = true) (h2 : (c.l == 0) = true) :
  Calls Tryz.prog 116 #[c.val (.slice a1 m1 k1) (.slice a2 m2 k2)] w fun e w' => e = .returned (.bool true) ∧ Below w.heap.size w w' := by
 have HX0 : Aside ((w.alloc (boxC c (.slice a1 m1 k1) (.slice a2 m2 k2))).heap[w.heap.size]? = some (boxC c (.slice a1 m1 k1) (.slice a2 m2 k2))) := heap_new _ _
 have HB0 : Aside (Below w.heap.size w (w.alloc (boxC c (.slice a1 m1 k1) (.slice a2 m2 k2)))) := grew (Below.refl _ _) _
 obtain ⟨p, d, e, a, l, n, js, rs⟩ := c
 try simp only at *
 subst hd
 have hq := fun W => eql_entry e.k e.j e.v e.t e.c 0 0 0 0 0 W
 rw [h0, Bool.not_false] at hq
 clear h0
 go_enter Tryz.func116, Tryz.ntmps116
 go_wp2
 go_ret
 exact ⟨rfl, HB0.out⟩
theorem cf_w0 (c : Cl) (a1 a2 : Option Addr) (m1 k1 m2 k2 : Nat) (w : World) (hd : c.d = 1) (h0 : (c.e.k == 0) = true) :
  Calls Tryz.prog 116 #[c.val (.slice a1 m1 k1) (.slice a2 m2 k2)] w fun e w' => e = .returned (.bool false) ∧ Below w.heap.size w w' := by
 have HX0 : Aside ((w.alloc (boxC c (.slice a1 m1 k1) (.slice a2 m2 k2))).heap[w.heap.size]? = some (boxC c (.slice a1 m1 k1) (.slice a2 m2 k2))) := heap_new _ _
 have HB0 : Aside (Below w.heap.size w (w.alloc (boxC c (.slice a1 m1 k1) (.slice a2 m2 k2)))) := grew (Below.refl _ _) _
 obtain ⟨p, d, e, a, l, n, js, rs⟩ := c
 try simp only at *
 subst hd
 go_enter Tryz.func116, Tryz.ntmps116
 have kj := fun W => junk_any e W
 rw [h0] at kj
 clear h0
 go_wp2_with fail
 refine (kj _).mono ?_
 rintro r w1 ⟨rfl, hb1⟩
 have HX1 : Aside _ := heap_below HX0.out hb1 (heap_lt HX0.out)
 have HB1 : Aside _ := step_below HB0.out hb1
 clear hb1 kj HX0 HB0
 have z := fun i => Joins.cell_of_block HX1.out i
 go_wp2
 go_ret
 exact ⟨rfl, HB1.out⟩
theorem cf_w1 (c : Cl) (a1 a2 : Option Addr) (m1 k1 m2 k2 : Nat) (w : World) (hd : c.d = 1) (h0 : (c.e.k == 0) = false) (h1 : (c.a == 0) = false) :
  Calls Tryz.prog 116 #[c.val (.slice a1 m1 k1) (.slice a2 m2 k2)] w fun e w' => e = .returned (.bool false) ∧ Below w.heap.size w w' := by
 have HX0 : Aside ((w.alloc (boxC c (.slice a1 m1 k1) (.slice a2 m2 k2))).heap[w.heap.size]? = some (boxC c (.slice a1 m1 k1) (.slice a2 m2 k2))) := heap_new _ _
 have HB0 : Aside (Below w.heap.size w (w.alloc (boxC c (.slice a1 m1 k1) (.slice a2 m2 k2)))) := grew (Below.refl _ _) _
 obtain ⟨p, d, e, a, l, n, js, rs⟩ := c
 try simp only at *
 subst hd
 go_enter Tryz.func116, Tryz.ntmps116
 have kj := fun W => junk_any e W
 rw [h0] at kj
 clear h0
 go_wp2_with fail
 refine (kj _).mono ?_
 rintro r w1 ⟨rfl, hb1⟩
 have HX1 : Aside _ := heap_below HX0.out hb1 (heap_lt HX0.out)
 have HB1 : Aside _ := step_below HB0.out hb1
 clear hb1 kj HX0 HB0
 have z := fun i => Joins.cell_of_block HX1.out i
 go_wp2
 go_ret
 exact ⟨rfl, HB1.out⟩
theorem cf_w2 (c : Cl) (a1 a2 : Option Addr) (m1 k1 m2 k2 : Nat) (w : World) (hd : c.d = 1) (h0 : (c.e.k == 0) = false) (h1 : (c.a == 0) = true) (h2 : (c.l == 0) = false) :
  Calls Tryz.prog 116 #[c.val (.slice a1 m1 k1) (.slice a2 m2 k2)] w fun e w' => e = .returned (.bool false) ∧ Below w.heap.size w w' := by
 have HX0 : Aside ((w.alloc (boxC c (.slice a1 m1 k1) (.slice a2 m2 k2))).heap[w.heap.size]? = some (boxC c (.slice a1 m1 k1) (.slice a2 m2 k2))) := heap_new _ _
 have HB0 : Aside (Below w.heap.size w (w.alloc (boxC c (.slice a1 m1 k1) (.slice a2 m2 k2)))) := grew (Below.refl _ _) _
 obtain ⟨p, d, e, a, l, n, js, rs⟩ := c
 try simp only at *
 subst hd
 go_enter Tryz.func116, Tryz.ntmps116
 have kj := fun W => junk_any e W
 rw [h0] at kj
 clear h0
 go_wp2_with fail
 refine (kj _).mono ?_
 rintro r w1 ⟨rfl, hb1⟩
 have HX1 : Aside _ := heap_below HX0.out hb1 (heap_lt HX0.out)
 have HB1 : Aside _ := step_below HB0.out hb1
 clear hb1 kj HX0 HB0
 have z := fun i => Joins.cell_of_block HX1.out i
 go_wp2
 go_ret
 exact ⟨rfl, HB1.out⟩
theorem cf_w3 (c : Cl) (a1 a2 : Option Addr) (m1 k1 m2 k2 : Nat) (w : World) (hd : c.d = 1) (h0 : (c.e.k == 0) = false) (h1 : (c.a == 0) = true) (h2 : (c.l == 0) = true) :
  Calls Tryz.prog 116 #[c.val (.slice a1 m1 k1) (.slice a2 m2 k2)] w fun e w' => e = .returned (.bool true) ∧ Below w.heap.size w w' := by
 have HX0 : Aside ((w.alloc (boxC c (.slice a1 m1 k1) (.slice a2 m2 k2))).heap[w.heap.size]? = some (boxC c (.slice a1 m1 k1) (.slice a2 m2 k2))) := heap_new _ _
 have HB0 : Aside (Below w.heap.size w (w.alloc (boxC c (.slice a1 m1 k1) (.slice a2 m2 k2)))) := grew (Below.refl _ _) _
 obtain ⟨p, d, e, a, l, n, js, rs⟩ := c
 try simp only at *
 subst hd
 go_enter Tryz.func116, Tryz.ntmps116
 have kj := fun W => junk_any e W
 rw [h0] at kj
 clear h0
 go_wp2_with fail
 refine (kj _).mono ?_
 rintro r w1 ⟨rfl, hb1⟩
 have HX1 : Aside _ := heap_below HX0.out hb1 (heap_lt HX0.out)
 have HB1 : Aside _ := step_below HB0.out hb1
 clear hb1 kj HX0 HB0
 have z := fun i => Joins.cell_of_block HX1.out i
 go_wp2
 go_ret
 exact ⟨rfl, HB1.out⟩
theorem cf_x (c : Cl) (a1 a2 : Option Addr) (m1 k1 m2 k2 : Nat) (w : World) (hd : c.d = 2)  :
  Calls Tryz.prog 116 #[c.val (.slice a1 m1 k1) (.slice a2 m2 k2)] w fun e w' => e = .returned (.bool true) ∧ Below w.heap.size w w' := by
 have HX0 : Aside ((w.alloc (boxC c (.slice a1 m1 k1) (.slice a2 m2 k2))).heap[w.heap.size]? = some (boxC c (.slice a1 m1 k1) (.slice a2 m2 k2))) := heap_new _ _
 have HB0 : Aside (Below w.heap.size w (w.alloc (boxC c (.slice a1 m1 k1) (.slice a2 m2 k2)))) := grew (Below.refl _ _) _
 obtain ⟨p, d, e, a, l, n, js, rs⟩ := c
 try simp only at *
 subst hd
 go_enter Tryz.func116, Tryz.ntmps116
 go_wp2
 go_ret
 exact ⟨rfl, HB0.out⟩
theorem cfits_any (c : Cl) (v1 v2 : Value) (w : World) (hs : ∃ a1 m1 k1 a2 m2 k2, v1 = .slice a1 m1 k1 ∧ v2 = .slice a2 m2 k2) (ho : c.out = false) :
  Calls Tryz.prog 116 #[c.val v1 v2] w fun e w' => e = .returned (.bool (!c.odd)) ∧ Below w.heap.size w w' := by
 obtain ⟨a1, m1, k1, a2, m2, k2, rfl, rfl⟩ := hs
 have hg := Cl.good ho
 have ha0 : 0 ≤ c.a := hg.2.2.1.1
 have hl0 : 0 ≤ c.l := hg.2.2.2.1.1
 have hd : c.d = 0 ∨ c.d = 1 ∨ c.d = 2 := by have := hg.2.1; omega
 rcases hd with hd | hd | hd
 · have e1 : c.odd = (decide (0 < c.a) || (decide (0 < c.l) || c.e.ne En.zero)) := by rw [Cl.odd, if_pos hd]
  rw [e1]
  cases hn : c.e.ne En.zero with
  | true =>
   rw [Bool.or_true, Bool.or_true]
   exact cf_r0 c a1 a2 m1 k1 m2 k2 w hd hn
  | false =>
   by_cases ha : c.a = 0
   · by_cases hl : c.l = 0
    · rw [decide_eq_false (show ¬ 0 < c.a by omega), decide_eq_false (show ¬ 0 < c.l by omega)]
     exact cf_r3 c a1 a2 m1 k1 m2 k2 w hd hn (by rw [ha]; rfl) (by rw [hl]; rfl)
    · rw [decide_eq_true (show 0 < c.l by omega), Bool.true_or, Bool.or_true]
     exact cf_r2 c a1 a2 m1 k1 m2 k2 w hd hn (by rw [ha]; rfl) (by rw [beq_eq_false_iff_ne]; exact hl)
   · rw [decide_eq_true (show 0 < c.a by omega), Bool.true_or]
    exact cf_r1 c a1 a2 m1 k1 m2 k2 w hd hn (by rw [beq_eq_false_iff_ne]; exact ha)
 · have e1 : c.odd = (decide (0 < c.a) || (decide (0 < c.l) || decide (c.e.k = 0))) := by rw [Cl.odd, if_neg (by omega), if_pos hd]
  rw [e1]
  by_cases hk : c.e.k = 0
  · rw [decide_eq_true hk, Bool.or_true, Bool.or_true]
   exact cf_w0 c a1 a2 m1 k1 m2 k2 w hd (by rw [hk]; rfl)
  · have hkb : (c.e.k == 0) = false := by rw [beq_eq_false_iff_ne]; exact hk
   by_cases ha : c.a = 0
   · by_cases hl : c.l = 0
    · rw [decide_eq_false (show ¬ 0 < c.a by omega), decide_eq_false (show ¬ 0 < c.l by omega), decide_eq_false hk]
     exact cf_w3 c a1 a2 m1 k1 m2 k2 w hd hkb (by rw [ha]; rfl) (by rw [hl]; rfl)
    · rw [decide_eq_true (show 0 < c.l by omega), Bool.true_or, Bool.or_true]
     exact cf_w2 c a1 a2 m1 k1 m2 k2 w hd hkb (by rw [ha]; rfl) (by rw [beq_eq_false_iff_ne]; exact hl)
   · rw [decide_eq_true (show 0 < c.a by omega), Bool.true_or]
    exact cf_w1 c a1 a2 m1 k1 m2 k2 w hd hkb (by rw [beq_eq_false_iff_ne]; exact ha)
 · rw [show c.odd = false by rw [Cl.odd, if_neg (by omega), if_neg (by omega)]]
  exact cf_x c a1 a2 m1 k1 m2 k2 w hd
theorem ck_out (c : Cl) (a1 a2 : Option Addr) (m1 k1 m2 k2 : Nat) (w : World) (ho : c.out = true) :
  Calls Tryz.prog 82 #[c.val (.slice a1 m1 k1) (.slice a2 m2 k2)] w fun e w' => e = .returned (.int .i64 3) ∧ Below w.heap.size w w' := by
 have HX0 : Aside ((w.alloc (boxC c (.slice a1 m1 k1) (.slice a2 m2 k2))).heap[w.heap.size]? = some (boxC c (.slice a1 m1 k1) (.slice a2 m2 k2))) := heap_new _ _
 have HB0 : Aside (Below w.heap.size w (w.alloc (boxC c (.slice a1 m1 k1) (.slice a2 m2 k2)))) := grew (Below.refl _ _) _
 have kr := fun W => crange_any c (.slice a1 m1 k1) (.slice a2 m2 k2) W ⟨a1, m1, k1, a2, m2, k2, rfl, rfl⟩
 rw [ho] at kr
 clear ho
 obtain ⟨p, d, e, a, l, n, js, rs⟩ := c
 try simp only at *
 go_enter Tryz.func82, Tryz.ntmps82
 go_wp2_with fail
 refine (kr _).mono ?_
 rintro r w1 ⟨rfl, hb1⟩
 have HX1 : Aside _ := heap_below HX0.out hb1 (heap_lt HX0.out)
 have HB1 : Aside _ := step_below HB0.out hb1
 clear hb1 kr HX0 HB0
 have z := fun i => Joins.cell_of_block HX1.out i
 go_wp2
 go_ret
 exact ⟨rfl, HB1.out⟩
theorem ck_ent (c : Cl) (a1 a2 : Option Addr) (m1 k1 m2 k2 : Nat) (w : World) (ho : c.out = false) (q : Int) (he : c.e.chk = q) (hz : (q != 0) = true) :
  Calls Tryz.prog 82 #[c.val (.slice a1 m1 k1) (.slice a2 m2 k2)] w fun e w' => e = .returned (.int .i64 q) ∧ Below w.heap.size w w' := by
 have HX0 : Aside ((w.alloc (boxC c (.slice a1 m1 k1) (.slice a2 m2 k2))).heap[w.heap.size]? = some (boxC c (.slice a1 m1 k1) (.slice a2 m2 k2))) := heap_new _ _
 have HB0 : Aside (Below w.heap.size w (w.alloc (boxC c (.slice a1 m1 k1) (.slice a2 m2 k2)))) := grew (Below.refl _ _) _
 have kr := fun W => crange_any c (.slice a1 m1 k1) (.slice a2 m2 k2) W ⟨a1, m1, k1, a2, m2, k2, rfl, rfl⟩
 rw [ho] at kr
 have hce : ∀ W, Calls Tryz.prog 115 #[ev c.e.k c.e.j c.e.v c.e.t c.e.c] W fun e w' => e = .returned (.int .i64 c.e.chk) ∧ Below W.heap.size W w' := fun W => check_any c.e.k c.e.j c.e.v c.e.t c.e.c W
 rw [he] at hce
 clear he
 clear ho
 obtain ⟨p, d, e, a, l, n, js, rs⟩ := c
 try simp only at *
 go_enter Tryz.func82, Tryz.ntmps82
 go_wp2_with fail
 refine (kr _).mono ?_
 rintro r w1 ⟨rfl, hb1⟩
 have HX1 : Aside _ := heap_below HX0.out hb1 (heap_lt HX0.out)
 have HB1 : Aside _ := step_below HB0.out hb1
 clear hb1 kr HX0 HB0
 have z := fun i => Joins.cell_of_block HX1.out i
 go_wp2_with fail
 refine (hce _).mono ?_
 rintro r w2 ⟨rfl, hb2⟩
 have HX2 : Aside _ := heap_below HX1.out hb2 (heap_lt HX1.out)
 have HB2 : Aside _ := step_below HB1.out hb2
 clear hb2 hce HX1 HB1 z
 have z := fun i => Joins.cell_of_block HX2.out i
 go_wp2
 go_ret
 exact ⟨rfl, HB2.out⟩
theorem ck_odd (c : Cl) (a1 a2 : Option Addr) (m1 k1 m2 k2 : Nat) (w : World) (ho : c.out = false) (he : c.e.chk = 0) (hf : c.odd = true) :
  Calls Tryz.prog 82 #[c.val (.slice a1 m1 k1) (.slice a2 m2 k2)] w fun e w' => e = .returned (.int .i64 4) ∧ Below w.heap.size w w' := by
 have HX0 : Aside ((w.alloc (boxC c (.slice a1 m1 k1) (.slice a2 m2 k2))).heap[w.heap.size]? = some (boxC c (.slice a1 m1 k1) (.slice a2 m2 k2))) := heap_new _ _
 have HB0 : Aside (Below w.heap.size w (w.alloc (boxC c (.slice a1 m1 k1) (.slice a2 m2 k2)))) := grew (Below.refl _ _) _
 have kr := fun W => crange_any c (.slice a1 m1 k1) (.slice a2 m2 k2) W ⟨a1, m1, k1, a2, m2, k2, rfl, rfl⟩
 rw [ho] at kr
 have hce : ∀ W, Calls Tryz.prog 115 #[ev c.e.k c.e.j c.e.v c.e.t c.e.c] W fun e w' => e = .returned (.int .i64 c.e.chk) ∧ Below W.heap.size W w' := fun W => check_any c.e.k c.e.j c.e.v c.e.t c.e.c W
 rw [he] at hce
 clear he
 have kf := fun W => cfits_any c (.slice a1 m1 k1) (.slice a2 m2 k2) W ⟨a1, m1, k1, a2, m2, k2, rfl, rfl⟩ ho
 rw [hf] at kf
 clear hf
 clear ho
 obtain ⟨p, d, e, a, l, n, js, rs⟩ := c
 try simp only at *
 go_enter Tryz.func82, Tryz.ntmps82
 go_wp2_with fail
 refine (kr _).mono ?_
 rintro r w1 ⟨rfl, hb1⟩
 have HX1 : Aside _ := heap_below HX0.out hb1 (heap_lt HX0.out)
 have HB1 : Aside _ := step_below HB0.out hb1
 clear hb1 kr HX0 HB0
 have z := fun i => Joins.cell_of_block HX1.out i
 go_wp2_with fail
 refine (hce _).mono ?_
 rintro r w2 ⟨rfl, hb2⟩
 have HX2 : Aside _ := heap_below HX1.out hb2 (heap_lt HX1.out)
 have HB2 : Aside _ := step_below HB1.out hb2
 clear hb2 hce HX1 HB1 z
 have z := fun i => Joins.cell_of_block HX2.out i
 go_wp2_with fail
 refine (kf _).mono ?_
 rintro r w3 ⟨rfl, hb3⟩
 have HX3 : Aside _ := heap_below HX2.out hb3 (heap_lt HX2.out)
 have HB3 : Aside _ := step_below HB2.out hb3
 clear hb3 kf HX2 HB2 z
 have z := fun i => Joins.cell_of_block HX3.out i
 go_wp2
 go_ret
 exact ⟨rfl, HB3.out⟩
theorem ck_bk (c : Cl) (a1 a2 : Option Addr) (m1 k1 m2 k2 : Nat) (w : World) (ho : c.out = false) (he : c.e.chk = 0) (hf : c.odd = false) (hb : BkAt w (.slice a1 m1 k1) (.slice a2 m2 k2) c) :
  Calls Tryz.prog 82 #[c.val (.slice a1 m1 k1) (.slice a2 m2 k2)] w fun e w' => e = .returned (.int .i64 (ckBook c.js c.rs)) ∧ Below w.heap.size w w' := by
 have HX0 : Aside ((w.alloc (boxC c (.slice a1 m1 k1) (.slice a2 m2 k2))).heap[w.heap.size]? = some (boxC c (.slice a1 m1 k1) (.slice a2 m2 k2))) := heap_new _ _
 have HB0 : Aside (Below w.heap.size w (w.alloc (boxC c (.slice a1 m1 k1) (.slice a2 m2 k2)))) := grew (Below.refl _ _) _
 have kr := fun W => crange_any c (.slice a1 m1 k1) (.slice a2 m2 k2) W ⟨a1, m1, k1, a2, m2, k2, rfl, rfl⟩
 rw [ho] at kr
 have hce : ∀ W, Calls Tryz.prog 115 #[ev c.e.k c.e.j c.e.v c.e.t c.e.c] W fun e w' => e = .returned (.int .i64 c.e.chk) ∧ Below W.heap.size W w' := fun W => check_any c.e.k c.e.j c.e.v c.e.t c.e.c W
 rw [he] at hce
 clear he
 have kf := fun W => cfits_any c (.slice a1 m1 k1) (.slice a2 m2 k2) W ⟨a1, m1, k1, a2, m2, k2, rfl, rfl⟩ ho
 rw [hf] at kf
 clear hf
 have HK : Aside (BkAt w (.slice a1 m1 k1) (.slice a2 m2 k2) c) := hb
 clear ho hb
 obtain ⟨p, d, e, a, l, n, js, rs⟩ := c
 try simp only at *
 go_enter Tryz.func82, Tryz.ntmps82
 go_wp2_with fail
 refine (kr _).mono ?_
 rintro r w1 ⟨rfl, hb1⟩
 have HX1 : Aside _ := heap_below HX0.out hb1 (heap_lt HX0.out)
 have HB1 : Aside _ := step_below HB0.out hb1
 clear hb1 kr HX0 HB0
 have z := fun i => Joins.cell_of_block HX1.out i
 go_wp2_with fail
 refine (hce _).mono ?_
 rintro r w2 ⟨rfl, hb2⟩
 have HX2 : Aside _ := heap_below HX1.out hb2 (heap_lt HX1.out)
 have HB2 : Aside _ := step_below HB1.out hb2
 clear hb2 hce HX1 HB1 z
 have z := fun i => Joins.cell_of_block HX2.out i
 go_wp2_with fail
 refine (kf _).mono ?_
 rintro r w3 ⟨rfl, hb3⟩
 have HX3 : Aside _ := heap_below HX2.out hb3 (heap_lt HX2.out)
 have HB3 : Aside _ := step_below HB2.out hb3
 clear hb3 kf HX2 HB2 z
 have z := fun i => Joins.cell_of_block HX3.out i
 have kb := bk_check (.slice a1 m1 k1) (.slice a2 m2 k2) js rs w3 (HK.out.1.later HB3.out) (HK.out.2.later HB3.out)
 clear HK
 go_wp2_with fail
 refine kb.mono ?_
 rintro r w9 ⟨rfl, hb9⟩
 have HB9 : Aside _ := step_below HB3.out hb9
 clear hb9 kb z
 go_wp2
 go_ret
 exact ⟨rfl, HB9.out⟩
theorem cl_check (c : Cl) (v1 v2 : Value) (w : World) (hb : BkAt w v1 v2 c) :
  Calls Tryz.prog 82 #[c.val v1 v2] w fun e w' => e = .returned (.int .i64 c.ck) ∧ Below w.heap.size w w' := by
 obtain ⟨a1, k1, a2, k2, rfl, rfl⟩ := bk_slices hb.1 hb.2
 unfold Cl.ck
 cases ho : c.out with
 | true => exact ck_out c a1 a2 _ k1 _ k2 w ho
 | false =>
  rw [if_neg (by simp)]
  by_cases he : c.e.chk = 0
  · rw [if_neg (by simpa using he)]
   cases hf : c.odd with
   | true => exact ck_odd c a1 a2 _ k1 _ k2 w ho he hf
   | false =>
    rw [if_neg (by simp)]
    exact ck_bk c a1 a2 _ k1 _ k2 w ho he hf hb
  · rw [if_pos he]
   exact ck_ent c a1 a2 _ k1 _ k2 w ho _ rfl (by rw [bne_iff_ne]; exact he)
def restErr (c : Cl) : Int := if c.ck ≠ 0 then c.ck else if c.d ≠ 0 then 7 else 0
theorem cs_ck (c : Cl) (a1 a2 : Option Addr) (m1 k1 m2 k2 : Nat) (w : World) (hb : BkAt w (.slice a1 m1 k1) (.slice a2 m2 k2) c) (q : Int) (hck : c.ck = q) (hz : (q != 0) = true) :
  Calls Tryz.prog 173 #[c.val (.slice a1 m1 k1) (.slice a2 m2 k2)] w fun e w' => e = .returned (.int .i64 q) ∧ Below w.heap.size w w' := by
 have HX0 : Aside ((w.alloc (boxC c (.slice a1 m1 k1) (.slice a2 m2 k2))).heap[w.heap.size]? = some (boxC c (.slice a1 m1 k1) (.slice a2 m2 k2))) := heap_new _ _
 have HB0 : Aside (Below w.heap.size w (w.alloc (boxC c (.slice a1 m1 k1) (.slice a2 m2 k2)))) := grew (Below.refl _ _) _
 have kc := fun W hB => cl_check c (.slice a1 m1 k1) (.slice a2 m2 k2) W (bkAt_later hb hB)
 rw [hck] at kc
 have kc' := kc _ HB0.out
 clear hb hck kc
 obtain ⟨p, d, e, a, l, n, js, rs⟩ := c
 try simp only at *
 go_enter Tryz.func173, Tryz.ntmps173
 go_wp2_with fail
 refine kc'.mono ?_
 rintro r w1 ⟨rfl, hb1⟩
 have HX1 : Aside _ := heap_below HX0.out hb1 (heap_lt HX0.out)
 have HB1 : Aside _ := step_below HB0.out hb1
 clear hb1 kc' HX0 HB0
 go_wp2
 go_ret
 exact ⟨rfl, HB1.out⟩
theorem cs_late (c : Cl) (a1 a2 : Option Addr) (m1 k1 m2 k2 : Nat) (w : World) (hb : BkAt w (.slice a1 m1 k1) (.slice a2 m2 k2) c) (hck : c.ck = 0) (hd : (c.d != 0) = true) :
  Calls Tryz.prog 173 #[c.val (.slice a1 m1 k1) (.slice a2 m2 k2)] w fun e w' => e = .returned (.int .i64 7) ∧ Below w.heap.size w w' := by
 have HX0 : Aside ((w.alloc (boxC c (.slice a1 m1 k1) (.slice a2 m2 k2))).heap[w.heap.size]? = some (boxC c (.slice a1 m1 k1) (.slice a2 m2 k2))) := heap_new _ _
 have HB0 : Aside (Below w.heap.size w (w.alloc (boxC c (.slice a1 m1 k1) (.slice a2 m2 k2)))) := grew (Below.refl _ _) _
 have kc := fun W hB => cl_check c (.slice a1 m1 k1) (.slice a2 m2 k2) W (bkAt_later hb hB)
 rw [hck] at kc
 have kc' := kc _ HB0.out
 clear hb hck kc
 obtain ⟨p, d, e, a, l, n, js, rs⟩ := c
 try simp only at *
 go_enter Tryz.func173, Tryz.ntmps173
 go_wp2_with fail
 refine kc'.mono ?_
 rintro r w1 ⟨rfl, hb1⟩
 have HX1 : Aside _ := heap_below HX0.out hb1 (heap_lt HX0.out)
 have HB1 : Aside _ := step_below HB0.out hb1
 clear hb1 kc' HX0 HB0
 have z := fun i => Joins.cell_of_block HX1.out i
 go_wp2
 go_ret
 exact ⟨rfl, HB1.out⟩
theorem cs_ok (c : Cl) (a1 a2 : Option Addr) (m1 k1 m2 k2 : Nat) (w : World) (hb : BkAt w (.slice a1 m1 k1) (.slice a2 m2 k2) c) (hck : c.ck = 0) (hd : (c.d != 0) = false) :
  Calls Tryz.prog 173 #[c.val (.slice a1 m1 k1) (.slice a2 m2 k2)] w fun e w' => e = .returned (.int .i64 0) ∧ Below w.heap.size w w' := by
 have HX0 : Aside ((w.alloc (boxC c (.slice a1 m1 k1) (.slice a2 m2 k2))).heap[w.heap.size]? = some (boxC c (.slice a1 m1 k1) (.slice a2 m2 k2))) := heap_new _ _
 have HB0 : Aside (Below w.heap.size w (w.alloc (boxC c (.slice a1 m1 k1) (.slice a2 m2 k2)))) := grew (Below.refl _ _) _
 have kc := fun W hB => cl_check c (.slice a1 m1 k1) (.slice a2 m2 k2) W (bkAt_later hb hB)
 rw [hck] at kc
 have kc' := kc _ HB0.out
 clear hb hck kc
 obtain ⟨p, d, e, a, l, n, js, rs⟩ := c
 try simp only at *
 go_enter Tryz.func173, Tryz.ntmps173
 go_wp2_with fail
 refine kc'.mono ?_
 rintro r w1 ⟨rfl, hb1⟩
 have HX1 : Aside _ := heap_below HX0.out hb1 (heap_lt HX0.out)
 have HB1 : Aside _ := step_below HB0.out hb1
 clear hb1 kc' HX0 HB0
 have z := fun i => Joins.cell_of_block HX1.out i
 go_wp2
 go_ret
 exact ⟨rfl, HB1.out⟩
theorem cl_rest (c : Cl) (v1 v2 : Value) (w : World) (hb : BkAt w v1 v2 c) :
  Calls Tryz.prog 173 #[c.val v1 v2] w fun e w' => e = .returned (.int .i64 (restErr c)) ∧ Below w.heap.size w w' := by
 obtain ⟨a1, k1, a2, k2, rfl, rfl⟩ := bk_slices hb.1 hb.2
 unfold restErr
 by_cases hc : c.ck = 0
 · rw [if_neg (by simpa using hc)]
  by_cases hd : c.d = 0
  · rw [if_neg (by simpa using hd)]
   exact cs_ok c a1 a2 _ k1 _ k2 w hb hc (by rw [hd]; rfl)
  · rw [if_pos hd]
   exact cs_late c a1 a2 _ k1 _ k2 w hb hc (by rw [bne_iff_ne]; exact hd)
 · rw [if_pos hc]
  exact cs_ck c a1 a2 _ k1 _ k2 w hb _ rfl (by rw [bne_iff_ne]; exact hc)
theorem ss_0 (c x : Cl) (a1 a2 b1 b2 : Option Addr) (m1 k1 m2 k2 n1 o1 n2 o2 : Nat) (w : World)  (h0 : (c.p == x.p) = false) :
  Calls Tryz.prog 12 #[c.val (.slice a1 m1 k1) (.slice a2 m2 k2), x.val (.slice b1 n1 o1) (.slice b2 n2 o2)] w fun e w' => e = .returned (.bool (false)) ∧ Below w.heap.size w w' := by
 have HB0 : Aside (Below w.heap.size w ((w.alloc (boxC c (.slice a1 m1 k1) (.slice a2 m2 k2))).alloc (boxC x (.slice b1 n1 o1) (.slice b2 n2 o2)))) := grew (grew (Below.refl _ _) _) _
 obtain ⟨p, d, e, a, l, n, js, rs⟩ := c
 obtain ⟨p', d', e', a', l', n', js', rs'⟩ := x
 simp only at *
 go_enter Tryz.func12, Tryz.ntmps12
 go_wp2
 go_ret
 exact ⟨rfl, HB0.out⟩
theorem ss_1 (c x : Cl) (a1 a2 b1 b2 : Option Addr) (m1 k1 m2 k2 n1 o1 n2 o2 : Nat) (w : World) (h0 : (c.p == x.p) = true) (h1 : (c.d == x.d) = false) :
  Calls Tryz.prog 12 #[c.val (.slice a1 m1 k1) (.slice a2 m2 k2), x.val (.slice b1 n1 o1) (.slice b2 n2 o2)] w fun e w' => e = .returned (.bool (false)) ∧ Below w.heap.size w w' := by
 have HB0 : Aside (Below w.heap.size w ((w.alloc (boxC c (.slice a1 m1 k1) (.slice a2 m2 k2))).alloc (boxC x (.slice b1 n1 o1) (.slice b2 n2 o2)))) := grew (grew (Below.refl _ _) _) _
 obtain ⟨p, d, e, a, l, n, js, rs⟩ := c
 obtain ⟨p', d', e', a', l', n', js', rs'⟩ := x
 simp only at *
 go_enter Tryz.func12, Tryz.ntmps12
 go_wp2
 go_ret
 exact ⟨rfl, HB0.out⟩
theorem ss_2 (c x : Cl) (a1 a2 b1 b2 : Option Addr) (m1 k1 m2 k2 n1 o1 n2 o2 : Nat) (w : World) (h0 : (c.p == x.p) = true) (h1 : (c.d == x.d) = true) (h2 : unlike c.e.k c.e.j c.e.v c.e.t c.e.c x.e.k x.e.j x.e.v x.e.t x.e.c = true) :
  Calls Tryz.prog 12 #[c.val (.slice a1 m1 k1) (.slice a2 m2 k2), x.val (.slice b1 n1 o1) (.slice b2 n2 o2)] w fun e w' => e = .returned (.bool (false)) ∧ Below w.heap.size w w' := by
 have HB0 : Aside (Below w.heap.size w ((w.alloc (boxC c (.slice a1 m1 k1) (.slice a2 m2 k2))).alloc (boxC x (.slice b1 n1 o1) (.slice b2 n2 o2)))) := grew (grew (Below.refl _ _) _) _
 obtain ⟨p, d, e, a, l, n, js, rs⟩ := c
 obtain ⟨p', d', e', a', l', n', js', rs'⟩ := x
 simp only at *
 have hq := fun W => eql_entry e.k e.j e.v e.t e.c e'.k e'.j e'.v e'.t e'.c W
 rw [h2, Bool.not_true] at hq
 clear h2
 go_enter Tryz.func12, Tryz.ntmps12
 go_wp2
 go_ret
 exact ⟨rfl, HB0.out⟩
theorem ss_3 (c x : Cl) (a1 a2 b1 b2 : Option Addr) (m1 k1 m2 k2 n1 o1 n2 o2 : Nat) (w : World) (h0 : (c.p == x.p) = true) (h1 : (c.d == x.d) = true) (h2 : unlike c.e.k c.e.j c.e.v c.e.t c.e.c x.e.k x.e.j x.e.v x.e.t x.e.c = false) (h3 : (c.a == x.a) = false) :
  Calls Tryz.prog 12 #[c.val (.slice a1 m1 k1) (.slice a2 m2 k2), x.val (.slice b1 n1 o1) (.slice b2 n2 o2)] w fun e w' => e = .returned (.bool (false)) ∧ Below w.heap.size w w' := by
 have HB0 : Aside (Below w.heap.size w ((w.alloc (boxC c (.slice a1 m1 k1) (.slice a2 m2 k2))).alloc (boxC x (.slice b1 n1 o1) (.slice b2 n2 o2)))) := grew (grew (Below.refl _ _) _) _
 obtain ⟨p, d, e, a, l, n, js, rs⟩ := c
 obtain ⟨p', d', e', a', l', n', js', rs'⟩ := x
 simp only at *
 have hq := fun W => eql_entry e.k e.j e.v e.t e.c e'.k e'.j e'.v e'.t e'.c W
 rw [h2, Bool.not_false] at hq
 clear h2
 go_enter Tryz.func12, Tryz.ntmps12
 go_wp2
 go_ret
 exact ⟨rfl, HB0.out⟩
theorem ss_4 (c x : Cl) (a1 a2 b1 b2 : Option Addr) (m1 k1 m2 k2 n1 o1 n2 o2 : Nat) (w : World) (h0 : (c.p == x.p) = true) (h1 : (c.d == x.d) = true) (h2 : unlike c.e.k c.e.j c.e.v c.e.t c.e.c x.e.k x.e.j x.e.v x.e.t x.e.c = false) (h3 : (c.a == x.a) = true) (h4 : (c.l == x.l) = false) :
  Calls Tryz.prog 12 #[c.val (.slice a1 m1 k1) (.slice a2 m2 k2), x.val (.slice b1 n1 o1) (.slice b2 n2 o2)] w fun e w' => e = .returned (.bool (false)) ∧ Below w.heap.size w w' := by
 have HB0 : Aside (Below w.heap.size w ((w.alloc (boxC c (.slice a1 m1 k1) (.slice a2 m2 k2))).alloc (boxC x (.slice b1 n1 o1) (.slice b2 n2 o2)))) := grew (grew (Below.refl _ _) _) _
 obtain ⟨p, d, e, a, l, n, js, rs⟩ := c
 obtain ⟨p', d', e', a', l', n', js', rs'⟩ := x
 simp only at *
 have hq := fun W => eql_entry e.k e.j e.v e.t e.c e'.k e'.j e'.v e'.t e'.c W
 rw [h2, Bool.not_false] at hq
 clear h2
 go_enter Tryz.func12, Tryz.ntmps12
 go_wp2
 go_ret
 exact ⟨rfl, HB0.out⟩
theorem ss_5 (c x : Cl) (a1 a2 b1 b2 : Option Addr) (m1 k1 m2 k2 n1 o1 n2 o2 : Nat) (w : World) (h0 : (c.p == x.p) = true) (h1 : (c.d == x.d) = true) (h2 : unlike c.e.k c.e.j c.e.v c.e.t c.e.c x.e.k x.e.j x.e.v x.e.t x.e.c = false) (h3 : (c.a == x.a) = true) (h4 : (c.l == x.l) = true) (h5 : (c.n == x.n) = false) :
  Calls Tryz.prog 12 #[c.val (.slice a1 m1 k1) (.slice a2 m2 k2), x.val (.slice b1 n1 o1) (.slice b2 n2 o2)] w fun e w' => e = .returned (.bool (false)) ∧ Below w.heap.size w w' := by
 have HB0 : Aside (Below w.heap.size w ((w.alloc (boxC c (.slice a1 m1 k1) (.slice a2 m2 k2))).alloc (boxC x (.slice b1 n1 o1) (.slice b2 n2 o2)))) := grew (grew (Below.refl _ _) _) _
 obtain ⟨p, d, e, a, l, n, js, rs⟩ := c
 obtain ⟨p', d', e', a', l', n', js', rs'⟩ := x
 simp only at *
 have hq := fun W => eql_entry e.k e.j e.v e.t e.c e'.k e'.j e'.v e'.t e'.c W
 rw [h2, Bool.not_false] at hq
 clear h2
 go_enter Tryz.func12, Tryz.ntmps12
 go_wp2
 go_ret
 exact ⟨rfl, HB0.out⟩
theorem ss_bk (c x : Cl) (a1 a2 b1 b2 : Option Addr) (m1 k1 m2 k2 n1 o1 n2 o2 : Nat) (w : World) (h0 : (c.p == x.p) = true) (h1 : (c.d == x.d) = true) (h2 : unlike c.e.k c.e.j c.e.v c.e.t c.e.c x.e.k x.e.j x.e.v x.e.t x.e.c = false) (h3 : (c.a == x.a) = true) (h4 : (c.l == x.l) = true) (h5 : (c.n == x.n) = true) (hc : BkAt w (.slice a1 m1 k1) (.slice a2 m2 k2) c) (hx : BkAt w (.slice b1 n1 o1) (.slice b2 n2 o2) x) (hn1 : c.js.length ≤ most) (hn2 : c.rs.length ≤ most) :
  Calls Tryz.prog 12 #[c.val (.slice a1 m1 k1) (.slice a2 m2 k2), x.val (.slice b1 n1 o1) (.slice b2 n2 o2)] w fun e w' => e = .returned (.bool (decide (c.js = x.js) && decide (c.rs = x.rs))) ∧ Below w.heap.size w w' := by
 have HB0 : Aside (Below w.heap.size w ((w.alloc (boxC c (.slice a1 m1 k1) (.slice a2 m2 k2))).alloc (boxC x (.slice b1 n1 o1) (.slice b2 n2 o2)))) := grew (grew (Below.refl _ _) _) _
 have ks := bk_same (.slice a1 m1 k1) (.slice a2 m2 k2) (.slice b1 n1 o1) (.slice b2 n2 o2) c.js x.js c.rs x.rs _ (hc.1.later HB0.out) (hc.2.later HB0.out) (hx.1.later HB0.out) (hx.2.later HB0.out) hn1 hn2
 clear hc hx hn1 hn2
 obtain ⟨p, d, e, a, l, n, js, rs⟩ := c
 obtain ⟨p', d', e', a', l', n', js', rs'⟩ := x
 simp only at *
 have hq := fun W => eql_entry e.k e.j e.v e.t e.c e'.k e'.j e'.v e'.t e'.c W
 rw [h2, Bool.not_false] at hq
 clear h2
 go_enter Tryz.func12, Tryz.ntmps12
 go_wp2_with fail
 refine ks.mono ?_
 rintro r w1 ⟨rfl, hb1⟩
 have HB1 : Aside _ := step_below HB0.out hb1
 clear hb1 ks HB0
 go_wp2
 go_ret
 exact ⟨rfl, HB1.out⟩
theorem cl_same (c x : Cl) (v1 v2 u1 u2 : Value) (w : World) (hc : BkAt w v1 v2 c) (hx : BkAt w u1 u2 x) (hn1 : c.js.length ≤ most) (hn2 : c.rs.length ≤ most) :
  Calls Tryz.prog 12 #[c.val v1 v2, x.val u1 u2] w fun e w' => e = .returned (.bool (sameC c x)) ∧ Below w.heap.size w w' := by
 obtain ⟨a1, k1, a2, k2, rfl, rfl⟩ := bk_slices hc.1 hc.2
 obtain ⟨b1, o1, b2, o2, rfl, rfl⟩ := bk_slices hx.1 hx.2
 unfold sameC
 cases h0 : (c.p == x.p) with
 | false => exact ss_0 c x a1 a2 b1 b2 _ k1 _ k2 _ o1 _ o2 w h0
 | true =>
  cases h1 : (c.d == x.d) with
  | false => exact ss_1 c x a1 a2 b1 b2 _ k1 _ k2 _ o1 _ o2 w h0 h1
  | true =>
   cases h2 : (c.e.ne x.e) with
   | true => exact ss_2 c x a1 a2 b1 b2 _ k1 _ k2 _ o1 _ o2 w h0 h1 h2
   | false =>
    cases h3 : (c.a == x.a) with
    | false => exact ss_3 c x a1 a2 b1 b2 _ k1 _ k2 _ o1 _ o2 w h0 h1 h2 h3
    | true =>
     cases h4 : (c.l == x.l) with
     | false => exact ss_4 c x a1 a2 b1 b2 _ k1 _ k2 _ o1 _ o2 w h0 h1 h2 h3 h4
     | true =>
      cases h5 : (c.n == x.n) with
      | false => exact ss_5 c x a1 a2 b1 b2 _ k1 _ k2 _ o1 _ o2 w h0 h1 h2 h3 h4 h5
      | true =>
       exact ss_bk c x a1 a2 b1 b2 _ k1 _ k2 _ o1 _ o2 w h0 h1 h2 h3 h4 h5 hc hx hn1 hn2
end
section
open scoped Classical
theorem ckCls_drop (ns : List Nd) : ∀ (cs : List Cl) (k : Nat), (∀ j c, j < k → cs[j]? = some c → c.ck = 0 ∧ c.lost ns = false) → ckCls ns cs = ckCls ns (cs.drop k)
 | [], k, _ => by rw [List.drop_nil]
 | _ :: _, 0, _ => rfl
 | c :: r, k + 1, h => by
  have h0 := h 0 c (Nat.succ_pos _) rfl
  rw [List.drop_succ_cons, ← ckCls_drop ns r k (fun j x hj hx => h (j + 1) x (Nat.succ_lt_succ hj) (by rw [List.getElem?_cons_succ]; exact hx)), ckCls, if_neg (not_not_intro h0.1), if_neg (by rw [h0.2]; simp)]
theorem ckCls_at {ns : List Nd} {cs : List Cl} {k : Nat} {c : Cl} (h : ∀ j c, j < k → cs[j]? = some c → c.ck = 0 ∧ c.lost ns = false) (hc : cs[k]? = some c) (hz : c.ck ≠ 0) : ckCls ns cs = c.ck := by
 obtain ⟨hk, e⟩ := List.getElem?_eq_some_iff.1 hc
 rw [ckCls_drop ns cs k h, List.drop_eq_getElem_cons hk, e, ckCls, if_pos hz]
theorem ckCls_lost {ns : List Nd} {cs : List Cl} {k : Nat} {c : Cl} (h : ∀ j c, j < k → cs[j]? = some c → c.ck = 0 ∧ c.lost ns = false) (hc : cs[k]? = some c) (hz : c.ck = 0) (hl : c.lost ns = true) : ckCls ns cs = 4 := by
 obtain ⟨hk, e⟩ := List.getElem?_eq_some_iff.1 hc
 rw [ckCls_drop ns cs k h, List.drop_eq_getElem_cons hk, e, ckCls, if_neg (not_not_intro hz), if_pos hl]
theorem ckCls_all {ns : List Nd} {cs : List Cl} (h : ∀ j c, j < cs.length → cs[j]? = some c → c.ck = 0 ∧ c.lost ns = false) : ckCls ns cs = 0 := by
 rw [ckCls_drop ns cs cs.length h, List.drop_length]; rfl
theorem checkClients_at (b off c : Nat) (N0 N1 N2 : Nd) (sa0 sa1 sa2 : Option Addr) (sc0 sc1 sc2 : Nat) (V0 V1 V2 U0 U1 U2 : Value) (g go gc : Nat) (cs : List Cb) (tip t : Int) (w : World) (hE : RowAt Nb.cells 5 w b off [⟨N0, .slice sa0 60 sc0, V0, U0⟩, ⟨N1, .slice sa1 60 sc1, V1, U1⟩, ⟨N2, .slice sa2 60 sc2, V2, U2⟩])
  (h0 : EntSl w (.slice sa0 60 sc0) N0.u.cells) (h1 : EntSl w (.slice sa1 60 sc1) N1.u.cells) (hR : RowAt Cb.cells 12 w g go cs) (hC : ∀ x, x ∈ cs → ClientT w x) (hn : cs.length ≤ most) :
  Calls Tryz.prog 33 #[wval (.slice (some ⟨b, off, none⟩) 3 c) tip (.slice (some ⟨g, go, none⟩) cs.length gc) t] w fun e w' => e = .returned (.int .i64 (ckCls [N0, N1, N2] (clientsOf cs))) ∧ Below w.heap.size w w' := by
 have HE : Aside (RowAt Nb.cells 5 w b off [⟨N0, .slice sa0 60 sc0, V0, U0⟩, ⟨N1, .slice sa1 60 sc1, V1, U1⟩, ⟨N2, .slice sa2 60 sc2, V2, U2⟩]) := hE
 have HR : Aside (RowAt Cb.cells 12 w g go cs) := hR
 have H0 : Aside (EntSl w (.slice sa0 60 sc0) N0.u.cells) := h0
 have H1 : Aside (EntSl w (.slice sa1 60 sc1) N1.u.cells) := h1
 have HC : Aside (∀ x, x ∈ cs → ClientT w x) := hC
 have HB0 : Aside (Below w.heap.size w (w.alloc (boxW (.slice (some ⟨b, off, none⟩) 3 c) tip (.slice (some ⟨g, go, none⟩) cs.length gc) t))) := grew (Below.refl _ _) _
 have HX0 : Aside ((w.alloc (boxW (.slice (some ⟨b, off, none⟩) 3 c) tip (.slice (some ⟨g, go, none⟩) cs.length gc) t)).heap[w.heap.size]? = some (boxW (.slice (some ⟨b, off, none⟩) 3 c) tip (.slice (some ⟨g, go, none⟩) cs.length gc) t)) := heap_new _ _
 obtain ⟨cc, HCC⟩ : ∃ cc, Hid (ckCls [N0, N1, N2] (clientsOf cs) = cc) := ⟨_, rfl⟩
 rw [HCC.out]
 obtain ⟨n, HN⟩ : ∃ n, Hid (cs.length = n) := ⟨_, rfl⟩
 rw [HN.out] at HB0 HX0 hn ⊢
 have hnb : n ≤ 9223372036854775807 := hn
 obtain ⟨bu0, ou0, rfl, hU0⟩ := SlOf.at (cs := En.cells) (k := 5) h0 (by omega)
 obtain ⟨bu1, ou1, rfl, hU1⟩ := SlOf.at (cs := En.cells) (k := 5) h1 (by omega)
 have HU0 : Aside (RowAt En.cells 5 w bu0 ou0 N0.u.cells) := hU0
 have HU1 : Aside (RowAt En.cells 5 w bu1 ou1 N1.u.cells) := hU1
 have hl0 : Hid (N0.u.cells.length = 60) := SlOf.len (cs := En.cells) (k := 5) h0
 have hl1 : Hid (N1.u.cells.length = 60) := SlOf.len (cs := En.cells) (k := 5) h1
 clear hE hR h0 h1 hC hU0 hU1 H0 H1
 go_enter Tryz.func33, Tryz.ntmps33
 go_upto_region 1 with fail
 generalize w.alloc (boxW (.slice (some ⟨b, off, none⟩) 3 c) tip (.slice (some ⟨g, go, none⟩) n gc) t) = W0 at *
 have z := fun i => Joins.cell_of_block HX0.out i
 go_wp2
 go_loopw [9] (fun i wr => ∃ k : Nat, k ≤ n ∧ i = .int .i64 k ∧ Below w.heap.size w wr ∧ wr.heap[w.heap.size]? = some (.cells #[Value.slice (some ⟨b, off, none⟩) 3 c, .int .i64 tip, .slice (some ⟨g, go, none⟩) n gc, .int .i64 t] 25) ∧ Hid (∀ j x, j < k → (clientsOf cs)[j]? = some x → x.ck = 0 ∧ x.lost [N0, N1, N2] = false)) (fun i _ => n - (intOf i).toNat)
 case atStart => exact ⟨0, Nat.zero_le _, rfl, HB0.out, HX0.out, fun j x hj => absurd hj (Nat.not_lt_zero j)⟩
 case round =>
  clear HB0 HX0 z
  obtain ⟨k, hk, rfl, hB, hX, hst⟩ := hrel
  by_cases hlt : k < n
  · obtain ⟨x, hx⟩ : ∃ x, cs[k]? = some x := ⟨cs[k]'(by rw [HN.out]; exact hlt), List.getElem?_eq_getElem _⟩
   obtain ⟨⟨p, dd, e, a, l, nn, js, rs⟩, v1, v2⟩ := x
   have hT := HC.out _ (List.mem_of_getElem? hx)
   obtain ⟨a1, m1, k1, e1⟩ := slOf_sl hT.1
   obtain ⟨a2, m2, k2, e2⟩ := slOf_sl hT.2
   dsimp only at e1 e2
   subst e1 e2
   have hcx : (clientsOf cs)[k]? = some (⟨p, dd, e, a, l, nn, js, rs⟩ : Cl) := clients_at hx
   have hE := RowAt.later HR.out hB
   have c0 : wr.cell? ⟨g, go + k * 12, none⟩ = some (.int .i64 p) := hE k _ hx 0 _ rfl
   have c1 : wr.cell? ⟨g, go + k * 12 + 1, none⟩ = some (.int .i64 dd) := hE k _ hx 1 _ rfl
   have c2 : wr.cell? ⟨g, go + k * 12 + 2, none⟩ = some (.int .i64 e.k) := hE k _ hx 2 _ rfl
   have c3 : wr.cell? ⟨g, go + k * 12 + 3, none⟩ = some (.int .i64 e.j) := hE k _ hx 3 _ rfl
   have c4 : wr.cell? ⟨g, go + k * 12 + 4, none⟩ = some (.int .i64 e.v) := hE k _ hx 4 _ rfl
   have c5 : wr.cell? ⟨g, go + k * 12 + 5, none⟩ = some (.int .i64 e.t) := hE k _ hx 5 _ rfl
   have c6 : wr.cell? ⟨g, go + k * 12 + 6, none⟩ = some (.int .i64 e.c) := hE k _ hx 6 _ rfl
   have c7 : wr.cell? ⟨g, go + k * 12 + 7, none⟩ = some (.int .i64 a) := hE k _ hx 7 _ rfl
   have c8 : wr.cell? ⟨g, go + k * 12 + 8, none⟩ = some (.int .i64 l) := hE k _ hx 8 _ rfl
   have c9 : wr.cell? ⟨g, go + k * 12 + 9, none⟩ = some (.int .i64 nn) := hE k _ hx 9 _ rfl
   have c10 : wr.cell? ⟨g, go + k * 12 + 10, none⟩ = some (.slice a1 m1 k1) := hE k _ hx 10 _ rfl
   have c11 : wr.cell? ⟨g, go + k * 12 + 11, none⟩ = some (.slice a2 m2 k2) := hE k _ hx 11 _ rfl
   have hB1 := grew hB (boxC (⟨p, dd, e, a, l, nn, js, rs⟩ : Cl) (.slice a1 m1 k1) (.slice a2 m2 k2))
   have kc := cl_check (⟨p, dd, e, a, l, nn, js, rs⟩ : Cl) (.slice a1 m1 k1) (.slice a2 m2 k2) _ (bkAt_later hT hB1)
   have HB1 : Aside _ := hB1
   have HX1 : Aside _ := heap_old hX (boxC (⟨p, dd, e, a, l, nn, js, rs⟩ : Cl) (.slice a1 m1 k1) (.slice a2 m2 k2))
   have HY1 : Aside _ := heap_new wr (boxC (⟨p, dd, e, a, l, nn, js, rs⟩ : Cl) (.slice a1 m1 k1) (.slice a2 m2 k2))
   have HST : Hid ((clientsOf cs)[k]? = some (⟨p, dd, e, a, l, nn, js, rs⟩ : Cl) ∧ (∀ j x, j < k → (clientsOf cs)[j]? = some x → x.ck = 0 ∧ x.lost [N0, N1, N2] = false)) := ⟨hcx, hst.out⟩
   have nxt : Hid ((⟨p, dd, e, a, l, nn, js, rs⟩ : Cl).ck = 0 → (⟨p, dd, e, a, l, nn, js, rs⟩ : Cl).lost [N0, N1, N2] = false → ∀ j x, j < k + 1 → (clientsOf cs)[j]? = some x → x.ck = 0 ∧ x.lost [N0, N1, N2] = false) := fun h h' j x hj hx' => by
    by_cases hjk : j < k
    · exact HST.out.2 j x hjk hx'
    · obtain rfl : j = k := by omega
     obtain rfl := Option.some.inj (hx'.symm.trans HST.out.1)
     exact ⟨h, h'⟩
   obtain ⟨d, HD⟩ : ∃ d, Hid ((⟨p, dd, e, a, l, nn, js, rs⟩ : Cl).ck = d) := ⟨_, rfl⟩
   rw [HD.out] at kc
   have hki : (k : Int) < n := by omega
   have hk0 : (0 : Int) ≤ (k : Int) := by omega
   clear hE hx hcx hT hB hX hB1 hst
   go_upto_region 4 with fail
   clear c0 c1 c2 c3 c4 c5 c6 c7 c8 c9 c10 c11
   generalize wr.alloc (boxC (⟨p, dd, e, a, l, nn, js, rs⟩ : Cl) (.slice a1 m1 k1) (.slice a2 m2 k2)) = Z at *
   generalize wr.heap.size = cb at *
   have z := fun i => Joins.cell_of_block HY1.out i
   go_wp2_with fail
   refine kc.mono ?_
   rintro e w1 ⟨rfl, hb1⟩
   have HB2 : Aside _ := step_below1 HB1.out hb1
   have HX2 : Aside _ := heap_below HX1.out hb1 (heap_lt HX1.out)
   have HY2 : Aside _ := heap_below HY1.out hb1 (heap_lt HY1.out)
   clear kc z HB1 HX1 HY1 hb1
   by_cases hd : d = 0
   · subst hd
    have z := fun i => Joins.cell_of_block HY2.out i
    go_upto_region 7 with fail
    by_cases h2 : dd = 2
    · have h2b : (dd == 2) = true := by rw [beq_iff_eq]; exact h2
     have hdd : Hid (dd = 2) := h2
     by_cases hl : 0 < l
     · have hg := Cl.good (Cl.ck_zero.1 HD.out).1
      dsimp only at hg
      obtain ⟨m, rfl⟩ : ∃ m : Nat, a = m := ⟨a.toNat, by omega⟩
      have hm : m < 60 := by omega
      have hl12 : l = 1 ∨ l = 2 := by omega
      clear hg h2 hl
      rcases hl12 with rfl | rfl
      · obtain ⟨y, hy⟩ : ∃ y, N0.u.cells[m]? = some y := ⟨N0.u.cells[m]'(by rw [hl0.out]; exact hm), List.getElem?_eq_getElem _⟩
       have hpl : Hid (plcN [N0, N1, N2] 0 m = y) := by rw [Hid, plcN, plc]; show N0.u.cells.getD m blankE = y; rw [List.getD_eq_getElem?_getD, hy]; rfl
       have hEy := RowAt.later HU0.out HB2.out
       have f0 : w1.cell? ⟨bu0, ou0 + m * 5, none⟩ = some (.int .i64 y.k) := hEy m y hy 0 _ rfl
       have f1 : w1.cell? ⟨bu0, ou0 + m * 5 + 1, none⟩ = some (.int .i64 y.j) := hEy m y hy 1 _ rfl
       have f2 : w1.cell? ⟨bu0, ou0 + m * 5 + 2, none⟩ = some (.int .i64 y.v) := hEy m y hy 2 _ rfl
       have f3 : w1.cell? ⟨bu0, ou0 + m * 5 + 3, none⟩ = some (.int .i64 y.t) := hEy m y hy 3 _ rfl
       have f4 : w1.cell? ⟨bu0, ou0 + m * 5 + 4, none⟩ = some (.int .i64 y.c) := hEy m y hy 4 _ rfl
       have hr := (row_threeN (RowAt.later HE.out HB2.out)).1.2.1
       have zX := fun i => Joins.cell_of_block HX2.out i
       have hn2 := fun W => neq_entry y.k y.j y.v y.t y.c e.k e.j e.v e.t e.c W
       obtain ⟨ub, HUB⟩ : ∃ ub, Hid (unlike y.k y.j y.v y.t y.c e.k e.j e.v e.t e.c = ub) := ⟨_, rfl⟩
       rw [HUB.out] at hn2
       have hm0 : (0 : Int) ≤ (m : Int) := by omega
       have hm1 : (m : Int) < 60 := by omega
       have hwr0 : IntKind.i64.wrap 0 = 0 := rfl
       have hwr1 : IntKind.i64.wrap 1 = 1 := rfl
       clear hEy hy
       cases ub with
       | false =>
        have HL : Hid _ := nxt.out HD.out (lost_iff.2 fun _ _ => by
         have : plcN [N0, N1, N2] 0 m = e := hpl.out.trans (en_eq HUB.out)
         simpa using this)
        clear nxt
        go_quiet (fail)
        go_wp2
        go_roundw
        case rel => exact ⟨k + 1, by omega, by go_num, below_drewN HB2.out _, heap_below HX2.out (below_drewN (Below.refl _ _) _) (heap_lt HX2.out), HL⟩
        case measure => simp [intOf]; omega
       | true =>
        have HRR : Hid (cc = 4) := by
         rw [Hid, ← HCC.out]
         refine ckCls_lost HST.out.2 HST.out.1 HD.out ?_
         rw [← Bool.not_eq_false]
         intro h
         have h5 := lost_iff.1 h hdd.out (by show (0 : Int) < 1; omega)
         have h6 : y = e := hpl.out.symm.trans (by simpa using h5)
         have h7 := HUB.out
         rw [h6] at h7
         simp [unlike] at h7
        clear HCC nxt
        go_quiet (fail)
        go_wp2
        go_ret
        exact ⟨by rw [HRR.out]; rfl, below_drewN HB2.out _⟩
      · obtain ⟨y, hy⟩ : ∃ y, N1.u.cells[m]? = some y := ⟨N1.u.cells[m]'(by rw [hl1.out]; exact hm), List.getElem?_eq_getElem _⟩
       have hpl : Hid (plcN [N0, N1, N2] 1 m = y) := by rw [Hid, plcN, plc]; show N1.u.cells.getD m blankE = y; rw [List.getD_eq_getElem?_getD, hy]; rfl
       have hEy := RowAt.later HU1.out HB2.out
       have f0 : w1.cell? ⟨bu1, ou1 + m * 5, none⟩ = some (.int .i64 y.k) := hEy m y hy 0 _ rfl
       have f1 : w1.cell? ⟨bu1, ou1 + m * 5 + 1, none⟩ = some (.int .i64 y.j) := hEy m y hy 1 _ rfl
       have f2 : w1.cell? ⟨bu1, ou1 + m * 5 + 2, none⟩ = some (.int .i64 y.v) := hEy m y hy 2 _ rfl
       have f3 : w1.cell? ⟨bu1, ou1 + m * 5 + 3, none⟩ = some (.int .i64 y.t) := hEy m y hy 3 _ rfl
       have f4 : w1.cell? ⟨bu1, ou1 + m * 5 + 4, none⟩ = some (.int .i64 y.c) := hEy m y hy 4 _ rfl
       have hr := (row_threeN (RowAt.later HE.out HB2.out)).2.1.2.1
       have zX := fun i => Joins.cell_of_block HX2.out i
       have hn2 := fun W => neq_entry y.k y.j y.v y.t y.c e.k e.j e.v e.t e.c W
       obtain ⟨ub, HUB⟩ : ∃ ub, Hid (unlike y.k y.j y.v y.t y.c e.k e.j e.v e.t e.c = ub) := ⟨_, rfl⟩
       rw [HUB.out] at hn2
       have hm0 : (0 : Int) ≤ (m : Int) := by omega
       have hm1 : (m : Int) < 60 := by omega
       have hwr0 : IntKind.i64.wrap 0 = 0 := rfl
       have hwr1 : IntKind.i64.wrap 1 = 1 := rfl
       clear hEy hy
       cases ub with
       | false =>
        have HL : Hid _ := nxt.out HD.out (lost_iff.2 fun _ _ => by
         have : plcN [N0, N1, N2] 1 m = e := hpl.out.trans (en_eq HUB.out)
         simpa using this)
        clear nxt
        go_quiet (fail)
        go_wp2
        go_roundw
        case rel => exact ⟨k + 1, by omega, by go_num, below_drewN HB2.out _, heap_below HX2.out (below_drewN (Below.refl _ _) _) (heap_lt HX2.out), HL⟩
        case measure => simp [intOf]; omega
       | true =>
        have HRR : Hid (cc = 4) := by
         rw [Hid, ← HCC.out]
         refine ckCls_lost HST.out.2 HST.out.1 HD.out ?_
         rw [← Bool.not_eq_false]
         intro h
         have h5 := lost_iff.1 h hdd.out (by show (0 : Int) < 2; omega)
         have h6 : y = e := hpl.out.symm.trans (by simpa using h5)
         have h7 := HUB.out
         rw [h6] at h7
         simp [unlike] at h7
        clear HCC nxt
        go_quiet (fail)
        go_wp2
        go_ret
        exact ⟨by rw [HRR.out]; rfl, below_drewN HB2.out _⟩
     · have HL : Hid _ := nxt.out HD.out (lost_iff.2 fun _ h => absurd h hl)
      have hlb : decide (0 < l) = false := decide_eq_false hl
      clear h2 hl nxt
      go_quiet (fail)
      go_wp2
      go_roundw
      case rel => exact ⟨k + 1, by omega, by go_num, below_drewN HB2.out _, heap_below HX2.out (below_drewN (Below.refl _ _) _) (heap_lt HX2.out), HL⟩
      case measure => simp [intOf]; omega
    · have h2b : (dd == 2) = false := by rw [beq_eq_false_iff_ne]; exact h2
     have HL : Hid _ := nxt.out HD.out (lost_idle (c := (⟨p, dd, e, a, l, nn, js, rs⟩ : Cl)) h2)
     clear h2 nxt
     go_quiet (fail)
     go_wp2
     go_roundw
     case rel => exact ⟨k + 1, by omega, by go_num, below_drewN HB2.out _, heap_below HX2.out (below_drewN (Below.refl _ _) _) (heap_lt HX2.out), HL⟩
     case measure => simp [intOf]; omega
   · have hdb : (d != 0) = true := by rw [bne_iff_ne]; exact hd
    have HRR : Hid (cc = d) := by rw [Hid, ← HCC.out, ← HD.out]; exact ckCls_at HST.out.2 HST.out.1 (by rw [HD.out]; exact hd)
    clear hd HCC
    go_wp2
    go_ret
    exact ⟨by rw [HRR.out]; rfl, HB2.out⟩
  · have HRR : Hid (cc = 0) := by
    rw [Hid, ← HCC.out]
    exact ckCls_all fun j x hj hx => hst.out j x (by simp only [clientsOf, List.length_map, HN.out] at hj; omega) hx
   have HB2 : Aside (Below w.heap.size w wr) := hB
   clear hst HCC hB
   go_wp2
   go_ret
   exact ⟨by rw [HRR.out]; rfl, HB2.out⟩
end
section
open scoped Classical
theorem check_form1 (a1 a2 : Option Addr) (n1 c1 n2 c2 : Nat) (tip t : Int) (w : World) (h : ((n1 : Int) != 3) = true) :
  Calls Tryz.prog 11 #[wval (.slice a1 n1 c1) tip (.slice a2 n2 c2) t] w fun e w' => e = .returned (.int .i64 4) ∧ Below w.heap.size w w' := by
 have HB0 : Aside (Below w.heap.size w (w.alloc (boxW (.slice a1 n1 c1) tip (.slice a2 n2 c2) t))) := grew (Below.refl _ _) _
 have HX0 : Aside ((w.alloc (boxW (.slice a1 n1 c1) tip (.slice a2 n2 c2) t)).heap[w.heap.size]? = some (boxW (.slice a1 n1 c1) tip (.slice a2 n2 c2) t)) := heap_new _ _
 go_enter Tryz.func11, Tryz.ntmps11
 go_upto_region 1 with fail
 generalize w.alloc (boxW (.slice a1 n1 c1) tip (.slice a2 n2 c2) t) = W0 at *
 have z := fun i => Joins.cell_of_block HX0.out i
 go_wp2
 go_ret
 exact ⟨rfl, HB0.out⟩
theorem check_form2 (a1 a2 : Option Addr) (c1 n2 c2 : Nat) (tip t : Int) (w : World) (h : ((n2 : Int) != 3) = true) :
  Calls Tryz.prog 11 #[wval (.slice a1 3 c1) tip (.slice a2 n2 c2) t] w fun e w' => e = .returned (.int .i64 4) ∧ Below w.heap.size w w' := by
 have HB0 : Aside (Below w.heap.size w (w.alloc (boxW (.slice a1 3 c1) tip (.slice a2 n2 c2) t))) := grew (Below.refl _ _) _
 have HX0 : Aside ((w.alloc (boxW (.slice a1 3 c1) tip (.slice a2 n2 c2) t)).heap[w.heap.size]? = some (boxW (.slice a1 3 c1) tip (.slice a2 n2 c2) t)) := heap_new _ _
 go_enter Tryz.func11, Tryz.ntmps11
 go_upto_region 1 with fail
 generalize w.alloc (boxW (.slice a1 3 c1) tip (.slice a2 n2 c2) t) = W0 at *
 have z := fun i => Joins.cell_of_block HX0.out i
 go_wp2
 go_ret
 exact ⟨rfl, HB0.out⟩
theorem check_range1 (a1 a2 : Option Addr) (c1 c2 : Nat) (tip t : Int) (w : World) (h : tip < 0) :
  Calls Tryz.prog 11 #[wval (.slice a1 3 c1) tip (.slice a2 3 c2) t] w fun e w' => e = .returned (.int .i64 3) ∧ Below w.heap.size w w' := by
 have HB0 : Aside (Below w.heap.size w (w.alloc (boxW (.slice a1 3 c1) tip (.slice a2 3 c2) t))) := grew (Below.refl _ _) _
 have HX0 : Aside ((w.alloc (boxW (.slice a1 3 c1) tip (.slice a2 3 c2) t)).heap[w.heap.size]? = some (boxW (.slice a1 3 c1) tip (.slice a2 3 c2) t)) := heap_new _ _
 go_enter Tryz.func11, Tryz.ntmps11
 go_upto_region 1 with fail
 generalize w.alloc (boxW (.slice a1 3 c1) tip (.slice a2 3 c2) t) = W0 at *
 have z := fun i => Joins.cell_of_block HX0.out i
 go_wp2
 go_ret
 exact ⟨rfl, HB0.out⟩
theorem check_range2 (a1 a2 : Option Addr) (c1 c2 : Nat) (tip t : Int) (w : World) (h1 : ¬ tip < 0) (h : 60 < tip) :
  Calls Tryz.prog 11 #[wval (.slice a1 3 c1) tip (.slice a2 3 c2) t] w fun e w' => e = .returned (.int .i64 3) ∧ Below w.heap.size w w' := by
 have HB0 : Aside (Below w.heap.size w (w.alloc (boxW (.slice a1 3 c1) tip (.slice a2 3 c2) t))) := grew (Below.refl _ _) _
 have HX0 : Aside ((w.alloc (boxW (.slice a1 3 c1) tip (.slice a2 3 c2) t)).heap[w.heap.size]? = some (boxW (.slice a1 3 c1) tip (.slice a2 3 c2) t)) := heap_new _ _
 go_enter Tryz.func11, Tryz.ntmps11
 go_upto_region 1 with fail
 generalize w.alloc (boxW (.slice a1 3 c1) tip (.slice a2 3 c2) t) = W0 at *
 have z := fun i => Joins.cell_of_block HX0.out i
 go_wp2
 go_ret
 exact ⟨rfl, HB0.out⟩
theorem check_range3 (a1 a2 : Option Addr) (c1 c2 : Nat) (tip t : Int) (w : World) (h1 : ¬ tip < 0) (h2 : ¬ 60 < tip) (h : t < 0) :
  Calls Tryz.prog 11 #[wval (.slice a1 3 c1) tip (.slice a2 3 c2) t] w fun e w' => e = .returned (.int .i64 3) ∧ Below w.heap.size w w' := by
 have HB0 : Aside (Below w.heap.size w (w.alloc (boxW (.slice a1 3 c1) tip (.slice a2 3 c2) t))) := grew (Below.refl _ _) _
 have HX0 : Aside ((w.alloc (boxW (.slice a1 3 c1) tip (.slice a2 3 c2) t)).heap[w.heap.size]? = some (boxW (.slice a1 3 c1) tip (.slice a2 3 c2) t)) := heap_new _ _
 go_enter Tryz.func11, Tryz.ntmps11
 go_upto_region 1 with fail
 generalize w.alloc (boxW (.slice a1 3 c1) tip (.slice a2 3 c2) t) = W0 at *
 have z := fun i => Joins.cell_of_block HX0.out i
 go_wp2
 go_ret
 exact ⟨rfl, HB0.out⟩
theorem check_range4 (a1 a2 : Option Addr) (c1 c2 : Nat) (tip t : Int) (w : World) (h1 : ¬ tip < 0) (h2 : ¬ 60 < tip) (h3 : ¬ t < 0) (h : 100000 < t) :
  Calls Tryz.prog 11 #[wval (.slice a1 3 c1) tip (.slice a2 3 c2) t] w fun e w' => e = .returned (.int .i64 3) ∧ Below w.heap.size w w' := by
 have HB0 : Aside (Below w.heap.size w (w.alloc (boxW (.slice a1 3 c1) tip (.slice a2 3 c2) t))) := grew (Below.refl _ _) _
 have HX0 : Aside ((w.alloc (boxW (.slice a1 3 c1) tip (.slice a2 3 c2) t)).heap[w.heap.size]? = some (boxW (.slice a1 3 c1) tip (.slice a2 3 c2) t)) := heap_new _ _
 go_enter Tryz.func11, Tryz.ntmps11
 go_upto_region 1 with fail
 generalize w.alloc (boxW (.slice a1 3 c1) tip (.slice a2 3 c2) t) = W0 at *
 have z := fun i => Joins.cell_of_block HX0.out i
 go_wp2
 go_ret
 exact ⟨rfl, HB0.out⟩
theorem check_at (b off c : Nat) (N0 N1 N2 : Nd) (sa0 ta0 ua0 : Option Addr) (sm0 sc0 tm0 tc0 um0 uc0 : Nat) (sa1 ta1 ua1 : Option Addr) (sm1 sc1 tm1 tc1 um1 uc1 : Nat) (sa2 ta2 ua2 : Option Addr) (sm2 sc2 tm2 tc2 um2 uc2 : Nat) (g go gc : Nat) (cs : List Cb) (tip t : Int) (w : World) (hL : Laid w) (hE : RowAt Nb.cells 5 w b off [⟨N0, .slice sa0 sm0 sc0, .slice ta0 tm0 tc0, .slice ua0 um0 uc0⟩, ⟨N1, .slice sa1 sm1 sc1, .slice ta1 tm1 tc1, .slice ua1 um1 uc1⟩, ⟨N2, .slice sa2 sm2 sc2, .slice ta2 tm2 tc2, .slice ua2 um2 uc2⟩]) (h0 : NodeT w ⟨N0, .slice sa0 sm0 sc0, .slice ta0 tm0 tc0, .slice ua0 um0 uc0⟩) (h1 : NodeT w ⟨N1, .slice sa1 sm1 sc1, .slice ta1 tm1 tc1, .slice ua1 um1 uc1⟩) (h2 : NodeT w ⟨N2, .slice sa2 sm2 sc2, .slice ta2 tm2 tc2, .slice ua2 um2 uc2⟩)
  (hn : ∀ n : Nd, n ∈ [N0, N1, N2] → n.u.cells.length ≤ topN ∧ n.s.length ≤ topLen ∧ n.w.length ≤ topLen) (hR : RowAt Cb.cells 12 w g go cs) (hC : ∀ x, x ∈ cs → ClientT w x) (h3 : cs.length = 3)
  (r1 : ¬ tip < 0) (r2 : ¬ 60 < tip) (r3 : ¬ t < 0) (r4 : ¬ 100000 < t) :
  Calls Tryz.prog 11 #[wval (.slice (some ⟨b, off, none⟩) 3 c) tip (.slice (some ⟨g, go, none⟩) 3 gc) t] w fun e w' => e = .returned (.int .i64 (if ckNds none [N0, N1, N2] ≠ 0 then ckNds none [N0, N1, N2] else ckCls [N0, N1, N2] (clientsOf cs))) ∧ Below w.heap.size w w' := by
 have hB0 : Below w.heap.size w (w.alloc (boxW (.slice (some ⟨b, off, none⟩) 3 c) tip (.slice (some ⟨g, go, none⟩) 3 gc) t)) := grew (Below.refl _ _) _
 have HB0 : Aside (Below w.heap.size w (w.alloc (boxW (.slice (some ⟨b, off, none⟩) 3 c) tip (.slice (some ⟨g, go, none⟩) 3 gc) t))) := hB0
 have HX0 : Aside ((w.alloc (boxW (.slice (some ⟨b, off, none⟩) 3 c) tip (.slice (some ⟨g, go, none⟩) 3 gc) t)).heap[w.heap.size]? = some (boxW (.slice (some ⟨b, off, none⟩) 3 c) tip (.slice (some ⟨g, go, none⟩) 3 gc) t)) := heap_new _ _
 have kn := checkNodes_at b off c N0 N1 N2 sa0 ta0 ua0 sm0 sc0 tm0 tc0 um0 uc0 sa1 ta1 ua1 sm1 sc1 tm1 tc1 um1 uc1 sa2 ta2 ua2 sm2 sc2 tm2 tc2 um2 uc2 (w.alloc (boxW (.slice (some ⟨b, off, none⟩) 3 c) tip (.slice (some ⟨g, go, none⟩) 3 gc) t)) (hL.later hB0) (hE.later hB0) (h0.later hB0) (h1.later hB0) (h2.later hB0) hn
 have kc : Hid (∀ W, Below w.heap.size w W → ckNds none [N0, N1, N2] = 0 → Calls Tryz.prog 33 #[wval (.slice (some ⟨b, off, none⟩) 3 c) tip (.slice (some ⟨g, go, none⟩) 3 gc) t] W fun e w' => e = .returned (.int .i64 (ckCls [N0, N1, N2] (clientsOf cs))) ∧ Below W.heap.size W w') := fun W hb hz => by
  have hE' := hE.later hb
  have u0 := (h0.later hb).unit.ents
  have u1 := (h1.later hb).unit.ents
  have u2 := (h2.later hb).unit.ents
  obtain ⟨l0, l1, l2⟩ : N0.u.cells.length = 60 ∧ N1.u.cells.length = 60 ∧ N2.u.cells.length = 60 := by
   have k0 : N0.ck = 0 := by
    by_cases k0 : N0.ck = 0
    · exact k0
    · rw [ckNds, if_pos k0] at hz; exact absurd hz k0
   rw [ckNds, if_neg (not_not_intro k0), if_neg (by simp [behindB])] at hz
   have k1 : N1.ck = 0 := by
    by_cases k1 : N1.ck = 0
    · exact k1
    · rw [ckNds, if_pos k1] at hz; exact absurd hz k1
   rw [ckNds, if_neg (not_not_intro k1)] at hz
   by_cases q1 : behindB (some N0.u.cells) N1.whole.cells = false
   · rw [if_pos q1] at hz; cases hz
   rw [if_neg q1] at hz
   have k2 : N2.ck = 0 := by
    by_cases k2 : N2.ck = 0
    · exact k2
    · rw [ckNds, if_pos k2] at hz; exact absurd hz k2
   exact ⟨(ckN_ok k0).2.2, (ckN_ok k1).2.2, (ckN_ok k2).2.2⟩
  obtain rfl : sm0 = 60 := by rw [← SlOf.len (cs := En.cells) (k := 5) u0]; exact l0
  obtain rfl : sm1 = 60 := by rw [← SlOf.len (cs := En.cells) (k := 5) u1]; exact l1
  obtain rfl : sm2 = 60 := by rw [← SlOf.len (cs := En.cells) (k := 5) u2]; exact l2
  have := checkClients_at b off c N0 N1 N2 sa0 sa1 sa2 sc0 sc1 sc2 _ _ _ _ _ _ g go gc cs tip t W hE' u0 u1 (hR.later hb) (fun x hx => bkAt_later (hC x hx) hb) (by rw [h3]; decide)
  rw [h3] at this
  exact this
 obtain ⟨d, HD⟩ : ∃ d, Hid (ckNds none [N0, N1, N2] = d) := ⟨_, rfl⟩
 rw [HD.out] at kn ⊢
 obtain ⟨R, HR⟩ : ∃ R, Hid ((if d ≠ 0 then d else ckCls [N0, N1, N2] (clientsOf cs)) = R) := ⟨_, rfl⟩
 rw [HR.out]
 clear hL hE h0 h1 h2 hn hR hC h3 hB0
 go_enter Tryz.func11, Tryz.ntmps11
 go_upto_region 1 with fail
 generalize w.alloc (boxW (.slice (some ⟨b, off, none⟩) 3 c) tip (.slice (some ⟨g, go, none⟩) 3 gc) t) = W0 at *
 have z := fun i => Joins.cell_of_block HX0.out i
 go_wp2_with fail
 refine kn.mono ?_
 rintro e w1 ⟨rfl, hb1⟩
 have HB1 : Aside _ := step_below1 HB0.out hb1
 have HX1 : Aside _ := heap_below HX0.out hb1 (heap_lt HX0.out)
 clear kn z HB0 HX0 hb1
 have z := fun i => Joins.cell_of_block HX1.out i
 by_cases hd : d = 0
 · subst hd
  have kc' := kc.out w1 HB1.out HD.out
  obtain ⟨cc, HCC⟩ : ∃ cc, Hid (ckCls [N0, N1, N2] (clientsOf cs) = cc) := ⟨_, rfl⟩
  rw [HCC.out] at kc'
  go_wp2_with fail
  refine kc'.mono ?_
  rintro e w2 ⟨rfl, hb2⟩
  have HB2 : Aside _ := step_below1 HB1.out hb2
  clear kc kc' z HB1 HX1 hb2
  go_wp2
  go_ret
  exact ⟨by rw [← HR.out, if_neg (by simp), HCC.out]; rfl, HB2.out⟩
 · have hdb : (d != 0) = true := by rw [bne_iff_ne]; exact hd
  have hR : Hid (R = d) := by rw [Hid, ← HR.out, if_pos hd]
  clear kc hd
  go_wp2
  go_ret
  exact ⟨by rw [hR.out]; rfl, HB1.out⟩
theorem w_check (vn vc : Value) (xs : List Nb) (cs : List Cb) (tip t : Int) (w : World) (hL : Laid w) (h : WdAt w vn vc xs cs) (hf : WdFits xs cs) :
  Calls Tryz.prog 11 #[wval vn tip vc t] w fun e w' => e = .returned (.int .i64 (wdOf xs tip cs t).ck) ∧ Below w.heap.size w w' := by
 obtain ⟨a1, n1, c1, rfl⟩ := slOf_sl h.rowN
 obtain ⟨a2, n2, c2, rfl⟩ := slOf_sl h.rowC
 have e1 := SlOf.len h.rowN
 have e2 := SlOf.len h.rowC
 unfold Wd.ck
 simp only [nodesOf, clientsOf, List.length_map, e1, e2]
 by_cases g1 : n1 = 3
 · subst g1
  by_cases g2 : n2 = 3
  · subst g2
   rw [if_neg (by simp)]
   by_cases r : (0 ≤ tip ∧ tip ≤ 60) ∧ (0 ≤ t ∧ t ≤ 100000)
   · rw [if_neg (not_not_intro r)]
    obtain ⟨b, off, rfl, hE⟩ := SlOf.at h.rowN (by omega)
    obtain ⟨g, go, rfl, hR⟩ := SlOf.at h.rowC (by omega)
    have hN := h.node
    have hfc := hf.cells; have hfs := hf.safe; have hfw := hf.wait
    match xs, e1 with
    | [⟨N0, v0, s0, w0⟩, ⟨N1, v1, s1, w1⟩, ⟨N2, v2, s2, w2⟩], _ =>
    have t0 := hN _ (List.mem_cons_self ..)
    have t1 := hN _ (List.mem_cons_of_mem _ (List.mem_cons_self ..))
    have t2 := hN _ (List.mem_cons_of_mem _ (List.mem_cons_of_mem _ (List.mem_cons_self ..)))
    have c0' := hfc _ (List.mem_cons_self ..)
    have s0' := hfs _ (List.mem_cons_self ..)
    have w0' := hfw _ (List.mem_cons_self ..)
    have c1' := hfc _ (List.mem_cons_of_mem _ (List.mem_cons_self ..))
    have s1' := hfs _ (List.mem_cons_of_mem _ (List.mem_cons_self ..))
    have w1' := hfw _ (List.mem_cons_of_mem _ (List.mem_cons_self ..))
    have c2' := hfc _ (List.mem_cons_of_mem _ (List.mem_cons_of_mem _ (List.mem_cons_self ..)))
    have s2' := hfs _ (List.mem_cons_of_mem _ (List.mem_cons_of_mem _ (List.mem_cons_self ..)))
    have w2' := hfw _ (List.mem_cons_of_mem _ (List.mem_cons_of_mem _ (List.mem_cons_self ..)))
    obtain ⟨sa0, sm0, sc0, rfl⟩ : ∃ a n c, v0 = .slice a n c := roomy_sl t0.unit.room
    obtain ⟨ta0, tm0, tc0, rfl⟩ : ∃ a n c, s0 = .slice a n c := roomy_sl t0.disk.room1
    obtain ⟨ua0, um0, uc0, rfl⟩ : ∃ a n c, w0 = .slice a n c := roomy_sl t0.disk.room2
    obtain ⟨sa1, sm1, sc1, rfl⟩ : ∃ a n c, v1 = .slice a n c := roomy_sl t1.unit.room
    obtain ⟨ta1, tm1, tc1, rfl⟩ : ∃ a n c, s1 = .slice a n c := roomy_sl t1.disk.room1
    obtain ⟨ua1, um1, uc1, rfl⟩ : ∃ a n c, w1 = .slice a n c := roomy_sl t1.disk.room2
    obtain ⟨sa2, sm2, sc2, rfl⟩ : ∃ a n c, v2 = .slice a n c := roomy_sl t2.unit.room
    obtain ⟨ta2, tm2, tc2, rfl⟩ : ∃ a n c, s2 = .slice a n c := roomy_sl t2.disk.room1
    obtain ⟨ua2, um2, uc2, rfl⟩ : ∃ a n c, w2 = .slice a n c := roomy_sl t2.disk.room2
    refine (check_at b off c1 N0 N1 N2 sa0 ta0 ua0 sm0 sc0 tm0 tc0 um0 uc0 sa1 ta1 ua1 sm1 sc1 tm1 tc1 um1 uc1 sa2 ta2 ua2 sm2 sc2 tm2 tc2 um2 uc2 g go c2 cs tip t w hL hE t0 t1 t2 (fun n hn => ?_) hR h.client e2 (by omega) (by omega) (by omega) (by omega)).mono fun _ _ h => h
    simp only [List.mem_cons, List.not_mem_nil, or_false] at hn
    rcases hn with rfl | rfl | rfl
    · exact ⟨c0', s0', w0'⟩
    · exact ⟨c1', s1', w1'⟩
    · exact ⟨c2', s2', w2'⟩
   · rw [if_pos r]
    by_cases q1 : tip < 0
    · exact check_range1 _ _ _ _ tip t w q1
    by_cases q2 : 60 < tip
    · exact check_range2 _ _ _ _ tip t w q1 q2
    by_cases q3 : t < 0
    · exact check_range3 _ _ _ _ tip t w q1 q2 q3
    · exact check_range4 _ _ _ _ tip t w q1 q2 q3 (by omega)
  · rw [if_pos (by simp [g2])]
   exact check_form2 _ _ _ _ _ tip t w (by rw [bne_iff_ne]; omega)
 · rw [if_pos (by simp [g1])]
  exact check_form1 _ _ _ _ _ _ tip t w (by rw [bne_iff_ne]; omega)
end
section
variable {P : Program} {ops : Array Oper} {Q : Exit → Act → World → Prop} {md : Region.Mode} {S : World → Prop} {L : Nat}
def anyL (P : Program) (md : Region.Mode) (ops : Array Oper) (Q : Exit → Act → World → Prop) (S : World → Prop) (L : Nat) : Nat → Array Bool → Act → World → Prop
 | 0, l, a, w => Region.ready md ops l = [] ∧ Q .normal a w
 | f + 1, l, a, w => (Region.ready md ops l = [] → Q .normal a w) ∧ ∀ i ∈ Region.ready md ops l, wpOp P ops Q i (fun a' w' => ((l.setIfInBounds i true).getD L true = false → S w') ∧ anyL P md ops Q S L f (l.setIfInBounds i true) a' w') a w
theorem anyL_any : ∀ (f : Nat) (l : Array Bool) (a : Act) (w : World), anyL P md ops Q S L f l a w → wpAny P md ops Q f l a w
 | 0, _, _, _, h => h
 | f + 1, _, _, _, h => ⟨h.1, fun i hi => wpOp_mono (fun a' w' h' => anyL_any f _ a' w' h'.2) (h.2 i hi)⟩
def waits (md : Region.Mode) (ops : Array Oper) (L i : Nat) : Bool := match ops[L]? with
 | some o => o.after.toList.any fun e => Region.binds md e && e.on == i
 | none => false
theorem unlisted {i : Nat} {l : Array Bool} (h0 : l.getD i true = false) : l.getD i false ≠ true := fun h1 => by
 rcases Nat.lt_or_ge i l.size with h' | h'
 · simp [h'] at h0 h1; rw [h0] at h1; cases h1
 · simp [Array.getElem?_eq_none h'] at h1
theorem not_ready {i j : Nat} {l : Array Bool} (hw : waits md ops j i = true) (h0 : l.getD i true = false) : j ∉ Region.ready md ops l := fun hj => by
 obtain ⟨_, o, ho, hall⟩ := mem_ready.1 hj
 simp only [waits, ho, List.any_eq_true, Bool.and_eq_true, beq_iff_eq, Array.mem_toList_iff] at hw
 obtain ⟨e, he, hb, rfl⟩ := hw
 exact unlisted h0 (hall e he hb)
theorem set_unlisted {L j : Nat} {l : Array Bool} (h : j ≠ L) (h0 : l.getD L true = false) : (l.setIfInBounds j true).getD L true = false := by
 rw [getD_set_ne true h]; exact h0
theorem anyL_first {i : Nat} {oi : Oper} {v : Value} (hi : ops[i]? = some oi) (hsel : ∀ (j : Nat) (o : Oper) cs b, ops[j]? = some o → o.op ≠ .select cs b) (hL : waits md ops L i = true)
  (hQ : ∀ c a w, Q (.panic c) (a.put oi.dst v) w → Q (.panic c) a w) :
  ∀ (f : Nat) (l : Array Bool) (a : Act) (w : World),
   (∀ j oj, ops[j]? = some oj → j ≠ i → l.getD j true = false → (∀ e ∈ oj.after, Region.binds md e = true → e.on ≠ i) → oi.apart ops oj = true) →
   i ∈ Region.ready md ops l → l.getD L true = false → YieldsIf P ops S oi v a → S w → anyL P md ops Q S L f (l.setIfInBounds i true) (a.put oi.dst v) w → anyL P md ops Q S L (f + 1) l a w
 | f, l, a, w, hfree, hr, hl, hy, hS, H => by
  refine ⟨fun h => (by rw [h] at hr; cases hr), fun j hj => ?_⟩
  have hi0 := (mem_ready.1 hr).1
  by_cases hji : j = i
  · subst hji
   exact hy.wpOp hi hS ⟨fun _ => hS, H⟩
  · have hjr := ready_mono hj hji
   have hjL : j ≠ L := fun e => not_ready hL hi0 (e ▸ hj)
   obtain ⟨hj0, oj, hoj, hall⟩ := mem_ready.1 hj
   cases f with
   | zero => rw [H.1] at hjr; cases hjr
   | succ f =>
    have hap := hfree j oj hoj hji hj0 (fun e he hb heq => unlisted hi0 (heq ▸ hall e he hb))
    refine wpOp_mono (fun a' w' h3 => ?_) (wpOp_putIf hoj hap (fun cs b => hsel i oi cs b hi) (fun cs b => hsel j oj cs b hoj) hQ hy (H.2 j hjr))
    obtain ⟨hy', hS', H'⟩ := h3
    have hlj := set_unlisted hjL hl
    have hiL : i ≠ L := fun e => by
     subst e
     exact not_ready hL hi0 hr
    have hS2 : S w' := hS' (set_unlisted hjL (set_unlisted hiL hl))
    refine ⟨fun _ => hS2, anyL_first hi hsel hL hQ f (l.setIfInBounds j true) a' w' (fun k ok hk hki hun hno => hfree k ok hk hki ?_ hno) (ready_mono hr (Ne.symm hji)) hlj hy' hS2 ?_⟩
    · by_cases hjk : j = k
     · subst hjk; exact hj0
     · rw [getD_set_ne true hjk] at hun; exact hun
    · rw [Array.setIfInBounds_comm _ _ hji]; exact H'
theorem anyL_take {i : Nat} {oi : Oper} {v : Value} {f : Nat} {l : Array Bool} {a : Act} {w : World} (hi : ops[i]? = some oi) (hs : Region.noSelect ops = true) (hf : Region.free md ops l i = true) (hr : (Region.ready md ops l).contains i = true)
  (hL : waits md ops L i = true) (hl : l.getD L true = false) (hQ : ∀ c a w, Q (.panic c) (a.put oi.dst v) w → Q (.panic c) a w) (hy : YieldsIf P ops S oi v a) (hS : S w)
  (h : anyL P md ops Q S L f (l.setIfInBounds i true) (a.put oi.dst v) w) : anyL P md ops Q S L (f + 1) l a w :=
 anyL_first hi (Region.noSelect_spec hs) hL hQ f l a w (Region.free_spec hi hf) (by simpa using hr) hl hy hS h
theorem anyL_firstY {i : Nat} {oi : Oper} {v : Value} (hi : ops[i]? = some oi) (hsel : ∀ (j : Nat) (o : Oper) cs b, ops[j]? = some o → o.op ≠ .select cs b) (hiL : i ≠ L)
  (hQ : ∀ c a w, Q (.panic c) (a.put oi.dst v) w → Q (.panic c) a w) :
  ∀ (f : Nat) (l : Array Bool) (a : Act) (w : World),
   (∀ j oj, ops[j]? = some oj → j ≠ i → l.getD j true = false → (∀ e ∈ oj.after, Region.binds md e = true → e.on ≠ i) → oi.apart ops oj = true) →
   i ∈ Region.ready md ops l → YieldsIf P ops (fun _ => True) oi v a → (l.getD L true = false → S w) → anyL P md ops Q S L f (l.setIfInBounds i true) (a.put oi.dst v) w → anyL P md ops Q S L (f + 1) l a w
 | f, l, a, w, hfree, hr, hy, hS, H => by
  refine ⟨fun h => (by rw [h] at hr; cases hr), fun j hj => ?_⟩
  have hi0 := (mem_ready.1 hr).1
  by_cases hji : j = i
  · subst hji
   exact hy.wpOp hi trivial ⟨fun h => hS (by rwa [getD_set_ne true hiL] at h), H⟩
  · have hjr := ready_mono hj hji
   obtain ⟨hj0, oj, hoj, hall⟩ := mem_ready.1 hj
   cases f with
   | zero => rw [H.1] at hjr; cases hjr
   | succ f =>
    have hap := hfree j oj hoj hji hj0 (fun e he hb heq => unlisted hi0 (heq ▸ hall e he hb))
    refine wpOp_mono (fun a' w' h3 => ?_) (wpOp_putIf hoj hap (fun cs b => hsel i oi cs b hi) (fun cs b => hsel j oj cs b hoj) hQ hy (H.2 j hjr))
    obtain ⟨hy', hS', H'⟩ := h3
    have hS2 : (l.setIfInBounds j true).getD L true = false → S w' := fun h => hS' (by rw [Array.setIfInBounds_comm _ _ (Ne.symm hji)]; exact set_unlisted hiL h)
    refine ⟨hS2, anyL_firstY hi hsel hiL hQ f (l.setIfInBounds j true) a' w' (fun k ok hk hki hun hno => hfree k ok hk hki ?_ hno) (ready_mono hr (Ne.symm hji)) hy' hS2 ?_⟩
    · by_cases hjk : j = k
     · subst hjk; exact hj0
     · rw [getD_set_ne true hjk] at hun; exact hun
    · rw [Array.setIfInBounds_comm _ _ hji]; exact H'
theorem anyL_free {i : Nat} {oi : Oper} {v : Value} {f : Nat} {l : Array Bool} {a : Act} {w : World} (hi : ops[i]? = some oi) (hs : Region.noSelect ops = true) (hf : Region.free md ops l i = true) (hr : (Region.ready md ops l).contains i = true)
  (hiL : (i == L) = false) (hQ : ∀ c a w, Q (.panic c) (a.put oi.dst v) w → Q (.panic c) a w) (hy : YieldsIf P ops (fun _ => True) oi v a) (hS : S w)
  (h : anyL P md ops Q S L f (l.setIfInBounds i true) (a.put oi.dst v) w) : anyL P md ops Q S L (f + 1) l a w :=
 anyL_firstY hi (Region.noSelect_spec hs) (by simpa using hiL) hQ f l a w (Region.free_spec hi hf) (by simpa using hr) hy (fun _ => hS) h
theorem anyL_one {i : Nat} {o : Oper} {f : Nat} {l : Array Bool} {a : Act} {w : World} (hr : Region.ready md ops l = [i]) (ho : ops[i]? = some o)
  (h : ∀ K : Act → World → Prop, Hid (∀ a' w', ((l.setIfInBounds i true).getD L true = false → S w') → (((l.setIfInBounds i true).getD L true = false → S w') → anyL P md ops Q S L f (l.setIfInBounds i true) a' w') → K a' w') → (if Region.wanted o (yielded ops a.tmps) = true then Oper.wp P o a w K Q else K (a.put o.dst undef) w)) : anyL P md ops Q S L (f + 1) l a w := by
 refine ⟨fun h0 => (by rw [hr] at h0; cases h0), fun j hj => ?_⟩
 rw [hr] at hj
 obtain rfl := List.mem_singleton.1 hj
 have h' := h (fun a' w' => ((l.setIfInBounds j true).getD L true = false → S w') ∧ anyL P md ops Q S L f (l.setIfInBounds j true) a' w') (fun a' w' h1 h2 => ⟨h1, h2 h1⟩)
 unfold wpOp
 rw [ho]
 split at h'
 · rename_i hw
  simp only [hw, if_true]
  exact Or.inl h'
 · rename_i hw
  simp only [hw]
  exact h'
theorem anyL_done {l : Array Bool} {a : Act} {w : World} (hr : Region.ready md ops l = []) (h : Q .normal a w) : ∀ f, anyL P md ops Q S L f l a w
 | 0 => ⟨hr, h⟩
 | _ + 1 => ⟨fun _ => h, by rw [hr]; simp⟩
theorem region_L (S : World → Prop) (L : Nat) {id : Nat} {a : Act} {w : World} (hm : P.follows .mixedOrders = true) (hS : S w.drew)
  (h : S w.drew → anyL P .any ops Q S L ops.size (Array.replicate ops.size false) a w.drew) : (Code.region id ops true).wp P Q a w :=
 wp_region_any hm (anyL_any _ _ _ _ (h hS))
end
theorem tl {P : Program} {ops : Array Oper} {Q : Exit → Act → World → Prop} {md : Region.Mode} {S : World → Prop} {L : Nat} (i : Nat) {oi : Oper} {v : Value} {f : Nat} {l : Array Bool} {a : Act} {w : World} (hi : ops[i]? = some oi)
 (h3 : (Region.noSelect ops && (Region.free md ops l i && ((Region.ready md ops l).contains i && (waits md ops L i && !l.getD L true)))) = true) (hw : Region.wanted oi (yielded ops a.tmps) = true) (hS : S w) (hQ : ∀ c a w, Q (.panic c) (a.put oi.dst v) w → Q (.panic c) a w)
 (hy : ∀ w, S w → (execOp a.eval oi).run P w = .ok (.value v) w) (h : anyL P md ops Q S L f (l.setIfInBounds i true) (a.put oi.dst v) w) : anyL P md ops Q S L (f + 1) l a w := by
 simp only [Bool.and_eq_true, Bool.not_eq_true'] at h3
 exact anyL_take hi h3.1 h3.2.1 h3.2.2.1 h3.2.2.2.1 h3.2.2.2.2 hQ (Or.inl ⟨hw, hy⟩) hS h
theorem sizeJ : (Tryz.prog.info? 120).map (·.size) = some 3 := by kernel_rfl
theorem sizeR : (Tryz.prog.info? 76).map (·.size) = some 3 := by kernel_rfl
theorem copyJ (v : Value) (xs : List Jb) (w : World) (hv : JobSl w v xs) (hn : xs.length ≤ 1000000) :
  Calls Tryz.prog 228 #[v] w fun e w' => ∃ g, e = .returned (.slice (some ⟨g, 0, none⟩) xs.length xs.length) ∧ w.heap.size ≤ g ∧ w'.heap[g]? = some (.cells (xs.flatMap Jb.cells).toArray 120) ∧ Below w.heap.size w w' := by
 obtain ⟨i0, hi, hz0, hz1, hz2⟩ := info_parts infoJ
 have H1 : Hid (JobSl w v xs) := hv
 obtain ⟨a1, c1, rfl, _⟩ := hv
 obtain ⟨cs, hcs⟩ : ∃ cs, Hid (xs.flatMap Jb.cells = cs) := ⟨_, rfl⟩
 have hone : ∀ u ∈ cs, u.oneCell' = true := by rw [← hcs.out]; exact oneJ xs
 have hlen : cs.length = xs.length * 3 := by rw [← hcs.out]; exact row_len Jb.three xs
 rw [hcs.out]
 obtain ⟨n1, hn1⟩ : ∃ n1, xs.length = n1 := ⟨_, rfl⟩
 have L1 : Hid (xs.length = n1) := hn1
 rw [hn1] at H1 hn hlen ⊢
 clear hn1
 go_enter Tryz.func228, Tryz.ntmps228
 go_wp2_with (at_make; refine wpList_make_full _ rfl _ _ 36 rfl w.heap.size 120 i0 (valJ 0 0 0) 3 Tryz.underlying36 hi hz0 hz1 _ _ _ _ n1 rfl rfl rfl rfl (by rw [hz2]; omega) (by unfold maxLen; omega) (Nat.le_refl _) ?_)
 intro w1 hown hgrow
 obtain ⟨hl0, ho⟩ := hown
 rcases ho with ⟨h, _⟩ | ⟨g, cap, cur, hv', _, hg, _, _, hsz, htake⟩
 · cases h
 injection hv' with ha _ hc
 injection ha with ha
 injection ha with ha _ _
 subst ha hc
 have hB1 : Below w.heap.size w w1 := ⟨hgrow.os, hgrow.tape, hgrow.output, hgrow.size, fun k hk => hgrow.block k hk (fun h => by cases h)⟩
 have hcur : cur.toList.length = n1 * 3 := by simpa using hsz
 have hg' : w1.heap[w.heap.size]? = some (.cells cur.toList.toArray 120 (0, 0)) := by simpa using hg
 clear hi hz0 hz1 hz2 hl0 htake hgrow hg hsz
 have hpos : 0 < Nat.min n1 n1 → (some ⟨w.heap.size, 0, none⟩ : Option Addr) = some ⟨w.heap.size, 0, none⟩ ∧ ∃ ad, a1 = some ad ∧ ∀ j v, cs[j]? = some v → w1.cell? (ad.add j) = some v := fun h0 => by
  have h0' : 0 < n1 := by
   have : 0 < min n1 n1 := h0
   omega
  obtain ⟨b, off, rfl, hE⟩ := H1.out.at h0'
  refine ⟨rfl, _, rfl, fun j u hj => ?_⟩
  rw [Lib.add_plain]
  rw [← hcs.out] at hj
  exact rows_flat Jb.three xs off (hE.later hB1) j u hj
 have hmin : cs.length = Nat.min n1 n1 * 3 := by rw [hlen]; show _ = min n1 n1 * 3; rw [Nat.min_self]
 have hfit : 0 + cs.length ≤ cur.toList.length := by rw [hcur, hlen]; omega
 have hall := splice_all (hcur.trans hlen.symm)
 obtain ⟨cl, hcl⟩ : ∃ cl, Hid (cur.toList = cl) := ⟨_, rfl⟩
 rw [hcl.out] at hg' hfit hall
 clear hcur hcl
 go_wp2_with ((with_reducible show wpList _ _ _ (Oper.mk (some 9) _ _ _ _ _ :: _) _ _); refine wpList_copyK rfl _ _ 36 36 rfl 120 3 Tryz.underlying36 sizeJ (some ⟨w.heap.size, 0, none⟩) a1 n1 n1 n1 c1 rfl rfl w.heap.size 0 cl 120 hg' cs hmin hpos hfit hone w.heap.size w hB1 (Nat.le_refl _) ?_)
 intro w2 hg2 hB2
 go_wp2
 go_ret
 exact ⟨_, rfl, Nat.le_refl _, hg2.out, hB2⟩
theorem copyR (v : Value) (xs : List Rg) (w : World) (hv : RungSl w v xs) (hn : xs.length ≤ 1000000) :
  Calls Tryz.prog 229 #[v] w fun e w' => ∃ g, e = .returned (.slice (some ⟨g, 0, none⟩) xs.length xs.length) ∧ w.heap.size ≤ g ∧ w'.heap[g]? = some (.cells (xs.flatMap Rg.cells).toArray 76) ∧ Below w.heap.size w w' := by
 obtain ⟨i0, hi, hz0, hz1, hz2⟩ := info_parts infoR
 have H1 : Hid (RungSl w v xs) := hv
 obtain ⟨a1, c1, rfl, _⟩ := hv
 obtain ⟨cs, hcs⟩ : ∃ cs, Hid (xs.flatMap Rg.cells = cs) := ⟨_, rfl⟩
 have hone : ∀ u ∈ cs, u.oneCell' = true := by rw [← hcs.out]; exact oneR xs
 have hlen : cs.length = xs.length * 3 := by rw [← hcs.out]; exact row_len Rg.three xs
 rw [hcs.out]
 obtain ⟨n1, hn1⟩ : ∃ n1, xs.length = n1 := ⟨_, rfl⟩
 have L1 : Hid (xs.length = n1) := hn1
 rw [hn1] at H1 hn hlen ⊢
 clear hn1
 go_enter Tryz.func229, Tryz.ntmps229
 go_wp2_with (at_make; refine wpList_make_full _ rfl _ _ 37 rfl w.heap.size 76 i0 (valR 0 0 0) 3 Tryz.underlying37 hi hz0 hz1 _ _ _ _ n1 rfl rfl rfl rfl (by rw [hz2]; omega) (by unfold maxLen; omega) (Nat.le_refl _) ?_)
 intro w1 hown hgrow
 obtain ⟨hl0, ho⟩ := hown
 rcases ho with ⟨h, _⟩ | ⟨g, cap, cur, hv', _, hg, _, _, hsz, htake⟩
 · cases h
 injection hv' with ha _ hc
 injection ha with ha
 injection ha with ha _ _
 subst ha hc
 have hB1 : Below w.heap.size w w1 := ⟨hgrow.os, hgrow.tape, hgrow.output, hgrow.size, fun k hk => hgrow.block k hk (fun h => by cases h)⟩
 have hcur : cur.toList.length = n1 * 3 := by simpa using hsz
 have hg' : w1.heap[w.heap.size]? = some (.cells cur.toList.toArray 76 (0, 0)) := by simpa using hg
 clear hi hz0 hz1 hz2 hl0 htake hgrow hg hsz
 have hpos : 0 < Nat.min n1 n1 → (some ⟨w.heap.size, 0, none⟩ : Option Addr) = some ⟨w.heap.size, 0, none⟩ ∧ ∃ ad, a1 = some ad ∧ ∀ j v, cs[j]? = some v → w1.cell? (ad.add j) = some v := fun h0 => by
  have h0' : 0 < n1 := by
   have : 0 < min n1 n1 := h0
   omega
  obtain ⟨b, off, rfl, hE⟩ := H1.out.at h0'
  refine ⟨rfl, _, rfl, fun j u hj => ?_⟩
  rw [Lib.add_plain]
  rw [← hcs.out] at hj
  exact rows_flat Rg.three xs off (hE.later hB1) j u hj
 have hmin : cs.length = Nat.min n1 n1 * 3 := by rw [hlen]; show _ = min n1 n1 * 3; rw [Nat.min_self]
 have hfit : 0 + cs.length ≤ cur.toList.length := by rw [hcur, hlen]; omega
 have hall := splice_all (hcur.trans hlen.symm)
 obtain ⟨cl, hcl⟩ : ∃ cl, Hid (cur.toList = cl) := ⟨_, rfl⟩
 rw [hcl.out] at hg' hfit hall
 clear hcur hcl
 go_wp2_with ((with_reducible show wpList _ _ _ (Oper.mk (some 9) _ _ _ _ _ :: _) _ _); refine wpList_copyK rfl _ _ 37 37 rfl 76 3 Tryz.underlying37 sizeR (some ⟨w.heap.size, 0, none⟩) a1 n1 n1 n1 c1 rfl rfl w.heap.size 0 cl 76 hg' cs hmin hpos hfit hone w.heap.size w hB1 (Nat.le_refl _) ?_)
 intro w2 hg2 hB2
 go_wp2
 go_ret
 exact ⟨_, rfl, Nat.le_refl _, hg2.out, hB2⟩
structure Kept (S : List Nat) (w w' : World) : Prop where
 os : w'.os = w.os
 tape : w'.tape = w.tape
 output : w'.output = w.output
 size : w.heap.size ≤ w'.heap.size
 block : ∀ k, k < w.heap.size → k ∉ S → w'.heap[k]? = w.heap[k]?
theorem Kept.refl (S : List Nat) (w : World) : Kept S w w := ⟨rfl, rfl, rfl, Nat.le_refl _, fun _ _ _ => rfl⟩
theorem Kept.below {S : List Nat} {a w w' : World} (h : Kept S a w) (hb : Below w.heap.size w w') : Kept S a w' :=
 ⟨hb.os.trans h.os, hb.tape.trans h.tape, hb.output.trans h.output, Nat.le_trans h.size hb.size, fun k hk hS => (hb.block k (Nat.lt_of_lt_of_le hk h.size)).trans (h.block k hk hS)⟩
theorem Kept.alloc {S : List Nat} {a w : World} (h : Kept S a w) (o : Obj) : Kept S a (w.alloc o) := h.below (grew (Below.refl _ _) o)
theorem Kept.setRow {S : List Nat} {a w : World} (h : Kept S a w) {g : Nat} (hg : g ∈ S) (cs : Array Value) : Kept S a (w.setRow g cs) :=
 ⟨h.os, h.tape, h.output, Nat.le_trans h.size (by simp [World.setRow]), fun k hk hS => by
  rw [setRow_other w g k cs (fun e => hS (by rw [e]; exact hg))]; exact h.block k hk hS⟩
theorem Kept.setCell {S : List Nat} {a w : World} (h : Kept S a w) {g o : Nat} (hg : g ∈ S) (v : Value) : Kept S a (w.setCell ⟨g, o, none⟩ v) :=
 ⟨h.os, h.tape, h.output, Nat.le_trans h.size (by simp [World.setCell]), fun k hk hS => by
  rw [Below.heap_setCell _ _ _ _ (by show k ≠ g; exact fun e => hS (by rw [e]; exact hg))]; exact h.block k hk hS⟩
theorem Kept.old {S : List Nat} {w w' : World} {k : Nat} {o : Obj} (h : Kept S w w') (hk : w.heap[k]? = some o) (hS : k ∉ S) : w'.heap[k]? = some o := by
 rw [h.block k (heap_lt hk) hS]; exact hk
theorem Kept.to {S : List Nat} {B : Nat} {w w' : World} (h : Kept S w w') (hB : B ≤ w.heap.size) (hS : ∀ k, k ∈ S → B ≤ k) : Below B w w' :=
 ⟨h.os, h.tape, h.output, h.size, fun k hk => h.block k (Nat.lt_of_lt_of_le hk hB) (fun e => by have := hS k e; omega)⟩
theorem block_set {w : World} {g o : Nat} {L : List Value} {T : TypeId} (hg : w.heap[g]? = some (.cells L.toArray T)) (v : Value) : (w.setCell ⟨g, o, none⟩ v).heap[g]? = some (.cells (L.set o v).toArray T) := by
 have hlt : g < w.heap.size := (Array.getElem?_eq_some_iff.1 hg).1
 have hv : w.heap[g] = .cells L.toArray T := (Array.getElem?_eq_some_iff.1 hg).2
 unfold World.setCell
 rw [Array.getElem?_eq_getElem (by simpa using hlt), Array.getElem_modify]
 simp [hv]
theorem splice_three {L : List Value} {o : Nat} (a b c : Value) (h : o + 2 < L.length) : ((L.set o a).set (o + 1) b).set (o + 2) c = splice L o [a, b, c] := by
 refine List.ext_getElem (by simp [splice]; omega) fun j h1 h2 => ?_
 simp only [List.getElem_set, splice]
 by_cases h3 : j < o
 · rw [List.getElem_append_left (by simp; omega), List.getElem_take, if_neg (by omega), if_neg (by omega), if_neg (by omega)]
 · rw [List.getElem_append_right (by simp; omega)]
  have hl : (List.take o L).length = o := by simp; omega
  simp only [hl]
  by_cases h4 : j < o + 3
  · rw [List.getElem_append_left (by simp; omega)]
   obtain h5 | h5 | h5 : j = o ∨ j = o + 1 ∨ j = o + 2 := by omega
   all_goals (subst h5; simp)
  · rw [List.getElem_append_right (by simp; omega), if_neg (by omega), if_neg (by omega), if_neg (by omega), List.getElem_drop]
   congr 1
   simp
   omega
theorem block_three {w : World} {g o : Nat} {L : List Value} {T : TypeId} (hg : w.heap[g]? = some (.cells L.toArray T)) (a b c : Value) (h : o + 2 < L.length) :
  (((w.setCell ⟨g, o, none⟩ a).setCell ⟨g, o + 1, none⟩ b).setCell ⟨g, o + 2, none⟩ c).heap[g]? = some (.cells (splice L o [a, b, c]).toArray T) := by
 rw [← splice_three a b c h]
 exact block_set (block_set (block_set hg a) b) c
theorem rowAt_block {α : Type} {cs : α → List Value} {k : Nat} (hk : ∀ x, (cs x).length = k) {w : World} {b : Nat} {xs : List α} {T : TypeId} {L : List Value} (hb : w.heap[b]? = some (.cells L.toArray T)) (h : ∃ t, L = xs.flatMap cs ++ t) : RowAt cs k w b 0 xs := fun j e hj i u hi => by
 obtain ⟨t, rfl⟩ := h
 rw [Joins.cell_of_block hb, Nat.zero_add]
 have := row_flat hk xs j e hj i u hi
 have hlt := (List.getElem?_eq_some_iff.1 this).1
 simp [List.getElem?_append_left hlt, this]
theorem slOf_block {α : Type} {cs : α → List Value} {k : Nat} (hk : ∀ x, (cs x).length = k) {w : World} {b c : Nat} {xs : List α} {T : TypeId} {L : List Value} (hb : w.heap[b]? = some (.cells L.toArray T)) (h : ∃ t, L = xs.flatMap cs ++ t) : SlOf cs k w (.slice (some ⟨b, 0, none⟩) xs.length c) xs :=
 ⟨_, c, rfl, Or.inr ⟨b, 0, rfl, rowAt_block hk hb h⟩⟩
theorem splice_flat {α : Type} {cs : α → List Value} {k : Nat} (hk : ∀ x, (cs x).length = k) (a b : List α) (y z : α) : splice ((a ++ y :: b).flatMap cs) (a.length * k) (cs z) = (a ++ z :: b).flatMap cs := by
 have h1 := row_len hk a
 simp only [splice, List.flatMap_append, List.flatMap_cons, hk]
 rw [← h1, List.take_left, List.drop_append]
 simp [hk]
theorem srt_mid : ∀ {l : Int} {a b : List Jb} {y : Jb}, Srt l (a ++ y :: b) → (∀ x, x ∈ a → x.i < y.i) ∧ (∀ x, x ∈ b → y.i < x.i)
 | _, [], _, _, h => ⟨fun x hx => (by cases hx), fun x hx => Srt.above h.2 x hx⟩
 | l, z :: a, b, y, h => by
  obtain ⟨h1, h2⟩ := srt_mid (a := a) h.2
  refine ⟨fun x hx => ?_, h2⟩
  rcases List.mem_cons.1 hx with rfl | hx
  · exact Srt.above h.2 y (by simp)
  · exact h1 x hx
theorem alt_gap {a b : List Jb} {i : Int} (ha : ∀ x, x ∈ a → x.i < i) (hb : ∀ x, x ∈ b → i < x.i) (v : Option Jb) : alt (a ++ b) i v = a ++ v.toList ++ b := by
 have e1 : (a ++ b).filter (fun x => decide (x.i < i)) = a := by
  rw [List.filter_append, List.filter_eq_self.2 (fun x hx => by simpa using ha x hx), List.filter_eq_nil_iff.2 (fun x hx => by have := hb x hx; simp; omega), List.append_nil]
 have e2 : (a ++ b).filter (fun x => decide (i < x.i)) = b := by
  rw [List.filter_append, List.filter_eq_nil_iff.2 (fun x hx => by have := ha x hx; simp; omega), List.filter_eq_self.2 (fun x hx => by simpa using hb x hx), List.nil_append]
 rw [alt, e1, e2]
theorem alt_mid {l : Int} {a b : List Jb} {y : Jb} (h : Srt l (a ++ y :: b)) (v : Option Jb) : alt (a ++ y :: b) y.i v = a ++ v.toList ++ b := by
 obtain ⟨h1, h2⟩ := srt_mid h
 have e1 : (a ++ y :: b).filter (fun x => decide (x.i < y.i)) = a := by
  rw [List.filter_append, List.filter_cons, if_neg (by simp), List.filter_eq_self.2 (fun x hx => by simpa using h1 x hx), List.filter_eq_nil_iff.2 (fun x hx => by have := h2 x hx; simp; omega), List.append_nil]
 have e2 : (a ++ y :: b).filter (fun x => decide (y.i < x.i)) = b := by
  rw [List.filter_append, List.filter_cons, if_neg (by simp), List.filter_eq_nil_iff.2 (fun x hx => by have := h1 x hx; simp; omega), List.filter_eq_self.2 (fun x hx => by simpa using h2 x hx), List.nil_append]
 rw [alt, e1, e2]
theorem alt_filter {l : Int} {js : List Jb} {i : Int} (h : Srt l js) (hi : l < i) : alt js i none = js.filter (fun x => !(x.i == i)) := by
 refine srt_ext (alt_srt h hi (fun x hx => by cases hx)) (srt_filter _ h) fun x => ?_
 rw [alt_mem, List.mem_filter]
 simp
theorem srt_above_at {l i : Int} {js : List Jb} {k : Nat} {x : Jb} (h : Srt l js) (hx : js[k]? = some x) (hi : i < x.i) : ∀ y, y ∈ js.drop k → i < y.i := by
 have hlt := (List.getElem?_eq_some_iff.1 hx).1
 have e : js = js.take k ++ x :: js.drop (k + 1) := by
  rw [← drop_at hx, List.take_append_drop]
 rw [e] at h
 obtain ⟨_, h2⟩ := srt_mid h
 rw [drop_at hx]
 intro y hy
 rcases List.mem_cons.1 hy with rfl | hy
 · exact hi
 · have := h2 y hy; omega
end Go.Proofs.YtmoaobfmopimlafGreatDoor
