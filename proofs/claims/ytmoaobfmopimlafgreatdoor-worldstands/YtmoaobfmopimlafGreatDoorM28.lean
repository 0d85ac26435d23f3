/- For the law. -/
import Derived.Test.YtmoaobfmopimlafGreatDoorM27
set_option linter.unusedSimpArgs false
set_option linter.unusedVariables false
namespace Go.Proofs.YtmoaobfmopimlafGreatDoor
open Go.RowKit
theorem Post.from {st : World → Nat → Nat → Nb → World} {w W w' : World} {g o : Nat} {x : Nb} {n' : Nd} (hb : Below w.heap.size w W) (h : Post st W w' g o x n') : Post st w w' g o x n' := by
 obtain ⟨w1, h1, h2⟩ := h
 exact ⟨w1, step_below1 hb h1, h2⟩
theorem none_same {r : Rc} (hr : r = Rc.zero ∨ r.k = 1) : (r.same Rc.zero = true ∧ r.k = 0) ∨ (r.same Rc.zero = false ∧ r.k ≠ 0) := by
 rcases hr with rfl | h
 ·exact Or.inl ⟨by decide, rfl⟩
 ·refine Or.inr ⟨?_, by omega⟩
  unfold Rc.same
  rw [decide_eq_false (fun hh => by have := hh.1; rw [h] at this; cases this)]
  rfl
set_option maxHeartbeats 4000000 in
set_option maxRecDepth 100000 in
theorem w_writeAny {w : World} {g o : Nat} {NC : List Value} {x : Nb} (hL : Laid w) (h : NAt w g o NC x) (hn1 : x.n.s.length ≤ topLen) (hn2 : x.n.w.length ≤ topLen) {r : Rc} (hr : r = Rc.zero ∨ r.k = 1) :
  Calls Tryz.prog 108 #[.pointer (some ⟨g, o, none⟩), r.val] w fun e w' => e = .returned (.int .i64 (x.n.writeAny r).2) ∧ Post st4 w w' g o x (x.n.writeAny r).1 := by
 have hB0 : Below w.heap.size w (w.alloc (boxRc r)) := grew (Below.refl _ _) _
 have HB0 : Aside (Below w.heap.size w (w.alloc (boxRc r))) := hB0
 have HX0 : Aside ((w.alloc (boxRc r)).heap[w.heap.size]? = some (boxRc r)) := heap_new _ _
 have hno := w_isNone r (w.alloc (boxRc r))
 have kw : Aside (∀ W, Below w.heap.size w W → Calls Tryz.prog 102 #[.pointer (some ⟨g, o, none⟩), r.val] W fun e w' => e = .returned (.int .i64 (x.n.write r).2) ∧ Post st4 W w' g o x (x.n.write r).1) := fun W hb => w_write (hL.later hb) (h.later hb) hn1 hn2 r
 have hway := none_same hr
 clear hL h hn1 hn2 hr hB0
 rcases hway with ⟨hs, hk⟩ | ⟨hs, hk⟩
 ·rw [hs] at hno
  rw [show x.n.writeAny r = (x.n, 0) by rw [Nd.writeAny, if_pos hk]]
  clear kw hs hk
  go_enter Tryz.func108, Tryz.ntmps108
  go_upto_region 1 with fail
  generalize w.alloc (boxRc r) = W0 at *
  have z := cb HX0
  go_wp2_with fail
  refine hno.mono ?_
  rintro e w1 ⟨rfl, hb1⟩
  have HB1 := sb HB0 hb1
  clear z hno hb1 HB0 HX0
  go_wp2
  go_ret
  exact ⟨rfl, w1, HB1.out, Or.inl ⟨rfl, rfl⟩⟩
 ·rw [hs] at hno
  rw [show x.n.writeAny r = x.n.write r by rw [Nd.writeAny, if_neg hk]]
  obtain ⟨rr, HRR⟩ : ∃ rr, Hid (x.n.write r = rr) := ⟨_, rfl⟩
  rw [HRR.out] at kw ⊢
  clear hs hk HRR
  go_enter Tryz.func108, Tryz.ntmps108
  go_upto_region 1 with fail
  generalize w.alloc (boxRc r) = W0 at *
  have z := cb HX0
  go_wp2_with fail
  refine hno.mono ?_
  rintro e w1 ⟨rfl, hb1⟩
  have HB1 := sb HB0 hb1
  have HX1 := hv HX0 hb1
  clear z hno hb1 HB0 HX0
  have z := cb HX1
  go_wp2_with fail
  refine (kw.out _ HB1.out).mono ?_
  rintro e w2 ⟨rfl, hp⟩
  have HP : Aside (Post st4 w w2 g o x rr.1) := hp.from HB1.out
  clear hp kw z HX1 HB1
  go_wp2
  go_ret
  exact ⟨rfl, HP.out⟩
theorem crash_put {s t : List UInt8} {c : Rc} (h : (dput s t c).2 = 0) {m : Int} (h0 : 0 ≤ m) (h1 : m ≤ (dput s t c).1.2.length) : dcrash (dput s t c).1.1 (dput s t c).1.2 m = (((dput s t c).1.1, (dput s t c).1.2.take m.toNat), 0) := by
 have hk : ckDisk (dput s t c).1.1 (dput s t c).1.2 = 0 := by
  clear h0 h1
  unfold dput at h ⊢
  by_cases h1 : ckDisk s t = 0
  ·rw [if_neg (not_not_intro h1)] at h ⊢
   have hl := ckDisk_zero.1 h1
   unfold putOn at h ⊢
   by_cases h2 : c.chk = 0
   ·rw [if_neg (not_not_intro h2)] at h ⊢
    by_cases h3 : 30000 < s.length + t.length + c.txt.length + 1
    ·rw [if_pos h3] at h; cases h
    ·rw [if_neg h3]
     refine ckDisk_zero.2 ⟨?_, hl.2⟩
     show s.length + (t ++ (c.txt ++ [10])).length ≤ _
     simp; omega
   ·rw [if_pos h2] at h; exact absurd h h2
  ·rw [if_pos h1] at h; exact absurd h h1
 rw [dcrash, if_neg (not_not_intro hk), if_neg (by omega)]
theorem kept_int (k : Int) (n : Nat) : 0 ≤ min (max k 0) (n : Int) ∧ min (max k 0) (n : Int) ≤ n ∧ (min (max k 0) (n : Int)).toNat = keptOf k n := by
 unfold keptOf
 omega
theorem tear_ways (n : Nd) {r : Rc} (k : Int) (D : Dk) (d2 : Int) (q2 : dput n.s n.w r = (D, d2)) (hk : r.k ≠ 0) :
  (d2 ≠ 0 ∧ n.tear r k = (n, d2)) ∨ (d2 = 0 ∧ n.tear r k = (⟨n.u, D.1, D.2.take (keptOf k D.2.length), false⟩, 0) ∧ dcrash D.1 D.2 (min (max k 0) (D.2.length : Int)) = ((D.1, D.2.take (keptOf k D.2.length)), 0)) := by
 unfold Nd.tear
 rw [if_neg hk, q2]
 by_cases h2 : d2 = 0
 ·refine Or.inr ⟨h2, by rw [if_neg (not_not_intro h2)], ?_⟩
  obtain ⟨g1, g2, g3⟩ := kept_int k D.2.length
  have := crash_put (s := n.s) (t := n.w) (c := r) (by rw [q2]; exact h2) g1 (by rw [q2]; exact g2)
  rw [q2, g3] at this
  exact this
 ·exact Or.inl ⟨h2, by rw [if_pos h2]⟩
set_option maxHeartbeats 8000000 in
set_option maxRecDepth 100000 in
theorem w_tear_at {w : World} {g o : Nat} {NC : List Value} (u : Un) (s t : List UInt8) (up : Bool) (a0 a1 a2 : Option Addr) (m0 k0 m1 k1 m2 k2 : Nat) (hL : Laid w) (h : NAt w g o NC ⟨⟨u, s, t, up⟩, (.slice a0 m0 k0), (.slice a1 m1 k1), (.slice a2 m2 k2)⟩) (hn1 : s.length ≤ topLen) (hn2 : t.length ≤ topLen) (r : Rc) (hs : r.same Rc.zero = false) (hk : r.k ≠ 0) (kk : Int) :
  Calls Tryz.prog 107 #[.pointer (some ⟨g, o, none⟩), r.val, .int .i64 kk] w fun e w' => e = .returned (.int .i64 (Nd.tear ⟨u, s, t, up⟩ r kk).2) ∧ Post3 w w' g o ⟨⟨u, s, t, up⟩, (.slice a0 m0 k0), (.slice a1 m1 k1), (.slice a2 m2 k2)⟩ (Nd.tear ⟨u, s, t, up⟩ r kk).1 := by
 obtain ⟨⟨D, d2⟩, q2⟩ : ∃ q, dput s t r = q := ⟨_, rfl⟩
 have hw := tear_ways ⟨u, s, t, up⟩ kk D d2 q2 hk
 obtain ⟨T, hT⟩ : ∃ T, Hid (D.2.take (keptOf kk D.2.length) = T) := ⟨_, rfl⟩
 rw [hT.out] at hw
 have kp : Aside (∀ W, Below w.heap.size w W → AnsR 129 (.slice a1 m1 k1) (.slice a2 m2 k2) #[.agg #[(.slice a1 m1 k1), (.slice a2 m2 k2)], r.val] W (D, d2)) := fun W hb => by
  have := diskPut_any (.slice a1 m1 k1) (.slice a2 m2 k2) (s, t) r W (hL.later hb) (h.rows.disk.later hb) hn1 hn2
  rwa [q2] at this
 have hfit : d2 = 0 → D.1.length ≤ topLen ∧ D.2.length ≤ topLen := fun h0 => by
  have := dput_fit (s := s) (t := t) (c := r) (by rw [q2]; exact h0)
  rwa [q2] at this
 have ks : Aside (∀ W v1 v2 m, Below w.heap.size w W → d2 = 0 → DiskR W v1 v2 D → AnsR 135 v1 v2 #[.agg #[v1, v2], .int .i64 m] W (dcrash D.1 D.2 m)) := fun W v1 v2 m hb h0 hD =>
  diskCrash_any v1 v2 D m W (hL.later hb) hD (hfit h0).1 (hfit h0).2
 have hno := w_isNone r (w.alloc (boxRc r))
 rw [hs] at hno
 obtain ⟨rr, HRR⟩ : ∃ rr, Hid (Nd.tear ⟨u, s, t, up⟩ r kk = rr) := ⟨_, rfl⟩
 rw [HRR.out] at hw ⊢
 have HC : Hid _ := hw
 have HN0 : Aside (NAt (w.alloc (boxRc r)) g o NC ⟨⟨u, s, t, up⟩, (.slice a0 m0 k0), (.slice a1 m1 k1), (.slice a2 m2 k2)⟩) := h.later (grew (Below.refl _ _) _)
 have HX0 : Aside ((w.alloc (boxRc r)).heap[w.heap.size]? = some (boxRc r)) := heap_new _ _
 have HB0 : Aside (Below w.heap.size w (w.alloc (boxRc r))) := grew (Below.refl _ _) _
 clear hL h hn1 hn2 q2 hfit hw HRR hs hk
 go_enter Tryz.func107, Tryz.ntmps107
 go_upto_region 1 with fail
 generalize w.alloc (boxRc r) = W0 at *
 have z := cb HX0
 go_wp2_with fail
 refine hno.mono ?_
 rintro e W1 ⟨rfl, hb1⟩
 have HN1 : Aside _ := HN0.out.later hb1
 have HB1 := sb HB0 hb1
 have HX1 := hv HX0 hb1
 clear z hno hb1 HB0 HX0 HN0
 have HK2 : Aside (∀ W, Below W1.heap.size W1 W → AnsR 129 (.slice a1 m1 k1) (.slice a2 m2 k2) #[.agg #[(.slice a1 m1 k1), (.slice a2 m2 k2)], r.val] W (D, d2)) := fun W hb => kp.out W (HB1.out.trans (hb.mono HB1.out.size))
 clear kp
 go_upto_region 3 with fail
 go_cut [7, 8] from 11 to 19 (fun s7 s8 wx => ∃ (b : Nat) (v1 v2 : Value), s7 = .pointer (some ⟨b, 0, none⟩) ∧ s8 = .int .i64 d2 ∧ DBx W1 wx b D v1 v2)
 case first =>
  refine wp_region_held_drew (S := fun W' => Below W1.heap.size W1 W') (by kernel_rfl) ((Below.refl _ _).drew) (fun hHeld => ?_)
  refine tk 0 (v := ?_) rfl (by kernel_rfl) (by rfl) (by assumption) (fun _ _ _ h => h) ?_ ?_
  rotate_left
  ·intro w0 hSw; clear hSw; go_simp; first | done | with_reducible rfl
  try simp only [Act.put, qa, qb, qc]
  refine tk 1 (v := ?_) rfl (by kernel_rfl) (by rfl) (by assumption) (fun _ _ _ h => h) ?_ ?_
  rotate_left
  ·intro w0 hSw; clear hSw; go_simp; first | done | with_reducible rfl
  try simp only [Act.put, qa, qb, qc]
  refine tk 2 (v := ?_) rfl (by kernel_rfl) (by rfl) (by assumption) (fun _ _ _ h => h) ?_ ?_
  rotate_left
  ·intro w0 hSw; clear hSw; go_simp; first | done | with_reducible rfl
  try simp only [Act.put, qa, qb, qc]
  refine tk 3 (v := ?_) rfl (by kernel_rfl) (by rfl) (by assumption) (fun _ _ _ h => h) ?_ ?_
  rotate_left
  ·intro w0 hSw; have y2 := (HN1.out.later hSw).cell (i := 2) rfl; have y3 := (HN1.out.later hSw).cell (i := 3) rfl; clear hSw; go_simp; first | done | with_reducible rfl
  try simp only [Act.put, qa, qb, qc]
  refine tk 4 (v := ?_) rfl (by kernel_rfl) (by rfl) (by assumption) (fun _ _ _ h => h) ?_ ?_
  rotate_left
  ·intro w0 hSw; have z := (show ∀ i, w0.cell? ⟨w.heap.size, i, none⟩ = #[Value.int .i64 r.k, .int .i64 r.a, .int .i64 r.p, .int .i64 r.e.k, .int .i64 r.e.j, .int .i64 r.e.v, .int .i64 r.e.t, .int .i64 r.e.c][i]? from fun i => Joins.cell_of_block (heap_below HX1.out hSw (heap_lt HX1.out)) i); clear hSw; go_simp; first | done | with_reducible rfl
  try simp only [Act.put, qa, qb, qc]
  refine wpAnyH_ready (rs := [5, 9]) (by kernel_rfl) (by simp) ?_
  refine AllReadyH.cons (o := ?o5p) ?hi5p ?step5p (AllReadyH.cons (o := ?o9p) ?hi9p ?step9p AllReadyH.nil)
  case hi5p => (simp only [List.getElem?_toArray, List.getElem?_cons_succ, List.getElem?_cons_zero]; rfl)
  case hi9p => (simp only [List.getElem?_toArray, List.getElem?_cons_succ, List.getElem?_cons_zero]; rfl)
  case step5p =>
   intro K hK
   go_simp
   refine (HK2.out _ hHeld).mono ?_
   rintro e w1 ⟨v1, v2, rfl, hD, hb1, _, _⟩
   obtain ⟨a4, m4, k4, rfl⟩ := roomy_sl hD.room1
   obtain ⟨a5, m5, k5, rfl⟩ := roomy_sl hD.room2
   have hA1 : Below W1.heap.size W1 w1 := step_below1 hHeld hb1
   refine hK.out _ _ hA1 (fun hHeld => ?_)
   clear hK K
   try simp only [Act.put, qa, qb, qc]
   refine tk 6 (v := ?_) rfl (by kernel_rfl) (by rfl) (by assumption) (fun _ _ _ h => h) ?_ ?_
   rotate_left
   ·intro w0 hSw; clear hSw; go_simp; first | done | with_reducible rfl
   try simp only [Act.put, qa, qb, qc]
   refine tk 7 (v := ?_) rfl (by kernel_rfl) (by rfl) (by assumption) (fun _ _ _ h => h) ?_ ?_
   rotate_left
   ·intro w0 hSw; clear hSw; go_simp; first | done | with_reducible rfl
   try simp only [Act.put, qa, qb, qc]
   refine tk 8 (v := ?_) rfl (by kernel_rfl) (by rfl) (by assumption) (fun _ _ _ h => h) ?_ ?_
   rotate_left
   ·intro w0 hSw; clear hSw; go_simp; first | done | with_reducible rfl
   try simp only [Act.put, qa, qb, qc]
   refine rdy 9 (by kernel_rfl) rfl (fun K hK => ?_)
   go_simp
   refine hK.out _ _ (grew hHeld _) (fun hHeld => ?_)
   clear hK K
   try simp only [Act.put, qa, qb, qc]
   refine rdy 10 (by kernel_rfl) rfl (fun K hK => ?_)
   go_simp
   refine hK.out _ _ (grew hA1 _) (fun hHeld => ?_)
   clear hK K
   try simp only [Act.put, qa, qb, qc]
   refine rdy 11 (by kernel_rfl) rfl (fun K hK => ?_)
   go_simp
   refine hK.out _ _ (hHeld) (fun hHeld => ?_)
   clear hK K
   try simp only [Act.put, qa, qb, qc]
   refine wpAnyH_done (by kernel_rfl) ?_ _
   go_wp2_with fail
   go_meet
   case rel => exact ⟨_, _, _, rfl, rfl, dbx_A hA1 hD⟩
  case step9p =>
   intro K hK
   go_simp
   refine hK.out _ _ (grew hHeld _) (fun hHeld => ?_)
   clear hK K
   try simp only [Act.put, qa, qb, qc]
   have hx1 : ((W1.alloc (boxD nilB nilB)).drew).heap[W1.heap.size]? = some (boxD nilB nilB) := heap_new W1 _
   refine rdy 5 (by kernel_rfl) rfl (fun K hK => ?_)
   go_simp
   refine (HK2.out _ hHeld).mono ?_
   rintro e w1 ⟨v1, v2, rfl, hD, hb1, _, _⟩
   obtain ⟨a4, m4, k4, rfl⟩ := roomy_sl hD.room1
   obtain ⟨a5, m5, k5, rfl⟩ := roomy_sl hD.room2
   have hB1 : Below W1.heap.size W1 w1 := step_below1 hHeld hb1
   have hx2 := heap_below hx1 hb1 (heap_lt hx1)
   have c7 := fun i => Joins.cell_of_block hx2 i
   have f7 := fun i => Joins.unfrozen_of_block hx2 i
   refine hK.out _ _ hB1 (fun hHeld => ?_)
   clear hK K
   try simp only [Act.put, qa, qb, qc]
   refine tk 6 (v := ?_) rfl (by kernel_rfl) (by rfl) (by assumption) (fun _ _ _ h => h) ?_ ?_
   rotate_left
   ·intro w0 hSw; clear hSw; go_simp; first | done | with_reducible rfl
   try simp only [Act.put, qa, qb, qc]
   refine tk 7 (v := ?_) rfl (by kernel_rfl) (by rfl) (by assumption) (fun _ _ _ h => h) ?_ ?_
   rotate_left
   ·intro w0 hSw; clear hSw; go_simp; first | done | with_reducible rfl
   try simp only [Act.put, qa, qb, qc]
   refine tk 8 (v := ?_) rfl (by kernel_rfl) (by rfl) (by assumption) (fun _ _ _ h => h) ?_ ?_
   rotate_left
   ·intro w0 hSw; clear hSw; go_simp; first | done | with_reducible rfl
   try simp only [Act.put, qa, qb, qc]
   refine rdy 10 (by kernel_rfl) rfl (fun K hK => ?_)
   go_simp
   refine hK.out _ _ (below_two2 hHeld (Nat.le_refl _) _ _) (fun hHeld => ?_)
   clear hK K
   try simp only [Act.put, qa, qb, qc]
   refine rdy 11 (by kernel_rfl) rfl (fun K hK => ?_)
   go_simp
   refine hK.out _ _ (hHeld) (fun hHeld => ?_)
   clear hK K
   try simp only [Act.put, qa, qb, qc]
   refine wpAnyH_done (by kernel_rfl) ?_ _
   go_wp2_with fail
   go_meet
   case rel => exact ⟨_, _, _, rfl, rfl, dbx_B hx2 hB1 hD (Nat.le_refl _)⟩
 case rest =>
  obtain ⟨b2, v4, v5, rfl, rfl, hD⟩ := hcut
  obtain ⟨a4, m4, k4, rfl⟩ := roomy_sl hD.disk.room1
  obtain ⟨a5, m5, k5, rfl⟩ := roomy_sl hD.disk.room2
  have hm5 : D.2.length = m5 := SlOf.len (cs := bt) (k := 1) hD.disk.wait
  have HD2 : Aside (DBx W1 wc b2 D (.slice a4 m4 k4) (.slice a5 m5 k5)) := hD
  have HN2 : Aside _ := HN1.out.later hD.below
  have HB2 : Aside (Below w.heap.size w wc) := HB1.out.trans (hD.below.mono HB1.out.size)
  have hgo := heap_lt HN1.out.blk
  have hgb : g ≠ b2 := by have := hD.base; omega
  have HL : Aside (w.heap.size ≤ b2) := Nat.le_trans HB1.out.size hD.base
  clear hD HN1 HX1 HB1 HK2 hgo
  generalize wc = W2 at *
  rcases HC.out with ⟨h0, h1⟩ | ⟨h0, h1, h3⟩
  ·have hz : (d2 != 0) = true := by rw [bne_iff_ne]; exact h0
   subst h1
   clear h0 HC ks hm5
   go_wp2
   go_ret
   exact ⟨rfl, W2, HB2.out, Or.inl ⟨rfl, rfl⟩⟩
  ·have hz : (d2 != 0) = false := by rw [h0]; rfl
   subst h1
   rw [hm5] at h3
   have hs := ks.out W2 _ _ (min (max kk 0) (m5 : Int)) HB2.out h0 HD2.out.disk
   rw [h3] at hs
   clear h0 HC h3 ks hm5 hT
   have z2 := fun i => Joins.cell_of_block HD2.out.box i
   go_wp2_with fail
   refine hs.mono ?_
   rintro e w3 ⟨v6, v7, rfl, hE, hb3, _, _⟩
   obtain ⟨a6, m6, k6, rfl⟩ := roomy_sl hE.room1
   obtain ⟨a7, m7, k7, rfl⟩ := roomy_sl hE.room2
   have HD3 : Aside (w3.heap[b2]? = some (boxD (.slice a4 m4 k4) (.slice a5 m5 k5))) := (HD2.out.later hb3).box
   have HN3 : Aside _ := HN2.out.later hb3
   have HB3 := sb HB2 hb3
   have HE3 : Aside (DiskR w3 (.slice a6 m6 k6) (.slice a7 m7 k7) (D.1, T)) := hE
   clear hs hE hb3 z2 HD2 HN2 HB2
   have z2 := cb HD3
   have f2 := cf HD3
   have HD4 : Aside (((w3.setCell ⟨b2, 0, none⟩ (.slice a6 m6 k6)).setCell ⟨b2, 1, none⟩ (.slice a7 m7 k7)).heap[b2]? = some (boxD (.slice a6 m6 k6) (.slice a7 m7 k7))) := stored_two HD3.out rfl _ _
   have HG4 : Aside (((w3.setCell ⟨b2, 0, none⟩ (.slice a6 m6 k6)).setCell ⟨b2, 1, none⟩ (.slice a7 m7 k7)).heap[g]? = some (.cells NC.toArray 49)) := other_two HN3.out.blk hgb _ _
   have HR4 : Aside (NodeT ((w3.setCell ⟨b2, 0, none⟩ (.slice a6 m6 k6)).setCell ⟨b2, 1, none⟩ (.slice a7 m7 k7)) ⟨⟨u, D.1, T, false⟩, (.slice a0 m0 k0), .slice a6 m6 k6, .slice a7 m7 k7⟩) :=
    ⟨unit_box2 HN3.out.rows.unit HD3.out _ _, disk_off2 HE3.out HD3.out (slnob _ _ _) (slnob _ _ _) (slnob _ _ _) _⟩
   have HB4 : Aside (Below w.heap.size w ((w3.setCell ⟨b2, 0, none⟩ (.slice a6 m6 k6)).setCell ⟨b2, 1, none⟩ (.slice a7 m7 k7))) := below_two2 HB3.out HL.out _ _
   have HP4 : Aside (∀ (i : Nat) (v : Value), (Nb.cells ⟨⟨u, s, t, up⟩, (.slice a0 m0 k0), (.slice a1 m1 k1), (.slice a2 m2 k2)⟩)[i]? = some v → NC[o + i]? = some v) := HN3.out.place
   go_upto_region 7 with fail
   clear z2 f2
   generalize (w3.setCell ⟨b2, 0, none⟩ (.slice a6 m6 k6)).setCell ⟨b2, 1, none⟩ (.slice a7 m7 k7) = W4 at *
   clear HD3 HN3 HB3 HE3 HL
   have z2 := cb HD4
   have yz : ∀ (i : Nat) (v : Value), (Nb.cells ⟨⟨u, s, t, up⟩, (.slice a0 m0 k0), (.slice a1 m1 k1), (.slice a2 m2 k2)⟩)[i]? = some v → W4.cell? ⟨g, o + i, none⟩ = some v := fun i v hv => by
    rw [Joins.cell_of_block HG4.out]
    simpa using HP4.out i v hv
   have y2 := yz 2 _ rfl
   have y3 := yz 3 _ rfl
   have y4 := yz 4 _ rfl
   have fz := cf HG4
   clear yz
   go_wp2
   go_ret
   exact ⟨rfl, W4, HB4.out, Or.inr ⟨_, HR4.out, rfl, rfl, rfl⟩⟩
set_option maxHeartbeats 4000000 in
set_option maxRecDepth 100000 in
theorem w_tear_none {w : World} {g o : Nat} {r : Rc} (hs : r.same Rc.zero = true) (kk : Int) :
  Calls Tryz.prog 107 #[.pointer (some ⟨g, o, none⟩), r.val, .int .i64 kk] w fun e w' => e = .returned (.int .i64 6) ∧ Below w.heap.size w w' := by
 have hno := w_isNone r (w.alloc (boxRc r))
 rw [hs] at hno
 have HX0 : Aside ((w.alloc (boxRc r)).heap[w.heap.size]? = some (boxRc r)) := heap_new _ _
 have HB0 : Aside (Below w.heap.size w (w.alloc (boxRc r))) := grew (Below.refl _ _) _
 clear hs
 go_enter Tryz.func107, Tryz.ntmps107
 go_upto_region 1 with fail
 generalize w.alloc (boxRc r) = W0 at *
 have z := cb HX0
 go_wp2_with fail
 refine hno.mono ?_
 rintro e W1 ⟨rfl, hb1⟩
 have HB1 := sb HB0 hb1
 clear z hno hb1 HB0 HX0
 go_wp2
 go_ret
 exact ⟨rfl, HB1.out⟩
theorem w_tear {w : World} {g o : Nat} {NC : List Value} {x : Nb} (hL : Laid w) (h : NAt w g o NC x) (hn1 : x.n.s.length ≤ topLen) (hn2 : x.n.w.length ≤ topLen) {r : Rc} (hr : r = Rc.zero ∨ r.k = 1) (kk : Int) :
  Calls Tryz.prog 107 #[.pointer (some ⟨g, o, none⟩), r.val, .int .i64 kk] w fun e w' => e = .returned (.int .i64 (x.n.tear r kk).2) ∧ Post3 w w' g o x (x.n.tear r kk).1 := by
 obtain ⟨⟨u, s, t, up⟩, vc, vs, vw⟩ := x
 obtain ⟨a0, m0, k0, rfl⟩ := roomy_sl h.rows.unit.room
 obtain ⟨a1, m1, k1, rfl⟩ := roomy_sl h.rows.disk.room1
 obtain ⟨a2, m2, k2, rfl⟩ := roomy_sl h.rows.disk.room2
 rcases none_same hr with ⟨hs, hk⟩ | ⟨hs, hk⟩
 ·rw [show Nd.tear ⟨u, s, t, up⟩ r kk = (⟨u, s, t, up⟩, 6) by rw [Nd.tear, if_pos hk]]
  exact (w_tear_none hs kk).mono fun e w' ⟨he, hb⟩ => ⟨he, w', hb, Or.inl ⟨rfl, rfl⟩⟩
 ·exact w_tear_at u s t up a0 a1 a2 m0 k0 m1 k1 m2 k2 hL h hn1 hn2 r hs hk kk
abbrev C5 (w : World) (g : Nat) (x : En) : Prop := w.cell? ⟨g, 0, none⟩ = some (.int .i64 x.k) ∧ w.cell? ⟨g, 1, none⟩ = some (.int .i64 x.j) ∧ w.cell? ⟨g, 2, none⟩ = some (.int .i64 x.v) ∧ w.cell? ⟨g, 3, none⟩ = some (.int .i64 x.t) ∧ w.cell? ⟨g, 4, none⟩ = some (.int .i64 x.c)
theorem c5_far {w : World} {b g : Nat} (hne : g ≠ b) (i j : Nat) (v : Value) : (w.setCell ⟨b, i, none⟩ v).cell? ⟨g, j, none⟩ = w.cell? ⟨g, j, none⟩ := by
 have hh : (w.setCell ⟨b, i, none⟩ v).heap[g]? = w.heap[g]? := Below.heap_setCell _ _ _ _ (by show g ≠ b; exact hne)
 simp only [World.cell?, hh]
theorem c5_set {w : World} {g b : Nat} {x : En} (h : C5 w g x) (hne : g ≠ b) (i : Nat) (v : Value) : C5 (w.setCell ⟨b, i, none⟩ v) g x :=
 ⟨(c5_far hne _ _ _).trans h.1, (c5_far hne _ _ _).trans h.2.1, (c5_far hne _ _ _).trans h.2.2.1, (c5_far hne _ _ _).trans h.2.2.2.1, (c5_far hne _ _ _).trans h.2.2.2.2⟩
theorem c5_of {w : World} {g : Nat} {x : En} (h : w.heap[g]? = some (boxE x.k x.j x.v x.t x.c)) : C5 w g x := ⟨Joins.cell_of_block h 0, Joins.cell_of_block h 1, Joins.cell_of_block h 2, Joins.cell_of_block h 3, Joins.cell_of_block h 4⟩
section
open scoped Classical
theorem ret3 {fn : Func} {R : Ending → World → Prop} {a : Act} {W : World} {rb eb p q t : Nat} {r : Rc} {e : En} {y : Value} (hf : fn.results = #[.cell p 94, .cell q 27, .tmp t]) (hd : a.defers = [])
  (h1 : a.tmps.getD p undef = .pointer (some ⟨rb, 0, none⟩)) (h2 : a.tmps.getD q undef = .pointer (some ⟨eb, 0, none⟩)) (h3 : a.tmps.getD t undef = y) (hR : W.heap[rb]? = some (boxRc r)) (hE : W.heap[eb]? = some (boxE e.k e.j e.v e.t e.c)) (hp : R (.returned (.tuple #[r.val, e.val, y])) W) :
  bodyPost Tryz.prog fn R .ret a W := by
 have c0 := fun i => Joins.cell_of_block hR i
 have c1 := fun i => Joins.cell_of_block hE i
 have h1' : a.tmps[p]?.getD undef = .pointer (some ⟨rb, 0, none⟩) := by simpa using h1
 have h2' : a.tmps[q]?.getD undef = .pointer (some ⟨eb, 0, none⟩) := by simpa using h2
 have h3' : a.tmps[t]?.getD undef = y := by simpa using h3
 refine bodyPost_ret (v := .tuple #[r.val, e.val, y]) ?_ hd hp
 simp [results, hf, h1', h2', h3', go_sem, c0, c1]
theorem link_stored {w : World} {rb eb : Nat} {q : Rc} {f : En} (hr : w.heap[rb]? = some (boxRc q)) (he : w.heap[eb]? = some (boxE f.k f.j f.v f.t f.c)) (hne : rb ≠ eb) (r : Rc) (e : En) {E : World}
  (hE : E = ((((((((w.setCell ⟨rb, 0, none⟩ (.int .i64 r.k)).setCell ⟨rb, 1, none⟩ (.int .i64 r.a)).setCell ⟨rb, 2, none⟩ (.int .i64 r.p)).setCell ⟨rb, 3, none⟩ (.int .i64 r.e.k)).setCell ⟨rb, 4, none⟩ (.int .i64 r.e.j)).setCell ⟨rb, 5, none⟩ (.int .i64 r.e.v)).setCell ⟨rb, 6, none⟩ (.int .i64 r.e.t)).setCell ⟨rb, 7, none⟩ (.int .i64 r.e.c))) :
  (((((E.setCell ⟨eb, 0, none⟩ (.int .i64 e.k)).setCell ⟨eb, 1, none⟩ (.int .i64 e.j)).setCell ⟨eb, 2, none⟩ (.int .i64 e.v)).setCell ⟨eb, 3, none⟩ (.int .i64 e.t)).setCell ⟨eb, 4, none⟩ (.int .i64 e.c)).heap[rb]? = some (boxRc r) ∧
  (((((E.setCell ⟨eb, 0, none⟩ (.int .i64 e.k)).setCell ⟨eb, 1, none⟩ (.int .i64 e.j)).setCell ⟨eb, 2, none⟩ (.int .i64 e.v)).setCell ⟨eb, 3, none⟩ (.int .i64 e.t)).setCell ⟨eb, 4, none⟩ (.int .i64 e.c)).heap[eb]? = some (boxE e.k e.j e.v e.t e.c) := by
 have h1 : E.heap[rb]? = some (boxRc r) := by rw [hE]; exact eight_stores hr r
 have h2 : E.heap[eb]? = some (boxE f.k f.j f.v f.t f.c) := by
  rw [hE, Below.heap_setCell _ _ _ _ (by exact hne.symm), Below.heap_setCell _ _ _ _ (by exact hne.symm), Below.heap_setCell _ _ _ _ (by exact hne.symm), Below.heap_setCell _ _ _ _ (by exact hne.symm), Below.heap_setCell _ _ _ _ (by exact hne.symm), Below.heap_setCell _ _ _ _ (by exact hne.symm), Below.heap_setCell _ _ _ _ (by exact hne.symm), Below.heap_setCell _ _ _ _ (by exact hne.symm)]
  exact he
 refine ⟨?_, ?_⟩
 ·rw [Below.heap_setCell _ _ _ _ (by exact hne), Below.heap_setCell _ _ _ _ (by exact hne), Below.heap_setCell _ _ _ _ (by exact hne), Below.heap_setCell _ _ _ _ (by exact hne), Below.heap_setCell _ _ _ _ (by exact hne)]
  exact h1
 ·have g1 := Joins.block_setCell h2 (i := 0) (.int .i64 e.k)
  have g2 := Joins.block_setCell g1 (i := 1) (.int .i64 e.j)
  have g3 := Joins.block_setCell g2 (i := 2) (.int .i64 e.v)
  have g4 := Joins.block_setCell g3 (i := 3) (.int .i64 e.t)
  have g5 := Joins.block_setCell g4 (i := 4) (.int .i64 e.c)
  simp only [List.setIfInBounds_toArray, List.set_cons_zero, List.set_cons_succ] at g5
  exact g5
theorem link_below {w W : World} {rb eb : Nat} (h : Below w.heap.size w W) (hr : w.heap.size ≤ rb) (he : w.heap.size ≤ eb) (v0 v1 v2 v3 v4 v5 v6 v7 u0 u1 u2 u3 u4 : Value) :
  Below w.heap.size w (((((((((((((W.setCell ⟨rb, 0, none⟩ v0).setCell ⟨rb, 1, none⟩ v1).setCell ⟨rb, 2, none⟩ v2).setCell ⟨rb, 3, none⟩ v3).setCell ⟨rb, 4, none⟩ v4).setCell ⟨rb, 5, none⟩ v5).setCell ⟨rb, 6, none⟩ v6).setCell ⟨rb, 7, none⟩ v7).setCell ⟨eb, 0, none⟩ u0).setCell ⟨eb, 1, none⟩ u1).setCell ⟨eb, 2, none⟩ u2).setCell ⟨eb, 3, none⟩ u3).setCell ⟨eb, 4, none⟩ u4) :=
 (((((below_eight h hr v0 v1 v2 v3 v4 v5 v6 v7).setCell (p := ⟨eb, 0, none⟩) he _).setCell (p := ⟨eb, 1, none⟩) he _).setCell (p := ⟨eb, 2, none⟩) he _).setCell (p := ⟨eb, 3, none⟩) he _).setCell (p := ⟨eb, 4, none⟩) he _
end
section
open scoped Classical
theorem plc_eq {us : List Un} {k m : Nat} {u : Un} {y : En} (hu : us[k]? = some u) (hy : u.cells[m]? = some y) : plc us k m = y := by
 have e : us.getD k Un.zero = u := by rw [List.getD_eq_getElem?_getD, hu]; rfl
 unfold plc
 rw [e, List.getD_eq_getElem?_getD, hy]
 rfl
theorem right_three {w : World} {v : Value} {xs : List Ub} (h : ChAt w v xs) (hd : ckChain (unitsOf xs) = 0) :
  ∃ U0 U1 U2 a0 c0 a1 c1 a2 c2 b off c, xs = [⟨U0, .slice a0 60 c0⟩, ⟨U1, .slice a1 60 c1⟩, ⟨U2, .slice a2 60 c2⟩] ∧ v = .slice (some ⟨b, off, none⟩) 3 c ∧ U0.ck = 0 ∧ U1.ck = 0 ∧ U2.ck = 0 := by
 obtain ⟨a, n, c, rfl, _⟩ := id h.room
 have hl := h.rows.len
 have h3 := ckChain_len hd
 rw [List.length_map] at h3
 obtain rfl : n = 3 := by omega
 obtain ⟨u0, u1, u2, a0, n0, c0, a1, n1, c1, a2, n2, c2, b, off, rfl, rfl, hE, ⟨g0, g1, g2⟩, l0, l1, l2⟩ := three_of h
 obtain ⟨v0, v1, v2, e, d0, d1, d2, _, _⟩ := ckChain_zero.1 hd
 have e' : [u0, u1, u2] = [v0, v1, v2] := e
 simp only [List.cons.injEq, and_true] at e'
 obtain ⟨rfl, rfl, rfl⟩ := e'
 have m0 := (Un.ck_zero.1 d0).2.1
 have m1 := (Un.ck_zero.1 d1).2.1
 have m2 := (Un.ck_zero.1 d2).2.1
 obtain rfl : n0 = 60 := by omega
 obtain rfl : n1 = 60 := by omega
 obtain rfl : n2 = 60 := by omega
 exact ⟨u0, u1, u2, a0, c0, a1, c1, a2, c2, b, off, c, rfl, rfl, d0, d1, d2⟩
theorem ret_ent {fn : Func} {R : Ending → World → Prop} {a : Act} {W : World} {b p q : Nat} {e : En} {y : Value} (hf : fn.results = #[.cell p 27, .tmp q]) (hd : a.defers = [])
  (h2 : a.tmps.getD p undef = .pointer (some ⟨b, 0, none⟩)) (h3 : a.tmps.getD q undef = y) (hR : W.heap[b]? = some (boxE e.k e.j e.v e.t e.c)) (hp : R (.returned (.tuple #[e.val, y])) W) :
  bodyPost Tryz.prog fn R .ret a W := by
 have c0 := fun i => Joins.cell_of_block hR i
 refine bodyPost_ret (v := .tuple #[e.val, y]) ?_ hd hp
 rw [results_cell_tmp hf, h2, h3]
 simp [go_sem, c0]
theorem five_below {B : Nat} {a W : World} {b : Nat} (h : Below B a W) (hb : B ≤ b) (v0 v1 v2 v3 v4 : Value) :
  Below B a (((((W.setCell ⟨b, 0, none⟩ v0).setCell ⟨b, 1, none⟩ v1).setCell ⟨b, 2, none⟩ v2).setCell ⟨b, 3, none⟩ v3).setCell ⟨b, 4, none⟩ v4) :=
 ((((h.setCell (p := ⟨b, 0, none⟩) hb _).setCell (p := ⟨b, 1, none⟩) hb _).setCell (p := ⟨b, 2, none⟩) hb _).setCell (p := ⟨b, 3, none⟩) hb _).setCell (p := ⟨b, 4, none⟩) hb _
theorem five_box {W : World} {b : Nat} {f : En} (h : W.heap[b]? = some (boxE f.k f.j f.v f.t f.c)) (e : En) :
  (((((W.setCell ⟨b, 0, none⟩ (.int .i64 e.k)).setCell ⟨b, 1, none⟩ (.int .i64 e.j)).setCell ⟨b, 2, none⟩ (.int .i64 e.v)).setCell ⟨b, 3, none⟩ (.int .i64 e.t)).setCell ⟨b, 4, none⟩ (.int .i64 e.c)).heap[b]? = some (boxE e.k e.j e.v e.t e.c) := by
 have g1 := Joins.block_setCell h (i := 0) (.int .i64 e.k)
 have g2 := Joins.block_setCell g1 (i := 1) (.int .i64 e.j)
 have g3 := Joins.block_setCell g2 (i := 2) (.int .i64 e.v)
 have g4 := Joins.block_setCell g3 (i := 3) (.int .i64 e.t)
 have g5 := Joins.block_setCell g4 (i := 4) (.int .i64 e.c)
 simp only [List.setIfInBounds_toArray, List.set_cons_zero, List.set_cons_succ] at g5
 exact g5
end
section
open scoped Classical
def Fits (xs : List Ub) : Prop := xs.length ≤ topN ∧ ∀ x, x ∈ xs → x.u.cells.length ≤ topN
structure Chains : Prop where
 check : ∀ (v : Value) (xs : List Ub) (W : World), ChAt W v xs → Fits xs → Calls Tryz.prog 169 #[v] W fun e w' => e = .returned (.int .i64 (ckChain (unitsOf xs))) ∧ Below W.heap.size W w'
 link : ∀ (v : Value) (xs : List Ub) (k a ep : Int) (x : En) (W : World), ChAt W v xs → Fits xs → Calls Tryz.prog 105 #[v, .int .i64 k, .int .i64 a, x.val, .int .i64 ep] W fun e w' => e = .returned (.tuple #[(linkOf (unitsOf xs) k a x ep).1.val, (linkOf (unitsOf xs) k a x ep).2.1.val, .int .i64 (linkOf (unitsOf xs) k a x ep).2.2]) ∧ Below W.heap.size W w'
 read : ∀ (v : Value) (xs : List Ub) (a : Int) (W : World), ChAt W v xs → Fits xs → Calls Tryz.prog 178 #[v, .int .i64 a] W fun e w' => e = .returned (.tuple #[(readOf (unitsOf xs) a).1.val, .int .i64 (readOf (unitsOf xs) a).2]) ∧ Below W.heap.size W w'
end
end Go.Proofs.YtmoaobfmopimlafGreatDoor
