/- For the law. -/
import Derived.Test.YtmoaobfmopimlafGreatDoorM26
set_option linter.unusedSimpArgs false
set_option linter.unusedVariables false
namespace Go.Proofs.YtmoaobfmopimlafGreatDoor
open Go.RowKit
theorem ents_box {W : World} {v : Value} {es : List En} (h : EntSl W v es) {b : Nat} {A : Array Value} {T : TypeId} (hb : W.heap[b]? = some (.cells A T)) (hA : A.size < 5) (i : Nat) (u : Value) : EntSl (W.setCell ⟨b, i, none⟩ u) v es := by
 obtain ⟨a', c', hv, hc⟩ := h
 refine ⟨a', c', hv, ?_⟩
 rcases hc with hc | ⟨b', off, ha, hE⟩
 ·exact Or.inl hc
 ·refine Or.inr ⟨b', off, ha, fun j e hj i' u' hi => ?_⟩
  have hne : b' ≠ b := fun e' => by
   have hcell := hE j e hj 4 (.int .i64 e.c) rfl
   rw [e', Joins.cell_of_block hb] at hcell
   have := (Array.getElem?_eq_some_iff.1 hcell).1
   omega
  rw [World.cell?_of_block (Below.heap_setCell _ _ _ _ (by exact hne))]
  exact hE j e hj i' u' hi
theorem unit_box2 {W : World} {v : Value} {u : Un} (h : UnitAt W v u) {b : Nat} {x y : Value} {T : TypeId} (hb : W.heap[b]? = some (.cells #[x, y] T)) (u1 u2 : Value) : UnitAt ((W.setCell ⟨b, 0, none⟩ u1).setCell ⟨b, 1, none⟩ u2) v u := by
 have h0 : (W.setCell ⟨b, 0, none⟩ u1).heap[b]? = some (.cells #[u1, y] T) := by rw [Joins.block_setCell hb]; rfl
 exact ⟨ents_box (ents_box h.ents hb (by simp) 0 u1) h0 (by simp) 1 u2, h.room⟩
structure UBx (W0 wx : World) (b : Nat) (U : Un) (v : Value) : Prop where
 box : wx.heap[b]? = some (boxU U.p v)
 unit : UnitAt wx v U
 base : W0.heap.size ≤ b
 below : Below W0.heap.size W0 wx
structure DBx (W0 wx : World) (b : Nat) (D : Dk) (v1 v2 : Value) : Prop where
 box : wx.heap[b]? = some (boxD v1 v2)
 disk : DiskR wx v1 v2 D
 base : W0.heap.size ≤ b
 below : Below W0.heap.size W0 wx
theorem ubx_A {W0 w1 : World} {U : Un} {v : Value} (hA : Below W0.heap.size W0 w1) (hU : UnitAt w1 v U) : UBx W0 (w1.alloc (boxU U.p v)) w1.heap.size U v := ⟨heap_new _ _, hU.later (grew (Below.refl _ _) _), hA.size, grew hA _⟩
theorem ubx_B {W0 w1 : World} {b : Nat} {x y : Value} {U : Un} {v : Value} (hx : w1.heap[b]? = some (.cells #[x, y] 44)) (hB : Below W0.heap.size W0 w1) (hU : UnitAt w1 v U) (hb : W0.heap.size ≤ b) : UBx W0 ((w1.setCell ⟨b, 0, none⟩ (.int .i64 U.p)).setCell ⟨b, 1, none⟩ v) b U v :=
 ⟨stored_two hx rfl _ _, unit_box2 hU hx _ _, hb, below_two2 hB hb _ _⟩
theorem dbx_A {W0 w1 : World} {D : Dk} {v1 v2 : Value} (hA : Below W0.heap.size W0 w1) (hD : DiskR w1 v1 v2 D) : DBx W0 (w1.alloc (boxD v1 v2)) w1.heap.size D v1 v2 := ⟨heap_new _ _, hD.later (grew (Below.refl _ _) _), hA.size, grew hA _⟩
theorem dbx_B {W0 w1 : World} {b : Nat} {a1 a2 c1 c2 : Option Addr} {n1 n2 m1 m2 k1 k2 l1 l2 : Nat} {D : Dk} (hx : w1.heap[b]? = some (boxD (.slice c1 k1 l1) (.slice c2 k2 l2))) (hB : Below W0.heap.size W0 w1) (hD : DiskR w1 (.slice a1 n1 m1) (.slice a2 n2 m2) D) (hb : W0.heap.size ≤ b) :
  DBx W0 ((w1.setCell ⟨b, 0, none⟩ (.slice a1 n1 m1)).setCell ⟨b, 1, none⟩ (.slice a2 n2 m2)) b D (.slice a1 n1 m1) (.slice a2 n2 m2) :=
 ⟨stored_two hx rfl _ _, disk_off2 hD hx (slnob _ _ _) (slnob _ _ _) (slnob _ _ _) _, hb, below_two2 hB hb _ _⟩
theorem UBx.later {W0 wx w' : World} {b : Nat} {U : Un} {v : Value} (h : UBx W0 wx b U v) (hb : Below wx.heap.size wx w') : UBx W0 w' b U v := ⟨heap_below h.box hb (heap_lt h.box), h.unit.later hb, h.base, step_below1 h.below hb⟩
theorem DBx.later {W0 wx w' : World} {b : Nat} {D : Dk} {v1 v2 : Value} (h : DBx W0 wx b D v1 v2) (hb : Below wx.heap.size wx w') : DBx W0 w' b D v1 v2 := ⟨heap_below h.box hb (heap_lt h.box), h.disk.later hb, h.base, step_below1 h.below hb⟩
theorem dput_fit {s t : List UInt8} {c : Rc} (h : (dput s t c).2 = 0) : (dput s t c).1.1.length ≤ topLen ∧ (dput s t c).1.2.length ≤ topLen := by
 unfold dput at h ⊢
 by_cases h1 : ckDisk s t = 0
 ·rw [if_neg (not_not_intro h1)] at h ⊢
  have hl := (ckDisk_zero.1 h1).1
  unfold putOn at h ⊢
  by_cases h2 : c.chk = 0
  ·rw [if_neg (not_not_intro h2)] at h ⊢
   by_cases h3 : 30000 < s.length + t.length + c.txt.length + 1
   ·rw [if_pos h3] at h; cases h
   ·rw [if_neg h3]
    unfold topLen
    constructor
    ·show s.length ≤ _; omega
    ·show (t ++ (c.txt ++ [10])).length ≤ _; simp; omega
  ·rw [if_pos h2] at h; exact absurd h h2
 ·rw [if_pos h1] at h; exact absurd h h1
theorem write_ways (n : Nd) (r : Rc) (U : Un) (D E : Dk) (d1 d2 d3 : Int) (q1 : unext n.u r = (U, d1)) (q2 : dput n.s n.w r = (D, d2)) (q3 : dsync D.1 D.2 = (E, d3)) :
  (d1 ≠ 0 ∧ n.write r = (n, d1)) ∨ (d1 = 0 ∧ ((d2 ≠ 0 ∧ n.write r = (n, d2)) ∨ (d2 = 0 ∧ ((d3 ≠ 0 ∧ n.write r = (n, d3)) ∨ (d3 = 0 ∧ n.write r = (⟨U, E.1, E.2, n.up⟩, 0)))))) := by
 unfold Nd.write
 rw [q1, q2]
 simp only
 rw [q3]
 by_cases h1 : d1 = 0
 ·refine Or.inr ⟨h1, ?_⟩
  rw [if_neg (not_not_intro h1)]
  by_cases h2 : d2 = 0
  ·refine Or.inr ⟨h2, ?_⟩
   rw [if_neg (not_not_intro h2)]
   by_cases h3 : d3 = 0
   ·exact Or.inr ⟨h3, by rw [if_neg (not_not_intro h3)]⟩
   ·exact Or.inl ⟨h3, by rw [if_pos h3]⟩
  ·exact Or.inl ⟨h2, by rw [if_pos h2]⟩
 ·exact Or.inl ⟨h1, by rw [if_pos h1]⟩
set_option maxHeartbeats 8000000 in
set_option maxRecDepth 100000 in
theorem w_write_at {w : World} {g o : Nat} {NC : List Value} (u : Un) (s t : List UInt8) (up : Bool) (a0 a1 a2 : Option Addr) (m0 k0 m1 k1 m2 k2 : Nat) (hL : Laid w) (h : NAt w g o NC ⟨⟨u, s, t, up⟩, (.slice a0 m0 k0), (.slice a1 m1 k1), (.slice a2 m2 k2)⟩) (hn1 : s.length ≤ topLen) (hn2 : t.length ≤ topLen) (r : Rc) :
  Calls Tryz.prog 102 #[.pointer (some ⟨g, o, none⟩), r.val] w fun e w' => e = .returned (.int .i64 (Nd.write ⟨u, s, t, up⟩ r).2) ∧ Post st4 w w' g o ⟨⟨u, s, t, up⟩, (.slice a0 m0 k0), (.slice a1 m1 k1), (.slice a2 m2 k2)⟩ (Nd.write ⟨u, s, t, up⟩ r).1 := by
 obtain ⟨⟨U, d1⟩, q1⟩ : ∃ q, unext u r = q := ⟨_, rfl⟩
 obtain ⟨⟨D, d2⟩, q2⟩ : ∃ q, dput s t r = q := ⟨_, rfl⟩
 obtain ⟨⟨E, d3⟩, q3⟩ : ∃ q, dsync D.1 D.2 = q := ⟨_, rfl⟩
 have hw := write_ways ⟨u, s, t, up⟩ r U D E d1 d2 d3 q1 q2 q3
 have kn : Aside (∀ W, Below w.heap.size w W → AnsO 128 #[.agg #[.int .i64 u.p, (.slice a0 m0 k0)], r.val] W (U, d1)) := fun W hb => by
  have := unitNext_any (.slice a0 m0 k0) u r W (h.rows.unit.later hb)
  rwa [q1] at this
 have kp : Aside (∀ W, Below w.heap.size w W → AnsR 129 (.slice a1 m1 k1) (.slice a2 m2 k2) #[.agg #[(.slice a1 m1 k1), (.slice a2 m2 k2)], r.val] W (D, d2)) := fun W hb => by
  have := diskPut_any (.slice a1 m1 k1) (.slice a2 m2 k2) (s, t) r W (hL.later hb) (h.rows.disk.later hb) hn1 hn2
  rwa [q2] at this
 have hfit : d2 = 0 → D.1.length ≤ topLen ∧ D.2.length ≤ topLen := fun h0 => by
  have := dput_fit (s := s) (t := t) (c := r) (by rw [q2]; exact h0)
  rwa [q2] at this
 have ks : Aside (∀ W v1 v2, Below w.heap.size w W → d2 = 0 → DiskR W v1 v2 D → AnsR 130 v1 v2 #[.agg #[v1, v2]] W (E, d3)) := fun W v1 v2 hb h0 hD => by
  have := diskSync_any v1 v2 D W (hL.later hb) hD (hfit h0).1 (hfit h0).2
  rwa [q3] at this
 obtain ⟨rr, HRR⟩ : ∃ rr, Hid (Nd.write ⟨u, s, t, up⟩ r = rr) := ⟨_, rfl⟩
 rw [HRR.out] at hw ⊢
 have HC : Hid _ := hw
 have HN0 : Aside (NAt (w.alloc (boxRc r)) g o NC ⟨⟨u, s, t, up⟩, (.slice a0 m0 k0), (.slice a1 m1 k1), (.slice a2 m2 k2)⟩) := h.later (grew (Below.refl _ _) _)
 have HX0 : Aside ((w.alloc (boxRc r)).heap[w.heap.size]? = some (boxRc r)) := heap_new _ _
 have HB0 : Aside (Below w.heap.size w (w.alloc (boxRc r))) := grew (Below.refl _ _) _
 clear hL h hn1 hn2 q1 q2 q3 hfit hw HRR
 go_enter Tryz.func102, Tryz.ntmps102
 go_upto_region 1 with fail
 generalize w.alloc (boxRc r) = W0 at *
 have HK1 : Aside (∀ W, Below W0.heap.size W0 W → AnsO 128 #[.agg #[.int .i64 u.p, (.slice a0 m0 k0)], r.val] W (U, d1)) := fun W hb => kn.out W (HB0.out.trans (hb.mono HB0.out.size))
 clear kn
 go_cut [5, 6] from 8 to 16 (fun s5 s6 wx => ∃ (b : Nat) (v : Value), s5 = .pointer (some ⟨b, 0, none⟩) ∧ s6 = .int .i64 d1 ∧ UBx W0 wx b U v)
 case first =>
  refine wp_region_held_drew (S := fun W' => Below W0.heap.size W0 W') (by kernel_rfl) ((Below.refl _ _).drew) (fun hHeld => ?_)
  refine tk 0 (v := ?_) rfl (by kernel_rfl) (by rfl) (by assumption) (fun _ _ _ h => h) ?_ ?_
  rotate_left
  ·intro w0 hSw; clear hSw; go_simp; first | done | with_reducible rfl
  try simp only [Act.put, qa, qb, qc]
  refine tk 1 (v := ?_) rfl (by kernel_rfl) (by rfl) (by assumption) (fun _ _ _ h => h) ?_ ?_
  rotate_left
  ·intro w0 hSw; clear hSw; go_simp; first | done | with_reducible rfl
  try simp only [Act.put, qa, qb, qc]
  refine tk 2 (v := ?_) rfl (by kernel_rfl) (by rfl) (by assumption) (fun _ _ _ h => h) ?_ ?_
  rotate_left
  ·intro w0 hSw; clear hSw; go_simp; first | done | with_reducible rfl
  try simp only [Act.put, qa, qb, qc]
  refine tk 3 (v := ?_) rfl (by kernel_rfl) (by rfl) (by assumption) (fun _ _ _ h => h) ?_ ?_
  rotate_left
  ·intro w0 hSw; have y0 := (HN0.out.later hSw).cell (i := 0) rfl; have y1 := (HN0.out.later hSw).cell (i := 1) rfl; simp only [Nat.add_zero] at y0; clear hSw; go_simp; first | done | with_reducible rfl
  try simp only [Act.put, qa, qb, qc]
  refine tk 4 (v := ?_) rfl (by kernel_rfl) (by rfl) (by assumption) (fun _ _ _ h => h) ?_ ?_
  rotate_left
  ·intro w0 hSw; have z := (show ∀ i, w0.cell? ⟨w.heap.size, i, none⟩ = #[Value.int .i64 r.k, .int .i64 r.a, .int .i64 r.p, .int .i64 r.e.k, .int .i64 r.e.j, .int .i64 r.e.v, .int .i64 r.e.t, .int .i64 r.e.c][i]? from fun i => Joins.cell_of_block (heap_below HX0.out hSw (heap_lt HX0.out)) i); clear hSw; go_simp; first | done | with_reducible rfl
  try simp only [Act.put, qa, qb, qc]
  refine wpAnyH_ready (rs := [5, 9]) (by kernel_rfl) (by simp) ?_
  refine AllReadyH.cons (o := ?o5p) ?hi5p ?step5p (AllReadyH.cons (o := ?o9p) ?hi9p ?step9p AllReadyH.nil)
  case hi5p => (simp only [List.getElem?_toArray, List.getElem?_cons_succ, List.getElem?_cons_zero]; rfl)
  case hi9p => (simp only [List.getElem?_toArray, List.getElem?_cons_succ, List.getElem?_cons_zero]; rfl)
  case step5p =>
   intro K hK
   go_simp
   refine (HK1.out _ hHeld).mono ?_
   rintro e w1 ⟨v1, rfl, hU, hb1, _⟩
   obtain ⟨a3, m3, k3, rfl⟩ := roomy_sl hU.room
   have hA1 : Below W0.heap.size W0 w1 := step_below1 hHeld hb1
   refine hK.out _ _ hA1 (fun hHeld => ?_)
   clear hK K
   try simp only [Act.put, qa, qb, qc]
   refine tk 6 (v := ?_) rfl (by kernel_rfl) (by rfl) (by assumption) (fun _ _ _ h => h) ?_ ?_
   rotate_left
   ·intro w0 hSw; clear hSw; go_simp; first | done | with_reducible rfl
   try simp only [Act.put, qa, qb, qc]
   refine tk 7 (v := ?_) rfl (by kernel_rfl) (by rfl) (by assumption) (fun _ _ _ h => h) ?_ ?_
   rotate_left
   ·intro w0 hSw; clear hSw; go_simp; first | done | with_reducible rfl
   try simp only [Act.put, qa, qb, qc]
   refine tk 8 (v := ?_) rfl (by kernel_rfl) (by rfl) (by assumption) (fun _ _ _ h => h) ?_ ?_
   rotate_left
   ·intro w0 hSw; clear hSw; go_simp; first | done | with_reducible rfl
   try simp only [Act.put, qa, qb, qc]
   refine rdy 9 (by kernel_rfl) rfl (fun K hK => ?_)
   go_simp
   refine hK.out _ _ (grew hHeld _) (fun hHeld => ?_)
   clear hK K
   try simp only [Act.put, qa, qb, qc]
   refine rdy 10 (by kernel_rfl) rfl (fun K hK => ?_)
   go_simp
   refine hK.out _ _ (grew hA1 _) (fun hHeld => ?_)
   clear hK K
   try simp only [Act.put, qa, qb, qc]
   refine rdy 11 (by kernel_rfl) rfl (fun K hK => ?_)
   go_simp
   refine hK.out _ _ (hHeld) (fun hHeld => ?_)
   clear hK K
   try simp only [Act.put, qa, qb, qc]
   refine wpAnyH_done (by kernel_rfl) ?_ _
   go_wp2_with fail
   go_meet
   case rel => exact ⟨_, _, rfl, rfl, ubx_A hA1 hU⟩
  case step9p =>
   intro K hK
   go_simp
   refine hK.out _ _ (grew hHeld _) (fun hHeld => ?_)
   clear hK K
   try simp only [Act.put, qa, qb, qc]
   have hx1 : ((W0.alloc (boxU 0 (.slice none 0 0))).drew).heap[W0.heap.size]? = some (boxU 0 (.slice none 0 0)) := heap_new W0 _
   refine rdy 5 (by kernel_rfl) rfl (fun K hK => ?_)
   go_simp
   refine (HK1.out _ hHeld).mono ?_
   rintro e w1 ⟨v1, rfl, hU, hb1, _⟩
   obtain ⟨a3, m3, k3, rfl⟩ := roomy_sl hU.room
   have hB1 : Below W0.heap.size W0 w1 := step_below1 hHeld hb1
   have hx2 := heap_below hx1 hb1 (heap_lt hx1)
   have c7 := fun i => Joins.cell_of_block hx2 i
   have f7 := fun i => Joins.unfrozen_of_block hx2 i
   refine hK.out _ _ hB1 (fun hHeld => ?_)
   clear hK K
   try simp only [Act.put, qa, qb, qc]
   refine tk 6 (v := ?_) rfl (by kernel_rfl) (by rfl) (by assumption) (fun _ _ _ h => h) ?_ ?_
   rotate_left
   ·intro w0 hSw; clear hSw; go_simp; first | done | with_reducible rfl
   try simp only [Act.put, qa, qb, qc]
   refine tk 7 (v := ?_) rfl (by kernel_rfl) (by rfl) (by assumption) (fun _ _ _ h => h) ?_ ?_
   rotate_left
   ·intro w0 hSw; clear hSw; go_simp; first | done | with_reducible rfl
   try simp only [Act.put, qa, qb, qc]
   refine tk 8 (v := ?_) rfl (by kernel_rfl) (by rfl) (by assumption) (fun _ _ _ h => h) ?_ ?_
   rotate_left
   ·intro w0 hSw; clear hSw; go_simp; first | done | with_reducible rfl
   try simp only [Act.put, qa, qb, qc]
   refine rdy 10 (by kernel_rfl) rfl (fun K hK => ?_)
   go_simp
   refine hK.out _ _ (below_two2 hHeld (Nat.le_refl _) _ _) (fun hHeld => ?_)
   clear hK K
   try simp only [Act.put, qa, qb, qc]
   refine rdy 11 (by kernel_rfl) rfl (fun K hK => ?_)
   go_simp
   refine hK.out _ _ (hHeld) (fun hHeld => ?_)
   clear hK K
   try simp only [Act.put, qa, qb, qc]
   refine wpAnyH_done (by kernel_rfl) ?_ _
   go_wp2_with fail
   go_meet
   case rel => exact ⟨_, _, rfl, rfl, ubx_B hx2 hB1 hU (Nat.le_refl _)⟩
 case rest =>
  obtain ⟨b1, v1, rfl, rfl, hU⟩ := hcut
  obtain ⟨a3, m3, k3, rfl⟩ := roomy_sl hU.unit.room
  have HU1 : Aside (UBx W0 wc b1 U (.slice a3 m3 k3)) := hU
  have HN1 : Aside _ := HN0.out.later hU.below
  have HX1 : Aside _ := heap_below HX0.out hU.below (heap_lt HX0.out)
  have HB1 : Aside (Below w.heap.size w wc) := HB0.out.trans (hU.below.mono HB0.out.size)
  clear hU HN0 HX0 HB0 HK1
  generalize wc = W1 at *
  rcases HC.out with ⟨h0, h1⟩ | ⟨h0, HC1⟩
  ·have hz : (d1 != 0) = true := by rw [bne_iff_ne]; exact h0
   subst h1
   clear h0 HC kp ks
   go_wp2
   go_ret
   exact ⟨rfl, W1, HB1.out, Or.inl ⟨rfl, rfl⟩⟩
  ·have hz : (d1 != 0) = false := by rw [h0]; rfl
   have HC2 : Hid _ := HC1
   clear h0 HC HC1
   have HK2 : Aside (∀ W, Below W1.heap.size W1 W → AnsR 129 (.slice a1 m1 k1) (.slice a2 m2 k2) #[.agg #[(.slice a1 m1 k1), (.slice a2 m2 k2)], r.val] W (D, d2)) := fun W hb => kp.out W (HB1.out.trans (hb.mono HB1.out.size))
   clear kp
   go_upto_region 4 with fail
   go_cut [6, 7] from 20 to 28 (fun s6 s7 wx => ∃ (b : Nat) (v1 v2 : Value), s7 = .pointer (some ⟨b, 0, none⟩) ∧ s6 = .int .i64 d2 ∧ DBx W1 wx b D v1 v2)
   case first =>
    refine wp_region_held_drew (S := fun W' => Below W1.heap.size W1 W') (by kernel_rfl) ((Below.refl _ _).drew) (fun hHeld => ?_)
    refine tk 0 (v := ?_) rfl (by kernel_rfl) (by rfl) (by assumption) (fun _ _ _ h => h) ?_ ?_
    rotate_left
    ·intro w0 hSw; clear hSw; go_simp; first | done | with_reducible rfl
    try simp only [Act.put, qa, qb, qc]
    refine tk 1 (v := ?_) rfl (by kernel_rfl) (by rfl) (by assumption) (fun _ _ _ h => h) ?_ ?_
    rotate_left
    ·intro w0 hSw; clear hSw; go_simp; first | done | with_reducible rfl
    try simp only [Act.put, qa, qb, qc]
    refine tk 2 (v := ?_) rfl (by kernel_rfl) (by rfl) (by assumption) (fun _ _ _ h => h) ?_ ?_
    rotate_left
    ·intro w0 hSw; clear hSw; go_simp; first | done | with_reducible rfl
    try simp only [Act.put, qa, qb, qc]
    refine tk 3 (v := ?_) rfl (by kernel_rfl) (by rfl) (by assumption) (fun _ _ _ h => h) ?_ ?_
    rotate_left
    ·intro w0 hSw; have y2 := (HN1.out.later hSw).cell (i := 2) rfl; have y3 := (HN1.out.later hSw).cell (i := 3) rfl; clear hSw; go_simp; first | done | with_reducible rfl
    try simp only [Act.put, qa, qb, qc]
    refine tk 4 (v := ?_) rfl (by kernel_rfl) (by rfl) (by assumption) (fun _ _ _ h => h) ?_ ?_
    rotate_left
    ·intro w0 hSw; have z := (show ∀ i, w0.cell? ⟨w.heap.size, i, none⟩ = #[Value.int .i64 r.k, .int .i64 r.a, .int .i64 r.p, .int .i64 r.e.k, .int .i64 r.e.j, .int .i64 r.e.v, .int .i64 r.e.t, .int .i64 r.e.c][i]? from fun i => Joins.cell_of_block (heap_below HX1.out hSw (heap_lt HX1.out)) i); clear hSw; go_simp; first | done | with_reducible rfl
    try simp only [Act.put, qa, qb, qc]
    refine wpAnyH_ready (rs := [5, 9]) (by kernel_rfl) (by simp) ?_
    refine AllReadyH.cons (o := ?o5pq) ?hi5pq ?step5pq (AllReadyH.cons (o := ?o9pq) ?hi9pq ?step9pq AllReadyH.nil)
    case hi5pq => (simp only [List.getElem?_toArray, List.getElem?_cons_succ, List.getElem?_cons_zero]; rfl)
    case hi9pq => (simp only [List.getElem?_toArray, List.getElem?_cons_succ, List.getElem?_cons_zero]; rfl)
    case step5pq =>
     intro K hK
     go_simp
     refine (HK2.out _ hHeld).mono ?_
     rintro e w1 ⟨v1, v2, rfl, hD, hb1, _, _⟩
     obtain ⟨a4, m4, k4, rfl⟩ := roomy_sl hD.room1
     obtain ⟨a5, m5, k5, rfl⟩ := roomy_sl hD.room2
     have hA1 : Below W1.heap.size W1 w1 := step_below1 hHeld hb1
     refine hK.out _ _ hA1 (fun hHeld => ?_)
     clear hK K
     try simp only [Act.put, qa, qb, qc]
     refine tk 6 (v := ?_) rfl (by kernel_rfl) (by rfl) (by assumption) (fun _ _ _ h => h) ?_ ?_
     rotate_left
     ·intro w0 hSw; clear hSw; go_simp; first | done | with_reducible rfl
     try simp only [Act.put, qa, qb, qc]
     refine tk 7 (v := ?_) rfl (by kernel_rfl) (by rfl) (by assumption) (fun _ _ _ h => h) ?_ ?_
     rotate_left
     ·intro w0 hSw; clear hSw; go_simp; first | done | with_reducible rfl
     try simp only [Act.put, qa, qb, qc]
     refine tk 8 (v := ?_) rfl (by kernel_rfl) (by rfl) (by assumption) (fun _ _ _ h => h) ?_ ?_
     rotate_left
     ·intro w0 hSw; clear hSw; go_simp; first | done | with_reducible rfl
     try simp only [Act.put, qa, qb, qc]
     refine rdy 9 (by kernel_rfl) rfl (fun K hK => ?_)
     go_simp
     refine hK.out _ _ (grew hHeld _) (fun hHeld => ?_)
     clear hK K
     try simp only [Act.put, qa, qb, qc]
     refine rdy 10 (by kernel_rfl) rfl (fun K hK => ?_)
     go_simp
     refine hK.out _ _ (grew hA1 _) (fun hHeld => ?_)
     clear hK K
     try simp only [Act.put, qa, qb, qc]
     refine rdy 11 (by kernel_rfl) rfl (fun K hK => ?_)
     go_simp
     refine hK.out _ _ (hHeld) (fun hHeld => ?_)
     clear hK K
     try simp only [Act.put, qa, qb, qc]
     refine wpAnyH_done (by kernel_rfl) ?_ _
     go_wp2_with fail
     go_meet
     case rel => exact ⟨_, _, _, rfl, rfl, dbx_A hA1 hD⟩
    case step9pq =>
     intro K hK
     go_simp
     refine hK.out _ _ (grew hHeld _) (fun hHeld => ?_)
     clear hK K
     try simp only [Act.put, qa, qb, qc]
     have hx1 : ((W1.alloc (boxD nilB nilB)).drew).heap[W1.heap.size]? = some (boxD nilB nilB) := heap_new W1 _
     refine rdy 5 (by kernel_rfl) rfl (fun K hK => ?_)
     go_simp
     refine (HK2.out _ hHeld).mono ?_
     rintro e w1 ⟨v1, v2, rfl, hD, hb1, _, _⟩
     obtain ⟨a4, m4, k4, rfl⟩ := roomy_sl hD.room1
     obtain ⟨a5, m5, k5, rfl⟩ := roomy_sl hD.room2
     have hB1 : Below W1.heap.size W1 w1 := step_below1 hHeld hb1
     have hx2 := heap_below hx1 hb1 (heap_lt hx1)
     have c7 := fun i => Joins.cell_of_block hx2 i
     have f7 := fun i => Joins.unfrozen_of_block hx2 i
     refine hK.out _ _ hB1 (fun hHeld => ?_)
     clear hK K
     try simp only [Act.put, qa, qb, qc]
     refine tk 6 (v := ?_) rfl (by kernel_rfl) (by rfl) (by assumption) (fun _ _ _ h => h) ?_ ?_
     rotate_left
     ·intro w0 hSw; clear hSw; go_simp; first | done | with_reducible rfl
     try simp only [Act.put, qa, qb, qc]
     refine tk 7 (v := ?_) rfl (by kernel_rfl) (by rfl) (by assumption) (fun _ _ _ h => h) ?_ ?_
     rotate_left
     ·intro w0 hSw; clear hSw; go_simp; first | done | with_reducible rfl
     try simp only [Act.put, qa, qb, qc]
     refine tk 8 (v := ?_) rfl (by kernel_rfl) (by rfl) (by assumption) (fun _ _ _ h => h) ?_ ?_
     rotate_left
     ·intro w0 hSw; clear hSw; go_simp; first | done | with_reducible rfl
     try simp only [Act.put, qa, qb, qc]
     refine rdy 10 (by kernel_rfl) rfl (fun K hK => ?_)
     go_simp
     refine hK.out _ _ (below_two2 hHeld (Nat.le_refl _) _ _) (fun hHeld => ?_)
     clear hK K
     try simp only [Act.put, qa, qb, qc]
     refine rdy 11 (by kernel_rfl) rfl (fun K hK => ?_)
     go_simp
     refine hK.out _ _ (hHeld) (fun hHeld => ?_)
     clear hK K
     try simp only [Act.put, qa, qb, qc]
     refine wpAnyH_done (by kernel_rfl) ?_ _
     go_wp2_with fail
     go_meet
     case rel => exact ⟨_, _, _, rfl, rfl, dbx_B hx2 hB1 hD (Nat.le_refl _)⟩
   case rest =>
    obtain ⟨b2, v4, v5, rfl, rfl, hD⟩ := hcut
    obtain ⟨a4, m4, k4, rfl⟩ := roomy_sl hD.disk.room1
    obtain ⟨a5, m5, k5, rfl⟩ := roomy_sl hD.disk.room2
    have HD2 : Aside (DBx W1 wc b2 D (.slice a4 m4 k4) (.slice a5 m5 k5)) := hD
    have HU2 : Aside _ := HU1.out.later hD.below
    have HN2 : Aside _ := HN1.out.later hD.below
    have HB2 : Aside (Below w.heap.size w wc) := HB1.out.trans (hD.below.mono HB1.out.size)
    have hl1 := heap_lt HU1.out.box
    have hne : b1 ≠ b2 := by have := hD.base; omega
    have hgo := heap_lt HN1.out.blk
    have hgb : g ≠ b2 := by have := hD.base; omega
    have HL : Aside (w.heap.size ≤ b2) := by have := hD.base; have := HB1.out.size; exact Nat.le_trans HB1.out.size hD.base
    clear hD HU1 HN1 HX1 HB1 HK2 hl1 hgo
    generalize wc = W2 at *
    rcases HC2.out with ⟨h0, h1⟩ | ⟨h0, HC1⟩
    ·have hz : (d2 != 0) = true := by rw [bne_iff_ne]; exact h0
     subst h1
     clear h0 HC2 ks
     go_wp2
     go_ret
     exact ⟨rfl, W2, HB2.out, Or.inl ⟨rfl, rfl⟩⟩
    ·have hz : (d2 != 0) = false := by rw [h0]; rfl
     have HC3 : Hid _ := HC1
     have hs := ks.out W2 _ _ HB2.out h0 HD2.out.disk
     clear h0 HC2 HC1 ks
     have z2 := fun i => Joins.cell_of_block HD2.out.box i
     go_wp2_with fail
     refine hs.mono ?_
     rintro e w3 ⟨v6, v7, rfl, hE, hb3, _, _⟩
     obtain ⟨a6, m6, k6, rfl⟩ := roomy_sl hE.room1
     obtain ⟨a7, m7, k7, rfl⟩ := roomy_sl hE.room2
     have HD3 : Aside (w3.heap[b2]? = some (boxD (.slice a4 m4 k4) (.slice a5 m5 k5))) := (HD2.out.later hb3).box
     have HU3 : Aside _ := HU2.out.later hb3
     have HN3 : Aside _ := HN2.out.later hb3
     have HB3 := sb HB2 hb3
     have HE3 : Aside (DiskR w3 (.slice a6 m6 k6) (.slice a7 m7 k7) E) := hE
     clear hs hE hb3 z2 HD2 HU2 HN2 HB2
     have z2 := cb HD3
     have f2 := cf HD3
     have HD4 : Aside (((w3.setCell ⟨b2, 0, none⟩ (.slice a6 m6 k6)).setCell ⟨b2, 1, none⟩ (.slice a7 m7 k7)).heap[b2]? = some (boxD (.slice a6 m6 k6) (.slice a7 m7 k7))) := stored_two HD3.out rfl _ _
     have HU4 : Aside (((w3.setCell ⟨b2, 0, none⟩ (.slice a6 m6 k6)).setCell ⟨b2, 1, none⟩ (.slice a7 m7 k7)).heap[b1]? = some (boxU U.p (.slice a3 m3 k3))) := other_two HU3.out.box hne _ _
     have HG4 : Aside (((w3.setCell ⟨b2, 0, none⟩ (.slice a6 m6 k6)).setCell ⟨b2, 1, none⟩ (.slice a7 m7 k7)).heap[g]? = some (.cells NC.toArray 49)) := other_two HN3.out.blk hgb _ _
     have HR4 : Aside (NodeT ((w3.setCell ⟨b2, 0, none⟩ (.slice a6 m6 k6)).setCell ⟨b2, 1, none⟩ (.slice a7 m7 k7)) ⟨⟨U, E.1, E.2, up⟩, .slice a3 m3 k3, .slice a6 m6 k6, .slice a7 m7 k7⟩) :=
      ⟨unit_box2 HU3.out.unit HD3.out _ _, disk_off2 HE3.out HD3.out (slnob _ _ _) (slnob _ _ _) (slnob _ _ _) _⟩
     have HB4 : Aside (Below w.heap.size w ((w3.setCell ⟨b2, 0, none⟩ (.slice a6 m6 k6)).setCell ⟨b2, 1, none⟩ (.slice a7 m7 k7))) := below_two2 HB3.out HL.out _ _
     have HP4 : Aside (∀ (i : Nat) (v : Value), (Nb.cells ⟨⟨u, s, t, up⟩, (.slice a0 m0 k0), (.slice a1 m1 k1), (.slice a2 m2 k2)⟩)[i]? = some v → NC[o + i]? = some v) := HN3.out.place
     go_upto_region 8 with fail
     clear z2 f2
     generalize (w3.setCell ⟨b2, 0, none⟩ (.slice a6 m6 k6)).setCell ⟨b2, 1, none⟩ (.slice a7 m7 k7) = W4 at *
     clear HD3 HU3 HN3 HB3 HE3 HL
     rcases HC3.out with ⟨h0, h1⟩ | ⟨h0, h1⟩
     ·have hz : (d3 != 0) = true := by rw [bne_iff_ne]; exact h0
      subst h1
      clear h0 HC3
      go_wp2
      go_ret
      exact ⟨rfl, W4, HB4.out, Or.inl ⟨rfl, rfl⟩⟩
     ·have hz : (d3 != 0) = false := by rw [h0]; rfl
      subst h1
      clear h0 HC3
      have z1 := cb HU4
      have z2 := cb HD4
      have yz : ∀ (i : Nat) (v : Value), (Nb.cells ⟨⟨u, s, t, up⟩, (.slice a0 m0 k0), (.slice a1 m1 k1), (.slice a2 m2 k2)⟩)[i]? = some v → W4.cell? ⟨g, o + i, none⟩ = some v := fun i v hv => by
       rw [Joins.cell_of_block HG4.out]
       simpa using HP4.out i v hv
      have y0 := yz 0 _ rfl
      have y1 := yz 1 _ rfl
      have y2 := yz 2 _ rfl
      have y3 := yz 3 _ rfl
      simp only [Nat.add_zero] at y0
      have fz := cf HG4
      clear yz
      go_upto_region 10 with fail
      go_region
      go_wp2
      go_ret
      exact ⟨rfl, W4.drew, HB4.out.drew, Or.inr ⟨_, HR4.out.later (Below.refl _ _).drew, rfl, rfl⟩⟩
theorem w_write {w : World} {g o : Nat} {NC : List Value} {x : Nb} (hL : Laid w) (h : NAt w g o NC x) (hn1 : x.n.s.length ≤ topLen) (hn2 : x.n.w.length ≤ topLen) (r : Rc) :
  Calls Tryz.prog 102 #[.pointer (some ⟨g, o, none⟩), r.val] w fun e w' => e = .returned (.int .i64 (x.n.write r).2) ∧ Post st4 w w' g o x (x.n.write r).1 := by
 obtain ⟨⟨u, s, t, up⟩, vc, vs, vw⟩ := x
 obtain ⟨a0, m0, k0, rfl⟩ := roomy_sl h.rows.unit.room
 obtain ⟨a1, m1, k1, rfl⟩ := roomy_sl h.rows.disk.room1
 obtain ⟨a2, m2, k2, rfl⟩ := roomy_sl h.rows.disk.room2
 exact w_write_at u s t up a0 a1 a2 m0 k0 m1 k1 m2 k2 hL h hn1 hn2 r
end Go.Proofs.YtmoaobfmopimlafGreatDoor
