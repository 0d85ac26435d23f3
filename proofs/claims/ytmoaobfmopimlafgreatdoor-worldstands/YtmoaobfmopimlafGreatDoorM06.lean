/- For the law: Package world: write. Package world: writeAny, tear. The cells of an entry in a block. The reference's Linked. The reference's Linked, whole; ReadAt. What the laws on chains ask of packages chain and unit; the closed facts of 'linked'. Package world: units. Package world: follows. Package world: checkNode. -/
import Derived.Test.YtmoaobfmopimlafGreatDoorM05
import Derived.Deep.CutBlock
import Derived.Deep.QuietTactic
import Derived.BigQuiet
namespace Go.Proofs.YtmoaobfmopimlafGreatDoor
open Go.RowKit
/-- Places lie in no box of fewer than five cells. -/
theorem ents_box {W : World} {v : Value} {es : List En} (h : EntSl W v es) {b : Nat} {A : Array Value} {T : TypeId} (hb : W.heap[b]? = some (.cells A T)) (hA : A.size < 5) (i : Nat) (u : Value) : EntSl (W.setCell ⟨b, i, none⟩ u) v es := by
  obtain ⟨a', c', hv, hc⟩ := h
  refine ⟨a', c', hv, ?_⟩
  rcases hc with hc | ⟨b', off, ha, hE⟩
  · exact Or.inl hc
  · refine Or.inr ⟨b', off, ha, fun j e hj i' u' hi => ?_⟩
    have hne : b' ≠ b := fun e' => by
      have hcell := hE j e hj 4 (.int .i64 e.c) rfl
      rw [e', Joins.cell_of_block hb] at hcell
      have := (Array.getElem?_eq_some_iff.1 hcell).1
      omega
    rw [World.cell?_of_block (Below.heap_setCell _ _ _ _ (by exact hne))]
    exact hE j e hj i' u' hi
theorem unit_box2 {W : World} {v : Value} {u : Un} (h : UnitAt W v u) {b : Nat} {x y : Value} {T : TypeId} (hb : W.heap[b]? = some (.cells #[x, y] T)) (u1 u2 : Value) : UnitAt ((W.setCell ⟨b, 0, none⟩ u1).setCell ⟨b, 1, none⟩ u2) v u := by
  have h0 : (W.setCell ⟨b, 0, none⟩ u1).heap[b]? = some (.cells #[u1, y] T) := by rw [Joins.block_setCell hb]; rfl
  exact ⟨ents_box (ents_box h.ents hb (by simp) 0 u1) h0 (by simp) 1 u2, h.room⟩
/-- A unit, a disk, in a box that was made. -/
structure UBx (W0 wx : World) (b : Nat) (U : Un) (v : Value) : Prop where
  box : wx.heap[b]? = some (boxU U.p v)
  unit : UnitAt wx v U
  base : W0.heap.size ≤ b
  below : Below W0.heap.size W0 wx
structure DBx (W0 wx : World) (b : Nat) (D : Dk) (v1 v2 : Value) : Prop where
  box : wx.heap[b]? = some (boxD v1 v2)
  disk : DiskR wx v1 v2 D
  base : W0.heap.size ≤ b
  below : Below W0.heap.size W0 wx
theorem ubx_A {W0 w1 : World} {U : Un} {v : Value} (hA : Below W0.heap.size W0 w1) (hU : UnitAt w1 v U) : UBx W0 (w1.alloc (boxU U.p v)) w1.heap.size U v := ⟨heap_new _ _, hU.later (grew (Below.refl _ _) _), hA.size, grew hA _⟩
theorem ubx_B {W0 w1 : World} {b : Nat} {x y : Value} {U : Un} {v : Value} (hx : w1.heap[b]? = some (.cells #[x, y] 44)) (hB : Below W0.heap.size W0 w1) (hU : UnitAt w1 v U) (hb : W0.heap.size ≤ b) : UBx W0 ((w1.setCell ⟨b, 0, none⟩ (.int .i64 U.p)).setCell ⟨b, 1, none⟩ v) b U v :=
  ⟨stored_two hx rfl _ _, unit_box2 hU hx _ _, hb, below_two2 hB hb _ _⟩
theorem dbx_A {W0 w1 : World} {D : Dk} {v1 v2 : Value} (hA : Below W0.heap.size W0 w1) (hD : DiskR w1 v1 v2 D) : DBx W0 (w1.alloc (boxD v1 v2)) w1.heap.size D v1 v2 := ⟨heap_new _ _, hD.later (grew (Below.refl _ _) _), hA.size, grew hA _⟩
theorem dbx_B {W0 w1 : World} {b : Nat} {a1 a2 c1 c2 : Option Addr} {n1 n2 m1 m2 k1 k2 l1 l2 : Nat} {D : Dk} (hx : w1.heap[b]? = some (boxD (.slice c1 k1 l1) (.slice c2 k2 l2))) (hB : Below W0.heap.size W0 w1) (hD : DiskR w1 (.slice a1 n1 m1) (.slice a2 n2 m2) D) (hb : W0.heap.size ≤ b) :
    DBx W0 ((w1.setCell ⟨b, 0, none⟩ (.slice a1 n1 m1)).setCell ⟨b, 1, none⟩ (.slice a2 n2 m2)) b D (.slice a1 n1 m1) (.slice a2 n2 m2) :=
  ⟨stored_two hx rfl _ _, disk_off2 hD hx (slnob _ _ _) (slnob _ _ _) (slnob _ _ _) _, hb, below_two2 hB hb _ _⟩
theorem UBx.later {W0 wx w' : World} {b : Nat} {U : Un} {v : Value} (h : UBx W0 wx b U v) (hb : Below wx.heap.size wx w') : UBx W0 w' b U v := ⟨heap_below h.box hb (heap_lt h.box), h.unit.later hb, h.base, step_below1 h.below hb⟩
theorem DBx.later {W0 wx w' : World} {b : Nat} {D : Dk} {v1 v2 : Value} (h : DBx W0 wx b D v1 v2) (hb : Below wx.heap.size wx w') : DBx W0 w' b D v1 v2 := ⟨heap_below h.box hb (heap_lt h.box), h.disk.later hb, h.base, step_below1 h.below hb⟩
/-- What is put fits. -/
theorem dput_fit {s t : List UInt8} {c : Rc} (h : (dput s t c).2 = 0) : (dput s t c).1.1.length ≤ topLen ∧ (dput s t c).1.2.length ≤ topLen := by
  unfold dput at h ⊢
  by_cases h1 : ckDisk s t = 0
  · rw [if_neg (not_not_intro h1)] at h ⊢
    have hl := (ckDisk_zero.1 h1).1
    unfold putOn at h ⊢
    by_cases h2 : c.chk = 0
    · rw [if_neg (not_not_intro h2)] at h ⊢
      by_cases h3 : 30000 < s.length + t.length + c.txt.length + 1
      · rw [if_pos h3] at h; cases h
      · rw [if_neg h3]
        unfold topLen
        constructor
        · show s.length ≤ _; omega
        · show (t ++ (c.txt ++ [10])).length ≤ _; simp; omega
    · rw [if_pos h2] at h; exact absurd h h2
  · rw [if_pos h1] at h; exact absurd h h1
theorem write_ways (n : Nd) (r : Rc) (U : Un) (D E : Dk) (d1 d2 d3 : Int) (q1 : unext n.u r = (U, d1)) (q2 : dput n.s n.w r = (D, d2)) (q3 : dsync D.1 D.2 = (E, d3)) :
    (d1 ≠ 0 ∧ n.write r = (n, d1)) ∨ (d1 = 0 ∧ ((d2 ≠ 0 ∧ n.write r = (n, d2)) ∨ (d2 = 0 ∧ ((d3 ≠ 0 ∧ n.write r = (n, d3)) ∨ (d3 = 0 ∧ n.write r = (⟨U, E.1, E.2, n.up⟩, 0)))))) := by
  unfold Nd.write
  rw [q1, q2]
  simp only
  rw [q3]
  by_cases h1 : d1 = 0
  · refine Or.inr ⟨h1, ?_⟩
    rw [if_neg (not_not_intro h1)]
    by_cases h2 : d2 = 0
    · refine Or.inr ⟨h2, ?_⟩
      rw [if_neg (not_not_intro h2)]
      by_cases h3 : d3 = 0
      · exact Or.inr ⟨h3, by rw [if_neg (not_not_intro h3)]⟩
      · exact Or.inl ⟨h3, by rw [if_pos h3]⟩
    · exact Or.inl ⟨h2, by rw [if_pos h2]⟩
  · exact Or.inl ⟨h1, by rw [if_pos h1]⟩
set_option linter.unusedSimpArgs false in
set_option maxHeartbeats 8000000 in
set_option maxRecDepth 100000 in
theorem w_write_at {w : World} {g o : Nat} {NC : List Value} (u : Un) (s t : List UInt8) (up : Bool) (a0 a1 a2 : Option Addr) (m0 k0 m1 k1 m2 k2 : Nat) (hL : Laid w) (h : NAt w g o NC ⟨⟨u, s, t, up⟩, (.slice a0 m0 k0), (.slice a1 m1 k1), (.slice a2 m2 k2)⟩) (hn1 : s.length ≤ topLen) (hn2 : t.length ≤ topLen) (r : Rc) :
    Calls Tryz.prog 102 #[.pointer (some ⟨g, o, none⟩), r.val] w fun e w' => e = .returned (.int .i64 (Nd.write ⟨u, s, t, up⟩ r).2) ∧ Post st4 w w' g o ⟨⟨u, s, t, up⟩, (.slice a0 m0 k0), (.slice a1 m1 k1), (.slice a2 m2 k2)⟩ (Nd.write ⟨u, s, t, up⟩ r).1 := by
  obtain ⟨⟨U, d1⟩, q1⟩ : ∃ q, unext u r = q := ⟨_, rfl⟩
  obtain ⟨⟨D, d2⟩, q2⟩ : ∃ q, dput s t r = q := ⟨_, rfl⟩
  obtain ⟨⟨E, d3⟩, q3⟩ : ∃ q, dsync D.1 D.2 = q := ⟨_, rfl⟩
  have hw := write_ways ⟨u, s, t, up⟩ r U D E d1 d2 d3 q1 q2 q3
  have kn : Aside (∀ W, Below w.heap.size w W → AnsO 128 #[.agg #[.int .i64 u.p, (.slice a0 m0 k0)], r.val] W (U, d1)) := fun W hb => by
    have := unitNext_any (.slice a0 m0 k0) u r W (h.rows.unit.later hb)
    rwa [q1] at this
  have kp : Aside (∀ W, Below w.heap.size w W → AnsR 129 (.slice a1 m1 k1) (.slice a2 m2 k2) #[.agg #[(.slice a1 m1 k1), (.slice a2 m2 k2)], r.val] W (D, d2)) := fun W hb => by
    have := diskPut_any (.slice a1 m1 k1) (.slice a2 m2 k2) (s, t) r W (hL.later hb) (h.rows.disk.later hb) hn1 hn2
    rwa [q2] at this
  have hfit : d2 = 0 → D.1.length ≤ topLen ∧ D.2.length ≤ topLen := fun h0 => by
    have := dput_fit (s := s) (t := t) (c := r) (by rw [q2]; exact h0)
    rwa [q2] at this
  have ks : Aside (∀ W v1 v2, Below w.heap.size w W → d2 = 0 → DiskR W v1 v2 D → AnsR 130 v1 v2 #[.agg #[v1, v2]] W (E, d3)) := fun W v1 v2 hb h0 hD => by
    have := diskSync_any v1 v2 D W (hL.later hb) hD (hfit h0).1 (hfit h0).2
    rwa [q3] at this
  obtain ⟨rr, HRR⟩ : ∃ rr, Hid (Nd.write ⟨u, s, t, up⟩ r = rr) := ⟨_, rfl⟩
  rw [HRR.out] at hw ⊢
  have HC : Hid _ := hw
  have HN0 : Aside (NAt (w.alloc (boxRc r)) g o NC ⟨⟨u, s, t, up⟩, (.slice a0 m0 k0), (.slice a1 m1 k1), (.slice a2 m2 k2)⟩) := h.later (grew (Below.refl _ _) _)
  have HX0 : Aside ((w.alloc (boxRc r)).heap[w.heap.size]? = some (boxRc r)) := heap_new _ _
  have HB0 : Aside (Below w.heap.size w (w.alloc (boxRc r))) := grew (Below.refl _ _) _
  clear hL h hn1 hn2 q1 q2 q3 hfit hw HRR
  go_enter Tryz.func102, Tryz.ntmps102
  go_upto_region 1 with fail
  generalize w.alloc (boxRc r) = W0 at *
  have HK1 : Aside (∀ W, Below W0.heap.size W0 W → AnsO 128 #[.agg #[.int .i64 u.p, (.slice a0 m0 k0)], r.val] W (U, d1)) := fun W hb => kn.out W (HB0.out.trans (hb.mono HB0.out.size))
  clear kn
  go_cut [5, 6] from 8 to 16 (fun s5 s6 wx => ∃ (b : Nat) (v : Value), s5 = .pointer (some ⟨b, 0, none⟩) ∧ s6 = .int .i64 d1 ∧ UBx W0 wx b U v)
  case first =>
    refine wp_region_held_drew (S := fun W' => Below W0.heap.size W0 W') (by kernel_rfl) ((Below.refl _ _).drew) (fun hHeld => ?_)
    refine wpAnyH_take (i := 0) (oi := ?oi0) (v := ?v0) ?hi0 ?hs0 ?hf0 ?hr0 ?hQ0 (Or.inl ⟨?hw0, ?hy0⟩) (by assumption) ?h0
    case hi0 => (simp only [List.getElem?_toArray, List.getElem?_cons_succ, List.getElem?_cons_zero]; rfl)
    case hs0 => kernel_rfl
    case hf0 => kernel_rfl
    case hr0 => kernel_rfl
    case hw0 => rfl
    case hy0 => (intro w0 hSw; clear hSw; go_simp; first | done | with_reducible rfl)
    case hQ0 => exact fun _ _ _ h => h
    try simp only [Act.put, List.setIfInBounds_toArray, List.set_cons_zero, List.set_cons_succ]
    refine wpAnyH_take (i := 1) (oi := ?oi1) (v := ?v1) ?hi1 ?hs1 ?hf1 ?hr1 ?hQ1 (Or.inl ⟨?hw1, ?hy1⟩) (by assumption) ?h1
    case hi1 => (simp only [List.getElem?_toArray, List.getElem?_cons_succ, List.getElem?_cons_zero]; rfl)
    case hs1 => kernel_rfl
    case hf1 => kernel_rfl
    case hr1 => kernel_rfl
    case hw1 => rfl
    case hy1 => (intro w0 hSw; clear hSw; go_simp; first | done | with_reducible rfl)
    case hQ1 => exact fun _ _ _ h => h
    try simp only [Act.put, List.setIfInBounds_toArray, List.set_cons_zero, List.set_cons_succ]
    refine wpAnyH_take (i := 2) (oi := ?oi2) (v := ?v2) ?hi2 ?hs2 ?hf2 ?hr2 ?hQ2 (Or.inl ⟨?hw2, ?hy2⟩) (by assumption) ?h2
    case hi2 => (simp only [List.getElem?_toArray, List.getElem?_cons_succ, List.getElem?_cons_zero]; rfl)
    case hs2 => kernel_rfl
    case hf2 => kernel_rfl
    case hr2 => kernel_rfl
    case hw2 => rfl
    case hy2 => (intro w0 hSw; clear hSw; go_simp; first | done | with_reducible rfl)
    case hQ2 => exact fun _ _ _ h => h
    try simp only [Act.put, List.setIfInBounds_toArray, List.set_cons_zero, List.set_cons_succ]
    refine wpAnyH_take (i := 3) (oi := ?oi3) (v := ?v3) ?hi3 ?hs3 ?hf3 ?hr3 ?hQ3 (Or.inl ⟨?hw3, ?hy3⟩) (by assumption) ?h3
    case hi3 => (simp only [List.getElem?_toArray, List.getElem?_cons_succ, List.getElem?_cons_zero]; rfl)
    case hs3 => kernel_rfl
    case hf3 => kernel_rfl
    case hr3 => kernel_rfl
    case hw3 => rfl
    case hy3 => (intro w0 hSw; have y0 := (HN0.out.later hSw).cell (i := 0) rfl; have y1 := (HN0.out.later hSw).cell (i := 1) rfl; simp only [Nat.add_zero] at y0; clear hSw; go_simp; first | done | with_reducible rfl)
    case hQ3 => exact fun _ _ _ h => h
    try simp only [Act.put, List.setIfInBounds_toArray, List.set_cons_zero, List.set_cons_succ]
    refine wpAnyH_take (i := 4) (oi := ?oi4) (v := ?v4) ?hi4 ?hs4 ?hf4 ?hr4 ?hQ4 (Or.inl ⟨?hw4, ?hy4⟩) (by assumption) ?h4
    case hi4 => (simp only [List.getElem?_toArray, List.getElem?_cons_succ, List.getElem?_cons_zero]; rfl)
    case hs4 => kernel_rfl
    case hf4 => kernel_rfl
    case hr4 => kernel_rfl
    case hw4 => rfl
    case hy4 => (intro w0 hSw; have z := (show ∀ i, w0.cell? ⟨w.heap.size, i, none⟩ = #[Value.int .i64 r.k, .int .i64 r.a, .int .i64 r.p, .int .i64 r.e.k, .int .i64 r.e.j, .int .i64 r.e.v, .int .i64 r.e.t, .int .i64 r.e.c][i]? from fun i => Joins.cell_of_block (heap_below HX0.out hSw (heap_lt HX0.out)) i); clear hSw; go_simp; first | done | with_reducible rfl)
    case hQ4 => exact fun _ _ _ h => h
    try simp only [Act.put, List.setIfInBounds_toArray, List.set_cons_zero, List.set_cons_succ]
    refine wpAnyH_ready (rs := [5, 9]) (by kernel_rfl) (by simp) ?_
    refine AllReadyH.cons (o := ?o5p) ?hi5p ?step5p (AllReadyH.cons (o := ?o9p) ?hi9p ?step9p AllReadyH.nil)
    case hi5p => (simp only [List.getElem?_toArray, List.getElem?_cons_succ, List.getElem?_cons_zero]; rfl)
    case hi9p => (simp only [List.getElem?_toArray, List.getElem?_cons_succ, List.getElem?_cons_zero]; rfl)
    case step5p =>
      intro K hK
      go_simp
      refine (HK1.out _ hHeld).mono ?_
      rintro e w1 ⟨v1, rfl, hU, hb1, _⟩
      obtain ⟨a3, m3, k3, rfl⟩ := roomy_sl hU.room
      have hA1 : Below W0.heap.size W0 w1 := step_below1 hHeld hb1
      refine hK.out _ _ hA1 (fun hHeld => ?_)
      clear hK K
      try simp only [Act.put, List.setIfInBounds_toArray, List.set_cons_zero, List.set_cons_succ]
      refine wpAnyH_take (i := 6) (oi := ?oi6A) (v := ?v6A) ?hi6A ?hs6A ?hf6A ?hr6A ?hQ6A (Or.inl ⟨?hw6A, ?hy6A⟩) (by assumption) ?h6A
      case hi6A => (simp only [List.getElem?_toArray, List.getElem?_cons_succ, List.getElem?_cons_zero]; rfl)
      case hs6A => kernel_rfl
      case hf6A => kernel_rfl
      case hr6A => kernel_rfl
      case hw6A => rfl
      case hy6A => (intro w0 hSw; clear hSw; go_simp; first | done | with_reducible rfl)
      case hQ6A => exact fun _ _ _ h => h
      try simp only [Act.put, List.setIfInBounds_toArray, List.set_cons_zero, List.set_cons_succ]
      refine wpAnyH_take (i := 7) (oi := ?oi7A) (v := ?v7A) ?hi7A ?hs7A ?hf7A ?hr7A ?hQ7A (Or.inl ⟨?hw7A, ?hy7A⟩) (by assumption) ?h7A
      case hi7A => (simp only [List.getElem?_toArray, List.getElem?_cons_succ, List.getElem?_cons_zero]; rfl)
      case hs7A => kernel_rfl
      case hf7A => kernel_rfl
      case hr7A => kernel_rfl
      case hw7A => rfl
      case hy7A => (intro w0 hSw; clear hSw; go_simp; first | done | with_reducible rfl)
      case hQ7A => exact fun _ _ _ h => h
      try simp only [Act.put, List.setIfInBounds_toArray, List.set_cons_zero, List.set_cons_succ]
      refine wpAnyH_take (i := 8) (oi := ?oi8A) (v := ?v8A) ?hi8A ?hs8A ?hf8A ?hr8A ?hQ8A (Or.inl ⟨?hw8A, ?hy8A⟩) (by assumption) ?h8A
      case hi8A => (simp only [List.getElem?_toArray, List.getElem?_cons_succ, List.getElem?_cons_zero]; rfl)
      case hs8A => kernel_rfl
      case hf8A => kernel_rfl
      case hr8A => kernel_rfl
      case hw8A => rfl
      case hy8A => (intro w0 hSw; clear hSw; go_simp; first | done | with_reducible rfl)
      case hQ8A => exact fun _ _ _ h => h
      try simp only [Act.put, List.setIfInBounds_toArray, List.set_cons_zero, List.set_cons_succ]
      refine wpAnyH_ready (rs := [9]) (by kernel_rfl) (by simp) ?_
      refine AllReadyH.cons (o := ?o9A) ?hi9A ?step9A AllReadyH.nil
      case hi9A => (simp only [List.getElem?_toArray, List.getElem?_cons_succ, List.getElem?_cons_zero]; rfl)
      intro K hK
      go_simp
      refine hK.out _ _ (grew hHeld _) (fun hHeld => ?_)
      clear hK K
      try simp only [Act.put, List.setIfInBounds_toArray, List.set_cons_zero, List.set_cons_succ]
      refine wpAnyH_ready (rs := [10]) (by kernel_rfl) (by simp) ?_
      refine AllReadyH.cons (o := ?o10A) ?hi10A ?step10A AllReadyH.nil
      case hi10A => (simp only [List.getElem?_toArray, List.getElem?_cons_succ, List.getElem?_cons_zero]; rfl)
      intro K hK
      go_simp
      refine hK.out _ _ (grew hA1 _) (fun hHeld => ?_)
      clear hK K
      try simp only [Act.put, List.setIfInBounds_toArray, List.set_cons_zero, List.set_cons_succ]
      refine wpAnyH_ready (rs := [11]) (by kernel_rfl) (by simp) ?_
      refine AllReadyH.cons (o := ?o11A) ?hi11A ?step11A AllReadyH.nil
      case hi11A => (simp only [List.getElem?_toArray, List.getElem?_cons_succ, List.getElem?_cons_zero]; rfl)
      intro K hK
      go_simp
      refine hK.out _ _ (hHeld) (fun hHeld => ?_)
      clear hK K
      try simp only [Act.put, List.setIfInBounds_toArray, List.set_cons_zero, List.set_cons_succ]
      refine wpAnyH_done (by kernel_rfl) ?_ _
      go_wp2_with fail
      go_meet
      case rel => exact ⟨_, _, rfl, rfl, ubx_A hA1 hU⟩
    case step9p =>
      intro K hK
      go_simp
      refine hK.out _ _ (grew hHeld _) (fun hHeld => ?_)
      clear hK K
      try simp only [Act.put, List.setIfInBounds_toArray, List.set_cons_zero, List.set_cons_succ]
      have hx1 : ((W0.alloc (boxU 0 (.slice none 0 0))).drew).heap[W0.heap.size]? = some (boxU 0 (.slice none 0 0)) := heap_new W0 _
      refine wpAnyH_ready (rs := [5]) (by kernel_rfl) (by simp) ?_
      refine AllReadyH.cons (o := ?o5B) ?hi5B ?step5B AllReadyH.nil
      case hi5B => (simp only [List.getElem?_toArray, List.getElem?_cons_succ, List.getElem?_cons_zero]; rfl)
      intro K hK
      go_simp
      refine (HK1.out _ hHeld).mono ?_
      rintro e w1 ⟨v1, rfl, hU, hb1, _⟩
      obtain ⟨a3, m3, k3, rfl⟩ := roomy_sl hU.room
      have hB1 : Below W0.heap.size W0 w1 := step_below1 hHeld hb1
      have hx2 := heap_below hx1 hb1 (heap_lt hx1)
      have c7 := fun i => Joins.cell_of_block hx2 i
      have f7 := fun i => Joins.unfrozen_of_block hx2 i
      refine hK.out _ _ hB1 (fun hHeld => ?_)
      clear hK K
      try simp only [Act.put, List.setIfInBounds_toArray, List.set_cons_zero, List.set_cons_succ]
      refine wpAnyH_take (i := 6) (oi := ?oi6B) (v := ?v6B) ?hi6B ?hs6B ?hf6B ?hr6B ?hQ6B (Or.inl ⟨?hw6B, ?hy6B⟩) (by assumption) ?h6B
      case hi6B => (simp only [List.getElem?_toArray, List.getElem?_cons_succ, List.getElem?_cons_zero]; rfl)
      case hs6B => kernel_rfl
      case hf6B => kernel_rfl
      case hr6B => kernel_rfl
      case hw6B => rfl
      case hy6B => (intro w0 hSw; clear hSw; go_simp; first | done | with_reducible rfl)
      case hQ6B => exact fun _ _ _ h => h
      try simp only [Act.put, List.setIfInBounds_toArray, List.set_cons_zero, List.set_cons_succ]
      refine wpAnyH_take (i := 7) (oi := ?oi7B) (v := ?v7B) ?hi7B ?hs7B ?hf7B ?hr7B ?hQ7B (Or.inl ⟨?hw7B, ?hy7B⟩) (by assumption) ?h7B
      case hi7B => (simp only [List.getElem?_toArray, List.getElem?_cons_succ, List.getElem?_cons_zero]; rfl)
      case hs7B => kernel_rfl
      case hf7B => kernel_rfl
      case hr7B => kernel_rfl
      case hw7B => rfl
      case hy7B => (intro w0 hSw; clear hSw; go_simp; first | done | with_reducible rfl)
      case hQ7B => exact fun _ _ _ h => h
      try simp only [Act.put, List.setIfInBounds_toArray, List.set_cons_zero, List.set_cons_succ]
      refine wpAnyH_take (i := 8) (oi := ?oi8B) (v := ?v8B) ?hi8B ?hs8B ?hf8B ?hr8B ?hQ8B (Or.inl ⟨?hw8B, ?hy8B⟩) (by assumption) ?h8B
      case hi8B => (simp only [List.getElem?_toArray, List.getElem?_cons_succ, List.getElem?_cons_zero]; rfl)
      case hs8B => kernel_rfl
      case hf8B => kernel_rfl
      case hr8B => kernel_rfl
      case hw8B => rfl
      case hy8B => (intro w0 hSw; clear hSw; go_simp; first | done | with_reducible rfl)
      case hQ8B => exact fun _ _ _ h => h
      try simp only [Act.put, List.setIfInBounds_toArray, List.set_cons_zero, List.set_cons_succ]
      refine wpAnyH_ready (rs := [10]) (by kernel_rfl) (by simp) ?_
      refine AllReadyH.cons (o := ?o10B) ?hi10B ?step10B AllReadyH.nil
      case hi10B => (simp only [List.getElem?_toArray, List.getElem?_cons_succ, List.getElem?_cons_zero]; rfl)
      intro K hK
      go_simp
      refine hK.out _ _ (below_two2 hHeld (Nat.le_refl _) _ _) (fun hHeld => ?_)
      clear hK K
      try simp only [Act.put, List.setIfInBounds_toArray, List.set_cons_zero, List.set_cons_succ]
      refine wpAnyH_ready (rs := [11]) (by kernel_rfl) (by simp) ?_
      refine AllReadyH.cons (o := ?o11B) ?hi11B ?step11B AllReadyH.nil
      case hi11B => (simp only [List.getElem?_toArray, List.getElem?_cons_succ, List.getElem?_cons_zero]; rfl)
      intro K hK
      go_simp
      refine hK.out _ _ (hHeld) (fun hHeld => ?_)
      clear hK K
      try simp only [Act.put, List.setIfInBounds_toArray, List.set_cons_zero, List.set_cons_succ]
      refine wpAnyH_done (by kernel_rfl) ?_ _
      go_wp2_with fail
      go_meet
      case rel => exact ⟨_, _, rfl, rfl, ubx_B hx2 hB1 hU (Nat.le_refl _)⟩
  case rest =>
    obtain ⟨b1, v1, rfl, rfl, hU⟩ := hcut
    obtain ⟨a3, m3, k3, rfl⟩ := roomy_sl hU.unit.room
    have HU1 : Aside (UBx W0 wc b1 U (.slice a3 m3 k3)) := hU
    have HN1 : Aside (NAt wc g o NC ⟨⟨u, s, t, up⟩, (.slice a0 m0 k0), (.slice a1 m1 k1), (.slice a2 m2 k2)⟩) := HN0.out.later hU.below
    have HX1 : Aside (wc.heap[w.heap.size]? = some (boxRc r)) := heap_below HX0.out hU.below (heap_lt HX0.out)
    have HB1 : Aside (Below w.heap.size w wc) := HB0.out.trans (hU.below.mono HB0.out.size)
    clear hU HN0 HX0 HB0 HK1
    generalize wc = W1 at *
    rcases HC.out with ⟨h0, h1⟩ | ⟨h0, HC1⟩
    · have hz : (d1 != 0) = true := by rw [bne_iff_ne]; exact h0
      subst h1
      clear h0 HC kp ks
      go_wp2
      go_ret
      exact ⟨rfl, W1, HB1.out, Or.inl ⟨rfl, rfl⟩⟩
    · have hz : (d1 != 0) = false := by rw [h0]; rfl
      have HC2 : Hid _ := HC1
      clear h0 HC HC1
      have HK2 : Aside (∀ W, Below W1.heap.size W1 W → AnsR 129 (.slice a1 m1 k1) (.slice a2 m2 k2) #[.agg #[(.slice a1 m1 k1), (.slice a2 m2 k2)], r.val] W (D, d2)) := fun W hb => kp.out W (HB1.out.trans (hb.mono HB1.out.size))
      clear kp
      go_upto_region 4 with fail
      go_cut [6, 7] from 20 to 28 (fun s6 s7 wx => ∃ (b : Nat) (v1 v2 : Value), s7 = .pointer (some ⟨b, 0, none⟩) ∧ s6 = .int .i64 d2 ∧ DBx W1 wx b D v1 v2)
      case first =>
        refine wp_region_held_drew (S := fun W' => Below W1.heap.size W1 W') (by kernel_rfl) ((Below.refl _ _).drew) (fun hHeld => ?_)
        refine wpAnyH_take (i := 0) (oi := ?oi0q) (v := ?v0q) ?hi0q ?hs0q ?hf0q ?hr0q ?hQ0q (Or.inl ⟨?hw0q, ?hy0q⟩) (by assumption) ?h0q
        case hi0q => (simp only [List.getElem?_toArray, List.getElem?_cons_succ, List.getElem?_cons_zero]; rfl)
        case hs0q => kernel_rfl
        case hf0q => kernel_rfl
        case hr0q => kernel_rfl
        case hw0q => rfl
        case hy0q => (intro w0 hSw; clear hSw; go_simp; first | done | with_reducible rfl)
        case hQ0q => exact fun _ _ _ h => h
        try simp only [Act.put, List.setIfInBounds_toArray, List.set_cons_zero, List.set_cons_succ]
        refine wpAnyH_take (i := 1) (oi := ?oi1q) (v := ?v1q) ?hi1q ?hs1q ?hf1q ?hr1q ?hQ1q (Or.inl ⟨?hw1q, ?hy1q⟩) (by assumption) ?h1q
        case hi1q => (simp only [List.getElem?_toArray, List.getElem?_cons_succ, List.getElem?_cons_zero]; rfl)
        case hs1q => kernel_rfl
        case hf1q => kernel_rfl
        case hr1q => kernel_rfl
        case hw1q => rfl
        case hy1q => (intro w0 hSw; clear hSw; go_simp; first | done | with_reducible rfl)
        case hQ1q => exact fun _ _ _ h => h
        try simp only [Act.put, List.setIfInBounds_toArray, List.set_cons_zero, List.set_cons_succ]
        refine wpAnyH_take (i := 2) (oi := ?oi2q) (v := ?v2q) ?hi2q ?hs2q ?hf2q ?hr2q ?hQ2q (Or.inl ⟨?hw2q, ?hy2q⟩) (by assumption) ?h2q
        case hi2q => (simp only [List.getElem?_toArray, List.getElem?_cons_succ, List.getElem?_cons_zero]; rfl)
        case hs2q => kernel_rfl
        case hf2q => kernel_rfl
        case hr2q => kernel_rfl
        case hw2q => rfl
        case hy2q => (intro w0 hSw; clear hSw; go_simp; first | done | with_reducible rfl)
        case hQ2q => exact fun _ _ _ h => h
        try simp only [Act.put, List.setIfInBounds_toArray, List.set_cons_zero, List.set_cons_succ]
        refine wpAnyH_take (i := 3) (oi := ?oi3q) (v := ?v3q) ?hi3q ?hs3q ?hf3q ?hr3q ?hQ3q (Or.inl ⟨?hw3q, ?hy3q⟩) (by assumption) ?h3q
        case hi3q => (simp only [List.getElem?_toArray, List.getElem?_cons_succ, List.getElem?_cons_zero]; rfl)
        case hs3q => kernel_rfl
        case hf3q => kernel_rfl
        case hr3q => kernel_rfl
        case hw3q => rfl
        case hy3q => (intro w0 hSw; have y2 := (HN1.out.later hSw).cell (i := 2) rfl; have y3 := (HN1.out.later hSw).cell (i := 3) rfl; clear hSw; go_simp; first | done | with_reducible rfl)
        case hQ3q => exact fun _ _ _ h => h
        try simp only [Act.put, List.setIfInBounds_toArray, List.set_cons_zero, List.set_cons_succ]
        refine wpAnyH_take (i := 4) (oi := ?oi4q) (v := ?v4q) ?hi4q ?hs4q ?hf4q ?hr4q ?hQ4q (Or.inl ⟨?hw4q, ?hy4q⟩) (by assumption) ?h4q
        case hi4q => (simp only [List.getElem?_toArray, List.getElem?_cons_succ, List.getElem?_cons_zero]; rfl)
        case hs4q => kernel_rfl
        case hf4q => kernel_rfl
        case hr4q => kernel_rfl
        case hw4q => rfl
        case hy4q => (intro w0 hSw; have z := (show ∀ i, w0.cell? ⟨w.heap.size, i, none⟩ = #[Value.int .i64 r.k, .int .i64 r.a, .int .i64 r.p, .int .i64 r.e.k, .int .i64 r.e.j, .int .i64 r.e.v, .int .i64 r.e.t, .int .i64 r.e.c][i]? from fun i => Joins.cell_of_block (heap_below HX1.out hSw (heap_lt HX1.out)) i); clear hSw; go_simp; first | done | with_reducible rfl)
        case hQ4q => exact fun _ _ _ h => h
        try simp only [Act.put, List.setIfInBounds_toArray, List.set_cons_zero, List.set_cons_succ]
        refine wpAnyH_ready (rs := [5, 9]) (by kernel_rfl) (by simp) ?_
        refine AllReadyH.cons (o := ?o5pq) ?hi5pq ?step5pq (AllReadyH.cons (o := ?o9pq) ?hi9pq ?step9pq AllReadyH.nil)
        case hi5pq => (simp only [List.getElem?_toArray, List.getElem?_cons_succ, List.getElem?_cons_zero]; rfl)
        case hi9pq => (simp only [List.getElem?_toArray, List.getElem?_cons_succ, List.getElem?_cons_zero]; rfl)
        case step5pq =>
          intro K hK
          go_simp
          refine (HK2.out _ hHeld).mono ?_
          rintro e w1 ⟨v1, v2, rfl, hD, hb1, _, _⟩
          obtain ⟨a4, m4, k4, rfl⟩ := roomy_sl hD.room1
          obtain ⟨a5, m5, k5, rfl⟩ := roomy_sl hD.room2
          have hA1 : Below W1.heap.size W1 w1 := step_below1 hHeld hb1
          refine hK.out _ _ hA1 (fun hHeld => ?_)
          clear hK K
          try simp only [Act.put, List.setIfInBounds_toArray, List.set_cons_zero, List.set_cons_succ]
          refine wpAnyH_take (i := 6) (oi := ?oi6Aq) (v := ?v6Aq) ?hi6Aq ?hs6Aq ?hf6Aq ?hr6Aq ?hQ6Aq (Or.inl ⟨?hw6Aq, ?hy6Aq⟩) (by assumption) ?h6Aq
          case hi6Aq => (simp only [List.getElem?_toArray, List.getElem?_cons_succ, List.getElem?_cons_zero]; rfl)
          case hs6Aq => kernel_rfl
          case hf6Aq => kernel_rfl
          case hr6Aq => kernel_rfl
          case hw6Aq => rfl
          case hy6Aq => (intro w0 hSw; clear hSw; go_simp; first | done | with_reducible rfl)
          case hQ6Aq => exact fun _ _ _ h => h
          try simp only [Act.put, List.setIfInBounds_toArray, List.set_cons_zero, List.set_cons_succ]
          refine wpAnyH_take (i := 7) (oi := ?oi7Aq) (v := ?v7Aq) ?hi7Aq ?hs7Aq ?hf7Aq ?hr7Aq ?hQ7Aq (Or.inl ⟨?hw7Aq, ?hy7Aq⟩) (by assumption) ?h7Aq
          case hi7Aq => (simp only [List.getElem?_toArray, List.getElem?_cons_succ, List.getElem?_cons_zero]; rfl)
          case hs7Aq => kernel_rfl
          case hf7Aq => kernel_rfl
          case hr7Aq => kernel_rfl
          case hw7Aq => rfl
          case hy7Aq => (intro w0 hSw; clear hSw; go_simp; first | done | with_reducible rfl)
          case hQ7Aq => exact fun _ _ _ h => h
          try simp only [Act.put, List.setIfInBounds_toArray, List.set_cons_zero, List.set_cons_succ]
          refine wpAnyH_take (i := 8) (oi := ?oi8Aq) (v := ?v8Aq) ?hi8Aq ?hs8Aq ?hf8Aq ?hr8Aq ?hQ8Aq (Or.inl ⟨?hw8Aq, ?hy8Aq⟩) (by assumption) ?h8Aq
          case hi8Aq => (simp only [List.getElem?_toArray, List.getElem?_cons_succ, List.getElem?_cons_zero]; rfl)
          case hs8Aq => kernel_rfl
          case hf8Aq => kernel_rfl
          case hr8Aq => kernel_rfl
          case hw8Aq => rfl
          case hy8Aq => (intro w0 hSw; clear hSw; go_simp; first | done | with_reducible rfl)
          case hQ8Aq => exact fun _ _ _ h => h
          try simp only [Act.put, List.setIfInBounds_toArray, List.set_cons_zero, List.set_cons_succ]
          refine wpAnyH_ready (rs := [9]) (by kernel_rfl) (by simp) ?_
          refine AllReadyH.cons (o := ?o9Aq) ?hi9Aq ?step9Aq AllReadyH.nil
          case hi9Aq => (simp only [List.getElem?_toArray, List.getElem?_cons_succ, List.getElem?_cons_zero]; rfl)
          intro K hK
          go_simp
          refine hK.out _ _ (grew hHeld _) (fun hHeld => ?_)
          clear hK K
          try simp only [Act.put, List.setIfInBounds_toArray, List.set_cons_zero, List.set_cons_succ]
          refine wpAnyH_ready (rs := [10]) (by kernel_rfl) (by simp) ?_
          refine AllReadyH.cons (o := ?o10Aq) ?hi10Aq ?step10Aq AllReadyH.nil
          case hi10Aq => (simp only [List.getElem?_toArray, List.getElem?_cons_succ, List.getElem?_cons_zero]; rfl)
          intro K hK
          go_simp
          refine hK.out _ _ (grew hA1 _) (fun hHeld => ?_)
          clear hK K
          try simp only [Act.put, List.setIfInBounds_toArray, List.set_cons_zero, List.set_cons_succ]
          refine wpAnyH_ready (rs := [11]) (by kernel_rfl) (by simp) ?_
          refine AllReadyH.cons (o := ?o11Aq) ?hi11Aq ?step11Aq AllReadyH.nil
          case hi11Aq => (simp only [List.getElem?_toArray, List.getElem?_cons_succ, List.getElem?_cons_zero]; rfl)
          intro K hK
          go_simp
          refine hK.out _ _ (hHeld) (fun hHeld => ?_)
          clear hK K
          try simp only [Act.put, List.setIfInBounds_toArray, List.set_cons_zero, List.set_cons_succ]
          refine wpAnyH_done (by kernel_rfl) ?_ _
          go_wp2_with fail
          go_meet
          case rel => exact ⟨_, _, _, rfl, rfl, dbx_A hA1 hD⟩
        case step9pq =>
          intro K hK
          go_simp
          refine hK.out _ _ (grew hHeld _) (fun hHeld => ?_)
          clear hK K
          try simp only [Act.put, List.setIfInBounds_toArray, List.set_cons_zero, List.set_cons_succ]
          have hx1 : ((W1.alloc (boxD nilB nilB)).drew).heap[W1.heap.size]? = some (boxD nilB nilB) := heap_new W1 _
          refine wpAnyH_ready (rs := [5]) (by kernel_rfl) (by simp) ?_
          refine AllReadyH.cons (o := ?o5Bq) ?hi5Bq ?step5Bq AllReadyH.nil
          case hi5Bq => (simp only [List.getElem?_toArray, List.getElem?_cons_succ, List.getElem?_cons_zero]; rfl)
          intro K hK
          go_simp
          refine (HK2.out _ hHeld).mono ?_
          rintro e w1 ⟨v1, v2, rfl, hD, hb1, _, _⟩
          obtain ⟨a4, m4, k4, rfl⟩ := roomy_sl hD.room1
          obtain ⟨a5, m5, k5, rfl⟩ := roomy_sl hD.room2
          have hB1 : Below W1.heap.size W1 w1 := step_below1 hHeld hb1
          have hx2 := heap_below hx1 hb1 (heap_lt hx1)
          have c7 := fun i => Joins.cell_of_block hx2 i
          have f7 := fun i => Joins.unfrozen_of_block hx2 i
          refine hK.out _ _ hB1 (fun hHeld => ?_)
          clear hK K
          try simp only [Act.put, List.setIfInBounds_toArray, List.set_cons_zero, List.set_cons_succ]
          refine wpAnyH_take (i := 6) (oi := ?oi6Bq) (v := ?v6Bq) ?hi6Bq ?hs6Bq ?hf6Bq ?hr6Bq ?hQ6Bq (Or.inl ⟨?hw6Bq, ?hy6Bq⟩) (by assumption) ?h6Bq
          case hi6Bq => (simp only [List.getElem?_toArray, List.getElem?_cons_succ, List.getElem?_cons_zero]; rfl)
          case hs6Bq => kernel_rfl
          case hf6Bq => kernel_rfl
          case hr6Bq => kernel_rfl
          case hw6Bq => rfl
          case hy6Bq => (intro w0 hSw; clear hSw; go_simp; first | done | with_reducible rfl)
          case hQ6Bq => exact fun _ _ _ h => h
          try simp only [Act.put, List.setIfInBounds_toArray, List.set_cons_zero, List.set_cons_succ]
          refine wpAnyH_take (i := 7) (oi := ?oi7Bq) (v := ?v7Bq) ?hi7Bq ?hs7Bq ?hf7Bq ?hr7Bq ?hQ7Bq (Or.inl ⟨?hw7Bq, ?hy7Bq⟩) (by assumption) ?h7Bq
          case hi7Bq => (simp only [List.getElem?_toArray, List.getElem?_cons_succ, List.getElem?_cons_zero]; rfl)
          case hs7Bq => kernel_rfl
          case hf7Bq => kernel_rfl
          case hr7Bq => kernel_rfl
          case hw7Bq => rfl
          case hy7Bq => (intro w0 hSw; clear hSw; go_simp; first | done | with_reducible rfl)
          case hQ7Bq => exact fun _ _ _ h => h
          try simp only [Act.put, List.setIfInBounds_toArray, List.set_cons_zero, List.set_cons_succ]
          refine wpAnyH_take (i := 8) (oi := ?oi8Bq) (v := ?v8Bq) ?hi8Bq ?hs8Bq ?hf8Bq ?hr8Bq ?hQ8Bq (Or.inl ⟨?hw8Bq, ?hy8Bq⟩) (by assumption) ?h8Bq
          case hi8Bq => (simp only [List.getElem?_toArray, List.getElem?_cons_succ, List.getElem?_cons_zero]; rfl)
          case hs8Bq => kernel_rfl
          case hf8Bq => kernel_rfl
          case hr8Bq => kernel_rfl
          case hw8Bq => rfl
          case hy8Bq => (intro w0 hSw; clear hSw; go_simp; first | done | with_reducible rfl)
          case hQ8Bq => exact fun _ _ _ h => h
          try simp only [Act.put, List.setIfInBounds_toArray, List.set_cons_zero, List.set_cons_succ]
          refine wpAnyH_ready (rs := [10]) (by kernel_rfl) (by simp) ?_
          refine AllReadyH.cons (o := ?o10Bq) ?hi10Bq ?step10Bq AllReadyH.nil
          case hi10Bq => (simp only [List.getElem?_toArray, List.getElem?_cons_succ, List.getElem?_cons_zero]; rfl)
          intro K hK
          go_simp
          refine hK.out _ _ (below_two2 hHeld (Nat.le_refl _) _ _) (fun hHeld => ?_)
          clear hK K
          try simp only [Act.put, List.setIfInBounds_toArray, List.set_cons_zero, List.set_cons_succ]
          refine wpAnyH_ready (rs := [11]) (by kernel_rfl) (by simp) ?_
          refine AllReadyH.cons (o := ?o11Bq) ?hi11Bq ?step11Bq AllReadyH.nil
          case hi11Bq => (simp only [List.getElem?_toArray, List.getElem?_cons_succ, List.getElem?_cons_zero]; rfl)
          intro K hK
          go_simp
          refine hK.out _ _ (hHeld) (fun hHeld => ?_)
          clear hK K
          try simp only [Act.put, List.setIfInBounds_toArray, List.set_cons_zero, List.set_cons_succ]
          refine wpAnyH_done (by kernel_rfl) ?_ _
          go_wp2_with fail
          go_meet
          case rel => exact ⟨_, _, _, rfl, rfl, dbx_B hx2 hB1 hD (Nat.le_refl _)⟩
      case rest =>
        obtain ⟨b2, v4, v5, rfl, rfl, hD⟩ := hcut
        obtain ⟨a4, m4, k4, rfl⟩ := roomy_sl hD.disk.room1
        obtain ⟨a5, m5, k5, rfl⟩ := roomy_sl hD.disk.room2
        have HD2 : Aside (DBx W1 wc b2 D (.slice a4 m4 k4) (.slice a5 m5 k5)) := hD
        have HU2 : Aside (UBx W0 wc b1 U (.slice a3 m3 k3)) := HU1.out.later hD.below
        have HN2 : Aside (NAt wc g o NC ⟨⟨u, s, t, up⟩, (.slice a0 m0 k0), (.slice a1 m1 k1), (.slice a2 m2 k2)⟩) := HN1.out.later hD.below
        have HB2 : Aside (Below w.heap.size w wc) := HB1.out.trans (hD.below.mono HB1.out.size)
        have hl1 := heap_lt HU1.out.box
        have hne : b1 ≠ b2 := by have := hD.base; omega
        have hgo := heap_lt HN1.out.blk
        have hgb : g ≠ b2 := by have := hD.base; omega
        have HL : Aside (w.heap.size ≤ b2) := by have := hD.base; have := HB1.out.size; exact Nat.le_trans HB1.out.size hD.base
        clear hD HU1 HN1 HX1 HB1 HK2 hl1 hgo
        generalize wc = W2 at *
        rcases HC2.out with ⟨h0, h1⟩ | ⟨h0, HC1⟩
        · have hz : (d2 != 0) = true := by rw [bne_iff_ne]; exact h0
          subst h1
          clear h0 HC2 ks
          go_wp2
          go_ret
          exact ⟨rfl, W2, HB2.out, Or.inl ⟨rfl, rfl⟩⟩
        · have hz : (d2 != 0) = false := by rw [h0]; rfl
          have HC3 : Hid _ := HC1
          have hs := ks.out W2 _ _ HB2.out h0 HD2.out.disk
          clear h0 HC2 HC1 ks
          have z2 : ∀ i, W2.cell? ⟨b2, i, none⟩ = #[Value.slice a4 m4 k4, .slice a5 m5 k5][i]? := fun i => Joins.cell_of_block HD2.out.box i
          go_wp2_with fail
          refine hs.mono ?_
          rintro e w3 ⟨v6, v7, rfl, hE, hb3, _, _⟩
          obtain ⟨a6, m6, k6, rfl⟩ := roomy_sl hE.room1
          obtain ⟨a7, m7, k7, rfl⟩ := roomy_sl hE.room2
          have HD3 : Aside (w3.heap[b2]? = some (boxD (.slice a4 m4 k4) (.slice a5 m5 k5))) := (HD2.out.later hb3).box
          have HU3 : Aside (UBx W0 w3 b1 U (.slice a3 m3 k3)) := HU2.out.later hb3
          have HN3 : Aside (NAt w3 g o NC ⟨⟨u, s, t, up⟩, (.slice a0 m0 k0), (.slice a1 m1 k1), (.slice a2 m2 k2)⟩) := HN2.out.later hb3
          have HB3 : Aside (Below w.heap.size w w3) := step_below1 HB2.out hb3
          have HE3 : Aside (DiskR w3 (.slice a6 m6 k6) (.slice a7 m7 k7) E) := hE
          clear hs hE hb3 z2 HD2 HU2 HN2 HB2
          have z2 : ∀ i, w3.cell? ⟨b2, i, none⟩ = #[Value.slice a4 m4 k4, .slice a5 m5 k5][i]? := fun i => Joins.cell_of_block HD3.out i
          have f2 : ∀ i, w3.frozen? ⟨b2, i, none⟩ = false := fun i => Joins.unfrozen_of_block HD3.out i
          have HD4 : Aside (((w3.setCell ⟨b2, 0, none⟩ (.slice a6 m6 k6)).setCell ⟨b2, 1, none⟩ (.slice a7 m7 k7)).heap[b2]? = some (boxD (.slice a6 m6 k6) (.slice a7 m7 k7))) := stored_two HD3.out rfl _ _
          have HU4 : Aside (((w3.setCell ⟨b2, 0, none⟩ (.slice a6 m6 k6)).setCell ⟨b2, 1, none⟩ (.slice a7 m7 k7)).heap[b1]? = some (boxU U.p (.slice a3 m3 k3))) := other_two HU3.out.box hne _ _
          have HG4 : Aside (((w3.setCell ⟨b2, 0, none⟩ (.slice a6 m6 k6)).setCell ⟨b2, 1, none⟩ (.slice a7 m7 k7)).heap[g]? = some (.cells NC.toArray 49)) := other_two HN3.out.blk hgb _ _
          have HR4 : Aside (NodeT ((w3.setCell ⟨b2, 0, none⟩ (.slice a6 m6 k6)).setCell ⟨b2, 1, none⟩ (.slice a7 m7 k7)) ⟨⟨U, E.1, E.2, up⟩, .slice a3 m3 k3, .slice a6 m6 k6, .slice a7 m7 k7⟩) :=
            ⟨unit_box2 HU3.out.unit HD3.out _ _, disk_off2 HE3.out HD3.out (slnob _ _ _) (slnob _ _ _) (slnob _ _ _) _⟩
          have HB4 : Aside (Below w.heap.size w ((w3.setCell ⟨b2, 0, none⟩ (.slice a6 m6 k6)).setCell ⟨b2, 1, none⟩ (.slice a7 m7 k7))) := below_two2 HB3.out HL.out _ _
          have HP4 : Aside (∀ (i : Nat) (v : Value), (Nb.cells ⟨⟨u, s, t, up⟩, (.slice a0 m0 k0), (.slice a1 m1 k1), (.slice a2 m2 k2)⟩)[i]? = some v → NC[o + i]? = some v) := HN3.out.place
          go_upto_region 8 with fail
          clear z2 f2
          generalize (w3.setCell ⟨b2, 0, none⟩ (.slice a6 m6 k6)).setCell ⟨b2, 1, none⟩ (.slice a7 m7 k7) = W4 at *
          clear HD3 HU3 HN3 HB3 HE3 HL
          rcases HC3.out with ⟨h0, h1⟩ | ⟨h0, h1⟩
          · have hz : (d3 != 0) = true := by rw [bne_iff_ne]; exact h0
            subst h1
            clear h0 HC3
            go_wp2
            go_ret
            exact ⟨rfl, W4, HB4.out, Or.inl ⟨rfl, rfl⟩⟩
          · have hz : (d3 != 0) = false := by rw [h0]; rfl
            subst h1
            clear h0 HC3
            have z1 : ∀ i, W4.cell? ⟨b1, i, none⟩ = #[Value.int .i64 U.p, .slice a3 m3 k3][i]? := fun i => Joins.cell_of_block HU4.out i
            have z2 : ∀ i, W4.cell? ⟨b2, i, none⟩ = #[Value.slice a6 m6 k6, .slice a7 m7 k7][i]? := fun i => Joins.cell_of_block HD4.out i
            have yz : ∀ (i : Nat) (v : Value), (Nb.cells ⟨⟨u, s, t, up⟩, (.slice a0 m0 k0), (.slice a1 m1 k1), (.slice a2 m2 k2)⟩)[i]? = some v → W4.cell? ⟨g, o + i, none⟩ = some v := fun i v hv => by
              rw [Joins.cell_of_block HG4.out]
              simpa using HP4.out i v hv
            have y0 := yz 0 _ rfl
            have y1 := yz 1 _ rfl
            have y2 := yz 2 _ rfl
            have y3 := yz 3 _ rfl
            simp only [Nat.add_zero] at y0
            have fz : ∀ i, W4.frozen? ⟨g, i, none⟩ = false := fun i => Joins.unfrozen_of_block HG4.out i
            clear yz
            go_upto_region 10 with fail
            go_region
            go_wp2
            go_ret
            exact ⟨rfl, W4.drew, HB4.out.drew, Or.inr ⟨_, HR4.out.later (Below.refl _ _).drew, rfl, rfl⟩⟩
/-- Package world's write. -/
theorem w_write {w : World} {g o : Nat} {NC : List Value} {x : Nb} (hL : Laid w) (h : NAt w g o NC x) (hn1 : x.n.s.length ≤ topLen) (hn2 : x.n.w.length ≤ topLen) (r : Rc) :
    Calls Tryz.prog 102 #[.pointer (some ⟨g, o, none⟩), r.val] w fun e w' => e = .returned (.int .i64 (x.n.write r).2) ∧ Post st4 w w' g o x (x.n.write r).1 := by
  obtain ⟨⟨u, s, t, up⟩, vc, vs, vw⟩ := x
  obtain ⟨a0, m0, k0, rfl⟩ := roomy_sl h.rows.unit.room
  obtain ⟨a1, m1, k1, rfl⟩ := roomy_sl h.rows.disk.room1
  obtain ⟨a2, m2, k2, rfl⟩ := roomy_sl h.rows.disk.room2
  exact w_write_at u s t up a0 a1 a2 m0 k0 m1 k1 m2 k2 hL h hn1 hn2 r
end Go.Proofs.YtmoaobfmopimlafGreatDoor
namespace Go.Proofs.YtmoaobfmopimlafGreatDoor
open Go.RowKit
theorem Post.from {st : World → Nat → Nat → Nb → World} {w W w' : World} {g o : Nat} {x : Nb} {n' : Nd} (hb : Below w.heap.size w W) (h : Post st W w' g o x n') : Post st w w' g o x n' := by
  obtain ⟨w1, h1, h2⟩ := h
  exact ⟨w1, step_below1 hb h1, h2⟩
theorem none_same {r : Rc} (hr : r = Rc.zero ∨ r.k = 1) : (r.same Rc.zero = true ∧ r.k = 0) ∨ (r.same Rc.zero = false ∧ r.k ≠ 0) := by
  rcases hr with rfl | h
  · exact Or.inl ⟨by decide, rfl⟩
  · refine Or.inr ⟨?_, by omega⟩
    unfold Rc.same
    rw [decide_eq_false (fun hh => by have := hh.1; rw [h] at this; cases this)]
    rfl
set_option maxHeartbeats 4000000 in
set_option maxRecDepth 100000 in
/-- Package world's writeAny. -/
theorem w_writeAny {w : World} {g o : Nat} {NC : List Value} {x : Nb} (hL : Laid w) (h : NAt w g o NC x) (hn1 : x.n.s.length ≤ topLen) (hn2 : x.n.w.length ≤ topLen) {r : Rc} (hr : r = Rc.zero ∨ r.k = 1) :
    Calls Tryz.prog 108 #[.pointer (some ⟨g, o, none⟩), r.val] w fun e w' => e = .returned (.int .i64 (x.n.writeAny r).2) ∧ Post st4 w w' g o x (x.n.writeAny r).1 := by
  have hB0 : Below w.heap.size w (w.alloc (boxRc r)) := grew (Below.refl _ _) _
  have HB0 : Aside (Below w.heap.size w (w.alloc (boxRc r))) := hB0
  have HX0 : Aside ((w.alloc (boxRc r)).heap[w.heap.size]? = some (boxRc r)) := heap_new _ _
  have hno := w_isNone r (w.alloc (boxRc r))
  have kw : Aside (∀ W, Below w.heap.size w W → Calls Tryz.prog 102 #[.pointer (some ⟨g, o, none⟩), r.val] W fun e w' => e = .returned (.int .i64 (x.n.write r).2) ∧ Post st4 W w' g o x (x.n.write r).1) := fun W hb => w_write (hL.later hb) (h.later hb) hn1 hn2 r
  have hway := none_same hr
  clear hL h hn1 hn2 hr hB0
  rcases hway with ⟨hs, hk⟩ | ⟨hs, hk⟩
  · rw [hs] at hno
    rw [show x.n.writeAny r = (x.n, 0) by rw [Nd.writeAny, if_pos hk]]
    clear kw hs hk
    go_enter Tryz.func108, Tryz.ntmps108
    go_upto_region 1 with fail
    generalize w.alloc (boxRc r) = W0 at *
    have z : ∀ i, W0.cell? ⟨w.heap.size, i, none⟩ = #[Value.int .i64 r.k, .int .i64 r.a, .int .i64 r.p, .int .i64 r.e.k, .int .i64 r.e.j, .int .i64 r.e.v, .int .i64 r.e.t, .int .i64 r.e.c][i]? := fun i => Joins.cell_of_block HX0.out i
    go_wp2_with fail
    refine hno.mono ?_
    rintro e w1 ⟨rfl, hb1⟩
    have HB1 : Aside (Below w.heap.size w w1) := step_below1 HB0.out hb1
    clear z hno hb1 HB0 HX0
    go_wp2
    go_ret
    exact ⟨rfl, w1, HB1.out, Or.inl ⟨rfl, rfl⟩⟩
  · rw [hs] at hno
    rw [show x.n.writeAny r = x.n.write r by rw [Nd.writeAny, if_neg hk]]
    obtain ⟨rr, HRR⟩ : ∃ rr, Hid (x.n.write r = rr) := ⟨_, rfl⟩
    rw [HRR.out] at kw ⊢
    clear hs hk HRR
    go_enter Tryz.func108, Tryz.ntmps108
    go_upto_region 1 with fail
    generalize w.alloc (boxRc r) = W0 at *
    have z : ∀ i, W0.cell? ⟨w.heap.size, i, none⟩ = #[Value.int .i64 r.k, .int .i64 r.a, .int .i64 r.p, .int .i64 r.e.k, .int .i64 r.e.j, .int .i64 r.e.v, .int .i64 r.e.t, .int .i64 r.e.c][i]? := fun i => Joins.cell_of_block HX0.out i
    go_wp2_with fail
    refine hno.mono ?_
    rintro e w1 ⟨rfl, hb1⟩
    have HB1 : Aside (Below w.heap.size w w1) := step_below1 HB0.out hb1
    have HX1 : Aside (w1.heap[w.heap.size]? = some (boxRc r)) := heap_below HX0.out hb1 (heap_lt HX0.out)
    clear z hno hb1 HB0 HX0
    have z : ∀ i, w1.cell? ⟨w.heap.size, i, none⟩ = #[Value.int .i64 r.k, .int .i64 r.a, .int .i64 r.p, .int .i64 r.e.k, .int .i64 r.e.j, .int .i64 r.e.v, .int .i64 r.e.t, .int .i64 r.e.c][i]? := fun i => Joins.cell_of_block HX1.out i
    go_wp2_with fail
    refine (kw.out _ HB1.out).mono ?_
    rintro e w2 ⟨rfl, hp⟩
    have HP : Aside (Post st4 w w2 g o x rr.1) := hp.from HB1.out
    clear hp kw z HX1 HB1
    go_wp2
    go_ret
    exact ⟨rfl, HP.out⟩
theorem crash_put {s t : List UInt8} {c : Rc} (h : (dput s t c).2 = 0) {m : Int} (h0 : 0 ≤ m) (h1 : m ≤ (dput s t c).1.2.length) : dcrash (dput s t c).1.1 (dput s t c).1.2 m = (((dput s t c).1.1, (dput s t c).1.2.take m.toNat), 0) := by
  have hk : ckDisk (dput s t c).1.1 (dput s t c).1.2 = 0 := by
    clear h0 h1
    unfold dput at h ⊢
    by_cases h1 : ckDisk s t = 0
    · rw [if_neg (not_not_intro h1)] at h ⊢
      have hl := ckDisk_zero.1 h1
      unfold putOn at h ⊢
      by_cases h2 : c.chk = 0
      · rw [if_neg (not_not_intro h2)] at h ⊢
        by_cases h3 : 30000 < s.length + t.length + c.txt.length + 1
        · rw [if_pos h3] at h; cases h
        · rw [if_neg h3]
          refine ckDisk_zero.2 ⟨?_, hl.2⟩
          show s.length + (t ++ (c.txt ++ [10])).length ≤ _
          simp; omega
      · rw [if_pos h2] at h; exact absurd h h2
    · rw [if_pos h1] at h; exact absurd h h1
  rw [dcrash, if_neg (not_not_intro hk), if_neg (by omega)]
theorem kept_int (k : Int) (n : Nat) : 0 ≤ min (max k 0) (n : Int) ∧ min (max k 0) (n : Int) ≤ n ∧ (min (max k 0) (n : Int)).toNat = keptOf k n := by
  unfold keptOf
  omega
theorem tear_ways (n : Nd) {r : Rc} (k : Int) (D : Dk) (d2 : Int) (q2 : dput n.s n.w r = (D, d2)) (hk : r.k ≠ 0) :
    (d2 ≠ 0 ∧ n.tear r k = (n, d2)) ∨ (d2 = 0 ∧ n.tear r k = (⟨n.u, D.1, D.2.take (keptOf k D.2.length), false⟩, 0) ∧ dcrash D.1 D.2 (min (max k 0) (D.2.length : Int)) = ((D.1, D.2.take (keptOf k D.2.length)), 0)) := by
  unfold Nd.tear
  rw [if_neg hk, q2]
  by_cases h2 : d2 = 0
  · refine Or.inr ⟨h2, by rw [if_neg (not_not_intro h2)], ?_⟩
    obtain ⟨g1, g2, g3⟩ := kept_int k D.2.length
    have := crash_put (s := n.s) (t := n.w) (c := r) (by rw [q2]; exact h2) g1 (by rw [q2]; exact g2)
    rw [q2, g3] at this
    exact this
  · exact Or.inl ⟨h2, by rw [if_pos h2]⟩
set_option linter.unusedSimpArgs false in
set_option maxHeartbeats 8000000 in
set_option maxRecDepth 100000 in
theorem w_tear_at {w : World} {g o : Nat} {NC : List Value} (u : Un) (s t : List UInt8) (up : Bool) (a0 a1 a2 : Option Addr) (m0 k0 m1 k1 m2 k2 : Nat) (hL : Laid w) (h : NAt w g o NC ⟨⟨u, s, t, up⟩, (.slice a0 m0 k0), (.slice a1 m1 k1), (.slice a2 m2 k2)⟩) (hn1 : s.length ≤ topLen) (hn2 : t.length ≤ topLen) (r : Rc) (hs : r.same Rc.zero = false) (hk : r.k ≠ 0) (kk : Int) :
    Calls Tryz.prog 107 #[.pointer (some ⟨g, o, none⟩), r.val, .int .i64 kk] w fun e w' => e = .returned (.int .i64 (Nd.tear ⟨u, s, t, up⟩ r kk).2) ∧ Post3 w w' g o ⟨⟨u, s, t, up⟩, (.slice a0 m0 k0), (.slice a1 m1 k1), (.slice a2 m2 k2)⟩ (Nd.tear ⟨u, s, t, up⟩ r kk).1 := by
  obtain ⟨⟨D, d2⟩, q2⟩ : ∃ q, dput s t r = q := ⟨_, rfl⟩
  have hw := tear_ways ⟨u, s, t, up⟩ kk D d2 q2 hk
  obtain ⟨T, hT⟩ : ∃ T, Hid (D.2.take (keptOf kk D.2.length) = T) := ⟨_, rfl⟩
  rw [hT.out] at hw
  have kp : Aside (∀ W, Below w.heap.size w W → AnsR 129 (.slice a1 m1 k1) (.slice a2 m2 k2) #[.agg #[(.slice a1 m1 k1), (.slice a2 m2 k2)], r.val] W (D, d2)) := fun W hb => by
    have := diskPut_any (.slice a1 m1 k1) (.slice a2 m2 k2) (s, t) r W (hL.later hb) (h.rows.disk.later hb) hn1 hn2
    rwa [q2] at this
  have hfit : d2 = 0 → D.1.length ≤ topLen ∧ D.2.length ≤ topLen := fun h0 => by
    have := dput_fit (s := s) (t := t) (c := r) (by rw [q2]; exact h0)
    rwa [q2] at this
  have ks : Aside (∀ W v1 v2 m, Below w.heap.size w W → d2 = 0 → DiskR W v1 v2 D → AnsR 135 v1 v2 #[.agg #[v1, v2], .int .i64 m] W (dcrash D.1 D.2 m)) := fun W v1 v2 m hb h0 hD =>
    diskCrash_any v1 v2 D m W (hL.later hb) hD (hfit h0).1 (hfit h0).2
  have hno := w_isNone r (w.alloc (boxRc r))
  rw [hs] at hno
  obtain ⟨rr, HRR⟩ : ∃ rr, Hid (Nd.tear ⟨u, s, t, up⟩ r kk = rr) := ⟨_, rfl⟩
  rw [HRR.out] at hw ⊢
  have HC : Hid _ := hw
  have HN0 : Aside (NAt (w.alloc (boxRc r)) g o NC ⟨⟨u, s, t, up⟩, (.slice a0 m0 k0), (.slice a1 m1 k1), (.slice a2 m2 k2)⟩) := h.later (grew (Below.refl _ _) _)
  have HX0 : Aside ((w.alloc (boxRc r)).heap[w.heap.size]? = some (boxRc r)) := heap_new _ _
  have HB0 : Aside (Below w.heap.size w (w.alloc (boxRc r))) := grew (Below.refl _ _) _
  clear hL h hn1 hn2 q2 hfit hw HRR hs hk
  go_enter Tryz.func107, Tryz.ntmps107
  go_upto_region 1 with fail
  generalize w.alloc (boxRc r) = W0 at *
  have z : ∀ i, W0.cell? ⟨w.heap.size, i, none⟩ = #[Value.int .i64 r.k, .int .i64 r.a, .int .i64 r.p, .int .i64 r.e.k, .int .i64 r.e.j, .int .i64 r.e.v, .int .i64 r.e.t, .int .i64 r.e.c][i]? := fun i => Joins.cell_of_block HX0.out i
  go_wp2_with fail
  refine hno.mono ?_
  rintro e W1 ⟨rfl, hb1⟩
  have HN1 : Aside (NAt W1 g o NC ⟨⟨u, s, t, up⟩, (.slice a0 m0 k0), (.slice a1 m1 k1), (.slice a2 m2 k2)⟩) := HN0.out.later hb1
  have HB1 : Aside (Below w.heap.size w W1) := step_below1 HB0.out hb1
  have HX1 : Aside (W1.heap[w.heap.size]? = some (boxRc r)) := heap_below HX0.out hb1 (heap_lt HX0.out)
  clear z hno hb1 HB0 HX0 HN0
  have HK2 : Aside (∀ W, Below W1.heap.size W1 W → AnsR 129 (.slice a1 m1 k1) (.slice a2 m2 k2) #[.agg #[(.slice a1 m1 k1), (.slice a2 m2 k2)], r.val] W (D, d2)) := fun W hb => kp.out W (HB1.out.trans (hb.mono HB1.out.size))
  clear kp
  go_upto_region 3 with fail
  go_cut [7, 8] from 11 to 19 (fun s7 s8 wx => ∃ (b : Nat) (v1 v2 : Value), s7 = .pointer (some ⟨b, 0, none⟩) ∧ s8 = .int .i64 d2 ∧ DBx W1 wx b D v1 v2)
  case first =>
    refine wp_region_held_drew (S := fun W' => Below W1.heap.size W1 W') (by kernel_rfl) ((Below.refl _ _).drew) (fun hHeld => ?_)
    refine wpAnyH_take (i := 0) (oi := ?oi0) (v := ?v0) ?hi0 ?hs0 ?hf0 ?hr0 ?hQ0 (Or.inl ⟨?hw0, ?hy0⟩) (by assumption) ?h0
    case hi0 => (simp only [List.getElem?_toArray, List.getElem?_cons_succ, List.getElem?_cons_zero]; rfl)
    case hs0 => kernel_rfl
    case hf0 => kernel_rfl
    case hr0 => kernel_rfl
    case hw0 => rfl
    case hy0 => (intro w0 hSw; clear hSw; go_simp; first | done | with_reducible rfl)
    case hQ0 => exact fun _ _ _ h => h
    try simp only [Act.put, List.setIfInBounds_toArray, List.set_cons_zero, List.set_cons_succ]
    refine wpAnyH_take (i := 1) (oi := ?oi1) (v := ?v1) ?hi1 ?hs1 ?hf1 ?hr1 ?hQ1 (Or.inl ⟨?hw1, ?hy1⟩) (by assumption) ?h1
    case hi1 => (simp only [List.getElem?_toArray, List.getElem?_cons_succ, List.getElem?_cons_zero]; rfl)
    case hs1 => kernel_rfl
    case hf1 => kernel_rfl
    case hr1 => kernel_rfl
    case hw1 => rfl
    case hy1 => (intro w0 hSw; clear hSw; go_simp; first | done | with_reducible rfl)
    case hQ1 => exact fun _ _ _ h => h
    try simp only [Act.put, List.setIfInBounds_toArray, List.set_cons_zero, List.set_cons_succ]
    refine wpAnyH_take (i := 2) (oi := ?oi2) (v := ?v2) ?hi2 ?hs2 ?hf2 ?hr2 ?hQ2 (Or.inl ⟨?hw2, ?hy2⟩) (by assumption) ?h2
    case hi2 => (simp only [List.getElem?_toArray, List.getElem?_cons_succ, List.getElem?_cons_zero]; rfl)
    case hs2 => kernel_rfl
    case hf2 => kernel_rfl
    case hr2 => kernel_rfl
    case hw2 => rfl
    case hy2 => (intro w0 hSw; clear hSw; go_simp; first | done | with_reducible rfl)
    case hQ2 => exact fun _ _ _ h => h
    try simp only [Act.put, List.setIfInBounds_toArray, List.set_cons_zero, List.set_cons_succ]
    refine wpAnyH_take (i := 3) (oi := ?oi3) (v := ?v3) ?hi3 ?hs3 ?hf3 ?hr3 ?hQ3 (Or.inl ⟨?hw3, ?hy3⟩) (by assumption) ?h3
    case hi3 => (simp only [List.getElem?_toArray, List.getElem?_cons_succ, List.getElem?_cons_zero]; rfl)
    case hs3 => kernel_rfl
    case hf3 => kernel_rfl
    case hr3 => kernel_rfl
    case hw3 => rfl
    case hy3 => (intro w0 hSw; have y2 := (HN1.out.later hSw).cell (i := 2) rfl; have y3 := (HN1.out.later hSw).cell (i := 3) rfl; clear hSw; go_simp; first | done | with_reducible rfl)
    case hQ3 => exact fun _ _ _ h => h
    try simp only [Act.put, List.setIfInBounds_toArray, List.set_cons_zero, List.set_cons_succ]
    refine wpAnyH_take (i := 4) (oi := ?oi4) (v := ?v4) ?hi4 ?hs4 ?hf4 ?hr4 ?hQ4 (Or.inl ⟨?hw4, ?hy4⟩) (by assumption) ?h4
    case hi4 => (simp only [List.getElem?_toArray, List.getElem?_cons_succ, List.getElem?_cons_zero]; rfl)
    case hs4 => kernel_rfl
    case hf4 => kernel_rfl
    case hr4 => kernel_rfl
    case hw4 => rfl
    case hy4 => (intro w0 hSw; have z := (show ∀ i, w0.cell? ⟨w.heap.size, i, none⟩ = #[Value.int .i64 r.k, .int .i64 r.a, .int .i64 r.p, .int .i64 r.e.k, .int .i64 r.e.j, .int .i64 r.e.v, .int .i64 r.e.t, .int .i64 r.e.c][i]? from fun i => Joins.cell_of_block (heap_below HX1.out hSw (heap_lt HX1.out)) i); clear hSw; go_simp; first | done | with_reducible rfl)
    case hQ4 => exact fun _ _ _ h => h
    try simp only [Act.put, List.setIfInBounds_toArray, List.set_cons_zero, List.set_cons_succ]
    refine wpAnyH_ready (rs := [5, 9]) (by kernel_rfl) (by simp) ?_
    refine AllReadyH.cons (o := ?o5p) ?hi5p ?step5p (AllReadyH.cons (o := ?o9p) ?hi9p ?step9p AllReadyH.nil)
    case hi5p => (simp only [List.getElem?_toArray, List.getElem?_cons_succ, List.getElem?_cons_zero]; rfl)
    case hi9p => (simp only [List.getElem?_toArray, List.getElem?_cons_succ, List.getElem?_cons_zero]; rfl)
    case step5p =>
      intro K hK
      go_simp
      refine (HK2.out _ hHeld).mono ?_
      rintro e w1 ⟨v1, v2, rfl, hD, hb1, _, _⟩
      obtain ⟨a4, m4, k4, rfl⟩ := roomy_sl hD.room1
      obtain ⟨a5, m5, k5, rfl⟩ := roomy_sl hD.room2
      have hA1 : Below W1.heap.size W1 w1 := step_below1 hHeld hb1
      refine hK.out _ _ hA1 (fun hHeld => ?_)
      clear hK K
      try simp only [Act.put, List.setIfInBounds_toArray, List.set_cons_zero, List.set_cons_succ]
      refine wpAnyH_take (i := 6) (oi := ?oi6A) (v := ?v6A) ?hi6A ?hs6A ?hf6A ?hr6A ?hQ6A (Or.inl ⟨?hw6A, ?hy6A⟩) (by assumption) ?h6A
      case hi6A => (simp only [List.getElem?_toArray, List.getElem?_cons_succ, List.getElem?_cons_zero]; rfl)
      case hs6A => kernel_rfl
      case hf6A => kernel_rfl
      case hr6A => kernel_rfl
      case hw6A => rfl
      case hy6A => (intro w0 hSw; clear hSw; go_simp; first | done | with_reducible rfl)
      case hQ6A => exact fun _ _ _ h => h
      try simp only [Act.put, List.setIfInBounds_toArray, List.set_cons_zero, List.set_cons_succ]
      refine wpAnyH_take (i := 7) (oi := ?oi7A) (v := ?v7A) ?hi7A ?hs7A ?hf7A ?hr7A ?hQ7A (Or.inl ⟨?hw7A, ?hy7A⟩) (by assumption) ?h7A
      case hi7A => (simp only [List.getElem?_toArray, List.getElem?_cons_succ, List.getElem?_cons_zero]; rfl)
      case hs7A => kernel_rfl
      case hf7A => kernel_rfl
      case hr7A => kernel_rfl
      case hw7A => rfl
      case hy7A => (intro w0 hSw; clear hSw; go_simp; first | done | with_reducible rfl)
      case hQ7A => exact fun _ _ _ h => h
      try simp only [Act.put, List.setIfInBounds_toArray, List.set_cons_zero, List.set_cons_succ]
      refine wpAnyH_take (i := 8) (oi := ?oi8A) (v := ?v8A) ?hi8A ?hs8A ?hf8A ?hr8A ?hQ8A (Or.inl ⟨?hw8A, ?hy8A⟩) (by assumption) ?h8A
      case hi8A => (simp only [List.getElem?_toArray, List.getElem?_cons_succ, List.getElem?_cons_zero]; rfl)
      case hs8A => kernel_rfl
      case hf8A => kernel_rfl
      case hr8A => kernel_rfl
      case hw8A => rfl
      case hy8A => (intro w0 hSw; clear hSw; go_simp; first | done | with_reducible rfl)
      case hQ8A => exact fun _ _ _ h => h
      try simp only [Act.put, List.setIfInBounds_toArray, List.set_cons_zero, List.set_cons_succ]
      refine wpAnyH_ready (rs := [9]) (by kernel_rfl) (by simp) ?_
      refine AllReadyH.cons (o := ?o9A) ?hi9A ?step9A AllReadyH.nil
      case hi9A => (simp only [List.getElem?_toArray, List.getElem?_cons_succ, List.getElem?_cons_zero]; rfl)
      intro K hK
      go_simp
      refine hK.out _ _ (grew hHeld _) (fun hHeld => ?_)
      clear hK K
      try simp only [Act.put, List.setIfInBounds_toArray, List.set_cons_zero, List.set_cons_succ]
      refine wpAnyH_ready (rs := [10]) (by kernel_rfl) (by simp) ?_
      refine AllReadyH.cons (o := ?o10A) ?hi10A ?step10A AllReadyH.nil
      case hi10A => (simp only [List.getElem?_toArray, List.getElem?_cons_succ, List.getElem?_cons_zero]; rfl)
      intro K hK
      go_simp
      refine hK.out _ _ (grew hA1 _) (fun hHeld => ?_)
      clear hK K
      try simp only [Act.put, List.setIfInBounds_toArray, List.set_cons_zero, List.set_cons_succ]
      refine wpAnyH_ready (rs := [11]) (by kernel_rfl) (by simp) ?_
      refine AllReadyH.cons (o := ?o11A) ?hi11A ?step11A AllReadyH.nil
      case hi11A => (simp only [List.getElem?_toArray, List.getElem?_cons_succ, List.getElem?_cons_zero]; rfl)
      intro K hK
      go_simp
      refine hK.out _ _ (hHeld) (fun hHeld => ?_)
      clear hK K
      try simp only [Act.put, List.setIfInBounds_toArray, List.set_cons_zero, List.set_cons_succ]
      refine wpAnyH_done (by kernel_rfl) ?_ _
      go_wp2_with fail
      go_meet
      case rel => exact ⟨_, _, _, rfl, rfl, dbx_A hA1 hD⟩
    case step9p =>
      intro K hK
      go_simp
      refine hK.out _ _ (grew hHeld _) (fun hHeld => ?_)
      clear hK K
      try simp only [Act.put, List.setIfInBounds_toArray, List.set_cons_zero, List.set_cons_succ]
      have hx1 : ((W1.alloc (boxD nilB nilB)).drew).heap[W1.heap.size]? = some (boxD nilB nilB) := heap_new W1 _
      refine wpAnyH_ready (rs := [5]) (by kernel_rfl) (by simp) ?_
      refine AllReadyH.cons (o := ?o5B) ?hi5B ?step5B AllReadyH.nil
      case hi5B => (simp only [List.getElem?_toArray, List.getElem?_cons_succ, List.getElem?_cons_zero]; rfl)
      intro K hK
      go_simp
      refine (HK2.out _ hHeld).mono ?_
      rintro e w1 ⟨v1, v2, rfl, hD, hb1, _, _⟩
      obtain ⟨a4, m4, k4, rfl⟩ := roomy_sl hD.room1
      obtain ⟨a5, m5, k5, rfl⟩ := roomy_sl hD.room2
      have hB1 : Below W1.heap.size W1 w1 := step_below1 hHeld hb1
      have hx2 := heap_below hx1 hb1 (heap_lt hx1)
      have c7 := fun i => Joins.cell_of_block hx2 i
      have f7 := fun i => Joins.unfrozen_of_block hx2 i
      refine hK.out _ _ hB1 (fun hHeld => ?_)
      clear hK K
      try simp only [Act.put, List.setIfInBounds_toArray, List.set_cons_zero, List.set_cons_succ]
      refine wpAnyH_take (i := 6) (oi := ?oi6B) (v := ?v6B) ?hi6B ?hs6B ?hf6B ?hr6B ?hQ6B (Or.inl ⟨?hw6B, ?hy6B⟩) (by assumption) ?h6B
      case hi6B => (simp only [List.getElem?_toArray, List.getElem?_cons_succ, List.getElem?_cons_zero]; rfl)
      case hs6B => kernel_rfl
      case hf6B => kernel_rfl
      case hr6B => kernel_rfl
      case hw6B => rfl
      case hy6B => (intro w0 hSw; clear hSw; go_simp; first | done | with_reducible rfl)
      case hQ6B => exact fun _ _ _ h => h
      try simp only [Act.put, List.setIfInBounds_toArray, List.set_cons_zero, List.set_cons_succ]
      refine wpAnyH_take (i := 7) (oi := ?oi7B) (v := ?v7B) ?hi7B ?hs7B ?hf7B ?hr7B ?hQ7B (Or.inl ⟨?hw7B, ?hy7B⟩) (by assumption) ?h7B
      case hi7B => (simp only [List.getElem?_toArray, List.getElem?_cons_succ, List.getElem?_cons_zero]; rfl)
      case hs7B => kernel_rfl
      case hf7B => kernel_rfl
      case hr7B => kernel_rfl
      case hw7B => rfl
      case hy7B => (intro w0 hSw; clear hSw; go_simp; first | done | with_reducible rfl)
      case hQ7B => exact fun _ _ _ h => h
      try simp only [Act.put, List.setIfInBounds_toArray, List.set_cons_zero, List.set_cons_succ]
      refine wpAnyH_take (i := 8) (oi := ?oi8B) (v := ?v8B) ?hi8B ?hs8B ?hf8B ?hr8B ?hQ8B (Or.inl ⟨?hw8B, ?hy8B⟩) (by assumption) ?h8B
      case hi8B => (simp only [List.getElem?_toArray, List.getElem?_cons_succ, List.getElem?_cons_zero]; rfl)
      case hs8B => kernel_rfl
      case hf8B => kernel_rfl
      case hr8B => kernel_rfl
      case hw8B => rfl
      case hy8B => (intro w0 hSw; clear hSw; go_simp; first | done | with_reducible rfl)
      case hQ8B => exact fun _ _ _ h => h
      try simp only [Act.put, List.setIfInBounds_toArray, List.set_cons_zero, List.set_cons_succ]
      refine wpAnyH_ready (rs := [10]) (by kernel_rfl) (by simp) ?_
      refine AllReadyH.cons (o := ?o10B) ?hi10B ?step10B AllReadyH.nil
      case hi10B => (simp only [List.getElem?_toArray, List.getElem?_cons_succ, List.getElem?_cons_zero]; rfl)
      intro K hK
      go_simp
      refine hK.out _ _ (below_two2 hHeld (Nat.le_refl _) _ _) (fun hHeld => ?_)
      clear hK K
      try simp only [Act.put, List.setIfInBounds_toArray, List.set_cons_zero, List.set_cons_succ]
      refine wpAnyH_ready (rs := [11]) (by kernel_rfl) (by simp) ?_
      refine AllReadyH.cons (o := ?o11B) ?hi11B ?step11B AllReadyH.nil
      case hi11B => (simp only [List.getElem?_toArray, List.getElem?_cons_succ, List.getElem?_cons_zero]; rfl)
      intro K hK
      go_simp
      refine hK.out _ _ (hHeld) (fun hHeld => ?_)
      clear hK K
      try simp only [Act.put, List.setIfInBounds_toArray, List.set_cons_zero, List.set_cons_succ]
      refine wpAnyH_done (by kernel_rfl) ?_ _
      go_wp2_with fail
      go_meet
      case rel => exact ⟨_, _, _, rfl, rfl, dbx_B hx2 hB1 hD (Nat.le_refl _)⟩
  case rest =>
    obtain ⟨b2, v4, v5, rfl, rfl, hD⟩ := hcut
    obtain ⟨a4, m4, k4, rfl⟩ := roomy_sl hD.disk.room1
    obtain ⟨a5, m5, k5, rfl⟩ := roomy_sl hD.disk.room2
    have hm5 : D.2.length = m5 := SlOf.len (cs := bt) (k := 1) hD.disk.wait
    have HD2 : Aside (DBx W1 wc b2 D (.slice a4 m4 k4) (.slice a5 m5 k5)) := hD
    have HN2 : Aside (NAt wc g o NC ⟨⟨u, s, t, up⟩, (.slice a0 m0 k0), (.slice a1 m1 k1), (.slice a2 m2 k2)⟩) := HN1.out.later hD.below
    have HB2 : Aside (Below w.heap.size w wc) := HB1.out.trans (hD.below.mono HB1.out.size)
    have hgo := heap_lt HN1.out.blk
    have hgb : g ≠ b2 := by have := hD.base; omega
    have HL : Aside (w.heap.size ≤ b2) := Nat.le_trans HB1.out.size hD.base
    clear hD HN1 HX1 HB1 HK2 hgo
    generalize wc = W2 at *
    rcases HC.out with ⟨h0, h1⟩ | ⟨h0, h1, h3⟩
    · have hz : (d2 != 0) = true := by rw [bne_iff_ne]; exact h0
      subst h1
      clear h0 HC ks hm5
      go_wp2
      go_ret
      exact ⟨rfl, W2, HB2.out, Or.inl ⟨rfl, rfl⟩⟩
    · have hz : (d2 != 0) = false := by rw [h0]; rfl
      subst h1
      rw [hm5] at h3
      have hs := ks.out W2 _ _ (min (max kk 0) (m5 : Int)) HB2.out h0 HD2.out.disk
      rw [h3] at hs
      clear h0 HC h3 ks hm5 hT
      have z2 : ∀ i, W2.cell? ⟨b2, i, none⟩ = #[Value.slice a4 m4 k4, .slice a5 m5 k5][i]? := fun i => Joins.cell_of_block HD2.out.box i
      go_wp2_with fail
      refine hs.mono ?_
      rintro e w3 ⟨v6, v7, rfl, hE, hb3, _, _⟩
      obtain ⟨a6, m6, k6, rfl⟩ := roomy_sl hE.room1
      obtain ⟨a7, m7, k7, rfl⟩ := roomy_sl hE.room2
      have HD3 : Aside (w3.heap[b2]? = some (boxD (.slice a4 m4 k4) (.slice a5 m5 k5))) := (HD2.out.later hb3).box
      have HN3 : Aside (NAt w3 g o NC ⟨⟨u, s, t, up⟩, (.slice a0 m0 k0), (.slice a1 m1 k1), (.slice a2 m2 k2)⟩) := HN2.out.later hb3
      have HB3 : Aside (Below w.heap.size w w3) := step_below1 HB2.out hb3
      have HE3 : Aside (DiskR w3 (.slice a6 m6 k6) (.slice a7 m7 k7) (D.1, T)) := hE
      clear hs hE hb3 z2 HD2 HN2 HB2
      have z2 : ∀ i, w3.cell? ⟨b2, i, none⟩ = #[Value.slice a4 m4 k4, .slice a5 m5 k5][i]? := fun i => Joins.cell_of_block HD3.out i
      have f2 : ∀ i, w3.frozen? ⟨b2, i, none⟩ = false := fun i => Joins.unfrozen_of_block HD3.out i
      have HD4 : Aside (((w3.setCell ⟨b2, 0, none⟩ (.slice a6 m6 k6)).setCell ⟨b2, 1, none⟩ (.slice a7 m7 k7)).heap[b2]? = some (boxD (.slice a6 m6 k6) (.slice a7 m7 k7))) := stored_two HD3.out rfl _ _
      have HG4 : Aside (((w3.setCell ⟨b2, 0, none⟩ (.slice a6 m6 k6)).setCell ⟨b2, 1, none⟩ (.slice a7 m7 k7)).heap[g]? = some (.cells NC.toArray 49)) := other_two HN3.out.blk hgb _ _
      have HR4 : Aside (NodeT ((w3.setCell ⟨b2, 0, none⟩ (.slice a6 m6 k6)).setCell ⟨b2, 1, none⟩ (.slice a7 m7 k7)) ⟨⟨u, D.1, T, false⟩, (.slice a0 m0 k0), .slice a6 m6 k6, .slice a7 m7 k7⟩) :=
        ⟨unit_box2 HN3.out.rows.unit HD3.out _ _, disk_off2 HE3.out HD3.out (slnob _ _ _) (slnob _ _ _) (slnob _ _ _) _⟩
      have HB4 : Aside (Below w.heap.size w ((w3.setCell ⟨b2, 0, none⟩ (.slice a6 m6 k6)).setCell ⟨b2, 1, none⟩ (.slice a7 m7 k7))) := below_two2 HB3.out HL.out _ _
      have HP4 : Aside (∀ (i : Nat) (v : Value), (Nb.cells ⟨⟨u, s, t, up⟩, (.slice a0 m0 k0), (.slice a1 m1 k1), (.slice a2 m2 k2)⟩)[i]? = some v → NC[o + i]? = some v) := HN3.out.place
      go_upto_region 7 with fail
      clear z2 f2
      generalize (w3.setCell ⟨b2, 0, none⟩ (.slice a6 m6 k6)).setCell ⟨b2, 1, none⟩ (.slice a7 m7 k7) = W4 at *
      clear HD3 HN3 HB3 HE3 HL
      have z2 : ∀ i, W4.cell? ⟨b2, i, none⟩ = #[Value.slice a6 m6 k6, .slice a7 m7 k7][i]? := fun i => Joins.cell_of_block HD4.out i
      have yz : ∀ (i : Nat) (v : Value), (Nb.cells ⟨⟨u, s, t, up⟩, (.slice a0 m0 k0), (.slice a1 m1 k1), (.slice a2 m2 k2)⟩)[i]? = some v → W4.cell? ⟨g, o + i, none⟩ = some v := fun i v hv => by
        rw [Joins.cell_of_block HG4.out]
        simpa using HP4.out i v hv
      have y2 := yz 2 _ rfl
      have y3 := yz 3 _ rfl
      have y4 := yz 4 _ rfl
      have fz : ∀ i, W4.frozen? ⟨g, i, none⟩ = false := fun i => Joins.unfrozen_of_block HG4.out i
      clear yz
      go_wp2
      go_ret
      exact ⟨rfl, W4, HB4.out, Or.inr ⟨_, HR4.out, rfl, rfl, rfl⟩⟩
set_option maxHeartbeats 4000000 in
set_option maxRecDepth 100000 in
theorem w_tear_none {w : World} {g o : Nat} {r : Rc} (hs : r.same Rc.zero = true) (kk : Int) :
    Calls Tryz.prog 107 #[.pointer (some ⟨g, o, none⟩), r.val, .int .i64 kk] w fun e w' => e = .returned (.int .i64 6) ∧ Below w.heap.size w w' := by
  have hno := w_isNone r (w.alloc (boxRc r))
  rw [hs] at hno
  have HX0 : Aside ((w.alloc (boxRc r)).heap[w.heap.size]? = some (boxRc r)) := heap_new _ _
  have HB0 : Aside (Below w.heap.size w (w.alloc (boxRc r))) := grew (Below.refl _ _) _
  clear hs
  go_enter Tryz.func107, Tryz.ntmps107
  go_upto_region 1 with fail
  generalize w.alloc (boxRc r) = W0 at *
  have z : ∀ i, W0.cell? ⟨w.heap.size, i, none⟩ = #[Value.int .i64 r.k, .int .i64 r.a, .int .i64 r.p, .int .i64 r.e.k, .int .i64 r.e.j, .int .i64 r.e.v, .int .i64 r.e.t, .int .i64 r.e.c][i]? := fun i => Joins.cell_of_block HX0.out i
  go_wp2_with fail
  refine hno.mono ?_
  rintro e W1 ⟨rfl, hb1⟩
  have HB1 : Aside (Below w.heap.size w W1) := step_below1 HB0.out hb1
  clear z hno hb1 HB0 HX0
  go_wp2
  go_ret
  exact ⟨rfl, HB1.out⟩
/-- Package world's tear. -/
theorem w_tear {w : World} {g o : Nat} {NC : List Value} {x : Nb} (hL : Laid w) (h : NAt w g o NC x) (hn1 : x.n.s.length ≤ topLen) (hn2 : x.n.w.length ≤ topLen) {r : Rc} (hr : r = Rc.zero ∨ r.k = 1) (kk : Int) :
    Calls Tryz.prog 107 #[.pointer (some ⟨g, o, none⟩), r.val, .int .i64 kk] w fun e w' => e = .returned (.int .i64 (x.n.tear r kk).2) ∧ Post3 w w' g o x (x.n.tear r kk).1 := by
  obtain ⟨⟨u, s, t, up⟩, vc, vs, vw⟩ := x
  obtain ⟨a0, m0, k0, rfl⟩ := roomy_sl h.rows.unit.room
  obtain ⟨a1, m1, k1, rfl⟩ := roomy_sl h.rows.disk.room1
  obtain ⟨a2, m2, k2, rfl⟩ := roomy_sl h.rows.disk.room2
  rcases none_same hr with ⟨hs, hk⟩ | ⟨hs, hk⟩
  · rw [show Nd.tear ⟨u, s, t, up⟩ r kk = (⟨u, s, t, up⟩, 6) by rw [Nd.tear, if_pos hk]]
    exact (w_tear_none hs kk).mono fun e w' ⟨he, hb⟩ => ⟨he, w', hb, Or.inl ⟨rfl, rfl⟩⟩
  · exact w_tear_at u s t up a0 a1 a2 m0 k0 m1 k1 m2 k2 hL h hn1 hn2 r hs hk kk
end Go.Proofs.YtmoaobfmopimlafGreatDoor
namespace Go.Proofs.YtmoaobfmopimlafGreatDoor
open Go.RowKit
/-- An entry's cells. -/
abbrev C5 (w : World) (g : Nat) (x : En) : Prop := w.cell? ⟨g, 0, none⟩ = some (.int .i64 x.k) ∧ w.cell? ⟨g, 1, none⟩ = some (.int .i64 x.j) ∧ w.cell? ⟨g, 2, none⟩ = some (.int .i64 x.v) ∧ w.cell? ⟨g, 3, none⟩ = some (.int .i64 x.t) ∧ w.cell? ⟨g, 4, none⟩ = some (.int .i64 x.c)
theorem c5_far {w : World} {b g : Nat} (hne : g ≠ b) (i j : Nat) (v : Value) : (w.setCell ⟨b, i, none⟩ v).cell? ⟨g, j, none⟩ = w.cell? ⟨g, j, none⟩ := by
  have hh : (w.setCell ⟨b, i, none⟩ v).heap[g]? = w.heap[g]? := Below.heap_setCell _ _ _ _ (by show g ≠ b; exact hne)
  simp only [World.cell?, hh]
theorem c5_set {w : World} {g b : Nat} {x : En} (h : C5 w g x) (hne : g ≠ b) (i : Nat) (v : Value) : C5 (w.setCell ⟨b, i, none⟩ v) g x :=
  ⟨(c5_far hne _ _ _).trans h.1, (c5_far hne _ _ _).trans h.2.1, (c5_far hne _ _ _).trans h.2.2.1, (c5_far hne _ _ _).trans h.2.2.2.1, (c5_far hne _ _ _).trans h.2.2.2.2⟩
theorem c5_of {w : World} {g : Nat} {x : En} (h : w.heap[g]? = some (boxE x.k x.j x.v x.t x.c)) : C5 w g x := ⟨Joins.cell_of_block h 0, Joins.cell_of_block h 1, Joins.cell_of_block h 2, Joins.cell_of_block h 3, Joins.cell_of_block h 4⟩
end Go.Proofs.YtmoaobfmopimlafGreatDoor
namespace Go.Proofs.YtmoaobfmopimlafGreatDoor
open Go.RowKit
open scoped Classical
/-- The end of a function whose results are a record and an entry in memory, and a slot. -/
theorem ret3 {fn : Func} {R : Ending → World → Prop} {a : Act} {W : World} {rb eb p q t : Nat} {r : Rc} {e : En} {y : Value} (hf : fn.results = #[.cell p 94, .cell q 27, .tmp t]) (hd : a.defers = [])
    (h1 : a.tmps.getD p undef = .pointer (some ⟨rb, 0, none⟩)) (h2 : a.tmps.getD q undef = .pointer (some ⟨eb, 0, none⟩)) (h3 : a.tmps.getD t undef = y) (hR : W.heap[rb]? = some (boxRc r)) (hE : W.heap[eb]? = some (boxE e.k e.j e.v e.t e.c)) (hp : R (.returned (.tuple #[r.val, e.val, y])) W) :
    bodyPost Tryz.prog fn R .ret a W := by
  have c0 : ∀ i, W.cell? ⟨rb, i, none⟩ = #[Value.int .i64 r.k, .int .i64 r.a, .int .i64 r.p, .int .i64 r.e.k, .int .i64 r.e.j, .int .i64 r.e.v, .int .i64 r.e.t, .int .i64 r.e.c][i]? := fun i => Joins.cell_of_block hR i
  have c1 : ∀ i, W.cell? ⟨eb, i, none⟩ = #[Value.int .i64 e.k, .int .i64 e.j, .int .i64 e.v, .int .i64 e.t, .int .i64 e.c][i]? := fun i => Joins.cell_of_block hE i
  have h1' : a.tmps[p]?.getD undef = .pointer (some ⟨rb, 0, none⟩) := by simpa using h1
  have h2' : a.tmps[q]?.getD undef = .pointer (some ⟨eb, 0, none⟩) := by simpa using h2
  have h3' : a.tmps[t]?.getD undef = y := by simpa using h3
  refine bodyPost_ret (v := .tuple #[r.val, e.val, y]) ?_ hd hp
  simp [results, hf, h1', h2', h3', go_sem, c0, c1]
/-- The two results, stored. -/
theorem link_stored {w : World} {rb eb : Nat} {q : Rc} {f : En} (hr : w.heap[rb]? = some (boxRc q)) (he : w.heap[eb]? = some (boxE f.k f.j f.v f.t f.c)) (hne : rb ≠ eb) (r : Rc) (e : En) {E : World}
    (hE : E = ((((((((w.setCell ⟨rb, 0, none⟩ (.int .i64 r.k)).setCell ⟨rb, 1, none⟩ (.int .i64 r.a)).setCell ⟨rb, 2, none⟩ (.int .i64 r.p)).setCell ⟨rb, 3, none⟩ (.int .i64 r.e.k)).setCell ⟨rb, 4, none⟩ (.int .i64 r.e.j)).setCell ⟨rb, 5, none⟩ (.int .i64 r.e.v)).setCell ⟨rb, 6, none⟩ (.int .i64 r.e.t)).setCell ⟨rb, 7, none⟩ (.int .i64 r.e.c))) :
    (((((E.setCell ⟨eb, 0, none⟩ (.int .i64 e.k)).setCell ⟨eb, 1, none⟩ (.int .i64 e.j)).setCell ⟨eb, 2, none⟩ (.int .i64 e.v)).setCell ⟨eb, 3, none⟩ (.int .i64 e.t)).setCell ⟨eb, 4, none⟩ (.int .i64 e.c)).heap[rb]? = some (boxRc r) ∧
    (((((E.setCell ⟨eb, 0, none⟩ (.int .i64 e.k)).setCell ⟨eb, 1, none⟩ (.int .i64 e.j)).setCell ⟨eb, 2, none⟩ (.int .i64 e.v)).setCell ⟨eb, 3, none⟩ (.int .i64 e.t)).setCell ⟨eb, 4, none⟩ (.int .i64 e.c)).heap[eb]? = some (boxE e.k e.j e.v e.t e.c) := by
  have h1 : E.heap[rb]? = some (boxRc r) := by rw [hE]; exact eight_stores hr r
  have h2 : E.heap[eb]? = some (boxE f.k f.j f.v f.t f.c) := by
    rw [hE, Below.heap_setCell _ _ _ _ (by exact hne.symm), Below.heap_setCell _ _ _ _ (by exact hne.symm), Below.heap_setCell _ _ _ _ (by exact hne.symm), Below.heap_setCell _ _ _ _ (by exact hne.symm), Below.heap_setCell _ _ _ _ (by exact hne.symm), Below.heap_setCell _ _ _ _ (by exact hne.symm), Below.heap_setCell _ _ _ _ (by exact hne.symm), Below.heap_setCell _ _ _ _ (by exact hne.symm)]
    exact he
  refine ⟨?_, ?_⟩
  · rw [Below.heap_setCell _ _ _ _ (by exact hne), Below.heap_setCell _ _ _ _ (by exact hne), Below.heap_setCell _ _ _ _ (by exact hne), Below.heap_setCell _ _ _ _ (by exact hne), Below.heap_setCell _ _ _ _ (by exact hne)]
    exact h1
  · have g1 := Joins.block_setCell h2 (i := 0) (.int .i64 e.k)
    have g2 := Joins.block_setCell g1 (i := 1) (.int .i64 e.j)
    have g3 := Joins.block_setCell g2 (i := 2) (.int .i64 e.v)
    have g4 := Joins.block_setCell g3 (i := 3) (.int .i64 e.t)
    have g5 := Joins.block_setCell g4 (i := 4) (.int .i64 e.c)
    simp only [List.setIfInBounds_toArray, List.set_cons_zero, List.set_cons_succ] at g5
    exact g5
theorem link_below {w W : World} {rb eb : Nat} (h : Below w.heap.size w W) (hr : w.heap.size ≤ rb) (he : w.heap.size ≤ eb) (v0 v1 v2 v3 v4 v5 v6 v7 u0 u1 u2 u3 u4 : Value) :
    Below w.heap.size w (((((((((((((W.setCell ⟨rb, 0, none⟩ v0).setCell ⟨rb, 1, none⟩ v1).setCell ⟨rb, 2, none⟩ v2).setCell ⟨rb, 3, none⟩ v3).setCell ⟨rb, 4, none⟩ v4).setCell ⟨rb, 5, none⟩ v5).setCell ⟨rb, 6, none⟩ v6).setCell ⟨rb, 7, none⟩ v7).setCell ⟨eb, 0, none⟩ u0).setCell ⟨eb, 1, none⟩ u1).setCell ⟨eb, 2, none⟩ u2).setCell ⟨eb, 3, none⟩ u3).setCell ⟨eb, 4, none⟩ u4) :=
  (((((below_eight h hr v0 v1 v2 v3 v4 v5 v6 v7).setCell (p := ⟨eb, 0, none⟩) he _).setCell (p := ⟨eb, 1, none⟩) he _).setCell (p := ⟨eb, 2, none⟩) he _).setCell (p := ⟨eb, 3, none⟩) he _).setCell (p := ⟨eb, 4, none⟩) he _
end Go.Proofs.YtmoaobfmopimlafGreatDoor
namespace Go.Proofs.YtmoaobfmopimlafGreatDoor
open Go.RowKit
open scoped Classical
theorem plc_eq {us : List Un} {k m : Nat} {u : Un} {y : En} (hu : us[k]? = some u) (hy : u.cells[m]? = some y) : plc us k m = y := by
  have e : us.getD k Un.zero = u := by rw [List.getD_eq_getElem?_getD, hu]; rfl
  unfold plc
  rw [e, List.getD_eq_getElem?_getD, hy]
  rfl
/-- A right chain in memory. -/
theorem right_three {w : World} {v : Value} {xs : List Ub} (h : ChAt w v xs) (hd : ckChain (unitsOf xs) = 0) :
    ∃ U0 U1 U2 a0 c0 a1 c1 a2 c2 b off c, xs = [⟨U0, .slice a0 60 c0⟩, ⟨U1, .slice a1 60 c1⟩, ⟨U2, .slice a2 60 c2⟩] ∧ v = .slice (some ⟨b, off, none⟩) 3 c ∧ U0.ck = 0 ∧ U1.ck = 0 ∧ U2.ck = 0 := by
  obtain ⟨a, n, c, rfl, _⟩ := id h.room
  have hl := h.rows.len
  have h3 := ckChain_len hd
  rw [List.length_map] at h3
  obtain rfl : n = 3 := by omega
  obtain ⟨u0, u1, u2, a0, n0, c0, a1, n1, c1, a2, n2, c2, b, off, rfl, rfl, hE, ⟨g0, g1, g2⟩, l0, l1, l2⟩ := three_of h
  obtain ⟨v0, v1, v2, e, d0, d1, d2, _, _⟩ := ckChain_zero.1 hd
  have e' : [u0, u1, u2] = [v0, v1, v2] := e
  simp only [List.cons.injEq, and_true] at e'
  obtain ⟨rfl, rfl, rfl⟩ := e'
  have m0 := (Un.ck_zero.1 d0).2.1
  have m1 := (Un.ck_zero.1 d1).2.1
  have m2 := (Un.ck_zero.1 d2).2.1
  obtain rfl : n0 = 60 := by omega
  obtain rfl : n1 = 60 := by omega
  obtain rfl : n2 = 60 := by omega
  exact ⟨u0, u1, u2, a0, c0, a1, c1, a2, c2, b, off, c, rfl, rfl, d0, d1, d2⟩
/-- The end of a function whose results are an entry in memory and a slot. -/
theorem ret_ent {fn : Func} {R : Ending → World → Prop} {a : Act} {W : World} {b p q : Nat} {e : En} {y : Value} (hf : fn.results = #[.cell p 27, .tmp q]) (hd : a.defers = [])
    (h2 : a.tmps.getD p undef = .pointer (some ⟨b, 0, none⟩)) (h3 : a.tmps.getD q undef = y) (hR : W.heap[b]? = some (boxE e.k e.j e.v e.t e.c)) (hp : R (.returned (.tuple #[e.val, y])) W) :
    bodyPost Tryz.prog fn R .ret a W := by
  have c0 : ∀ i, W.cell? ⟨b, i, none⟩ = #[Value.int .i64 e.k, .int .i64 e.j, .int .i64 e.v, .int .i64 e.t, .int .i64 e.c][i]? := fun i => Joins.cell_of_block hR i
  refine bodyPost_ret (v := .tuple #[e.val, y]) ?_ hd hp
  rw [results_cell_tmp hf, h2, h3]
  simp [go_sem, c0]
theorem five_below {B : Nat} {a W : World} {b : Nat} (h : Below B a W) (hb : B ≤ b) (v0 v1 v2 v3 v4 : Value) :
    Below B a (((((W.setCell ⟨b, 0, none⟩ v0).setCell ⟨b, 1, none⟩ v1).setCell ⟨b, 2, none⟩ v2).setCell ⟨b, 3, none⟩ v3).setCell ⟨b, 4, none⟩ v4) :=
  ((((h.setCell (p := ⟨b, 0, none⟩) hb _).setCell (p := ⟨b, 1, none⟩) hb _).setCell (p := ⟨b, 2, none⟩) hb _).setCell (p := ⟨b, 3, none⟩) hb _).setCell (p := ⟨b, 4, none⟩) hb _
theorem five_box {W : World} {b : Nat} {f : En} (h : W.heap[b]? = some (boxE f.k f.j f.v f.t f.c)) (e : En) :
    (((((W.setCell ⟨b, 0, none⟩ (.int .i64 e.k)).setCell ⟨b, 1, none⟩ (.int .i64 e.j)).setCell ⟨b, 2, none⟩ (.int .i64 e.v)).setCell ⟨b, 3, none⟩ (.int .i64 e.t)).setCell ⟨b, 4, none⟩ (.int .i64 e.c)).heap[b]? = some (boxE e.k e.j e.v e.t e.c) := by
  have g1 := Joins.block_setCell h (i := 0) (.int .i64 e.k)
  have g2 := Joins.block_setCell g1 (i := 1) (.int .i64 e.j)
  have g3 := Joins.block_setCell g2 (i := 2) (.int .i64 e.v)
  have g4 := Joins.block_setCell g3 (i := 3) (.int .i64 e.t)
  have g5 := Joins.block_setCell g4 (i := 4) (.int .i64 e.c)
  simp only [List.setIfInBounds_toArray, List.set_cons_zero, List.set_cons_succ] at g5
  exact g5
end Go.Proofs.YtmoaobfmopimlafGreatDoor
namespace Go.Proofs.YtmoaobfmopimlafGreatDoor
open Go.RowKit
open scoped Classical
/-- No slice is longer than what a number holds. -/
def Fits (xs : List Ub) : Prop := xs.length ≤ topN ∧ ∀ x, x ∈ xs → x.u.cells.length ≤ topN
/-- Package chain. -/
structure Chains : Prop where
  check : ∀ (v : Value) (xs : List Ub) (W : World), ChAt W v xs → Fits xs → Calls Tryz.prog 169 #[v] W fun e w' => e = .returned (.int .i64 (ckChain (unitsOf xs))) ∧ Below W.heap.size W w'
  link : ∀ (v : Value) (xs : List Ub) (k a ep : Int) (x : En) (W : World), ChAt W v xs → Fits xs → Calls Tryz.prog 105 #[v, .int .i64 k, .int .i64 a, x.val, .int .i64 ep] W fun e w' => e = .returned (.tuple #[(linkOf (unitsOf xs) k a x ep).1.val, (linkOf (unitsOf xs) k a x ep).2.1.val, .int .i64 (linkOf (unitsOf xs) k a x ep).2.2]) ∧ Below W.heap.size W w'
  read : ∀ (v : Value) (xs : List Ub) (a : Int) (W : World), ChAt W v xs → Fits xs → Calls Tryz.prog 178 #[v, .int .i64 a] W fun e w' => e = .returned (.tuple #[(readOf (unitsOf xs) a).1.val, .int .i64 (readOf (unitsOf xs) a).2]) ∧ Below W.heap.size W w'
end Go.Proofs.YtmoaobfmopimlafGreatDoor
namespace Go.Proofs.YtmoaobfmopimlafGreatDoor
open Go.RowKit
theorem infoUn : (Tryz.prog.info? 44).map (fun i => (i.zero, i.size, i.bytes)) = some (some (Value.agg #[.int .i64 0, .slice none 0 0]), 2, 32) := by kernel_rfl
/-- A node's unit, as a row of units has it. -/
def Nb.ub (x : Nb) : Ub := ⟨x.n.u, x.vc⟩
abbrev ubsOf (xs : List Nb) : List Ub := xs.map Nb.ub
theorem ubs_units (xs : List Nb) : unitsOf (ubsOf xs) = (nodesOf xs).map Nd.u := by
  show (xs.map Nb.ub).map Ub.u = (xs.map Nb.n).map Nd.u
  rw [List.map_map, List.map_map]; rfl
/-- As far as it has come. -/
def UnAt (wr : World) (g n k : Nat) (xs : List Nb) : Prop := ∃ C : List Value, wr.heap[g]? = some (.cells ((ubsOf (xs.take k)).flatMap Ub.cells ++ C).toArray 44) ∧ C.length = (n - k) * 2
theorem UnAt.later {wr w' : World} {g n k : Nat} {xs : List Nb} (h : UnAt wr g n k xs) (hb : Below wr.heap.size wr w') : UnAt w' g n k xs := by
  obtain ⟨C, h1, h2⟩ := h
  exact ⟨C, heap_below h1 hb (heap_lt h1), h2⟩
theorem UnAt.step {wr : World} {g n k : Nat} {xs : List Nb} (h : UnAt wr g n k xs) (hk : k < n) {x : Nb} (hx : xs[k]? = some x) :
    UnAt ((wr.setCell ⟨g, k * 2, none⟩ (.int .i64 x.n.u.p)).setCell ⟨g, k * 2 + 1, none⟩ x.vc) g n (k + 1) xs := by
  obtain ⟨C, h1, h2⟩ := h
  have hlt := (List.getElem?_eq_some_iff.1 hx).1
  match C, h2 with
  | [], h2 => simp at h2; omega
  | [c], h2 => simp at h2; omega
  | a :: b :: C', h2 =>
    have hA : ((ubsOf (xs.take k)).flatMap Ub.cells).length = k * 2 := by rw [row_len Ub.two]; simp; omega
    refine ⟨C', ?_, by simp at h2; omega⟩
    have e : xs.take (k + 1) = xs.take k ++ [x] := by rw [List.take_add_one, hx]; rfl
    have h3 := block_put (block_put h1 (k * 2 + 0) (.int .i64 x.n.u.p)) (k * 2 + 1) x.vc
    rw [show a :: b :: C' = [a, b] ++ C' from rfl, seg_set hA (by simp), seg_set hA (by simp)] at h3
    rw [e]
    simp only [ubsOf, List.map_append, List.flatMap_append, List.map_cons, List.map_nil, List.flatMap_cons, List.flatMap_nil, List.append_nil, List.append_assoc]
    exact h3
theorem UnAt.cells {wr : World} {g n k : Nat} {xs : List Nb} (h : UnAt wr g n k xs) (hk : k < n) (hn : xs.length = n) : (∃ v, wr.cell? ⟨g, k * 2, none⟩ = some v) ∧ (∃ v, wr.cell? ⟨g, k * 2 + 1, none⟩ = some v) ∧ ∀ i, wr.frozen? ⟨g, i, none⟩ = false := by
  obtain ⟨C, h1, h2⟩ := h
  have hA : ((ubsOf (xs.take k)).flatMap Ub.cells).length = k * 2 := by rw [row_len Ub.two]; simp; omega
  refine ⟨?_, ?_, fun i => Joins.unfrozen_of_block h1 i⟩
  · rw [Joins.cell_of_block h1]
    simp only [List.getElem?_toArray]
    exact ⟨_, List.getElem?_eq_getElem (by rw [List.length_append, hA]; omega)⟩
  · rw [Joins.cell_of_block h1]
    simp only [List.getElem?_toArray]
    exact ⟨_, List.getElem?_eq_getElem (by rw [List.length_append, hA]; omega)⟩
theorem UnAt.done {wr : World} {g n : Nat} {xs : List Nb} (h : UnAt wr g n n xs) (hn : xs.length = n) : SlOf Ub.cells 2 wr (.slice (some ⟨g, 0, none⟩) n n) (ubsOf xs) := by
  obtain ⟨C, h1, h2⟩ := h
  have hC : C = [] := List.eq_nil_of_length_eq_zero (by simpa using h2)
  rw [hC, List.append_nil, List.take_of_length_le (by omega)] at h1
  have := slOf_lit (xs := ubsOf xs) (c := n) Ub.two h1 rfl
  rwa [List.length_map, hn] at this
set_option linter.unusedSimpArgs false in
set_option maxHeartbeats 4000000 in
set_option maxRecDepth 100000 in
/-- Package world's units. -/
theorem w_units (v : Value) (xs : List Nb) (w : World) (hv : SlOf Nb.cells 5 w v xs) (hn : xs.length ≤ 1000000) (hu : ∀ x, x ∈ xs → NodeT w x) :
    Calls Tryz.prog 106 #[v] w fun e w' => ∃ u, e = .returned u ∧ ChAt w' u (ubsOf xs) ∧ Below w.heap.size w w' := by
  obtain ⟨i0, hi, hz0, hz1, hz2⟩ := info_parts infoUn
  have H1 : Aside (SlOf Nb.cells 5 w v xs) := hv
  have HU : Aside (∀ x, x ∈ xs → NodeT w x) := hu
  obtain ⟨a1, c1, rfl, _⟩ := hv
  obtain ⟨n, hn1⟩ : ∃ n, xs.length = n := ⟨_, rfl⟩
  have HL : Aside (xs.length = n) := hn1
  rw [hn1] at H1 hn ⊢
  clear hn1 hu
  go_enter Tryz.func106, Tryz.ntmps106
  go_wp2_with (at_make; refine wpList_make_full _ rfl _ _ 100 rfl w.heap.size 44 i0 (.agg #[.int .i64 0, .slice none 0 0]) 2 Tryz.underlying100 hi hz0 hz1 _ _ _ _ n rfl rfl rfl rfl (by rw [hz2]; omega) (by unfold maxLen; omega) (Nat.le_refl _) ?_)
  intro w1 hown hgrow
  obtain ⟨hl0, ho⟩ := hown
  rcases ho with ⟨h, _⟩ | ⟨g, cap, cur, hv', _, hg, _, _, hsz, htake⟩
  · cases h
  injection hv' with ha _ hc
  injection ha with ha
  injection ha with ha _ _
  subst ha hc
  have HB1 : Aside (Below w.heap.size w w1) := ⟨hgrow.os, hgrow.tape, hgrow.output, hgrow.size, fun k hk => hgrow.block k hk (fun h => by cases h)⟩
  have HS1 : Aside (UnAt w1 w.heap.size n 0 xs) := ⟨cur.toList, by simpa using hg, by simpa using hsz⟩
  clear hi hz0 hz1 hz2 hl0 htake hgrow hg hsz
  go_wp2
  go_loopw [11] (fun i wr => ∃ k : Nat, k ≤ n ∧ i = .int .i64 k ∧ Below w.heap.size w wr ∧ UnAt wr w.heap.size n k xs) (fun i _ => n - (intOf i).toNat)
  case atStart => exact ⟨0, Nat.zero_le _, rfl, HB1.out, HS1.out⟩
  case round =>
    clear HB1 HS1
    obtain ⟨k, hk, rfl, hB, hU⟩ := hrel
    by_cases hlt : k < n
    · obtain ⟨x, hx⟩ : ∃ x, xs[k]? = some x := ⟨xs[k]'(by have := HL.out; omega), List.getElem?_eq_getElem _⟩
      obtain ⟨b, off, rfl, hE0⟩ := SlOf.at (cs := Nb.cells) (k := 5) H1.out (by omega)
      have hE := RowAt.later hE0 hB
      have hxt := HU.out x (List.mem_of_getElem? hx)
      obtain ⟨⟨u, s, t, up⟩, vc, vs, vw⟩ := x
      obtain ⟨a4, m4, k4, rfl⟩ := roomy_sl hxt.unit.room
      obtain ⟨a5, m5, k5, rfl⟩ := roomy_sl hxt.disk.room1
      obtain ⟨a6, m6, k6, rfl⟩ := roomy_sl hxt.disk.room2
      have y0 : wr.cell? ⟨b, off + k * 5, none⟩ = some (.int .i64 u.p) := hE k _ hx 0 _ rfl
      have y1 : wr.cell? ⟨b, off + k * 5 + 1, none⟩ = some (.slice a4 m4 k4) := hE k _ hx 1 _ rfl
      have y2 : wr.cell? ⟨b, off + k * 5 + 2, none⟩ = some (.slice a5 m5 k5) := hE k _ hx 2 _ rfl
      have y3 : wr.cell? ⟨b, off + k * 5 + 3, none⟩ = some (.slice a6 m6 k6) := hE k _ hx 3 _ rfl
      have y4 : wr.cell? ⟨b, off + k * 5 + 4, none⟩ = some (.bool up) := hE k _ hx 4 _ rfl
      have HB2 : Aside (Below w.heap.size w (wr.alloc (boxNb ⟨⟨u, s, t, up⟩, .slice a4 m4 k4, .slice a5 m5 k5, .slice a6 m6 k6⟩))) := grew hB _
      have HU2 : Aside (UnAt (wr.alloc (boxNb ⟨⟨u, s, t, up⟩, .slice a4 m4 k4, .slice a5 m5 k5, .slice a6 m6 k6⟩)) w.heap.size n k xs) := hU.later (grew (Below.refl _ _) _)
      have HXB : Aside ((wr.alloc (boxNb ⟨⟨u, s, t, up⟩, .slice a4 m4 k4, .slice a5 m5 k5, .slice a6 m6 k6⟩)).heap[wr.heap.size]? = some (boxNb ⟨⟨u, s, t, up⟩, .slice a4 m4 k4, .slice a5 m5 k5, .slice a6 m6 k6⟩)) := heap_new _ _
      have HX : Aside (xs[k]? = some ⟨⟨u, s, t, up⟩, .slice a4 m4 k4, .slice a5 m5 k5, .slice a6 m6 k6⟩) := hx
      clear hE hE0 hxt hx hB hU
      go_upto_region 5 with fail
      generalize wr.alloc (boxNb ⟨⟨u, s, t, up⟩, .slice a4 m4 k4, .slice a5 m5 k5, .slice a6 m6 k6⟩) = W at *
      generalize wr.heap.size = d at *
      have z : ∀ i, W.cell? ⟨d, i, none⟩ = #[Value.int .i64 u.p, .slice a4 m4 k4, .slice a5 m5 k5, .slice a6 m6 k6, .bool up][i]? := fun i => Joins.cell_of_block HXB.out i
      obtain ⟨⟨o1, r1⟩, ⟨o2, r2⟩, fz⟩ := HU2.out.cells hlt HL.out
      have HB3 : Aside (Below w.heap.size w ((W.setCell ⟨w.heap.size, k * 2, none⟩ (.int .i64 u.p)).setCell ⟨w.heap.size, k * 2 + 1, none⟩ (.slice a4 m4 k4))) := (HB2.out.setCell (p := ⟨w.heap.size, k * 2, none⟩) (Nat.le_refl _) _).setCell (p := ⟨w.heap.size, k * 2 + 1, none⟩) (Nat.le_refl _) _
      have HU3 : Aside (UnAt ((W.setCell ⟨w.heap.size, k * 2, none⟩ (.int .i64 u.p)).setCell ⟨w.heap.size, k * 2 + 1, none⟩ (.slice a4 m4 k4)) w.heap.size n (k + 1) xs) := by
        have := HU2.out.step hlt HX.out
        exact this
      clear y0 y1 y2 y3 y4 HB2 HU2 HX HXB
      go_wp2
      go_roundw
      case rel => exact ⟨k + 1, by omega, by go_num, HB3.out, HU3.out⟩
      case measure => simp [intOf]; omega
    · obtain rfl : k = n := by omega
      have HB2 : Aside (Below w.heap.size w wr) := hB
      have HU2 : Aside (UnAt wr w.heap.size k k xs) := hU
      clear hB hU
      go_wp2
      go_ret
      refine ⟨_, rfl, ⟨HU2.out.done HL.out, fun y hy => ?_, ⟨_, _, _, rfl, Nat.le_refl _⟩⟩, HB2.out⟩
      obtain ⟨x, hx, rfl⟩ := List.mem_map.1 hy
      exact (HU.out x hx).unit.later HB2.out
end Go.Proofs.YtmoaobfmopimlafGreatDoor
namespace Go.Proofs.YtmoaobfmopimlafGreatDoor
open Go.RowKit
open scoped Classical
set_option linter.unusedSimpArgs false in
set_option maxHeartbeats 4000000 in
set_option maxRecDepth 100000 in
theorem wfollows_any (au aa : Option Addr) (cu ca : Nat) (p q : Int) (us ah : List En) (w : World) (hu : EntSl w (.slice au 60 cu) us) (ha : EntSl w (.slice aa 60 ca) ah) (lu : us.length = 60) (la : ah.length = 60) :
    Calls Tryz.prog 81 #[.agg #[.int .i64 p, .slice au 60 cu], .agg #[.int .i64 q, .slice aa 60 ca]] w fun e w' => e = .returned (.bool (decide (Within us ah))) ∧ Below w.heap.size w w' := by
  obtain ⟨bu, ou, rfl, hEu⟩ := SlOf.at (cs := En.cells) (k := 5) hu (by omega)
  obtain ⟨bv, ov, rfl, hEv⟩ := SlOf.at (cs := En.cells) (k := 5) ha (by omega)
  have HEu : Aside (RowAt En.cells 5 w bu ou us) := hEu
  have HEv : Aside (RowAt En.cells 5 w bv ov ah) := hEv
  have HL : Hid (us.length = 60 ∧ ah.length = 60) := ⟨lu, la⟩
  have HB0 : Aside (Below w.heap.size w ((w.alloc (boxU p (.slice (some ⟨bu, ou, none⟩) 60 cu))).alloc (boxU q (.slice (some ⟨bv, ov, none⟩) 60 ca)))) := grew (grew (Below.refl _ _) _) _
  have HX0 : Aside (((w.alloc (boxU p (.slice (some ⟨bu, ou, none⟩) 60 cu))).alloc (boxU q (.slice (some ⟨bv, ov, none⟩) 60 ca))).heap[w.heap.size + 1]? = some (boxU q (.slice (some ⟨bv, ov, none⟩) 60 ca))) := by
    have := heap_new (w.alloc (boxU p (.slice (some ⟨bu, ou, none⟩) 60 cu))) (boxU q (.slice (some ⟨bv, ov, none⟩) 60 ca))
    rwa [World.size_alloc] at this
  obtain ⟨bb, HBB⟩ : ∃ bb, Hid (decide (Within us ah) = bb) := ⟨_, rfl⟩
  rw [HBB.out]
  clear hu ha lu la hEu hEv
  go_enter Tryz.func81, Tryz.ntmps81
  go_wp2
  go_loopw [10] (fun i wr => ∃ k : Nat, k ≤ 60 ∧ i = .int .i64 k ∧ Below w.heap.size w wr ∧ wr.heap[w.heap.size + 1]? = some (boxU q (.slice (some ⟨bv, ov, none⟩) 60 ca)) ∧ Hid (∀ (j : Nat) (c : En), j < k → us[j]? = some c → c.isB = true ∨ ah[j]? = some c)) (fun i _ => 60 - (intOf i).toNat)
  case atStart => exact ⟨0, Nat.zero_le _, rfl, HB0.out, HX0.out, fun j c hj => absurd hj (Nat.not_lt_zero j)⟩
  case round =>
    clear HB0 HX0
    obtain ⟨k, hk, rfl, hB, hX, hst⟩ := hrel
    by_cases hlt : k < 60
    · obtain ⟨x, hx⟩ : ∃ x, us[k]? = some x := ⟨us[k]'(by have := HL.out.1; omega), List.getElem?_eq_getElem _⟩
      obtain ⟨y, hy⟩ : ∃ y, ah[k]? = some y := ⟨ah[k]'(by have := HL.out.2; omega), List.getElem?_eq_getElem _⟩
      have hE := RowAt.later HEu.out hB
      have c0 : wr.cell? ⟨bu, ou + k * 5, none⟩ = some (.int .i64 x.k) := hE k x hx 0 _ rfl
      have c1 : wr.cell? ⟨bu, ou + k * 5 + 1, none⟩ = some (.int .i64 x.j) := hE k x hx 1 _ rfl
      have c2 : wr.cell? ⟨bu, ou + k * 5 + 2, none⟩ = some (.int .i64 x.v) := hE k x hx 2 _ rfl
      have c3 : wr.cell? ⟨bu, ou + k * 5 + 3, none⟩ = some (.int .i64 x.t) := hE k x hx 3 _ rfl
      have c4 : wr.cell? ⟨bu, ou + k * 5 + 4, none⟩ = some (.int .i64 x.c) := hE k x hx 4 _ rfl
      have hB1 := grew hB (boxE x.k x.j x.v x.t x.c)
      have hF := RowAt.later HEv.out hB1
      have hX1 := heap_old hX (boxE x.k x.j x.v x.t x.c)
      have hS1 : WiS (wr.alloc (boxE x.k x.j x.v x.t x.c)) (wr.alloc (boxE x.k x.j x.v x.t x.c)) wr.heap.size (w.heap.size + 1) (.slice (some ⟨bv, ov, none⟩) 60 ca) bv ov k x y := ⟨beS_of (heap_new _ _), Joins.cell_of_block hX1 1, hF k y hy 0 _ rfl, hF k y hy 1 _ rfl, hF k y hy 2 _ rfl, hF k y hy 3 _ rfl, hF k y hy 4 _ rfl⟩
      have hn1 : ∀ W, (binOp .neq 27 (ev x.k x.j x.v x.t x.c) (ev 4 0 0 0 0)).run Tryz.prog W = .ok (.bool (!x.isB)) W := fun W => by
        rw [neq_entry x.k x.j x.v x.t x.c 4 0 0 0 0 W, En.isB, Bool.not_not]
      have hn2 := fun W => neq_entry x.k x.j x.v x.t x.c y.k y.j y.v y.t y.c W
      have HST : Hid (us[k]? = some x ∧ ah[k]? = some y ∧ ∀ (j : Nat) (c : En), j < k → us[j]? = some c → c.isB = true ∨ ah[j]? = some c) := ⟨hx, hy, hst.out⟩
      have nxt : Hid (x.isB = true ∨ ah[k]? = some x → ∀ (j : Nat) (c : En), j < k + 1 → us[j]? = some c → c.isB = true ∨ ah[j]? = some c) := fun h j c hj hc => by
        by_cases hjk : j < k
        · exact HST.out.2.2 j c hjk hc
        · obtain rfl : j = k := by omega
          obtain rfl := Option.some.inj (hc.symm.trans HST.out.1)
          exact h
      have HB1 : Aside _ := hB1
      have HX1 : Aside _ := hX1
      have hki : (k : Int) < 60 := by omega
      have hk0 : (0 : Int) ≤ (k : Int) := by omega
      clear hE hF hst hx hy hB hX hB1 hX1
      go_upto_region 4 with fail
      generalize wr.alloc (boxE x.k x.j x.v x.t x.c) = Z at *
      generalize wr.heap.size = cb at *
      clear c0 c1 c2 c3 c4
      cases hib : x.isB with
      | true =>
        rw [hib, Bool.not_true] at hn1
        have hN := nxt.out (Or.inl hib)
        have HN : Hid _ := hN
        have hS0 : BeS Z Z cb x := hS1.1
        obtain ⟨e0, e1, e2, e3, e4⟩ : Z.cell? ⟨cb, 0, none⟩ = some (.int .i64 x.k) ∧ Z.cell? ⟨cb, 1, none⟩ = some (.int .i64 x.j) ∧ Z.cell? ⟨cb, 2, none⟩ = some (.int .i64 x.v) ∧ Z.cell? ⟨cb, 3, none⟩ = some (.int .i64 x.t) ∧ Z.cell? ⟨cb, 4, none⟩ = some (.int .i64 x.c) := hS0.2
        clear nxt hib hN hS1 hn2 hS0
        go_quiet (fail)
        go_wp2
        go_roundw
        case rel => exact ⟨k + 1, by omega, by go_num, below_drewN HB1.out _, heap_below HX1.out (below_drewN (Below.refl _ _) _) (heap_lt HX1.out), HN⟩
        case measure => simp [intOf]; omega
      | false =>
        rw [hib, Bool.not_false] at hn1
        obtain ⟨⟨-, e0, e1, e2, e3, e4⟩, q0, q1, q2, q3, q4, q5⟩ := hS1
        by_cases hxy : x = y
        · rw [show unlike x.k x.j x.v x.t x.c y.k y.j y.v y.t y.c = false by rw [hxy]; simp [unlike]] at hn2
          have HN : Hid _ := nxt.out (Or.inr (by rw [HST.out.2.1, hxy]))
          clear nxt hib hxy
          go_quiet (fail)
          go_wp2
          go_roundw
          case rel => exact ⟨k + 1, by omega, by go_num, below_drewN HB1.out _, heap_below HX1.out (below_drewN (Below.refl _ _) _) (heap_lt HX1.out), HN⟩
          case measure => simp [intOf]; omega
        · rw [show unlike x.k x.j x.v x.t x.c y.k y.j y.v y.t y.c = true by rw [← Bool.not_eq_false]; exact fun h => hxy (en_eq h)] at hn2
          have HR : Hid (bb = false) := by
            rw [Hid, ← HBB.out, decide_eq_false]
            intro hw
            rcases hw k x HST.out.1 with h | h
            · rw [hib] at h; cases h
            · exact hxy (Option.some.inj (h.symm.trans HST.out.2.1))
          clear nxt hib hxy HBB
          go_quiet (fail)
          go_wp2
          go_ret
          exact ⟨by rw [HR.out]; rfl, below_drewN HB1.out _⟩
    · have HR : Hid (bb = true) := by
        rw [Hid, ← HBB.out, decide_eq_true]
        exact fun j c hc => hst.out j c (by have := (List.getElem?_eq_some_iff.1 hc).1; have := HL.out.1; omega) hc
      obtain rfl : k = 60 := by omega
      clear hst HBB
      go_wp2
      go_ret
      exact ⟨by rw [HR.out]; rfl, hB⟩
end Go.Proofs.YtmoaobfmopimlafGreatDoor
namespace Go.Proofs.YtmoaobfmopimlafGreatDoor
open Go.RowKit
open scoped Classical
/-- What is wrong with a node by itself, and which unit it is to be once it has power again. -/
def ckN (n : Nd) : Un × Int :=
  if ckDisk n.s n.w ≠ 0 then (Un.zero, ckDisk n.s n.w) else if n.up = true ∧ 0 < n.w.length then (Un.zero, 4) else if (recD n.s []).2.2 ≠ 0 then (Un.zero, (recD n.s []).2.2)
  else if n.u.same (recD n.s []).2.1 = false then (Un.zero, 4) else ((recD n.s n.w).2.1, (recD n.s n.w).2.2)
theorem recD_len (s t : List UInt8) : (recD s t).2.1.cells = [] ∨ (recD s t).2.1.cells.length = 60 := by
  unfold recD
  by_cases h1 : ckDisk s t = 0
  · rw [if_neg (not_not_intro h1)]
    by_cases h2 : (unitOf (recovered s t).2).2 = 0
    · rw [if_neg (not_not_intro h2)]
      refine Or.inr (unitOf_sixty (l := (recovered s t).2) ?_)
      rw [← h2]
    · rw [if_pos h2]
      exact Or.inl rfl
  · rw [if_pos h1]
    exact Or.inl rfl
theorem unit_set2 {W : World} {v : Value} {u : Un} (h : UnitAt W v u) (hl : u.cells = [] ∨ u.cells.length = 60) {b : Nat} {x y : Value} {T : TypeId} (hb : W.heap[b]? = some (.cells #[x, y] T)) (u1 u2 : Value) : UnitAt ((W.setCell ⟨b, 0, none⟩ u1).setCell ⟨b, 1, none⟩ u2) v u := by
  rcases hl with hl | hl
  · refine ⟨?_, h.room⟩
    obtain ⟨a, c, rfl, _⟩ := h.ents
    rw [hl]
    exact SlOf.nil _ _
  · exact unit_off2 h hl hb _ _
set_option linter.unusedSimpArgs false in
set_option maxHeartbeats 4000000 in
set_option maxRecDepth 100000 in
theorem checkNode_at (u : Un) (s t : List UInt8) (up : Bool) (a0 a1 a2 : Option Addr) (m0 k0 m1 k1 m2 k2 : Nat) (w : World) (hL : Laid w) (hU : UnitAt w (.slice a0 m0 k0) u) (hD : DiskR w (.slice a1 m1 k1) (.slice a2 m2 k2) (s, t))
    (hn0 : u.cells.length ≤ topN) (hn1 : s.length ≤ topLen) (hn2 : t.length ≤ topLen) :
    AnsU 80 #[.agg #[.int .i64 u.p, .slice a0 m0 k0, .slice a1 m1 k1, .slice a2 m2 k2, .bool up]] w (ckN ⟨u, s, t, up⟩) := by
  have hB0 := grew (grew (Below.refl w.heap.size w) (boxNb ⟨⟨u, s, t, up⟩, .slice a0 m0 k0, .slice a1 m1 k1, .slice a2 m2 k2⟩)) (boxU 0 (.slice none 0 0))
  have HB0 : Aside (Below w.heap.size w ((w.alloc (boxNb ⟨⟨u, s, t, up⟩, .slice a0 m0 k0, .slice a1 m1 k1, .slice a2 m2 k2⟩)).alloc (boxU 0 (.slice none 0 0)))) := hB0
  have HX0 : Aside (((w.alloc (boxNb ⟨⟨u, s, t, up⟩, .slice a0 m0 k0, .slice a1 m1 k1, .slice a2 m2 k2⟩)).alloc (boxU 0 (.slice none 0 0))).heap[w.heap.size]? = some (.cells #[.int .i64 u.p, .slice a0 m0 k0, .slice a1 m1 k1, .slice a2 m2 k2, .bool up] 49)) := heap_old (heap_new _ _) _
  have HY0 : Aside (((w.alloc (boxNb ⟨⟨u, s, t, up⟩, .slice a0 m0 k0, .slice a1 m1 k1, .slice a2 m2 k2⟩)).alloc (boxU 0 (.slice none 0 0))).heap[w.heap.size + 1]? = some (.cells #[.int .i64 0, .slice none 0 0] 44)) := by
    have := heap_new (w.alloc (boxNb ⟨⟨u, s, t, up⟩, .slice a0 m0 k0, .slice a1 m1 k1, .slice a2 m2 k2⟩)) (boxU 0 (.slice none 0 0))
    rwa [World.size_alloc] at this
  have HG : Hid (∀ W, Below w.heap.size w W → Laid W ∧ UnitAt W (.slice a0 m0 k0) u ∧ DiskR W (.slice a1 m1 k1) (.slice a2 m2 k2) (s, t) ∧ DiskR W (.slice a1 m1 k1) (.slice none 0 0) (s, [])) := fun W hb => ⟨hL.later hb, hU.later hb, hD.later hb, ⟨(hD.later hb).safe, SlOf.nil _ _, hD.room1, ⟨none, 0, 0, rfl, Nat.le_refl _⟩⟩⟩
  have HM : Hid (t.length = m2) := hD.wait.len
  have HN : Hid (u.cells.length ≤ topN ∧ s.length ≤ topLen ∧ t.length ≤ topLen) := ⟨hn0, hn1, hn2⟩
  obtain ⟨R, HR⟩ : ∃ R, Hid (ckN ⟨u, s, t, up⟩ = R) := ⟨_, rfl⟩
  rw [HR.out]
  clear hL hU hD hn0 hn1 hn2 hB0
  go_enter Tryz.func80, Tryz.ntmps80
  go_upto_region 1 with fail
  generalize (w.alloc (boxNb ⟨⟨u, s, t, up⟩, .slice a0 m0 k0, .slice a1 m1 k1, .slice a2 m2 k2⟩)).alloc (boxU 0 (.slice none 0 0)) = W0 at *
  have kd := diskCheck_any (.slice a1 m1 k1) (.slice a2 m2 k2) (s, t) W0 (HG.out W0 HB0.out).1 (HG.out W0 HB0.out).2.2.1 HN.out.2.1 HN.out.2.2
  dsimp only at kd
  have z : ∀ i, W0.cell? ⟨w.heap.size, i, none⟩ = #[Value.int .i64 u.p, .slice a0 m0 k0, .slice a1 m1 k1, .slice a2 m2 k2, .bool up][i]? := fun i => Joins.cell_of_block HX0.out i
  obtain ⟨d, HD⟩ : ∃ d, Hid (ckDisk s t = d) := ⟨_, rfl⟩
  rw [HD.out] at kd
  go_wp2_with fail
  refine kd.mono ?_
  rintro e w1 ⟨rfl, hb1⟩
  have HB1 : Aside (Below w.heap.size w w1) := step_below1 HB0.out hb1
  have HX1 : Aside (w1.heap[w.heap.size]? = some (.cells #[.int .i64 u.p, .slice a0 m0 k0, .slice a1 m1 k1, .slice a2 m2 k2, .bool up] 49)) := heap_below HX0.out hb1 (heap_lt HX0.out)
  have HY1 : Aside (w1.heap[w.heap.size + 1]? = some (.cells #[.int .i64 0, .slice none 0 0] 44)) := heap_below HY0.out hb1 (heap_lt HY0.out)
  clear kd z HB0 HX0 HY0 hb1
  have z1 : ∀ i, w1.cell? ⟨w.heap.size, i, none⟩ = #[Value.int .i64 u.p, .slice a0 m0 k0, .slice a1 m1 k1, .slice a2 m2 k2, .bool up][i]? := fun i => Joins.cell_of_block HX1.out i
  have y1 : ∀ i, w1.cell? ⟨w.heap.size + 1, i, none⟩ = #[Value.int .i64 0, .slice none 0 0][i]? := fun i => Joins.cell_of_block HY1.out i
  have f1 : ∀ i, w1.frozen? ⟨w.heap.size + 1, i, none⟩ = false := fun i => Joins.unfrozen_of_block HY1.out i
  by_cases hd : d = 0
  · subst hd
    have HD0 : Hid (ckDisk s t = 0) := HD.out
    have hm0 : t.length = m2 := HM.out
    by_cases hw : up = true ∧ 0 < m2
    · obtain ⟨rfl, hw2⟩ := hw
      have hR : R = (Un.zero, 4) := by rw [← HR.out, ckN]; dsimp only; rw [if_neg (by rw [HD0.out]; simp), if_pos ⟨rfl, by rw [HM.out]; exact hw2⟩]
      subst hR
      have hwi : decide (0 < m2) = true := by rw [decide_eq_true_iff]; omega
      clear HR HD HD0 hm0
      go_wp2
      exact ret_unit (p := 2) (q := 3) Tryz.results80 rfl rfl rfl (stored_two HY1.out rfl _ _) ⟨_, rfl, unit_nil _, below_two2 HB1.out (by omega) _ _⟩
    · have hR1 : R = if (recD s []).2.2 ≠ 0 then (Un.zero, (recD s []).2.2) else if u.same (recD s []).2.1 = false then (Un.zero, 4) else ((recD s t).2.1, (recD s t).2.2) := by rw [← HR.out, ckN]; dsimp only; rw [if_neg (by rw [HD0.out]; simp), if_neg (by rw [HM.out]; exact hw)]
      have HR1 : Hid _ := hR1
      have kr := w_recovered (.slice a1 m1 k1) (.slice none 0 0) s [] w1 (HG.out w1 HB1.out).1 (HG.out w1 HB1.out).2.2.2 HN.out.2.1 (Nat.zero_le _)
      obtain ⟨⟨Q0, Q1, q⟩, HQ⟩ : ∃ q, Hid (recD s [] = q) := ⟨_, rfl⟩
      rw [HQ.out] at kr
      have hwc : up = false ∨ (up = true ∧ decide (0 < m2) = false) := by
        cases up with
        | false => exact Or.inl rfl
        | true => exact Or.inr ⟨rfl, by rw [decide_eq_false_iff_not]; intro h; exact hw ⟨rfl, by omega⟩⟩
      clear hR1 HR HD hm0 hw
      rcases hwc with rfl | ⟨rfl, hwi⟩
      · go_wp2_with fail
        refine kr.mono ?_
        rintro e w2 ⟨u1, u2, v3, rfl, hD3, hU3, hb2⟩
        dsimp only at hU3 hD3
        obtain ⟨b1, bn1, bl1, rfl⟩ := roomy_sl hD3.room1
        obtain ⟨b2, bn2, bl2, rfl⟩ := roomy_sl hD3.room2
        obtain ⟨b3, bn3, bl3, rfl⟩ := roomy_sl hU3.room
        have hBA3 : Below w2.heap.size w2 ((w2.alloc (boxD (.slice b1 bn1 bl1) (.slice b2 bn2 bl2))).alloc (boxU Q1.p (.slice b3 bn3 bl3))) := grew (grew (Below.refl _ _) _) _
        have HB3 : Aside (Below w.heap.size w ((w2.alloc (boxD (.slice b1 bn1 bl1) (.slice b2 bn2 bl2))).alloc (boxU Q1.p (.slice b3 bn3 bl3)))) := step_below1 (step_below1 HB1.out hb2) hBA3
        have HX3 : Aside (((w2.alloc (boxD (.slice b1 bn1 bl1) (.slice b2 bn2 bl2))).alloc (boxU Q1.p (.slice b3 bn3 bl3))).heap[w.heap.size]? = some (.cells #[.int .i64 u.p, .slice a0 m0 k0, .slice a1 m1 k1, .slice a2 m2 k2, .bool false] 49)) := heap_below (heap_below HX1.out hb2 (heap_lt HX1.out)) hBA3 (heap_lt (heap_below HX1.out hb2 (heap_lt HX1.out)))
        have HY3 : Aside (((w2.alloc (boxD (.slice b1 bn1 bl1) (.slice b2 bn2 bl2))).alloc (boxU Q1.p (.slice b3 bn3 bl3))).heap[w.heap.size + 1]? = some (.cells #[.int .i64 0, .slice none 0 0] 44)) := heap_below (heap_below HY1.out hb2 (heap_lt HY1.out)) hBA3 (heap_lt (heap_below HY1.out hb2 (heap_lt HY1.out)))
        have HZ3 : Aside (((w2.alloc (boxD (.slice b1 bn1 bl1) (.slice b2 bn2 bl2))).alloc (boxU Q1.p (.slice b3 bn3 bl3))).heap[w2.heap.size + 1]? = some (boxU Q1.p (.slice b3 bn3 bl3))) := by
          have := heap_new (w2.alloc (boxD (.slice b1 bn1 bl1) (.slice b2 bn2 bl2))) (boxU Q1.p (.slice b3 bn3 bl3))
          rwa [World.size_alloc] at this
        have HU3 : Aside (UnitAt ((w2.alloc (boxD (.slice b1 bn1 bl1) (.slice b2 bn2 bl2))).alloc (boxU Q1.p (.slice b3 bn3 bl3))) (.slice b3 bn3 bl3) Q1) := hU3.later hBA3
        clear hD3 hU3 hBA3 hb2 kr z1 y1 f1 HX1 HY1 HB1
        go_upto_region 7 with fail
        generalize (w2.alloc (boxD (.slice b1 bn1 bl1) (.slice b2 bn2 bl2))).alloc (boxU Q1.p (.slice b3 bn3 bl3)) = W3 at *
        generalize w2.heap.size = d3 at *
        have z3 : ∀ i, W3.cell? ⟨w.heap.size, i, none⟩ = #[Value.int .i64 u.p, .slice a0 m0 k0, .slice a1 m1 k1, .slice a2 m2 k2, .bool false][i]? := fun i => Joins.cell_of_block HX3.out i
        have y3 : ∀ i, W3.cell? ⟨w.heap.size + 1, i, none⟩ = #[Value.int .i64 0, .slice none 0 0][i]? := fun i => Joins.cell_of_block HY3.out i
        have f3 : ∀ i, W3.frozen? ⟨w.heap.size + 1, i, none⟩ = false := fun i => Joins.unfrozen_of_block HY3.out i
        have q3 : ∀ i, W3.cell? ⟨d3 + 1, i, none⟩ = #[Value.int .i64 Q1.p, .slice b3 bn3 bl3][i]? := fun i => Joins.cell_of_block HZ3.out i
        by_cases hq : q = 0
        · subst hq
          have ks := unitSame_any (.slice a0 m0 k0) (.slice b3 bn3 bl3) u Q1 W3 (HG.out W3 HB3.out).2.1.ents HU3.out.ents HN.out.1
          obtain ⟨sb, HS⟩ : ∃ sb, Hid (decide (u = Q1) = sb) := ⟨_, rfl⟩
          rw [HS.out] at ks
          go_wp2_with fail
          refine ks.mono ?_
          rintro e w4 ⟨rfl, hb4⟩
          have HB4 : Aside (Below w.heap.size w w4) := step_below1 HB3.out hb4
          have HX4 : Aside (w4.heap[w.heap.size]? = some (.cells #[.int .i64 u.p, .slice a0 m0 k0, .slice a1 m1 k1, .slice a2 m2 k2, .bool false] 49)) := heap_below HX3.out hb4 (heap_lt HX3.out)
          have HY4 : Aside (w4.heap[w.heap.size + 1]? = some (.cells #[.int .i64 0, .slice none 0 0] 44)) := heap_below HY3.out hb4 (heap_lt HY3.out)
          clear ks z3 y3 f3 q3 HB3 HX3 HY3 HZ3 HU3 hb4
          have z4 : ∀ i, w4.cell? ⟨w.heap.size, i, none⟩ = #[Value.int .i64 u.p, .slice a0 m0 k0, .slice a1 m1 k1, .slice a2 m2 k2, .bool false][i]? := fun i => Joins.cell_of_block HX4.out i
          have y4 : ∀ i, w4.cell? ⟨w.heap.size + 1, i, none⟩ = #[Value.int .i64 0, .slice none 0 0][i]? := fun i => Joins.cell_of_block HY4.out i
          have f4 : ∀ i, w4.frozen? ⟨w.heap.size + 1, i, none⟩ = false := fun i => Joins.unfrozen_of_block HY4.out i
          cases sb with
          | false =>
            have hR : R = (Un.zero, 4) := by rw [HR1.out, HQ.out]; dsimp only; rw [if_neg (by simp), if_pos (by rw [← Bool.not_eq_true, Un.same_iff]; exact of_decide_eq_false HS.out)]
            subst hR
            clear HR1
            go_wp2
            exact ret_unit (p := 2) (q := 3) Tryz.results80 rfl rfl rfl (stored_two HY4.out rfl _ _) ⟨_, rfl, unit_nil _, below_two2 HB4.out (by omega) _ _⟩
          | true =>
            have kr2 := w_recovered (.slice a1 m1 k1) (.slice a2 m2 k2) s t w4 (HG.out w4 HB4.out).1 (HG.out w4 HB4.out).2.2.1 HN.out.2.1 HN.out.2.2
            obtain ⟨⟨P0, P1, p⟩, HP⟩ : ∃ q, Hid (recD s t = q) := ⟨_, rfl⟩
            have hR : R = (P1, p) := by rw [HR1.out, HQ.out, HP.out]; dsimp only; rw [if_neg (by simp), if_neg (by rw [Un.same_iff.2 (of_decide_eq_true HS.out)]; simp)]
            subst hR
            rw [HP.out] at kr2
            clear HR1
            go_wp2_with fail
            refine kr2.mono ?_
            rintro e w5 ⟨u3, u4, v4, rfl, hD6, hU6, hb5⟩
            dsimp only at hU6 hD6
            obtain ⟨c1, cn1, cl1, rfl⟩ := roomy_sl hD6.room1
            obtain ⟨c2, cn2, cl2, rfl⟩ := roomy_sl hD6.room2
            obtain ⟨c3, cn3, cl3, rfl⟩ := roomy_sl hU6.room
            have hBA6 : Below w5.heap.size w5 ((w5.alloc (boxD (.slice c1 cn1 cl1) (.slice c2 cn2 cl2))).alloc (boxU P1.p (.slice c3 cn3 cl3))) := grew (grew (Below.refl _ _) _) _
            have HB6 : Aside (Below w.heap.size w ((w5.alloc (boxD (.slice c1 cn1 cl1) (.slice c2 cn2 cl2))).alloc (boxU P1.p (.slice c3 cn3 cl3)))) := step_below1 (step_below1 HB4.out hb5) hBA6
            have HX6 : Aside (((w5.alloc (boxD (.slice c1 cn1 cl1) (.slice c2 cn2 cl2))).alloc (boxU P1.p (.slice c3 cn3 cl3))).heap[w.heap.size]? = some (.cells #[.int .i64 u.p, .slice a0 m0 k0, .slice a1 m1 k1, .slice a2 m2 k2, .bool false] 49)) := heap_below (heap_below HX4.out hb5 (heap_lt HX4.out)) hBA6 (heap_lt (heap_below HX4.out hb5 (heap_lt HX4.out)))
            have HY6 : Aside (((w5.alloc (boxD (.slice c1 cn1 cl1) (.slice c2 cn2 cl2))).alloc (boxU P1.p (.slice c3 cn3 cl3))).heap[w.heap.size + 1]? = some (.cells #[.int .i64 0, .slice none 0 0] 44)) := heap_below (heap_below HY4.out hb5 (heap_lt HY4.out)) hBA6 (heap_lt (heap_below HY4.out hb5 (heap_lt HY4.out)))
            have HZ6 : Aside (((w5.alloc (boxD (.slice c1 cn1 cl1) (.slice c2 cn2 cl2))).alloc (boxU P1.p (.slice c3 cn3 cl3))).heap[w5.heap.size + 1]? = some (boxU P1.p (.slice c3 cn3 cl3))) := by
              have := heap_new (w5.alloc (boxD (.slice c1 cn1 cl1) (.slice c2 cn2 cl2))) (boxU P1.p (.slice c3 cn3 cl3))
              rwa [World.size_alloc] at this
            have HU6 : Aside (UnitAt ((w5.alloc (boxD (.slice c1 cn1 cl1) (.slice c2 cn2 cl2))).alloc (boxU P1.p (.slice c3 cn3 cl3))) (.slice c3 cn3 cl3) P1) := hU6.later hBA6
            clear hD6 hU6 hBA6 hb5 kr2 z4 y4 f4 HX4 HY4 HB4
            go_upto_region 12 with fail
            generalize (w5.alloc (boxD (.slice c1 cn1 cl1) (.slice c2 cn2 cl2))).alloc (boxU P1.p (.slice c3 cn3 cl3)) = W6 at *
            generalize w5.heap.size = d6 at *
            have z6 : ∀ i, W6.cell? ⟨w.heap.size, i, none⟩ = #[Value.int .i64 u.p, .slice a0 m0 k0, .slice a1 m1 k1, .slice a2 m2 k2, .bool false][i]? := fun i => Joins.cell_of_block HX6.out i
            have y6 : ∀ i, W6.cell? ⟨w.heap.size + 1, i, none⟩ = #[Value.int .i64 0, .slice none 0 0][i]? := fun i => Joins.cell_of_block HY6.out i
            have f6 : ∀ i, W6.frozen? ⟨w.heap.size + 1, i, none⟩ = false := fun i => Joins.unfrozen_of_block HY6.out i
            have q6 : ∀ i, W6.cell? ⟨d6 + 1, i, none⟩ = #[Value.int .i64 P1.p, .slice c3 cn3 cl3][i]? := fun i => Joins.cell_of_block HZ6.out i
            go_wp2
            exact ret_unit (p := 2) (q := 3) Tryz.results80 rfl rfl rfl (stored_two HY6.out rfl _ _) ⟨_, rfl, unit_set2 HU6.out (by have := recD_len s t; rw [HP.out] at this; exact this) HY6.out _ _, below_two2 HB6.out (by omega) _ _⟩
        · have hR : R = (Un.zero, q) := by rw [HR1.out, HQ.out]; dsimp only; rw [if_pos hq]
          subst hR
          have hzq : (q != 0) = true := by rw [bne_iff_ne]; exact hq
          clear hq HR1
          go_wp2
          exact ret_unit (p := 2) (q := 3) Tryz.results80 rfl rfl rfl (stored_two HY3.out rfl _ _) ⟨_, rfl, unit_nil _, below_two2 HB3.out (by omega) _ _⟩
      · go_wp2_with fail
        refine kr.mono ?_
        rintro e w2 ⟨u1, u2, v3, rfl, hD3, hU3, hb2⟩
        dsimp only at hU3 hD3
        obtain ⟨b1, bn1, bl1, rfl⟩ := roomy_sl hD3.room1
        obtain ⟨b2, bn2, bl2, rfl⟩ := roomy_sl hD3.room2
        obtain ⟨b3, bn3, bl3, rfl⟩ := roomy_sl hU3.room
        have hBA3 : Below w2.heap.size w2 ((w2.alloc (boxD (.slice b1 bn1 bl1) (.slice b2 bn2 bl2))).alloc (boxU Q1.p (.slice b3 bn3 bl3))) := grew (grew (Below.refl _ _) _) _
        have HB3 : Aside (Below w.heap.size w ((w2.alloc (boxD (.slice b1 bn1 bl1) (.slice b2 bn2 bl2))).alloc (boxU Q1.p (.slice b3 bn3 bl3)))) := step_below1 (step_below1 HB1.out hb2) hBA3
        have HX3 : Aside (((w2.alloc (boxD (.slice b1 bn1 bl1) (.slice b2 bn2 bl2))).alloc (boxU Q1.p (.slice b3 bn3 bl3))).heap[w.heap.size]? = some (.cells #[.int .i64 u.p, .slice a0 m0 k0, .slice a1 m1 k1, .slice a2 m2 k2, .bool true] 49)) := heap_below (heap_below HX1.out hb2 (heap_lt HX1.out)) hBA3 (heap_lt (heap_below HX1.out hb2 (heap_lt HX1.out)))
        have HY3 : Aside (((w2.alloc (boxD (.slice b1 bn1 bl1) (.slice b2 bn2 bl2))).alloc (boxU Q1.p (.slice b3 bn3 bl3))).heap[w.heap.size + 1]? = some (.cells #[.int .i64 0, .slice none 0 0] 44)) := heap_below (heap_below HY1.out hb2 (heap_lt HY1.out)) hBA3 (heap_lt (heap_below HY1.out hb2 (heap_lt HY1.out)))
        have HZ3 : Aside (((w2.alloc (boxD (.slice b1 bn1 bl1) (.slice b2 bn2 bl2))).alloc (boxU Q1.p (.slice b3 bn3 bl3))).heap[w2.heap.size + 1]? = some (boxU Q1.p (.slice b3 bn3 bl3))) := by
          have := heap_new (w2.alloc (boxD (.slice b1 bn1 bl1) (.slice b2 bn2 bl2))) (boxU Q1.p (.slice b3 bn3 bl3))
          rwa [World.size_alloc] at this
        have HU3 : Aside (UnitAt ((w2.alloc (boxD (.slice b1 bn1 bl1) (.slice b2 bn2 bl2))).alloc (boxU Q1.p (.slice b3 bn3 bl3))) (.slice b3 bn3 bl3) Q1) := hU3.later hBA3
        clear hD3 hU3 hBA3 hb2 kr z1 y1 f1 HX1 HY1 HB1
        go_upto_region 7 with fail
        generalize (w2.alloc (boxD (.slice b1 bn1 bl1) (.slice b2 bn2 bl2))).alloc (boxU Q1.p (.slice b3 bn3 bl3)) = W3 at *
        generalize w2.heap.size = d3 at *
        have z3 : ∀ i, W3.cell? ⟨w.heap.size, i, none⟩ = #[Value.int .i64 u.p, .slice a0 m0 k0, .slice a1 m1 k1, .slice a2 m2 k2, .bool true][i]? := fun i => Joins.cell_of_block HX3.out i
        have y3 : ∀ i, W3.cell? ⟨w.heap.size + 1, i, none⟩ = #[Value.int .i64 0, .slice none 0 0][i]? := fun i => Joins.cell_of_block HY3.out i
        have f3 : ∀ i, W3.frozen? ⟨w.heap.size + 1, i, none⟩ = false := fun i => Joins.unfrozen_of_block HY3.out i
        have q3 : ∀ i, W3.cell? ⟨d3 + 1, i, none⟩ = #[Value.int .i64 Q1.p, .slice b3 bn3 bl3][i]? := fun i => Joins.cell_of_block HZ3.out i
        by_cases hq : q = 0
        · subst hq
          have ks := unitSame_any (.slice a0 m0 k0) (.slice b3 bn3 bl3) u Q1 W3 (HG.out W3 HB3.out).2.1.ents HU3.out.ents HN.out.1
          obtain ⟨sb, HS⟩ : ∃ sb, Hid (decide (u = Q1) = sb) := ⟨_, rfl⟩
          rw [HS.out] at ks
          go_wp2_with fail
          refine ks.mono ?_
          rintro e w4 ⟨rfl, hb4⟩
          have HB4 : Aside (Below w.heap.size w w4) := step_below1 HB3.out hb4
          have HX4 : Aside (w4.heap[w.heap.size]? = some (.cells #[.int .i64 u.p, .slice a0 m0 k0, .slice a1 m1 k1, .slice a2 m2 k2, .bool true] 49)) := heap_below HX3.out hb4 (heap_lt HX3.out)
          have HY4 : Aside (w4.heap[w.heap.size + 1]? = some (.cells #[.int .i64 0, .slice none 0 0] 44)) := heap_below HY3.out hb4 (heap_lt HY3.out)
          clear ks z3 y3 f3 q3 HB3 HX3 HY3 HZ3 HU3 hb4
          have z4 : ∀ i, w4.cell? ⟨w.heap.size, i, none⟩ = #[Value.int .i64 u.p, .slice a0 m0 k0, .slice a1 m1 k1, .slice a2 m2 k2, .bool true][i]? := fun i => Joins.cell_of_block HX4.out i
          have y4 : ∀ i, w4.cell? ⟨w.heap.size + 1, i, none⟩ = #[Value.int .i64 0, .slice none 0 0][i]? := fun i => Joins.cell_of_block HY4.out i
          have f4 : ∀ i, w4.frozen? ⟨w.heap.size + 1, i, none⟩ = false := fun i => Joins.unfrozen_of_block HY4.out i
          cases sb with
          | false =>
            have hR : R = (Un.zero, 4) := by rw [HR1.out, HQ.out]; dsimp only; rw [if_neg (by simp), if_pos (by rw [← Bool.not_eq_true, Un.same_iff]; exact of_decide_eq_false HS.out)]
            subst hR
            clear HR1
            go_wp2
            exact ret_unit (p := 2) (q := 3) Tryz.results80 rfl rfl rfl (stored_two HY4.out rfl _ _) ⟨_, rfl, unit_nil _, below_two2 HB4.out (by omega) _ _⟩
          | true =>
            have kr2 := w_recovered (.slice a1 m1 k1) (.slice a2 m2 k2) s t w4 (HG.out w4 HB4.out).1 (HG.out w4 HB4.out).2.2.1 HN.out.2.1 HN.out.2.2
            obtain ⟨⟨P0, P1, p⟩, HP⟩ : ∃ q, Hid (recD s t = q) := ⟨_, rfl⟩
            have hR : R = (P1, p) := by rw [HR1.out, HQ.out, HP.out]; dsimp only; rw [if_neg (by simp), if_neg (by rw [Un.same_iff.2 (of_decide_eq_true HS.out)]; simp)]
            subst hR
            rw [HP.out] at kr2
            clear HR1
            go_wp2_with fail
            refine kr2.mono ?_
            rintro e w5 ⟨u3, u4, v4, rfl, hD6, hU6, hb5⟩
            dsimp only at hU6 hD6
            obtain ⟨c1, cn1, cl1, rfl⟩ := roomy_sl hD6.room1
            obtain ⟨c2, cn2, cl2, rfl⟩ := roomy_sl hD6.room2
            obtain ⟨c3, cn3, cl3, rfl⟩ := roomy_sl hU6.room
            have hBA6 : Below w5.heap.size w5 ((w5.alloc (boxD (.slice c1 cn1 cl1) (.slice c2 cn2 cl2))).alloc (boxU P1.p (.slice c3 cn3 cl3))) := grew (grew (Below.refl _ _) _) _
            have HB6 : Aside (Below w.heap.size w ((w5.alloc (boxD (.slice c1 cn1 cl1) (.slice c2 cn2 cl2))).alloc (boxU P1.p (.slice c3 cn3 cl3)))) := step_below1 (step_below1 HB4.out hb5) hBA6
            have HX6 : Aside (((w5.alloc (boxD (.slice c1 cn1 cl1) (.slice c2 cn2 cl2))).alloc (boxU P1.p (.slice c3 cn3 cl3))).heap[w.heap.size]? = some (.cells #[.int .i64 u.p, .slice a0 m0 k0, .slice a1 m1 k1, .slice a2 m2 k2, .bool true] 49)) := heap_below (heap_below HX4.out hb5 (heap_lt HX4.out)) hBA6 (heap_lt (heap_below HX4.out hb5 (heap_lt HX4.out)))
            have HY6 : Aside (((w5.alloc (boxD (.slice c1 cn1 cl1) (.slice c2 cn2 cl2))).alloc (boxU P1.p (.slice c3 cn3 cl3))).heap[w.heap.size + 1]? = some (.cells #[.int .i64 0, .slice none 0 0] 44)) := heap_below (heap_below HY4.out hb5 (heap_lt HY4.out)) hBA6 (heap_lt (heap_below HY4.out hb5 (heap_lt HY4.out)))
            have HZ6 : Aside (((w5.alloc (boxD (.slice c1 cn1 cl1) (.slice c2 cn2 cl2))).alloc (boxU P1.p (.slice c3 cn3 cl3))).heap[w5.heap.size + 1]? = some (boxU P1.p (.slice c3 cn3 cl3))) := by
              have := heap_new (w5.alloc (boxD (.slice c1 cn1 cl1) (.slice c2 cn2 cl2))) (boxU P1.p (.slice c3 cn3 cl3))
              rwa [World.size_alloc] at this
            have HU6 : Aside (UnitAt ((w5.alloc (boxD (.slice c1 cn1 cl1) (.slice c2 cn2 cl2))).alloc (boxU P1.p (.slice c3 cn3 cl3))) (.slice c3 cn3 cl3) P1) := hU6.later hBA6
            clear hD6 hU6 hBA6 hb5 kr2 z4 y4 f4 HX4 HY4 HB4
            go_upto_region 12 with fail
            generalize (w5.alloc (boxD (.slice c1 cn1 cl1) (.slice c2 cn2 cl2))).alloc (boxU P1.p (.slice c3 cn3 cl3)) = W6 at *
            generalize w5.heap.size = d6 at *
            have z6 : ∀ i, W6.cell? ⟨w.heap.size, i, none⟩ = #[Value.int .i64 u.p, .slice a0 m0 k0, .slice a1 m1 k1, .slice a2 m2 k2, .bool true][i]? := fun i => Joins.cell_of_block HX6.out i
            have y6 : ∀ i, W6.cell? ⟨w.heap.size + 1, i, none⟩ = #[Value.int .i64 0, .slice none 0 0][i]? := fun i => Joins.cell_of_block HY6.out i
            have f6 : ∀ i, W6.frozen? ⟨w.heap.size + 1, i, none⟩ = false := fun i => Joins.unfrozen_of_block HY6.out i
            have q6 : ∀ i, W6.cell? ⟨d6 + 1, i, none⟩ = #[Value.int .i64 P1.p, .slice c3 cn3 cl3][i]? := fun i => Joins.cell_of_block HZ6.out i
            go_wp2
            exact ret_unit (p := 2) (q := 3) Tryz.results80 rfl rfl rfl (stored_two HY6.out rfl _ _) ⟨_, rfl, unit_set2 HU6.out (by have := recD_len s t; rw [HP.out] at this; exact this) HY6.out _ _, below_two2 HB6.out (by omega) _ _⟩
        · have hR : R = (Un.zero, q) := by rw [HR1.out, HQ.out]; dsimp only; rw [if_pos hq]
          subst hR
          have hzq : (q != 0) = true := by rw [bne_iff_ne]; exact hq
          clear hq HR1
          go_wp2
          exact ret_unit (p := 2) (q := 3) Tryz.results80 rfl rfl rfl (stored_two HY3.out rfl _ _) ⟨_, rfl, unit_nil _, below_two2 HB3.out (by omega) _ _⟩
  · have hR : R = (Un.zero, d) := by rw [← HR.out, ckN]; dsimp only; rw [if_pos (by rw [HD.out]; exact hd), HD.out]
    subst hR
    have hz : (d != 0) = true := by rw [bne_iff_ne]; exact hd
    clear hd HR
    go_wp2
    exact ret_unit (p := 2) (q := 3) Tryz.results80 rfl rfl rfl (stored_two HY1.out rfl _ _) ⟨_, rfl, unit_nil _, below_two2 HB1.out (by omega) _ _⟩
end Go.Proofs.YtmoaobfmopimlafGreatDoor
