/- For the law. -/
import Derived.Test.YtmoaobfmopimlafGreatDoorM51
set_option linter.unusedSimpArgs false
set_option linter.unusedVariables false
namespace Go.Proofs.YtmoaobfmopimlafGreatDoor
open Go.RowKit
section
open scoped Classical
theorem linkOf_err (us : List Un) (k a : Int) (x : En) (ep : Int) : (linkOf us k a x ep).2.2 = if ckChain us ≠ 0 then ckChain us else if ¬ (0 ≤ k ∧ k ≤ 2) ∨ ¬ (0 ≤ a ∧ a ≤ 59) then 5 else if x.chk ≠ 0 then x.chk else if (us.getD k.toNat Un.zero).p ≠ ep then 8 else if 1 ≤ k ∧ ¬ x = plc us (k.toNat - 1) a.toNat then 7 else 0 := by
 unfold linkOf
 iterate 5 (split; · rfl)
 split <;> rfl
theorem linkOf_bad {us : List Un} {k a : Int} {x : En} {ep : Int} (h : (linkOf us k a x ep).2.2 ≠ 0) : linkOf us k a x ep = (Rc.zero, En.zero, (linkOf us k a x ep).2.2) := by
 unfold linkOf at h ⊢
 by_cases h1 : ckChain us ≠ 0
 ·rw [if_pos h1]
 ·rw [if_neg h1] at h ⊢
  by_cases h2 : ¬ (0 ≤ k ∧ k ≤ 2) ∨ ¬ (0 ≤ a ∧ a ≤ 59)
  ·rw [if_pos h2]
  ·rw [if_neg h2] at h ⊢
   by_cases h3 : x.chk ≠ 0
   ·rw [if_pos h3]
   ·rw [if_neg h3] at h ⊢
    by_cases h4 : (us.getD k.toNat Un.zero).p ≠ ep
    ·rw [if_pos h4]
    ·rw [if_neg h4] at h ⊢
     by_cases h5 : 1 ≤ k ∧ ¬ x = plc us (k.toNat - 1) a.toNat
     ·rw [if_pos h5]
     ·rw [if_neg h5] at h
      split at h <;> exact absurd rfl h
set_option maxHeartbeats 4000000 in
set_option maxRecDepth 100000 in
theorem may_ck (v : Value) (xs : List Ub) (k a ep : Int) (x : En) (w : World) (h : ChAt w v xs) (d : Int) (hd : ckChain (unitsOf xs) = d) (hz : (d != 0) = true) :
  Calls Tryz.prog 132 #[v, .int .i64 k, .int .i64 a, x.val, .int .i64 ep] w fun e w' => e = .returned (.int .i64 (d)) ∧ Below w.heap.size w w' := by
 have HB0 : Aside (Below w.heap.size w (w.alloc (boxE x.k x.j x.v x.t x.c))) := grew (Below.refl _ _) _
 have HX0 : Aside ((w.alloc (boxE x.k x.j x.v x.t x.c)).heap[w.heap.size]? = some (boxE x.k x.j x.v x.t x.c)) := heap_new _ _
 have hck := chCheck_any v xs _ (h.later HB0.out)
 rw [hd] at hck
 clear h hd
 go_enter Tryz.func132, Tryz.ntmps132
 go_wp2_with fail
 refine hck.mono ?_
 rintro e w1 ⟨rfl, hb1⟩
 have HX1 := hv HX0 hb1
 have HB1 := sb HB0 hb1
 clear hb1 HX0 HB0
 clear hck
 go_wp2
 go_ret
 exact ⟨rfl, HB1.out⟩
set_option maxHeartbeats 4000000 in
set_option maxRecDepth 100000 in
theorem may_who (b off c : Nat) (k a ep : Int) (x : En) (xs : List Ub) (w : World) (h : ChAt w (.slice (some ⟨b, off, none⟩) 3 c) xs) (hd : ckChain (unitsOf xs) = 0) (hr : k < 0 ∨ (¬ k < 0 ∧ 3 ≤ k) ∨ (¬ k < 0 ∧ ¬ 3 ≤ k ∧ ¬ (0 ≤ a ∧ a ≤ 59))) :
  Calls Tryz.prog 132 #[.slice (some ⟨b, off, none⟩) 3 c, .int .i64 k, .int .i64 a, x.val, .int .i64 ep] w fun e w' => e = .returned (.int .i64 (5)) ∧ Below w.heap.size w w' := by
 have HB0 : Aside (Below w.heap.size w (w.alloc (boxE x.k x.j x.v x.t x.c))) := grew (Below.refl _ _) _
 have HX0 : Aside ((w.alloc (boxE x.k x.j x.v x.t x.c)).heap[w.heap.size]? = some (boxE x.k x.j x.v x.t x.c)) := heap_new _ _
 have hck := chCheck_any _ xs _ (h.later HB0.out)
 rw [hd] at hck
 clear h hd
 go_enter Tryz.func132, Tryz.ntmps132
 go_wp2_with fail
 refine hck.mono ?_
 rintro e w1 ⟨rfl, hb1⟩
 have HX1 := hv HX0 hb1
 have HB1 := sb HB0 hb1
 clear hb1 HX0 HB0
 clear hck
 rcases hr with hr | ⟨hr, hr2⟩ | ⟨hr, hr2, hr3⟩
 ·go_wp2
  go_ret
  exact ⟨rfl, HB1.out⟩
 ·go_wp2
  go_ret
  exact ⟨rfl, HB1.out⟩
 ·have kp := fun W => isPlace_any a W
  rw [decide_eq_false hr3] at kp
  clear hr3
  go_wp2_with fail
  refine (kp _).mono ?_
  rintro e w2 ⟨rfl, rfl⟩
  go_wp2
  go_ret
  exact ⟨rfl, HB1.out⟩
set_option maxHeartbeats 4000000 in
set_option maxRecDepth 100000 in
theorem may_chk (b off c : Nat) (k a ep : Int) (x : En) (xs : List Ub) (w : World) (h : ChAt w (.slice (some ⟨b, off, none⟩) 3 c) xs) (hd : ckChain (unitsOf xs) = 0) (hk : ¬ k < 0) (hk2 : ¬ 3 ≤ k) (ha : 0 ≤ a ∧ a ≤ 59) (d : Int) (hx : x.chk = d) (hz : (d != 0) = true) :
  Calls Tryz.prog 132 #[.slice (some ⟨b, off, none⟩) 3 c, .int .i64 k, .int .i64 a, x.val, .int .i64 ep] w fun e w' => e = .returned (.int .i64 (d)) ∧ Below w.heap.size w w' := by
 have HB0 : Aside (Below w.heap.size w (w.alloc (boxE x.k x.j x.v x.t x.c))) := grew (Below.refl _ _) _
 have HX0 : Aside ((w.alloc (boxE x.k x.j x.v x.t x.c)).heap[w.heap.size]? = some (boxE x.k x.j x.v x.t x.c)) := heap_new _ _
 have hck := chCheck_any _ xs _ (h.later HB0.out)
 rw [hd] at hck
 have kp := fun W => isPlace_any a W
 rw [decide_eq_true ha] at kp
 have hce : ∀ W, Calls Tryz.prog 115 #[ev x.k x.j x.v x.t x.c] W fun e w' => e = .returned (.int .i64 x.chk) ∧ Below W.heap.size W w' := fun W => check_any x.k x.j x.v x.t x.c W
 rw [hx] at hce
 clear h hd ha hx
 go_enter Tryz.func132, Tryz.ntmps132
 go_wp2_with fail
 refine hck.mono ?_
 rintro e w1 ⟨rfl, hb1⟩
 have HX1 := hv HX0 hb1
 have HB1 := sb HB0 hb1
 clear hb1 HX0 HB0
 clear hck
 go_wp2_with fail
 refine (kp _).mono ?_
 rintro e w1 ⟨rfl, rfl⟩
 have zx := cb HX1
 go_wp2_with fail
 refine (hce _).mono ?_
 rintro e w3 ⟨rfl, hb3⟩
 have HX3 := hv HX1 hb3
 have HB3 := sb HB1 hb3
 clear hb3 HX1 HB1
 clear hce zx kp
 go_wp2
 go_ret
 exact ⟨rfl, HB3.out⟩
set_option maxHeartbeats 4000000 in
set_option maxRecDepth 100000 in
theorem may0_old (b off c m : Nat) (ep : Int) (x : En) (U0 U1 U2 : Un) (a0 a1 a2 : Option Addr) (c0 c1 c2 : Nat) (w : World) (hch : ChAt w (.slice (some ⟨b, off, none⟩) 3 c) [⟨U0, .slice a0 60 c0⟩, ⟨U1, .slice a1 60 c1⟩, ⟨U2, .slice a2 60 c2⟩]) (hd : ckChain [U0, U1, U2] = 0) (hm : m < 60) (hx : x.chk = 0) (hep : (ep != U0.p) = true) :
  Calls Tryz.prog 132 #[.slice (some ⟨b, off, none⟩) 3 c, .int .i64 0, .int .i64 (m : Int), x.val, .int .i64 ep] w fun e w' => e = .returned (.int .i64 (8)) ∧ Below w.heap.size w w' := by
 have HB0 : Aside (Below w.heap.size w (w.alloc (boxE x.k x.j x.v x.t x.c))) := grew (Below.refl _ _) _
 have HX0 : Aside ((w.alloc (boxE x.k x.j x.v x.t x.c)).heap[w.heap.size]? = some (boxE x.k x.j x.v x.t x.c)) := heap_new _ _
 have hck := chCheck_any _ _ _ (hch.later HB0.out)
 rw [show ckChain (unitsOf [⟨U0, .slice a0 60 c0⟩, ⟨U1, .slice a1 60 c1⟩, ⟨U2, .slice a2 60 c2⟩]) = 0 from hd] at hck
 have kp := fun W => isPlace_any (m : Int) W
 rw [decide_eq_true (by omega)] at kp
 have hce : ∀ W, Calls Tryz.prog 115 #[ev x.k x.j x.v x.t x.c] W fun e w' => e = .returned (.int .i64 x.chk) ∧ Below W.heap.size W w' := fun W => check_any x.k x.j x.v x.t x.c W
 rw [hx] at hce
 have HCH : Aside (ChAt w (.slice (some ⟨b, off, none⟩) 3 c) [⟨U0, .slice a0 60 c0⟩, ⟨U1, .slice a1 60 c1⟩, ⟨U2, .slice a2 60 c2⟩]) := hch
 have hmi : (m : Int) < 60 := by omega
 have hm0 : (0 : Int) ≤ (m : Int) := by omega
 clear hch hd hx
 go_enter Tryz.func132, Tryz.ntmps132
 go_wp2_with fail
 refine hck.mono ?_
 rintro e w1 ⟨rfl, hb1⟩
 have HX1 := hv HX0 hb1
 have HB1 := sb HB0 hb1
 clear hb1 HX0 HB0
 clear hck
 go_wp2_with fail
 refine (kp _).mono ?_
 rintro e w1 ⟨rfl, rfl⟩
 have zx := cb HX1
 go_wp2_with fail
 refine (hce _).mono ?_
 rintro e w3 ⟨rfl, hb3⟩
 have HX3 := hv HX1 hb3
 have HB3 := sb HB1 hb3
 clear hb3 HX1 HB1
 clear hce zx kp
 have hc3 := HCH.out.later HB3.out
 obtain ⟨b3, off3, eb3, hrow3⟩ := hc3.rows.at (by omega)
 injection eb3 with eb3
 injection eb3 with eb4 eb5 _
 subst eb4 eb5
 obtain ⟨⟨p0, s0⟩, ⟨p1, s1⟩, ⟨p2, s2⟩⟩ := row_three hrow3
 clear hrow3 hc3 HCH
 go_wp2
 go_ret
 exact ⟨rfl, HB3.out⟩
set_option maxHeartbeats 4000000 in
set_option maxRecDepth 100000 in
theorem may0_ok (b off c m : Nat) (ep : Int) (x : En) (U0 U1 U2 : Un) (a0 a1 a2 : Option Addr) (c0 c1 c2 : Nat) (w : World) (hch : ChAt w (.slice (some ⟨b, off, none⟩) 3 c) [⟨U0, .slice a0 60 c0⟩, ⟨U1, .slice a1 60 c1⟩, ⟨U2, .slice a2 60 c2⟩]) (hd : ckChain [U0, U1, U2] = 0) (hm : m < 60) (hx : x.chk = 0) (hep : (ep != U0.p) = false) :
  Calls Tryz.prog 132 #[.slice (some ⟨b, off, none⟩) 3 c, .int .i64 0, .int .i64 (m : Int), x.val, .int .i64 ep] w fun e w' => e = .returned (.int .i64 (0)) ∧ Below w.heap.size w w' := by
 have HB0 : Aside (Below w.heap.size w (w.alloc (boxE x.k x.j x.v x.t x.c))) := grew (Below.refl _ _) _
 have HX0 : Aside ((w.alloc (boxE x.k x.j x.v x.t x.c)).heap[w.heap.size]? = some (boxE x.k x.j x.v x.t x.c)) := heap_new _ _
 have hck := chCheck_any _ _ _ (hch.later HB0.out)
 rw [show ckChain (unitsOf [⟨U0, .slice a0 60 c0⟩, ⟨U1, .slice a1 60 c1⟩, ⟨U2, .slice a2 60 c2⟩]) = 0 from hd] at hck
 have kp := fun W => isPlace_any (m : Int) W
 rw [decide_eq_true (by omega)] at kp
 have hce : ∀ W, Calls Tryz.prog 115 #[ev x.k x.j x.v x.t x.c] W fun e w' => e = .returned (.int .i64 x.chk) ∧ Below W.heap.size W w' := fun W => check_any x.k x.j x.v x.t x.c W
 rw [hx] at hce
 have HCH : Aside (ChAt w (.slice (some ⟨b, off, none⟩) 3 c) [⟨U0, .slice a0 60 c0⟩, ⟨U1, .slice a1 60 c1⟩, ⟨U2, .slice a2 60 c2⟩]) := hch
 have hmi : (m : Int) < 60 := by omega
 have hm0 : (0 : Int) ≤ (m : Int) := by omega
 clear hch hd hx
 go_enter Tryz.func132, Tryz.ntmps132
 go_wp2_with fail
 refine hck.mono ?_
 rintro e w1 ⟨rfl, hb1⟩
 have HX1 := hv HX0 hb1
 have HB1 := sb HB0 hb1
 clear hb1 HX0 HB0
 clear hck
 go_wp2_with fail
 refine (kp _).mono ?_
 rintro e w1 ⟨rfl, rfl⟩
 have zx := cb HX1
 go_wp2_with fail
 refine (hce _).mono ?_
 rintro e w3 ⟨rfl, hb3⟩
 have HX3 := hv HX1 hb3
 have HB3 := sb HB1 hb3
 clear hb3 HX1 HB1
 clear hce zx kp
 have hc3 := HCH.out.later HB3.out
 obtain ⟨b3, off3, eb3, hrow3⟩ := hc3.rows.at (by omega)
 injection eb3 with eb3
 injection eb3 with eb4 eb5 _
 subst eb4 eb5
 obtain ⟨⟨p0, s0⟩, ⟨p1, s1⟩, ⟨p2, s2⟩⟩ := row_three hrow3
 clear hrow3 hc3 HCH
 have zx := cb HX3
 go_wp2_with fail
 go_quiet (fail)
 go_wp2
 go_ret
 exact ⟨rfl, below_drewN HB3.out _⟩
set_option maxHeartbeats 4000000 in
set_option maxRecDepth 100000 in
theorem may1_old (b off c m : Nat) (ep : Int) (x : En) (U0 U1 U2 : Un) (a0 a1 a2 : Option Addr) (c0 c1 c2 : Nat) (w : World) (hch : ChAt w (.slice (some ⟨b, off, none⟩) 3 c) [⟨U0, .slice a0 60 c0⟩, ⟨U1, .slice a1 60 c1⟩, ⟨U2, .slice a2 60 c2⟩]) (hd : ckChain [U0, U1, U2] = 0) (hm : m < 60) (hx : x.chk = 0) (hep : (ep != U1.p) = true) :
  Calls Tryz.prog 132 #[.slice (some ⟨b, off, none⟩) 3 c, .int .i64 1, .int .i64 (m : Int), x.val, .int .i64 ep] w fun e w' => e = .returned (.int .i64 (8)) ∧ Below w.heap.size w w' := by
 have HB0 : Aside (Below w.heap.size w (w.alloc (boxE x.k x.j x.v x.t x.c))) := grew (Below.refl _ _) _
 have HX0 : Aside ((w.alloc (boxE x.k x.j x.v x.t x.c)).heap[w.heap.size]? = some (boxE x.k x.j x.v x.t x.c)) := heap_new _ _
 have hck := chCheck_any _ _ _ (hch.later HB0.out)
 rw [show ckChain (unitsOf [⟨U0, .slice a0 60 c0⟩, ⟨U1, .slice a1 60 c1⟩, ⟨U2, .slice a2 60 c2⟩]) = 0 from hd] at hck
 have kp := fun W => isPlace_any (m : Int) W
 rw [decide_eq_true (by omega)] at kp
 have hce : ∀ W, Calls Tryz.prog 115 #[ev x.k x.j x.v x.t x.c] W fun e w' => e = .returned (.int .i64 x.chk) ∧ Below W.heap.size W w' := fun W => check_any x.k x.j x.v x.t x.c W
 rw [hx] at hce
 have HCH : Aside (ChAt w (.slice (some ⟨b, off, none⟩) 3 c) [⟨U0, .slice a0 60 c0⟩, ⟨U1, .slice a1 60 c1⟩, ⟨U2, .slice a2 60 c2⟩]) := hch
 have hmi : (m : Int) < 60 := by omega
 have hm0 : (0 : Int) ≤ (m : Int) := by omega
 clear hch hd hx
 go_enter Tryz.func132, Tryz.ntmps132
 go_wp2_with fail
 refine hck.mono ?_
 rintro e w1 ⟨rfl, hb1⟩
 have HX1 := hv HX0 hb1
 have HB1 := sb HB0 hb1
 clear hb1 HX0 HB0
 clear hck
 go_wp2_with fail
 refine (kp _).mono ?_
 rintro e w1 ⟨rfl, rfl⟩
 have zx := cb HX1
 go_wp2_with fail
 refine (hce _).mono ?_
 rintro e w3 ⟨rfl, hb3⟩
 have HX3 := hv HX1 hb3
 have HB3 := sb HB1 hb3
 clear hb3 HX1 HB1
 clear hce zx kp
 have hc3 := HCH.out.later HB3.out
 obtain ⟨b3, off3, eb3, hrow3⟩ := hc3.rows.at (by omega)
 injection eb3 with eb3
 injection eb3 with eb4 eb5 _
 subst eb4 eb5
 obtain ⟨⟨p0, s0⟩, ⟨p1, s1⟩, ⟨p2, s2⟩⟩ := row_three hrow3
 clear hrow3 hc3 HCH
 go_wp2
 go_ret
 exact ⟨rfl, HB3.out⟩
set_option maxHeartbeats 4000000 in
set_option maxRecDepth 100000 in
theorem may1_late (b off c m : Nat) (ep : Int) (x : En) (U0 U1 U2 : Un) (a0 a1 a2 : Option Addr) (c0 c1 c2 : Nat) (w : World) (hch : ChAt w (.slice (some ⟨b, off, none⟩) 3 c) [⟨U0, .slice a0 60 c0⟩, ⟨U1, .slice a1 60 c1⟩, ⟨U2, .slice a2 60 c2⟩]) (hd : ckChain [U0, U1, U2] = 0) (hm : m < 60) (hx : x.chk = 0) (z : En) (hzz : U0.cells[m]? = some z) (hep : (ep != U1.p) = false) (hun : unlike z.k z.j z.v z.t z.c x.k x.j x.v x.t x.c = true) :
  Calls Tryz.prog 132 #[.slice (some ⟨b, off, none⟩) 3 c, .int .i64 1, .int .i64 (m : Int), x.val, .int .i64 ep] w fun e w' => e = .returned (.int .i64 (7)) ∧ Below w.heap.size w w' := by
 have HB0 : Aside (Below w.heap.size w (w.alloc (boxE x.k x.j x.v x.t x.c))) := grew (Below.refl _ _) _
 have HX0 : Aside ((w.alloc (boxE x.k x.j x.v x.t x.c)).heap[w.heap.size]? = some (boxE x.k x.j x.v x.t x.c)) := heap_new _ _
 have hck := chCheck_any _ _ _ (hch.later HB0.out)
 rw [show ckChain (unitsOf [⟨U0, .slice a0 60 c0⟩, ⟨U1, .slice a1 60 c1⟩, ⟨U2, .slice a2 60 c2⟩]) = 0 from hd] at hck
 have kp := fun W => isPlace_any (m : Int) W
 rw [decide_eq_true (by omega)] at kp
 have hce : ∀ W, Calls Tryz.prog 115 #[ev x.k x.j x.v x.t x.c] W fun e w' => e = .returned (.int .i64 x.chk) ∧ Below W.heap.size W w' := fun W => check_any x.k x.j x.v x.t x.c W
 rw [hx] at hce
 have HCH : Aside (ChAt w (.slice (some ⟨b, off, none⟩) 3 c) [⟨U0, .slice a0 60 c0⟩, ⟨U1, .slice a1 60 c1⟩, ⟨U2, .slice a2 60 c2⟩]) := hch
 have HZ : Hid (U0.cells[m]? = some z) := hzz
 have hmi : (m : Int) < 60 := by omega
 have hm0 : (0 : Int) ≤ (m : Int) := by omega
 clear hch hd hx hzz
 go_enter Tryz.func132, Tryz.ntmps132
 go_wp2_with fail
 refine hck.mono ?_
 rintro e w1 ⟨rfl, hb1⟩
 have HX1 := hv HX0 hb1
 have HB1 := sb HB0 hb1
 clear hb1 HX0 HB0
 clear hck
 go_wp2_with fail
 refine (kp _).mono ?_
 rintro e w1 ⟨rfl, rfl⟩
 have zx := cb HX1
 go_wp2_with fail
 refine (hce _).mono ?_
 rintro e w3 ⟨rfl, hb3⟩
 have HX3 := hv HX1 hb3
 have HB3 := sb HB1 hb3
 clear hb3 HX1 HB1
 clear hce zx kp
 have hc3 := HCH.out.later HB3.out
 obtain ⟨b3, off3, eb3, hrow3⟩ := hc3.rows.at (by omega)
 injection eb3 with eb3
 injection eb3 with eb4 eb5 _
 subst eb4 eb5
 obtain ⟨⟨p0, s0⟩, ⟨p1, s1⟩, ⟨p2, s2⟩⟩ := row_three hrow3
 obtain ⟨bz, oz, ez, hEz⟩ := SlOf.at (cs := En.cells) (k := 5) (hc3.each ⟨U0, .slice a0 60 c0⟩ (by simp)).ents (by omega)
 subst ez
 have q0 : w3.cell? ⟨bz, oz + m * 5, none⟩ = some (.int .i64 z.k) := hEz m z HZ.out 0 _ rfl
 have q1 : w3.cell? ⟨bz, oz + m * 5 + 1, none⟩ = some (.int .i64 z.j) := hEz m z HZ.out 1 _ rfl
 have q2 : w3.cell? ⟨bz, oz + m * 5 + 2, none⟩ = some (.int .i64 z.v) := hEz m z HZ.out 2 _ rfl
 have q3 : w3.cell? ⟨bz, oz + m * 5 + 3, none⟩ = some (.int .i64 z.t) := hEz m z HZ.out 3 _ rfl
 have q4 : w3.cell? ⟨bz, oz + m * 5 + 4, none⟩ = some (.int .i64 z.c) := hEz m z HZ.out 4 _ rfl
 have hn1 := fun W => neq_entry z.k z.j z.v z.t z.c x.k x.j x.v x.t x.c W
 rw [hun] at hn1
 have hwr0 : IntKind.i64.wrap 0 = 0 := rfl
 have hwr1 : IntKind.i64.wrap 1 = 1 := rfl
 clear hEz
 clear hrow3 hc3 HCH
 have zx := cb HX3
 go_wp2_with fail
 go_quiet (fail)
 go_wp2
 go_ret
 exact ⟨rfl, below_drewN HB3.out _⟩
set_option maxHeartbeats 4000000 in
set_option maxRecDepth 100000 in
theorem may1_ok (b off c m : Nat) (ep : Int) (x : En) (U0 U1 U2 : Un) (a0 a1 a2 : Option Addr) (c0 c1 c2 : Nat) (w : World) (hch : ChAt w (.slice (some ⟨b, off, none⟩) 3 c) [⟨U0, .slice a0 60 c0⟩, ⟨U1, .slice a1 60 c1⟩, ⟨U2, .slice a2 60 c2⟩]) (hd : ckChain [U0, U1, U2] = 0) (hm : m < 60) (hx : x.chk = 0) (z : En) (hzz : U0.cells[m]? = some z) (hep : (ep != U1.p) = false) (hun : unlike z.k z.j z.v z.t z.c x.k x.j x.v x.t x.c = false) :
  Calls Tryz.prog 132 #[.slice (some ⟨b, off, none⟩) 3 c, .int .i64 1, .int .i64 (m : Int), x.val, .int .i64 ep] w fun e w' => e = .returned (.int .i64 (0)) ∧ Below w.heap.size w w' := by
 have HB0 : Aside (Below w.heap.size w (w.alloc (boxE x.k x.j x.v x.t x.c))) := grew (Below.refl _ _) _
 have HX0 : Aside ((w.alloc (boxE x.k x.j x.v x.t x.c)).heap[w.heap.size]? = some (boxE x.k x.j x.v x.t x.c)) := heap_new _ _
 have hck := chCheck_any _ _ _ (hch.later HB0.out)
 rw [show ckChain (unitsOf [⟨U0, .slice a0 60 c0⟩, ⟨U1, .slice a1 60 c1⟩, ⟨U2, .slice a2 60 c2⟩]) = 0 from hd] at hck
 have kp := fun W => isPlace_any (m : Int) W
 rw [decide_eq_true (by omega)] at kp
 have hce : ∀ W, Calls Tryz.prog 115 #[ev x.k x.j x.v x.t x.c] W fun e w' => e = .returned (.int .i64 x.chk) ∧ Below W.heap.size W w' := fun W => check_any x.k x.j x.v x.t x.c W
 rw [hx] at hce
 have HCH : Aside (ChAt w (.slice (some ⟨b, off, none⟩) 3 c) [⟨U0, .slice a0 60 c0⟩, ⟨U1, .slice a1 60 c1⟩, ⟨U2, .slice a2 60 c2⟩]) := hch
 have HZ : Hid (U0.cells[m]? = some z) := hzz
 have hmi : (m : Int) < 60 := by omega
 have hm0 : (0 : Int) ≤ (m : Int) := by omega
 clear hch hd hx hzz
 go_enter Tryz.func132, Tryz.ntmps132
 go_wp2_with fail
 refine hck.mono ?_
 rintro e w1 ⟨rfl, hb1⟩
 have HX1 := hv HX0 hb1
 have HB1 := sb HB0 hb1
 clear hb1 HX0 HB0
 clear hck
 go_wp2_with fail
 refine (kp _).mono ?_
 rintro e w1 ⟨rfl, rfl⟩
 have zx := cb HX1
 go_wp2_with fail
 refine (hce _).mono ?_
 rintro e w3 ⟨rfl, hb3⟩
 have HX3 := hv HX1 hb3
 have HB3 := sb HB1 hb3
 clear hb3 HX1 HB1
 clear hce zx kp
 have hc3 := HCH.out.later HB3.out
 obtain ⟨b3, off3, eb3, hrow3⟩ := hc3.rows.at (by omega)
 injection eb3 with eb3
 injection eb3 with eb4 eb5 _
 subst eb4 eb5
 obtain ⟨⟨p0, s0⟩, ⟨p1, s1⟩, ⟨p2, s2⟩⟩ := row_three hrow3
 obtain ⟨bz, oz, ez, hEz⟩ := SlOf.at (cs := En.cells) (k := 5) (hc3.each ⟨U0, .slice a0 60 c0⟩ (by simp)).ents (by omega)
 subst ez
 have q0 : w3.cell? ⟨bz, oz + m * 5, none⟩ = some (.int .i64 z.k) := hEz m z HZ.out 0 _ rfl
 have q1 : w3.cell? ⟨bz, oz + m * 5 + 1, none⟩ = some (.int .i64 z.j) := hEz m z HZ.out 1 _ rfl
 have q2 : w3.cell? ⟨bz, oz + m * 5 + 2, none⟩ = some (.int .i64 z.v) := hEz m z HZ.out 2 _ rfl
 have q3 : w3.cell? ⟨bz, oz + m * 5 + 3, none⟩ = some (.int .i64 z.t) := hEz m z HZ.out 3 _ rfl
 have q4 : w3.cell? ⟨bz, oz + m * 5 + 4, none⟩ = some (.int .i64 z.c) := hEz m z HZ.out 4 _ rfl
 have hn1 := fun W => neq_entry z.k z.j z.v z.t z.c x.k x.j x.v x.t x.c W
 rw [hun] at hn1
 have hwr0 : IntKind.i64.wrap 0 = 0 := rfl
 have hwr1 : IntKind.i64.wrap 1 = 1 := rfl
 clear hEz
 clear hrow3 hc3 HCH
 have zx := cb HX3
 go_wp2_with fail
 go_quiet (fail)
 go_wp2
 go_ret
 exact ⟨rfl, below_drewN HB3.out _⟩
set_option maxHeartbeats 4000000 in
set_option maxRecDepth 100000 in
theorem may2_old (b off c m : Nat) (ep : Int) (x : En) (U0 U1 U2 : Un) (a0 a1 a2 : Option Addr) (c0 c1 c2 : Nat) (w : World) (hch : ChAt w (.slice (some ⟨b, off, none⟩) 3 c) [⟨U0, .slice a0 60 c0⟩, ⟨U1, .slice a1 60 c1⟩, ⟨U2, .slice a2 60 c2⟩]) (hd : ckChain [U0, U1, U2] = 0) (hm : m < 60) (hx : x.chk = 0) (hep : (ep != U2.p) = true) :
  Calls Tryz.prog 132 #[.slice (some ⟨b, off, none⟩) 3 c, .int .i64 2, .int .i64 (m : Int), x.val, .int .i64 ep] w fun e w' => e = .returned (.int .i64 (8)) ∧ Below w.heap.size w w' := by
 have HB0 : Aside (Below w.heap.size w (w.alloc (boxE x.k x.j x.v x.t x.c))) := grew (Below.refl _ _) _
 have HX0 : Aside ((w.alloc (boxE x.k x.j x.v x.t x.c)).heap[w.heap.size]? = some (boxE x.k x.j x.v x.t x.c)) := heap_new _ _
 have hck := chCheck_any _ _ _ (hch.later HB0.out)
 rw [show ckChain (unitsOf [⟨U0, .slice a0 60 c0⟩, ⟨U1, .slice a1 60 c1⟩, ⟨U2, .slice a2 60 c2⟩]) = 0 from hd] at hck
 have kp := fun W => isPlace_any (m : Int) W
 rw [decide_eq_true (by omega)] at kp
 have hce : ∀ W, Calls Tryz.prog 115 #[ev x.k x.j x.v x.t x.c] W fun e w' => e = .returned (.int .i64 x.chk) ∧ Below W.heap.size W w' := fun W => check_any x.k x.j x.v x.t x.c W
 rw [hx] at hce
 have HCH : Aside (ChAt w (.slice (some ⟨b, off, none⟩) 3 c) [⟨U0, .slice a0 60 c0⟩, ⟨U1, .slice a1 60 c1⟩, ⟨U2, .slice a2 60 c2⟩]) := hch
 have hmi : (m : Int) < 60 := by omega
 have hm0 : (0 : Int) ≤ (m : Int) := by omega
 clear hch hd hx
 go_enter Tryz.func132, Tryz.ntmps132
 go_wp2_with fail
 refine hck.mono ?_
 rintro e w1 ⟨rfl, hb1⟩
 have HX1 := hv HX0 hb1
 have HB1 := sb HB0 hb1
 clear hb1 HX0 HB0
 clear hck
 go_wp2_with fail
 refine (kp _).mono ?_
 rintro e w1 ⟨rfl, rfl⟩
 have zx := cb HX1
 go_wp2_with fail
 refine (hce _).mono ?_
 rintro e w3 ⟨rfl, hb3⟩
 have HX3 := hv HX1 hb3
 have HB3 := sb HB1 hb3
 clear hb3 HX1 HB1
 clear hce zx kp
 have hc3 := HCH.out.later HB3.out
 obtain ⟨b3, off3, eb3, hrow3⟩ := hc3.rows.at (by omega)
 injection eb3 with eb3
 injection eb3 with eb4 eb5 _
 subst eb4 eb5
 obtain ⟨⟨p0, s0⟩, ⟨p1, s1⟩, ⟨p2, s2⟩⟩ := row_three hrow3
 clear hrow3 hc3 HCH
 go_wp2
 go_ret
 exact ⟨rfl, HB3.out⟩
set_option maxHeartbeats 4000000 in
set_option maxRecDepth 100000 in
theorem may2_late (b off c m : Nat) (ep : Int) (x : En) (U0 U1 U2 : Un) (a0 a1 a2 : Option Addr) (c0 c1 c2 : Nat) (w : World) (hch : ChAt w (.slice (some ⟨b, off, none⟩) 3 c) [⟨U0, .slice a0 60 c0⟩, ⟨U1, .slice a1 60 c1⟩, ⟨U2, .slice a2 60 c2⟩]) (hd : ckChain [U0, U1, U2] = 0) (hm : m < 60) (hx : x.chk = 0) (z : En) (hzz : U1.cells[m]? = some z) (hep : (ep != U2.p) = false) (hun : unlike z.k z.j z.v z.t z.c x.k x.j x.v x.t x.c = true) :
  Calls Tryz.prog 132 #[.slice (some ⟨b, off, none⟩) 3 c, .int .i64 2, .int .i64 (m : Int), x.val, .int .i64 ep] w fun e w' => e = .returned (.int .i64 (7)) ∧ Below w.heap.size w w' := by
 have HB0 : Aside (Below w.heap.size w (w.alloc (boxE x.k x.j x.v x.t x.c))) := grew (Below.refl _ _) _
 have HX0 : Aside ((w.alloc (boxE x.k x.j x.v x.t x.c)).heap[w.heap.size]? = some (boxE x.k x.j x.v x.t x.c)) := heap_new _ _
 have hck := chCheck_any _ _ _ (hch.later HB0.out)
 rw [show ckChain (unitsOf [⟨U0, .slice a0 60 c0⟩, ⟨U1, .slice a1 60 c1⟩, ⟨U2, .slice a2 60 c2⟩]) = 0 from hd] at hck
 have kp := fun W => isPlace_any (m : Int) W
 rw [decide_eq_true (by omega)] at kp
 have hce : ∀ W, Calls Tryz.prog 115 #[ev x.k x.j x.v x.t x.c] W fun e w' => e = .returned (.int .i64 x.chk) ∧ Below W.heap.size W w' := fun W => check_any x.k x.j x.v x.t x.c W
 rw [hx] at hce
 have HCH : Aside (ChAt w (.slice (some ⟨b, off, none⟩) 3 c) [⟨U0, .slice a0 60 c0⟩, ⟨U1, .slice a1 60 c1⟩, ⟨U2, .slice a2 60 c2⟩]) := hch
 have HZ : Hid (U1.cells[m]? = some z) := hzz
 have hmi : (m : Int) < 60 := by omega
 have hm0 : (0 : Int) ≤ (m : Int) := by omega
 clear hch hd hx hzz
 go_enter Tryz.func132, Tryz.ntmps132
 go_wp2_with fail
 refine hck.mono ?_
 rintro e w1 ⟨rfl, hb1⟩
 have HX1 := hv HX0 hb1
 have HB1 := sb HB0 hb1
 clear hb1 HX0 HB0
 clear hck
 go_wp2_with fail
 refine (kp _).mono ?_
 rintro e w1 ⟨rfl, rfl⟩
 have zx := cb HX1
 go_wp2_with fail
 refine (hce _).mono ?_
 rintro e w3 ⟨rfl, hb3⟩
 have HX3 := hv HX1 hb3
 have HB3 := sb HB1 hb3
 clear hb3 HX1 HB1
 clear hce zx kp
 have hc3 := HCH.out.later HB3.out
 obtain ⟨b3, off3, eb3, hrow3⟩ := hc3.rows.at (by omega)
 injection eb3 with eb3
 injection eb3 with eb4 eb5 _
 subst eb4 eb5
 obtain ⟨⟨p0, s0⟩, ⟨p1, s1⟩, ⟨p2, s2⟩⟩ := row_three hrow3
 obtain ⟨bz, oz, ez, hEz⟩ := SlOf.at (cs := En.cells) (k := 5) (hc3.each ⟨U1, .slice a1 60 c1⟩ (by simp)).ents (by omega)
 subst ez
 have q0 : w3.cell? ⟨bz, oz + m * 5, none⟩ = some (.int .i64 z.k) := hEz m z HZ.out 0 _ rfl
 have q1 : w3.cell? ⟨bz, oz + m * 5 + 1, none⟩ = some (.int .i64 z.j) := hEz m z HZ.out 1 _ rfl
 have q2 : w3.cell? ⟨bz, oz + m * 5 + 2, none⟩ = some (.int .i64 z.v) := hEz m z HZ.out 2 _ rfl
 have q3 : w3.cell? ⟨bz, oz + m * 5 + 3, none⟩ = some (.int .i64 z.t) := hEz m z HZ.out 3 _ rfl
 have q4 : w3.cell? ⟨bz, oz + m * 5 + 4, none⟩ = some (.int .i64 z.c) := hEz m z HZ.out 4 _ rfl
 have hn1 := fun W => neq_entry z.k z.j z.v z.t z.c x.k x.j x.v x.t x.c W
 rw [hun] at hn1
 have hwr0 : IntKind.i64.wrap 0 = 0 := rfl
 have hwr1 : IntKind.i64.wrap 1 = 1 := rfl
 clear hEz
 clear hrow3 hc3 HCH
 have zx := cb HX3
 go_wp2_with fail
 go_quiet (fail)
 go_wp2
 go_ret
 exact ⟨rfl, below_drewN HB3.out _⟩
set_option maxHeartbeats 4000000 in
set_option maxRecDepth 100000 in
theorem may2_ok (b off c m : Nat) (ep : Int) (x : En) (U0 U1 U2 : Un) (a0 a1 a2 : Option Addr) (c0 c1 c2 : Nat) (w : World) (hch : ChAt w (.slice (some ⟨b, off, none⟩) 3 c) [⟨U0, .slice a0 60 c0⟩, ⟨U1, .slice a1 60 c1⟩, ⟨U2, .slice a2 60 c2⟩]) (hd : ckChain [U0, U1, U2] = 0) (hm : m < 60) (hx : x.chk = 0) (z : En) (hzz : U1.cells[m]? = some z) (hep : (ep != U2.p) = false) (hun : unlike z.k z.j z.v z.t z.c x.k x.j x.v x.t x.c = false) :
  Calls Tryz.prog 132 #[.slice (some ⟨b, off, none⟩) 3 c, .int .i64 2, .int .i64 (m : Int), x.val, .int .i64 ep] w fun e w' => e = .returned (.int .i64 (0)) ∧ Below w.heap.size w w' := by
 have HB0 : Aside (Below w.heap.size w (w.alloc (boxE x.k x.j x.v x.t x.c))) := grew (Below.refl _ _) _
 have HX0 : Aside ((w.alloc (boxE x.k x.j x.v x.t x.c)).heap[w.heap.size]? = some (boxE x.k x.j x.v x.t x.c)) := heap_new _ _
 have hck := chCheck_any _ _ _ (hch.later HB0.out)
 rw [show ckChain (unitsOf [⟨U0, .slice a0 60 c0⟩, ⟨U1, .slice a1 60 c1⟩, ⟨U2, .slice a2 60 c2⟩]) = 0 from hd] at hck
 have kp := fun W => isPlace_any (m : Int) W
 rw [decide_eq_true (by omega)] at kp
 have hce : ∀ W, Calls Tryz.prog 115 #[ev x.k x.j x.v x.t x.c] W fun e w' => e = .returned (.int .i64 x.chk) ∧ Below W.heap.size W w' := fun W => check_any x.k x.j x.v x.t x.c W
 rw [hx] at hce
 have HCH : Aside (ChAt w (.slice (some ⟨b, off, none⟩) 3 c) [⟨U0, .slice a0 60 c0⟩, ⟨U1, .slice a1 60 c1⟩, ⟨U2, .slice a2 60 c2⟩]) := hch
 have HZ : Hid (U1.cells[m]? = some z) := hzz
 have hmi : (m : Int) < 60 := by omega
 have hm0 : (0 : Int) ≤ (m : Int) := by omega
 clear hch hd hx hzz
 go_enter Tryz.func132, Tryz.ntmps132
 go_wp2_with fail
 refine hck.mono ?_
 rintro e w1 ⟨rfl, hb1⟩
 have HX1 := hv HX0 hb1
 have HB1 := sb HB0 hb1
 clear hb1 HX0 HB0
 clear hck
 go_wp2_with fail
 refine (kp _).mono ?_
 rintro e w1 ⟨rfl, rfl⟩
 have zx := cb HX1
 go_wp2_with fail
 refine (hce _).mono ?_
 rintro e w3 ⟨rfl, hb3⟩
 have HX3 := hv HX1 hb3
 have HB3 := sb HB1 hb3
 clear hb3 HX1 HB1
 clear hce zx kp
 have hc3 := HCH.out.later HB3.out
 obtain ⟨b3, off3, eb3, hrow3⟩ := hc3.rows.at (by omega)
 injection eb3 with eb3
 injection eb3 with eb4 eb5 _
 subst eb4 eb5
 obtain ⟨⟨p0, s0⟩, ⟨p1, s1⟩, ⟨p2, s2⟩⟩ := row_three hrow3
 obtain ⟨bz, oz, ez, hEz⟩ := SlOf.at (cs := En.cells) (k := 5) (hc3.each ⟨U1, .slice a1 60 c1⟩ (by simp)).ents (by omega)
 subst ez
 have q0 : w3.cell? ⟨bz, oz + m * 5, none⟩ = some (.int .i64 z.k) := hEz m z HZ.out 0 _ rfl
 have q1 : w3.cell? ⟨bz, oz + m * 5 + 1, none⟩ = some (.int .i64 z.j) := hEz m z HZ.out 1 _ rfl
 have q2 : w3.cell? ⟨bz, oz + m * 5 + 2, none⟩ = some (.int .i64 z.v) := hEz m z HZ.out 2 _ rfl
 have q3 : w3.cell? ⟨bz, oz + m * 5 + 3, none⟩ = some (.int .i64 z.t) := hEz m z HZ.out 3 _ rfl
 have q4 : w3.cell? ⟨bz, oz + m * 5 + 4, none⟩ = some (.int .i64 z.c) := hEz m z HZ.out 4 _ rfl
 have hn1 := fun W => neq_entry z.k z.j z.v z.t z.c x.k x.j x.v x.t x.c W
 rw [hun] at hn1
 have hwr0 : IntKind.i64.wrap 0 = 0 := rfl
 have hwr1 : IntKind.i64.wrap 1 = 1 := rfl
 clear hEz
 clear hrow3 hc3 HCH
 have zx := cb HX3
 go_wp2_with fail
 go_quiet (fail)
 go_wp2
 go_ret
 exact ⟨rfl, below_drewN HB3.out _⟩
set_option maxRecDepth 10000 in
theorem may_any (v : Value) (xs : List Ub) (k a ep : Int) (x : En) (w : World) (h : ChAt w v xs) :
  Calls Tryz.prog 132 #[v, .int .i64 k, .int .i64 a, x.val, .int .i64 ep] w fun e w' => e = .returned (.int .i64 (linkOf (unitsOf xs) k a x ep).2.2) ∧ Below w.heap.size w w' := by
 rw [linkOf_err]
 by_cases hd : ckChain (unitsOf xs) = 0
 ·rw [if_neg (by simpa using hd)]
  obtain ⟨U0, U1, U2, a0, c0, a1, c1, a2, c2, b, off, c, rfl, rfl, d0, d1, d2⟩ := right_three h hd
  by_cases hr : ¬ (0 ≤ k ∧ k ≤ 2) ∨ ¬ (0 ≤ a ∧ a ≤ 59)
  ·rw [if_pos hr]
   exact may_who b off c k a ep x _ w h hd (by omega)
  ·rw [if_neg hr]
   have hk : 0 ≤ k ∧ k ≤ 2 := Classical.byContradiction fun e => hr (Or.inl e)
   have ha : 0 ≤ a ∧ a ≤ 59 := Classical.byContradiction fun e => hr (Or.inr e)
   by_cases hx : x.chk = 0
   ·rw [if_neg (by simpa using hx)]
    obtain ⟨m, rfl⟩ : ∃ m : Nat, a = m := ⟨a.toNat, by omega⟩
    have hm : m < 60 := by omega
    have hd' : ckChain [U0, U1, U2] = 0 := hd
    obtain ⟨y0, hy0⟩ : ∃ y, U0.cells[m]? = some y := ⟨_, plc_some (us := [U0]) (k := 0) rfl d0 hm⟩
    obtain ⟨y1, hy1⟩ : ∃ y, U1.cells[m]? = some y := ⟨_, plc_some (us := [U1]) (k := 0) rfl d1 hm⟩
    have e0 : plc (unitsOf [⟨U0, .slice a0 60 c0⟩, ⟨U1, .slice a1 60 c1⟩, ⟨U2, .slice a2 60 c2⟩]) 0 m = y0 := plc_eq (u := U0) rfl hy0
    have e1 : plc (unitsOf [⟨U0, .slice a0 60 c0⟩, ⟨U1, .slice a1 60 c1⟩, ⟨U2, .slice a2 60 c2⟩]) 1 m = y1 := plc_eq (u := U1) rfl hy1
    have hk' : k = 0 ∨ k = 1 ∨ k = 2 := by omega
    rcases hk' with rfl | rfl | rfl
    ·rw [show ((m : Int).toNat) = m from rfl, show ((0 : Int).toNat) = 0 from rfl, show (0 - 1 : Nat) = 0 from rfl]
     show Calls _ _ _ _ fun e w' => e = .returned (.int .i64 (if U0.p ≠ ep then 8 else _)) ∧ _
     by_cases hp : U0.p = ep
     ·have hpb : (ep != U0.p) = false := by rw [hp]; simp
      rw [if_neg (by simpa using hp)]
      rw [if_neg (by omega)]
      exact may0_ok b off c m ep x U0 U1 U2 a0 a1 a2 c0 c1 c2 w h hd' hm hx hpb
     ·rw [if_pos hp]
      exact may0_old b off c m ep x U0 U1 U2 a0 a1 a2 c0 c1 c2 w h hd' hm hx (by rw [bne_iff_ne]; exact fun hh => hp hh.symm)
    ·rw [show ((m : Int).toNat) = m from rfl, show ((1 : Int).toNat) = 1 from rfl, show (1 - 1 : Nat) = 0 from rfl, e0]
     show Calls _ _ _ _ fun e w' => e = .returned (.int .i64 (if U1.p ≠ ep then 8 else _)) ∧ _
     by_cases hp : U1.p = ep
     ·have hpb : (ep != U1.p) = false := by rw [hp]; simp
      rw [if_neg (by simpa using hp)]
      by_cases hxz : x = y0
      ·have hun : unlike y0.k y0.j y0.v y0.t y0.c x.k x.j x.v x.t x.c = false := by rw [hxz]; simp [unlike]
       rw [if_neg (fun hh => hh.2 hxz)]
       exact may1_ok b off c m ep x U0 U1 U2 a0 a1 a2 c0 c1 c2 w h hd' hm hx y0 hy0 hpb hun
      ·have hun : unlike y0.k y0.j y0.v y0.t y0.c x.k x.j x.v x.t x.c = true := by rw [← Bool.not_eq_false]; exact fun hh => hxz (en_eq hh).symm
       rw [if_pos ⟨by omega, hxz⟩]
       exact may1_late b off c m ep x U0 U1 U2 a0 a1 a2 c0 c1 c2 w h hd' hm hx y0 hy0 hpb hun
     ·rw [if_pos hp]
      exact may1_old b off c m ep x U0 U1 U2 a0 a1 a2 c0 c1 c2 w h hd' hm hx (by rw [bne_iff_ne]; exact fun hh => hp hh.symm)
    ·rw [show ((m : Int).toNat) = m from rfl, show ((2 : Int).toNat) = 2 from rfl, show (2 - 1 : Nat) = 1 from rfl, e1]
     show Calls _ _ _ _ fun e w' => e = .returned (.int .i64 (if U2.p ≠ ep then 8 else _)) ∧ _
     by_cases hp : U2.p = ep
     ·have hpb : (ep != U2.p) = false := by rw [hp]; simp
      rw [if_neg (by simpa using hp)]
      by_cases hxz : x = y1
      ·have hun : unlike y1.k y1.j y1.v y1.t y1.c x.k x.j x.v x.t x.c = false := by rw [hxz]; simp [unlike]
       rw [if_neg (fun hh => hh.2 hxz)]
       exact may2_ok b off c m ep x U0 U1 U2 a0 a1 a2 c0 c1 c2 w h hd' hm hx y1 hy1 hpb hun
      ·have hun : unlike y1.k y1.j y1.v y1.t y1.c x.k x.j x.v x.t x.c = true := by rw [← Bool.not_eq_false]; exact fun hh => hxz (en_eq hh).symm
       rw [if_pos ⟨by omega, hxz⟩]
       exact may2_late b off c m ep x U0 U1 U2 a0 a1 a2 c0 c1 c2 w h hd' hm hx y1 hy1 hpb hun
     ·rw [if_pos hp]
      exact may2_old b off c m ep x U0 U1 U2 a0 a1 a2 c0 c1 c2 w h hd' hm hx (by rw [bne_iff_ne]; exact fun hh => hp hh.symm)
   ·rw [if_pos hx]
    exact may_chk b off c k a ep x _ w h hd (by omega) (by omega) ha x.chk rfl (by rw [bne_iff_ne]; exact hx)
 ·rw [if_pos hd]
  exact may_ck v xs k a ep x w h _ rfl (by rw [bne_iff_ne]; exact hd)
end
end Go.Proofs.YtmoaobfmopimlafGreatDoor
