/- Clients in memory; the reference's CheckClient. -/
import Derived.Test.YtbokdcdnandgbaeClientA
import Derived.Test.YtbokdcdnandgbaeBookW
import Derived.Test.YtbokdcdnandgbaeRefB
import Derived.Test.YtbokdcdnandgbaeEql
namespace Go.Proofs.Ytbokdcdnandgbae
open Go.RowKit

/-- A client in its box. -/
abbrev boxC (c : Cl) (v1 v2 : Value) : Obj := .cells #[.int .i64 c.p, .int .i64 c.d, .int .i64 c.e.k, .int .i64 c.e.j, .int .i64 c.e.v, .int .i64 c.e.t, .int .i64 c.e.c, .int .i64 c.a, .int .i64 c.l, .int .i64 c.n, v1, v2] 47
abbrev Cl.val (c : Cl) (v1 v2 : Value) : Value := .agg #[.int .i64 c.p, .int .i64 c.d, .int .i64 c.e.k, .int .i64 c.e.j, .int .i64 c.e.v, .int .i64 c.e.t, .int .i64 c.e.c, .int .i64 c.a, .int .i64 c.l, .int .i64 c.n, v1, v2]

/-- A client's book. -/
abbrev BkAt (w : World) (v1 v2 : Value) (c : Cl) : Prop := JobSl w v1 c.js ∧ RungSl w v2 c.rs
theorem bkAt_later {w w' : World} {v1 v2 : Value} {c : Cl} (h : BkAt w v1 v2 c) (hb : Below w.heap.size w w') : BkAt w' v1 v2 c := ⟨h.1.later hb, h.2.later hb⟩

/-- Answers a client with these slices, and what is wrong. -/
abbrev AnsX (f : FuncId) (args : Array Value) (w : World) (r : Cl × Int) (u1 u2 : Value) : Prop :=
  Calls Try.prog f args w fun e w' => e = .returned (.tuple #[r.1.val u1 u2, .int .i64 r.2]) ∧ Below w.heap.size w w'
/-- Answers a client, and what is wrong. -/
abbrev AnsC (f : FuncId) (args : Array Value) (w : World) (r : Cl × Int) : Prop :=
  Calls Try.prog f args w fun e w' => ∃ u1 u2, e = .returned (.tuple #[r.1.val u1 u2, .int .i64 r.2]) ∧ BkAt w' u1 u2 r.1 ∧ Below w.heap.size w w'

theorem ansC_of {f : FuncId} {args : Array Value} {w : World} {r : Cl × Int} {u1 u2 : Value} {c : Cl} (hb : BkAt w u1 u2 c) (h : AnsX f args w r u1 u2) (hj : r.1.js = c.js := by rfl) (hr : r.1.rs = c.rs := by rfl) : AnsC f args w r :=
  h.mono fun _ _ ⟨he, hB⟩ => ⟨u1, u2, he, by have := bkAt_later hb hB; unfold BkAt at this ⊢; rw [hj, hr]; exact this, hB⟩
theorem ansC_zero {f : FuncId} {args : Array Value} {w : World} {n : Int} (h : AnsX f args w (Cl.zero, n) nil0 nil0) : AnsC f args w (Cl.zero, n) :=
  h.mono fun _ _ ⟨he, hB⟩ => ⟨nil0, nil0, he, ⟨SlOf.nil _ _, SlOf.nil _ _⟩, hB⟩

set_option linter.unusedSimpArgs false in
set_option maxHeartbeats 4000000 in
set_option maxRecDepth 100000 in
theorem cc_out0 (c : Cl) (a1 a2 : Option Addr) (m1 k1 m2 k2 : Nat) (w : World)  (h0 : ¬ (1 ≤ c.p ∧ c.p ≤ 20)) :
    Calls Try.prog 24 #[c.val (.slice a1 m1 k1) (.slice a2 m2 k2)] w fun e w' => e = .returned (.int .i64 (3)) ∧ Below w.heap.size w w' := by
  have HX0 : Aside ((w.alloc (boxC c (.slice a1 m1 k1) (.slice a2 m2 k2))).heap[w.heap.size]? = some (boxC c (.slice a1 m1 k1) (.slice a2 m2 k2))) := heap_new _ _
  have HB0 : Aside (Below w.heap.size w (w.alloc (boxC c (.slice a1 m1 k1) (.slice a2 m2 k2)))) := grew (Below.refl _ _) _
  obtain ⟨p, d, e, a, l, n, js, rs⟩ := c
  simp only at *
  have i0 := fun W => in_any p 1 20 W
  rw [decide_eq_false h0] at i0
  clear h0
  go_enter Try.func24, Try.ntmps24
  go_wp2_with fail
  refine (i0 _).mono ?_
  rintro e wx ⟨rfl, rfl⟩
  go_wp2
  go_ret
  exact ⟨rfl, HB0.out⟩

set_option linter.unusedSimpArgs false in
set_option maxHeartbeats 4000000 in
set_option maxRecDepth 100000 in
theorem cc_out1 (c : Cl) (a1 a2 : Option Addr) (m1 k1 m2 k2 : Nat) (w : World) (h0 : 1 ≤ c.p ∧ c.p ≤ 20) (h1 : ¬ (0 ≤ c.d ∧ c.d ≤ 2)) :
    Calls Try.prog 24 #[c.val (.slice a1 m1 k1) (.slice a2 m2 k2)] w fun e w' => e = .returned (.int .i64 (3)) ∧ Below w.heap.size w w' := by
  have HX0 : Aside ((w.alloc (boxC c (.slice a1 m1 k1) (.slice a2 m2 k2))).heap[w.heap.size]? = some (boxC c (.slice a1 m1 k1) (.slice a2 m2 k2))) := heap_new _ _
  have HB0 : Aside (Below w.heap.size w (w.alloc (boxC c (.slice a1 m1 k1) (.slice a2 m2 k2)))) := grew (Below.refl _ _) _
  obtain ⟨p, d, e, a, l, n, js, rs⟩ := c
  simp only at *
  have i0 := fun W => in_any p 1 20 W
  have i1 := fun W => in_any d 0 2 W
  rw [decide_eq_true h0] at i0
  rw [decide_eq_false h1] at i1
  clear h0 h1
  go_enter Try.func24, Try.ntmps24
  go_wp2_with fail
  refine (i0 _).mono ?_
  rintro e wx ⟨rfl, rfl⟩
  go_wp2_with fail
  refine (i1 _).mono ?_
  rintro e wx ⟨rfl, rfl⟩
  go_wp2
  go_ret
  exact ⟨rfl, HB0.out⟩

set_option linter.unusedSimpArgs false in
set_option maxHeartbeats 4000000 in
set_option maxRecDepth 100000 in
theorem cc_out2 (c : Cl) (a1 a2 : Option Addr) (m1 k1 m2 k2 : Nat) (w : World) (h0 : 1 ≤ c.p ∧ c.p ≤ 20) (h1 : 0 ≤ c.d ∧ c.d ≤ 2) (h2 : ¬ (0 ≤ c.a ∧ c.a ≤ 59)) :
    Calls Try.prog 24 #[c.val (.slice a1 m1 k1) (.slice a2 m2 k2)] w fun e w' => e = .returned (.int .i64 (3)) ∧ Below w.heap.size w w' := by
  have HX0 : Aside ((w.alloc (boxC c (.slice a1 m1 k1) (.slice a2 m2 k2))).heap[w.heap.size]? = some (boxC c (.slice a1 m1 k1) (.slice a2 m2 k2))) := heap_new _ _
  have HB0 : Aside (Below w.heap.size w (w.alloc (boxC c (.slice a1 m1 k1) (.slice a2 m2 k2)))) := grew (Below.refl _ _) _
  obtain ⟨p, d, e, a, l, n, js, rs⟩ := c
  simp only at *
  have i0 := fun W => in_any p 1 20 W
  have i1 := fun W => in_any d 0 2 W
  have i2 := fun W => in_any a 0 59 W
  rw [decide_eq_true h0] at i0
  rw [decide_eq_true h1] at i1
  rw [decide_eq_false h2] at i2
  clear h0 h1 h2
  go_enter Try.func24, Try.ntmps24
  go_wp2_with fail
  refine (i0 _).mono ?_
  rintro e wx ⟨rfl, rfl⟩
  go_wp2_with fail
  refine (i1 _).mono ?_
  rintro e wx ⟨rfl, rfl⟩
  go_wp2_with fail
  refine (i2 _).mono ?_
  rintro e wx ⟨rfl, rfl⟩
  go_wp2
  go_ret
  exact ⟨rfl, HB0.out⟩

set_option linter.unusedSimpArgs false in
set_option maxHeartbeats 4000000 in
set_option maxRecDepth 100000 in
theorem cc_out3 (c : Cl) (a1 a2 : Option Addr) (m1 k1 m2 k2 : Nat) (w : World) (h0 : 1 ≤ c.p ∧ c.p ≤ 20) (h1 : 0 ≤ c.d ∧ c.d ≤ 2) (h2 : 0 ≤ c.a ∧ c.a ≤ 59) (h3 : ¬ (0 ≤ c.l ∧ c.l ≤ 2)) :
    Calls Try.prog 24 #[c.val (.slice a1 m1 k1) (.slice a2 m2 k2)] w fun e w' => e = .returned (.int .i64 (3)) ∧ Below w.heap.size w w' := by
  have HX0 : Aside ((w.alloc (boxC c (.slice a1 m1 k1) (.slice a2 m2 k2))).heap[w.heap.size]? = some (boxC c (.slice a1 m1 k1) (.slice a2 m2 k2))) := heap_new _ _
  have HB0 : Aside (Below w.heap.size w (w.alloc (boxC c (.slice a1 m1 k1) (.slice a2 m2 k2)))) := grew (Below.refl _ _) _
  obtain ⟨p, d, e, a, l, n, js, rs⟩ := c
  simp only at *
  have i0 := fun W => in_any p 1 20 W
  have i1 := fun W => in_any d 0 2 W
  have i2 := fun W => in_any a 0 59 W
  have i3 := fun W => in_any l 0 2 W
  rw [decide_eq_true h0] at i0
  rw [decide_eq_true h1] at i1
  rw [decide_eq_true h2] at i2
  rw [decide_eq_false h3] at i3
  clear h0 h1 h2 h3
  go_enter Try.func24, Try.ntmps24
  go_wp2_with fail
  refine (i0 _).mono ?_
  rintro e wx ⟨rfl, rfl⟩
  go_wp2_with fail
  refine (i1 _).mono ?_
  rintro e wx ⟨rfl, rfl⟩
  go_wp2_with fail
  refine (i2 _).mono ?_
  rintro e wx ⟨rfl, rfl⟩
  go_wp2_with fail
  refine (i3 _).mono ?_
  rintro e wx ⟨rfl, rfl⟩
  go_wp2
  go_ret
  exact ⟨rfl, HB0.out⟩

set_option linter.unusedSimpArgs false in
set_option maxHeartbeats 4000000 in
set_option maxRecDepth 100000 in
theorem cc_out4 (c : Cl) (a1 a2 : Option Addr) (m1 k1 m2 k2 : Nat) (w : World) (h0 : 1 ≤ c.p ∧ c.p ≤ 20) (h1 : 0 ≤ c.d ∧ c.d ≤ 2) (h2 : 0 ≤ c.a ∧ c.a ≤ 59) (h3 : 0 ≤ c.l ∧ c.l ≤ 2) (h4 : ¬ (0 ≤ c.n ∧ c.n ≤ 60)) :
    Calls Try.prog 24 #[c.val (.slice a1 m1 k1) (.slice a2 m2 k2)] w fun e w' => e = .returned (.int .i64 (3)) ∧ Below w.heap.size w w' := by
  have HX0 : Aside ((w.alloc (boxC c (.slice a1 m1 k1) (.slice a2 m2 k2))).heap[w.heap.size]? = some (boxC c (.slice a1 m1 k1) (.slice a2 m2 k2))) := heap_new _ _
  have HB0 : Aside (Below w.heap.size w (w.alloc (boxC c (.slice a1 m1 k1) (.slice a2 m2 k2)))) := grew (Below.refl _ _) _
  obtain ⟨p, d, e, a, l, n, js, rs⟩ := c
  simp only at *
  have i0 := fun W => in_any p 1 20 W
  have i1 := fun W => in_any d 0 2 W
  have i2 := fun W => in_any a 0 59 W
  have i3 := fun W => in_any l 0 2 W
  have i4 := fun W => in_any n 0 60 W
  rw [decide_eq_true h0] at i0
  rw [decide_eq_true h1] at i1
  rw [decide_eq_true h2] at i2
  rw [decide_eq_true h3] at i3
  rw [decide_eq_false h4] at i4
  clear h0 h1 h2 h3 h4
  go_enter Try.func24, Try.ntmps24
  go_wp2_with fail
  refine (i0 _).mono ?_
  rintro e wx ⟨rfl, rfl⟩
  go_wp2_with fail
  refine (i1 _).mono ?_
  rintro e wx ⟨rfl, rfl⟩
  go_wp2_with fail
  refine (i2 _).mono ?_
  rintro e wx ⟨rfl, rfl⟩
  go_wp2_with fail
  refine (i3 _).mono ?_
  rintro e wx ⟨rfl, rfl⟩
  go_wp2_with fail
  refine (i4 _).mono ?_
  rintro e wx ⟨rfl, rfl⟩
  go_wp2
  go_ret
  exact ⟨rfl, HB0.out⟩

set_option linter.unusedSimpArgs false in
set_option maxHeartbeats 4000000 in
set_option maxRecDepth 100000 in
theorem cc_ent (c : Cl) (a1 a2 : Option Addr) (m1 k1 m2 k2 : Nat) (w : World) (h0 : 1 ≤ c.p ∧ c.p ≤ 20) (h1 : 0 ≤ c.d ∧ c.d ≤ 2) (h2 : 0 ≤ c.a ∧ c.a ≤ 59) (h3 : 0 ≤ c.l ∧ c.l ≤ 2) (h4 : 0 ≤ c.n ∧ c.n ≤ 60) (q : Int) (hq : c.e.chk = q) (hz : (q != 0) = true) :
    Calls Try.prog 24 #[c.val (.slice a1 m1 k1) (.slice a2 m2 k2)] w fun e w' => e = .returned (.int .i64 (q)) ∧ Below w.heap.size w w' := by
  have HX0 : Aside ((w.alloc (boxC c (.slice a1 m1 k1) (.slice a2 m2 k2))).heap[w.heap.size]? = some (boxC c (.slice a1 m1 k1) (.slice a2 m2 k2))) := heap_new _ _
  have HB0 : Aside (Below w.heap.size w (w.alloc (boxC c (.slice a1 m1 k1) (.slice a2 m2 k2)))) := grew (Below.refl _ _) _
  obtain ⟨p, d, e, a, l, n, js, rs⟩ := c
  simp only at *
  have i0 := fun W => in_any p 1 20 W
  have i1 := fun W => in_any d 0 2 W
  have i2 := fun W => in_any a 0 59 W
  have i3 := fun W => in_any l 0 2 W
  have i4 := fun W => in_any n 0 60 W
  rw [decide_eq_true h0] at i0
  rw [decide_eq_true h1] at i1
  rw [decide_eq_true h2] at i2
  rw [decide_eq_true h3] at i3
  rw [decide_eq_true h4] at i4
  have hce : ∀ W, Calls Try.prog 54 #[ev e.k e.j e.v e.t e.c] W fun r w' => r = .returned (.int .i64 e.chk) ∧ Below W.heap.size W w' := fun W => ref_check e.k e.j e.v e.t e.c W
  rw [hq] at hce
  clear h0 h1 h2 h3 h4 hq
  go_enter Try.func24, Try.ntmps24
  go_wp2_with fail
  refine (i0 _).mono ?_
  rintro e wx ⟨rfl, rfl⟩
  go_wp2_with fail
  refine (i1 _).mono ?_
  rintro e wx ⟨rfl, rfl⟩
  go_wp2_with fail
  refine (i2 _).mono ?_
  rintro e wx ⟨rfl, rfl⟩
  go_wp2_with fail
  refine (i3 _).mono ?_
  rintro e wx ⟨rfl, rfl⟩
  go_wp2_with fail
  refine (i4 _).mono ?_
  rintro e wx ⟨rfl, rfl⟩
  clear i0 i1 i2 i3 i4
  go_wp2_with fail
  refine (hce _).mono ?_
  rintro r w1 ⟨rfl, hb1⟩
  have HX1 : Aside _ := heap_below HX0.out hb1 (heap_lt HX0.out)
  have HB1 : Aside (Below w.heap.size w w1) := step_below HB0.out hb1
  clear hb1 hce HX0 HB0
  go_wp2
  go_ret
  exact ⟨rfl, HB1.out⟩

set_option linter.unusedSimpArgs false in
set_option maxHeartbeats 4000000 in
set_option maxRecDepth 100000 in
theorem cc_r1 (c : Cl) (a1 a2 : Option Addr) (m1 k1 m2 k2 : Nat) (w : World) (h0 : 1 ≤ c.p ∧ c.p ≤ 20) (h1 : 0 ≤ c.d ∧ c.d ≤ 2) (h2 : 0 ≤ c.a ∧ c.a ≤ 59) (h3 : 0 ≤ c.l ∧ c.l ≤ 2) (h4 : 0 ≤ c.n ∧ c.n ≤ 60) (hq : c.e.chk = 0) (hd : c.d = 0) (ha : 0 < c.a) :
    Calls Try.prog 24 #[c.val (.slice a1 m1 k1) (.slice a2 m2 k2)] w fun e w' => e = .returned (.int .i64 (4)) ∧ Below w.heap.size w w' := by
  have HX0 : Aside ((w.alloc (boxC c (.slice a1 m1 k1) (.slice a2 m2 k2))).heap[w.heap.size]? = some (boxC c (.slice a1 m1 k1) (.slice a2 m2 k2))) := heap_new _ _
  have HB0 : Aside (Below w.heap.size w (w.alloc (boxC c (.slice a1 m1 k1) (.slice a2 m2 k2)))) := grew (Below.refl _ _) _
  obtain ⟨p, d, e, a, l, n, js, rs⟩ := c
  simp only at *
  have i0 := fun W => in_any p 1 20 W
  have i1 := fun W => in_any d 0 2 W
  have i2 := fun W => in_any a 0 59 W
  have i3 := fun W => in_any l 0 2 W
  have i4 := fun W => in_any n 0 60 W
  rw [decide_eq_true h0] at i0
  rw [decide_eq_true h1] at i1
  rw [decide_eq_true h2] at i2
  rw [decide_eq_true h3] at i3
  rw [decide_eq_true h4] at i4
  have hce : ∀ W, Calls Try.prog 54 #[ev e.k e.j e.v e.t e.c] W fun r w' => r = .returned (.int .i64 e.chk) ∧ Below W.heap.size W w' := fun W => ref_check e.k e.j e.v e.t e.c W
  rw [hq] at hce
  subst hd
  clear h1 h2 h3 h4 h0 hq
  go_enter Try.func24, Try.ntmps24
  go_wp2_with fail
  refine (i0 _).mono ?_
  rintro e wx ⟨rfl, rfl⟩
  go_wp2_with fail
  refine (i1 _).mono ?_
  rintro e wx ⟨rfl, rfl⟩
  go_wp2_with fail
  refine (i2 _).mono ?_
  rintro e wx ⟨rfl, rfl⟩
  go_wp2_with fail
  refine (i3 _).mono ?_
  rintro e wx ⟨rfl, rfl⟩
  go_wp2_with fail
  refine (i4 _).mono ?_
  rintro e wx ⟨rfl, rfl⟩
  clear i0 i1 i2 i3 i4
  go_wp2_with fail
  refine (hce _).mono ?_
  rintro r w1 ⟨rfl, hb1⟩
  have HX1 : Aside _ := heap_below HX0.out hb1 (heap_lt HX0.out)
  have HB1 : Aside (Below w.heap.size w w1) := step_below HB0.out hb1
  clear hb1 hce HX0 HB0
  have z : ∀ i, w1.cell? ⟨w.heap.size, i, none⟩ = #[Value.int .i64 p, .int .i64 0, .int .i64 e.k, .int .i64 e.j, .int .i64 e.v, .int .i64 e.t, .int .i64 e.c, .int .i64 a, .int .i64 l, .int .i64 n, .slice a1 m1 k1, .slice a2 m2 k2][i]? := fun i => Joins.cell_of_block HX1.out i
  go_wp2
  go_ret
  exact ⟨rfl, HB1.out⟩

set_option linter.unusedSimpArgs false in
set_option maxHeartbeats 4000000 in
set_option maxRecDepth 100000 in
theorem cc_r2 (c : Cl) (a1 a2 : Option Addr) (m1 k1 m2 k2 : Nat) (w : World) (h0 : 1 ≤ c.p ∧ c.p ≤ 20) (h1 : 0 ≤ c.d ∧ c.d ≤ 2) (h2 : 0 ≤ c.a ∧ c.a ≤ 59) (h3 : 0 ≤ c.l ∧ c.l ≤ 2) (h4 : 0 ≤ c.n ∧ c.n ≤ 60) (hq : c.e.chk = 0) (hd : c.d = 0) (ha : ¬ 0 < c.a) (hl : 0 < c.l) :
    Calls Try.prog 24 #[c.val (.slice a1 m1 k1) (.slice a2 m2 k2)] w fun e w' => e = .returned (.int .i64 (4)) ∧ Below w.heap.size w w' := by
  have HX0 : Aside ((w.alloc (boxC c (.slice a1 m1 k1) (.slice a2 m2 k2))).heap[w.heap.size]? = some (boxC c (.slice a1 m1 k1) (.slice a2 m2 k2))) := heap_new _ _
  have HB0 : Aside (Below w.heap.size w (w.alloc (boxC c (.slice a1 m1 k1) (.slice a2 m2 k2)))) := grew (Below.refl _ _) _
  obtain ⟨p, d, e, a, l, n, js, rs⟩ := c
  simp only at *
  have i0 := fun W => in_any p 1 20 W
  have i1 := fun W => in_any d 0 2 W
  have i2 := fun W => in_any a 0 59 W
  have i3 := fun W => in_any l 0 2 W
  have i4 := fun W => in_any n 0 60 W
  rw [decide_eq_true h0] at i0
  rw [decide_eq_true h1] at i1
  rw [decide_eq_true h2] at i2
  rw [decide_eq_true h3] at i3
  rw [decide_eq_true h4] at i4
  have hce : ∀ W, Calls Try.prog 54 #[ev e.k e.j e.v e.t e.c] W fun r w' => r = .returned (.int .i64 e.chk) ∧ Below W.heap.size W w' := fun W => ref_check e.k e.j e.v e.t e.c W
  rw [hq] at hce
  subst hd
  clear h1 h2 h3 h4 h0 hq
  go_enter Try.func24, Try.ntmps24
  go_wp2_with fail
  refine (i0 _).mono ?_
  rintro e wx ⟨rfl, rfl⟩
  go_wp2_with fail
  refine (i1 _).mono ?_
  rintro e wx ⟨rfl, rfl⟩
  go_wp2_with fail
  refine (i2 _).mono ?_
  rintro e wx ⟨rfl, rfl⟩
  go_wp2_with fail
  refine (i3 _).mono ?_
  rintro e wx ⟨rfl, rfl⟩
  go_wp2_with fail
  refine (i4 _).mono ?_
  rintro e wx ⟨rfl, rfl⟩
  clear i0 i1 i2 i3 i4
  go_wp2_with fail
  refine (hce _).mono ?_
  rintro r w1 ⟨rfl, hb1⟩
  have HX1 : Aside _ := heap_below HX0.out hb1 (heap_lt HX0.out)
  have HB1 : Aside (Below w.heap.size w w1) := step_below HB0.out hb1
  clear hb1 hce HX0 HB0
  have z : ∀ i, w1.cell? ⟨w.heap.size, i, none⟩ = #[Value.int .i64 p, .int .i64 0, .int .i64 e.k, .int .i64 e.j, .int .i64 e.v, .int .i64 e.t, .int .i64 e.c, .int .i64 a, .int .i64 l, .int .i64 n, .slice a1 m1 k1, .slice a2 m2 k2][i]? := fun i => Joins.cell_of_block HX1.out i
  go_wp2
  go_ret
  exact ⟨rfl, HB1.out⟩

set_option linter.unusedSimpArgs false in
set_option maxHeartbeats 4000000 in
set_option maxRecDepth 100000 in
theorem cc_r3 (c : Cl) (a1 a2 : Option Addr) (m1 k1 m2 k2 : Nat) (w : World) (h0 : 1 ≤ c.p ∧ c.p ≤ 20) (h1 : 0 ≤ c.d ∧ c.d ≤ 2) (h2 : 0 ≤ c.a ∧ c.a ≤ 59) (h3 : 0 ≤ c.l ∧ c.l ≤ 2) (h4 : 0 ≤ c.n ∧ c.n ≤ 60) (hq : c.e.chk = 0) (hd : c.d = 0) (ha : ¬ 0 < c.a) (hl : ¬ 0 < c.l) (hne : unlike c.e.k c.e.j c.e.v c.e.t c.e.c 0 0 0 0 0 = true) :
    Calls Try.prog 24 #[c.val (.slice a1 m1 k1) (.slice a2 m2 k2)] w fun e w' => e = .returned (.int .i64 (4)) ∧ Below w.heap.size w w' := by
  have HX0 : Aside ((w.alloc (boxC c (.slice a1 m1 k1) (.slice a2 m2 k2))).heap[w.heap.size]? = some (boxC c (.slice a1 m1 k1) (.slice a2 m2 k2))) := heap_new _ _
  have HB0 : Aside (Below w.heap.size w (w.alloc (boxC c (.slice a1 m1 k1) (.slice a2 m2 k2)))) := grew (Below.refl _ _) _
  obtain ⟨p, d, e, a, l, n, js, rs⟩ := c
  simp only at *
  have i0 := fun W => in_any p 1 20 W
  have i1 := fun W => in_any d 0 2 W
  have i2 := fun W => in_any a 0 59 W
  have i3 := fun W => in_any l 0 2 W
  have i4 := fun W => in_any n 0 60 W
  rw [decide_eq_true h0] at i0
  rw [decide_eq_true h1] at i1
  rw [decide_eq_true h2] at i2
  rw [decide_eq_true h3] at i3
  rw [decide_eq_true h4] at i4
  have hce : ∀ W, Calls Try.prog 54 #[ev e.k e.j e.v e.t e.c] W fun r w' => r = .returned (.int .i64 e.chk) ∧ Below W.heap.size W w' := fun W => ref_check e.k e.j e.v e.t e.c W
  rw [hq] at hce
  subst hd
  have hn := fun W => neq_entry e.k e.j e.v e.t e.c 0 0 0 0 0 W
  rw [hne] at hn
  clear hne
  clear h1 h2 h3 h4 h0 hq
  go_enter Try.func24, Try.ntmps24
  go_wp2_with fail
  refine (i0 _).mono ?_
  rintro e wx ⟨rfl, rfl⟩
  go_wp2_with fail
  refine (i1 _).mono ?_
  rintro e wx ⟨rfl, rfl⟩
  go_wp2_with fail
  refine (i2 _).mono ?_
  rintro e wx ⟨rfl, rfl⟩
  go_wp2_with fail
  refine (i3 _).mono ?_
  rintro e wx ⟨rfl, rfl⟩
  go_wp2_with fail
  refine (i4 _).mono ?_
  rintro e wx ⟨rfl, rfl⟩
  clear i0 i1 i2 i3 i4
  go_wp2_with fail
  refine (hce _).mono ?_
  rintro r w1 ⟨rfl, hb1⟩
  have HX1 : Aside _ := heap_below HX0.out hb1 (heap_lt HX0.out)
  have HB1 : Aside (Below w.heap.size w w1) := step_below HB0.out hb1
  clear hb1 hce HX0 HB0
  have z : ∀ i, w1.cell? ⟨w.heap.size, i, none⟩ = #[Value.int .i64 p, .int .i64 0, .int .i64 e.k, .int .i64 e.j, .int .i64 e.v, .int .i64 e.t, .int .i64 e.c, .int .i64 a, .int .i64 l, .int .i64 n, .slice a1 m1 k1, .slice a2 m2 k2][i]? := fun i => Joins.cell_of_block HX1.out i
  go_wp2
  go_ret
  exact ⟨rfl, HB1.out⟩

set_option linter.unusedSimpArgs false in
set_option maxHeartbeats 4000000 in
set_option maxRecDepth 100000 in
theorem cc_r4 (c : Cl) (a1 a2 : Option Addr) (m1 k1 m2 k2 : Nat) (w : World) (h0 : 1 ≤ c.p ∧ c.p ≤ 20) (h1 : 0 ≤ c.d ∧ c.d ≤ 2) (h2 : 0 ≤ c.a ∧ c.a ≤ 59) (h3 : 0 ≤ c.l ∧ c.l ≤ 2) (h4 : 0 ≤ c.n ∧ c.n ≤ 60) (hq : c.e.chk = 0) (hd : c.d = 0) (ha : ¬ 0 < c.a) (hl : ¬ 0 < c.l) (hne : unlike c.e.k c.e.j c.e.v c.e.t c.e.c 0 0 0 0 0 = false) (hb : BkAt w (.slice a1 m1 k1) (.slice a2 m2 k2) c) :
    Calls Try.prog 24 #[c.val (.slice a1 m1 k1) (.slice a2 m2 k2)] w fun e w' => e = .returned (.int .i64 (ckBook c.js c.rs)) ∧ Below w.heap.size w w' := by
  have HX0 : Aside ((w.alloc (boxC c (.slice a1 m1 k1) (.slice a2 m2 k2))).heap[w.heap.size]? = some (boxC c (.slice a1 m1 k1) (.slice a2 m2 k2))) := heap_new _ _
  have HB0 : Aside (Below w.heap.size w (w.alloc (boxC c (.slice a1 m1 k1) (.slice a2 m2 k2)))) := grew (Below.refl _ _) _
  obtain ⟨p, d, e, a, l, n, js, rs⟩ := c
  simp only at *
  have i0 := fun W => in_any p 1 20 W
  have i1 := fun W => in_any d 0 2 W
  have i2 := fun W => in_any a 0 59 W
  have i3 := fun W => in_any l 0 2 W
  have i4 := fun W => in_any n 0 60 W
  rw [decide_eq_true h0] at i0
  rw [decide_eq_true h1] at i1
  rw [decide_eq_true h2] at i2
  rw [decide_eq_true h3] at i3
  rw [decide_eq_true h4] at i4
  have hce : ∀ W, Calls Try.prog 54 #[ev e.k e.j e.v e.t e.c] W fun r w' => r = .returned (.int .i64 e.chk) ∧ Below W.heap.size W w' := fun W => ref_check e.k e.j e.v e.t e.c W
  rw [hq] at hce
  subst hd
  have hn := fun W => neq_entry e.k e.j e.v e.t e.c 0 0 0 0 0 W
  rw [hne] at hn
  clear hne
  clear h1 h2 h3 h4 h0 hq
  have HK : Aside (JobSl w (.slice a1 m1 k1) js ∧ RungSl w (.slice a2 m2 k2) rs) := hb
  clear hb
  go_enter Try.func24, Try.ntmps24
  go_wp2_with fail
  refine (i0 _).mono ?_
  rintro e wx ⟨rfl, rfl⟩
  go_wp2_with fail
  refine (i1 _).mono ?_
  rintro e wx ⟨rfl, rfl⟩
  go_wp2_with fail
  refine (i2 _).mono ?_
  rintro e wx ⟨rfl, rfl⟩
  go_wp2_with fail
  refine (i3 _).mono ?_
  rintro e wx ⟨rfl, rfl⟩
  go_wp2_with fail
  refine (i4 _).mono ?_
  rintro e wx ⟨rfl, rfl⟩
  clear i0 i1 i2 i3 i4
  go_wp2_with fail
  refine (hce _).mono ?_
  rintro r w1 ⟨rfl, hb1⟩
  have HX1 : Aside _ := heap_below HX0.out hb1 (heap_lt HX0.out)
  have HB1 : Aside (Below w.heap.size w w1) := step_below HB0.out hb1
  clear hb1 hce HX0 HB0
  have z : ∀ i, w1.cell? ⟨w.heap.size, i, none⟩ = #[Value.int .i64 p, .int .i64 0, .int .i64 e.k, .int .i64 e.j, .int .i64 e.v, .int .i64 e.t, .int .i64 e.c, .int .i64 a, .int .i64 l, .int .i64 n, .slice a1 m1 k1, .slice a2 m2 k2][i]? := fun i => Joins.cell_of_block HX1.out i
  have kb := ref_ckBook (.slice a1 m1 k1) (.slice a2 m2 k2) js rs w1 (HK.out.1.later HB1.out) (HK.out.2.later HB1.out)
  clear HK
  go_wp2_with fail
  refine kb.mono ?_
  rintro r w2 ⟨rfl, hb2⟩
  have HB2 : Aside (Below w.heap.size w w2) := step_below HB1.out hb2
  clear hb2 kb z
  go_wp2
  go_ret
  exact ⟨rfl, HB2.out⟩

set_option linter.unusedSimpArgs false in
set_option maxHeartbeats 4000000 in
set_option maxRecDepth 100000 in
theorem cc_w1 (c : Cl) (a1 a2 : Option Addr) (m1 k1 m2 k2 : Nat) (w : World) (h0 : 1 ≤ c.p ∧ c.p ≤ 20) (h1 : 0 ≤ c.d ∧ c.d ≤ 2) (h2 : 0 ≤ c.a ∧ c.a ≤ 59) (h3 : 0 ≤ c.l ∧ c.l ≤ 2) (h4 : 0 ≤ c.n ∧ c.n ≤ 60) (hq : c.e.chk = 0) (hd : c.d = 1) (ha : 0 < c.a) :
    Calls Try.prog 24 #[c.val (.slice a1 m1 k1) (.slice a2 m2 k2)] w fun e w' => e = .returned (.int .i64 (4)) ∧ Below w.heap.size w w' := by
  have HX0 : Aside ((w.alloc (boxC c (.slice a1 m1 k1) (.slice a2 m2 k2))).heap[w.heap.size]? = some (boxC c (.slice a1 m1 k1) (.slice a2 m2 k2))) := heap_new _ _
  have HB0 : Aside (Below w.heap.size w (w.alloc (boxC c (.slice a1 m1 k1) (.slice a2 m2 k2)))) := grew (Below.refl _ _) _
  obtain ⟨p, d, e, a, l, n, js, rs⟩ := c
  simp only at *
  have i0 := fun W => in_any p 1 20 W
  have i1 := fun W => in_any d 0 2 W
  have i2 := fun W => in_any a 0 59 W
  have i3 := fun W => in_any l 0 2 W
  have i4 := fun W => in_any n 0 60 W
  rw [decide_eq_true h0] at i0
  rw [decide_eq_true h1] at i1
  rw [decide_eq_true h2] at i2
  rw [decide_eq_true h3] at i3
  rw [decide_eq_true h4] at i4
  have hce : ∀ W, Calls Try.prog 54 #[ev e.k e.j e.v e.t e.c] W fun r w' => r = .returned (.int .i64 e.chk) ∧ Below W.heap.size W w' := fun W => ref_check e.k e.j e.v e.t e.c W
  rw [hq] at hce
  subst hd
  clear h1 h2 h3 h4 h0 hq
  go_enter Try.func24, Try.ntmps24
  go_wp2_with fail
  refine (i0 _).mono ?_
  rintro e wx ⟨rfl, rfl⟩
  go_wp2_with fail
  refine (i1 _).mono ?_
  rintro e wx ⟨rfl, rfl⟩
  go_wp2_with fail
  refine (i2 _).mono ?_
  rintro e wx ⟨rfl, rfl⟩
  go_wp2_with fail
  refine (i3 _).mono ?_
  rintro e wx ⟨rfl, rfl⟩
  go_wp2_with fail
  refine (i4 _).mono ?_
  rintro e wx ⟨rfl, rfl⟩
  clear i0 i1 i2 i3 i4
  go_wp2_with fail
  refine (hce _).mono ?_
  rintro r w1 ⟨rfl, hb1⟩
  have HX1 : Aside _ := heap_below HX0.out hb1 (heap_lt HX0.out)
  have HB1 : Aside (Below w.heap.size w w1) := step_below HB0.out hb1
  clear hb1 hce HX0 HB0
  have z : ∀ i, w1.cell? ⟨w.heap.size, i, none⟩ = #[Value.int .i64 p, .int .i64 1, .int .i64 e.k, .int .i64 e.j, .int .i64 e.v, .int .i64 e.t, .int .i64 e.c, .int .i64 a, .int .i64 l, .int .i64 n, .slice a1 m1 k1, .slice a2 m2 k2][i]? := fun i => Joins.cell_of_block HX1.out i
  go_wp2
  go_ret
  exact ⟨rfl, HB1.out⟩

set_option linter.unusedSimpArgs false in
set_option maxHeartbeats 4000000 in
set_option maxRecDepth 100000 in
theorem cc_w2 (c : Cl) (a1 a2 : Option Addr) (m1 k1 m2 k2 : Nat) (w : World) (h0 : 1 ≤ c.p ∧ c.p ≤ 20) (h1 : 0 ≤ c.d ∧ c.d ≤ 2) (h2 : 0 ≤ c.a ∧ c.a ≤ 59) (h3 : 0 ≤ c.l ∧ c.l ≤ 2) (h4 : 0 ≤ c.n ∧ c.n ≤ 60) (hq : c.e.chk = 0) (hd : c.d = 1) (ha : ¬ 0 < c.a) (hl : 0 < c.l) :
    Calls Try.prog 24 #[c.val (.slice a1 m1 k1) (.slice a2 m2 k2)] w fun e w' => e = .returned (.int .i64 (4)) ∧ Below w.heap.size w w' := by
  have HX0 : Aside ((w.alloc (boxC c (.slice a1 m1 k1) (.slice a2 m2 k2))).heap[w.heap.size]? = some (boxC c (.slice a1 m1 k1) (.slice a2 m2 k2))) := heap_new _ _
  have HB0 : Aside (Below w.heap.size w (w.alloc (boxC c (.slice a1 m1 k1) (.slice a2 m2 k2)))) := grew (Below.refl _ _) _
  obtain ⟨p, d, e, a, l, n, js, rs⟩ := c
  simp only at *
  have i0 := fun W => in_any p 1 20 W
  have i1 := fun W => in_any d 0 2 W
  have i2 := fun W => in_any a 0 59 W
  have i3 := fun W => in_any l 0 2 W
  have i4 := fun W => in_any n 0 60 W
  rw [decide_eq_true h0] at i0
  rw [decide_eq_true h1] at i1
  rw [decide_eq_true h2] at i2
  rw [decide_eq_true h3] at i3
  rw [decide_eq_true h4] at i4
  have hce : ∀ W, Calls Try.prog 54 #[ev e.k e.j e.v e.t e.c] W fun r w' => r = .returned (.int .i64 e.chk) ∧ Below W.heap.size W w' := fun W => ref_check e.k e.j e.v e.t e.c W
  rw [hq] at hce
  subst hd
  clear h1 h2 h3 h4 h0 hq
  go_enter Try.func24, Try.ntmps24
  go_wp2_with fail
  refine (i0 _).mono ?_
  rintro e wx ⟨rfl, rfl⟩
  go_wp2_with fail
  refine (i1 _).mono ?_
  rintro e wx ⟨rfl, rfl⟩
  go_wp2_with fail
  refine (i2 _).mono ?_
  rintro e wx ⟨rfl, rfl⟩
  go_wp2_with fail
  refine (i3 _).mono ?_
  rintro e wx ⟨rfl, rfl⟩
  go_wp2_with fail
  refine (i4 _).mono ?_
  rintro e wx ⟨rfl, rfl⟩
  clear i0 i1 i2 i3 i4
  go_wp2_with fail
  refine (hce _).mono ?_
  rintro r w1 ⟨rfl, hb1⟩
  have HX1 : Aside _ := heap_below HX0.out hb1 (heap_lt HX0.out)
  have HB1 : Aside (Below w.heap.size w w1) := step_below HB0.out hb1
  clear hb1 hce HX0 HB0
  have z : ∀ i, w1.cell? ⟨w.heap.size, i, none⟩ = #[Value.int .i64 p, .int .i64 1, .int .i64 e.k, .int .i64 e.j, .int .i64 e.v, .int .i64 e.t, .int .i64 e.c, .int .i64 a, .int .i64 l, .int .i64 n, .slice a1 m1 k1, .slice a2 m2 k2][i]? := fun i => Joins.cell_of_block HX1.out i
  go_wp2
  go_ret
  exact ⟨rfl, HB1.out⟩

set_option linter.unusedSimpArgs false in
set_option maxHeartbeats 4000000 in
set_option maxRecDepth 100000 in
theorem cc_w3 (c : Cl) (a1 a2 : Option Addr) (m1 k1 m2 k2 : Nat) (w : World) (h0 : 1 ≤ c.p ∧ c.p ≤ 20) (h1 : 0 ≤ c.d ∧ c.d ≤ 2) (h2 : 0 ≤ c.a ∧ c.a ≤ 59) (h3 : 0 ≤ c.l ∧ c.l ≤ 2) (h4 : 0 ≤ c.n ∧ c.n ≤ 60) (hq : c.e.chk = 0) (hd : c.d = 1) (ha : ¬ 0 < c.a) (hl : ¬ 0 < c.l) (hk : (c.e.k == 0) = true) :
    Calls Try.prog 24 #[c.val (.slice a1 m1 k1) (.slice a2 m2 k2)] w fun e w' => e = .returned (.int .i64 (4)) ∧ Below w.heap.size w w' := by
  have HX0 : Aside ((w.alloc (boxC c (.slice a1 m1 k1) (.slice a2 m2 k2))).heap[w.heap.size]? = some (boxC c (.slice a1 m1 k1) (.slice a2 m2 k2))) := heap_new _ _
  have HB0 : Aside (Below w.heap.size w (w.alloc (boxC c (.slice a1 m1 k1) (.slice a2 m2 k2)))) := grew (Below.refl _ _) _
  obtain ⟨p, d, e, a, l, n, js, rs⟩ := c
  simp only at *
  have i0 := fun W => in_any p 1 20 W
  have i1 := fun W => in_any d 0 2 W
  have i2 := fun W => in_any a 0 59 W
  have i3 := fun W => in_any l 0 2 W
  have i4 := fun W => in_any n 0 60 W
  rw [decide_eq_true h0] at i0
  rw [decide_eq_true h1] at i1
  rw [decide_eq_true h2] at i2
  rw [decide_eq_true h3] at i3
  rw [decide_eq_true h4] at i4
  have hce : ∀ W, Calls Try.prog 54 #[ev e.k e.j e.v e.t e.c] W fun r w' => r = .returned (.int .i64 e.chk) ∧ Below W.heap.size W w' := fun W => ref_check e.k e.j e.v e.t e.c W
  rw [hq] at hce
  subst hd
  clear h1 h2 h3 h4 h0 hq
  go_enter Try.func24, Try.ntmps24
  go_wp2_with fail
  refine (i0 _).mono ?_
  rintro e wx ⟨rfl, rfl⟩
  go_wp2_with fail
  refine (i1 _).mono ?_
  rintro e wx ⟨rfl, rfl⟩
  go_wp2_with fail
  refine (i2 _).mono ?_
  rintro e wx ⟨rfl, rfl⟩
  go_wp2_with fail
  refine (i3 _).mono ?_
  rintro e wx ⟨rfl, rfl⟩
  go_wp2_with fail
  refine (i4 _).mono ?_
  rintro e wx ⟨rfl, rfl⟩
  clear i0 i1 i2 i3 i4
  go_wp2_with fail
  refine (hce _).mono ?_
  rintro r w1 ⟨rfl, hb1⟩
  have HX1 : Aside _ := heap_below HX0.out hb1 (heap_lt HX0.out)
  have HB1 : Aside (Below w.heap.size w w1) := step_below HB0.out hb1
  clear hb1 hce HX0 HB0
  have z : ∀ i, w1.cell? ⟨w.heap.size, i, none⟩ = #[Value.int .i64 p, .int .i64 1, .int .i64 e.k, .int .i64 e.j, .int .i64 e.v, .int .i64 e.t, .int .i64 e.c, .int .i64 a, .int .i64 l, .int .i64 n, .slice a1 m1 k1, .slice a2 m2 k2][i]? := fun i => Joins.cell_of_block HX1.out i
  go_wp2
  go_ret
  exact ⟨rfl, HB1.out⟩

set_option linter.unusedSimpArgs false in
set_option maxHeartbeats 4000000 in
set_option maxRecDepth 100000 in
theorem cc_w4 (c : Cl) (a1 a2 : Option Addr) (m1 k1 m2 k2 : Nat) (w : World) (h0 : 1 ≤ c.p ∧ c.p ≤ 20) (h1 : 0 ≤ c.d ∧ c.d ≤ 2) (h2 : 0 ≤ c.a ∧ c.a ≤ 59) (h3 : 0 ≤ c.l ∧ c.l ≤ 2) (h4 : 0 ≤ c.n ∧ c.n ≤ 60) (hq : c.e.chk = 0) (hd : c.d = 1) (ha : ¬ 0 < c.a) (hl : ¬ 0 < c.l) (hk : (c.e.k == 0) = false) (hb : BkAt w (.slice a1 m1 k1) (.slice a2 m2 k2) c) :
    Calls Try.prog 24 #[c.val (.slice a1 m1 k1) (.slice a2 m2 k2)] w fun e w' => e = .returned (.int .i64 (ckBook c.js c.rs)) ∧ Below w.heap.size w w' := by
  have HX0 : Aside ((w.alloc (boxC c (.slice a1 m1 k1) (.slice a2 m2 k2))).heap[w.heap.size]? = some (boxC c (.slice a1 m1 k1) (.slice a2 m2 k2))) := heap_new _ _
  have HB0 : Aside (Below w.heap.size w (w.alloc (boxC c (.slice a1 m1 k1) (.slice a2 m2 k2)))) := grew (Below.refl _ _) _
  obtain ⟨p, d, e, a, l, n, js, rs⟩ := c
  simp only at *
  have i0 := fun W => in_any p 1 20 W
  have i1 := fun W => in_any d 0 2 W
  have i2 := fun W => in_any a 0 59 W
  have i3 := fun W => in_any l 0 2 W
  have i4 := fun W => in_any n 0 60 W
  rw [decide_eq_true h0] at i0
  rw [decide_eq_true h1] at i1
  rw [decide_eq_true h2] at i2
  rw [decide_eq_true h3] at i3
  rw [decide_eq_true h4] at i4
  have hce : ∀ W, Calls Try.prog 54 #[ev e.k e.j e.v e.t e.c] W fun r w' => r = .returned (.int .i64 e.chk) ∧ Below W.heap.size W w' := fun W => ref_check e.k e.j e.v e.t e.c W
  rw [hq] at hce
  subst hd
  clear h1 h2 h3 h4 h0 hq
  have HK : Aside (JobSl w (.slice a1 m1 k1) js ∧ RungSl w (.slice a2 m2 k2) rs) := hb
  clear hb
  go_enter Try.func24, Try.ntmps24
  go_wp2_with fail
  refine (i0 _).mono ?_
  rintro e wx ⟨rfl, rfl⟩
  go_wp2_with fail
  refine (i1 _).mono ?_
  rintro e wx ⟨rfl, rfl⟩
  go_wp2_with fail
  refine (i2 _).mono ?_
  rintro e wx ⟨rfl, rfl⟩
  go_wp2_with fail
  refine (i3 _).mono ?_
  rintro e wx ⟨rfl, rfl⟩
  go_wp2_with fail
  refine (i4 _).mono ?_
  rintro e wx ⟨rfl, rfl⟩
  clear i0 i1 i2 i3 i4
  go_wp2_with fail
  refine (hce _).mono ?_
  rintro r w1 ⟨rfl, hb1⟩
  have HX1 : Aside _ := heap_below HX0.out hb1 (heap_lt HX0.out)
  have HB1 : Aside (Below w.heap.size w w1) := step_below HB0.out hb1
  clear hb1 hce HX0 HB0
  have z : ∀ i, w1.cell? ⟨w.heap.size, i, none⟩ = #[Value.int .i64 p, .int .i64 1, .int .i64 e.k, .int .i64 e.j, .int .i64 e.v, .int .i64 e.t, .int .i64 e.c, .int .i64 a, .int .i64 l, .int .i64 n, .slice a1 m1 k1, .slice a2 m2 k2][i]? := fun i => Joins.cell_of_block HX1.out i
  have kb := ref_ckBook (.slice a1 m1 k1) (.slice a2 m2 k2) js rs w1 (HK.out.1.later HB1.out) (HK.out.2.later HB1.out)
  clear HK
  go_wp2_with fail
  refine kb.mono ?_
  rintro r w2 ⟨rfl, hb2⟩
  have HB2 : Aside (Below w.heap.size w w2) := step_below HB1.out hb2
  clear hb2 kb z
  go_wp2
  go_ret
  exact ⟨rfl, HB2.out⟩

set_option linter.unusedSimpArgs false in
set_option maxHeartbeats 4000000 in
set_option maxRecDepth 100000 in
theorem cc_x (c : Cl) (a1 a2 : Option Addr) (m1 k1 m2 k2 : Nat) (w : World) (h0 : 1 ≤ c.p ∧ c.p ≤ 20) (h1 : 0 ≤ c.d ∧ c.d ≤ 2) (h2 : 0 ≤ c.a ∧ c.a ≤ 59) (h3 : 0 ≤ c.l ∧ c.l ≤ 2) (h4 : 0 ≤ c.n ∧ c.n ≤ 60) (hq : c.e.chk = 0) (hd : c.d = 2) (hb : BkAt w (.slice a1 m1 k1) (.slice a2 m2 k2) c) :
    Calls Try.prog 24 #[c.val (.slice a1 m1 k1) (.slice a2 m2 k2)] w fun e w' => e = .returned (.int .i64 (ckBook c.js c.rs)) ∧ Below w.heap.size w w' := by
  have HX0 : Aside ((w.alloc (boxC c (.slice a1 m1 k1) (.slice a2 m2 k2))).heap[w.heap.size]? = some (boxC c (.slice a1 m1 k1) (.slice a2 m2 k2))) := heap_new _ _
  have HB0 : Aside (Below w.heap.size w (w.alloc (boxC c (.slice a1 m1 k1) (.slice a2 m2 k2)))) := grew (Below.refl _ _) _
  obtain ⟨p, d, e, a, l, n, js, rs⟩ := c
  simp only at *
  have i0 := fun W => in_any p 1 20 W
  have i1 := fun W => in_any d 0 2 W
  have i2 := fun W => in_any a 0 59 W
  have i3 := fun W => in_any l 0 2 W
  have i4 := fun W => in_any n 0 60 W
  rw [decide_eq_true h0] at i0
  rw [decide_eq_true h1] at i1
  rw [decide_eq_true h2] at i2
  rw [decide_eq_true h3] at i3
  rw [decide_eq_true h4] at i4
  have hce : ∀ W, Calls Try.prog 54 #[ev e.k e.j e.v e.t e.c] W fun r w' => r = .returned (.int .i64 e.chk) ∧ Below W.heap.size W w' := fun W => ref_check e.k e.j e.v e.t e.c W
  rw [hq] at hce
  subst hd
  clear h1 h2 h3 h4 h0 hq
  have HK : Aside (JobSl w (.slice a1 m1 k1) js ∧ RungSl w (.slice a2 m2 k2) rs) := hb
  clear hb
  go_enter Try.func24, Try.ntmps24
  go_wp2_with fail
  refine (i0 _).mono ?_
  rintro e wx ⟨rfl, rfl⟩
  go_wp2_with fail
  refine (i1 _).mono ?_
  rintro e wx ⟨rfl, rfl⟩
  go_wp2_with fail
  refine (i2 _).mono ?_
  rintro e wx ⟨rfl, rfl⟩
  go_wp2_with fail
  refine (i3 _).mono ?_
  rintro e wx ⟨rfl, rfl⟩
  go_wp2_with fail
  refine (i4 _).mono ?_
  rintro e wx ⟨rfl, rfl⟩
  clear i0 i1 i2 i3 i4
  go_wp2_with fail
  refine (hce _).mono ?_
  rintro r w1 ⟨rfl, hb1⟩
  have HX1 : Aside _ := heap_below HX0.out hb1 (heap_lt HX0.out)
  have HB1 : Aside (Below w.heap.size w w1) := step_below HB0.out hb1
  clear hb1 hce HX0 HB0
  have z : ∀ i, w1.cell? ⟨w.heap.size, i, none⟩ = #[Value.int .i64 p, .int .i64 2, .int .i64 e.k, .int .i64 e.j, .int .i64 e.v, .int .i64 e.t, .int .i64 e.c, .int .i64 a, .int .i64 l, .int .i64 n, .slice a1 m1 k1, .slice a2 m2 k2][i]? := fun i => Joins.cell_of_block HX1.out i
  have kb := ref_ckBook (.slice a1 m1 k1) (.slice a2 m2 k2) js rs w1 (HK.out.1.later HB1.out) (HK.out.2.later HB1.out)
  clear HK
  go_wp2_with fail
  refine kb.mono ?_
  rintro r w2 ⟨rfl, hb2⟩
  have HB2 : Aside (Below w.heap.size w w2) := step_below HB1.out hb2
  clear hb2 kb z
  go_wp2
  go_ret
  exact ⟨rfl, HB2.out⟩

/-- The reference's CheckClient. -/
theorem ref_ckClient (c : Cl) (v1 v2 : Value) (w : World) (hb : BkAt w v1 v2 c) :
    Calls Try.prog 24 #[c.val v1 v2] w fun e w' => e = .returned (.int .i64 c.ck) ∧ Below w.heap.size w w' := by
  obtain ⟨a1, k1, a2, k2, rfl, rfl⟩ := bk_slices hb.1 hb.2
  have hout : c.out = true → c.ck = 3 := fun h => by rw [Cl.ck, if_pos h]
  by_cases h0 : 1 ≤ c.p ∧ c.p ≤ 20
  · by_cases h1 : 0 ≤ c.d ∧ c.d ≤ 2
    · by_cases h2 : 0 ≤ c.a ∧ c.a ≤ 59
      · by_cases h3 : 0 ≤ c.l ∧ c.l ≤ 2
        · by_cases h4 : 0 ≤ c.n ∧ c.n ≤ 60
          · have hg : c.out = false := Cl.good_of ⟨h0, h1, h2, h3, h4⟩
            by_cases hq : c.e.chk = 0
            · have e0 : c.ck = if c.odd = true then 4 else ckBook c.js c.rs := by rw [Cl.ck, if_neg (by simp [hg]), if_neg (by simpa using hq)]
              rw [e0]
              have hd : c.d = 0 ∨ c.d = 1 ∨ c.d = 2 := by omega
              rcases hd with hd | hd | hd
              · have e1 : c.odd = (decide (0 < c.a) || (decide (0 < c.l) || c.e.ne En.zero)) := by rw [Cl.odd, if_pos hd]
                by_cases ha : 0 < c.a
                · rw [if_pos (by rw [e1]; simp [ha])]
                  exact cc_r1 c a1 a2 _ k1 _ k2 w h0 h1 h2 h3 h4 hq hd ha
                · by_cases hl : 0 < c.l
                  · rw [if_pos (by rw [e1]; simp [hl])]
                    exact cc_r2 c a1 a2 _ k1 _ k2 w h0 h1 h2 h3 h4 hq hd ha hl
                  · cases hn : c.e.ne En.zero with
                    | true =>
                      rw [if_pos (by rw [e1, hn]; simp)]
                      exact cc_r3 c a1 a2 _ k1 _ k2 w h0 h1 h2 h3 h4 hq hd ha hl hn
                    | false =>
                      rw [if_neg (by rw [e1, hn]; simp [ha, hl])]
                      exact cc_r4 c a1 a2 _ k1 _ k2 w h0 h1 h2 h3 h4 hq hd ha hl hn hb
              · have e1 : c.odd = (decide (0 < c.a) || (decide (0 < c.l) || decide (c.e.k = 0))) := by rw [Cl.odd, if_neg (by omega), if_pos hd]
                by_cases ha : 0 < c.a
                · rw [if_pos (by rw [e1]; simp [ha])]
                  exact cc_w1 c a1 a2 _ k1 _ k2 w h0 h1 h2 h3 h4 hq hd ha
                · by_cases hl : 0 < c.l
                  · rw [if_pos (by rw [e1]; simp [hl])]
                    exact cc_w2 c a1 a2 _ k1 _ k2 w h0 h1 h2 h3 h4 hq hd ha hl
                  · by_cases hk : c.e.k = 0
                    · rw [if_pos (by rw [e1]; simp [hk])]
                      exact cc_w3 c a1 a2 _ k1 _ k2 w h0 h1 h2 h3 h4 hq hd ha hl (by rw [hk]; rfl)
                    · rw [if_neg (by rw [e1]; simp [ha, hl, hk])]
                      exact cc_w4 c a1 a2 _ k1 _ k2 w h0 h1 h2 h3 h4 hq hd ha hl (by rw [beq_eq_false_iff_ne]; exact hk) hb
              · rw [if_neg (by rw [Cl.odd, if_neg (by omega), if_neg (by omega)]; simp)]
                exact cc_x c a1 a2 _ k1 _ k2 w h0 h1 h2 h3 h4 hq hd hb
            · rw [show c.ck = c.e.chk by rw [Cl.ck, if_neg (by simp [hg]), if_pos hq]]
              exact cc_ent c a1 a2 _ k1 _ k2 w h0 h1 h2 h3 h4 _ rfl (by rw [bne_iff_ne]; exact hq)
          · rw [hout (by rw [← Bool.not_eq_false]; exact fun h => h4 (Cl.good h).2.2.2.2)]
            exact cc_out4 c a1 a2 _ k1 _ k2 w h0 h1 h2 h3 h4
        · rw [hout (by rw [← Bool.not_eq_false]; exact fun h => h3 (Cl.good h).2.2.2.1)]
          exact cc_out3 c a1 a2 _ k1 _ k2 w h0 h1 h2 h3
      · rw [hout (by rw [← Bool.not_eq_false]; exact fun h => h2 (Cl.good h).2.2.1)]
        exact cc_out2 c a1 a2 _ k1 _ k2 w h0 h1 h2
    · rw [hout (by rw [← Bool.not_eq_false]; exact fun h => h1 (Cl.good h).2.1)]
      exact cc_out1 c a1 a2 _ k1 _ k2 w h0 h1
  · rw [hout (by rw [← Bool.not_eq_false]; exact fun h => h0 (Cl.good h).1)]
    exact cc_out0 c a1 a2 _ k1 _ k2 w h0

end Go.Proofs.Ytbokdcdnandgbae
