/- For the law: Package client's Heard. Package book: slices.DeleteFunc at jobs; the walk of drop. Package book: the walks of slices.DeleteFunc at jobs, and of drop. Package book: slices.Insert at a full row of jobs. Package book: the walk of put. Package book: the walk of ring, where nothing is rung. Package book: the walk of Apply, where something is wrong; the region that copies. Package book: the walk of Apply at a right book and entry. Package book: the walk of put, where the new job goes ahead of another one. -/
import Derived.Test.YtmoaobfmopimlafGreatDoorM08
import Derived.Deep.CutBlock
import Derived.Lib.AppendZerosOnto
import Derived.Deep.RegionLaw
import Derived.Deep.RegionHeld3
import Derived.Deep.QuietTactic
import Derived.BigQuiet
namespace Go.Proofs.YtmoaobfmopimlafGreatDoor
open Go.RowKit
set_option linter.unusedSimpArgs false in
set_option maxHeartbeats 4000000 in
set_option maxRecDepth 100000 in
theorem zh_ck (c : Cl) (a1 a2 : Option Addr) (m1 k1 m2 k2 : Nat) (x : En) (w : World) (hb : BkAt w (.slice a1 m1 k1) (.slice a2 m2 k2) c) (d : Int) (hck : c.ck = d) (hz : (d != 0) = true) :
    AnsX 136 #[c.val (.slice a1 m1 k1) (.slice a2 m2 k2), x.val] w (Cl.zero, d) nil0 nil0 := by
  have HB0 : Aside (Below w.heap.size w (((w.alloc (boxC c (.slice a1 m1 k1) (.slice a2 m2 k2))).alloc (boxE x.k x.j x.v x.t x.c)).alloc (boxC Cl.zero nil0 nil0))) := grew (grew (grew (Below.refl _ _) _) _) _
  have HX0 : Aside ((((w.alloc (boxC c (.slice a1 m1 k1) (.slice a2 m2 k2))).alloc (boxE x.k x.j x.v x.t x.c)).alloc (boxC Cl.zero nil0 nil0)).heap[w.heap.size]? = some (boxC c (.slice a1 m1 k1) (.slice a2 m2 k2))) := heap_old (heap_old (heap_new _ _) _) _
  have HE0 : Aside ((((w.alloc (boxC c (.slice a1 m1 k1) (.slice a2 m2 k2))).alloc (boxE x.k x.j x.v x.t x.c)).alloc (boxC Cl.zero nil0 nil0)).heap[w.heap.size + 1]? = some (boxE x.k x.j x.v x.t x.c)) := by
    have := heap_new (w.alloc (boxC c (.slice a1 m1 k1) (.slice a2 m2 k2))) (boxE x.k x.j x.v x.t x.c)
    rw [World.size_alloc] at this
    exact heap_old (this) _
  have HR0 : Aside ((((w.alloc (boxC c (.slice a1 m1 k1) (.slice a2 m2 k2))).alloc (boxE x.k x.j x.v x.t x.c)).alloc (boxC Cl.zero nil0 nil0)).heap[w.heap.size + 1 + 1]? = some (boxC Cl.zero nil0 nil0)) := by
    have := heap_new ((w.alloc (boxC c (.slice a1 m1 k1) (.slice a2 m2 k2))).alloc (boxE x.k x.j x.v x.t x.c)) (boxC Cl.zero nil0 nil0)
    rw [World.size_alloc, World.size_alloc] at this
    exact this
  have kc := cl_check c (.slice a1 m1 k1) (.slice a2 m2 k2) _ (bkAt_later hb HB0.out)
  rw [hck] at kc
  have HK : Aside (BkAt w (.slice a1 m1 k1) (.slice a2 m2 k2) c) := hb
  clear hb hck
  go_enter Tryz.func136, Tryz.ntmps136
  go_wp2_with fail
  refine kc.mono ?_
  rintro r w1 ⟨rfl, hb1⟩
  have HX1 : Aside _ := heap_below HX0.out hb1 (heap_lt HX0.out)
  have HE1 : Aside _ := heap_below HE0.out hb1 (heap_lt HE0.out)
  have HR1 : Aside _ := heap_below HR0.out hb1 (heap_lt HR0.out)
  have HB1 : Aside (Below w.heap.size w w1) := step_below HB0.out hb1
  clear hb1 HB0 HX0 HE0 HR0
  clear kc
  have zr : ∀ i, w1.cell? ⟨w.heap.size + 1 + 1, i, none⟩ = #[Value.int .i64 0, .int .i64 0, .int .i64 0, .int .i64 0, .int .i64 0, .int .i64 0, .int .i64 0, .int .i64 0, .int .i64 0, .int .i64 0, .slice none 0 0, .slice none 0 0][i]? := fun i => Joins.cell_of_block HR1.out i
  have fzr : ∀ i, w1.frozen? ⟨w.heap.size + 1 + 1, i, none⟩ = false := fun i => Joins.unfrozen_of_block HR1.out i
  go_wp2
  refine ret_st (p := 4) (q := 5) w1 (w.heap.size + 1 + 1) (Cl.zero) nil0 nil0 (o := Cl.zero) (u1 := nil0) (u2 := nil0) Tryz.results136 rfl rfl rfl HR1.out rfl ?_
  exact ⟨rfl, st12_below HB1.out (by omega) _ _ _⟩
set_option linter.unusedSimpArgs false in
set_option maxHeartbeats 4000000 in
set_option maxRecDepth 100000 in
theorem zh_ent (c : Cl) (a1 a2 : Option Addr) (m1 k1 m2 k2 : Nat) (x : En) (w : World) (hb : BkAt w (.slice a1 m1 k1) (.slice a2 m2 k2) c) (hck : c.ck = 0) (q : Int) (hx : x.chk = q) (hz : (q != 0) = true) :
    AnsX 136 #[c.val (.slice a1 m1 k1) (.slice a2 m2 k2), x.val] w (Cl.zero, q) nil0 nil0 := by
  have HB0 : Aside (Below w.heap.size w (((w.alloc (boxC c (.slice a1 m1 k1) (.slice a2 m2 k2))).alloc (boxE x.k x.j x.v x.t x.c)).alloc (boxC Cl.zero nil0 nil0))) := grew (grew (grew (Below.refl _ _) _) _) _
  have HX0 : Aside ((((w.alloc (boxC c (.slice a1 m1 k1) (.slice a2 m2 k2))).alloc (boxE x.k x.j x.v x.t x.c)).alloc (boxC Cl.zero nil0 nil0)).heap[w.heap.size]? = some (boxC c (.slice a1 m1 k1) (.slice a2 m2 k2))) := heap_old (heap_old (heap_new _ _) _) _
  have HE0 : Aside ((((w.alloc (boxC c (.slice a1 m1 k1) (.slice a2 m2 k2))).alloc (boxE x.k x.j x.v x.t x.c)).alloc (boxC Cl.zero nil0 nil0)).heap[w.heap.size + 1]? = some (boxE x.k x.j x.v x.t x.c)) := by
    have := heap_new (w.alloc (boxC c (.slice a1 m1 k1) (.slice a2 m2 k2))) (boxE x.k x.j x.v x.t x.c)
    rw [World.size_alloc] at this
    exact heap_old (this) _
  have HR0 : Aside ((((w.alloc (boxC c (.slice a1 m1 k1) (.slice a2 m2 k2))).alloc (boxE x.k x.j x.v x.t x.c)).alloc (boxC Cl.zero nil0 nil0)).heap[w.heap.size + 1 + 1]? = some (boxC Cl.zero nil0 nil0)) := by
    have := heap_new ((w.alloc (boxC c (.slice a1 m1 k1) (.slice a2 m2 k2))).alloc (boxE x.k x.j x.v x.t x.c)) (boxC Cl.zero nil0 nil0)
    rw [World.size_alloc, World.size_alloc] at this
    exact this
  have kc := cl_check c (.slice a1 m1 k1) (.slice a2 m2 k2) _ (bkAt_later hb HB0.out)
  rw [hck] at kc
  have HK : Aside (BkAt w (.slice a1 m1 k1) (.slice a2 m2 k2) c) := hb
  clear hb hck
  have hce : ∀ W, Calls Tryz.prog 115 #[ev x.k x.j x.v x.t x.c] W fun e w' => e = .returned (.int .i64 x.chk) ∧ Below W.heap.size W w' := fun W => check_any x.k x.j x.v x.t x.c W
  rw [hx] at hce
  clear hx
  go_enter Tryz.func136, Tryz.ntmps136
  go_wp2_with fail
  refine kc.mono ?_
  rintro r w1 ⟨rfl, hb1⟩
  have HX1 : Aside _ := heap_below HX0.out hb1 (heap_lt HX0.out)
  have HE1 : Aside _ := heap_below HE0.out hb1 (heap_lt HE0.out)
  have HR1 : Aside _ := heap_below HR0.out hb1 (heap_lt HR0.out)
  have HB1 : Aside (Below w.heap.size w w1) := step_below HB0.out hb1
  clear hb1 HB0 HX0 HE0 HR0
  clear kc
  have ze : ∀ i, w1.cell? ⟨w.heap.size + 1, i, none⟩ = #[Value.int .i64 x.k, .int .i64 x.j, .int .i64 x.v, .int .i64 x.t, .int .i64 x.c][i]? := fun i => Joins.cell_of_block HE1.out i
  go_wp2_with fail
  refine (hce _).mono ?_
  rintro r w2 ⟨rfl, hb2⟩
  have HX2 : Aside _ := heap_below HX1.out hb2 (heap_lt HX1.out)
  have HE2 : Aside _ := heap_below HE1.out hb2 (heap_lt HE1.out)
  have HR2 : Aside _ := heap_below HR1.out hb2 (heap_lt HR1.out)
  have HB2 : Aside (Below w.heap.size w w2) := step_below HB1.out hb2
  clear hb2 HB1 HX1 HE1 HR1
  clear ze hce
  have zr : ∀ i, w2.cell? ⟨w.heap.size + 1 + 1, i, none⟩ = #[Value.int .i64 0, .int .i64 0, .int .i64 0, .int .i64 0, .int .i64 0, .int .i64 0, .int .i64 0, .int .i64 0, .int .i64 0, .int .i64 0, .slice none 0 0, .slice none 0 0][i]? := fun i => Joins.cell_of_block HR2.out i
  have fzr : ∀ i, w2.frozen? ⟨w.heap.size + 1 + 1, i, none⟩ = false := fun i => Joins.unfrozen_of_block HR2.out i
  go_wp2
  refine ret_st (p := 4) (q := 5) w2 (w.heap.size + 1 + 1) (Cl.zero) nil0 nil0 (o := Cl.zero) (u1 := nil0) (u2 := nil0) Tryz.results136 rfl rfl rfl HR2.out rfl ?_
  exact ⟨rfl, st12_below HB2.out (by omega) _ _ _⟩
set_option linter.unusedSimpArgs false in
set_option maxHeartbeats 4000000 in
set_option maxRecDepth 100000 in
theorem zh_late (c : Cl) (a1 a2 : Option Addr) (m1 k1 m2 k2 : Nat) (x : En) (w : World) (hb : BkAt w (.slice a1 m1 k1) (.slice a2 m2 k2) c) (hck : c.ck = 0) (hx : x.chk = 0) (hd : (c.d != 2) = true) :
    AnsX 136 #[c.val (.slice a1 m1 k1) (.slice a2 m2 k2), x.val] w (Cl.zero, 7) nil0 nil0 := by
  have HB0 : Aside (Below w.heap.size w (((w.alloc (boxC c (.slice a1 m1 k1) (.slice a2 m2 k2))).alloc (boxE x.k x.j x.v x.t x.c)).alloc (boxC Cl.zero nil0 nil0))) := grew (grew (grew (Below.refl _ _) _) _) _
  have HX0 : Aside ((((w.alloc (boxC c (.slice a1 m1 k1) (.slice a2 m2 k2))).alloc (boxE x.k x.j x.v x.t x.c)).alloc (boxC Cl.zero nil0 nil0)).heap[w.heap.size]? = some (boxC c (.slice a1 m1 k1) (.slice a2 m2 k2))) := heap_old (heap_old (heap_new _ _) _) _
  have HE0 : Aside ((((w.alloc (boxC c (.slice a1 m1 k1) (.slice a2 m2 k2))).alloc (boxE x.k x.j x.v x.t x.c)).alloc (boxC Cl.zero nil0 nil0)).heap[w.heap.size + 1]? = some (boxE x.k x.j x.v x.t x.c)) := by
    have := heap_new (w.alloc (boxC c (.slice a1 m1 k1) (.slice a2 m2 k2))) (boxE x.k x.j x.v x.t x.c)
    rw [World.size_alloc] at this
    exact heap_old (this) _
  have HR0 : Aside ((((w.alloc (boxC c (.slice a1 m1 k1) (.slice a2 m2 k2))).alloc (boxE x.k x.j x.v x.t x.c)).alloc (boxC Cl.zero nil0 nil0)).heap[w.heap.size + 1 + 1]? = some (boxC Cl.zero nil0 nil0)) := by
    have := heap_new ((w.alloc (boxC c (.slice a1 m1 k1) (.slice a2 m2 k2))).alloc (boxE x.k x.j x.v x.t x.c)) (boxC Cl.zero nil0 nil0)
    rw [World.size_alloc, World.size_alloc] at this
    exact this
  have kc := cl_check c (.slice a1 m1 k1) (.slice a2 m2 k2) _ (bkAt_later hb HB0.out)
  rw [hck] at kc
  have HK : Aside (BkAt w (.slice a1 m1 k1) (.slice a2 m2 k2) c) := hb
  clear hb hck
  have hce : ∀ W, Calls Tryz.prog 115 #[ev x.k x.j x.v x.t x.c] W fun e w' => e = .returned (.int .i64 x.chk) ∧ Below W.heap.size W w' := fun W => check_any x.k x.j x.v x.t x.c W
  rw [hx] at hce
  clear hx
  go_enter Tryz.func136, Tryz.ntmps136
  go_wp2_with fail
  refine kc.mono ?_
  rintro r w1 ⟨rfl, hb1⟩
  have HX1 : Aside _ := heap_below HX0.out hb1 (heap_lt HX0.out)
  have HE1 : Aside _ := heap_below HE0.out hb1 (heap_lt HE0.out)
  have HR1 : Aside _ := heap_below HR0.out hb1 (heap_lt HR0.out)
  have HB1 : Aside (Below w.heap.size w w1) := step_below HB0.out hb1
  clear hb1 HB0 HX0 HE0 HR0
  clear kc
  have ze : ∀ i, w1.cell? ⟨w.heap.size + 1, i, none⟩ = #[Value.int .i64 x.k, .int .i64 x.j, .int .i64 x.v, .int .i64 x.t, .int .i64 x.c][i]? := fun i => Joins.cell_of_block HE1.out i
  go_wp2_with fail
  refine (hce _).mono ?_
  rintro r w2 ⟨rfl, hb2⟩
  have HX2 : Aside _ := heap_below HX1.out hb2 (heap_lt HX1.out)
  have HE2 : Aside _ := heap_below HE1.out hb2 (heap_lt HE1.out)
  have HR2 : Aside _ := heap_below HR1.out hb2 (heap_lt HR1.out)
  have HB2 : Aside (Below w.heap.size w w2) := step_below HB1.out hb2
  clear hb2 HB1 HX1 HE1 HR1
  clear ze hce
  have z : ∀ i, w2.cell? ⟨w.heap.size, i, none⟩ = #[Value.int .i64 c.p, .int .i64 c.d, .int .i64 c.e.k, .int .i64 c.e.j, .int .i64 c.e.v, .int .i64 c.e.t, .int .i64 c.e.c, .int .i64 c.a, .int .i64 c.l, .int .i64 c.n, .slice a1 m1 k1, .slice a2 m2 k2][i]? := fun i => Joins.cell_of_block HX2.out i
  have zr : ∀ i, w2.cell? ⟨w.heap.size + 1 + 1, i, none⟩ = #[Value.int .i64 0, .int .i64 0, .int .i64 0, .int .i64 0, .int .i64 0, .int .i64 0, .int .i64 0, .int .i64 0, .int .i64 0, .int .i64 0, .slice none 0 0, .slice none 0 0][i]? := fun i => Joins.cell_of_block HR2.out i
  have fzr : ∀ i, w2.frozen? ⟨w.heap.size + 1 + 1, i, none⟩ = false := fun i => Joins.unfrozen_of_block HR2.out i
  go_wp2
  refine ret_st (p := 4) (q := 5) w2 (w.heap.size + 1 + 1) (Cl.zero) nil0 nil0 (o := Cl.zero) (u1 := nil0) (u2 := nil0) Tryz.results136 rfl rfl rfl HR2.out rfl ?_
  exact ⟨rfl, st12_below HB2.out (by omega) _ _ _⟩
set_option linter.unusedSimpArgs false in
set_option maxHeartbeats 4000000 in
set_option maxRecDepth 100000 in
theorem zh_other (c : Cl) (a1 a2 : Option Addr) (m1 k1 m2 k2 : Nat) (x : En) (w : World) (hb : BkAt w (.slice a1 m1 k1) (.slice a2 m2 k2) c) (hck : c.ck = 0) (hx : x.chk = 0) (hd : (c.d != 2) = false) (hn : unlike x.k x.j x.v x.t x.c c.e.k c.e.j c.e.v c.e.t c.e.c = true) (hk : (c.e.k == 0) = false) (hn1 : c.js.length ≤ 1000000) (hn2 : c.rs.length ≤ 1000000) :
    AnsT 136 #[c.val (.slice a1 m1 k1) (.slice a2 m2 k2), x.val] w ((⟨c.p, 1, c.e, 0, 0, c.n, c.js, c.rs⟩ : Cl), 0) := by
  have HB0 : Aside (Below w.heap.size w (((w.alloc (boxC c (.slice a1 m1 k1) (.slice a2 m2 k2))).alloc (boxE x.k x.j x.v x.t x.c)).alloc (boxC Cl.zero nil0 nil0))) := grew (grew (grew (Below.refl _ _) _) _) _
  have HX0 : Aside ((((w.alloc (boxC c (.slice a1 m1 k1) (.slice a2 m2 k2))).alloc (boxE x.k x.j x.v x.t x.c)).alloc (boxC Cl.zero nil0 nil0)).heap[w.heap.size]? = some (boxC c (.slice a1 m1 k1) (.slice a2 m2 k2))) := heap_old (heap_old (heap_new _ _) _) _
  have HE0 : Aside ((((w.alloc (boxC c (.slice a1 m1 k1) (.slice a2 m2 k2))).alloc (boxE x.k x.j x.v x.t x.c)).alloc (boxC Cl.zero nil0 nil0)).heap[w.heap.size + 1]? = some (boxE x.k x.j x.v x.t x.c)) := by
    have := heap_new (w.alloc (boxC c (.slice a1 m1 k1) (.slice a2 m2 k2))) (boxE x.k x.j x.v x.t x.c)
    rw [World.size_alloc] at this
    exact heap_old (this) _
  have HR0 : Aside ((((w.alloc (boxC c (.slice a1 m1 k1) (.slice a2 m2 k2))).alloc (boxE x.k x.j x.v x.t x.c)).alloc (boxC Cl.zero nil0 nil0)).heap[w.heap.size + 1 + 1]? = some (boxC Cl.zero nil0 nil0)) := by
    have := heap_new ((w.alloc (boxC c (.slice a1 m1 k1) (.slice a2 m2 k2))).alloc (boxE x.k x.j x.v x.t x.c)) (boxC Cl.zero nil0 nil0)
    rw [World.size_alloc, World.size_alloc] at this
    exact this
  have kc := cl_check c (.slice a1 m1 k1) (.slice a2 m2 k2) _ (bkAt_later hb HB0.out)
  have kd : ∀ W, Below w.heap.size w W → Calls Tryz.prog 171 #[c.val (.slice a1 m1 k1) (.slice a2 m2 k2), .int .i64 1, c.e.val, .int .i64 0, .int .i64 0] W fun e w' => ∃ u1 u2, e = .returned ((⟨c.p, 1, c.e, 0, 0, c.n, c.js, c.rs⟩ : Cl).val u1 u2) ∧ BkT w' u1 u2 c ∧ Below W.heap.size W w' := fun W hB => cl_doing c c.e 1 0 0 a1 a2 m1 k1 m2 k2 W (bkAt_later hb hB) hn1 hn2
  clear hn1 hn2
  rw [hck] at kc
  have HK : Aside (BkAt w (.slice a1 m1 k1) (.slice a2 m2 k2) c) := hb
  clear hb hck
  have hce : ∀ W, Calls Tryz.prog 115 #[ev x.k x.j x.v x.t x.c] W fun e w' => e = .returned (.int .i64 x.chk) ∧ Below W.heap.size W w' := fun W => check_any x.k x.j x.v x.t x.c W
  rw [hx] at hce
  clear hx
  have hq := fun W => neq_entry x.k x.j x.v x.t x.c c.e.k c.e.j c.e.v c.e.t c.e.c W
  rw [hn] at hq
  clear hn
  have kj := fun W => junk_any c.e W
  rw [hk] at kj
  go_enter Tryz.func136, Tryz.ntmps136
  go_wp2_with fail
  refine kc.mono ?_
  rintro r w1 ⟨rfl, hb1⟩
  have HX1 : Aside _ := heap_below HX0.out hb1 (heap_lt HX0.out)
  have HE1 : Aside _ := heap_below HE0.out hb1 (heap_lt HE0.out)
  have HR1 : Aside _ := heap_below HR0.out hb1 (heap_lt HR0.out)
  have HB1 : Aside (Below w.heap.size w w1) := step_below HB0.out hb1
  clear hb1 HB0 HX0 HE0 HR0
  clear kc
  have ze : ∀ i, w1.cell? ⟨w.heap.size + 1, i, none⟩ = #[Value.int .i64 x.k, .int .i64 x.j, .int .i64 x.v, .int .i64 x.t, .int .i64 x.c][i]? := fun i => Joins.cell_of_block HE1.out i
  go_wp2_with fail
  refine (hce _).mono ?_
  rintro r w2 ⟨rfl, hb2⟩
  have HX2 : Aside _ := heap_below HX1.out hb2 (heap_lt HX1.out)
  have HE2 : Aside _ := heap_below HE1.out hb2 (heap_lt HE1.out)
  have HR2 : Aside _ := heap_below HR1.out hb2 (heap_lt HR1.out)
  have HB2 : Aside (Below w.heap.size w w2) := step_below HB1.out hb2
  clear hb2 HB1 HX1 HE1 HR1
  clear ze hce
  have z : ∀ i, w2.cell? ⟨w.heap.size, i, none⟩ = #[Value.int .i64 c.p, .int .i64 c.d, .int .i64 c.e.k, .int .i64 c.e.j, .int .i64 c.e.v, .int .i64 c.e.t, .int .i64 c.e.c, .int .i64 c.a, .int .i64 c.l, .int .i64 c.n, .slice a1 m1 k1, .slice a2 m2 k2][i]? := fun i => Joins.cell_of_block HX2.out i
  have ze : ∀ i, w2.cell? ⟨w.heap.size + 1, i, none⟩ = #[Value.int .i64 x.k, .int .i64 x.j, .int .i64 x.v, .int .i64 x.t, .int .i64 x.c][i]? := fun i => Joins.cell_of_block HE2.out i
  go_wp2_with fail
  refine (kj _).mono ?_
  rintro r w3 ⟨rfl, hb3⟩
  have HX3 : Aside _ := heap_below HX2.out hb3 (heap_lt HX2.out)
  have HE3 : Aside _ := heap_below HE2.out hb3 (heap_lt HE2.out)
  have HR3 : Aside _ := heap_below HR2.out hb3 (heap_lt HR2.out)
  have HB3 : Aside (Below w.heap.size w w3) := step_below HB2.out hb3
  clear hb3 HB2 HX2 HE2 HR2
  clear z ze kj hq
  have z : ∀ i, w3.cell? ⟨w.heap.size, i, none⟩ = #[Value.int .i64 c.p, .int .i64 c.d, .int .i64 c.e.k, .int .i64 c.e.j, .int .i64 c.e.v, .int .i64 c.e.t, .int .i64 c.e.c, .int .i64 c.a, .int .i64 c.l, .int .i64 c.n, .slice a1 m1 k1, .slice a2 m2 k2][i]? := fun i => Joins.cell_of_block HX3.out i
  have ze : ∀ i, w3.cell? ⟨w.heap.size + 1, i, none⟩ = #[Value.int .i64 x.k, .int .i64 x.j, .int .i64 x.v, .int .i64 x.t, .int .i64 x.c][i]? := fun i => Joins.cell_of_block HE3.out i
  go_wp2_with fail
  refine (kd w3 HB3.out).mono ?_
  rintro r w4 ⟨u1, u2, rfl, hT4, hb4⟩
  have HR4 : Aside _ := heap_below HR3.out hb4 (heap_lt HR3.out)
  have HB4 : Aside (Below w.heap.size w w4) := step_below HB3.out hb4
  have HT4 : Aside (BkT w4 u1 u2 c) := hT4
  obtain ⟨s1, o1, s2, o2, rfl, rfl⟩ := bk_slices hT4.1.1 hT4.1.2
  clear hb4 kd HB3 HR3 hT4
  obtain ⟨n1, hn1⟩ : ∃ n, Hid (c.js.length = n) := ⟨_, rfl⟩
  obtain ⟨n2, hn2⟩ : ∃ n, Hid (c.rs.length = n) := ⟨_, rfl⟩
  rw [hn1.out, hn2.out] at HT4 ⊢
  clear z ze
  have zr : ∀ i, w4.cell? ⟨w.heap.size + 1 + 1, i, none⟩ = #[Value.int .i64 0, .int .i64 0, .int .i64 0, .int .i64 0, .int .i64 0, .int .i64 0, .int .i64 0, .int .i64 0, .int .i64 0, .int .i64 0, .slice none 0 0, .slice none 0 0][i]? := fun i => Joins.cell_of_block HR4.out i
  have fzr : ∀ i, w4.frozen? ⟨w.heap.size + 1 + 1, i, none⟩ = false := fun i => Joins.unfrozen_of_block HR4.out i
  go_wp2
  refine ret_st (p := 4) (q := 5) w4 (w.heap.size + 1 + 1) ((⟨c.p, 1, c.e, 0, 0, c.n, c.js, c.rs⟩ : Cl)) (.slice s1 n1 o1) (.slice s2 n2 o2) (o := Cl.zero) (u1 := nil0) (u2 := nil0) Tryz.results136 rfl rfl rfl HR4.out rfl ?_
  exact ⟨(.slice s1 n1 o1), (.slice s2 n2 o2), rfl, bkT_st12 ⟨_, HR4.out⟩ (bkT_cong HT4.out rfl rfl) _ _ _, st12_below HB4.out (by omega) _ _ _⟩
set_option linter.unusedSimpArgs false in
set_option maxHeartbeats 4000000 in
set_option maxRecDepth 100000 in
theorem zh_last0 (c : Cl) (a1 a2 : Option Addr) (m1 k1 m2 k2 : Nat) (x : En) (w : World) (hb : BkAt w (.slice a1 m1 k1) (.slice a2 m2 k2) c) (hck : c.ck = 0) (hx : x.chk = 0) (hd : (c.d != 2) = false) (hn : unlike x.k x.j x.v x.t x.c c.e.k c.e.j c.e.v c.e.t c.e.c = true) (hk : (c.e.k == 0) = true) (hw : IntKind.i64.wrap (c.l + 1) = c.l + 1) (hl : (c.l + 1 == 3) = true) (hn1 : c.js.length ≤ 1000000) (hn2 : c.rs.length ≤ 1000000) :
    AnsT 136 #[c.val (.slice a1 m1 k1) (.slice a2 m2 k2), x.val] w ((⟨c.p, 0, En.zero, 0, 0, c.n, c.js, c.rs⟩ : Cl), 0) := by
  have HB0 : Aside (Below w.heap.size w (((w.alloc (boxC c (.slice a1 m1 k1) (.slice a2 m2 k2))).alloc (boxE x.k x.j x.v x.t x.c)).alloc (boxC Cl.zero nil0 nil0))) := grew (grew (grew (Below.refl _ _) _) _) _
  have HX0 : Aside ((((w.alloc (boxC c (.slice a1 m1 k1) (.slice a2 m2 k2))).alloc (boxE x.k x.j x.v x.t x.c)).alloc (boxC Cl.zero nil0 nil0)).heap[w.heap.size]? = some (boxC c (.slice a1 m1 k1) (.slice a2 m2 k2))) := heap_old (heap_old (heap_new _ _) _) _
  have HE0 : Aside ((((w.alloc (boxC c (.slice a1 m1 k1) (.slice a2 m2 k2))).alloc (boxE x.k x.j x.v x.t x.c)).alloc (boxC Cl.zero nil0 nil0)).heap[w.heap.size + 1]? = some (boxE x.k x.j x.v x.t x.c)) := by
    have := heap_new (w.alloc (boxC c (.slice a1 m1 k1) (.slice a2 m2 k2))) (boxE x.k x.j x.v x.t x.c)
    rw [World.size_alloc] at this
    exact heap_old (this) _
  have HR0 : Aside ((((w.alloc (boxC c (.slice a1 m1 k1) (.slice a2 m2 k2))).alloc (boxE x.k x.j x.v x.t x.c)).alloc (boxC Cl.zero nil0 nil0)).heap[w.heap.size + 1 + 1]? = some (boxC Cl.zero nil0 nil0)) := by
    have := heap_new ((w.alloc (boxC c (.slice a1 m1 k1) (.slice a2 m2 k2))).alloc (boxE x.k x.j x.v x.t x.c)) (boxC Cl.zero nil0 nil0)
    rw [World.size_alloc, World.size_alloc] at this
    exact this
  have kc := cl_check c (.slice a1 m1 k1) (.slice a2 m2 k2) _ (bkAt_later hb HB0.out)
  have kd : ∀ W, Below w.heap.size w W → Calls Tryz.prog 171 #[c.val (.slice a1 m1 k1) (.slice a2 m2 k2), .int .i64 0, En.zero.val, .int .i64 0, .int .i64 0] W fun e w' => ∃ u1 u2, e = .returned ((⟨c.p, 0, En.zero, 0, 0, c.n, c.js, c.rs⟩ : Cl).val u1 u2) ∧ BkT w' u1 u2 c ∧ Below W.heap.size W w' := fun W hB => cl_doing c En.zero 0 0 0 a1 a2 m1 k1 m2 k2 W (bkAt_later hb hB) hn1 hn2
  clear hn1 hn2
  rw [hck] at kc
  have HK : Aside (BkAt w (.slice a1 m1 k1) (.slice a2 m2 k2) c) := hb
  clear hb hck
  have hce : ∀ W, Calls Tryz.prog 115 #[ev x.k x.j x.v x.t x.c] W fun e w' => e = .returned (.int .i64 x.chk) ∧ Below W.heap.size W w' := fun W => check_any x.k x.j x.v x.t x.c W
  rw [hx] at hce
  clear hx
  have hq := fun W => neq_entry x.k x.j x.v x.t x.c c.e.k c.e.j c.e.v c.e.t c.e.c W
  rw [hn] at hq
  clear hn
  have kj := fun W => junk_any c.e W
  rw [hk] at kj
  go_enter Tryz.func136, Tryz.ntmps136
  go_wp2_with fail
  refine kc.mono ?_
  rintro r w1 ⟨rfl, hb1⟩
  have HX1 : Aside _ := heap_below HX0.out hb1 (heap_lt HX0.out)
  have HE1 : Aside _ := heap_below HE0.out hb1 (heap_lt HE0.out)
  have HR1 : Aside _ := heap_below HR0.out hb1 (heap_lt HR0.out)
  have HB1 : Aside (Below w.heap.size w w1) := step_below HB0.out hb1
  clear hb1 HB0 HX0 HE0 HR0
  clear kc
  have ze : ∀ i, w1.cell? ⟨w.heap.size + 1, i, none⟩ = #[Value.int .i64 x.k, .int .i64 x.j, .int .i64 x.v, .int .i64 x.t, .int .i64 x.c][i]? := fun i => Joins.cell_of_block HE1.out i
  go_wp2_with fail
  refine (hce _).mono ?_
  rintro r w2 ⟨rfl, hb2⟩
  have HX2 : Aside _ := heap_below HX1.out hb2 (heap_lt HX1.out)
  have HE2 : Aside _ := heap_below HE1.out hb2 (heap_lt HE1.out)
  have HR2 : Aside _ := heap_below HR1.out hb2 (heap_lt HR1.out)
  have HB2 : Aside (Below w.heap.size w w2) := step_below HB1.out hb2
  clear hb2 HB1 HX1 HE1 HR1
  clear ze hce
  have z : ∀ i, w2.cell? ⟨w.heap.size, i, none⟩ = #[Value.int .i64 c.p, .int .i64 c.d, .int .i64 c.e.k, .int .i64 c.e.j, .int .i64 c.e.v, .int .i64 c.e.t, .int .i64 c.e.c, .int .i64 c.a, .int .i64 c.l, .int .i64 c.n, .slice a1 m1 k1, .slice a2 m2 k2][i]? := fun i => Joins.cell_of_block HX2.out i
  have ze : ∀ i, w2.cell? ⟨w.heap.size + 1, i, none⟩ = #[Value.int .i64 x.k, .int .i64 x.j, .int .i64 x.v, .int .i64 x.t, .int .i64 x.c][i]? := fun i => Joins.cell_of_block HE2.out i
  go_wp2_with fail
  refine (kj _).mono ?_
  rintro r w3 ⟨rfl, hb3⟩
  have HX3 : Aside _ := heap_below HX2.out hb3 (heap_lt HX2.out)
  have HE3 : Aside _ := heap_below HE2.out hb3 (heap_lt HE2.out)
  have HR3 : Aside _ := heap_below HR2.out hb3 (heap_lt HR2.out)
  have HB3 : Aside (Below w.heap.size w w3) := step_below HB2.out hb3
  clear hb3 HB2 HX2 HE2 HR2
  clear z ze kj hq
  have z : ∀ i, w3.cell? ⟨w.heap.size, i, none⟩ = #[Value.int .i64 c.p, .int .i64 c.d, .int .i64 c.e.k, .int .i64 c.e.j, .int .i64 c.e.v, .int .i64 c.e.t, .int .i64 c.e.c, .int .i64 c.a, .int .i64 c.l, .int .i64 c.n, .slice a1 m1 k1, .slice a2 m2 k2][i]? := fun i => Joins.cell_of_block HX3.out i
  have ze : ∀ i, w3.cell? ⟨w.heap.size + 1, i, none⟩ = #[Value.int .i64 x.k, .int .i64 x.j, .int .i64 x.v, .int .i64 x.t, .int .i64 x.c][i]? := fun i => Joins.cell_of_block HE3.out i
  go_wp2_with fail
  refine (kd w3 HB3.out).mono ?_
  rintro r w4 ⟨u1, u2, rfl, hT4, hb4⟩
  have HR4 : Aside _ := heap_below HR3.out hb4 (heap_lt HR3.out)
  have HB4 : Aside (Below w.heap.size w w4) := step_below HB3.out hb4
  have HT4 : Aside (BkT w4 u1 u2 c) := hT4
  obtain ⟨s1, o1, s2, o2, rfl, rfl⟩ := bk_slices hT4.1.1 hT4.1.2
  clear hb4 kd HB3 HR3 hT4
  obtain ⟨n1, hn1⟩ : ∃ n, Hid (c.js.length = n) := ⟨_, rfl⟩
  obtain ⟨n2, hn2⟩ : ∃ n, Hid (c.rs.length = n) := ⟨_, rfl⟩
  rw [hn1.out, hn2.out] at HT4 ⊢
  clear z ze
  have zr : ∀ i, w4.cell? ⟨w.heap.size + 1 + 1, i, none⟩ = #[Value.int .i64 0, .int .i64 0, .int .i64 0, .int .i64 0, .int .i64 0, .int .i64 0, .int .i64 0, .int .i64 0, .int .i64 0, .int .i64 0, .slice none 0 0, .slice none 0 0][i]? := fun i => Joins.cell_of_block HR4.out i
  have fzr : ∀ i, w4.frozen? ⟨w.heap.size + 1 + 1, i, none⟩ = false := fun i => Joins.unfrozen_of_block HR4.out i
  go_wp2
  refine ret_st (p := 4) (q := 5) w4 (w.heap.size + 1 + 1) ((⟨c.p, 0, En.zero, 0, 0, c.n, c.js, c.rs⟩ : Cl)) (.slice s1 n1 o1) (.slice s2 n2 o2) (o := Cl.zero) (u1 := nil0) (u2 := nil0) Tryz.results136 rfl rfl rfl HR4.out rfl ?_
  exact ⟨(.slice s1 n1 o1), (.slice s2 n2 o2), rfl, bkT_st12 ⟨_, HR4.out⟩ (bkT_cong HT4.out rfl rfl) _ _ _, st12_below HB4.out (by omega) _ _ _⟩
set_option linter.unusedSimpArgs false in
set_option maxHeartbeats 4000000 in
set_option maxRecDepth 100000 in
theorem zh_on0 (c : Cl) (a1 a2 : Option Addr) (m1 k1 m2 k2 : Nat) (x : En) (w : World) (hb : BkAt w (.slice a1 m1 k1) (.slice a2 m2 k2) c) (hck : c.ck = 0) (hx : x.chk = 0) (hd : (c.d != 2) = false) (hn : unlike x.k x.j x.v x.t x.c c.e.k c.e.j c.e.v c.e.t c.e.c = true) (hk : (c.e.k == 0) = true) (hw : IntKind.i64.wrap (c.l + 1) = c.l + 1) (hl : (c.l + 1 == 3) = false) (hn1 : c.js.length ≤ 1000000) (hn2 : c.rs.length ≤ 1000000) :
    AnsT 136 #[c.val (.slice a1 m1 k1) (.slice a2 m2 k2), x.val] w ((⟨c.p, 2, x, c.a, (c.l + 1), c.n, c.js, c.rs⟩ : Cl), 0) := by
  have HB0 : Aside (Below w.heap.size w (((w.alloc (boxC c (.slice a1 m1 k1) (.slice a2 m2 k2))).alloc (boxE x.k x.j x.v x.t x.c)).alloc (boxC Cl.zero nil0 nil0))) := grew (grew (grew (Below.refl _ _) _) _) _
  have HX0 : Aside ((((w.alloc (boxC c (.slice a1 m1 k1) (.slice a2 m2 k2))).alloc (boxE x.k x.j x.v x.t x.c)).alloc (boxC Cl.zero nil0 nil0)).heap[w.heap.size]? = some (boxC c (.slice a1 m1 k1) (.slice a2 m2 k2))) := heap_old (heap_old (heap_new _ _) _) _
  have HE0 : Aside ((((w.alloc (boxC c (.slice a1 m1 k1) (.slice a2 m2 k2))).alloc (boxE x.k x.j x.v x.t x.c)).alloc (boxC Cl.zero nil0 nil0)).heap[w.heap.size + 1]? = some (boxE x.k x.j x.v x.t x.c)) := by
    have := heap_new (w.alloc (boxC c (.slice a1 m1 k1) (.slice a2 m2 k2))) (boxE x.k x.j x.v x.t x.c)
    rw [World.size_alloc] at this
    exact heap_old (this) _
  have HR0 : Aside ((((w.alloc (boxC c (.slice a1 m1 k1) (.slice a2 m2 k2))).alloc (boxE x.k x.j x.v x.t x.c)).alloc (boxC Cl.zero nil0 nil0)).heap[w.heap.size + 1 + 1]? = some (boxC Cl.zero nil0 nil0)) := by
    have := heap_new ((w.alloc (boxC c (.slice a1 m1 k1) (.slice a2 m2 k2))).alloc (boxE x.k x.j x.v x.t x.c)) (boxC Cl.zero nil0 nil0)
    rw [World.size_alloc, World.size_alloc] at this
    exact this
  have kc := cl_check c (.slice a1 m1 k1) (.slice a2 m2 k2) _ (bkAt_later hb HB0.out)
  have kd : ∀ W, Below w.heap.size w W → Calls Tryz.prog 171 #[c.val (.slice a1 m1 k1) (.slice a2 m2 k2), .int .i64 2, x.val, .int .i64 c.a, .int .i64 (c.l + 1)] W fun e w' => ∃ u1 u2, e = .returned ((⟨c.p, 2, x, c.a, (c.l + 1), c.n, c.js, c.rs⟩ : Cl).val u1 u2) ∧ BkT w' u1 u2 c ∧ Below W.heap.size W w' := fun W hB => cl_doing c x 2 c.a (c.l + 1) a1 a2 m1 k1 m2 k2 W (bkAt_later hb hB) hn1 hn2
  clear hn1 hn2
  rw [hck] at kc
  have HK : Aside (BkAt w (.slice a1 m1 k1) (.slice a2 m2 k2) c) := hb
  clear hb hck
  have hce : ∀ W, Calls Tryz.prog 115 #[ev x.k x.j x.v x.t x.c] W fun e w' => e = .returned (.int .i64 x.chk) ∧ Below W.heap.size W w' := fun W => check_any x.k x.j x.v x.t x.c W
  rw [hx] at hce
  clear hx
  have hq := fun W => neq_entry x.k x.j x.v x.t x.c c.e.k c.e.j c.e.v c.e.t c.e.c W
  rw [hn] at hq
  clear hn
  have kj := fun W => junk_any c.e W
  rw [hk] at kj
  go_enter Tryz.func136, Tryz.ntmps136
  go_wp2_with fail
  refine kc.mono ?_
  rintro r w1 ⟨rfl, hb1⟩
  have HX1 : Aside _ := heap_below HX0.out hb1 (heap_lt HX0.out)
  have HE1 : Aside _ := heap_below HE0.out hb1 (heap_lt HE0.out)
  have HR1 : Aside _ := heap_below HR0.out hb1 (heap_lt HR0.out)
  have HB1 : Aside (Below w.heap.size w w1) := step_below HB0.out hb1
  clear hb1 HB0 HX0 HE0 HR0
  clear kc
  have ze : ∀ i, w1.cell? ⟨w.heap.size + 1, i, none⟩ = #[Value.int .i64 x.k, .int .i64 x.j, .int .i64 x.v, .int .i64 x.t, .int .i64 x.c][i]? := fun i => Joins.cell_of_block HE1.out i
  go_wp2_with fail
  refine (hce _).mono ?_
  rintro r w2 ⟨rfl, hb2⟩
  have HX2 : Aside _ := heap_below HX1.out hb2 (heap_lt HX1.out)
  have HE2 : Aside _ := heap_below HE1.out hb2 (heap_lt HE1.out)
  have HR2 : Aside _ := heap_below HR1.out hb2 (heap_lt HR1.out)
  have HB2 : Aside (Below w.heap.size w w2) := step_below HB1.out hb2
  clear hb2 HB1 HX1 HE1 HR1
  clear ze hce
  have z : ∀ i, w2.cell? ⟨w.heap.size, i, none⟩ = #[Value.int .i64 c.p, .int .i64 c.d, .int .i64 c.e.k, .int .i64 c.e.j, .int .i64 c.e.v, .int .i64 c.e.t, .int .i64 c.e.c, .int .i64 c.a, .int .i64 c.l, .int .i64 c.n, .slice a1 m1 k1, .slice a2 m2 k2][i]? := fun i => Joins.cell_of_block HX2.out i
  have ze : ∀ i, w2.cell? ⟨w.heap.size + 1, i, none⟩ = #[Value.int .i64 x.k, .int .i64 x.j, .int .i64 x.v, .int .i64 x.t, .int .i64 x.c][i]? := fun i => Joins.cell_of_block HE2.out i
  go_wp2_with fail
  refine (kj _).mono ?_
  rintro r w3 ⟨rfl, hb3⟩
  have HX3 : Aside _ := heap_below HX2.out hb3 (heap_lt HX2.out)
  have HE3 : Aside _ := heap_below HE2.out hb3 (heap_lt HE2.out)
  have HR3 : Aside _ := heap_below HR2.out hb3 (heap_lt HR2.out)
  have HB3 : Aside (Below w.heap.size w w3) := step_below HB2.out hb3
  clear hb3 HB2 HX2 HE2 HR2
  clear z ze kj hq
  have z : ∀ i, w3.cell? ⟨w.heap.size, i, none⟩ = #[Value.int .i64 c.p, .int .i64 c.d, .int .i64 c.e.k, .int .i64 c.e.j, .int .i64 c.e.v, .int .i64 c.e.t, .int .i64 c.e.c, .int .i64 c.a, .int .i64 c.l, .int .i64 c.n, .slice a1 m1 k1, .slice a2 m2 k2][i]? := fun i => Joins.cell_of_block HX3.out i
  have ze : ∀ i, w3.cell? ⟨w.heap.size + 1, i, none⟩ = #[Value.int .i64 x.k, .int .i64 x.j, .int .i64 x.v, .int .i64 x.t, .int .i64 x.c][i]? := fun i => Joins.cell_of_block HE3.out i
  go_wp2_with fail
  refine (kd w3 HB3.out).mono ?_
  rintro r w4 ⟨u1, u2, rfl, hT4, hb4⟩
  have HR4 : Aside _ := heap_below HR3.out hb4 (heap_lt HR3.out)
  have HB4 : Aside (Below w.heap.size w w4) := step_below HB3.out hb4
  have HT4 : Aside (BkT w4 u1 u2 c) := hT4
  obtain ⟨s1, o1, s2, o2, rfl, rfl⟩ := bk_slices hT4.1.1 hT4.1.2
  clear hb4 kd HB3 HR3 hT4
  obtain ⟨n1, hn1⟩ : ∃ n, Hid (c.js.length = n) := ⟨_, rfl⟩
  obtain ⟨n2, hn2⟩ : ∃ n, Hid (c.rs.length = n) := ⟨_, rfl⟩
  rw [hn1.out, hn2.out] at HT4 ⊢
  clear z ze
  have zr : ∀ i, w4.cell? ⟨w.heap.size + 1 + 1, i, none⟩ = #[Value.int .i64 0, .int .i64 0, .int .i64 0, .int .i64 0, .int .i64 0, .int .i64 0, .int .i64 0, .int .i64 0, .int .i64 0, .int .i64 0, .slice none 0 0, .slice none 0 0][i]? := fun i => Joins.cell_of_block HR4.out i
  have fzr : ∀ i, w4.frozen? ⟨w.heap.size + 1 + 1, i, none⟩ = false := fun i => Joins.unfrozen_of_block HR4.out i
  go_wp2
  refine ret_st (p := 4) (q := 5) w4 (w.heap.size + 1 + 1) ((⟨c.p, 2, x, c.a, (c.l + 1), c.n, c.js, c.rs⟩ : Cl)) (.slice s1 n1 o1) (.slice s2 n2 o2) (o := Cl.zero) (u1 := nil0) (u2 := nil0) Tryz.results136 rfl rfl rfl HR4.out rfl ?_
  exact ⟨(.slice s1 n1 o1), (.slice s2 n2 o2), rfl, bkT_st12 ⟨_, HR4.out⟩ (bkT_cong HT4.out rfl rfl) _ _ _, st12_below HB4.out (by omega) _ _ _⟩
set_option linter.unusedSimpArgs false in
set_option maxHeartbeats 4000000 in
set_option maxRecDepth 100000 in
theorem zh_last1 (c : Cl) (a1 a2 : Option Addr) (m1 k1 m2 k2 : Nat) (x : En) (w : World) (hb : BkAt w (.slice a1 m1 k1) (.slice a2 m2 k2) c) (hck : c.ck = 0) (hx : x.chk = 0) (hd : (c.d != 2) = false) (hn : unlike x.k x.j x.v x.t x.c c.e.k c.e.j c.e.v c.e.t c.e.c = false) (hw : IntKind.i64.wrap (c.l + 1) = c.l + 1) (hl : (c.l + 1 == 3) = true) (hn1 : c.js.length ≤ 1000000) (hn2 : c.rs.length ≤ 1000000) :
    AnsT 136 #[c.val (.slice a1 m1 k1) (.slice a2 m2 k2), x.val] w ((⟨c.p, 0, En.zero, 0, 0, c.n, c.js, c.rs⟩ : Cl), 0) := by
  have HB0 : Aside (Below w.heap.size w (((w.alloc (boxC c (.slice a1 m1 k1) (.slice a2 m2 k2))).alloc (boxE x.k x.j x.v x.t x.c)).alloc (boxC Cl.zero nil0 nil0))) := grew (grew (grew (Below.refl _ _) _) _) _
  have HX0 : Aside ((((w.alloc (boxC c (.slice a1 m1 k1) (.slice a2 m2 k2))).alloc (boxE x.k x.j x.v x.t x.c)).alloc (boxC Cl.zero nil0 nil0)).heap[w.heap.size]? = some (boxC c (.slice a1 m1 k1) (.slice a2 m2 k2))) := heap_old (heap_old (heap_new _ _) _) _
  have HE0 : Aside ((((w.alloc (boxC c (.slice a1 m1 k1) (.slice a2 m2 k2))).alloc (boxE x.k x.j x.v x.t x.c)).alloc (boxC Cl.zero nil0 nil0)).heap[w.heap.size + 1]? = some (boxE x.k x.j x.v x.t x.c)) := by
    have := heap_new (w.alloc (boxC c (.slice a1 m1 k1) (.slice a2 m2 k2))) (boxE x.k x.j x.v x.t x.c)
    rw [World.size_alloc] at this
    exact heap_old (this) _
  have HR0 : Aside ((((w.alloc (boxC c (.slice a1 m1 k1) (.slice a2 m2 k2))).alloc (boxE x.k x.j x.v x.t x.c)).alloc (boxC Cl.zero nil0 nil0)).heap[w.heap.size + 1 + 1]? = some (boxC Cl.zero nil0 nil0)) := by
    have := heap_new ((w.alloc (boxC c (.slice a1 m1 k1) (.slice a2 m2 k2))).alloc (boxE x.k x.j x.v x.t x.c)) (boxC Cl.zero nil0 nil0)
    rw [World.size_alloc, World.size_alloc] at this
    exact this
  have kc := cl_check c (.slice a1 m1 k1) (.slice a2 m2 k2) _ (bkAt_later hb HB0.out)
  have kd : ∀ W, Below w.heap.size w W → Calls Tryz.prog 171 #[c.val (.slice a1 m1 k1) (.slice a2 m2 k2), .int .i64 0, En.zero.val, .int .i64 0, .int .i64 0] W fun e w' => ∃ u1 u2, e = .returned ((⟨c.p, 0, En.zero, 0, 0, c.n, c.js, c.rs⟩ : Cl).val u1 u2) ∧ BkT w' u1 u2 c ∧ Below W.heap.size W w' := fun W hB => cl_doing c En.zero 0 0 0 a1 a2 m1 k1 m2 k2 W (bkAt_later hb hB) hn1 hn2
  clear hn1 hn2
  rw [hck] at kc
  have HK : Aside (BkAt w (.slice a1 m1 k1) (.slice a2 m2 k2) c) := hb
  clear hb hck
  have hce : ∀ W, Calls Tryz.prog 115 #[ev x.k x.j x.v x.t x.c] W fun e w' => e = .returned (.int .i64 x.chk) ∧ Below W.heap.size W w' := fun W => check_any x.k x.j x.v x.t x.c W
  rw [hx] at hce
  clear hx
  have hq := fun W => neq_entry x.k x.j x.v x.t x.c c.e.k c.e.j c.e.v c.e.t c.e.c W
  rw [hn] at hq
  clear hn
  go_enter Tryz.func136, Tryz.ntmps136
  go_wp2_with fail
  refine kc.mono ?_
  rintro r w1 ⟨rfl, hb1⟩
  have HX1 : Aside _ := heap_below HX0.out hb1 (heap_lt HX0.out)
  have HE1 : Aside _ := heap_below HE0.out hb1 (heap_lt HE0.out)
  have HR1 : Aside _ := heap_below HR0.out hb1 (heap_lt HR0.out)
  have HB1 : Aside (Below w.heap.size w w1) := step_below HB0.out hb1
  clear hb1 HB0 HX0 HE0 HR0
  clear kc
  have ze : ∀ i, w1.cell? ⟨w.heap.size + 1, i, none⟩ = #[Value.int .i64 x.k, .int .i64 x.j, .int .i64 x.v, .int .i64 x.t, .int .i64 x.c][i]? := fun i => Joins.cell_of_block HE1.out i
  go_wp2_with fail
  refine (hce _).mono ?_
  rintro r w2 ⟨rfl, hb2⟩
  have HX2 : Aside _ := heap_below HX1.out hb2 (heap_lt HX1.out)
  have HE2 : Aside _ := heap_below HE1.out hb2 (heap_lt HE1.out)
  have HR2 : Aside _ := heap_below HR1.out hb2 (heap_lt HR1.out)
  have HB2 : Aside (Below w.heap.size w w2) := step_below HB1.out hb2
  clear hb2 HB1 HX1 HE1 HR1
  clear ze hce
  have z : ∀ i, w2.cell? ⟨w.heap.size, i, none⟩ = #[Value.int .i64 c.p, .int .i64 c.d, .int .i64 c.e.k, .int .i64 c.e.j, .int .i64 c.e.v, .int .i64 c.e.t, .int .i64 c.e.c, .int .i64 c.a, .int .i64 c.l, .int .i64 c.n, .slice a1 m1 k1, .slice a2 m2 k2][i]? := fun i => Joins.cell_of_block HX2.out i
  have ze : ∀ i, w2.cell? ⟨w.heap.size + 1, i, none⟩ = #[Value.int .i64 x.k, .int .i64 x.j, .int .i64 x.v, .int .i64 x.t, .int .i64 x.c][i]? := fun i => Joins.cell_of_block HE2.out i
  go_wp2_with fail
  refine (kd w2 HB2.out).mono ?_
  rintro r w4 ⟨u1, u2, rfl, hT4, hb4⟩
  have HR4 : Aside _ := heap_below HR2.out hb4 (heap_lt HR2.out)
  have HB4 : Aside (Below w.heap.size w w4) := step_below HB2.out hb4
  have HT4 : Aside (BkT w4 u1 u2 c) := hT4
  obtain ⟨s1, o1, s2, o2, rfl, rfl⟩ := bk_slices hT4.1.1 hT4.1.2
  clear hb4 kd HB2 HR2 hT4
  obtain ⟨n1, hn1⟩ : ∃ n, Hid (c.js.length = n) := ⟨_, rfl⟩
  obtain ⟨n2, hn2⟩ : ∃ n, Hid (c.rs.length = n) := ⟨_, rfl⟩
  rw [hn1.out, hn2.out] at HT4 ⊢
  clear z ze hq
  have zr : ∀ i, w4.cell? ⟨w.heap.size + 1 + 1, i, none⟩ = #[Value.int .i64 0, .int .i64 0, .int .i64 0, .int .i64 0, .int .i64 0, .int .i64 0, .int .i64 0, .int .i64 0, .int .i64 0, .int .i64 0, .slice none 0 0, .slice none 0 0][i]? := fun i => Joins.cell_of_block HR4.out i
  have fzr : ∀ i, w4.frozen? ⟨w.heap.size + 1 + 1, i, none⟩ = false := fun i => Joins.unfrozen_of_block HR4.out i
  go_wp2
  refine ret_st (p := 4) (q := 5) w4 (w.heap.size + 1 + 1) ((⟨c.p, 0, En.zero, 0, 0, c.n, c.js, c.rs⟩ : Cl)) (.slice s1 n1 o1) (.slice s2 n2 o2) (o := Cl.zero) (u1 := nil0) (u2 := nil0) Tryz.results136 rfl rfl rfl HR4.out rfl ?_
  exact ⟨(.slice s1 n1 o1), (.slice s2 n2 o2), rfl, bkT_st12 ⟨_, HR4.out⟩ (bkT_cong HT4.out rfl rfl) _ _ _, st12_below HB4.out (by omega) _ _ _⟩
set_option linter.unusedSimpArgs false in
set_option maxHeartbeats 4000000 in
set_option maxRecDepth 100000 in
theorem zh_on1 (c : Cl) (a1 a2 : Option Addr) (m1 k1 m2 k2 : Nat) (x : En) (w : World) (hb : BkAt w (.slice a1 m1 k1) (.slice a2 m2 k2) c) (hck : c.ck = 0) (hx : x.chk = 0) (hd : (c.d != 2) = false) (hn : unlike x.k x.j x.v x.t x.c c.e.k c.e.j c.e.v c.e.t c.e.c = false) (hw : IntKind.i64.wrap (c.l + 1) = c.l + 1) (hl : (c.l + 1 == 3) = false) (hn1 : c.js.length ≤ 1000000) (hn2 : c.rs.length ≤ 1000000) :
    AnsT 136 #[c.val (.slice a1 m1 k1) (.slice a2 m2 k2), x.val] w ((⟨c.p, 2, x, c.a, (c.l + 1), c.n, c.js, c.rs⟩ : Cl), 0) := by
  have HB0 : Aside (Below w.heap.size w (((w.alloc (boxC c (.slice a1 m1 k1) (.slice a2 m2 k2))).alloc (boxE x.k x.j x.v x.t x.c)).alloc (boxC Cl.zero nil0 nil0))) := grew (grew (grew (Below.refl _ _) _) _) _
  have HX0 : Aside ((((w.alloc (boxC c (.slice a1 m1 k1) (.slice a2 m2 k2))).alloc (boxE x.k x.j x.v x.t x.c)).alloc (boxC Cl.zero nil0 nil0)).heap[w.heap.size]? = some (boxC c (.slice a1 m1 k1) (.slice a2 m2 k2))) := heap_old (heap_old (heap_new _ _) _) _
  have HE0 : Aside ((((w.alloc (boxC c (.slice a1 m1 k1) (.slice a2 m2 k2))).alloc (boxE x.k x.j x.v x.t x.c)).alloc (boxC Cl.zero nil0 nil0)).heap[w.heap.size + 1]? = some (boxE x.k x.j x.v x.t x.c)) := by
    have := heap_new (w.alloc (boxC c (.slice a1 m1 k1) (.slice a2 m2 k2))) (boxE x.k x.j x.v x.t x.c)
    rw [World.size_alloc] at this
    exact heap_old (this) _
  have HR0 : Aside ((((w.alloc (boxC c (.slice a1 m1 k1) (.slice a2 m2 k2))).alloc (boxE x.k x.j x.v x.t x.c)).alloc (boxC Cl.zero nil0 nil0)).heap[w.heap.size + 1 + 1]? = some (boxC Cl.zero nil0 nil0)) := by
    have := heap_new ((w.alloc (boxC c (.slice a1 m1 k1) (.slice a2 m2 k2))).alloc (boxE x.k x.j x.v x.t x.c)) (boxC Cl.zero nil0 nil0)
    rw [World.size_alloc, World.size_alloc] at this
    exact this
  have kc := cl_check c (.slice a1 m1 k1) (.slice a2 m2 k2) _ (bkAt_later hb HB0.out)
  have kd : ∀ W, Below w.heap.size w W → Calls Tryz.prog 171 #[c.val (.slice a1 m1 k1) (.slice a2 m2 k2), .int .i64 2, x.val, .int .i64 c.a, .int .i64 (c.l + 1)] W fun e w' => ∃ u1 u2, e = .returned ((⟨c.p, 2, x, c.a, (c.l + 1), c.n, c.js, c.rs⟩ : Cl).val u1 u2) ∧ BkT w' u1 u2 c ∧ Below W.heap.size W w' := fun W hB => cl_doing c x 2 c.a (c.l + 1) a1 a2 m1 k1 m2 k2 W (bkAt_later hb hB) hn1 hn2
  clear hn1 hn2
  rw [hck] at kc
  have HK : Aside (BkAt w (.slice a1 m1 k1) (.slice a2 m2 k2) c) := hb
  clear hb hck
  have hce : ∀ W, Calls Tryz.prog 115 #[ev x.k x.j x.v x.t x.c] W fun e w' => e = .returned (.int .i64 x.chk) ∧ Below W.heap.size W w' := fun W => check_any x.k x.j x.v x.t x.c W
  rw [hx] at hce
  clear hx
  have hq := fun W => neq_entry x.k x.j x.v x.t x.c c.e.k c.e.j c.e.v c.e.t c.e.c W
  rw [hn] at hq
  clear hn
  go_enter Tryz.func136, Tryz.ntmps136
  go_wp2_with fail
  refine kc.mono ?_
  rintro r w1 ⟨rfl, hb1⟩
  have HX1 : Aside _ := heap_below HX0.out hb1 (heap_lt HX0.out)
  have HE1 : Aside _ := heap_below HE0.out hb1 (heap_lt HE0.out)
  have HR1 : Aside _ := heap_below HR0.out hb1 (heap_lt HR0.out)
  have HB1 : Aside (Below w.heap.size w w1) := step_below HB0.out hb1
  clear hb1 HB0 HX0 HE0 HR0
  clear kc
  have ze : ∀ i, w1.cell? ⟨w.heap.size + 1, i, none⟩ = #[Value.int .i64 x.k, .int .i64 x.j, .int .i64 x.v, .int .i64 x.t, .int .i64 x.c][i]? := fun i => Joins.cell_of_block HE1.out i
  go_wp2_with fail
  refine (hce _).mono ?_
  rintro r w2 ⟨rfl, hb2⟩
  have HX2 : Aside _ := heap_below HX1.out hb2 (heap_lt HX1.out)
  have HE2 : Aside _ := heap_below HE1.out hb2 (heap_lt HE1.out)
  have HR2 : Aside _ := heap_below HR1.out hb2 (heap_lt HR1.out)
  have HB2 : Aside (Below w.heap.size w w2) := step_below HB1.out hb2
  clear hb2 HB1 HX1 HE1 HR1
  clear ze hce
  have z : ∀ i, w2.cell? ⟨w.heap.size, i, none⟩ = #[Value.int .i64 c.p, .int .i64 c.d, .int .i64 c.e.k, .int .i64 c.e.j, .int .i64 c.e.v, .int .i64 c.e.t, .int .i64 c.e.c, .int .i64 c.a, .int .i64 c.l, .int .i64 c.n, .slice a1 m1 k1, .slice a2 m2 k2][i]? := fun i => Joins.cell_of_block HX2.out i
  have ze : ∀ i, w2.cell? ⟨w.heap.size + 1, i, none⟩ = #[Value.int .i64 x.k, .int .i64 x.j, .int .i64 x.v, .int .i64 x.t, .int .i64 x.c][i]? := fun i => Joins.cell_of_block HE2.out i
  go_wp2_with fail
  refine (kd w2 HB2.out).mono ?_
  rintro r w4 ⟨u1, u2, rfl, hT4, hb4⟩
  have HR4 : Aside _ := heap_below HR2.out hb4 (heap_lt HR2.out)
  have HB4 : Aside (Below w.heap.size w w4) := step_below HB2.out hb4
  have HT4 : Aside (BkT w4 u1 u2 c) := hT4
  obtain ⟨s1, o1, s2, o2, rfl, rfl⟩ := bk_slices hT4.1.1 hT4.1.2
  clear hb4 kd HB2 HR2 hT4
  obtain ⟨n1, hn1⟩ : ∃ n, Hid (c.js.length = n) := ⟨_, rfl⟩
  obtain ⟨n2, hn2⟩ : ∃ n, Hid (c.rs.length = n) := ⟨_, rfl⟩
  rw [hn1.out, hn2.out] at HT4 ⊢
  clear z ze hq
  have zr : ∀ i, w4.cell? ⟨w.heap.size + 1 + 1, i, none⟩ = #[Value.int .i64 0, .int .i64 0, .int .i64 0, .int .i64 0, .int .i64 0, .int .i64 0, .int .i64 0, .int .i64 0, .int .i64 0, .int .i64 0, .slice none 0 0, .slice none 0 0][i]? := fun i => Joins.cell_of_block HR4.out i
  have fzr : ∀ i, w4.frozen? ⟨w.heap.size + 1 + 1, i, none⟩ = false := fun i => Joins.unfrozen_of_block HR4.out i
  go_wp2
  refine ret_st (p := 4) (q := 5) w4 (w.heap.size + 1 + 1) ((⟨c.p, 2, x, c.a, (c.l + 1), c.n, c.js, c.rs⟩ : Cl)) (.slice s1 n1 o1) (.slice s2 n2 o2) (o := Cl.zero) (u1 := nil0) (u2 := nil0) Tryz.results136 rfl rfl rfl HR4.out rfl ?_
  exact ⟨(.slice s1 n1 o1), (.slice s2 n2 o2), rfl, bkT_st12 ⟨_, HR4.out⟩ (bkT_cong HT4.out rfl rfl) _ _ _, st12_below HB4.out (by omega) _ _ _⟩
theorem unlike_symm (x y : En) : unlike x.k x.j x.v x.t x.c y.k y.j y.v y.t y.c = y.ne x := by
  cases h : y.ne x with
  | true =>
    cases h2 : unlike x.k x.j x.v x.t x.c y.k y.j y.v y.t y.c with
    | true => rfl
    | false =>
      have e : x = y := ne_false.1 h2
      rw [e, ne_self] at h
      cases h
  | false =>
    have e : y = x := ne_false.1 h
    rw [e]
    exact ne_self x
/-- client.Heard. -/
theorem cl_heard (c : Cl) (x : En) (v1 v2 : Value) (w : World) (hb : BkAt w v1 v2 c) : AnsT 136 #[c.val v1 v2, x.val] w (hearOf c x) := by
  obtain ⟨a1, k1, a2, k2, rfl, rfl⟩ := bk_slices hb.1 hb.2
  unfold hearOf
  by_cases hc : c.ck = 0
  · rw [if_neg (by simpa using hc)]
    have hn1 := (few_of hc).1
    have hn2 := (few_of hc).2
    by_cases hx : x.chk = 0
    · rw [if_neg (by simpa using hx)]
      by_cases hd : c.d = 2
      · have hdb : (c.d != 2) = false := by rw [hd]; rfl
        rw [if_neg (by simpa using hd)]
        have hg := (Cl.good (Cl.ck_zero.1 hc).1).2.2.2.1
        have hw : IntKind.i64.wrap (c.l + 1) = c.l + 1 := by rw [IntKind.wrap_i64]; omega
        by_cases hk : c.e.k = 0
        · have hkb : (c.e.k == 0) = true := by rw [hk]; rfl
          rw [if_neg (fun h => h.1 hk)]
          by_cases hl : c.l = 2
          · have hl3 : (c.l + 1 == 3) = true := by rw [hl]; rfl
            rw [if_pos hl]
            cases hn : c.e.ne x with
            | true => exact zh_last0 c a1 a2 _ k1 _ k2 x w hb hc hx hdb ((unlike_symm x c.e).trans hn) hkb hw hl3 hn1 hn2
            | false => exact zh_last1 c a1 a2 _ k1 _ k2 x w hb hc hx hdb ((unlike_symm x c.e).trans hn) hw hl3 hn1 hn2
          · have hl3 : (c.l + 1 == 3) = false := by rw [beq_eq_false_iff_ne]; omega
            rw [if_neg hl, hd]
            cases hn : c.e.ne x with
            | true => exact zh_on0 c a1 a2 _ k1 _ k2 x w hb hc hx hdb ((unlike_symm x c.e).trans hn) hkb hw hl3 hn1 hn2
            | false => exact zh_on1 c a1 a2 _ k1 _ k2 x w hb hc hx hdb ((unlike_symm x c.e).trans hn) hw hl3 hn1 hn2
        · have hkb : (c.e.k == 0) = false := by rw [beq_eq_false_iff_ne]; exact hk
          cases hn : c.e.ne x with
          | true =>
            rw [if_pos ⟨hk, rfl⟩]
            exact zh_other c a1 a2 _ k1 _ k2 x w hb hc hx hdb ((unlike_symm x c.e).trans hn) hkb hn1 hn2
          | false =>
            rw [if_neg (fun h => by cases h.2)]
            by_cases hl : c.l = 2
            · have hl3 : (c.l + 1 == 3) = true := by rw [hl]; rfl
              rw [if_pos hl]
              exact zh_last1 c a1 a2 _ k1 _ k2 x w hb hc hx hdb ((unlike_symm x c.e).trans hn) hw hl3 hn1 hn2
            · have hl3 : (c.l + 1 == 3) = false := by rw [beq_eq_false_iff_ne]; omega
              rw [if_neg hl, hd]
              exact zh_on1 c a1 a2 _ k1 _ k2 x w hb hc hx hdb ((unlike_symm x c.e).trans hn) hw hl3 hn1 hn2
      · rw [if_pos hd]
        exact ansT_zero <| zh_late c a1 a2 _ k1 _ k2 x w hb hc hx (by rw [bne_iff_ne]; exact hd)
    · rw [if_pos hx]
      exact ansT_zero <| zh_ent c a1 a2 _ k1 _ k2 x w hb hc _ rfl (by rw [bne_iff_ne]; exact hx)
  · rw [if_pos hc]
    exact ansT_zero <| zh_ck c a1 a2 _ k1 _ k2 x w hb _ rfl (by rw [bne_iff_ne]; exact hc)
end Go.Proofs.YtmoaobfmopimlafGreatDoor
namespace Go.Proofs.YtmoaobfmopimlafGreatDoor
open Go.RowKit Go.Shelf
/-- 'clear' of a part of a row that is known whole. -/
theorem clear_cells {P : Program} (w : World) (t e ty : TypeId) (z : Value) (ht : P.underlying t = some (.slice e)) (hv : ∀ w, (zeroValue e).run P w = .ok z w) (g o n c : Nat) (hn : 0 < n) (cur : List Value) (T : TypeId) (hg : w.heap[g]? = some (.cells cur.toArray T (0, 0)))
    (hfit : o + (Builtin.zeroCells z.cells n).toList.length ≤ cur.length) (h1 : ∀ v ∈ (Builtin.zeroCells z.cells n).toList, v.oneCell' = true) :
    (Builtin.clear_ #[t] ty #[.slice (some ⟨g, o, none⟩) n c]).run P w = .ok (.tuple #[]) (w.setRow g (splice cur o (Builtin.zeroCells z.cells n).toList).toArray) := by
  have hst := run_storeCells_at P g o T (Builtin.zeroCells z.cells n).toList 0 cur.toArray w hg (by simpa using hfit) h1
  simp only [Nat.add_zero] at hst
  obtain ⟨m, rfl⟩ : ∃ m, n = m + 1 := ⟨n - 1, by omega⟩
  simp [Builtin.clear_, run_underlying ht, hv, hst, splice]
theorem zerosJ (n : Nat) : (Builtin.zeroCells (valJ 0 0 0).cells n).toList.length = n * 3 := by
  rw [Array.length_toList, size_zeroCells]
  rfl
theorem zerosJ_one (n : Nat) : ∀ v ∈ (Builtin.zeroCells (valJ 0 0 0).cells n).toList, v.oneCell' = true := by
  intro v hv
  have hm : v ∈ Builtin.zeroCells (valJ 0 0 0).cells n := Array.mem_toList_iff.1 hv
  rw [Builtin.zeroCells, Array.mem_map] at hm
  obtain ⟨i, _, rfl⟩ := hm
  have : ∀ k, k < 3 → (((valJ 0 0 0).cells)[k]!).oneCell' = true := by decide
  exact this _ (Nat.mod_lt _ (by decide))
/-- How far DeleteFunc has come: behind the first j. -/
structure Del (p : Jb → Bool) (js : List Jb) (i j : Nat) (R : List Jb) : Prop where
  len : ((js.take j).filter fun x => !p x).length = i
  lt : i < j
  le : j ≤ js.length
  rest : R.length = js.length - i
  tail : R.drop (j - i) = js.drop j
theorem Del.start {p : Jb → Bool} {js : List Jb} {k : Nat} {x : Jb} (hx : js[k]? = some x) (hp : p x = true) (hb : ∀ y, y ∈ js.take k → p y = false) : Del p js k (k + 1) (js.drop k) ∧ (js.take (k + 1)).filter (fun x => !p x) = js.take k := by
  have hlt := (List.getElem?_eq_some_iff.1 hx).1
  have e : (js.take (k + 1)).filter (fun x => !p x) = js.take k := by
    rw [List.take_add_one, hx, List.filter_append, List.filter_eq_self.2 (fun y hy => by simp [hb y hy])]
    simp [hp]
  refine ⟨⟨by rw [e, List.length_take]; omega, by omega, by omega, by simp, ?_⟩, e⟩
  rw [show k + 1 - k = 1 by omega, List.drop_drop]
theorem Del.keep {p : Jb → Bool} {js R : List Jb} {i j : Nat} {x : Jb} (h : Del p js i j R) (hx : js[j]? = some x) (hp : p x = false) : Del p js (i + 1) (j + 1) (R.drop 1) ∧ (js.take (j + 1)).filter (fun x => !p x) = (js.take j).filter (fun x => !p x) ++ [x] := by
  have hlt := (List.getElem?_eq_some_iff.1 hx).1
  have e : (js.take (j + 1)).filter (fun x => !p x) = (js.take j).filter (fun x => !p x) ++ [x] := by
    rw [List.take_add_one, hx, List.filter_append]
    simp [hp]
  have := h.lt
  refine ⟨⟨by rw [e, List.length_append, h.len]; rfl, by omega, by omega, by rw [List.length_drop, h.rest]; omega, ?_⟩, e⟩
  rw [List.drop_drop, show 1 + (j + 1 - (i + 1)) = (j - i) + 1 by omega, ← List.drop_drop, h.tail, List.drop_drop]
theorem Del.skip {p : Jb → Bool} {js R : List Jb} {i j : Nat} {x : Jb} (h : Del p js i j R) (hx : js[j]? = some x) (hp : p x = true) : Del p js i (j + 1) R ∧ (js.take (j + 1)).filter (fun x => !p x) = (js.take j).filter (fun x => !p x) := by
  have hlt := (List.getElem?_eq_some_iff.1 hx).1
  have e : (js.take (j + 1)).filter (fun x => !p x) = (js.take j).filter (fun x => !p x) := by
    rw [List.take_add_one, hx, List.filter_append]
    simp [hp]
  have := h.lt
  refine ⟨⟨by rw [e, h.len], by omega, by omega, h.rest, ?_⟩, e⟩
  rw [show j + 1 - i = (j - i) + 1 by omega, ← List.drop_drop, h.tail, List.drop_drop]
theorem Del.at {p : Jb → Bool} {js R : List Jb} {i j : Nat} {x : Jb} (h : Del p js i j R) (hx : js[j]? = some x) : ((js.take j).filter (fun x => !p x) ++ R)[j]? = some x := by
  have := h.lt
  rw [List.getElem?_append_right (by rw [h.len]; omega), h.len]
  have e : (R.drop (j - i))[0]? = (js.drop j)[0]? := by rw [h.tail]
  rw [List.getElem?_drop, List.getElem?_drop] at e
  simpa [hx] using e
end Go.Proofs.YtmoaobfmopimlafGreatDoor
namespace Go.Proofs.YtmoaobfmopimlafGreatDoor
open Go.RowKit Go.Shelf
theorem sl_beside {α : Type} {cs : α → List Value} {k : Nat} {w : World} {b n c : Nat} {xs : List α} (h : SlOf cs k w (.slice (some ⟨b, 0, none⟩) n c) xs) {g o : Nat} (hne : g ≠ b) (v : Value) : SlOf cs k (w.setCell ⟨g, o, none⟩ v) (.slice (some ⟨b, 0, none⟩) n c) xs := by
  obtain ⟨a, c', hv, hh⟩ := h
  refine ⟨a, c', hv, ?_⟩
  injection hv with h1 _ _
  rcases hh with hh | ⟨b', off, ha, hE⟩
  · exact Or.inl hh
  · refine Or.inr ⟨b', off, ha, fun j e hj i u hi => ?_⟩
    rw [ha] at h1
    injection h1 with h1
    injection h1 with h1 _ _
    subst h1
    rw [World.cell?_of_block (Below.heap_setCell _ _ _ _ (by exact fun e => hne e.symm))]
    exact hE j e hj i u hi
theorem zeroJ : ∀ w, (zeroValue 120).run Tryz.prog w = .ok (valJ 0 0 0) w := by
  intro w
  obtain ⟨i0, hi, hz0, _, _⟩ := info_parts infoJ
  simp [zeroValue, typeInfo, hi, hz0]
set_option maxHeartbeats 4000000 in
/-- slices.DeleteFunc at a row of jobs that is known whole. -/
theorem delG (p : Jb → Bool) (g : Nat) (lb : Array Value) (eg : ∀ args w, (callFunc g args).run Tryz.prog w = .ok (.enter g args) w) (eb : Nat) (eo : Obj) (gb c : Nat) (js : List Jb) (w : World) (hne : eb ≠ gb) (he : w.heap[eb]? = some eo)
    (hg : w.heap[gb]? = some (.cells (js.flatMap Jb.cells).toArray 120)) (hn : js.length ≤ 1000000) (hc : js.length ≤ c)
    (hp : ∀ (W : World) (x : Jb), W.heap[eb]? = some eo → Calls Tryz.prog g (#[x.val] ++ lb) W fun e w' => e = .returned (.bool (p x)) ∧ Below W.heap.size W w') :
    Calls Tryz.prog 201 #[.slice (some ⟨gb, 0, none⟩) js.length c, .func (.func g) #[] lb] w fun e w' => e = .returned (.slice (some ⟨gb, 0, none⟩) (js.filter fun x => !p x).length c) ∧ (∃ tl, w'.heap[gb]? = some (.cells ((js.filter fun x => !p x).flatMap Jb.cells ++ tl).toArray 120)) ∧ Kept [gb] w w' := by
  have hsl : JobSl w (.slice (some ⟨gb, 0, none⟩) js.length c) js := slOf_block Jb.three hg ⟨[], by simp⟩
  have hidx := idxFJ p g lb eg _ js w hsl (by unfold most; omega) (fun W x hb => (hp W x (heap_below he hb (heap_lt he))).mono fun e w' ⟨h1, h2⟩ => ⟨h1, hb.trans (h2.mono hb.size)⟩)
  have HP : Aside _ := hp
  have HG : Aside _ := hg
  have HE : Aside _ := he
  clear hp hg he
  rcases idx_ways p js with ⟨hi, hall⟩ | ⟨k, x0, hi, hk, hx, hpx, hbef⟩
  · rw [hi] at hidx
    have hf : js.filter (fun x => !p x) = js := List.filter_eq_self.2 (fun x hx => by simp [hall x hx])
    rw [hf]
    obtain ⟨n, hnn⟩ : ∃ n, Hid (js.length = n) := ⟨_, rfl⟩
    rw [hnn.out] at hidx hn hc hsl ⊢
    clear hi hall hf hsl
    go_enter Tryz.func201, Tryz.ntmps201
    go_wp2_with (go_at_call 175; refine hidx.mono ?_; rintro e w' ⟨rfl, hb'⟩)
    go_ret
    exact ⟨rfl, ⟨[], by rw [List.append_nil]; exact heap_below HG.out hb' (heap_lt HG.out)⟩, (Kept.refl _ _).below hb'⟩
  · rw [hi] at hidx
    obtain ⟨hd, he0⟩ := Del.start hx hpx hbef
    have HD : Aside (Del p js k (k + 1) (js.drop k) ∧ (js.take (k + 1)).filter (fun x => !p x) ++ js.drop k = js) := ⟨hd, by rw [he0, List.take_append_drop]⟩
    obtain ⟨n, hnn⟩ : ∃ n, Hid (js.length = n) := ⟨_, rfl⟩
    rw [hnn.out] at hidx hn hc hk ⊢
    have hkm : ((k : Int) == -1) = false := by rw [beq_eq_false_iff_ne]; omega
    clear hi hx hpx hbef hd he0 hsl
    obtain ⟨off, hoff⟩ : ∃ off : Nat, Hid (0 = off) := ⟨_, rfl⟩
    rw [hoff.out] at hidx ⊢
    go_enter Tryz.func201, Tryz.ntmps201
    go_wp2_with (go_at_call 175; refine hidx.mono ?_; rintro e w' ⟨rfl, hb'⟩)
    go_loopg [5, 6, 7] n (fun gg s5 s6 _ wr => ∃ (i j : Nat) (R : List Jb), s5 = .int .i64 i ∧ s6 = .int .i64 j ∧ i < j ∧ j ≤ n ∧ n - j ≤ gg ∧ Aside (Del p js i j R) ∧ Aside (wr.heap[gb]? = some (.cells (((js.take j).filter (fun x => !p x) ++ R).flatMap Jb.cells).toArray 120)) ∧ Aside (wr.heap[eb]? = some eo) ∧ Aside (Kept [gb] w wr))
    case atStart =>
      refine ⟨k, k + 1, js.drop k, rfl, by go_num, by omega, by omega, by omega, HD.out.1, ?_, heap_below HE.out hb' (heap_lt HE.out), (Kept.refl _ _).below hb'⟩
      show _ = _
      rw [HD.out.2]
      exact heap_below HG.out hb' (heap_lt HG.out)
    case round =>
      obtain ⟨i, j, R, rfl, rfl, hij, hjn, hgg, D, G, E, KK⟩ := hrel
      by_cases hlt : j < n
      · obtain ⟨x, hx⟩ : ∃ x, js[j]? = some x := ⟨js[j]'(by have := hnn.out; omega), List.getElem?_eq_getElem _⟩
        have hrow : RowAt Jb.cells 3 wr gb off ((js.take j).filter (fun x => !p x) ++ R) := by rw [← hoff.out]; exact rowAt_block Jb.three G.out ⟨[], by simp⟩
        have hat := D.out.at hx
        have c0 : wr.cell? ⟨gb, off + j * 3, none⟩ = some (.int .i64 x.i) := hrow j x hat 0 _ rfl
        have c1 : wr.cell? ⟨gb, off + j * 3 + 1, none⟩ = some (.int .i64 x.e) := hrow j x hat 1 _ rfl
        have c2 : wr.cell? ⟨gb, off + j * 3 + 2, none⟩ = some (.int .i64 x.n) := hrow j x hat 2 _ rfl
        have hcall := HP.out (wr.alloc (boxJ x)) x (heap_old E.out _)
        have hgl := heap_lt G.out
        cases hq : p x with
        | false =>
          rw [hq] at hcall
          obtain ⟨D', e'⟩ := D.out.keep hx hq
          have hR0 : 0 < R.length := by rw [D.out.rest, hnn.out]; omega
          obtain ⟨r, R', rfl⟩ : ∃ r R', R = r :: R' := by
            cases R with
            | nil => simp at hR0
            | cons r R' => exact ⟨r, R', rfl⟩
          have DD : Aside (Del p js (i + 1) (j + 1) R') := by have := D'; simp only [List.drop_one, List.tail_cons] at this; exact this
          have hli := D.out.len
          have hLL : off + i * 3 + 2 < ((List.filter (fun x => !p x) (List.take j js) ++ r :: R').flatMap Jb.cells).length := by
            rw [row_len Jb.three, List.length_append, hli, ← hoff.out, List.length_cons]; omega
          have hsp : Hid (splice ((List.filter (fun x => !p x) (List.take j js) ++ r :: R').flatMap Jb.cells) (off + i * 3) [.int .i64 x.i, .int .i64 x.e, .int .i64 x.n] = (List.filter (fun x => !p x) (List.take (j + 1) js) ++ R').flatMap Jb.cells) := by
            have := splice_flat Jb.three (List.filter (fun x => !p x) (List.take j js)) R' r x
            rw [hli] at this
            rw [Hid, ← hoff.out, Nat.zero_add, e', List.append_assoc]
            exact this
          generalize ((List.filter (fun x => !p x) (List.take j js) ++ r :: R').flatMap Jb.cells) = L at *
          clear hx hat hrow D D' e' hR0 hli hq
          go_wp2_with fail
          refine hcall.mono ?_
          rintro e w1 ⟨rfl, hb1⟩
          have hs1 : wr.heap.size < w1.heap.size := by have := hb1.size; rw [World.size_alloc] at this; omega
          have x1 : w1.heap[wr.heap.size]? = some (boxJ x) := heap_below (heap_new _ _) hb1 (by rw [World.size_alloc]; omega)
          have g1 : w1.heap[gb]? = some (.cells L.toArray 120) := heap_below (heap_old G.out _) hb1 (by rw [World.size_alloc]; omega)
          have E1 : Aside (w1.heap[eb]? = some eo) := heap_below (heap_old E.out _) hb1 (by rw [World.size_alloc]; have := heap_lt E.out; omega)
          have K1 : Aside (Kept [gb] w w1) := (KK.out.alloc _).below hb1
          have y1 : ∀ i, w1.cell? ⟨wr.heap.size, i, none⟩ = #[Value.int .i64 x.i, .int .i64 x.e, .int .i64 x.n][i]? := fun i => Joins.cell_of_block x1 i
          obtain ⟨z0, k0⟩ : ∃ z, w1.cell? ⟨gb, off + i * 3, none⟩ = some z := ⟨_, by rw [Joins.cell_of_block g1]; simp; exact List.getElem?_eq_getElem (by omega)⟩
          obtain ⟨z1, k1⟩ : ∃ z, w1.cell? ⟨gb, off + i * 3 + 1, none⟩ = some z := ⟨_, by rw [Joins.cell_of_block g1]; simp; exact List.getElem?_eq_getElem (by omega)⟩
          obtain ⟨z2, k2⟩ : ∃ z, w1.cell? ⟨gb, off + i * 3 + 2, none⟩ = some z := ⟨_, by rw [Joins.cell_of_block g1]; simp; exact List.getElem?_eq_getElem (by omega)⟩
          have f0 : ∀ i, w1.frozen? ⟨gb, i, none⟩ = false := fun i => Joins.unfrozen_of_block g1 i
          have G2 := block_three g1 (.int .i64 x.i) (.int .i64 x.e) (.int .i64 x.n) hLL
          rw [hsp.out] at G2
          have K2 := ((K1.out.setCell (g := gb) (o := off + i * 3) (by simp) (.int .i64 x.i)).setCell (g := gb) (o := off + i * 3 + 1) (by simp) (.int .i64 x.e)).setCell (g := gb) (o := off + i * 3 + 2) (by simp) (.int .i64 x.n)
          have E2 : (((w1.setCell ⟨gb, off + i * 3, none⟩ (.int .i64 x.i)).setCell ⟨gb, off + i * 3 + 1, none⟩ (.int .i64 x.e)).setCell ⟨gb, off + i * 3 + 2, none⟩ (.int .i64 x.n)).heap[eb]? = some eo := by
            rw [Below.heap_setCell _ _ _ _ (by exact hne), Below.heap_setCell _ _ _ _ (by exact hne), Below.heap_setCell _ _ _ _ (by exact hne)]; exact E1.out
          replace G2 : Aside _ := G2
          replace K2 : Aside _ := K2
          replace E2 : Aside _ := E2
          clear hb1 hcall x1 g1 E1 K1 G E KK c0 c1 c2 HP HE HG HD hidx hb'
          go_wp2
          go_roundg (n - (j + 1))
          case measure => omega
          case rel => exact ⟨i + 1, j + 1, R', by go_num, by go_num, by omega, by omega, by omega, DD, G2, E2, K2⟩
        | true =>
          rw [hq] at hcall
          obtain ⟨D', e'⟩ := D.out.skip hx hq
          replace D' : Aside _ := D'
          have G' : Aside (wr.heap[gb]? = some (.cells (((js.take (j + 1)).filter (fun x => !p x) ++ R).flatMap Jb.cells).toArray 120)) := by rw [e']; exact G.out
          clear hx hat hrow D e' hq G
          go_wp2_with fail
          refine hcall.mono ?_
          rintro e w1 ⟨rfl, hb1⟩
          have G1 : Aside (w1.heap[gb]? = _) := heap_below (heap_old G'.out _) hb1 (by rw [World.size_alloc]; omega)
          have E1 : Aside (w1.heap[eb]? = some eo) := heap_below (heap_old E.out _) hb1 (by rw [World.size_alloc]; have := heap_lt E.out; omega)
          have K1 : Aside (Kept [gb] w w1) := (KK.out.alloc _).below hb1
          clear hb1 hcall G' E KK c0 c1 c2 HP HE HG HD hidx hb'
          go_wp2
          go_roundg (n - (j + 1))
          case measure => omega
          case rel => exact ⟨i, j + 1, R, rfl, by go_num, by omega, by omega, by omega, D', G1, E1, K1⟩
      · obtain rfl : j = n := by omega
        have hli := D.out.len
        have hrest := D.out.rest
        have hfull : js.take j = js := List.take_of_length_le (by have := hnn.out; omega)
        rw [hfull] at hli
        have G0 := G.out
        rw [hfull] at G0
        have hL : (((js.filter (fun x => !p x)) ++ R).flatMap Jb.cells).length = j * 3 := by
          rw [row_len Jb.three, List.length_append, hli, hrest, hnn.out]; omega
        have hcl := fun ty => clear_cells (P := Tryz.prog) wr 36 120 ty (valJ 0 0 0) Tryz.underlying36 zeroJ gb (i * 3) (j - i) (c - i) (by omega) _ 120 G0 (by rw [hL, zerosJ]; omega) (zerosJ_one _)
        have hsl : Aside (∃ tl, (wr.setRow gb (splice (((js.filter (fun x => !p x)) ++ R).flatMap Jb.cells) (i * 3) (Builtin.zeroCells (valJ 0 0 0).cells (j - i)).toList).toArray).heap[gb]? = some (.cells ((js.filter fun x => !p x).flatMap Jb.cells ++ tl).toArray 120)) := by
          refine ⟨(Builtin.zeroCells (valJ 0 0 0).cells (j - i)).toList, (setRow_heap wr gb _ _ _ _ G0).trans ?_⟩
          · refine congrArg (fun l : List Value => some (Obj.cells l.toArray 120)) ?_
            have hfl : ((js.filter (fun x => !p x)).flatMap Jb.cells).length = i * 3 := by rw [row_len Jb.three, hli]
            have hz := zerosJ (j - i)
            unfold splice
            rw [List.flatMap_append, List.take_append_of_le_length (by omega), List.take_of_length_le (by omega), hz, List.drop_of_length_le (by rw [← List.flatMap_append, hL]; omega), List.append_nil]
        have K2 : Aside (Kept [gb] w (wr.setRow gb (splice (((js.filter (fun x => !p x)) ++ R).flatMap Jb.cells) (i * 3) (Builtin.zeroCells (valJ 0 0 0).cells (j - i)).toList).toArray)) := KK.out.setRow (by simp) _
        generalize (splice (((js.filter (fun x => !p x)) ++ R).flatMap Jb.cells) (i * 3) (Builtin.zeroCells (valJ 0 0 0).cells (j - i)).toList).toArray = Z at *
        have HL : Hid ((js.filter fun x => !p x).length = i) := hli
        have hz0 : 0 = off := hoff.out
        subst hz0
        clear hli hrest hfull G0 hL D G E KK HP HE HG HD hidx hb'
        go_wp2
        go_ret
        exact ⟨by rw [HL.out]; rfl, hsl.out, K2.out⟩
/-- slices.DeleteFunc at a row of jobs that is known whole. -/
theorem delJ (p : Jb → Bool) (g : Nat) (lb : Array Value) (eg : ∀ args w, (callFunc g args).run Tryz.prog w = .ok (.enter g args) w) (eb : Nat) (eo : Obj) (gb c : Nat) (js : List Jb) (w : World) (hne : eb ≠ gb) (he : w.heap[eb]? = some eo)
    (hg : w.heap[gb]? = some (.cells (js.flatMap Jb.cells).toArray 120)) (hn : js.length ≤ 1000000) (hc : js.length ≤ c)
    (hp : ∀ (W : World) (x : Jb), W.heap[eb]? = some eo → Calls Tryz.prog g (#[x.val] ++ lb) W fun e w' => e = .returned (.bool (p x)) ∧ Below W.heap.size W w') :
    Calls Tryz.prog 201 #[.slice (some ⟨gb, 0, none⟩) js.length c, .func (.func g) #[] lb] w fun e w' => e = .returned (.slice (some ⟨gb, 0, none⟩) (js.filter fun x => !p x).length c) ∧ (JobSl w' (.slice (some ⟨gb, 0, none⟩) (js.filter fun x => !p x).length c) (js.filter fun x => !p x) ∧ Typed 120 w' (.slice (some ⟨gb, 0, none⟩) (js.filter fun x => !p x).length c)) ∧ Kept [gb] w w' :=
  (delG p g lb eg eb eo gb c js w hne he hg hn hc hp).mono fun _ _ ⟨h1, ⟨tl, h2⟩, h3⟩ => ⟨h1, ⟨slOf_block Jb.three h2 ⟨tl, rfl⟩, typed_block h2 _ _ _⟩, h3⟩
set_option maxHeartbeats 1000000 in
theorem drop_pred (x : En) (eb : Nat) (W : World) (y : Jb) (h : W.heap[eb]? = some (boxE x.k x.j x.v x.t x.c)) :
    Calls Tryz.prog 266 (#[y.val] ++ #[.pointer (some ⟨eb, 0, none⟩)]) W fun e w' => e = .returned (.bool (y.i == x.j)) ∧ Below W.heap.size W w' := by
  have hlt := heap_lt h
  have hne : eb ≠ W.heap.size := by omega
  have c0 : ∀ i, W.cell? ⟨eb, i, none⟩ = #[Value.int .i64 x.k, .int .i64 x.j, .int .i64 x.v, .int .i64 x.t, .int .i64 x.c][i]? := fun i => Joins.cell_of_block h i
  show Calls Tryz.prog 266 #[y.val, .pointer (some ⟨eb, 0, none⟩)] W _
  go_enter Tryz.func266, Tryz.ntmps266
  go_wp2
  all_goals (go_ret; exact ⟨by simp_all, grew (Below.refl _ _) _⟩)
/-- A book that lies in blocks of its own: its head, its jobs, its rings. -/
structure Own (w : World) (ab gj gr : Nat) (js : List Jb) (rs : List Rg) : Prop where
  head : w.heap[ab]? = some (boxB (.slice (some ⟨gj, 0, none⟩) js.length js.length) (.slice (some ⟨gr, 0, none⟩) rs.length rs.length))
  jobs : w.heap[gj]? = some (.cells (js.flatMap Jb.cells).toArray 120)
  rungs : w.heap[gr]? = some (.cells (rs.flatMap Rg.cells).toArray 76)
theorem Own.ne1 {w : World} {ab gj gr : Nat} {js : List Jb} {rs : List Rg} (h : Own w ab gj gr js rs) : ab ≠ gj := fun e => by
  have h1 := h.head
  have h2 := h.jobs
  rw [e, h2] at h1
  injection h1 with h1
  injection h1 with _ h1 _
  revert h1
  decide
theorem Own.ne2 {w : World} {ab gj gr : Nat} {js : List Jb} {rs : List Rg} (h : Own w ab gj gr js rs) : ab ≠ gr := fun e => by
  have h1 := h.head
  have h2 := h.rungs
  rw [e, h2] at h1
  injection h1 with h1
  injection h1 with _ h1 _
  revert h1
  decide
theorem Own.ne3 {w : World} {ab gj gr : Nat} {js : List Jb} {rs : List Rg} (h : Own w ab gj gr js rs) : gj ≠ gr := fun e => by
  have h1 := h.jobs
  have h2 := h.rungs
  rw [e, h2] at h1
  injection h1 with h1
  injection h1 with _ h1 _
  revert h1
  decide
theorem Own.later {w w' : World} {ab gj gr : Nat} {js : List Jb} {rs : List Rg} (h : Own w ab gj gr js rs) (hb : Below w.heap.size w w') : Own w' ab gj gr js rs :=
  ⟨heap_below h.head hb (heap_lt h.head), heap_below h.jobs hb (heap_lt h.jobs), heap_below h.rungs hb (heap_lt h.rungs)⟩
theorem Own.sj {w : World} {ab gj gr : Nat} {js : List Jb} {rs : List Rg} (h : Own w ab gj gr js rs) : JobSl w (.slice (some ⟨gj, 0, none⟩) js.length js.length) js := slOf_block Jb.three h.jobs ⟨[], by simp⟩
theorem Own.sr {w : World} {ab gj gr : Nat} {js : List Jb} {rs : List Rg} (h : Own w ab gj gr js rs) : RungSl w (.slice (some ⟨gr, 0, none⟩) rs.length rs.length) rs := slOf_block Rg.three h.rungs ⟨[], by simp⟩
/-- What put, drop, ring leave: the book at this head, all but its head and its jobs as it was. -/
structure Left (w w' : World) (ab : Nat) (S : List Nat) (js : List Jb) (rs : List Rg) (u1 u2 : Value) : Prop where
  head : w'.heap[ab]? = some (boxB u1 u2)
  jobs : JobSl w' u1 js
  rungs : RungSl w' u2 rs
  room : Roomy u2
  kept : Kept S w w'
  tj : Typed 120 w' u1
  tr : Typed 76 w' u2
theorem Own.tj {w : World} {ab gj gr : Nat} {js : List Jb} {rs : List Rg} (h : Own w ab gj gr js rs) (n c : Nat) : Typed 120 w (.slice (some ⟨gj, 0, none⟩) n c) := typed_block h.jobs _ _ _
theorem Own.tr {w : World} {ab gj gr : Nat} {js : List Jb} {rs : List Rg} (h : Own w ab gj gr js rs) (n c : Nat) : Typed 76 w (.slice (some ⟨gr, 0, none⟩) n c) := typed_block h.rungs _ _ _
set_option maxHeartbeats 2000000 in
theorem drop_any (x : En) (ab gj gr : Nat) (js : List Jb) (rs : List Rg) (w : World) (h : Own w ab gj gr js rs) (hn : js.length ≤ 6) :
    Calls Tryz.prog 231 #[.pointer (some ⟨ab, 0, none⟩), x.val] w fun e w' => e = .returned (.tuple #[]) ∧ ∃ u1 u2, Left w w' ab [ab, gj] (js.filter fun y => !(y.i == x.j)) rs u1 u2 := by
  have n1 := h.ne1
  have n3 := h.ne3
  have n2 := h.ne2
  have hB := grew (Below.refl w.heap.size w) (boxE x.k x.j x.v x.t x.c)
  have h' := h.later hB
  have eg : ∀ args w, (callFunc 266 args).run Tryz.prog w = .ok (.enter 266 args) w := enters_of Tryz.func266 (by kernel_rfl) rfl
  have hdel := delJ (fun y => y.i == x.j) 266 #[.pointer (some ⟨w.heap.size, 0, none⟩)] eg w.heap.size _ gj js.length js _ (by have := heap_lt h.jobs; omega) (heap_new w (boxE x.k x.j x.v x.t x.c)) h'.jobs (by omega) (Nat.le_refl _) (fun W y hW => drop_pred x w.heap.size W y hW)
  have x1 := h'.head
  have hal := heap_lt h.head
  have HA : Aside (Own (w.alloc (boxE x.k x.j x.v x.t x.c)) ab gj gr js rs) := h'
  have y1 : ∀ i, (w.alloc (boxE x.k x.j x.v x.t x.c)).cell? ⟨ab, i, none⟩ = #[Value.slice (some ⟨gj, 0, none⟩) js.length js.length, .slice (some ⟨gr, 0, none⟩) rs.length rs.length][i]? := fun i => Joins.cell_of_block x1 i
  have yw : ∀ i, w.cell? ⟨ab, i, none⟩ = #[Value.slice (some ⟨gj, 0, none⟩) js.length js.length, .slice (some ⟨gr, 0, none⟩) rs.length rs.length][i]? := fun i => Joins.cell_of_block h.head i
  have hane : ab ≠ w.heap.size := by omega
  obtain ⟨n, hnn⟩ : ∃ n, Hid (js.length = n) := ⟨_, rfl⟩
  obtain ⟨m, hmm⟩ : ∃ m, Hid (rs.length = m) := ⟨_, rfl⟩
  rw [hnn.out, hmm.out] at y1 yw
  rw [hnn.out] at hdel hn
  obtain ⟨F, hF⟩ : ∃ F, Hid (js.filter (fun y => !(y.i == x.j)) = F) := ⟨_, rfl⟩
  rw [hF.out] at hdel ⊢
  clear h h' x1 hB
  go_enter Tryz.func231, Tryz.ntmps231
  go_wp2_with fail
  refine hdel.mono ?_
  rintro e w1 ⟨rfl, ⟨J1, T1⟩, K1⟩
  have hA1 : w1.heap[ab]? = some (boxB (.slice (some ⟨gj, 0, none⟩) n n) (.slice (some ⟨gr, 0, none⟩) m m)) := by
    rw [← hnn.out, ← hmm.out]
    exact K1.old HA.out.head (by simpa using n1)
  have T2 : Aside (Typed 120 (w1.setCell ⟨ab, 0, none⟩ (.slice (some ⟨gj, 0, none⟩) F.length n)) (.slice (some ⟨gj, 0, none⟩) F.length n) ∧ Typed 76 (w1.setCell ⟨ab, 0, none⟩ (.slice (some ⟨gj, 0, none⟩) F.length n)) (.slice (some ⟨gr, 0, none⟩) m m)) :=
    ⟨T1.setCell _ _ _, (typed_block (K1.old HA.out.rungs (by simpa using Ne.symm n3)) _ _ _).setCell _ _ _⟩
  have R1 : RungSl w1 (.slice (some ⟨gr, 0, none⟩) m m) rs := by
    rw [← hmm.out]
    exact slOf_block Rg.three (K1.old HA.out.rungs (by simpa using Ne.symm n3)) ⟨[], by simp⟩
  have z1 : ∀ i, w1.cell? ⟨ab, i, none⟩ = #[Value.slice (some ⟨gj, 0, none⟩) n n, .slice (some ⟨gr, 0, none⟩) m m][i]? := fun i => Joins.cell_of_block hA1 i
  have f1 : ∀ i, w1.frozen? ⟨ab, i, none⟩ = false := fun i => Joins.unfrozen_of_block hA1 i
  have hA2 := Joins.block_setCell (i := 0) hA1 (.slice (some ⟨gj, 0, none⟩) F.length n)
  have J2 : Aside (JobSl (w1.setCell ⟨ab, 0, none⟩ (.slice (some ⟨gj, 0, none⟩) F.length n)) (.slice (some ⟨gj, 0, none⟩) F.length n) F) := sl_beside J1 n1 _
  have R2 : Aside (RungSl (w1.setCell ⟨ab, 0, none⟩ (.slice (some ⟨gj, 0, none⟩) F.length n)) (.slice (some ⟨gr, 0, none⟩) m m) rs) := sl_beside R1 n2 _
  have K2 : Aside (Kept [ab, gj] w (w1.setCell ⟨ab, 0, none⟩ (.slice (some ⟨gj, 0, none⟩) F.length n))) := by
    have k0 : Kept [ab, gj] w w1 := by
      have ka := grew (Below.refl w.heap.size w) (boxE x.k x.j x.v x.t x.c)
      exact ⟨K1.os, K1.tape, K1.output, Nat.le_trans ka.size K1.size, fun k hk hS => (K1.block k (Nat.lt_of_lt_of_le hk ka.size) (by simp at hS ⊢; exact hS.2)).trans (ka.block k hk)⟩
    exact k0.setCell (by simp) _
  replace hA2 : Aside _ := hA2
  clear hdel J1 R1 K1 hA1 HA y1 yw T1
  go_wp2
  exact bodyPost_end (v := .tuple #[]) (by simp [results, go_sem]) rfl ⟨rfl, _, _, ⟨hA2.out, J2.out, R2.out, ⟨_, _, _, rfl, Nat.le_refl _⟩, K2.out, T2.out.1, T2.out.2⟩⟩
end Go.Proofs.YtmoaobfmopimlafGreatDoor
namespace Go.Proofs.YtmoaobfmopimlafGreatDoor
open Go.RowKit Go.Shelf
theorem owns_of_block {w : World} {base gb : Nat} {js : List Jb} (hb : base ≤ gb) (hg : w.heap[gb]? = some (.cells (js.flatMap Jb.cells).toArray 120)) (hn : js.length ≤ 1000000) :
    w.ownsRow base 120 3 (.slice (some ⟨gb, 0, none⟩) js.length js.length) js.length (js.flatMap Jb.cells) := by
  have hl := row_len Jb.three js
  refine ⟨hl, .inr ⟨gb, js.length, _, rfl, hb, hg, Nat.le_refl _, by unfold maxLen; omega, by simpa using hl, ?_⟩⟩
  exact List.take_of_length_le (by simpa using Nat.le_of_eq hl)
set_option maxHeartbeats 2000000 in
theorem insEnd (z : Jb) (gb vb : Nat) (js : List Jb) (w : World) (hg : w.heap[gb]? = some (.cells (js.flatMap Jb.cells).toArray 120)) (hv : w.heap[vb]? = some (.cells #[.int .i64 z.i, .int .i64 z.e, .int .i64 z.n] 120)) (hn : js.length ≤ 6) :
    Calls Tryz.prog 265 #[.slice (some ⟨gb, 0, none⟩) js.length js.length, .int .i64 js.length, .slice (some ⟨vb, 0, none⟩) 1 1] w fun e w' => ∃ u, e = .returned u ∧ (JobSl w' u (js ++ [z]) ∧ Typed 120 w' u) ∧ Kept [gb] w w' := by
  obtain ⟨i0, hi, hz0, hz1, hz2⟩ := info_parts infoJ
  have hown := owns_of_block (base := gb) (Nat.le_refl _) hg (by omega)
  have hgl := heap_lt hg
  have hl : (js ++ [z]).length = js.length + 1 := by simp
  have hfl : (js ++ [z]).flatMap Jb.cells = js.flatMap Jb.cells ++ z.cells := by simp
  have hnews : ∀ j u, z.cells[j]? = some u → w.cell? ((⟨vb, 0, none⟩ : Addr).add j) = some u := fun j u hj => by
    rw [Lib.add_plain, Joins.cell_of_block hv, Nat.zero_add]
    simpa [Jb.cells] using hj
  have hone : ∀ u ∈ z.cells, u.oneCell' = true := fun u hu => oneJ [z] u (by simpa using hu)
  have HL : Aside (∀ v' w', w'.ownsRow gb 120 3 v' (js.length + 1) (js.flatMap Jb.cells ++ z.cells) → JobSl w' v' (js ++ [z]) ∧ Typed 120 w' v') := fun v' w' h => by
    rw [← hl, ← hfl] at h
    exact ⟨slOf_of_owns Jb.three h, typed_owns h⟩
  obtain ⟨n, hnn⟩ : ∃ n, Hid (js.length = n) := ⟨_, rfl⟩
  rw [hnn.out] at hown hn HL ⊢
  obtain ⟨fl, hff⟩ : ∃ fl, Hid (js.flatMap Jb.cells = fl) := ⟨_, rfl⟩
  rw [hff.out] at hown HL
  have hzl : z.cells.length = 1 * 3 := rfl
  generalize z.cells = zc at *
  clear hg hv hl hfl
  go_enter Tryz.func265, Tryz.ntmps265
  go_wp2_with (at_builtin; refine wpList_append_own _ rfl _ _ 36 rfl gb 120 i0 (valJ 0 0 0) 3 24 Tryz.underlying36 hi hz0 hz1 hz2 rfl (by decide) (.slice (some ⟨gb, 0, none⟩) n n) n fl rfl hown ⟨vb, 0, none⟩ 1 1 zc rfl hzl hnews hone (by unfold maxLen; omega) (by omega) (by omega) ?_)
  intro v' w' hown' hgrow hiff
  have J : Aside (JobSl w' v' (js ++ [z]) ∧ Typed 120 w' v') := HL.out v' w' hown'
  have K : Aside (Kept [gb] w w') := ⟨hgrow.os, hgrow.tape, hgrow.output, hgrow.size, fun k hk hS => hgrow.block k hk (fun e => hS (by simp [Value.ownBlock] at e; simp [e]))⟩
  clear hown' hgrow hiff hown hnews hone hi hz0 hz1 hz2
  go_wp2
  go_ret
  exact ⟨_, rfl, J.out, K.out⟩
theorem splice_twoJ {α : Type} {A Z B C : List α} {a b : Nat} (ha : A.length = a) (hb : B.length = b) : splice (splice (A ++ Z) a B) (a + b) C = A ++ B ++ C ++ Z.drop (b + C.length) := by
  subst ha hb
  have e1 : splice (A ++ Z) A.length B = A ++ B ++ Z.drop B.length := by
    simp [splice, List.drop_append]
  rw [e1]
  have e2 : (A ++ B ++ Z.drop B.length).take (A.length + B.length) = A ++ B := List.take_left' (by simp)
  have e3 : (A ++ B ++ Z.drop B.length).drop (A.length + B.length + C.length) = Z.drop (B.length + C.length) := by
    rw [← List.drop_drop, List.drop_left' (by simp), List.drop_drop]
  rw [splice, e2, e3]
  simp
set_option maxHeartbeats 4000000 in
set_option maxRecDepth 100000 in
theorem insMid (z : Jb) (gb vb k : Nat) (js : List Jb) (w : World) (hk : k < js.length) (hg : w.heap[gb]? = some (.cells (js.flatMap Jb.cells).toArray 120)) (hv : w.heap[vb]? = some (.cells #[.int .i64 z.i, .int .i64 z.e, .int .i64 z.n] 120)) (hn : js.length ≤ 6) :
    Calls Tryz.prog 265 #[.slice (some ⟨gb, 0, none⟩) js.length js.length, .int .i64 k, .slice (some ⟨vb, 0, none⟩) 1 1] w fun e w' => ∃ u, e = .returned u ∧ (JobSl w' u (js.take k ++ z :: js.drop k) ∧ Typed 120 w' u) ∧ Kept [gb] w w' := by
  obtain ⟨i0, hi, hz0, hz1, hz2⟩ := info_parts infoJ
  have hgl := heap_lt hg
  have hvl := heap_lt hv
  obtain ⟨n, hnn⟩ : ∃ n, Hid (js.length = n) := ⟨_, rfl⟩
  have h1 : ((js.take k).flatMap Jb.cells).length = k * 3 := by rw [row_len Jb.three, List.length_take]; congr 1; omega
  have h2 : ((js.drop k).flatMap Jb.cells).length = (n - k) * 3 := by rw [row_len Jb.three, List.length_drop, hnn.out]
  have hrow : RowAt Jb.cells 3 w gb 0 js := rowAt_block Jb.three hg ⟨[], by simp⟩
  have hc1 := rows_flat Jb.three (js.take k) 0 (hrow.take k)
  have hc2 := rows_flat Jb.three (js.drop k) (0 + k * 3) (hrow.drop k)
  have ho1 := oneJ (js.take k)
  have ho2 := oneJ (js.drop k)
  have hoz : ∀ u ∈ z.cells, u.oneCell' = true := fun u hu => oneJ [z] u (by simpa using hu)
  have hzc : ∀ j u, z.cells[j]? = some u → w.cell? ⟨vb, 0 + j, none⟩ = some u := fun j u hj => by
    rw [Joins.cell_of_block hv, Nat.zero_add]
    simpa [Jb.cells] using hj
  have hzl : z.cells.length = 3 := rfl
  have hfin : Aside (∀ (u : Nat) (w' : World) (t : List Value) (c : Nat), w'.heap[u]? = some (.cells ((js.take k).flatMap Jb.cells ++ z.cells ++ (js.drop k).flatMap Jb.cells ++ t).toArray 120) → JobSl w' (.slice (some ⟨u, 0, none⟩) (n + 1) c) (js.take k ++ z :: js.drop k) ∧ Typed 120 w' (.slice (some ⟨u, 0, none⟩) (n + 1) c)) := fun u w' t c h => by
    have := slOf_block (c := c) Jb.three (xs := js.take k ++ z :: js.drop k) h ⟨t, by simp⟩
    rw [show (js.take k ++ z :: js.drop k).length = n + 1 by rw [← hnn.out]; simp; omega] at this
    exact ⟨this, typed_block h _ _ _⟩
  rw [hnn.out] at hk hn ⊢
  generalize (js.take k).flatMap Jb.cells = A at *
  generalize (js.drop k).flatMap Jb.cells = C at *
  generalize z.cells = Bz at *
  obtain ⟨q, hq⟩ : ∃ q, n + 1 = k + q := ⟨n + 1 - k, by omega⟩
  have hold : (Builtin.firstCells i0.size k (.slice (some ⟨gb, 0, none⟩) k n)).run Tryz.prog w.drew = .ok A.toArray w.drew := by
    rw [hz1]
    exact run_firstCells_some w.drew 3 k ⟨gb, 0, none⟩ k n A h1 (fun j v hj => by rw [Lib.add_plain]; exact hc1 j v hj)
  obtain ⟨G, Z, W1, hrun, hW1, hZ, hB1, hG⟩ : ∃ (G : Nat) (Z : List Value) (W1 : World), (∀ ty, (Builtin.append_ #[36, 3] ty #[.slice (some ⟨gb, 0, none⟩) k n, .int .i64 (q : Nat)]).run Tryz.prog w = .ok (.slice (some ⟨w.heap.size, 0, none⟩) (n + 1) G) W1) ∧ W1.heap[w.heap.size]? = some (.cells (A ++ Z).toArray 120) ∧ q * 3 ≤ Z.length ∧ Below w.heap.size w W1 ∧ n + 1 ≤ G := by
    have hr := fun ty => Lib.run_append_grow_zeros (P := Tryz.prog) w 36 3 ty 120 i0 (valJ 0 0 0) .i64 .i64 Tryz.underlying36 Tryz.underlying3 hi hz0 (some ⟨gb, 0, none⟩) k n A hold q (by omega) (by omega) (by omega) (by omega) (by rw [hz2]; omega) (growslice_fits (by omega) (by rw [hz2]; omega))
    rw [← hq] at hr
    refine ⟨_, (Builtin.zeroCells (valJ 0 0 0).cells q).toList ++ (Builtin.zeroCells (valJ 0 0 0).cells (grownCap w (n + 1) n 120 - (n + 1))).toList, _, hr, ?_, ?_, grew (Below.refl w.heap.size w).drew _, grownCap_ge _ _ _ _⟩
    · have := heap_new w.drew (.cells (A.toArray ++ Builtin.zeroCells (valJ 0 0 0).cells q ++ Builtin.zeroCells (valJ 0 0 0).cells (grownCap w (n + 1) n 120 - (n + 1))) 120)
      rw [show w.drew.heap.size = w.heap.size from rfl] at this
      rw [this]
      congr 2
      apply Array.toList_inj.1
      simp
    · rw [List.length_append, zerosJ]; omega
  have hCl : C.length = (q - 1) * 3 := by rw [h2]; congr 1; omega
  have hsp := splice_twoJ (Z := Z) (C := C) h1 hzl
  rw [show k * 3 + 3 = (k + 1) * 3 by omega] at hsp
  have hmin1 : Bz.length = Nat.min 1 q * 3 := by
    rw [hzl]; show 3 = min 1 q * 3; omega
  have hmin2 : C.length = Nat.min (n - k) (q - 1) * 3 := by
    rw [h2]; show _ = min (n - k) (q - 1) * 3; congr 1; omega
  have hAl : (A ++ Z).length = k * 3 + Z.length := by rw [List.length_append, h1]
  have hS1 : (splice (A ++ Z) (k * 3) Bz).length = (A ++ Z).length := length_splice _ _ _ (by rw [hAl, hzl]; omega)
  have hpos1 : 0 < Nat.min 1 q → (some ⟨w.heap.size, k * 3, none⟩ : Option Addr) = some ⟨w.heap.size, k * 3, none⟩ ∧ ∃ ad, (some ⟨vb, 0, none⟩ : Option Addr) = some ad ∧ ∀ j v, Bz[j]? = some v → W1.cell? (ad.add j) = some v := fun _ => ⟨rfl, _, rfl, fun j v hj => by rw [Lib.add_plain]; exact cell_later hB1 (hzc j v hj)⟩
  have hfit1 : k * 3 + Bz.length ≤ (A ++ Z).length := by rw [hAl, hzl]; omega
  have hfit2 : (k + 1) * 3 + C.length ≤ (splice (A ++ Z) (k * 3) Bz).length := by rw [hS1, hAl, hCl]; omega
  have hfin' : Aside (∀ w' : World, w'.heap[w.heap.size]? = some (.cells (splice (splice (A ++ Z) (k * 3) Bz) ((k + 1) * 3) C).toArray 120) → JobSl w' (.slice (some ⟨w.heap.size, 0, none⟩) (k + q) G) (js.take k ++ z :: js.drop k) ∧ Typed 120 w' (.slice (some ⟨w.heap.size, 0, none⟩) (k + q) G)) := fun w' h => by
    rw [hsp] at h
    rw [← hq]
    exact hfin.out _ w' _ G h
  have hc2' : Aside (∀ (w' : World), Below w.heap.size w w' → ∀ j u, C[j]? = some u → w'.cell? ((⟨gb, k * 3, none⟩ : Addr).add j) = some u) := fun w' hb j u hj => by
    rw [Lib.add_plain]
    have := hc2 j u hj
    rw [Nat.zero_add] at this
    exact cell_later hb this
  clear hold hi hz0 hz1 hz2 hc1 hc2 hzc hrow hsp hfin hg hv h1 h2 hAl hCl hS1 ho1 hzl
  generalize A ++ Z = L0 at *
  obtain ⟨L1, hL1⟩ : ∃ L1, Hid (splice L0 (k * 3) Bz = L1) := ⟨_, rfl⟩
  rw [hL1.out] at hfit2 hfin'
  clear hZ
  have hqi : (n : Int) + 1 - (k : Int) = (q : Int) := by omega
  have hne0 : ((k : Int) == (n : Int)) = false := by rw [beq_eq_false_iff_ne]; omega
  go_enter Tryz.func265, Tryz.ntmps265
  go_wp2_with (first
    | (at_builtin; refine Lib.wpList_append_run _ rfl _ _ 36 3 rfl _ _ rfl rfl _ _ (hrun _) ?_)
    | ((with_reducible show wpList _ _ _ (Oper.mk (some 45) _ _ _ _ _ :: _) _ _); refine wpList_copyK rfl _ _ 36 36 rfl 120 3 Tryz.underlying36 sizeJ (some ⟨w.heap.size, k * 3, none⟩) (some ⟨vb, 0, none⟩) q (G - k) 1 1 rfl rfl w.heap.size (k * 3) L0 120 hW1 Bz hmin1 hpos1 hfit1 hoz w.heap.size w hB1 (Nat.le_refl _) ?_))
  intro w2 hg2 hB2
  have hg2' : w2.heap[w.heap.size]? = some (.cells L1.toArray 120) := by rw [← hL1.out]; exact hg2.out
  have hB2' := hB2.drew
  have hq1 : k + q - (k + 1) = q - 1 := by omega
  have hk1 : (k : Int) + 1 ≤ (k : Int) + (q : Int) := by omega
  have hk2 : (k : Int) + (q : Int) ≤ (G : Int) := by omega
  have hk3 : (0 : Int) ≤ (k : Int) + 1 := by omega
  have hwr : IntKind.i64.wrap ((k : Int) + 1) = (k : Int) + 1 := by rw [IntKind.wrap_i64]; omega
  have hG1 : ¬ G = k + 1 := by omega
  have hnk : ¬ n = k := by omega
  have hkn : k ≤ n := by omega
  go_wp2_with fail
  go_region_law ((refine step_copyK rfl _ _ 36 36 rfl 120 3 Tryz.underlying36 sizeJ (some ⟨w.heap.size, (k + 1) * 3, none⟩) (some ⟨gb, k * 3, none⟩) (q - 1) (G - (k + 1)) (n - k) (n - k) (by simp [Act.eval, Act.put]) (by simp [Act.eval, Act.put]) w.heap.size ((k + 1) * 3) L1 120 hg2' C hmin2 (fun _ => ⟨rfl, _, rfl, hc2'.out _ hB2'⟩) hfit2 ho2 w.heap.size w hB2' (Nat.le_refl _) ?_; intro w3 hg3 hB3))
  all_goals
    go_wp2
    go_ret
    exact ⟨_, rfl, hfin'.out _ hg3.out, (Kept.refl _ _).below hB3⟩
end Go.Proofs.YtmoaobfmopimlafGreatDoor
namespace Go.Proofs.YtmoaobfmopimlafGreatDoor
open Go.RowKit Go.Shelf
set_option maxHeartbeats 1000000 in
theorem put_pred (x : En) (eb : Nat) (W : World) (y : Jb) (h : W.heap[eb]? = some (boxE x.k x.j x.v x.t x.c)) :
    Calls Tryz.prog 264 (#[y.val] ++ #[.pointer (some ⟨eb, 0, none⟩)]) W fun e w' => e = .returned (.bool (decide (x.j < y.i))) ∧ Below W.heap.size W w' := by
  have hlt := heap_lt h
  have hne : eb ≠ W.heap.size := by omega
  have c0 : ∀ i, W.cell? ⟨eb, i, none⟩ = #[Value.int .i64 x.k, .int .i64 x.j, .int .i64 x.v, .int .i64 x.t, .int .i64 x.c][i]? := fun i => Joins.cell_of_block h i
  show Calls Tryz.prog 264 #[y.val, .pointer (some ⟨eb, 0, none⟩)] W _
  go_enter Tryz.func264, Tryz.ntmps264
  go_wp2
  all_goals (go_ret; exact ⟨by simp_all, grew (Below.refl _ _) _⟩)
/-- What put and ring read first: the book's head and the entry's box. -/
abbrev Reads (W w : World) (ab gj gr eb n m : Nat) (x : En) : Prop :=
  Below W.heap.size W w ∧ w.cell? ⟨ab, 0, none⟩ = some (.slice (some ⟨gj, 0, none⟩) n n) ∧ w.cell? ⟨ab, 1, none⟩ = some (.slice (some ⟨gr, 0, none⟩) m m) ∧ w.cell? ⟨eb, 1, none⟩ = some (.int .i64 x.j)
theorem reads_below {W w : World} {ab gj gr eb n m : Nat} {x : En} (h : Reads W w ab gj gr eb n m x) : Below W.heap.size W w := h.1
theorem reads_step {W w w' : World} {ab gj gr eb n m : Nat} {x : En} (h : Reads W w ab gj gr eb n m x) (hb : Below w.heap.size w w') : Reads W w' ab gj gr eb n m x :=
  ⟨h.1.trans (hb.mono h.1.size), cell_later hb h.2.1, cell_later hb h.2.2.1, cell_later hb h.2.2.2⟩
set_option maxHeartbeats 2000000 in
/-- put, where the job is there. -/
theorem put_there (x : En) (ab gj gr : Nat) (js : List Jb) (rs : List Rg) (w : World) (h : Own w ab gj gr js rs) (hn : js.length ≤ 6) (hj : 0 ≤ jobAt js x.j) :
    Calls Tryz.prog 230 #[.pointer (some ⟨ab, 0, none⟩), x.val] w fun e w' => e = .returned (.tuple #[]) ∧ ∃ u1 u2, Left w w' ab [ab, gj] js rs u1 u2 := by
  have hB := grew (Below.refl w.heap.size w) (boxE x.k x.j x.v x.t x.c)
  have h' := h.later hB
  obtain ⟨n, hnn⟩ : ∃ n, Hid (js.length = n) := ⟨_, rfl⟩
  obtain ⟨m, hmm⟩ : ∃ m, Hid (rs.length = m) := ⟨_, rfl⟩
  have hS0 : Reads (w.alloc (boxE x.k x.j x.v x.t x.c)) (w.alloc (boxE x.k x.j x.v x.t x.c)) ab gj gr w.heap.size n m x := by
    refine ⟨Below.refl _ _, ?_, ?_, ?_⟩
    · rw [Joins.cell_of_block h'.head, ← hnn.out]; rfl
    · rw [Joins.cell_of_block h'.head, ← hmm.out]; rfl
    · rw [Joins.cell_of_block (heap_new _ _)]; rfl
  have hfind := fun (W : World) (hb : Below (w.alloc (boxE x.k x.j x.v x.t x.c)).heap.size (w.alloc (boxE x.k x.j x.v x.t x.c)) W) => find_any (.slice (some ⟨gj, 0, none⟩) js.length js.length) (.slice (some ⟨gr, 0, none⟩) rs.length rs.length) js x.j W (h'.sj.later hb) (by unfold most; omega)
  rw [hnn.out, hmm.out] at hfind
  have HO : Aside (Own w ab gj gr js rs ∧ Below w.heap.size w (w.alloc (boxE x.k x.j x.v x.t x.c))) := ⟨h, hB⟩
  generalize jobAt js x.j = r at *
  clear h h' hB
  go_enter Tryz.func230, Tryz.ntmps230
  go_wp2_with fail
  generalize w.alloc (boxE x.k x.j x.v x.t x.c) = W0 at *
  have hbd : Below W0.heap.size W0 W0.drew := (Below.refl _ _).drew
  go_region_held3 (fun w' => Reads W0 w' ab gj gr w.heap.size n m x) (exact reads_step (by assumption) (by assumption)) (first | (go_at_call 263; refine (hfind _ (reads_below (by assumption))).mono ?_; rintro e w' ⟨rfl, hb'⟩))
  all_goals
    rename_i hS
    have hB := HO.out.2.trans (hS.1.mono HO.out.2.size)
    have HR : Aside (Below w.heap.size w _) := hB
    clear hS0 hS hfind hbd hB
    go_wp2
    refine bodyPost_ret (v := .tuple #[]) (by simp [results, go_sem]) rfl ⟨rfl, _, _, ⟨(HO.out.1.later HR.out).head, (HO.out.1.later HR.out).sj, (HO.out.1.later HR.out).sr, ⟨_, _, _, rfl, Nat.le_refl _⟩, (Kept.refl _ _).below HR.out, (HO.out.1.later HR.out).tj _ _, (HO.out.1.later HR.out).tr _ _⟩⟩
/-- slices.Insert at a full row of jobs: in their midst or at their end. -/
theorem insJ (z : Jb) (gb vb k : Nat) (js : List Jb) (w : World) (hk : k ≤ js.length) (hg : w.heap[gb]? = some (.cells (js.flatMap Jb.cells).toArray 120)) (hv : w.heap[vb]? = some (.cells #[.int .i64 z.i, .int .i64 z.e, .int .i64 z.n] 120)) (hn : js.length ≤ 6) :
    Calls Tryz.prog 265 #[.slice (some ⟨gb, 0, none⟩) js.length js.length, .int .i64 k, .slice (some ⟨vb, 0, none⟩) 1 1] w fun e w' => ∃ u, e = .returned u ∧ (JobSl w' u (js.take k ++ z :: js.drop k) ∧ Typed 120 w' u) ∧ Kept [gb] w w' := by
  rcases Nat.lt_or_eq_of_le hk with hk | rfl
  · exact insMid z gb vb k js w hk hg hv hn
  · rw [List.take_length, List.drop_length]
    exact insEnd z gb vb js w hg hv hn
theorem kept_of_below {S : List Nat} {w w' : World} (h : Below w.heap.size w w') : Kept S w w' := (Kept.refl S w).below h
theorem Kept.trans {S S' : List Nat} {a b c : World} (h : Kept S a b) (h' : Kept S' b c) (hs : ∀ k, k ∈ S' → k ∈ S) : Kept S a c :=
  ⟨h'.os.trans h.os, h'.tape.trans h.tape, h'.output.trans h.output, Nat.le_trans h.size h'.size, fun k hk hS => (h'.block k (Nat.lt_of_lt_of_le hk h.size) (fun e => hS (hs k e))).trans (h.block k hk hS)⟩
theorem Kept.more {S S' : List Nat} {a b : World} (h : Kept S a b) (hs : ∀ k, k ∈ S → k ∈ S') : Kept S' a b :=
  ⟨h.os, h.tape, h.output, h.size, fun k hk hS => h.block k hk (fun e => hS (hs k e))⟩
/-- Where a new job goes. -/
def place (js : List Jb) (i : Int) : Nat := if idx (fun y => decide (i < y.i)) js < 0 then js.length else (idx (fun y => decide (i < y.i)) js).toNat
theorem place_le (js : List Jb) (i : Int) : place js i ≤ js.length := by
  unfold place
  rcases idx_ways (fun y : Jb => decide (i < y.i)) js with ⟨h, _⟩ | ⟨k, x, h, hk, _⟩
  · rw [h]; simp
  · rw [h, if_neg (by omega)]; simp; omega
/-- What put's last statement reads of the entry. -/
abbrev PutS (w : World) (eb : Nat) (x : En) : Prop :=
  w.cell? ⟨eb, 1, none⟩ = some (.int .i64 x.j) ∧ w.cell? ⟨eb, 2, none⟩ = some (.int .i64 x.v) ∧ w.cell? ⟨eb, 3, none⟩ = some (.int .i64 x.t)
theorem putS_step {w w' : World} {eb : Nat} {x : En} (h : PutS w eb x) (hb : Below w.heap.size w w') : PutS w' eb x :=
  ⟨cell_later hb h.1, cell_later hb h.2.1, cell_later hb h.2.2⟩
theorem putS_new {w : World} {eb : Nat} {x : En} {o : Obj} (h : PutS w eb x) : PutS (w.alloc o) eb x := putS_step h (grew (Below.refl _ _) o)
theorem putS_of {w : World} {eb : Nat} {x : En} (h : w.heap[eb]? = some (boxE x.k x.j x.v x.t x.c)) : PutS w eb x :=
  ⟨by rw [Joins.cell_of_block h]; rfl, by rw [Joins.cell_of_block h]; rfl, by rw [Joins.cell_of_block h]; rfl⟩
/-- What is known behind Insert, in put. -/
theorem ins_left (z : Jb) (x : En) (eb ab gj gr vb k n m : Nat) (js J' : List Jb) (rs : List Rg) (w W : World) (hn : js.length = n) (hm : rs.length = m) (hk : k ≤ n) (hn6 : n ≤ 6) (hJ : js.take k ++ z :: js.drop k = J') (hO : Own W ab gj gr js rs) (hb : Below w.heap.size w W) (hE : W.heap[eb]? = some (boxE x.k x.j x.v x.t x.c)) (hne : eb ≠ gj)
    (hv : W.heap[vb]? = some (.cells #[.int .i64 z.i, .int .i64 z.e, .int .i64 z.n] 120)) :
    Calls Tryz.prog 265 #[.slice (some ⟨gj, 0, none⟩) n n, .int .i64 k, .slice (some ⟨vb, 0, none⟩) 1 1] W fun e w3 => ∃ a c, e = .returned (.slice a J'.length c) ∧
      (∀ i, w3.cell? ⟨ab, i, none⟩ = #[Value.slice (some ⟨gj, 0, none⟩) n n, .slice (some ⟨gr, 0, none⟩) m m][i]?) ∧ (∀ i, w3.frozen? ⟨ab, i, none⟩ = false) ∧ PutS w3 eb x ∧
      Aside (w3.heap[ab]? = some (boxB (.slice (some ⟨gj, 0, none⟩) n n) (.slice (some ⟨gr, 0, none⟩) m m)) ∧ (JobSl w3 (.slice a J'.length c) J' ∧ Typed 120 w3 (.slice a J'.length c)) ∧ (RungSl w3 (.slice (some ⟨gr, 0, none⟩) m m) rs ∧ Typed 76 w3 (.slice (some ⟨gr, 0, none⟩) m m)) ∧ Kept [ab, gj] w w3) := by
  subst hn hm hJ
  refine (insJ z gj vb k js W hk hO.jobs hv hn6).mono ?_
  rintro e w3 ⟨u, rfl, J3, K3⟩
  have hA3 := K3.old hO.head (by simpa using hO.ne1)
  have R3 : RungSl w3 (.slice (some ⟨gr, 0, none⟩) rs.length rs.length) rs := slOf_block Rg.three (K3.old hO.rungs (by simpa using Ne.symm hO.ne3)) ⟨[], by simp⟩
  have K3' := ((kept_of_below (S := [ab, gj]) hb).trans K3 (fun k hk => by simp at hk; simp [hk]))
  have T3 : Typed 76 w3 (.slice (some ⟨gr, 0, none⟩) rs.length rs.length) := typed_block (K3.old hO.rungs (by simpa using Ne.symm hO.ne3)) _ _ _
  obtain ⟨⟨a3, c3, rfl, hcase⟩, TJ⟩ := J3
  exact ⟨a3, c3, rfl, fun i => Joins.cell_of_block hA3 i, fun i => Joins.unfrozen_of_block hA3 i, putS_of (K3.old hE (by simpa using hne)), hA3, ⟨⟨a3, c3, rfl, hcase⟩, TJ⟩, ⟨R3, T3⟩, K3'⟩
/-- ..and behind the head's store. -/
theorem put_left {w w3 : World} {ab gj gr n m : Nat} {J' : List Jb} {rs : List Rg} {a : Option Addr} {c l : Nat} (n1 : ab ≠ gr) (h : w3.heap[ab]? = some (boxB (.slice (some ⟨gj, 0, none⟩) n n) (.slice (some ⟨gr, 0, none⟩) m m)) ∧ (JobSl w3 (.slice a l c) J' ∧ Typed 120 w3 (.slice a l c)) ∧ (RungSl w3 (.slice (some ⟨gr, 0, none⟩) m m) rs ∧ Typed 76 w3 (.slice (some ⟨gr, 0, none⟩) m m)) ∧ Kept [ab, gj] w w3) :
    Left w (w3.setCell ⟨ab, 0, none⟩ (.slice a l c)) ab [ab, gj] J' rs (.slice a l c) (.slice (some ⟨gr, 0, none⟩) m m) := by
  obtain ⟨h1, ⟨h2, h5⟩, ⟨h3, h6⟩, h4⟩ := h
  refine ⟨Joins.block_setCell (i := 0) h1 _, ?_, sl_beside h3 n1 _, ⟨_, _, _, rfl, Nat.le_refl _⟩, h4.setCell (by simp) _, h5.setCell _ _ _, h6.setCell _ _ _⟩
  obtain ⟨a', c', hv, hh⟩ := h2
  refine ⟨a', c', hv, ?_⟩
  rcases hh with hh | ⟨b', off, ha, hE⟩
  · exact Or.inl hh
  · refine Or.inr ⟨b', off, ha, fun j e hj i u hi => ?_⟩
    have hp : 0 < J'.length := by have := (List.getElem?_eq_some_iff.1 hj).1; omega
    have : ab ≠ b' := fun e => by
      obtain ⟨y, hy⟩ : ∃ y, J'[0]? = some y := ⟨J'[0], List.getElem?_eq_getElem hp⟩
      have h0 := hE 0 y hy 0 _ rfl
      rw [← e, Joins.cell_of_block h1] at h0
      generalize off + 0 * 3 + 0 = q at h0
      match q, h0 with
      | 0, h0 => simp at h0
      | 1, h0 => simp at h0
      | q + 2, h0 => simp at h0
    rw [World.cell?_of_block (Below.heap_setCell _ _ _ _ (by exact fun e => this e.symm))]
    exact hE j e hj i u hi
end Go.Proofs.YtmoaobfmopimlafGreatDoor
namespace Go.Proofs.YtmoaobfmopimlafGreatDoor
open Go.RowKit Go.Shelf
theorem left_same {w w1 : World} {ab gj gr : Nat} {js : List Jb} {rs : List Rg} {S : List Nat} (h : Own w1 ab gj gr js rs) (hb : Below w.heap.size w w1) (q : Nat) : ∃ u1 u2, Left w (w1.drewN q) ab S js rs u1 u2 :=
  have h' := h.later (below_drewN (Below.refl _ w1) q)
  ⟨_, _, h'.head, h'.sj, h'.sr, ⟨_, _, _, rfl, Nat.le_refl _⟩, kept_of_below (below_drewN hb q), h'.tj _ _, h'.tr _ _⟩
set_option maxHeartbeats 4000000 in
theorem ring_lost (x : En) (ab gj gr : Nat) (js : List Jb) (rs : List Rg) (w : World) (h : Own w ab gj gr js rs) (hn : js.length ≤ 6) (hj : jobAt js x.j = -1) :
    Calls Tryz.prog 232 #[.pointer (some ⟨ab, 0, none⟩), x.val] w fun e w' => e = .returned (.tuple #[]) ∧ ∃ u1 u2, Left w w' ab [ab, gj] js rs u1 u2 := by
  have hB := grew (Below.refl w.heap.size w) (boxE x.k x.j x.v x.t x.c)
  have h' := h.later hB
  obtain ⟨n, hnn⟩ : ∃ n, Hid (js.length = n) := ⟨_, rfl⟩
  obtain ⟨m, hmm⟩ : ∃ m, Hid (rs.length = m) := ⟨_, rfl⟩
  have hS0 : Reads (w.alloc (boxE x.k x.j x.v x.t x.c)) (w.alloc (boxE x.k x.j x.v x.t x.c)) ab gj gr w.heap.size n m x := by
    refine ⟨Below.refl _ _, ?_, ?_, ?_⟩
    · rw [Joins.cell_of_block h'.head, ← hnn.out]; rfl
    · rw [Joins.cell_of_block h'.head, ← hmm.out]; rfl
    · rw [Joins.cell_of_block (heap_new _ _)]; rfl
  have hfind := fun (W : World) (hb : Below (w.alloc (boxE x.k x.j x.v x.t x.c)).heap.size (w.alloc (boxE x.k x.j x.v x.t x.c)) W) => find_any (.slice (some ⟨gj, 0, none⟩) js.length js.length) (.slice (some ⟨gr, 0, none⟩) rs.length rs.length) js x.j W (h'.sj.later hb) (by unfold most; omega)
  rw [hnn.out, hmm.out, hj] at hfind
  have HO : Aside (Own (w.alloc (boxE x.k x.j x.v x.t x.c)) ab gj gr js rs ∧ Below w.heap.size w (w.alloc (boxE x.k x.j x.v x.t x.c)) ∧ (w.alloc (boxE x.k x.j x.v x.t x.c)).heap[w.heap.size]? = some (boxE x.k x.j x.v x.t x.c)) := ⟨h', hB, heap_new _ _⟩
  have hab := heap_lt h.head
  have ne1 := h.ne1
  have ne3 := h.ne3
  have ne2 := h.ne2
  have hgj := heap_lt h.jobs
  have hgr := heap_lt h.rungs
  rw [hnn.out] at hn
  clear h h' hB hj
  go_enter Tryz.func232, Tryz.ntmps232
  go_wp2_with fail
  generalize w.alloc (boxE x.k x.j x.v x.t x.c) = W0 at *
  have hbd : Below W0.heap.size W0 W0.drew := (Below.refl _ _).drew
  go_region_held3 (fun w' => Reads W0 w' ab gj gr w.heap.size n m x) (exact reads_step (by assumption) (by assumption)) (first | (go_at_call 263; refine (hfind _ (reads_below (by assumption))).mono ?_; rintro e w1 ⟨rfl, hb'⟩))
  all_goals
    rename_i hS
    clear hb'
    obtain ⟨hB1, y0, y1, y2⟩ := hS
    have hw1 : w.heap.size < w1.heap.size := by have := heap_lt HO.out.2.2; have := hB1.size; omega
    have O1 : Own w1 ab gj gr js rs := HO.out.1.later hB1
    have E1 : w1.heap[w.heap.size]? = some (boxE x.k x.j x.v x.t x.c) := heap_below HO.out.2.2 hB1 (heap_lt HO.out.2.2)
    have B1 : Aside (Below w.heap.size w w1) := HO.out.2.1.trans (hB1.mono HO.out.2.1.size)
    have A1 : Aside (Own w1 ab gj gr js rs ∧ w1.heap[w.heap.size]? = some (boxE x.k x.j x.v x.t x.c)) := ⟨O1, E1⟩
    have e1 : ∀ i, w1.cell? ⟨w.heap.size, i, none⟩ = #[Value.int .i64 x.k, .int .i64 x.j, .int .i64 x.v, .int .i64 x.t, .int .i64 x.c][i]? := fun i => Joins.cell_of_block E1 i
    clear hS0 hfind hbd hB1 O1 E1 HO y2
    go_wp2_with fail
    go_quiet (fail)
    go_wp2
    exact bodyPost_ret (v := .tuple #[]) (by simp [results, go_sem]) rfl ⟨rfl, left_same A1.out.1 B1.out _⟩
set_option maxHeartbeats 4000000 in
theorem ring_other (x : En) (ab gj gr : Nat) (js : List Jb) (rs : List Rg) (w : World) (h : Own w ab gj gr js rs) (hn : js.length ≤ 6) (k : Nat) (y : Jb) (hj : jobAt js x.j = (k : Nat)) (hx : js[k]? = some y) (hne : y.n ≠ x.t) :
    Calls Tryz.prog 232 #[.pointer (some ⟨ab, 0, none⟩), x.val] w fun e w' => e = .returned (.tuple #[]) ∧ ∃ u1 u2, Left w w' ab [ab, gj] js rs u1 u2 := by
  have hB := grew (Below.refl w.heap.size w) (boxE x.k x.j x.v x.t x.c)
  have h' := h.later hB
  obtain ⟨n, hnn⟩ : ∃ n, Hid (js.length = n) := ⟨_, rfl⟩
  obtain ⟨m, hmm⟩ : ∃ m, Hid (rs.length = m) := ⟨_, rfl⟩
  have hS0 : Reads (w.alloc (boxE x.k x.j x.v x.t x.c)) (w.alloc (boxE x.k x.j x.v x.t x.c)) ab gj gr w.heap.size n m x := by
    refine ⟨Below.refl _ _, ?_, ?_, ?_⟩
    · rw [Joins.cell_of_block h'.head, ← hnn.out]; rfl
    · rw [Joins.cell_of_block h'.head, ← hmm.out]; rfl
    · rw [Joins.cell_of_block (heap_new _ _)]; rfl
  have hfind := fun (W : World) (hb : Below (w.alloc (boxE x.k x.j x.v x.t x.c)).heap.size (w.alloc (boxE x.k x.j x.v x.t x.c)) W) => find_any (.slice (some ⟨gj, 0, none⟩) js.length js.length) (.slice (some ⟨gr, 0, none⟩) rs.length rs.length) js x.j W (h'.sj.later hb) (by unfold most; omega)
  rw [hnn.out, hmm.out, hj] at hfind
  have HO : Aside (Own (w.alloc (boxE x.k x.j x.v x.t x.c)) ab gj gr js rs ∧ Below w.heap.size w (w.alloc (boxE x.k x.j x.v x.t x.c)) ∧ (w.alloc (boxE x.k x.j x.v x.t x.c)).heap[w.heap.size]? = some (boxE x.k x.j x.v x.t x.c)) := ⟨h', hB, heap_new _ _⟩
  have hab := heap_lt h.head
  have ne1 := h.ne1
  have ne3 := h.ne3
  have ne2 := h.ne2
  have hgj := heap_lt h.jobs
  have hgr := heap_lt h.rungs
  have hkn : k < n := by rw [← hnn.out]; exact (List.getElem?_eq_some_iff.1 hx).1
  have HX : Hid (js[k]? = some y) := hx
  have kd : decide ((k : Int) < 0) = false := by rw [decide_eq_false_iff_not]; omega
  have kk0 : (0 : Int) ≤ (k : Int) := by omega
  have kk1 : (k : Int) < (n : Int) := by omega
  have hnb : (y.n != x.t) = true := by rw [bne_iff_ne]; exact hne
  clear hne
  rw [hnn.out] at hn
  clear h h' hB hj
  go_enter Tryz.func232, Tryz.ntmps232
  go_wp2_with fail
  generalize w.alloc (boxE x.k x.j x.v x.t x.c) = W0 at *
  have hbd : Below W0.heap.size W0 W0.drew := (Below.refl _ _).drew
  go_region_held3 (fun w' => Reads W0 w' ab gj gr w.heap.size n m x) (exact reads_step (by assumption) (by assumption)) (first | (go_at_call 263; refine (hfind _ (reads_below (by assumption))).mono ?_; rintro e w1 ⟨rfl, hb'⟩))
  all_goals
    rename_i hS
    clear hb'
    obtain ⟨hB1, y0, y1, y2⟩ := hS
    have hw1 : w.heap.size < w1.heap.size := by have := heap_lt HO.out.2.2; have := hB1.size; omega
    have O1 : Own w1 ab gj gr js rs := HO.out.1.later hB1
    have E1 : w1.heap[w.heap.size]? = some (boxE x.k x.j x.v x.t x.c) := heap_below HO.out.2.2 hB1 (heap_lt HO.out.2.2)
    have B1 : Aside (Below w.heap.size w w1) := HO.out.2.1.trans (hB1.mono HO.out.2.1.size)
    have A1 : Aside (Own w1 ab gj gr js rs ∧ w1.heap[w.heap.size]? = some (boxE x.k x.j x.v x.t x.c)) := ⟨O1, E1⟩
    have e1 : ∀ i, w1.cell? ⟨w.heap.size, i, none⟩ = #[Value.int .i64 x.k, .int .i64 x.j, .int .i64 x.v, .int .i64 x.t, .int .i64 x.c][i]? := fun i => Joins.cell_of_block E1 i
    have hrow : RowAt Jb.cells 3 w1 gj 0 js := rowAt_block Jb.three O1.jobs ⟨[], by simp⟩
    have j1 : w1.cell? ⟨gj, k * 3 + 1, none⟩ = some (.int .i64 y.e) := by have := hrow k y HX.out 1 _ rfl; rwa [Nat.zero_add] at this
    have j2 : w1.cell? ⟨gj, k * 3 + 2, none⟩ = some (.int .i64 y.n) := by have := hrow k y HX.out 2 _ rfl; rwa [Nat.zero_add] at this
    clear hrow
    clear hS0 hfind hbd hB1 O1 E1 HO y2
    go_wp2_with fail
    go_quiet (fail)
    go_wp2
    exact bodyPost_ret (v := .tuple #[]) (by simp [results, go_sem]) rfl ⟨rfl, left_same A1.out.1 B1.out _⟩
set_option maxHeartbeats 4000000 in
theorem ring_full (x : En) (ab gj gr : Nat) (js : List Jb) (rs : List Rg) (w : World) (h : Own w ab gj gr js rs) (hn : js.length ≤ 6) (k : Nat) (y : Jb) (hj : jobAt js x.j = (k : Nat)) (hx : js[k]? = some y) (hne : y.n = x.t) (hf : 60 ≤ rs.length) :
    Calls Tryz.prog 232 #[.pointer (some ⟨ab, 0, none⟩), x.val] w fun e w' => e = .returned (.tuple #[]) ∧ ∃ u1 u2, Left w w' ab [ab, gj] js rs u1 u2 := by
  have hB := grew (Below.refl w.heap.size w) (boxE x.k x.j x.v x.t x.c)
  have h' := h.later hB
  obtain ⟨n, hnn⟩ : ∃ n, Hid (js.length = n) := ⟨_, rfl⟩
  obtain ⟨m, hmm⟩ : ∃ m, Hid (rs.length = m) := ⟨_, rfl⟩
  have hS0 : Reads (w.alloc (boxE x.k x.j x.v x.t x.c)) (w.alloc (boxE x.k x.j x.v x.t x.c)) ab gj gr w.heap.size n m x := by
    refine ⟨Below.refl _ _, ?_, ?_, ?_⟩
    · rw [Joins.cell_of_block h'.head, ← hnn.out]; rfl
    · rw [Joins.cell_of_block h'.head, ← hmm.out]; rfl
    · rw [Joins.cell_of_block (heap_new _ _)]; rfl
  have hfind := fun (W : World) (hb : Below (w.alloc (boxE x.k x.j x.v x.t x.c)).heap.size (w.alloc (boxE x.k x.j x.v x.t x.c)) W) => find_any (.slice (some ⟨gj, 0, none⟩) js.length js.length) (.slice (some ⟨gr, 0, none⟩) rs.length rs.length) js x.j W (h'.sj.later hb) (by unfold most; omega)
  rw [hnn.out, hmm.out, hj] at hfind
  have HO : Aside (Own (w.alloc (boxE x.k x.j x.v x.t x.c)) ab gj gr js rs ∧ Below w.heap.size w (w.alloc (boxE x.k x.j x.v x.t x.c)) ∧ (w.alloc (boxE x.k x.j x.v x.t x.c)).heap[w.heap.size]? = some (boxE x.k x.j x.v x.t x.c)) := ⟨h', hB, heap_new _ _⟩
  have hab := heap_lt h.head
  have ne1 := h.ne1
  have ne3 := h.ne3
  have ne2 := h.ne2
  have hgj := heap_lt h.jobs
  have hgr := heap_lt h.rungs
  have hkn : k < n := by rw [← hnn.out]; exact (List.getElem?_eq_some_iff.1 hx).1
  have HX : Hid (js[k]? = some y) := hx
  have kd : decide ((k : Int) < 0) = false := by rw [decide_eq_false_iff_not]; omega
  have kk0 : (0 : Int) ≤ (k : Int) := by omega
  have kk1 : (k : Int) < (n : Int) := by omega
  have hnb : (y.n != x.t) = false := by rw [bne_eq_false_iff_eq]; exact hne
  clear hne
  rw [hmm.out] at hf
  have hfi : (60 : Int) ≤ (m : Int) := by omega
  have hfd : decide ((60 : Int) ≤ (m : Int)) = true := by rw [decide_eq_true_eq]; exact hfi
  rw [hnn.out] at hn
  clear h h' hB hj
  go_enter Tryz.func232, Tryz.ntmps232
  go_wp2_with fail
  generalize w.alloc (boxE x.k x.j x.v x.t x.c) = W0 at *
  have hbd : Below W0.heap.size W0 W0.drew := (Below.refl _ _).drew
  go_region_held3 (fun w' => Reads W0 w' ab gj gr w.heap.size n m x) (exact reads_step (by assumption) (by assumption)) (first | (go_at_call 263; refine (hfind _ (reads_below (by assumption))).mono ?_; rintro e w1 ⟨rfl, hb'⟩))
  all_goals
    rename_i hS
    clear hb'
    obtain ⟨hB1, y0, y1, y2⟩ := hS
    have hw1 : w.heap.size < w1.heap.size := by have := heap_lt HO.out.2.2; have := hB1.size; omega
    have O1 : Own w1 ab gj gr js rs := HO.out.1.later hB1
    have E1 : w1.heap[w.heap.size]? = some (boxE x.k x.j x.v x.t x.c) := heap_below HO.out.2.2 hB1 (heap_lt HO.out.2.2)
    have B1 : Aside (Below w.heap.size w w1) := HO.out.2.1.trans (hB1.mono HO.out.2.1.size)
    have A1 : Aside (Own w1 ab gj gr js rs ∧ w1.heap[w.heap.size]? = some (boxE x.k x.j x.v x.t x.c)) := ⟨O1, E1⟩
    have e1 : ∀ i, w1.cell? ⟨w.heap.size, i, none⟩ = #[Value.int .i64 x.k, .int .i64 x.j, .int .i64 x.v, .int .i64 x.t, .int .i64 x.c][i]? := fun i => Joins.cell_of_block E1 i
    have hrow : RowAt Jb.cells 3 w1 gj 0 js := rowAt_block Jb.three O1.jobs ⟨[], by simp⟩
    have j1 : w1.cell? ⟨gj, k * 3 + 1, none⟩ = some (.int .i64 y.e) := by have := hrow k y HX.out 1 _ rfl; rwa [Nat.zero_add] at this
    have j2 : w1.cell? ⟨gj, k * 3 + 2, none⟩ = some (.int .i64 y.n) := by have := hrow k y HX.out 2 _ rfl; rwa [Nat.zero_add] at this
    clear hrow
    clear hS0 hfind hbd hB1 O1 E1 HO y2
    go_wp2_with fail
    go_quiet (fail)
    go_wp2
    exact bodyPost_ret (v := .tuple #[]) (by simp [results, go_sem]) rfl ⟨rfl, left_same A1.out.1 B1.out _⟩
end Go.Proofs.YtmoaobfmopimlafGreatDoor
namespace Go.Proofs.YtmoaobfmopimlafGreatDoor
open Go.RowKit Go.Shelf
set_option maxHeartbeats 2000000 in
theorem bk_app_book (a1 a2 : Option Addr) (n1 n2 c1 c2 : Nat) (js : List Jb) (rs : List Rg) (x : En) (w : World) (h1 : JobSl w (.slice a1 n1 c1) js) (h2 : RungSl w (.slice a2 n2 c2) rs) (hbad : ckBook js rs ≠ 0) :
    Calls Tryz.prog 205 #[.agg #[.slice a1 n1 c1, .slice a2 n2 c2], x.val] w fun e w' => e = .returned (.tuple #[.agg #[nil0, nil0], .int .i64 (ckBook js rs)]) ∧ Below w.heap.size w w' := by
  have hck := fun W hb => bk_check (.slice a1 n1 c1) (.slice a2 n2 c2) js rs W (h1.later hb) (h2.later hb)
  have hb : (ckBook js rs != 0) = true := by rw [bne_iff_ne]; exact hbad
  clear h1 h2 hbad
  generalize ckBook js rs = n at *
  have hB0 := grew (grew (grew (Below.refl w.heap.size w) (boxB (.slice a1 n1 c1) (.slice a2 n2 c2))) (boxE x.k x.j x.v x.t x.c)) (boxB nil0 nil0)
  have HB0 : Aside _ := hB0
  have hck' := hck _ hB0
  have hr0 : ∀ (i : Nat), (((w.alloc (boxB (.slice a1 n1 c1) (.slice a2 n2 c2))).alloc (boxE x.k x.j x.v x.t x.c)).alloc (boxB nil0 nil0)).heap[w.heap.size + 2]? = some (boxB nil0 nil0) := fun _ => by
    have := heap_new ((w.alloc (boxB (.slice a1 n1 c1) (.slice a2 n2 c2))).alloc (boxE x.k x.j x.v x.t x.c)) (boxB nil0 nil0)
    rwa [World.size_alloc, World.size_alloc] at this
  have HR0 : Aside _ := hr0 0
  clear hck hB0 hr0
  go_enter Tryz.func205, Tryz.ntmps205
  go_wp2_with fail
  refine hck'.mono ?_
  rintro e w1 ⟨rfl, hb1⟩
  have hB1 := HB0.out.trans (hb1.mono HB0.out.size)
  have hr1 : w1.heap[w.heap.size + 2]? = some (boxB nil0 nil0) := heap_below HR0.out hb1 (heap_lt HR0.out)
  have z1 : ∀ i, w1.cell? ⟨w.heap.size + 2, i, none⟩ = #[nil0, nil0][i]? := fun i => Joins.cell_of_block hr1 i
  have f1 : ∀ i, w1.frozen? ⟨w.heap.size + 2, i, none⟩ = false := fun i => Joins.unfrozen_of_block hr1 i
  clear hb1 hck' HB0 HR0 hr1
  go_wp2
  refine bodyPost_ret (v := .tuple #[.agg #[nil0, nil0], .int .i64 n]) (by simp [results, Tryz.results205, go_sem, z1]) rfl ⟨rfl, ?_⟩
  exact (hB1.setCell (p := ⟨w.heap.size + 2, 0, none⟩) (by show w.heap.size ≤ w.heap.size + 2; omega) _).setCell (p := ⟨w.heap.size + 2, 1, none⟩) (by show w.heap.size ≤ w.heap.size + 2; omega) _
set_option maxHeartbeats 2000000 in
theorem bk_app_entry (a1 a2 : Option Addr) (n1 n2 c1 c2 : Nat) (js : List Jb) (rs : List Rg) (x : En) (w : World) (h1 : JobSl w (.slice a1 n1 c1) js) (h2 : RungSl w (.slice a2 n2 c2) rs) (hok : ckBook js rs = 0) (hbad : x.chk ≠ 0) :
    Calls Tryz.prog 205 #[.agg #[.slice a1 n1 c1, .slice a2 n2 c2], x.val] w fun e w' => e = .returned (.tuple #[.agg #[nil0, nil0], .int .i64 x.chk]) ∧ Below w.heap.size w w' := by
  have hck := fun W hb => bk_check (.slice a1 n1 c1) (.slice a2 n2 c2) js rs W (h1.later hb) (h2.later hb)
  rw [hok] at hck
  have hce : ∀ W, Calls Tryz.prog 115 #[ev x.k x.j x.v x.t x.c] W fun e w' => e = .returned (.int .i64 x.chk) ∧ Below W.heap.size W w' := fun W => check_any x.k x.j x.v x.t x.c W
  have hb : (x.chk != 0) = true := by rw [bne_iff_ne]; exact hbad
  clear h1 h2 hbad hok
  generalize x.chk = n at *
  have hB0 := grew (grew (grew (Below.refl w.heap.size w) (boxB (.slice a1 n1 c1) (.slice a2 n2 c2))) (boxE x.k x.j x.v x.t x.c)) (boxB nil0 nil0)
  have HB0 : Aside _ := hB0
  have hck' := hck _ hB0
  have hr0 : ∀ (i : Nat), (((w.alloc (boxB (.slice a1 n1 c1) (.slice a2 n2 c2))).alloc (boxE x.k x.j x.v x.t x.c)).alloc (boxB nil0 nil0)).heap[w.heap.size + 2]? = some (boxB nil0 nil0) := fun _ => by
    have := heap_new ((w.alloc (boxB (.slice a1 n1 c1) (.slice a2 n2 c2))).alloc (boxE x.k x.j x.v x.t x.c)) (boxB nil0 nil0)
    rwa [World.size_alloc, World.size_alloc] at this
  have HR0 : Aside _ := hr0 0
  clear hck hB0 hr0
  go_enter Tryz.func205, Tryz.ntmps205
  go_wp2_with fail
  refine hck'.mono ?_
  rintro e w1 ⟨rfl, hb1⟩
  have hB1 := HB0.out.trans (hb1.mono HB0.out.size)
  have hr1 : w1.heap[w.heap.size + 2]? = some (boxB nil0 nil0) := heap_below HR0.out hb1 (heap_lt HR0.out)
  have z1 : ∀ i, w1.cell? ⟨w.heap.size + 2, i, none⟩ = #[nil0, nil0][i]? := fun i => Joins.cell_of_block hr1 i
  have f1 : ∀ i, w1.frozen? ⟨w.heap.size + 2, i, none⟩ = false := fun i => Joins.unfrozen_of_block hr1 i
  have e1 : w1.heap[w.heap.size + 1]? = some (boxE x.k x.j x.v x.t x.c) := by
    rw [hb1.block _ (by simp only [World.size_alloc]; omega)]
    have := heap_new (w.alloc (boxB (.slice a1 n1 c1) (.slice a2 n2 c2))) (boxE x.k x.j x.v x.t x.c)
    rw [World.size_alloc] at this
    exact heap_old this _
  have y1 : ∀ i, w1.cell? ⟨w.heap.size + 1, i, none⟩ = #[Value.int .i64 x.k, .int .i64 x.j, .int .i64 x.v, .int .i64 x.t, .int .i64 x.c][i]? := fun i => Joins.cell_of_block e1 i
  clear hb1 hck' HB0 HR0 z1 f1
  go_wp2_with fail
  refine (hce _).mono ?_
  rintro e w2 ⟨rfl, hb2⟩
  have hB2 := hB1.trans (hb2.mono hB1.size)
  have hr2 := heap_below hr1 hb2 (heap_lt hr1)
  have z1 : ∀ i, w2.cell? ⟨w.heap.size + 2, i, none⟩ = #[nil0, nil0][i]? := fun i => Joins.cell_of_block hr2 i
  have f1 : ∀ i, w2.frozen? ⟨w.heap.size + 2, i, none⟩ = false := fun i => Joins.unfrozen_of_block hr2 i
  clear hb2 hB1 hr1 hr2 e1 y1 hce
  go_wp2
  refine bodyPost_ret (v := .tuple #[.agg #[nil0, nil0], .int .i64 n]) (by simp [results, Tryz.results205, go_sem, z1]) rfl ⟨rfl, ?_⟩
  exact (hB2.setCell (p := ⟨w.heap.size + 2, 0, none⟩) (by show w.heap.size ≤ w.heap.size + 2; omega) _).setCell (p := ⟨w.heap.size + 2, 1, none⟩) (by show w.heap.size ≤ w.heap.size + 2; omega) _
end Go.Proofs.YtmoaobfmopimlafGreatDoor
namespace Go.Proofs.YtmoaobfmopimlafGreatDoor
open Go.RowKit Go.Shelf
/-- What the region that copies reads. -/
abbrev Copies (W w : World) (b : Nat) (v1 v2 : Value) : Prop :=
  Below W.heap.size W w ∧ w.cell? ⟨b, 0, none⟩ = some v1 ∧ w.cell? ⟨b, 1, none⟩ = some v2
theorem copies_step {W w w' : World} {b : Nat} {v1 v2 : Value} (h : Copies W w b v1 v2) (hb : Below w.heap.size w w') : Copies W w' b v1 v2 :=
  ⟨h.1.trans (hb.mono h.1.size), cell_later hb h.2.1, cell_later hb h.2.2⟩
theorem copies_new {W w : World} {b : Nat} {v1 v2 : Value} {o : Obj} (h : Copies W w b v1 v2) : Copies W (w.alloc o) b v1 v2 := copies_step h (grew (Below.refl _ _) o)
theorem copies_below {W w : World} {b : Nat} {v1 v2 : Value} (h : Copies W w b v1 v2) : Below W.heap.size W w := h.1
theorem copies_set {W w : World} {b b8 o : Nat} {v1 v2 v : Value} (h : Copies W w b v1 v2) (hb8 : W.heap.size ≤ b8) (hb : b < W.heap.size) : Copies W (w.setCell ⟨b8, o, none⟩ v) b v1 v2 := by
  have hc : ∀ i, (w.setCell ⟨b8, o, none⟩ v).cell? ⟨b, i, none⟩ = w.cell? ⟨b, i, none⟩ := fun i => World.cell?_of_block (Below.heap_setCell _ _ _ _ (by show b ≠ b8; omega))
  exact ⟨h.1.setCell (p := ⟨b8, o, none⟩) hb8 _, (hc 0).trans h.2.1, (hc 1).trans h.2.2⟩
/-- What the copies' contracts give, with a new head in block b. -/
theorem copyJ_at (v : Value) (js : List Jb) (n : Nat) (w W : World) (b : Nat) (hl : js.length = n) (hn : n ≤ 1000000) (hv : JobSl w v js) (hb : Below w.heap.size w W) (hh : W.heap[b]? = some (boxB nil0 nil0)) :
    Calls Tryz.prog 228 #[v] W fun e w' => ∃ g, e = .returned (.slice (some ⟨g, 0, none⟩) n n) ∧ W.heap.size ≤ g ∧ w'.heap[g]? = some (.cells (js.flatMap Jb.cells).toArray 120) ∧ Below W.heap.size W w' ∧
      w'.heap[b]? = some (boxB nil0 nil0) ∧ (∀ i, w'.cell? ⟨b, i, none⟩ = #[nil0, nil0][i]?) ∧ (∀ i, w'.frozen? ⟨b, i, none⟩ = false) := by
  subst hl
  refine (copyJ v js W (hv.later hb) hn).mono ?_
  rintro e w' ⟨g, rfl, h1, h2, h3⟩
  have h4 := heap_below hh h3 (heap_lt hh)
  exact ⟨g, rfl, h1, h2, h3, h4, fun i => Joins.cell_of_block h4 i, fun i => Joins.unfrozen_of_block h4 i⟩
theorem copyR_at (v : Value) (rs : List Rg) (n : Nat) (w W : World) (b : Nat) (hl : rs.length = n) (hn : n ≤ 1000000) (hv : RungSl w v rs) (hb : Below w.heap.size w W) (hh : W.heap[b]? = some (boxB nil0 nil0)) :
    Calls Tryz.prog 229 #[v] W fun e w' => ∃ g, e = .returned (.slice (some ⟨g, 0, none⟩) n n) ∧ W.heap.size ≤ g ∧ w'.heap[g]? = some (.cells (rs.flatMap Rg.cells).toArray 76) ∧ Below W.heap.size W w' ∧
      w'.heap[b]? = some (boxB nil0 nil0) ∧ (∀ i, w'.cell? ⟨b, i, none⟩ = #[nil0, nil0][i]?) ∧ (∀ i, w'.frozen? ⟨b, i, none⟩ = false) := by
  subst hl
  refine (copyR v rs W (hv.later hb) hn).mono ?_
  rintro e w' ⟨g, rfl, h1, h2, h3⟩
  have h4 := heap_below hh h3 (heap_lt hh)
  exact ⟨g, rfl, h1, h2, h3, h4, fun i => Joins.cell_of_block h4 i, fun i => Joins.unfrozen_of_block h4 i⟩
/-- A head that is filled. -/
theorem head_set {w : World} {b : Nat} {o1 o2 v1 v2 : Value} (h : w.heap[b]? = some (boxB o1 o2)) : ((w.setCell ⟨b, 0, none⟩ v1).setCell ⟨b, 1, none⟩ v2).heap[b]? = some (boxB v1 v2) := by
  have e0 := Joins.block_setCell (i := 0) h v1
  rw [Joins.block_setCell (i := 1) e0 v2]
  rfl
theorem heap_set2 {w : World} {b k : Nat} {o : Obj} {v1 v2 : Value} (h : w.heap[k]? = some o) (hne : k ≠ b) : ((w.setCell ⟨b, 0, none⟩ v1).setCell ⟨b, 1, none⟩ v2).heap[k]? = some o := by
  rw [Below.heap_setCell _ _ _ _ (by exact hne), Below.heap_setCell _ _ _ _ (by exact hne)]; exact h
theorem ne_of_type {w : World} {b k : Nat} {v1 v2 : Value} {A : Array Value} {T : TypeId} (h : w.heap[b]? = some (boxB v1 v2)) (h' : w.heap[k]? = some (.cells A T)) (hT : T ≠ 39) : k ≠ b := fun e => by
  rw [e, h] at h'
  injection h' with h'
  injection h' with _ h' _
  exact hT h'.symm
/-- What put, drop and ring do, at a right book and entry. -/
structure Does (js : List Jb) (rs : List Rg) (x : En) : Prop where
  put : x.k = 1 → ∀ (W : World) (ab gj gr : Nat), Own W ab gj gr js rs → Calls Tryz.prog 230 #[.pointer (some ⟨ab, 0, none⟩), x.val] W fun e w' => e = .returned (.tuple #[]) ∧ ∃ u1 u2, Left W w' ab [ab, gj, gr] (step js rs x).1 (step js rs x).2 u1 u2
  drop : x.k = 2 → ∀ (W : World) (ab gj gr : Nat), Own W ab gj gr js rs → Calls Tryz.prog 231 #[.pointer (some ⟨ab, 0, none⟩), x.val] W fun e w' => e = .returned (.tuple #[]) ∧ ∃ u1 u2, Left W w' ab [ab, gj, gr] (step js rs x).1 (step js rs x).2 u1 u2
  ring : x.k = 3 → ∀ (W : World) (ab gj gr : Nat), Own W ab gj gr js rs → Calls Tryz.prog 232 #[.pointer (some ⟨ab, 0, none⟩), x.val] W fun e w' => e = .returned (.tuple #[]) ∧ ∃ u1 u2, Left W w' ab [ab, gj, gr] (step js rs x).1 (step js rs x).2 u1 u2
/-- Behind Apply's last store. -/
theorem app_end {w W4 w5 : World} {ab rb : Nat} {S : List Nat} {J : List Jb} {R : List Rg} {u1 u2 : Value} (hL : Left W4 w5 ab S J R u1 u2) (hB : Below w.heap.size w W4) (hrb : W4.heap[rb]? = some (boxB nil0 nil0)) (hS : ∀ k, k ∈ S → rb < k) (hw : w.heap.size ≤ rb) :
    ((w5.setCell ⟨rb, 0, none⟩ u1).setCell ⟨rb, 1, none⟩ u2).heap[rb]? = some (boxB u1 u2) ∧ JobSl ((w5.setCell ⟨rb, 0, none⟩ u1).setCell ⟨rb, 1, none⟩ u2) u1 J ∧ RungSl ((w5.setCell ⟨rb, 0, none⟩ u1).setCell ⟨rb, 1, none⟩ u2) u2 R ∧ Below w.heap.size w ((w5.setCell ⟨rb, 0, none⟩ u1).setCell ⟨rb, 1, none⟩ u2) ∧ Roomy u2 ∧ Typed 120 ((w5.setCell ⟨rb, 0, none⟩ u1).setCell ⟨rb, 1, none⟩ u2) u1 ∧ Typed 76 ((w5.setCell ⟨rb, 0, none⟩ u1).setCell ⟨rb, 1, none⟩ u2) u2 := by
  have h5 : w5.heap[rb]? = some (boxB nil0 nil0) := hL.kept.old hrb (fun e => by have := hS rb e; omega)
  obtain ⟨b1, d1, b2, d2, rfl, rfl⟩ := bk_slices hL.jobs hL.rungs
  have h6 : (w5.setCell ⟨rb, 0, none⟩ (.slice b1 J.length d1)).heap[rb]? = some (boxB (.slice b1 J.length d1) nil0) := Joins.block_setCell (i := 0) h5 _
  have hk : Below w.heap.size w w5 := hB.trans (hL.kept.to hB.size (fun k hk => by have := hS k hk; omega))
  refine ⟨head_set h5, (hL.jobs.beside Jb.ints h5 0 _).beside Jb.ints h6 1 _, (hL.rungs.beside Rg.ints h5 0 _).beside Rg.ints h6 1 _, ?_, hL.room, (hL.tj.setCell _ _ _).setCell _ _ _, (hL.tr.setCell _ _ _).setCell _ _ _⟩
  exact (hk.setCell (p := ⟨rb, 0, none⟩) hw _).setCell (p := ⟨rb, 1, none⟩) hw _
set_option maxHeartbeats 4000000 in
theorem bk_app_ok (a1 a2 : Option Addr) (n1 n2 c1 c2 : Nat) (js : List Jb) (rs : List Rg) (x : En) (w : World) (h1 : JobSl w (.slice a1 n1 c1) js) (h2 : RungSl w (.slice a2 n2 c2) rs) (hok : Ok js rs) (hx : x.chk = 0) (hD : Does js rs x) :
    Calls Tryz.prog 205 #[.agg #[.slice a1 n1 c1, .slice a2 n2 c2], x.val] w fun e w' => ∃ u1 u2, e = .returned (.tuple #[.agg #[u1, u2], .int .i64 0]) ∧ JobSl w' u1 (step js rs x).1 ∧ RungSl w' u2 (step js rs x).2 ∧ Below w.heap.size w w' ∧ Roomy u2 ∧ Typed 120 w' u1 ∧ Typed 76 w' u2 := by
  have hck := fun W hb => bk_check (.slice a1 n1 c1) (.slice a2 n2 c2) js rs W (h1.later hb) (h2.later hb)
  rw [ckBook_zero.2 hok] at hck
  have hce : ∀ W, Calls Tryz.prog 115 #[ev x.k x.j x.v x.t x.c] W fun e w' => e = .returned (.int .i64 x.chk) ∧ Below W.heap.size W w' := fun W => check_any x.k x.j x.v x.t x.c W
  rw [hx] at hce
  have HJ : Hid (JobSl w (.slice a1 n1 c1) js ∧ RungSl w (.slice a2 n2 c2) rs ∧ Ok js rs ∧ x.chk = 0) := ⟨h1, h2, hok, hx⟩
  have l1 := h1.len
  have l2 := h2.len
  have hcJ := fun (W : World) (hb : Below w.heap.size w W) => copyJ _ js W (h1.later hb) (by have := hok.few; omega)
  have hcR := fun (W : World) (hb : Below w.heap.size w W) => copyR _ rs W (h2.later hb) (by have := hok.room; omega)
  have hcJ8 := fun (W : World) (b : Nat) (hb : Below w.heap.size w W) (hh : W.heap[b]? = some (boxB nil0 nil0)) => copyJ_at _ js n1 w W b l1 (by have := hok.few; omega) h1 hb hh
  have hcR8 := fun (W : World) (b : Nat) (hb : Below w.heap.size w W) (hh : W.heap[b]? = some (boxB nil0 nil0)) => copyR_at _ rs n2 w W b l2 (by have := hok.room; omega) h2 hb hh
  rw [l1] at hcJ
  rw [l2] at hcR
  clear h1 h2 hok hx
  have hB0 := grew (grew (grew (Below.refl w.heap.size w) (boxB (.slice a1 n1 c1) (.slice a2 n2 c2))) (boxE x.k x.j x.v x.t x.c)) (boxB nil0 nil0)
  have HB0 : Aside _ := hB0
  have hck' := hck _ hB0
  have hr0 : (((w.alloc (boxB (.slice a1 n1 c1) (.slice a2 n2 c2))).alloc (boxE x.k x.j x.v x.t x.c)).alloc (boxB nil0 nil0)).heap[w.heap.size + 2]? = some (boxB nil0 nil0) := by
    have := heap_new ((w.alloc (boxB (.slice a1 n1 c1) (.slice a2 n2 c2))).alloc (boxE x.k x.j x.v x.t x.c)) (boxB nil0 nil0)
    rwa [World.size_alloc, World.size_alloc] at this
  have HR0 : Aside _ := hr0
  clear hck hB0 hr0
  go_enter Tryz.func205, Tryz.ntmps205
  go_wp2_with fail
  refine hck'.mono ?_
  rintro e w1 ⟨rfl, hb1⟩
  have hB1 := HB0.out.trans (hb1.mono HB0.out.size)
  have hr1 : w1.heap[w.heap.size + 2]? = some (boxB nil0 nil0) := heap_below HR0.out hb1 (heap_lt HR0.out)
  have e1 : w1.heap[w.heap.size + 1]? = some (boxE x.k x.j x.v x.t x.c) := by
    rw [hb1.block _ (by simp only [World.size_alloc]; omega)]
    have := heap_new (w.alloc (boxB (.slice a1 n1 c1) (.slice a2 n2 c2))) (boxE x.k x.j x.v x.t x.c)
    rw [World.size_alloc] at this
    exact heap_old this _
  have b1 : w1.heap[w.heap.size]? = some (boxB (.slice a1 n1 c1) (.slice a2 n2 c2)) := by
    rw [hb1.block _ (by simp only [World.size_alloc]; omega)]
    exact heap_old (heap_old (heap_new _ _) _) _
  have y1 : ∀ i, w1.cell? ⟨w.heap.size + 1, i, none⟩ = #[Value.int .i64 x.k, .int .i64 x.j, .int .i64 x.v, .int .i64 x.t, .int .i64 x.c][i]? := fun i => Joins.cell_of_block e1 i
  clear hb1 hck' HB0 HR0
  go_wp2_with fail
  refine (hce _).mono ?_
  rintro e w2 ⟨rfl, hb2⟩
  have hB2 := hB1.trans (hb2.mono hB1.size)
  have hr2 := heap_below hr1 hb2 (heap_lt hr1)
  have e2 := heap_below e1 hb2 (heap_lt e1)
  have b2 := heap_below b1 hb2 (heap_lt b1)
  have HW : Aside (w2.heap[w.heap.size + 2]? = some (boxB nil0 nil0) ∧ w2.heap[w.heap.size + 1]? = some (boxE x.k x.j x.v x.t x.c) ∧ Below w.heap.size w w2) := ⟨hr2, e2, hB2⟩
  have hS0 : Copies w2 w2 w.heap.size (.slice a1 n1 c1) (.slice a2 n2 c2) := ⟨Below.refl _ _, by rw [Joins.cell_of_block b2]; rfl, by rw [Joins.cell_of_block b2]; rfl⟩
  have hbd : Below w2.heap.size w2 w2.drew := (Below.refl _ _).drew
  have cJ := fun (W : World) (hb : Below w2.heap.size w2 W) => hcJ W (hB2.trans (hb.mono hB2.size))
  have cR := fun (W : World) (hb : Below w2.heap.size w2 W) => hcR W (hB2.trans (hb.mono hB2.size))
  have cJ8 := fun (W : World) (b : Nat) (hb : Below w2.heap.size w2 W) => hcJ8 W b (hB2.trans (hb.mono hB2.size))
  have cR8 := fun (W : World) (b : Nat) (hb : Below w2.heap.size w2 W) => hcR8 W b (hB2.trans (hb.mono hB2.size))
  have hws : w.heap.size < w2.heap.size := by have := heap_lt b2; omega
  clear hcJ8 hcR8
  clear hb2 hB1 hr1 hr2 e1 y1 hce b1 e2 b2 hB2 hcJ hcR
  go_wp2_with fail
  go_region_held3 (fun w' => Copies w2 w' w.heap.size (.slice a1 n1 c1) (.slice a2 n2 c2)) (first | exact copies_step (by assumption) (by assumption) | exact copies_new (by assumption) | exact copies_new (copies_step (copies_step (copies_step hS0 hbd) hbj) hbr) | exact copies_set (copies_set (by assumption) (by exact hbj.size) hws) (by exact hbj.size) hws | exact copies_set (copies_set (by assumption) (by exact Nat.le_refl _) hws) (by exact Nat.le_refl _) hws) (first | (go_at_call 228; refine (cJ8 _ w2.heap.size (copies_below (by assumption)) (by exact heap_new w2 _)).mono ?_; rintro e wj ⟨gj, rfl, hgj, hJ, hbj, h8, z8, f8⟩) | (go_at_call 228; refine (cJ _ (copies_below (by assumption))).mono ?_; rintro e wj ⟨gj, rfl, hgj, hJ, hbj⟩) | (go_at_call 229; refine (cR8 _ _ (copies_below (by assumption)) (heap_new _ _)).mono ?_; rintro e wr ⟨gr, rfl, hgr, hR, hbr, h9, z9, f9⟩) | (go_at_call 229; refine (cR8 _ _ (copies_below (by assumption)) (by assumption)).mono ?_; rintro e wr ⟨gr, rfl, hgr, hR, hbr, h9, z9, f9⟩) | (go_at_call 229; refine (cR _ (copies_below (by assumption))).mono ?_; rintro e wr ⟨gr, rfl, hgr, hR, hbr⟩))
  rename_i hHeld
  have hO : Own (wr.alloc (boxB (.slice (some ⟨gj, 0, none⟩) n1 n1) (.slice (some ⟨gr, 0, none⟩) n2 n2))) wr.heap.size gj gr js rs :=
    ⟨by rw [l1, l2]; exact heap_new _ _, heap_old (heap_below hJ hbr (heap_lt hJ)) _, heap_old hR _⟩
  have hB4 : Below w2.heap.size w2 (wr.alloc (boxB (.slice (some ⟨gj, 0, none⟩) n1 n1) (.slice (some ⟨gr, 0, none⟩) n2 n2))) := hHeld.1
  have s1 : w2.heap.size ≤ wj.heap.size := hbj.size
  have ha : w2.heap.size ≤ wr.heap.size := Nat.le_trans s1 hbr.size
  have hj : w2.heap.size ≤ gj := hgj
  have hr : w2.heap.size ≤ gr := Nat.le_trans s1 hgr
  clear hHeld hJ hR hbj hbr hgj hgr s1 cJ cR cJ8 cR8 hS0 hbd
  generalize wr.alloc (boxB (.slice (some ⟨gj, 0, none⟩) n1 n1) (.slice (some ⟨gr, 0, none⟩) n2 n2)) = W4 at *
  generalize wr.heap.size = ab at *
  clear wr wj
  rotate_left
  rename_i hHeld
  have hJ' := heap_below (heap_old hJ (boxB nil0 nil0)) hbr (by rw [World.size_alloc]; have := heap_lt hJ; omega)
  have hO : Own ((wr.setCell ⟨wj.heap.size, 0, none⟩ (.slice (some ⟨gj, 0, none⟩) n1 n1)).setCell ⟨wj.heap.size, 1, none⟩ (.slice (some ⟨gr, 0, none⟩) n2 n2)) wj.heap.size gj gr js rs :=
    ⟨by rw [l1, l2]; exact head_set h9, heap_set2 hJ' (ne_of_type h9 hJ' (by decide)), heap_set2 hR (ne_of_type h9 hR (by decide))⟩
  have hB4 : Below w2.heap.size w2 ((wr.setCell ⟨wj.heap.size, 0, none⟩ (.slice (some ⟨gj, 0, none⟩) n1 n1)).setCell ⟨wj.heap.size, 1, none⟩ (.slice (some ⟨gr, 0, none⟩) n2 n2)) := hHeld.1
  have ha : w2.heap.size ≤ wj.heap.size := hbj.size
  have hj : w2.heap.size ≤ gj := hgj
  have hr : w2.heap.size ≤ gr := by rw [World.size_alloc] at hgr; omega
  clear hHeld hJ hR hbj hbr hgj hgr hJ' h9 z9 f9 cJ cR cJ8 cR8 hS0 hbd
  generalize (wr.setCell ⟨wj.heap.size, 0, none⟩ (.slice (some ⟨gj, 0, none⟩) n1 n1)).setCell ⟨wj.heap.size, 1, none⟩ (.slice (some ⟨gr, 0, none⟩) n2 n2) = W4 at *
  generalize wj.heap.size = ab at *
  clear wr wj
  rotate_left
  rename_i hHeld
  have hJ' := heap_below hJ hbr (heap_lt hJ)
  have hO : Own ((wr.setCell ⟨w2.heap.size, 0, none⟩ (.slice (some ⟨gj, 0, none⟩) n1 n1)).setCell ⟨w2.heap.size, 1, none⟩ (.slice (some ⟨gr, 0, none⟩) n2 n2)) w2.heap.size gj gr js rs :=
    ⟨by rw [l1, l2]; exact head_set h9, heap_set2 hJ' (ne_of_type h9 hJ' (by decide)), heap_set2 hR (ne_of_type h9 hR (by decide))⟩
  have hB4 : Below w2.heap.size w2 ((wr.setCell ⟨w2.heap.size, 0, none⟩ (.slice (some ⟨gj, 0, none⟩) n1 n1)).setCell ⟨w2.heap.size, 1, none⟩ (.slice (some ⟨gr, 0, none⟩) n2 n2)) := hHeld.1
  have s1 : w2.heap.size ≤ (w2.alloc (boxB nil0 nil0)).drew.heap.size := by show w2.heap.size ≤ (w2.alloc (boxB nil0 nil0)).heap.size; rw [World.size_alloc]; omega
  have hj : w2.heap.size ≤ gj := Nat.le_trans s1 hgj
  have hr : w2.heap.size ≤ gr := Nat.le_trans (Nat.le_trans s1 hbj.size) hgr
  have ha : w2.heap.size ≤ w2.heap.size := Nat.le_refl _
  clear hHeld hJ hR hbj hbr hgj hgr hJ' h8 z8 f8 h9 z9 f9 s1 cJ cR cJ8 cR8 hS0 hbd
  generalize (wr.setCell ⟨w2.heap.size, 0, none⟩ (.slice (some ⟨gj, 0, none⟩) n1 n1)).setCell ⟨w2.heap.size, 1, none⟩ (.slice (some ⟨gr, 0, none⟩) n2 n2) = W4 at *
  obtain ⟨ab, hab⟩ : ∃ ab, ab = w2.heap.size := ⟨_, rfl⟩
  rw [← hab] at hO ⊢
  rw [show w2.heap.size ≤ w2.heap.size ↔ w2.heap.size ≤ ab by rw [hab]] at ha
  clear wr wj hab
  rotate_left
  all_goals
    have heb : W4.heap[w.heap.size + 1]? = some (boxE x.k x.j x.v x.t x.c) := heap_below HW.out.2.1 hB4 (heap_lt HW.out.2.1)
    have hrb : W4.heap[w.heap.size + 2]? = some (boxB nil0 nil0) := heap_below HW.out.1 hB4 (heap_lt HW.out.1)
    have hws2 : w.heap.size + 2 < w2.heap.size := heap_lt HW.out.1
    have hBw : Below w.heap.size w W4 := HW.out.2.2.trans (hB4.mono HW.out.2.2.size)
    have yb : ∀ i, W4.cell? ⟨w.heap.size + 1, i, none⟩ = #[Value.int .i64 x.k, .int .i64 x.j, .int .i64 x.v, .int .i64 x.t, .int .i64 x.c][i]? := fun i => Joins.cell_of_block heb i
    have AA : Aside (Own W4 ab gj gr js rs ∧ Below w.heap.size w W4 ∧ W4.heap[w.heap.size + 2]? = some (boxB nil0 nil0) ∧ (∀ k, k ∈ [ab, gj, gr] → w.heap.size + 2 < k)) := ⟨hO, hBw, hrb, fun k hk => by simp at hk; omega⟩
    have hkk := (En.right HJ.out.2.2.2).1
    clear hO hB4 ha hj hr heb hrb hBw HW
    obtain hk | hk | hk | hk : x.k = 0 ∨ x.k = 1 ∨ x.k = 2 ∨ x.k = 3 := by omega
    · have HF : Hid (step js rs x = (js, rs)) := by
        rw [Hid, step, if_neg (by omega), if_neg (by omega), if_neg (by omega)]
      have k1 : (x.k == 1) = false := by rw [hk]; rfl
      have k2 : (x.k == 2) = false := by rw [hk]; rfl
      have k3 : (x.k == 3) = false := by rw [hk]; rfl
      have hL : Left W4 W4 ab [ab, gj, gr] js rs (.slice (some ⟨gj, 0, none⟩) n1 n1) (.slice (some ⟨gr, 0, none⟩) n2 n2) := by
        have h0 := AA.out.1
        have e1 := h0.head
        have e2 := h0.sj
        have e3 := h0.sr
        rw [l1] at e1 e2
        rw [l2] at e1 e3
        exact ⟨e1, e2, e3, ⟨_, _, _, rfl, Nat.le_refl _⟩, Kept.refl _ _, h0.tj _ _, h0.tr _ _⟩
      have z5 : ∀ i, W4.cell? ⟨ab, i, none⟩ = #[Value.slice (some ⟨gj, 0, none⟩) n1 n1, .slice (some ⟨gr, 0, none⟩) n2 n2][i]? := fun i => Joins.cell_of_block hL.head i
      have r5 : ∀ i, W4.cell? ⟨w.heap.size + 2, i, none⟩ = #[nil0, nil0][i]? := fun i => Joins.cell_of_block AA.out.2.2.1 i
      have f5 : ∀ i, W4.frozen? ⟨w.heap.size + 2, i, none⟩ = false := fun i => Joins.unfrozen_of_block AA.out.2.2.1 i
      obtain ⟨q1, q2, q3, q4, q5⟩ := app_end hL AA.out.2.1 AA.out.2.2.1 AA.out.2.2.2 (by omega)
      have QQ : Aside (_ ∧ _ ∧ _ ∧ _ ∧ _) := ⟨q1, q2, q3, q4, q5⟩
      clear hL q1 q2 q3 q4 q5 hD hk hkk
      go_wp2
      rw [HF.out]
      exact ret_book Tryz.results205 rfl rfl rfl QQ.out.1 ⟨_, _, rfl, QQ.out.2.1, QQ.out.2.2.1, QQ.out.2.2.2.1, QQ.out.2.2.2.2⟩
    · have hL0 := hD.put hk W4 ab gj gr AA.out.1
      have k1 : (x.k == 1) = true := by rw [hk]; rfl
      clear hD hk hkk
      go_wp2_with fail
      refine hL0.mono ?_
      rintro e w5 ⟨rfl, u1, u2, hL⟩
      have z5 : ∀ i, w5.cell? ⟨ab, i, none⟩ = #[u1, u2][i]? := fun i => Joins.cell_of_block hL.head i
      have h5 : w5.heap[w.heap.size + 2]? = some (boxB nil0 nil0) := hL.kept.old AA.out.2.2.1 (fun e => by have := AA.out.2.2.2 _ e; omega)
      have r5 : ∀ i, w5.cell? ⟨w.heap.size + 2, i, none⟩ = #[nil0, nil0][i]? := fun i => Joins.cell_of_block h5 i
      have f5 : ∀ i, w5.frozen? ⟨w.heap.size + 2, i, none⟩ = false := fun i => Joins.unfrozen_of_block h5 i
      have QQ : Aside _ := app_end hL AA.out.2.1 AA.out.2.2.1 AA.out.2.2.2 (by omega)
      obtain ⟨b1, d1, b2, d2, rfl, rfl⟩ := bk_slices hL.jobs hL.rungs
      clear hL hL0 h5 yb
      generalize (step js rs x).1.length = m1 at *
      generalize (step js rs x).2.length = m2 at *
      go_wp2
      exact ret_book Tryz.results205 rfl rfl rfl QQ.out.1 ⟨_, _, rfl, QQ.out.2.1, QQ.out.2.2.1, QQ.out.2.2.2.1, QQ.out.2.2.2.2⟩
    · have hL0 := hD.drop hk W4 ab gj gr AA.out.1
      have k1 : (x.k == 1) = false := by rw [hk]; rfl
      have k2 : (x.k == 2) = true := by rw [hk]; rfl
      clear hD hk hkk
      go_wp2_with fail
      refine hL0.mono ?_
      rintro e w5 ⟨rfl, u1, u2, hL⟩
      have z5 : ∀ i, w5.cell? ⟨ab, i, none⟩ = #[u1, u2][i]? := fun i => Joins.cell_of_block hL.head i
      have h5 : w5.heap[w.heap.size + 2]? = some (boxB nil0 nil0) := hL.kept.old AA.out.2.2.1 (fun e => by have := AA.out.2.2.2 _ e; omega)
      have r5 : ∀ i, w5.cell? ⟨w.heap.size + 2, i, none⟩ = #[nil0, nil0][i]? := fun i => Joins.cell_of_block h5 i
      have f5 : ∀ i, w5.frozen? ⟨w.heap.size + 2, i, none⟩ = false := fun i => Joins.unfrozen_of_block h5 i
      have QQ : Aside _ := app_end hL AA.out.2.1 AA.out.2.2.1 AA.out.2.2.2 (by omega)
      obtain ⟨b1, d1, b2, d2, rfl, rfl⟩ := bk_slices hL.jobs hL.rungs
      clear hL hL0 h5 yb
      generalize (step js rs x).1.length = m1 at *
      generalize (step js rs x).2.length = m2 at *
      go_wp2
      exact ret_book Tryz.results205 rfl rfl rfl QQ.out.1 ⟨_, _, rfl, QQ.out.2.1, QQ.out.2.2.1, QQ.out.2.2.2.1, QQ.out.2.2.2.2⟩
    · have hL0 := hD.ring hk W4 ab gj gr AA.out.1
      have k1 : (x.k == 1) = false := by rw [hk]; rfl
      have k2 : (x.k == 2) = false := by rw [hk]; rfl
      have k3 : (x.k == 3) = true := by rw [hk]; rfl
      clear hD hk hkk
      go_wp2_with fail
      refine hL0.mono ?_
      rintro e w5 ⟨rfl, u1, u2, hL⟩
      have z5 : ∀ i, w5.cell? ⟨ab, i, none⟩ = #[u1, u2][i]? := fun i => Joins.cell_of_block hL.head i
      have h5 : w5.heap[w.heap.size + 2]? = some (boxB nil0 nil0) := hL.kept.old AA.out.2.2.1 (fun e => by have := AA.out.2.2.2 _ e; omega)
      have r5 : ∀ i, w5.cell? ⟨w.heap.size + 2, i, none⟩ = #[nil0, nil0][i]? := fun i => Joins.cell_of_block h5 i
      have f5 : ∀ i, w5.frozen? ⟨w.heap.size + 2, i, none⟩ = false := fun i => Joins.unfrozen_of_block h5 i
      have QQ : Aside _ := app_end hL AA.out.2.1 AA.out.2.2.1 AA.out.2.2.2 (by omega)
      obtain ⟨b1, d1, b2, d2, rfl, rfl⟩ := bk_slices hL.jobs hL.rungs
      clear hL hL0 h5 yb
      generalize (step js rs x).1.length = m1 at *
      generalize (step js rs x).2.length = m2 at *
      go_wp2
      exact ret_book Tryz.results205 rfl rfl rfl QQ.out.1 ⟨_, _, rfl, QQ.out.2.1, QQ.out.2.2.1, QQ.out.2.2.2.1, QQ.out.2.2.2.2⟩
end Go.Proofs.YtmoaobfmopimlafGreatDoor
namespace Go.Proofs.YtmoaobfmopimlafGreatDoor
open Go.RowKit Go.Shelf
set_option linter.unusedSimpArgs false in
set_option maxHeartbeats 4000000 in
/-- put, where the job isn't there. -/
theorem put_mid (x : En) (ab gj gr : Nat) (js : List Jb) (rs : List Rg) (w : World) (h : Own w ab gj gr js rs) (hn : js.length ≤ 6) (hj : jobAt js x.j = -1) (hr : 0 ≤ idx (fun y => decide (x.j < y.i)) js) :
    Calls Tryz.prog 230 #[.pointer (some ⟨ab, 0, none⟩), x.val] w fun e w' => e = .returned (.tuple #[]) ∧ ∃ u1 u2, Left w w' ab [ab, gj] (js.take (place js x.j) ++ ⟨x.j, x.v, x.t⟩ :: js.drop (place js x.j)) rs u1 u2 := by
  have hB := grew (Below.refl w.heap.size w) (boxE x.k x.j x.v x.t x.c)
  have h' := h.later hB
  have hpl := place_le js x.j
  have hpd : Hid (place js x.j = if idx (fun y => decide (x.j < y.i)) js < 0 then js.length else (idx (fun y => decide (x.j < y.i)) js).toNat) := rfl
  obtain ⟨n, hnn⟩ : ∃ n, Hid (js.length = n) := ⟨_, rfl⟩
  obtain ⟨m, hmm⟩ : ∃ m, Hid (rs.length = m) := ⟨_, rfl⟩
  have hS0 : Reads (w.alloc (boxE x.k x.j x.v x.t x.c)) (w.alloc (boxE x.k x.j x.v x.t x.c)) ab gj gr w.heap.size n m x := by
    refine ⟨Below.refl _ _, ?_, ?_, ?_⟩
    · rw [Joins.cell_of_block h'.head, ← hnn.out]; rfl
    · rw [Joins.cell_of_block h'.head, ← hmm.out]; rfl
    · rw [Joins.cell_of_block (heap_new _ _)]; rfl
  have hfind := fun (W : World) (hb : Below (w.alloc (boxE x.k x.j x.v x.t x.c)).heap.size (w.alloc (boxE x.k x.j x.v x.t x.c)) W) => find_any (.slice (some ⟨gj, 0, none⟩) js.length js.length) (.slice (some ⟨gr, 0, none⟩) rs.length rs.length) js x.j W (h'.sj.later hb) (by unfold most; omega)
  rw [hnn.out, hmm.out, hj] at hfind
  have eg : ∀ args w, (callFunc 264 args).run Tryz.prog w = .ok (.enter 264 args) w := enters_of Tryz.func264 (by kernel_rfl) rfl
  have hix : ∀ (W : World), Own W ab gj gr js rs → W.heap[w.heap.size]? = some (boxE x.k x.j x.v x.t x.c) → _ := fun W hO hE => idxFJ (fun y => decide (x.j < y.i)) 264 #[.pointer (some ⟨w.heap.size, 0, none⟩)] eg _ js W hO.sj (by unfold most; omega) (fun W' y hb => (put_pred x w.heap.size W' y (heap_below hE hb (heap_lt hE))).mono fun e w' ⟨h1, h2⟩ => ⟨h1, hb.trans (h2.mono hb.size)⟩)
  rw [hnn.out] at hix
  rw [hnn.out] at hpl hpd
  obtain ⟨p, hpp⟩ : ∃ p, Hid (place js x.j = p) := ⟨_, rfl⟩
  rw [hpp.out] at hpl hpd ⊢
  obtain ⟨J', hJ'⟩ : ∃ J', Hid (js.take p ++ ⟨x.j, x.v, x.t⟩ :: js.drop p = J') := ⟨_, rfl⟩
  rw [hJ'.out]
  have hins := fun (W : World) (vb : Nat) (hO : Own W ab gj gr js rs) (hb : Below w.heap.size w W) (hE : W.heap[w.heap.size]? = some (boxE x.k x.j x.v x.t x.c)) hv => ins_left ⟨x.j, x.v, x.t⟩ x w.heap.size ab gj gr vb p n m js J' rs w W hnn.out hmm.out hpl (by rw [← hnn.out]; exact hn) hJ'.out hO hb hE (by have := heap_lt h.jobs; omega) hv
  have HO : Aside (Own (w.alloc (boxE x.k x.j x.v x.t x.c)) ab gj gr js rs ∧ Below w.heap.size w (w.alloc (boxE x.k x.j x.v x.t x.c)) ∧ (w.alloc (boxE x.k x.j x.v x.t x.c)).heap[w.heap.size]? = some (boxE x.k x.j x.v x.t x.c)) := ⟨h', hB, heap_new _ _⟩
  have hab := heap_lt h.head
  have ne1 := h.ne1
  have ne3 := h.ne3
  have ne2 := h.ne2
  have hgj := heap_lt h.jobs
  have HI : Aside _ := hix
  have HN : Aside _ := hins
  clear h h' hB hj hix hins
  go_enter Tryz.func230, Tryz.ntmps230
  go_wp2_with fail
  generalize w.alloc (boxE x.k x.j x.v x.t x.c) = W0 at *
  have hbd : Below W0.heap.size W0 W0.drew := (Below.refl _ _).drew
  go_region_held3 (fun w' => Reads W0 w' ab gj gr w.heap.size n m x) (exact reads_step (by assumption) (by assumption)) (first | (go_at_call 263; refine (hfind _ (reads_below (by assumption))).mono ?_; rintro e w1 ⟨rfl, hb'⟩))
  all_goals
    rename_i hS
    clear hb'
    obtain ⟨hB1, y0, y1, y2⟩ := hS
    have hw1 : w.heap.size < w1.heap.size := by have := heap_lt HO.out.2.2; have := hB1.size; omega
    have O1 : Own w1 ab gj gr js rs := HO.out.1.later hB1
    have E1 : w1.heap[w.heap.size]? = some (boxE x.k x.j x.v x.t x.c) := heap_below HO.out.2.2 hB1 (heap_lt HO.out.2.2)
    have B1 : Aside (Below w.heap.size w w1) := HO.out.2.1.trans (hB1.mono HO.out.2.1.size)
    have hix := HI.out w1 O1 E1
    have A1 : Aside (Own w1 ab gj gr js rs ∧ w1.heap[w.heap.size]? = some (boxE x.k x.j x.v x.t x.c)) := ⟨O1, E1⟩
    clear hS0 hfind hbd hB1 O1 E1 HI HO y2
    generalize idx (fun y => decide (x.j < y.i)) js = r at *
    have HR0 : Hid (r = (p : Nat)) := by
      have h0 := hpd.out
      rw [if_neg (by omega)] at h0
      rw [Hid]; omega
    clear hpd
    go_wp2_with fail
    refine hix.mono ?_
    rintro e w2 ⟨rfl, hb2⟩
    have O2 : Own w2 ab gj gr js rs := A1.out.1.later hb2
    have E2 : w2.heap[w.heap.size]? = some (boxE x.k x.j x.v x.t x.c) := heap_below A1.out.2 hb2 (heap_lt A1.out.2)
    have B2 : Aside (Below w.heap.size w w2) := B1.out.trans (hb2.mono B1.out.size)
    have A2 : Aside (Own w2 ab gj gr js rs ∧ w2.heap[w.heap.size]? = some (boxE x.k x.j x.v x.t x.c)) := ⟨O2, E2⟩
    have hw2 : w.heap.size < w2.heap.size := by have := hb2.size; omega
    have z0 : w2.cell? ⟨ab, 0, none⟩ = some (.slice (some ⟨gj, 0, none⟩) n n) := by rw [Joins.cell_of_block O2.head, ← hnn.out]; rfl
    have e0 : ∀ i, w2.cell? ⟨w.heap.size, i, none⟩ = #[Value.int .i64 x.k, .int .i64 x.j, .int .i64 x.v, .int .i64 x.t, .int .i64 x.c][i]? := fun i => Joins.cell_of_block E2 i
    clear hix hb2 O2 E2 A1 B1 y0 y1
    have hOa : Aside (∀ o, Own (w2.alloc o).drew ab gj gr js rs) := fun o => A2.out.1.later (grew (Below.refl _ _) _).drew
    have hBa : Aside (∀ o, Below w.heap.size w (w2.alloc o).drew) := fun o => (grew B2.out _).drew
    have hEa : Aside (∀ o, (w2.alloc o).drew.heap[w.heap.size]? = some (boxE x.k x.j x.v x.t x.c)) := fun o => heap_old A2.out.2 _
    have hS0 : PutS w2 w.heap.size x := putS_of A2.out.2
    have hbd : Below w2.heap.size w2 w2.drew := (Below.refl _ _).drew
    have q0 : ab < w2.heap.size := by omega
    have q1 : ab ≠ w2.heap.size := by omega
    have q2 : ab ≠ w.heap.size := by omega
    obtain rfl := HR0.out
    go_wp2_with fail
    refine wp_region_noPanic ?_
    refine region_L (fun w' => w'.cell? ⟨ab, 0, none⟩ = some (.slice (some ⟨gj, 0, none⟩) n n) ∧ PutS w' w.heap.size x) 17 (by kernel_rfl) (⟨z0, hS0⟩) (fun hHeld => ?_)
    refine anyL_take (i := 0) (v := ?_) rfl (by kernel_rfl) (by kernel_rfl) (by kernel_rfl) (by kernel_rfl) (by kernel_rfl) (fun _ _ _ h => h) (Or.inl ⟨by rfl, ?_⟩) (by assumption) ?_
    rotate_left
    · (intro w0 hSw; (try dsimp only at hSw); go_simp; first | done | with_reducible rfl)
    try simp only [Act.put, List.setIfInBounds_toArray, List.set_cons_zero, List.set_cons_succ]
    refine anyL_take (i := 1) (v := ?_) rfl (by kernel_rfl) (by kernel_rfl) (by kernel_rfl) (by kernel_rfl) (by kernel_rfl) (fun _ _ _ h => h) (Or.inl ⟨by rfl, ?_⟩) (by assumption) ?_
    rotate_left
    · (intro w0 hSw; (try dsimp only at hSw); go_simp; first | done | with_reducible rfl)
    try simp only [Act.put, List.setIfInBounds_toArray, List.set_cons_zero, List.set_cons_succ]
    refine anyL_take (i := 2) (v := ?_) rfl (by kernel_rfl) (by kernel_rfl) (by kernel_rfl) (by kernel_rfl) (by kernel_rfl) (fun _ _ _ h => h) (Or.inl ⟨by rfl, ?_⟩) (by assumption) ?_
    rotate_left
    · (intro w0 hSw; (try dsimp only at hSw); go_simp; first | done | with_reducible rfl)
    try simp only [Act.put, List.setIfInBounds_toArray, List.set_cons_zero, List.set_cons_succ]
    refine anyL_take (i := 3) (v := ?_) rfl (by kernel_rfl) (by kernel_rfl) (by kernel_rfl) (by kernel_rfl) (by kernel_rfl) (fun _ _ _ h => h) (Or.inl ⟨by rfl, ?_⟩) (by assumption) ?_
    rotate_left
    · (intro w0 hSw; (try dsimp only at hSw); go_simp; first | done | with_reducible rfl)
    try simp only [Act.put, List.setIfInBounds_toArray, List.set_cons_zero, List.set_cons_succ]
    refine anyL_take (i := 4) (v := ?_) rfl (by kernel_rfl) (by kernel_rfl) (by kernel_rfl) (by kernel_rfl) (by kernel_rfl) (fun _ _ _ h => h) (Or.inl ⟨by rfl, ?_⟩) (by assumption) ?_
    rotate_left
    · (intro w0 hSw; (try dsimp only at hSw); go_simp; first | done | with_reducible rfl)
    try simp only [Act.put, List.setIfInBounds_toArray, List.set_cons_zero, List.set_cons_succ]
    refine anyL_take (i := 5) (v := ?_) rfl (by kernel_rfl) (by kernel_rfl) (by kernel_rfl) (by kernel_rfl) (by kernel_rfl) (fun _ _ _ h => h) (Or.inl ⟨by rfl, ?_⟩) (by assumption) ?_
    rotate_left
    · (intro w0 hSw; (try dsimp only at hSw); go_simp; first | done | with_reducible rfl)
    try simp only [Act.put, List.setIfInBounds_toArray, List.set_cons_zero, List.set_cons_succ]
    refine anyL_take (i := 6) (v := ?_) rfl (by kernel_rfl) (by kernel_rfl) (by kernel_rfl) (by kernel_rfl) (by kernel_rfl) (fun _ _ _ h => h) (Or.inl ⟨by rfl, ?_⟩) (by assumption) ?_
    rotate_left
    · (intro w0 hSw; (try dsimp only at hSw); go_simp; first | done | with_reducible rfl)
    try simp only [Act.put, List.setIfInBounds_toArray, List.set_cons_zero, List.set_cons_succ]
    refine anyL_take (i := 7) (v := ?_) rfl (by kernel_rfl) (by kernel_rfl) (by kernel_rfl) (by kernel_rfl) (by kernel_rfl) (fun _ _ _ h => h) (Or.inl ⟨by rfl, ?_⟩) (by assumption) ?_
    rotate_left
    · (intro w0 hSw; (try dsimp only at hSw); go_simp; first | done | with_reducible rfl)
    try simp only [Act.put, List.setIfInBounds_toArray, List.set_cons_zero, List.set_cons_succ]
    refine anyL_take (i := 8) (v := ?_) rfl (by kernel_rfl) (by kernel_rfl) (by kernel_rfl) (by kernel_rfl) (by kernel_rfl) (fun _ _ _ h => h) (Or.inl ⟨by rfl, ?_⟩) (by assumption) ?_
    rotate_left
    · (intro w0 hSw; (try dsimp only at hSw); go_simp; first | done | with_reducible rfl)
    try simp only [Act.put, List.setIfInBounds_toArray, List.set_cons_zero, List.set_cons_succ]
    refine anyL_take (i := 9) (v := ?_) rfl (by kernel_rfl) (by kernel_rfl) (by kernel_rfl) (by kernel_rfl) (by kernel_rfl) (fun _ _ _ h => h) (Or.inl ⟨by rfl, ?_⟩) (by assumption) ?_
    rotate_left
    · (intro w0 hSw; (try dsimp only at hSw); go_simp; first | done | with_reducible rfl)
    try simp only [Act.put, List.setIfInBounds_toArray, List.set_cons_zero, List.set_cons_succ]
    refine anyL_take (i := 10) (v := ?_) rfl (by kernel_rfl) (by kernel_rfl) (by kernel_rfl) (by kernel_rfl) (by kernel_rfl) (fun _ _ _ h => h) (Or.inl ⟨by rfl, ?_⟩) (by assumption) ?_
    rotate_left
    · (intro w0 hSw; (try dsimp only at hSw); go_simp; first | done | with_reducible rfl)
    try simp only [Act.put, List.setIfInBounds_toArray, List.set_cons_zero, List.set_cons_succ]
    refine anyL_take (i := 11) (v := ?_) rfl (by kernel_rfl) (by kernel_rfl) (by kernel_rfl) (by kernel_rfl) (by kernel_rfl) (fun _ _ _ h => h) (Or.inl ⟨by rfl, ?_⟩) (by assumption) ?_
    rotate_left
    · (intro w0 hSw; (try dsimp only at hSw); go_simp; first | done | with_reducible rfl)
    try simp only [Act.put, List.setIfInBounds_toArray, List.set_cons_zero, List.set_cons_succ]
    refine anyL_take (i := 12) (v := ?_) rfl (by kernel_rfl) (by kernel_rfl) (by kernel_rfl) (by kernel_rfl) (by kernel_rfl) (fun _ _ _ h => h) (Or.inl ⟨by rfl, ?_⟩) (by assumption) ?_
    rotate_left
    · (intro w0 hSw; (try dsimp only at hSw); go_simp; first | done | with_reducible rfl)
    try simp only [Act.put, List.setIfInBounds_toArray, List.set_cons_zero, List.set_cons_succ]
    refine anyL_one (i := 13) (by kernel_rfl) rfl (fun K hK => ?_)
    go_simp
    refine hK.out _ _ (fun _ => ⟨cell_later (grew (Below.refl _ _) _) hHeld.1, putS_new hHeld.2⟩) (fun hNext => ?_)
    replace hNext := hNext (by kernel_rfl)
    clear hK K hHeld
    try simp only [Act.put, List.setIfInBounds_toArray, List.set_cons_zero, List.set_cons_succ]
    refine anyL_one (i := 14) (by kernel_rfl) rfl (fun K hK => ?_)
    go_simp
    refine (HN.out _ _ (hOa.out _) (hBa.out _) (hEa.out _) (heap_new w2 _)).mono ?_
    rintro e w3 ⟨a3, c3, rfl, z3, f3, p3, AA⟩
    refine hK.out _ _ (fun _ => ⟨by rw [z3]; rfl, p3⟩) (fun hNext => ?_)
    replace hNext := hNext (by kernel_rfl)
    clear hK K 
    try simp only [Act.put, List.setIfInBounds_toArray, List.set_cons_zero, List.set_cons_succ]
    refine anyL_one (i := 15) (by kernel_rfl) rfl (fun K hK => ?_)
    go_simp
    refine hK.out _ _ (fun _ => hNext) (fun _ => ?_)
    clear hK K
    try simp only [Act.put, List.setIfInBounds_toArray, List.set_cons_zero, List.set_cons_succ]
    refine anyL_one (i := 16) (by kernel_rfl) rfl (fun K hK => ?_)
    go_simp
    refine hK.out _ _ (fun _ => hNext) (fun _ => ?_)
    clear hK K
    try simp only [Act.put, List.setIfInBounds_toArray, List.set_cons_zero, List.set_cons_succ]
    refine anyL_one (i := 17) (by kernel_rfl) rfl (fun K hK => ?_)
    go_simp
    refine hK.out _ _ (fun h => absurd h (by decide +kernel)) (fun _ => ?_)
    clear hK K
    refine anyL_done (by kernel_rfl) ?_ _
    refine NoPanic.normal ?_
    try simp only [Act.put, List.setIfInBounds_toArray, List.set_cons_zero, List.set_cons_succ]
    go_wp2
    exact bodyPost_end (v := .tuple #[]) (by simp [results, go_sem]) rfl ⟨rfl, _, _, put_left ne2 AA.out⟩
end Go.Proofs.YtmoaobfmopimlafGreatDoor
