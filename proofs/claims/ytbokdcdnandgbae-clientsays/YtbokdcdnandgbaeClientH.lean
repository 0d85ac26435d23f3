/- The reference's Ringing. -/
import Derived.Test.YtbokdcdnandgbaeClientE
import Derived.Test.YtbokdcdnandgbaeClientU
import Derived.Test.YtbokdcdnandgbaeLast
import Derived.Deep.CutBlock
namespace Go.Proofs.Ytbokdcdnandgbae
open Go.RowKit

set_option linter.unusedSimpArgs false in
set_option maxHeartbeats 4000000 in
set_option maxRecDepth 100000 in
theorem rn_ck (c : Cl) (a1 a2 : Option Addr) (m1 k1 m2 k2 : Nat) (me j t : Int) (w : World) (hb : BkAt w (.slice a1 m1 k1) (.slice a2 m2 k2) c) (d : Int) (hck : c.ck = d) (hz : (d != 0) = true) :
    AnsX 20 #[c.val (.slice a1 m1 k1) (.slice a2 m2 k2), .int .i64 me, .int .i64 j, .int .i64 t] w (Cl.zero, d) nil0 nil0 := by
  have HB0 : Aside (Below w.heap.size w ((w.alloc (boxC c (.slice a1 m1 k1) (.slice a2 m2 k2))).alloc (boxC Cl.zero nil0 nil0))) := grew (grew (Below.refl _ _) _) _
  have HX0 : Aside (((w.alloc (boxC c (.slice a1 m1 k1) (.slice a2 m2 k2))).alloc (boxC Cl.zero nil0 nil0)).heap[w.heap.size]? = some (boxC c (.slice a1 m1 k1) (.slice a2 m2 k2))) := heap_old (heap_new _ _) _
  have HR0 : Aside (((w.alloc (boxC c (.slice a1 m1 k1) (.slice a2 m2 k2))).alloc (boxC Cl.zero nil0 nil0)).heap[w.heap.size + 1]? = some (boxC Cl.zero nil0 nil0)) := by
    have := heap_new (w.alloc (boxC c (.slice a1 m1 k1) (.slice a2 m2 k2))) (boxC Cl.zero nil0 nil0)
    rw [World.size_alloc] at this
    exact this
  have kc := ref_ckClient c (.slice a1 m1 k1) (.slice a2 m2 k2) _ (bkAt_later hb HB0.out)
  rw [hck] at kc
  have HK : Aside (BkAt w (.slice a1 m1 k1) (.slice a2 m2 k2) c) := hb
  clear hb hck
  go_enter Try.func20, Try.ntmps20
  go_wp2_with fail
  refine kc.mono ?_
  rintro r w1 ⟨rfl, hb1⟩
  have HX1 : Aside _ := heap_below HX0.out hb1 (heap_lt HX0.out)
  have HR1 : Aside _ := heap_below HR0.out hb1 (heap_lt HR0.out)
  have HB1 : Aside (Below w.heap.size w w1) := step_below HB0.out hb1
  clear hb1 HB0 HX0 HR0
  clear kc
  have zr : ∀ i, w1.cell? ⟨w.heap.size + 1, i, none⟩ = #[Value.int .i64 0, .int .i64 0, .int .i64 0, .int .i64 0, .int .i64 0, .int .i64 0, .int .i64 0, .int .i64 0, .int .i64 0, .int .i64 0, .slice none 0 0, .slice none 0 0][i]? := fun i => Joins.cell_of_block HR1.out i
  have fzr : ∀ i, w1.frozen? ⟨w.heap.size + 1, i, none⟩ = false := fun i => Joins.unfrozen_of_block HR1.out i
  go_wp2
  refine ret_st (p := 8) (q := 9) w1 (w.heap.size + 1) (Cl.zero) nil0 nil0 (o := Cl.zero) (u1 := nil0) (u2 := nil0) Try.results20 rfl rfl rfl HR1.out rfl ?_
  exact ⟨rfl, st12_below HB1.out (by omega) _ _ _⟩

set_option linter.unusedSimpArgs false in
set_option maxHeartbeats 4000000 in
set_option maxRecDepth 100000 in
theorem rn_late (c : Cl) (a1 a2 : Option Addr) (m1 k1 m2 k2 : Nat) (me j t : Int) (w : World) (hb : BkAt w (.slice a1 m1 k1) (.slice a2 m2 k2) c) (hck : c.ck = 0) (hd : (c.d != 0) = true) :
    AnsX 20 #[c.val (.slice a1 m1 k1) (.slice a2 m2 k2), .int .i64 me, .int .i64 j, .int .i64 t] w (Cl.zero, 7) nil0 nil0 := by
  have HB0 : Aside (Below w.heap.size w ((w.alloc (boxC c (.slice a1 m1 k1) (.slice a2 m2 k2))).alloc (boxC Cl.zero nil0 nil0))) := grew (grew (Below.refl _ _) _) _
  have HX0 : Aside (((w.alloc (boxC c (.slice a1 m1 k1) (.slice a2 m2 k2))).alloc (boxC Cl.zero nil0 nil0)).heap[w.heap.size]? = some (boxC c (.slice a1 m1 k1) (.slice a2 m2 k2))) := heap_old (heap_new _ _) _
  have HR0 : Aside (((w.alloc (boxC c (.slice a1 m1 k1) (.slice a2 m2 k2))).alloc (boxC Cl.zero nil0 nil0)).heap[w.heap.size + 1]? = some (boxC Cl.zero nil0 nil0)) := by
    have := heap_new (w.alloc (boxC c (.slice a1 m1 k1) (.slice a2 m2 k2))) (boxC Cl.zero nil0 nil0)
    rw [World.size_alloc] at this
    exact this
  have kc := ref_ckClient c (.slice a1 m1 k1) (.slice a2 m2 k2) _ (bkAt_later hb HB0.out)
  rw [hck] at kc
  have HK : Aside (BkAt w (.slice a1 m1 k1) (.slice a2 m2 k2) c) := hb
  clear hb hck
  go_enter Try.func20, Try.ntmps20
  go_wp2_with fail
  refine kc.mono ?_
  rintro r w1 ⟨rfl, hb1⟩
  have HX1 : Aside _ := heap_below HX0.out hb1 (heap_lt HX0.out)
  have HR1 : Aside _ := heap_below HR0.out hb1 (heap_lt HR0.out)
  have HB1 : Aside (Below w.heap.size w w1) := step_below HB0.out hb1
  clear hb1 HB0 HX0 HR0
  clear kc
  have z : ∀ i, w1.cell? ⟨w.heap.size, i, none⟩ = #[Value.int .i64 c.p, .int .i64 c.d, .int .i64 c.e.k, .int .i64 c.e.j, .int .i64 c.e.v, .int .i64 c.e.t, .int .i64 c.e.c, .int .i64 c.a, .int .i64 c.l, .int .i64 c.n, .slice a1 m1 k1, .slice a2 m2 k2][i]? := fun i => Joins.cell_of_block HX1.out i
  have zr : ∀ i, w1.cell? ⟨w.heap.size + 1, i, none⟩ = #[Value.int .i64 0, .int .i64 0, .int .i64 0, .int .i64 0, .int .i64 0, .int .i64 0, .int .i64 0, .int .i64 0, .int .i64 0, .int .i64 0, .slice none 0 0, .slice none 0 0][i]? := fun i => Joins.cell_of_block HR1.out i
  have fzr : ∀ i, w1.frozen? ⟨w.heap.size + 1, i, none⟩ = false := fun i => Joins.unfrozen_of_block HR1.out i
  go_wp2
  refine ret_st (p := 8) (q := 9) w1 (w.heap.size + 1) (Cl.zero) nil0 nil0 (o := Cl.zero) (u1 := nil0) (u2 := nil0) Try.results20 rfl rfl rfl HR1.out rfl ?_
  exact ⟨rfl, st12_below HB1.out (by omega) _ _ _⟩

set_option linter.unusedSimpArgs false in
set_option maxHeartbeats 4000000 in
set_option maxRecDepth 100000 in
theorem rn_rng (c : Cl) (a1 a2 : Option Addr) (m1 k1 m2 k2 : Nat) (me j t : Int) (w : World) (hb : BkAt w (.slice a1 m1 k1) (.slice a2 m2 k2) c) (hck : c.ck = 0) (hd : (c.d != 0) = false) (h0 : ¬ (0 ≤ t ∧ t ≤ 100000)) :
    AnsX 20 #[c.val (.slice a1 m1 k1) (.slice a2 m2 k2), .int .i64 me, .int .i64 j, .int .i64 t] w (Cl.zero, 3) nil0 nil0 := by
  have HB0 : Aside (Below w.heap.size w ((w.alloc (boxC c (.slice a1 m1 k1) (.slice a2 m2 k2))).alloc (boxC Cl.zero nil0 nil0))) := grew (grew (Below.refl _ _) _) _
  have HX0 : Aside (((w.alloc (boxC c (.slice a1 m1 k1) (.slice a2 m2 k2))).alloc (boxC Cl.zero nil0 nil0)).heap[w.heap.size]? = some (boxC c (.slice a1 m1 k1) (.slice a2 m2 k2))) := heap_old (heap_new _ _) _
  have HR0 : Aside (((w.alloc (boxC c (.slice a1 m1 k1) (.slice a2 m2 k2))).alloc (boxC Cl.zero nil0 nil0)).heap[w.heap.size + 1]? = some (boxC Cl.zero nil0 nil0)) := by
    have := heap_new (w.alloc (boxC c (.slice a1 m1 k1) (.slice a2 m2 k2))) (boxC Cl.zero nil0 nil0)
    rw [World.size_alloc] at this
    exact this
  have kc := ref_ckClient c (.slice a1 m1 k1) (.slice a2 m2 k2) _ (bkAt_later hb HB0.out)
  rw [hck] at kc
  have HK : Aside (BkAt w (.slice a1 m1 k1) (.slice a2 m2 k2) c) := hb
  clear hb hck
  have hin := fun W => in_any t 0 100000 W
  rw [decide_eq_false h0] at hin
  clear h0
  go_enter Try.func20, Try.ntmps20
  go_wp2_with fail
  refine kc.mono ?_
  rintro r w1 ⟨rfl, hb1⟩
  have HX1 : Aside _ := heap_below HX0.out hb1 (heap_lt HX0.out)
  have HR1 : Aside _ := heap_below HR0.out hb1 (heap_lt HR0.out)
  have HB1 : Aside (Below w.heap.size w w1) := step_below HB0.out hb1
  clear hb1 HB0 HX0 HR0
  clear kc
  have z : ∀ i, w1.cell? ⟨w.heap.size, i, none⟩ = #[Value.int .i64 c.p, .int .i64 c.d, .int .i64 c.e.k, .int .i64 c.e.j, .int .i64 c.e.v, .int .i64 c.e.t, .int .i64 c.e.c, .int .i64 c.a, .int .i64 c.l, .int .i64 c.n, .slice a1 m1 k1, .slice a2 m2 k2][i]? := fun i => Joins.cell_of_block HX1.out i
  go_wp2_with fail
  refine (hin _).mono ?_
  rintro r wx ⟨rfl, hwx⟩
  obtain rfl : w1 = wx := hwx.symm
  have zr : ∀ i, w1.cell? ⟨w.heap.size + 1, i, none⟩ = #[Value.int .i64 0, .int .i64 0, .int .i64 0, .int .i64 0, .int .i64 0, .int .i64 0, .int .i64 0, .int .i64 0, .int .i64 0, .int .i64 0, .slice none 0 0, .slice none 0 0][i]? := fun i => Joins.cell_of_block HR1.out i
  have fzr : ∀ i, w1.frozen? ⟨w.heap.size + 1, i, none⟩ = false := fun i => Joins.unfrozen_of_block HR1.out i
  go_wp2
  refine ret_st (p := 8) (q := 9) w1 (w.heap.size + 1) (Cl.zero) nil0 nil0 (o := Cl.zero) (u1 := nil0) (u2 := nil0) Try.results20 rfl rfl rfl HR1.out rfl ?_
  exact ⟨rfl, st12_below HB1.out (by omega) _ _ _⟩

set_option linter.unusedSimpArgs false in
set_option maxHeartbeats 4000000 in
set_option maxRecDepth 100000 in
theorem rn_none (c : Cl) (a1 a2 : Option Addr) (m1 k1 m2 k2 : Nat) (me j t : Int) (w : World) (hb : BkAt w (.slice a1 m1 k1) (.slice a2 m2 k2) c) (hck : c.ck = 0) (hd : (c.d != 0) = false) (h0 : 0 ≤ t ∧ t ≤ 100000) (hm : c.js.length ≤ most) (hj : jobAt c.js j = -1) :
    AnsX 20 #[c.val (.slice a1 m1 k1) (.slice a2 m2 k2), .int .i64 me, .int .i64 j, .int .i64 t] w (Cl.zero, 5) nil0 nil0 := by
  have HB0 : Aside (Below w.heap.size w ((w.alloc (boxC c (.slice a1 m1 k1) (.slice a2 m2 k2))).alloc (boxC Cl.zero nil0 nil0))) := grew (grew (Below.refl _ _) _) _
  have HX0 : Aside (((w.alloc (boxC c (.slice a1 m1 k1) (.slice a2 m2 k2))).alloc (boxC Cl.zero nil0 nil0)).heap[w.heap.size]? = some (boxC c (.slice a1 m1 k1) (.slice a2 m2 k2))) := heap_old (heap_new _ _) _
  have HR0 : Aside (((w.alloc (boxC c (.slice a1 m1 k1) (.slice a2 m2 k2))).alloc (boxC Cl.zero nil0 nil0)).heap[w.heap.size + 1]? = some (boxC Cl.zero nil0 nil0)) := by
    have := heap_new (w.alloc (boxC c (.slice a1 m1 k1) (.slice a2 m2 k2))) (boxC Cl.zero nil0 nil0)
    rw [World.size_alloc] at this
    exact this
  have kc := ref_ckClient c (.slice a1 m1 k1) (.slice a2 m2 k2) _ (bkAt_later hb HB0.out)
  have ka : ∀ W, Below w.heap.size w W → Calls Try.prog 56 #[.agg #[(.slice a1 m1 k1), (.slice a2 m2 k2)], .int .i64 j] W fun e w' => e = .returned (.int .i64 (-1)) ∧ Below W.heap.size W w' := fun W hB => by
    have := ref_jobAt (.slice a1 m1 k1) (.slice a2 m2 k2) c.js c.rs j W (hb.1.later hB) (hb.2.later hB) hm
    rw [hj] at this
    exact this
  clear hj
  rw [hck] at kc
  have HK : Aside (BkAt w (.slice a1 m1 k1) (.slice a2 m2 k2) c) := hb
  clear hb hck
  have hin := fun W => in_any t 0 100000 W
  rw [decide_eq_true h0] at hin
  clear h0
  go_enter Try.func20, Try.ntmps20
  go_wp2_with fail
  refine kc.mono ?_
  rintro r w1 ⟨rfl, hb1⟩
  have HX1 : Aside _ := heap_below HX0.out hb1 (heap_lt HX0.out)
  have HR1 : Aside _ := heap_below HR0.out hb1 (heap_lt HR0.out)
  have HB1 : Aside (Below w.heap.size w w1) := step_below HB0.out hb1
  clear hb1 HB0 HX0 HR0
  clear kc
  have z : ∀ i, w1.cell? ⟨w.heap.size, i, none⟩ = #[Value.int .i64 c.p, .int .i64 c.d, .int .i64 c.e.k, .int .i64 c.e.j, .int .i64 c.e.v, .int .i64 c.e.t, .int .i64 c.e.c, .int .i64 c.a, .int .i64 c.l, .int .i64 c.n, .slice a1 m1 k1, .slice a2 m2 k2][i]? := fun i => Joins.cell_of_block HX1.out i
  go_wp2_with fail
  refine (hin _).mono ?_
  rintro r wx ⟨rfl, hwx⟩
  obtain rfl : w1 = wx := hwx.symm
  go_wp2_with fail
  refine (ka w1 HB1.out).mono ?_
  rintro r w2 ⟨rfl, hb2⟩
  have HX2 : Aside _ := heap_below HX1.out hb2 (heap_lt HX1.out)
  have HR2 : Aside _ := heap_below HR1.out hb2 (heap_lt HR1.out)
  have HB2 : Aside (Below w.heap.size w w2) := step_below HB1.out hb2
  clear hb2 HB1 HX1 HR1
  clear z ka hin
  have zr : ∀ i, w2.cell? ⟨w.heap.size + 1, i, none⟩ = #[Value.int .i64 0, .int .i64 0, .int .i64 0, .int .i64 0, .int .i64 0, .int .i64 0, .int .i64 0, .int .i64 0, .int .i64 0, .int .i64 0, .slice none 0 0, .slice none 0 0][i]? := fun i => Joins.cell_of_block HR2.out i
  have fzr : ∀ i, w2.frozen? ⟨w.heap.size + 1, i, none⟩ = false := fun i => Joins.unfrozen_of_block HR2.out i
  go_wp2
  refine ret_st (p := 8) (q := 9) w2 (w.heap.size + 1) (Cl.zero) nil0 nil0 (o := Cl.zero) (u1 := nil0) (u2 := nil0) Try.results20 rfl rfl rfl HR2.out rfl ?_
  exact ⟨rfl, st12_below HB2.out (by omega) _ _ _⟩

set_option linter.unusedSimpArgs false in
set_option maxHeartbeats 4000000 in
set_option maxRecDepth 100000 in
theorem rn_late2 (c : Cl) (a1 a2 : Option Addr) (m1 k1 m2 k2 : Nat) (me j t : Int) (w : World) (hb : BkAt w (.slice a1 m1 k1) (.slice a2 m2 k2) c) (hck : c.ck = 0) (hd : (c.d != 0) = false) (h0 : 0 ≤ t ∧ t ≤ 100000) (hm : c.js.length ≤ most) (k : Nat) (z0 : Jb) (hj : jobAt c.js j = (k : Nat)) (hkm : k < m1) (hz0 : c.js[k]? = some z0) (hg : decide (t < z0.n) = true) :
    AnsX 20 #[c.val (.slice a1 m1 k1) (.slice a2 m2 k2), .int .i64 me, .int .i64 j, .int .i64 t] w (Cl.zero, 5) nil0 nil0 := by
  have HB0 : Aside (Below w.heap.size w ((w.alloc (boxC c (.slice a1 m1 k1) (.slice a2 m2 k2))).alloc (boxC Cl.zero nil0 nil0))) := grew (grew (Below.refl _ _) _) _
  have HX0 : Aside (((w.alloc (boxC c (.slice a1 m1 k1) (.slice a2 m2 k2))).alloc (boxC Cl.zero nil0 nil0)).heap[w.heap.size]? = some (boxC c (.slice a1 m1 k1) (.slice a2 m2 k2))) := heap_old (heap_new _ _) _
  have HR0 : Aside (((w.alloc (boxC c (.slice a1 m1 k1) (.slice a2 m2 k2))).alloc (boxC Cl.zero nil0 nil0)).heap[w.heap.size + 1]? = some (boxC Cl.zero nil0 nil0)) := by
    have := heap_new (w.alloc (boxC c (.slice a1 m1 k1) (.slice a2 m2 k2))) (boxC Cl.zero nil0 nil0)
    rw [World.size_alloc] at this
    exact this
  have kc := ref_ckClient c (.slice a1 m1 k1) (.slice a2 m2 k2) _ (bkAt_later hb HB0.out)
  have ka : ∀ W, Below w.heap.size w W → Calls Try.prog 56 #[.agg #[(.slice a1 m1 k1), (.slice a2 m2 k2)], .int .i64 j] W fun e w' => e = .returned (.int .i64 (k : Nat)) ∧ Below W.heap.size W w' := fun W hB => by
    have := ref_jobAt (.slice a1 m1 k1) (.slice a2 m2 k2) c.js c.rs j W (hb.1.later hB) (hb.2.later hB) hm
    rw [hj] at this
    exact this
  clear hj
  rw [hck] at kc
  have HK : Aside (BkAt w (.slice a1 m1 k1) (.slice a2 m2 k2) c) := hb
  clear hb hck
  have hin := fun W => in_any t 0 100000 W
  rw [decide_eq_true h0] at hin
  clear h0
  go_enter Try.func20, Try.ntmps20
  go_wp2_with fail
  refine kc.mono ?_
  rintro r w1 ⟨rfl, hb1⟩
  have HX1 : Aside _ := heap_below HX0.out hb1 (heap_lt HX0.out)
  have HR1 : Aside _ := heap_below HR0.out hb1 (heap_lt HR0.out)
  have HB1 : Aside (Below w.heap.size w w1) := step_below HB0.out hb1
  clear hb1 HB0 HX0 HR0
  clear kc
  have z : ∀ i, w1.cell? ⟨w.heap.size, i, none⟩ = #[Value.int .i64 c.p, .int .i64 c.d, .int .i64 c.e.k, .int .i64 c.e.j, .int .i64 c.e.v, .int .i64 c.e.t, .int .i64 c.e.c, .int .i64 c.a, .int .i64 c.l, .int .i64 c.n, .slice a1 m1 k1, .slice a2 m2 k2][i]? := fun i => Joins.cell_of_block HX1.out i
  go_wp2_with fail
  refine (hin _).mono ?_
  rintro r wx ⟨rfl, hwx⟩
  obtain rfl : w1 = wx := hwx.symm
  go_wp2_with fail
  refine (ka w1 HB1.out).mono ?_
  rintro r w2 ⟨rfl, hb2⟩
  have HX2 : Aside _ := heap_below HX1.out hb2 (heap_lt HX1.out)
  have HR2 : Aside _ := heap_below HR1.out hb2 (heap_lt HR1.out)
  have HB2 : Aside (Below w.heap.size w w2) := step_below HB1.out hb2
  clear hb2 HB1 HX1 HR1
  clear z ka hin
  obtain ⟨b, off, rfl, hE⟩ := (show SlOf Jb.cells 3 w (.slice a1 m1 k1) c.js from HK.out.1).at (by omega)
  have hrow : w2.cell? ⟨b, off + k * 3 + 2, none⟩ = some (.int .i64 z0.n) := hE.later HB2.out k z0 hz0 2 _ rfl
  have hkn : ¬ ((k : Int) < 0) := by omega
  clear hE hz0
  have z : ∀ i, w2.cell? ⟨w.heap.size, i, none⟩ = #[Value.int .i64 c.p, .int .i64 c.d, .int .i64 c.e.k, .int .i64 c.e.j, .int .i64 c.e.v, .int .i64 c.e.t, .int .i64 c.e.c, .int .i64 c.a, .int .i64 c.l, .int .i64 c.n, .slice (some ⟨b, off, none⟩) m1 k1, .slice a2 m2 k2][i]? := fun i => Joins.cell_of_block HX2.out i
  have zr : ∀ i, w2.cell? ⟨w.heap.size + 1, i, none⟩ = #[Value.int .i64 0, .int .i64 0, .int .i64 0, .int .i64 0, .int .i64 0, .int .i64 0, .int .i64 0, .int .i64 0, .int .i64 0, .int .i64 0, .slice none 0 0, .slice none 0 0][i]? := fun i => Joins.cell_of_block HR2.out i
  have fzr : ∀ i, w2.frozen? ⟨w.heap.size + 1, i, none⟩ = false := fun i => Joins.unfrozen_of_block HR2.out i
  go_wp2
  refine ret_st (p := 8) (q := 9) w2 (w.heap.size + 1) (Cl.zero) nil0 nil0 (o := Cl.zero) (u1 := nil0) (u2 := nil0) Try.results20 rfl rfl rfl HR2.out rfl ?_
  exact ⟨rfl, st12_below HB2.out (by omega) _ _ _⟩

set_option linter.unusedSimpArgs false in
set_option maxHeartbeats 4000000 in
set_option maxRecDepth 100000 in
theorem rn_ok (c : Cl) (a1 a2 : Option Addr) (m1 k1 m2 k2 : Nat) (me j t : Int) (w : World) (hb : BkAt w (.slice a1 m1 k1) (.slice a2 m2 k2) c) (hck : c.ck = 0) (hd : (c.d != 0) = false) (h0 : 0 ≤ t ∧ t ≤ 100000) (hm : c.js.length ≤ most) (k : Nat) (z0 : Jb) (hj : jobAt c.js j = (k : Nat)) (hkm : k < m1) (hz0 : c.js[k]? = some z0) (hg : decide (t < z0.n) = false) (R : Cl) (d : Int) (s1 : Option Addr) (n1 o1 : Nat) (s2 : Option Addr) (n2 o2 : Nat) (hkw : ∀ W, Below w.heap.size w W → AnsX 19 #[c.val (.slice a1 m1 k1) (.slice a2 m2 k2), (⟨3, j, 0, z0.n, me⟩ : En).val] W (R, d) (.slice s1 n1 o1) (.slice s2 n2 o2)) :
    AnsX 20 #[c.val (.slice a1 m1 k1) (.slice a2 m2 k2), .int .i64 me, .int .i64 j, .int .i64 t] w (R, d) (.slice s1 n1 o1) (.slice s2 n2 o2) := by
  have HB0 : Aside (Below w.heap.size w ((w.alloc (boxC c (.slice a1 m1 k1) (.slice a2 m2 k2))).alloc (boxC Cl.zero nil0 nil0))) := grew (grew (Below.refl _ _) _) _
  have HX0 : Aside (((w.alloc (boxC c (.slice a1 m1 k1) (.slice a2 m2 k2))).alloc (boxC Cl.zero nil0 nil0)).heap[w.heap.size]? = some (boxC c (.slice a1 m1 k1) (.slice a2 m2 k2))) := heap_old (heap_new _ _) _
  have HR0 : Aside (((w.alloc (boxC c (.slice a1 m1 k1) (.slice a2 m2 k2))).alloc (boxC Cl.zero nil0 nil0)).heap[w.heap.size + 1]? = some (boxC Cl.zero nil0 nil0)) := by
    have := heap_new (w.alloc (boxC c (.slice a1 m1 k1) (.slice a2 m2 k2))) (boxC Cl.zero nil0 nil0)
    rw [World.size_alloc] at this
    exact this
  have kc := ref_ckClient c (.slice a1 m1 k1) (.slice a2 m2 k2) _ (bkAt_later hb HB0.out)
  have ka : ∀ W, Below w.heap.size w W → Calls Try.prog 56 #[.agg #[(.slice a1 m1 k1), (.slice a2 m2 k2)], .int .i64 j] W fun e w' => e = .returned (.int .i64 (k : Nat)) ∧ Below W.heap.size W w' := fun W hB => by
    have := ref_jobAt (.slice a1 m1 k1) (.slice a2 m2 k2) c.js c.rs j W (hb.1.later hB) (hb.2.later hB) hm
    rw [hj] at this
    exact this
  clear hj
  have kw : Aside _ := hkw
  clear hkw
  rw [hck] at kc
  have HK : Aside (BkAt w (.slice a1 m1 k1) (.slice a2 m2 k2) c) := hb
  clear hb hck
  have hin := fun W => in_any t 0 100000 W
  rw [decide_eq_true h0] at hin
  clear h0
  go_enter Try.func20, Try.ntmps20
  go_wp2_with fail
  refine kc.mono ?_
  rintro r w1 ⟨rfl, hb1⟩
  have HX1 : Aside _ := heap_below HX0.out hb1 (heap_lt HX0.out)
  have HR1 : Aside _ := heap_below HR0.out hb1 (heap_lt HR0.out)
  have HB1 : Aside (Below w.heap.size w w1) := step_below HB0.out hb1
  clear hb1 HB0 HX0 HR0
  clear kc
  have z : ∀ i, w1.cell? ⟨w.heap.size, i, none⟩ = #[Value.int .i64 c.p, .int .i64 c.d, .int .i64 c.e.k, .int .i64 c.e.j, .int .i64 c.e.v, .int .i64 c.e.t, .int .i64 c.e.c, .int .i64 c.a, .int .i64 c.l, .int .i64 c.n, .slice a1 m1 k1, .slice a2 m2 k2][i]? := fun i => Joins.cell_of_block HX1.out i
  go_wp2_with fail
  refine (hin _).mono ?_
  rintro r wx ⟨rfl, hwx⟩
  obtain rfl : w1 = wx := hwx.symm
  go_wp2_with fail
  refine (ka w1 HB1.out).mono ?_
  rintro r w2 ⟨rfl, hb2⟩
  have HX2 : Aside _ := heap_below HX1.out hb2 (heap_lt HX1.out)
  have HR2 : Aside _ := heap_below HR1.out hb2 (heap_lt HR1.out)
  have HB2 : Aside (Below w.heap.size w w2) := step_below HB1.out hb2
  clear hb2 HB1 HX1 HR1
  clear z ka hin
  obtain ⟨b, off, rfl, hE⟩ := (show SlOf Jb.cells 3 w (.slice a1 m1 k1) c.js from HK.out.1).at (by omega)
  have hrow : w2.cell? ⟨b, off + k * 3 + 2, none⟩ = some (.int .i64 z0.n) := hE.later HB2.out k z0 hz0 2 _ rfl
  have hkn : ¬ ((k : Int) < 0) := by omega
  clear hE hz0
  have z : ∀ i, w2.cell? ⟨w.heap.size, i, none⟩ = #[Value.int .i64 c.p, .int .i64 c.d, .int .i64 c.e.k, .int .i64 c.e.j, .int .i64 c.e.v, .int .i64 c.e.t, .int .i64 c.e.c, .int .i64 c.a, .int .i64 c.l, .int .i64 c.n, .slice (some ⟨b, off, none⟩) m1 k1, .slice a2 m2 k2][i]? := fun i => Joins.cell_of_block HX2.out i
  go_upto_region 12 with fail
  clear z
  have HXd : Aside (w2.drew.heap[w.heap.size]? = some (boxC c (.slice (some ⟨b, off, none⟩) m1 k1) (.slice a2 m2 k2))) := HX2.out
  have HRd : Aside (w2.drew.heap[w.heap.size + 1]? = some (boxC Cl.zero nil0 nil0)) := HR2.out
  have HBd : Aside (Below w.heap.size w w2.drew) := HB2.out.drew
  have hS0 : w2.drew.cell? ⟨w.heap.size, 10, none⟩ = some (.slice (some ⟨b, off, none⟩) m1 k1) ∧ w2.drew.cell? ⟨b, off + k * 3 + 2, none⟩ = some (.int .i64 z0.n) := ⟨Joins.cell_of_block HX2.out 10, hrow⟩
  clear HX2 HR2 HB2 hrow
  refine wp_region_noPanic ?_
  refine region_L (fun w' => w'.cell? ⟨w.heap.size, 10, none⟩ = some (.slice (some ⟨b, off, none⟩) m1 k1) ∧ w'.cell? ⟨b, off + k * 3 + 2, none⟩ = some (.int .i64 z0.n)) 14 (by kernel_rfl) (hS0) (fun hHeld => ?_)
  clear hS0
  generalize w2.drew = X at *
  refine anyL_take (i := 1) (v := ?_) rfl (by kernel_rfl) (by kernel_rfl) (by kernel_rfl) (by kernel_rfl) (by kernel_rfl) (fun _ _ _ h => h) (Or.inl ⟨by rfl, ?_⟩) (by assumption) ?_
  rotate_left
  · (intro w0 hSw; (try dsimp only at hSw); go_simp; first | done | with_reducible rfl)
  try simp only [Act.put, List.setIfInBounds_toArray, List.set_cons_zero, List.set_cons_succ]
  refine anyL_take (i := 2) (v := ?_) rfl (by kernel_rfl) (by kernel_rfl) (by kernel_rfl) (by kernel_rfl) (by kernel_rfl) (fun _ _ _ h => h) (Or.inl ⟨by rfl, ?_⟩) (by assumption) ?_
  rotate_left
  · (intro w0 hSw; (try dsimp only at hSw); go_simp; first | done | with_reducible rfl)
  try simp only [Act.put, List.setIfInBounds_toArray, List.set_cons_zero, List.set_cons_succ]
  refine anyL_take (i := 3) (v := ?_) rfl (by kernel_rfl) (by kernel_rfl) (by kernel_rfl) (by kernel_rfl) (by kernel_rfl) (fun _ _ _ h => h) (Or.inl ⟨by rfl, ?_⟩) (by assumption) ?_
  rotate_left
  · (intro w0 hSw; (try dsimp only at hSw); go_simp; first | done | with_reducible rfl)
  try simp only [Act.put, List.setIfInBounds_toArray, List.set_cons_zero, List.set_cons_succ]
  refine anyL_take (i := 4) (v := ?_) rfl (by kernel_rfl) (by kernel_rfl) (by kernel_rfl) (by kernel_rfl) (by kernel_rfl) (fun _ _ _ h => h) (Or.inl ⟨by rfl, ?_⟩) (by assumption) ?_
  rotate_left
  · (intro w0 hSw; (try dsimp only at hSw); go_simp; first | done | with_reducible rfl)
  try simp only [Act.put, List.setIfInBounds_toArray, List.set_cons_zero, List.set_cons_succ]
  refine anyL_take (i := 5) (v := ?_) rfl (by kernel_rfl) (by kernel_rfl) (by kernel_rfl) (by kernel_rfl) (by kernel_rfl) (fun _ _ _ h => h) (Or.inl ⟨by rfl, ?_⟩) (by assumption) ?_
  rotate_left
  · (intro w0 hSw; (try dsimp only at hSw); go_simp; first | done | with_reducible rfl)
  try simp only [Act.put, List.setIfInBounds_toArray, List.set_cons_zero, List.set_cons_succ]
  refine anyL_take (i := 6) (v := ?_) rfl (by kernel_rfl) (by kernel_rfl) (by kernel_rfl) (by kernel_rfl) (by kernel_rfl) (fun _ _ _ h => h) (Or.inl ⟨by rfl, ?_⟩) (by assumption) ?_
  rotate_left
  · (intro w0 hSw; (try dsimp only at hSw); go_simp; first | done | with_reducible rfl)
  try simp only [Act.put, List.setIfInBounds_toArray, List.set_cons_zero, List.set_cons_succ]
  refine anyL_take (i := 7) (v := ?_) rfl (by kernel_rfl) (by kernel_rfl) (by kernel_rfl) (by kernel_rfl) (by kernel_rfl) (fun _ _ _ h => h) (Or.inl ⟨by rfl, ?_⟩) (by assumption) ?_
  rotate_left
  · (intro w0 hSw; (try dsimp only at hSw); go_simp; first | done | with_reducible rfl)
  try simp only [Act.put, List.setIfInBounds_toArray, List.set_cons_zero, List.set_cons_succ]
  refine anyL_take (i := 8) (v := ?_) rfl (by kernel_rfl) (by kernel_rfl) (by kernel_rfl) (by kernel_rfl) (by kernel_rfl) (fun _ _ _ h => h) (Or.inl ⟨by rfl, ?_⟩) (by assumption) ?_
  rotate_left
  · (intro w0 hSw; (try dsimp only at hSw); go_simp; first | done | with_reducible rfl)
  try simp only [Act.put, List.setIfInBounds_toArray, List.set_cons_zero, List.set_cons_succ]
  refine anyL_take (i := 9) (v := ?_) rfl (by kernel_rfl) (by kernel_rfl) (by kernel_rfl) (by kernel_rfl) (by kernel_rfl) (fun _ _ _ h => h) (Or.inl ⟨by rfl, ?_⟩) (by assumption) ?_
  rotate_left
  · (intro w0 hSw; (try dsimp only at hSw); go_simp; first | done | with_reducible rfl)
  try simp only [Act.put, List.setIfInBounds_toArray, List.set_cons_zero, List.set_cons_succ]
  refine anyL_take (i := 10) (v := ?_) rfl (by kernel_rfl) (by kernel_rfl) (by kernel_rfl) (by kernel_rfl) (by kernel_rfl) (fun _ _ _ h => h) (Or.inl ⟨by rfl, ?_⟩) (by assumption) ?_
  rotate_left
  · (intro w0 hSw; (try dsimp only at hSw); go_simp; first | done | with_reducible rfl)
  try simp only [Act.put, List.setIfInBounds_toArray, List.set_cons_zero, List.set_cons_succ]
  have z : ∀ i, X.cell? ⟨w.heap.size, i, none⟩ = #[Value.int .i64 c.p, .int .i64 c.d, .int .i64 c.e.k, .int .i64 c.e.j, .int .i64 c.e.v, .int .i64 c.e.t, .int .i64 c.e.c, .int .i64 c.a, .int .i64 c.l, .int .i64 c.n, .slice (some ⟨b, off, none⟩) m1 k1, .slice a2 m2 k2][i]? := fun i => Joins.cell_of_block HXd.out i
  refine anyL_one (i := 0) (by kernel_rfl) rfl (fun K hK => ?_)
  go_simp
  refine hK.out _ _ (fun _ => by assumption) (fun hNext => ?_)
  replace hNext := hNext (by kernel_rfl)
  clear hK K hHeld z
  try simp only [Act.put, List.setIfInBounds_toArray, List.set_cons_zero, List.set_cons_succ]
  refine anyL_one (i := 11) (by kernel_rfl) rfl (fun K hK => ?_)
  go_simp
  refine (kw.out _ HBd.out).mono ?_
  rintro r w4 ⟨rfl, hb4⟩
  have HR4 : Aside _ := heap_below HRd.out hb4 (heap_lt HRd.out)
  have HB4 : Aside (Below w.heap.size w w4) := HBd.out.trans (hb4.mono HBd.out.size)
  refine hK.out _ _ (fun _ => ⟨cell_later hb4 hNext.1, cell_later hb4 hNext.2⟩) (fun hNext => ?_)
  replace hNext := hNext (by kernel_rfl)
  clear hK K hb4 HRd HBd HXd
  try simp only [Act.put, List.setIfInBounds_toArray, List.set_cons_zero, List.set_cons_succ]
  have zr : ∀ i, w4.cell? ⟨w.heap.size + 1, i, none⟩ = #[Value.int .i64 0, .int .i64 0, .int .i64 0, .int .i64 0, .int .i64 0, .int .i64 0, .int .i64 0, .int .i64 0, .int .i64 0, .int .i64 0, .slice none 0 0, .slice none 0 0][i]? := fun i => Joins.cell_of_block HR4.out i
  have fzr : ∀ i, w4.frozen? ⟨w.heap.size + 1, i, none⟩ = false := fun i => Joins.unfrozen_of_block HR4.out i
  refine anyL_take (i := 12) (v := ?_) rfl (by kernel_rfl) (by kernel_rfl) (by kernel_rfl) (by kernel_rfl) (by kernel_rfl) (fun _ _ _ h => h) (Or.inl ⟨by rfl, ?_⟩) (by assumption) ?_
  rotate_left
  · (intro w0 hSw; (try dsimp only at hSw); go_simp; first | done | with_reducible rfl)
  try simp only [Act.put, List.setIfInBounds_toArray, List.set_cons_zero, List.set_cons_succ]
  refine anyL_take (i := 13) (v := ?_) rfl (by kernel_rfl) (by kernel_rfl) (by kernel_rfl) (by kernel_rfl) (by kernel_rfl) (fun _ _ _ h => h) (Or.inl ⟨by rfl, ?_⟩) (by assumption) ?_
  rotate_left
  · (intro w0 hSw; (try dsimp only at hSw); go_simp; first | done | with_reducible rfl)
  try simp only [Act.put, List.setIfInBounds_toArray, List.set_cons_zero, List.set_cons_succ]
  refine anyL_one (i := 14) (by kernel_rfl) rfl (fun K hK => ?_)
  go_simp
  refine hK.out _ _ (fun h => absurd h (by decide +kernel)) (fun _ => ?_)
  clear hK K
  try simp only [Act.put, List.setIfInBounds_toArray, List.set_cons_zero, List.set_cons_succ]
  refine anyL_one (i := 15) (by kernel_rfl) rfl (fun K hK => ?_)
  go_simp
  refine hK.out _ _ (fun h => absurd h (by decide +kernel)) (fun _ => ?_)
  clear hK K
  try simp only [Act.put, List.setIfInBounds_toArray, List.set_cons_zero, List.set_cons_succ]
  refine anyL_done (by kernel_rfl) ?_ _
  refine NoPanic.normal ?_
  try simp only [Act.put, List.setIfInBounds_toArray, List.set_cons_zero, List.set_cons_succ]
  clear hNext
  go_wp2
  refine ret_st (p := 8) (q := 9) w4 (w.heap.size + 1) R (.slice s1 n1 o1) (.slice s2 n2 o2) (o := Cl.zero) (u1 := nil0) (u2 := nil0) Try.results20 rfl rfl rfl HR4.out rfl ?_
  exact ⟨rfl, st12_below HB4.out (by omega) _ _ _⟩

/-- The reference's Ringing. -/
theorem ref_ringing (c : Cl) (me j t : Int) (v1 v2 : Value) (w : World) (hb : BkAt w v1 v2 c) : AnsC 20 #[c.val v1 v2, .int .i64 me, .int .i64 j, .int .i64 t] w (ringOf c me j t) := by
  obtain ⟨a1, k1, a2, k2, rfl, rfl⟩ := bk_slices hb.1 hb.2
  unfold ringOf
  by_cases hc : c.ck = 0
  · rw [if_neg (by simpa using hc)]
    by_cases hd : c.d = 0
    · have hdb : (c.d != 0) = false := by rw [hd]; rfl
      have hok := (Cl.ck_zero.1 hc).2.2.2
      have hm : c.js.length ≤ most := by have := hok.few; unfold most; omega
      rw [if_neg (by simpa using hd)]
      by_cases ht : t < 0 ∨ 100000 < t
      · rw [if_pos ht]
        exact ansC_zero <| rn_rng c a1 a2 _ k1 _ k2 me j t w hb hc hdb (by omega)
      · rw [if_neg ht]
        have h0 : 0 ≤ t ∧ t ≤ 100000 := by omega
        rcases jobAt_ways c.js j with ⟨hj, htab⟩ | ⟨k, z, hj, hz, htab⟩
        · rw [htab]
          exact ansC_zero <| rn_none c a1 a2 _ k1 _ k2 me j t w hb hc hdb h0 hm hj
        · rw [htab]
          have hk := (List.getElem?_eq_some_iff.1 hz).1
          show AnsC _ _ _ (if t < z.n then _ else _)
          by_cases hn : t < z.n
          · rw [if_pos hn]
            exact ansC_zero <| rn_late2 c a1 a2 _ k1 _ k2 me j t w hb hc hdb h0 hm k z hj hk hz (decide_eq_true hn)
          · rw [if_neg hn, wantOf, if_neg (by simpa using hc), if_neg (by simpa using hd)]
            by_cases hx : (⟨3, j, 0, z.n, me⟩ : En).chk = 0
            · rw [if_neg (by simpa using hx), if_neg (show ¬ (3 : Int) = 0 by decide)]
              exact ansC_of hb <| rn_ok c a1 a2 _ k1 _ k2 me j t w hb hc hdb h0 hm k z hj hk hz (decide_eq_false hn) _ _ _ _ _ _ _ _ (fun W hB => rw_ok c a1 a2 _ k1 _ k2 _ W (bkAt_later hb hB) hc hdb hx rfl)
            · rw [if_pos hx]
              exact ansC_zero <| rn_ok c a1 a2 _ k1 _ k2 me j t w hb hc hdb h0 hm k z hj hk hz (decide_eq_false hn) _ _ _ _ _ _ _ _ (fun W hB => rw_ent c a1 a2 _ k1 _ k2 _ W (bkAt_later hb hB) hc hdb _ rfl (by rw [bne_iff_ne]; exact hx))
    · rw [if_pos hd]
      exact ansC_zero <| rn_late c a1 a2 _ k1 _ k2 me j t w hb hc (by rw [bne_iff_ne]; exact hd)
  · rw [if_pos hc]
    exact ansC_zero <| rn_ck c a1 a2 _ k1 _ k2 me j t w hb _ rfl (by rw [bne_iff_ne]; exact hc)

end Go.Proofs.Ytbokdcdnandgbae
