/- The reference's Wanted, Placed, Learned. The reference's Placed, Learned. -/
import Derived.Test.YtbokdcdnandgbaeClientC
import Derived.Test.YtbokdcdnandgbaeCellE
import Derived.Deep.CutBlock
import Derived.Deep.RegionHeld3
namespace Go.Proofs.Ytbokdcdnandgbae
open Go.RowKit

set_option linter.unusedSimpArgs false in
set_option maxHeartbeats 4000000 in
set_option maxRecDepth 100000 in
theorem rw_ck (c : Cl) (a1 a2 : Option Addr) (m1 k1 m2 k2 : Nat) (x : En) (w : World) (hb : BkAt w (.slice a1 m1 k1) (.slice a2 m2 k2) c) (d : Int) (hck : c.ck = d) (hz : (d != 0) = true) :
    AnsX 19 #[c.val (.slice a1 m1 k1) (.slice a2 m2 k2), x.val] w (Cl.zero, d) nil0 nil0 := by
  have HB0 : Aside (Below w.heap.size w (((w.alloc (boxC c (.slice a1 m1 k1) (.slice a2 m2 k2))).alloc (boxE x.k x.j x.v x.t x.c)).alloc (boxC Cl.zero nil0 nil0))) := grew (grew (grew (Below.refl _ _) _) _) _
  have HX0 : Aside ((((w.alloc (boxC c (.slice a1 m1 k1) (.slice a2 m2 k2))).alloc (boxE x.k x.j x.v x.t x.c)).alloc (boxC Cl.zero nil0 nil0)).heap[w.heap.size]? = some (boxC c (.slice a1 m1 k1) (.slice a2 m2 k2))) := heap_old (heap_old (heap_new _ _) _) _
  have HE0 : Aside ((((w.alloc (boxC c (.slice a1 m1 k1) (.slice a2 m2 k2))).alloc (boxE x.k x.j x.v x.t x.c)).alloc (boxC Cl.zero nil0 nil0)).heap[w.heap.size + 1]? = some (boxE x.k x.j x.v x.t x.c)) := by
    have := heap_new (w.alloc (boxC c (.slice a1 m1 k1) (.slice a2 m2 k2))) (boxE x.k x.j x.v x.t x.c)
    rw [World.size_alloc] at this
    exact heap_old (this) _
  have HR0 : Aside ((((w.alloc (boxC c (.slice a1 m1 k1) (.slice a2 m2 k2))).alloc (boxE x.k x.j x.v x.t x.c)).alloc (boxC Cl.zero nil0 nil0)).heap[w.heap.size + 1 + 1]? = some (boxC Cl.zero nil0 nil0)) := by
    have := heap_new ((w.alloc (boxC c (.slice a1 m1 k1) (.slice a2 m2 k2))).alloc (boxE x.k x.j x.v x.t x.c)) (boxC Cl.zero nil0 nil0)
    rw [World.size_alloc, World.size_alloc] at this
    exact this
  have kc := ref_ckClient c (.slice a1 m1 k1) (.slice a2 m2 k2) _ (bkAt_later hb HB0.out)
  rw [hck] at kc
  have HK : Aside (BkAt w (.slice a1 m1 k1) (.slice a2 m2 k2) c) := hb
  clear hb hck
  go_enter Try.func19, Try.ntmps19
  go_wp2_with fail
  refine kc.mono ?_
  rintro r w1 ⟨rfl, hb1⟩
  have HX1 : Aside _ := heap_below HX0.out hb1 (heap_lt HX0.out)
  have HE1 : Aside _ := heap_below HE0.out hb1 (heap_lt HE0.out)
  have HR1 : Aside _ := heap_below HR0.out hb1 (heap_lt HR0.out)
  have HB1 : Aside (Below w.heap.size w w1) := step_below HB0.out hb1
  clear hb1 HB0 HX0 HE0 HR0
  clear kc
  have zr : ∀ i, w1.cell? ⟨w.heap.size + 1 + 1, i, none⟩ = #[Value.int .i64 0, .int .i64 0, .int .i64 0, .int .i64 0, .int .i64 0, .int .i64 0, .int .i64 0, .int .i64 0, .int .i64 0, .int .i64 0, .slice none 0 0, .slice none 0 0][i]? := fun i => Joins.cell_of_block HR1.out i
  have fzr : ∀ i, w1.frozen? ⟨w.heap.size + 1 + 1, i, none⟩ = false := fun i => Joins.unfrozen_of_block HR1.out i
  go_wp2
  refine ret_st (p := 4) (q := 5) w1 (w.heap.size + 1 + 1) (Cl.zero) nil0 nil0 (o := Cl.zero) (u1 := nil0) (u2 := nil0) Try.results19 rfl rfl rfl HR1.out rfl ?_
  exact ⟨rfl, st12_below HB1.out (by omega) _ _ _⟩

set_option linter.unusedSimpArgs false in
set_option maxHeartbeats 4000000 in
set_option maxRecDepth 100000 in
theorem rw_late (c : Cl) (a1 a2 : Option Addr) (m1 k1 m2 k2 : Nat) (x : En) (w : World) (hb : BkAt w (.slice a1 m1 k1) (.slice a2 m2 k2) c) (hck : c.ck = 0) (hd : (c.d != 0) = true) :
    AnsX 19 #[c.val (.slice a1 m1 k1) (.slice a2 m2 k2), x.val] w (Cl.zero, 7) nil0 nil0 := by
  have HB0 : Aside (Below w.heap.size w (((w.alloc (boxC c (.slice a1 m1 k1) (.slice a2 m2 k2))).alloc (boxE x.k x.j x.v x.t x.c)).alloc (boxC Cl.zero nil0 nil0))) := grew (grew (grew (Below.refl _ _) _) _) _
  have HX0 : Aside ((((w.alloc (boxC c (.slice a1 m1 k1) (.slice a2 m2 k2))).alloc (boxE x.k x.j x.v x.t x.c)).alloc (boxC Cl.zero nil0 nil0)).heap[w.heap.size]? = some (boxC c (.slice a1 m1 k1) (.slice a2 m2 k2))) := heap_old (heap_old (heap_new _ _) _) _
  have HE0 : Aside ((((w.alloc (boxC c (.slice a1 m1 k1) (.slice a2 m2 k2))).alloc (boxE x.k x.j x.v x.t x.c)).alloc (boxC Cl.zero nil0 nil0)).heap[w.heap.size + 1]? = some (boxE x.k x.j x.v x.t x.c)) := by
    have := heap_new (w.alloc (boxC c (.slice a1 m1 k1) (.slice a2 m2 k2))) (boxE x.k x.j x.v x.t x.c)
    rw [World.size_alloc] at this
    exact heap_old (this) _
  have HR0 : Aside ((((w.alloc (boxC c (.slice a1 m1 k1) (.slice a2 m2 k2))).alloc (boxE x.k x.j x.v x.t x.c)).alloc (boxC Cl.zero nil0 nil0)).heap[w.heap.size + 1 + 1]? = some (boxC Cl.zero nil0 nil0)) := by
    have := heap_new ((w.alloc (boxC c (.slice a1 m1 k1) (.slice a2 m2 k2))).alloc (boxE x.k x.j x.v x.t x.c)) (boxC Cl.zero nil0 nil0)
    rw [World.size_alloc, World.size_alloc] at this
    exact this
  have kc := ref_ckClient c (.slice a1 m1 k1) (.slice a2 m2 k2) _ (bkAt_later hb HB0.out)
  rw [hck] at kc
  have HK : Aside (BkAt w (.slice a1 m1 k1) (.slice a2 m2 k2) c) := hb
  clear hb hck
  go_enter Try.func19, Try.ntmps19
  go_wp2_with fail
  refine kc.mono ?_
  rintro r w1 ⟨rfl, hb1⟩
  have HX1 : Aside _ := heap_below HX0.out hb1 (heap_lt HX0.out)
  have HE1 : Aside _ := heap_below HE0.out hb1 (heap_lt HE0.out)
  have HR1 : Aside _ := heap_below HR0.out hb1 (heap_lt HR0.out)
  have HB1 : Aside (Below w.heap.size w w1) := step_below HB0.out hb1
  clear hb1 HB0 HX0 HE0 HR0
  clear kc
  have z : ∀ i, w1.cell? ⟨w.heap.size, i, none⟩ = #[Value.int .i64 c.p, .int .i64 c.d, .int .i64 c.e.k, .int .i64 c.e.j, .int .i64 c.e.v, .int .i64 c.e.t, .int .i64 c.e.c, .int .i64 c.a, .int .i64 c.l, .int .i64 c.n, .slice a1 m1 k1, .slice a2 m2 k2][i]? := fun i => Joins.cell_of_block HX1.out i
  have zr : ∀ i, w1.cell? ⟨w.heap.size + 1 + 1, i, none⟩ = #[Value.int .i64 0, .int .i64 0, .int .i64 0, .int .i64 0, .int .i64 0, .int .i64 0, .int .i64 0, .int .i64 0, .int .i64 0, .int .i64 0, .slice none 0 0, .slice none 0 0][i]? := fun i => Joins.cell_of_block HR1.out i
  have fzr : ∀ i, w1.frozen? ⟨w.heap.size + 1 + 1, i, none⟩ = false := fun i => Joins.unfrozen_of_block HR1.out i
  go_wp2
  refine ret_st (p := 4) (q := 5) w1 (w.heap.size + 1 + 1) (Cl.zero) nil0 nil0 (o := Cl.zero) (u1 := nil0) (u2 := nil0) Try.results19 rfl rfl rfl HR1.out rfl ?_
  exact ⟨rfl, st12_below HB1.out (by omega) _ _ _⟩

set_option linter.unusedSimpArgs false in
set_option maxHeartbeats 4000000 in
set_option maxRecDepth 100000 in
theorem rw_ent (c : Cl) (a1 a2 : Option Addr) (m1 k1 m2 k2 : Nat) (x : En) (w : World) (hb : BkAt w (.slice a1 m1 k1) (.slice a2 m2 k2) c) (hck : c.ck = 0) (hd : (c.d != 0) = false) (q : Int) (hx : x.chk = q) (hz : (q != 0) = true) :
    AnsX 19 #[c.val (.slice a1 m1 k1) (.slice a2 m2 k2), x.val] w (Cl.zero, q) nil0 nil0 := by
  have HB0 : Aside (Below w.heap.size w (((w.alloc (boxC c (.slice a1 m1 k1) (.slice a2 m2 k2))).alloc (boxE x.k x.j x.v x.t x.c)).alloc (boxC Cl.zero nil0 nil0))) := grew (grew (grew (Below.refl _ _) _) _) _
  have HX0 : Aside ((((w.alloc (boxC c (.slice a1 m1 k1) (.slice a2 m2 k2))).alloc (boxE x.k x.j x.v x.t x.c)).alloc (boxC Cl.zero nil0 nil0)).heap[w.heap.size]? = some (boxC c (.slice a1 m1 k1) (.slice a2 m2 k2))) := heap_old (heap_old (heap_new _ _) _) _
  have HE0 : Aside ((((w.alloc (boxC c (.slice a1 m1 k1) (.slice a2 m2 k2))).alloc (boxE x.k x.j x.v x.t x.c)).alloc (boxC Cl.zero nil0 nil0)).heap[w.heap.size + 1]? = some (boxE x.k x.j x.v x.t x.c)) := by
    have := heap_new (w.alloc (boxC c (.slice a1 m1 k1) (.slice a2 m2 k2))) (boxE x.k x.j x.v x.t x.c)
    rw [World.size_alloc] at this
    exact heap_old (this) _
  have HR0 : Aside ((((w.alloc (boxC c (.slice a1 m1 k1) (.slice a2 m2 k2))).alloc (boxE x.k x.j x.v x.t x.c)).alloc (boxC Cl.zero nil0 nil0)).heap[w.heap.size + 1 + 1]? = some (boxC Cl.zero nil0 nil0)) := by
    have := heap_new ((w.alloc (boxC c (.slice a1 m1 k1) (.slice a2 m2 k2))).alloc (boxE x.k x.j x.v x.t x.c)) (boxC Cl.zero nil0 nil0)
    rw [World.size_alloc, World.size_alloc] at this
    exact this
  have kc := ref_ckClient c (.slice a1 m1 k1) (.slice a2 m2 k2) _ (bkAt_later hb HB0.out)
  rw [hck] at kc
  have HK : Aside (BkAt w (.slice a1 m1 k1) (.slice a2 m2 k2) c) := hb
  clear hb hck
  have hce : ∀ W, Calls Try.prog 54 #[ev x.k x.j x.v x.t x.c] W fun e w' => e = .returned (.int .i64 x.chk) ∧ Below W.heap.size W w' := fun W => ref_check x.k x.j x.v x.t x.c W
  rw [hx] at hce
  clear hx
  go_enter Try.func19, Try.ntmps19
  go_wp2_with fail
  refine kc.mono ?_
  rintro r w1 ⟨rfl, hb1⟩
  have HX1 : Aside _ := heap_below HX0.out hb1 (heap_lt HX0.out)
  have HE1 : Aside _ := heap_below HE0.out hb1 (heap_lt HE0.out)
  have HR1 : Aside _ := heap_below HR0.out hb1 (heap_lt HR0.out)
  have HB1 : Aside (Below w.heap.size w w1) := step_below HB0.out hb1
  clear hb1 HB0 HX0 HE0 HR0
  clear kc
  have z : ∀ i, w1.cell? ⟨w.heap.size, i, none⟩ = #[Value.int .i64 c.p, .int .i64 c.d, .int .i64 c.e.k, .int .i64 c.e.j, .int .i64 c.e.v, .int .i64 c.e.t, .int .i64 c.e.c, .int .i64 c.a, .int .i64 c.l, .int .i64 c.n, .slice a1 m1 k1, .slice a2 m2 k2][i]? := fun i => Joins.cell_of_block HX1.out i
  have ze : ∀ i, w1.cell? ⟨w.heap.size + 1, i, none⟩ = #[Value.int .i64 x.k, .int .i64 x.j, .int .i64 x.v, .int .i64 x.t, .int .i64 x.c][i]? := fun i => Joins.cell_of_block HE1.out i
  go_wp2_with fail
  refine (hce _).mono ?_
  rintro r w2 ⟨rfl, hb2⟩
  have HX2 : Aside _ := heap_below HX1.out hb2 (heap_lt HX1.out)
  have HE2 : Aside _ := heap_below HE1.out hb2 (heap_lt HE1.out)
  have HR2 : Aside _ := heap_below HR1.out hb2 (heap_lt HR1.out)
  have HB2 : Aside (Below w.heap.size w w2) := step_below HB1.out hb2
  clear hb2 HB1 HX1 HE1 HR1
  clear z ze
  have ze : ∀ i, w2.cell? ⟨w.heap.size + 1, i, none⟩ = #[Value.int .i64 x.k, .int .i64 x.j, .int .i64 x.v, .int .i64 x.t, .int .i64 x.c][i]? := fun i => Joins.cell_of_block HE2.out i
  go_wp2_with fail
  refine (hce _).mono ?_
  rintro r w3 ⟨rfl, hb3⟩
  have HX3 : Aside _ := heap_below HX2.out hb3 (heap_lt HX2.out)
  have HE3 : Aside _ := heap_below HE2.out hb3 (heap_lt HE2.out)
  have HR3 : Aside _ := heap_below HR2.out hb3 (heap_lt HR2.out)
  have HB3 : Aside (Below w.heap.size w w3) := step_below HB2.out hb3
  clear hb3 HB2 HX2 HE2 HR2
  clear ze hce
  have zr : ∀ i, w3.cell? ⟨w.heap.size + 1 + 1, i, none⟩ = #[Value.int .i64 0, .int .i64 0, .int .i64 0, .int .i64 0, .int .i64 0, .int .i64 0, .int .i64 0, .int .i64 0, .int .i64 0, .int .i64 0, .slice none 0 0, .slice none 0 0][i]? := fun i => Joins.cell_of_block HR3.out i
  have fzr : ∀ i, w3.frozen? ⟨w.heap.size + 1 + 1, i, none⟩ = false := fun i => Joins.unfrozen_of_block HR3.out i
  go_wp2
  refine ret_st (p := 4) (q := 5) w3 (w.heap.size + 1 + 1) (Cl.zero) nil0 nil0 (o := Cl.zero) (u1 := nil0) (u2 := nil0) Try.results19 rfl rfl rfl HR3.out rfl ?_
  exact ⟨rfl, st12_below HB3.out (by omega) _ _ _⟩

set_option linter.unusedSimpArgs false in
set_option maxHeartbeats 4000000 in
set_option maxRecDepth 100000 in
theorem rw_junk (c : Cl) (a1 a2 : Option Addr) (m1 k1 m2 k2 : Nat) (x : En) (w : World) (hb : BkAt w (.slice a1 m1 k1) (.slice a2 m2 k2) c) (hck : c.ck = 0) (hd : (c.d != 0) = false) (hx : x.chk = 0) (hk : (x.k == 0) = true) :
    AnsX 19 #[c.val (.slice a1 m1 k1) (.slice a2 m2 k2), x.val] w (Cl.zero, 4) nil0 nil0 := by
  have HB0 : Aside (Below w.heap.size w (((w.alloc (boxC c (.slice a1 m1 k1) (.slice a2 m2 k2))).alloc (boxE x.k x.j x.v x.t x.c)).alloc (boxC Cl.zero nil0 nil0))) := grew (grew (grew (Below.refl _ _) _) _) _
  have HX0 : Aside ((((w.alloc (boxC c (.slice a1 m1 k1) (.slice a2 m2 k2))).alloc (boxE x.k x.j x.v x.t x.c)).alloc (boxC Cl.zero nil0 nil0)).heap[w.heap.size]? = some (boxC c (.slice a1 m1 k1) (.slice a2 m2 k2))) := heap_old (heap_old (heap_new _ _) _) _
  have HE0 : Aside ((((w.alloc (boxC c (.slice a1 m1 k1) (.slice a2 m2 k2))).alloc (boxE x.k x.j x.v x.t x.c)).alloc (boxC Cl.zero nil0 nil0)).heap[w.heap.size + 1]? = some (boxE x.k x.j x.v x.t x.c)) := by
    have := heap_new (w.alloc (boxC c (.slice a1 m1 k1) (.slice a2 m2 k2))) (boxE x.k x.j x.v x.t x.c)
    rw [World.size_alloc] at this
    exact heap_old (this) _
  have HR0 : Aside ((((w.alloc (boxC c (.slice a1 m1 k1) (.slice a2 m2 k2))).alloc (boxE x.k x.j x.v x.t x.c)).alloc (boxC Cl.zero nil0 nil0)).heap[w.heap.size + 1 + 1]? = some (boxC Cl.zero nil0 nil0)) := by
    have := heap_new ((w.alloc (boxC c (.slice a1 m1 k1) (.slice a2 m2 k2))).alloc (boxE x.k x.j x.v x.t x.c)) (boxC Cl.zero nil0 nil0)
    rw [World.size_alloc, World.size_alloc] at this
    exact this
  have kc := ref_ckClient c (.slice a1 m1 k1) (.slice a2 m2 k2) _ (bkAt_later hb HB0.out)
  rw [hck] at kc
  have HK : Aside (BkAt w (.slice a1 m1 k1) (.slice a2 m2 k2) c) := hb
  clear hb hck
  have hce : ∀ W, Calls Try.prog 54 #[ev x.k x.j x.v x.t x.c] W fun e w' => e = .returned (.int .i64 x.chk) ∧ Below W.heap.size W w' := fun W => ref_check x.k x.j x.v x.t x.c W
  rw [hx] at hce
  clear hx
  go_enter Try.func19, Try.ntmps19
  go_wp2_with fail
  refine kc.mono ?_
  rintro r w1 ⟨rfl, hb1⟩
  have HX1 : Aside _ := heap_below HX0.out hb1 (heap_lt HX0.out)
  have HE1 : Aside _ := heap_below HE0.out hb1 (heap_lt HE0.out)
  have HR1 : Aside _ := heap_below HR0.out hb1 (heap_lt HR0.out)
  have HB1 : Aside (Below w.heap.size w w1) := step_below HB0.out hb1
  clear hb1 HB0 HX0 HE0 HR0
  clear kc
  have z : ∀ i, w1.cell? ⟨w.heap.size, i, none⟩ = #[Value.int .i64 c.p, .int .i64 c.d, .int .i64 c.e.k, .int .i64 c.e.j, .int .i64 c.e.v, .int .i64 c.e.t, .int .i64 c.e.c, .int .i64 c.a, .int .i64 c.l, .int .i64 c.n, .slice a1 m1 k1, .slice a2 m2 k2][i]? := fun i => Joins.cell_of_block HX1.out i
  have ze : ∀ i, w1.cell? ⟨w.heap.size + 1, i, none⟩ = #[Value.int .i64 x.k, .int .i64 x.j, .int .i64 x.v, .int .i64 x.t, .int .i64 x.c][i]? := fun i => Joins.cell_of_block HE1.out i
  go_wp2_with fail
  refine (hce _).mono ?_
  rintro r w2 ⟨rfl, hb2⟩
  have HX2 : Aside _ := heap_below HX1.out hb2 (heap_lt HX1.out)
  have HE2 : Aside _ := heap_below HE1.out hb2 (heap_lt HE1.out)
  have HR2 : Aside _ := heap_below HR1.out hb2 (heap_lt HR1.out)
  have HB2 : Aside (Below w.heap.size w w2) := step_below HB1.out hb2
  clear hb2 HB1 HX1 HE1 HR1
  clear z ze hce
  have ze : ∀ i, w2.cell? ⟨w.heap.size + 1, i, none⟩ = #[Value.int .i64 x.k, .int .i64 x.j, .int .i64 x.v, .int .i64 x.t, .int .i64 x.c][i]? := fun i => Joins.cell_of_block HE2.out i
  have zr : ∀ i, w2.cell? ⟨w.heap.size + 1 + 1, i, none⟩ = #[Value.int .i64 0, .int .i64 0, .int .i64 0, .int .i64 0, .int .i64 0, .int .i64 0, .int .i64 0, .int .i64 0, .int .i64 0, .int .i64 0, .slice none 0 0, .slice none 0 0][i]? := fun i => Joins.cell_of_block HR2.out i
  have fzr : ∀ i, w2.frozen? ⟨w.heap.size + 1 + 1, i, none⟩ = false := fun i => Joins.unfrozen_of_block HR2.out i
  go_wp2
  refine ret_st (p := 4) (q := 5) w2 (w.heap.size + 1 + 1) (Cl.zero) nil0 nil0 (o := Cl.zero) (u1 := nil0) (u2 := nil0) Try.results19 rfl rfl rfl HR2.out rfl ?_
  exact ⟨rfl, st12_below HB2.out (by omega) _ _ _⟩

set_option linter.unusedSimpArgs false in
set_option maxHeartbeats 4000000 in
set_option maxRecDepth 100000 in
theorem rw_ok (c : Cl) (a1 a2 : Option Addr) (m1 k1 m2 k2 : Nat) (x : En) (w : World) (hb : BkAt w (.slice a1 m1 k1) (.slice a2 m2 k2) c) (hck : c.ck = 0) (hd : (c.d != 0) = false) (hx : x.chk = 0) (hk : (x.k == 0) = false) :
    AnsX 19 #[c.val (.slice a1 m1 k1) (.slice a2 m2 k2), x.val] w (⟨c.p, 1, x, c.a, c.l, c.n, c.js, c.rs⟩, 0) (.slice a1 m1 k1) (.slice a2 m2 k2) := by
  have HB0 : Aside (Below w.heap.size w (((w.alloc (boxC c (.slice a1 m1 k1) (.slice a2 m2 k2))).alloc (boxE x.k x.j x.v x.t x.c)).alloc (boxC Cl.zero nil0 nil0))) := grew (grew (grew (Below.refl _ _) _) _) _
  have HX0 : Aside ((((w.alloc (boxC c (.slice a1 m1 k1) (.slice a2 m2 k2))).alloc (boxE x.k x.j x.v x.t x.c)).alloc (boxC Cl.zero nil0 nil0)).heap[w.heap.size]? = some (boxC c (.slice a1 m1 k1) (.slice a2 m2 k2))) := heap_old (heap_old (heap_new _ _) _) _
  have HE0 : Aside ((((w.alloc (boxC c (.slice a1 m1 k1) (.slice a2 m2 k2))).alloc (boxE x.k x.j x.v x.t x.c)).alloc (boxC Cl.zero nil0 nil0)).heap[w.heap.size + 1]? = some (boxE x.k x.j x.v x.t x.c)) := by
    have := heap_new (w.alloc (boxC c (.slice a1 m1 k1) (.slice a2 m2 k2))) (boxE x.k x.j x.v x.t x.c)
    rw [World.size_alloc] at this
    exact heap_old (this) _
  have HR0 : Aside ((((w.alloc (boxC c (.slice a1 m1 k1) (.slice a2 m2 k2))).alloc (boxE x.k x.j x.v x.t x.c)).alloc (boxC Cl.zero nil0 nil0)).heap[w.heap.size + 1 + 1]? = some (boxC Cl.zero nil0 nil0)) := by
    have := heap_new ((w.alloc (boxC c (.slice a1 m1 k1) (.slice a2 m2 k2))).alloc (boxE x.k x.j x.v x.t x.c)) (boxC Cl.zero nil0 nil0)
    rw [World.size_alloc, World.size_alloc] at this
    exact this
  have kc := ref_ckClient c (.slice a1 m1 k1) (.slice a2 m2 k2) _ (bkAt_later hb HB0.out)
  rw [hck] at kc
  have HK : Aside (BkAt w (.slice a1 m1 k1) (.slice a2 m2 k2) c) := hb
  clear hb hck
  have hce : ∀ W, Calls Try.prog 54 #[ev x.k x.j x.v x.t x.c] W fun e w' => e = .returned (.int .i64 x.chk) ∧ Below W.heap.size W w' := fun W => ref_check x.k x.j x.v x.t x.c W
  rw [hx] at hce
  clear hx
  go_enter Try.func19, Try.ntmps19
  go_wp2_with fail
  refine kc.mono ?_
  rintro r w1 ⟨rfl, hb1⟩
  have HX1 : Aside _ := heap_below HX0.out hb1 (heap_lt HX0.out)
  have HE1 : Aside _ := heap_below HE0.out hb1 (heap_lt HE0.out)
  have HR1 : Aside _ := heap_below HR0.out hb1 (heap_lt HR0.out)
  have HB1 : Aside (Below w.heap.size w w1) := step_below HB0.out hb1
  clear hb1 HB0 HX0 HE0 HR0
  clear kc
  have z : ∀ i, w1.cell? ⟨w.heap.size, i, none⟩ = #[Value.int .i64 c.p, .int .i64 c.d, .int .i64 c.e.k, .int .i64 c.e.j, .int .i64 c.e.v, .int .i64 c.e.t, .int .i64 c.e.c, .int .i64 c.a, .int .i64 c.l, .int .i64 c.n, .slice a1 m1 k1, .slice a2 m2 k2][i]? := fun i => Joins.cell_of_block HX1.out i
  have ze : ∀ i, w1.cell? ⟨w.heap.size + 1, i, none⟩ = #[Value.int .i64 x.k, .int .i64 x.j, .int .i64 x.v, .int .i64 x.t, .int .i64 x.c][i]? := fun i => Joins.cell_of_block HE1.out i
  go_wp2_with fail
  refine (hce _).mono ?_
  rintro r w2 ⟨rfl, hb2⟩
  have HX2 : Aside _ := heap_below HX1.out hb2 (heap_lt HX1.out)
  have HE2 : Aside _ := heap_below HE1.out hb2 (heap_lt HE1.out)
  have HR2 : Aside _ := heap_below HR1.out hb2 (heap_lt HR1.out)
  have HB2 : Aside (Below w.heap.size w w2) := step_below HB1.out hb2
  clear hb2 HB1 HX1 HE1 HR1
  clear z ze hce
  have ze : ∀ i, w2.cell? ⟨w.heap.size + 1, i, none⟩ = #[Value.int .i64 x.k, .int .i64 x.j, .int .i64 x.v, .int .i64 x.t, .int .i64 x.c][i]? := fun i => Joins.cell_of_block HE2.out i
  go_upto_region 11 with fail
  clear ze
  have HXd : Aside (w2.drew.heap[w.heap.size]? = some (boxC c (.slice a1 m1 k1) (.slice a2 m2 k2))) := HX2.out
  have HEd : Aside (w2.drew.heap[w.heap.size + 1]? = some (boxE x.k x.j x.v x.t x.c)) := HE2.out
  have HRd : Aside (w2.drew.heap[w.heap.size + 1 + 1]? = some (boxC Cl.zero nil0 nil0)) := HR2.out
  have HBd : Aside (Below w.heap.size w w2.drew) := HB2.out.drew
  have hS0 : C5 w2.drew (w.heap.size + 1) x := c5_of HEd.out
  have hne : w.heap.size + 1 ≠ w.heap.size := by omega
  clear HX2 HE2 HR2 HB2
  refine wp_region_held_drew (S := fun w' => C5 w' (w.heap.size + 1) x) (by kernel_rfl) (hS0) (fun hHeld => ?_)
  clear hS0
  generalize w2.drew = X at *
  refine wpAnyH_take (i := 0) (oi := ?oi0) (v := ?v0) ?hi0 ?hs0 ?hf0 ?hr0 ?hQ0 (Or.inl ⟨?hw0, ?hy0⟩) (by assumption) ?h0
  case hi0 => (simp only [List.getElem?_toArray, List.getElem?_cons_succ, List.getElem?_cons_zero]; rfl)
  case hs0 => kernel_rfl
  case hf0 => kernel_rfl
  case hr0 => kernel_rfl
  case hw0 => rfl
  case hy0 => (intro w0 hSw; (try dsimp only at hSw); go_simp; first | done | with_reducible rfl)
  case hQ0 => exact fun _ _ _ h => h
  try simp only [Act.put, List.setIfInBounds_toArray, List.set_cons_zero, List.set_cons_succ]
  refine wpAnyH_take (i := 1) (oi := ?oi1) (v := ?v1) ?hi1 ?hs1 ?hf1 ?hr1 ?hQ1 (Or.inl ⟨?hw1, ?hy1⟩) (by assumption) ?h1
  case hi1 => (simp only [List.getElem?_toArray, List.getElem?_cons_succ, List.getElem?_cons_zero]; rfl)
  case hs1 => kernel_rfl
  case hf1 => kernel_rfl
  case hr1 => kernel_rfl
  case hw1 => rfl
  case hy1 => (intro w0 hSw; (try dsimp only at hSw); go_simp; first | done | with_reducible rfl)
  case hQ1 => exact fun _ _ _ h => h
  try simp only [Act.put, List.setIfInBounds_toArray, List.set_cons_zero, List.set_cons_succ]
  have z : ∀ i, X.cell? ⟨w.heap.size, i, none⟩ = #[Value.int .i64 c.p, .int .i64 c.d, .int .i64 c.e.k, .int .i64 c.e.j, .int .i64 c.e.v, .int .i64 c.e.t, .int .i64 c.e.c, .int .i64 c.a, .int .i64 c.l, .int .i64 c.n, .slice a1 m1 k1, .slice a2 m2 k2][i]? := fun i => Joins.cell_of_block HXd.out i
  have fz : ∀ i, X.frozen? ⟨w.heap.size, i, none⟩ = false := fun i => Joins.unfrozen_of_block HXd.out i
  refine wpAnyH_ready (rs := [2]) (by kernel_rfl) (by simp) ?_
  refine AllReadyH.cons (o := ?o2) ?hi2 ?step2 AllReadyH.nil
  case hi2 => (simp only [List.getElem?_toArray, List.getElem?_cons_succ, List.getElem?_cons_zero]; rfl)
  intro K hK
  go_simp
  refine hK.out _ _ (c5_set hHeld hne 1 _) (fun hHeld => ?_)
  clear hK K
  try simp only [Act.put, List.setIfInBounds_toArray, List.set_cons_zero, List.set_cons_succ]
  refine wpAnyH_take (i := 3) (oi := ?oi3) (v := ?v3) ?hi3 ?hs3 ?hf3 ?hr3 ?hQ3 (Or.inl ⟨?hw3, ?hy3⟩) (by assumption) ?h3
  case hi3 => (simp only [List.getElem?_toArray, List.getElem?_cons_succ, List.getElem?_cons_zero]; rfl)
  case hs3 => kernel_rfl
  case hf3 => kernel_rfl
  case hr3 => kernel_rfl
  case hw3 => rfl
  case hy3 => (intro w0 hSw; (try dsimp only at hSw); go_simp; first | done | with_reducible rfl)
  case hQ3 => exact fun _ _ _ h => h
  try simp only [Act.put, List.setIfInBounds_toArray, List.set_cons_zero, List.set_cons_succ]
  refine wpAnyH_ready (rs := [4]) (by kernel_rfl) (by simp) ?_
  refine AllReadyH.cons (o := ?o4) ?hi4 ?step4 AllReadyH.nil
  case hi4 => (simp only [List.getElem?_toArray, List.getElem?_cons_succ, List.getElem?_cons_zero]; rfl)
  intro K hK
  go_simp
  refine hK.out _ _ (c5_set (c5_set (c5_set (c5_set (c5_set hHeld hne 2 _) hne 3 _) hne 4 _) hne 5 _) hne 6 _) (fun hHeld => ?_)
  clear hK K
  try simp only [Act.put, List.setIfInBounds_toArray, List.set_cons_zero, List.set_cons_succ]
  refine wpAnyH_done (by kernel_rfl) ?_ _
  clear z fz HEd
  have g0 := Joins.block_setCell HXd.out (i := 1) (.int .i64 1)
  have g1 := Joins.block_setCell g0 (i := 2) (.int .i64 x.k)
  have g2 := Joins.block_setCell g1 (i := 3) (.int .i64 x.j)
  have g3 := Joins.block_setCell g2 (i := 4) (.int .i64 x.v)
  have g4 := Joins.block_setCell g3 (i := 5) (.int .i64 x.t)
  have g5 := Joins.block_setCell g4 (i := 6) (.int .i64 x.c)
  simp only [List.setIfInBounds_toArray, List.set_cons_zero, List.set_cons_succ] at g5
  have hrs : w.heap.size + 1 + 1 ≠ w.heap.size := by omega
  have HX6 : Aside (((((((X.setCell ⟨w.heap.size, 1, none⟩ (.int .i64 1)).setCell ⟨w.heap.size, 2, none⟩ (.int .i64 x.k)).setCell ⟨w.heap.size, 3, none⟩ (.int .i64 x.j)).setCell ⟨w.heap.size, 4, none⟩ (.int .i64 x.v)).setCell ⟨w.heap.size, 5, none⟩ (.int .i64 x.t)).setCell ⟨w.heap.size, 6, none⟩ (.int .i64 x.c)).heap[w.heap.size]? = some (boxC (⟨c.p, 1, x, c.a, c.l, c.n, c.js, c.rs⟩ : Cl) (.slice a1 m1 k1) (.slice a2 m2 k2))) := g5
  have HR6 : Aside (((((((X.setCell ⟨w.heap.size, 1, none⟩ (.int .i64 1)).setCell ⟨w.heap.size, 2, none⟩ (.int .i64 x.k)).setCell ⟨w.heap.size, 3, none⟩ (.int .i64 x.j)).setCell ⟨w.heap.size, 4, none⟩ (.int .i64 x.v)).setCell ⟨w.heap.size, 5, none⟩ (.int .i64 x.t)).setCell ⟨w.heap.size, 6, none⟩ (.int .i64 x.c)).heap[w.heap.size + 1 + 1]? = some (boxC Cl.zero nil0 nil0)) := by
    rw [Aside, Below.heap_setCell _ _ _ _ (by exact hrs), Below.heap_setCell _ _ _ _ (by exact hrs), Below.heap_setCell _ _ _ _ (by exact hrs), Below.heap_setCell _ _ _ _ (by exact hrs), Below.heap_setCell _ _ _ _ (by exact hrs), Below.heap_setCell _ _ _ _ (by exact hrs)]
    exact HRd.out
  have HB6 : Aside (Below w.heap.size w ((((((X.setCell ⟨w.heap.size, 1, none⟩ (.int .i64 1)).setCell ⟨w.heap.size, 2, none⟩ (.int .i64 x.k)).setCell ⟨w.heap.size, 3, none⟩ (.int .i64 x.j)).setCell ⟨w.heap.size, 4, none⟩ (.int .i64 x.v)).setCell ⟨w.heap.size, 5, none⟩ (.int .i64 x.t)).setCell ⟨w.heap.size, 6, none⟩ (.int .i64 x.c))) := ((((((HBd.out).setCell (p := ⟨w.heap.size, 1, none⟩) (Nat.le_refl _) _).setCell (p := ⟨w.heap.size, 2, none⟩) (Nat.le_refl _) _).setCell (p := ⟨w.heap.size, 3, none⟩) (Nat.le_refl _) _).setCell (p := ⟨w.heap.size, 4, none⟩) (Nat.le_refl _) _).setCell (p := ⟨w.heap.size, 5, none⟩) (Nat.le_refl _) _).setCell (p := ⟨w.heap.size, 6, none⟩) (Nat.le_refl _) _
  clear g0 g1 g2 g3 g4 g5 HXd HRd HBd
  generalize ((((((X.setCell ⟨w.heap.size, 1, none⟩ (.int .i64 1)).setCell ⟨w.heap.size, 2, none⟩ (.int .i64 x.k)).setCell ⟨w.heap.size, 3, none⟩ (.int .i64 x.j)).setCell ⟨w.heap.size, 4, none⟩ (.int .i64 x.v)).setCell ⟨w.heap.size, 5, none⟩ (.int .i64 x.t)).setCell ⟨w.heap.size, 6, none⟩ (.int .i64 x.c)) = w6 at *
  have z : ∀ i, w6.cell? ⟨w.heap.size, i, none⟩ = #[Value.int .i64 ((⟨c.p, 1, x, c.a, c.l, c.n, c.js, c.rs⟩ : Cl)).p, .int .i64 ((⟨c.p, 1, x, c.a, c.l, c.n, c.js, c.rs⟩ : Cl)).d, .int .i64 ((⟨c.p, 1, x, c.a, c.l, c.n, c.js, c.rs⟩ : Cl)).e.k, .int .i64 ((⟨c.p, 1, x, c.a, c.l, c.n, c.js, c.rs⟩ : Cl)).e.j, .int .i64 ((⟨c.p, 1, x, c.a, c.l, c.n, c.js, c.rs⟩ : Cl)).e.v, .int .i64 ((⟨c.p, 1, x, c.a, c.l, c.n, c.js, c.rs⟩ : Cl)).e.t, .int .i64 ((⟨c.p, 1, x, c.a, c.l, c.n, c.js, c.rs⟩ : Cl)).e.c, .int .i64 ((⟨c.p, 1, x, c.a, c.l, c.n, c.js, c.rs⟩ : Cl)).a, .int .i64 ((⟨c.p, 1, x, c.a, c.l, c.n, c.js, c.rs⟩ : Cl)).l, .int .i64 ((⟨c.p, 1, x, c.a, c.l, c.n, c.js, c.rs⟩ : Cl)).n, .slice a1 m1 k1, .slice a2 m2 k2][i]? := fun i => Joins.cell_of_block HX6.out i
  have zr : ∀ i, w6.cell? ⟨w.heap.size + 1 + 1, i, none⟩ = #[Value.int .i64 0, .int .i64 0, .int .i64 0, .int .i64 0, .int .i64 0, .int .i64 0, .int .i64 0, .int .i64 0, .int .i64 0, .int .i64 0, .slice none 0 0, .slice none 0 0][i]? := fun i => Joins.cell_of_block HR6.out i
  have fzr : ∀ i, w6.frozen? ⟨w.heap.size + 1 + 1, i, none⟩ = false := fun i => Joins.unfrozen_of_block HR6.out i
  go_wp2
  refine ret_st (p := 4) (q := 5) w6 (w.heap.size + 1 + 1) ((⟨c.p, 1, x, c.a, c.l, c.n, c.js, c.rs⟩ : Cl)) (.slice a1 m1 k1) (.slice a2 m2 k2) (o := Cl.zero) (u1 := nil0) (u2 := nil0) Try.results19 rfl rfl rfl HR6.out rfl ?_
  exact ⟨rfl, st12_below HB6.out (by omega) _ _ _⟩

/-- The reference's Wanted. -/
theorem ref_wanted (c : Cl) (x : En) (v1 v2 : Value) (w : World) (hb : BkAt w v1 v2 c) : AnsC 19 #[c.val v1 v2, x.val] w (wantOf c x) := by
  obtain ⟨a1, k1, a2, k2, rfl, rfl⟩ := bk_slices hb.1 hb.2
  unfold wantOf
  by_cases hc : c.ck = 0
  · rw [if_neg (by simpa using hc)]
    by_cases hd : c.d = 0
    · have hdb : (c.d != 0) = false := by rw [hd]; rfl
      rw [if_neg (by simpa using hd)]
      by_cases hx : x.chk = 0
      · rw [if_neg (by simpa using hx)]
        by_cases hk : x.k = 0
        · rw [if_pos hk]
          exact ansC_zero <| rw_junk c a1 a2 _ k1 _ k2 x w hb hc hdb hx (by rw [hk]; rfl)
        · rw [if_neg hk]
          exact ansC_of (r := (⟨c.p, 1, x, c.a, c.l, c.n, c.js, c.rs⟩, 0)) hb <| rw_ok c a1 a2 _ k1 _ k2 x w hb hc hdb hx (by rw [beq_eq_false_iff_ne]; exact hk)
      · rw [if_pos hx]
        exact ansC_zero <| rw_ent c a1 a2 _ k1 _ k2 x w hb hc hdb _ rfl (by rw [bne_iff_ne]; exact hx)
    · rw [if_pos hd]
      exact ansC_zero <| rw_late c a1 a2 _ k1 _ k2 x w hb hc (by rw [bne_iff_ne]; exact hd)
  · rw [if_pos hc]
    exact ansC_zero <| rw_ck c a1 a2 _ k1 _ k2 x w hb _ rfl (by rw [bne_iff_ne]; exact hc)

end Go.Proofs.Ytbokdcdnandgbae
namespace Go.Proofs.Ytbokdcdnandgbae
open Go.RowKit

set_option linter.unusedSimpArgs false in
set_option maxHeartbeats 4000000 in
set_option maxRecDepth 100000 in
theorem pf_ck (c : Cl) (a1 a2 : Option Addr) (m1 k1 m2 k2 : Nat) (q : Int) (w : World) (hb : BkAt w (.slice a1 m1 k1) (.slice a2 m2 k2) c) (d : Int) (hck : c.ck = d) (hz : (d != 0) = true) :
    AnsX 21 #[c.val (.slice a1 m1 k1) (.slice a2 m2 k2), .int .i64 q, .bool true] w (Cl.zero, d) nil0 nil0 := by
  have HB0 : Aside (Below w.heap.size w ((w.alloc (boxC c (.slice a1 m1 k1) (.slice a2 m2 k2))).alloc (boxC Cl.zero nil0 nil0))) := grew (grew (Below.refl _ _) _) _
  have HX0 : Aside (((w.alloc (boxC c (.slice a1 m1 k1) (.slice a2 m2 k2))).alloc (boxC Cl.zero nil0 nil0)).heap[w.heap.size]? = some (boxC c (.slice a1 m1 k1) (.slice a2 m2 k2))) := heap_old (heap_new _ _) _
  have HR0 : Aside (((w.alloc (boxC c (.slice a1 m1 k1) (.slice a2 m2 k2))).alloc (boxC Cl.zero nil0 nil0)).heap[w.heap.size + 1]? = some (boxC Cl.zero nil0 nil0)) := by
    have := heap_new (w.alloc (boxC c (.slice a1 m1 k1) (.slice a2 m2 k2))) (boxC Cl.zero nil0 nil0)
    rw [World.size_alloc] at this
    exact this
  have kc := ref_ckClient c (.slice a1 m1 k1) (.slice a2 m2 k2) _ (bkAt_later hb HB0.out)
  rw [hck] at kc
  have HK : Aside (BkAt w (.slice a1 m1 k1) (.slice a2 m2 k2) c) := hb
  clear hb hck
  go_enter Try.func21, Try.ntmps21
  go_wp2_with fail
  refine kc.mono ?_
  rintro r w1 ⟨rfl, hb1⟩
  have HX1 : Aside _ := heap_below HX0.out hb1 (heap_lt HX0.out)
  have HR1 : Aside _ := heap_below HR0.out hb1 (heap_lt HR0.out)
  have HB1 : Aside (Below w.heap.size w w1) := step_below HB0.out hb1
  clear hb1 HB0 HX0 HR0
  clear kc
  have zr : ∀ i, w1.cell? ⟨w.heap.size + 1, i, none⟩ = #[Value.int .i64 0, .int .i64 0, .int .i64 0, .int .i64 0, .int .i64 0, .int .i64 0, .int .i64 0, .int .i64 0, .int .i64 0, .int .i64 0, .slice none 0 0, .slice none 0 0][i]? := fun i => Joins.cell_of_block HR1.out i
  have fzr : ∀ i, w1.frozen? ⟨w.heap.size + 1, i, none⟩ = false := fun i => Joins.unfrozen_of_block HR1.out i
  go_wp2
  refine ret_st (p := 6) (q := 7) w1 (w.heap.size + 1) (Cl.zero) nil0 nil0 (o := Cl.zero) (u1 := nil0) (u2 := nil0) Try.results21 rfl rfl rfl HR1.out rfl ?_
  exact ⟨rfl, st12_below HB1.out (by omega) _ _ _⟩

set_option linter.unusedSimpArgs false in
set_option maxHeartbeats 4000000 in
set_option maxRecDepth 100000 in
theorem pf_late (c : Cl) (a1 a2 : Option Addr) (m1 k1 m2 k2 : Nat) (q : Int) (w : World) (hb : BkAt w (.slice a1 m1 k1) (.slice a2 m2 k2) c) (hck : c.ck = 0)(hd : (c.d != 0) = true) :
    AnsX 21 #[c.val (.slice a1 m1 k1) (.slice a2 m2 k2), .int .i64 q, .bool true] w (Cl.zero, 7) nil0 nil0 := by
  have HB0 : Aside (Below w.heap.size w ((w.alloc (boxC c (.slice a1 m1 k1) (.slice a2 m2 k2))).alloc (boxC Cl.zero nil0 nil0))) := grew (grew (Below.refl _ _) _) _
  have HX0 : Aside (((w.alloc (boxC c (.slice a1 m1 k1) (.slice a2 m2 k2))).alloc (boxC Cl.zero nil0 nil0)).heap[w.heap.size]? = some (boxC c (.slice a1 m1 k1) (.slice a2 m2 k2))) := heap_old (heap_new _ _) _
  have HR0 : Aside (((w.alloc (boxC c (.slice a1 m1 k1) (.slice a2 m2 k2))).alloc (boxC Cl.zero nil0 nil0)).heap[w.heap.size + 1]? = some (boxC Cl.zero nil0 nil0)) := by
    have := heap_new (w.alloc (boxC c (.slice a1 m1 k1) (.slice a2 m2 k2))) (boxC Cl.zero nil0 nil0)
    rw [World.size_alloc] at this
    exact this
  have kc := ref_ckClient c (.slice a1 m1 k1) (.slice a2 m2 k2) _ (bkAt_later hb HB0.out)
  rw [hck] at kc
  have HK : Aside (BkAt w (.slice a1 m1 k1) (.slice a2 m2 k2) c) := hb
  clear hb hck
  go_enter Try.func21, Try.ntmps21
  go_wp2_with fail
  refine kc.mono ?_
  rintro r w1 ⟨rfl, hb1⟩
  have HX1 : Aside _ := heap_below HX0.out hb1 (heap_lt HX0.out)
  have HR1 : Aside _ := heap_below HR0.out hb1 (heap_lt HR0.out)
  have HB1 : Aside (Below w.heap.size w w1) := step_below HB0.out hb1
  clear hb1 HB0 HX0 HR0
  clear kc
  have z : ∀ i, w1.cell? ⟨w.heap.size, i, none⟩ = #[Value.int .i64 c.p, .int .i64 c.d, .int .i64 c.e.k, .int .i64 c.e.j, .int .i64 c.e.v, .int .i64 c.e.t, .int .i64 c.e.c, .int .i64 c.a, .int .i64 c.l, .int .i64 c.n, .slice a1 m1 k1, .slice a2 m2 k2][i]? := fun i => Joins.cell_of_block HX1.out i
  have zr : ∀ i, w1.cell? ⟨w.heap.size + 1, i, none⟩ = #[Value.int .i64 0, .int .i64 0, .int .i64 0, .int .i64 0, .int .i64 0, .int .i64 0, .int .i64 0, .int .i64 0, .int .i64 0, .int .i64 0, .slice none 0 0, .slice none 0 0][i]? := fun i => Joins.cell_of_block HR1.out i
  have fzr : ∀ i, w1.frozen? ⟨w.heap.size + 1, i, none⟩ = false := fun i => Joins.unfrozen_of_block HR1.out i
  go_wp2
  refine ret_st (p := 6) (q := 7) w1 (w.heap.size + 1) (Cl.zero) nil0 nil0 (o := Cl.zero) (u1 := nil0) (u2 := nil0) Try.results21 rfl rfl rfl HR1.out rfl ?_
  exact ⟨rfl, st12_below HB1.out (by omega) _ _ _⟩

set_option linter.unusedSimpArgs false in
set_option maxHeartbeats 4000000 in
set_option maxRecDepth 100000 in
theorem pf_who (c : Cl) (a1 a2 : Option Addr) (m1 k1 m2 k2 : Nat) (q : Int) (w : World) (hb : BkAt w (.slice a1 m1 k1) (.slice a2 m2 k2) c) (hck : c.ck = 0)(hd : (c.d != 0) = false) (h0 : ¬ (0 ≤ q ∧ q ≤ 59)) :
    AnsX 21 #[c.val (.slice a1 m1 k1) (.slice a2 m2 k2), .int .i64 q, .bool true] w (Cl.zero, 5) nil0 nil0 := by
  have HB0 : Aside (Below w.heap.size w ((w.alloc (boxC c (.slice a1 m1 k1) (.slice a2 m2 k2))).alloc (boxC Cl.zero nil0 nil0))) := grew (grew (Below.refl _ _) _) _
  have HX0 : Aside (((w.alloc (boxC c (.slice a1 m1 k1) (.slice a2 m2 k2))).alloc (boxC Cl.zero nil0 nil0)).heap[w.heap.size]? = some (boxC c (.slice a1 m1 k1) (.slice a2 m2 k2))) := heap_old (heap_new _ _) _
  have HR0 : Aside (((w.alloc (boxC c (.slice a1 m1 k1) (.slice a2 m2 k2))).alloc (boxC Cl.zero nil0 nil0)).heap[w.heap.size + 1]? = some (boxC Cl.zero nil0 nil0)) := by
    have := heap_new (w.alloc (boxC c (.slice a1 m1 k1) (.slice a2 m2 k2))) (boxC Cl.zero nil0 nil0)
    rw [World.size_alloc] at this
    exact this
  have kc := ref_ckClient c (.slice a1 m1 k1) (.slice a2 m2 k2) _ (bkAt_later hb HB0.out)
  rw [hck] at kc
  have HK : Aside (BkAt w (.slice a1 m1 k1) (.slice a2 m2 k2) c) := hb
  clear hb hck
  have hin := fun W => in_any q 0 59 W
  rw [decide_eq_false h0] at hin
  clear h0
  go_enter Try.func21, Try.ntmps21
  go_wp2_with fail
  refine kc.mono ?_
  rintro r w1 ⟨rfl, hb1⟩
  have HX1 : Aside _ := heap_below HX0.out hb1 (heap_lt HX0.out)
  have HR1 : Aside _ := heap_below HR0.out hb1 (heap_lt HR0.out)
  have HB1 : Aside (Below w.heap.size w w1) := step_below HB0.out hb1
  clear hb1 HB0 HX0 HR0
  clear kc
  have z : ∀ i, w1.cell? ⟨w.heap.size, i, none⟩ = #[Value.int .i64 c.p, .int .i64 c.d, .int .i64 c.e.k, .int .i64 c.e.j, .int .i64 c.e.v, .int .i64 c.e.t, .int .i64 c.e.c, .int .i64 c.a, .int .i64 c.l, .int .i64 c.n, .slice a1 m1 k1, .slice a2 m2 k2][i]? := fun i => Joins.cell_of_block HX1.out i
  go_wp2_with fail
  refine (hin _).mono ?_
  rintro r wx ⟨rfl, hwx⟩
  obtain rfl : w1 = wx := hwx.symm
  have zr : ∀ i, w1.cell? ⟨w.heap.size + 1, i, none⟩ = #[Value.int .i64 0, .int .i64 0, .int .i64 0, .int .i64 0, .int .i64 0, .int .i64 0, .int .i64 0, .int .i64 0, .int .i64 0, .int .i64 0, .slice none 0 0, .slice none 0 0][i]? := fun i => Joins.cell_of_block HR1.out i
  have fzr : ∀ i, w1.frozen? ⟨w.heap.size + 1, i, none⟩ = false := fun i => Joins.unfrozen_of_block HR1.out i
  go_wp2
  refine ret_st (p := 6) (q := 7) w1 (w.heap.size + 1) (Cl.zero) nil0 nil0 (o := Cl.zero) (u1 := nil0) (u2 := nil0) Try.results21 rfl rfl rfl HR1.out rfl ?_
  exact ⟨rfl, st12_below HB1.out (by omega) _ _ _⟩

set_option linter.unusedSimpArgs false in
set_option maxHeartbeats 4000000 in
set_option maxRecDepth 100000 in
theorem pf_ok (c : Cl) (a1 a2 : Option Addr) (m1 k1 m2 k2 : Nat) (q : Int) (w : World) (hb : BkAt w (.slice a1 m1 k1) (.slice a2 m2 k2) c) (hck : c.ck = 0)(hd : (c.d != 0) = false) (h0 : 0 ≤ q ∧ q ≤ 59) :
    AnsX 21 #[c.val (.slice a1 m1 k1) (.slice a2 m2 k2), .int .i64 q, .bool true] w ((⟨c.p, 2, c.e, q, c.l, c.n, c.js, c.rs⟩ : Cl), 0) (.slice a1 m1 k1) (.slice a2 m2 k2) := by
  have HB0 : Aside (Below w.heap.size w ((w.alloc (boxC c (.slice a1 m1 k1) (.slice a2 m2 k2))).alloc (boxC Cl.zero nil0 nil0))) := grew (grew (Below.refl _ _) _) _
  have HX0 : Aside (((w.alloc (boxC c (.slice a1 m1 k1) (.slice a2 m2 k2))).alloc (boxC Cl.zero nil0 nil0)).heap[w.heap.size]? = some (boxC c (.slice a1 m1 k1) (.slice a2 m2 k2))) := heap_old (heap_new _ _) _
  have HR0 : Aside (((w.alloc (boxC c (.slice a1 m1 k1) (.slice a2 m2 k2))).alloc (boxC Cl.zero nil0 nil0)).heap[w.heap.size + 1]? = some (boxC Cl.zero nil0 nil0)) := by
    have := heap_new (w.alloc (boxC c (.slice a1 m1 k1) (.slice a2 m2 k2))) (boxC Cl.zero nil0 nil0)
    rw [World.size_alloc] at this
    exact this
  have kc := ref_ckClient c (.slice a1 m1 k1) (.slice a2 m2 k2) _ (bkAt_later hb HB0.out)
  rw [hck] at kc
  have HK : Aside (BkAt w (.slice a1 m1 k1) (.slice a2 m2 k2) c) := hb
  clear hb hck
  have hin := fun W => in_any q 0 59 W
  rw [decide_eq_true h0] at hin
  clear h0
  go_enter Try.func21, Try.ntmps21
  go_wp2_with fail
  refine kc.mono ?_
  rintro r w1 ⟨rfl, hb1⟩
  have HX1 : Aside _ := heap_below HX0.out hb1 (heap_lt HX0.out)
  have HR1 : Aside _ := heap_below HR0.out hb1 (heap_lt HR0.out)
  have HB1 : Aside (Below w.heap.size w w1) := step_below HB0.out hb1
  clear hb1 HB0 HX0 HR0
  clear kc
  have z : ∀ i, w1.cell? ⟨w.heap.size, i, none⟩ = #[Value.int .i64 c.p, .int .i64 c.d, .int .i64 c.e.k, .int .i64 c.e.j, .int .i64 c.e.v, .int .i64 c.e.t, .int .i64 c.e.c, .int .i64 c.a, .int .i64 c.l, .int .i64 c.n, .slice a1 m1 k1, .slice a2 m2 k2][i]? := fun i => Joins.cell_of_block HX1.out i
  have fz : ∀ i, w1.frozen? ⟨w.heap.size, i, none⟩ = false := fun i => Joins.unfrozen_of_block HX1.out i
  go_wp2_with fail
  refine (hin _).mono ?_
  rintro r wx ⟨rfl, hwx⟩
  obtain rfl : w1 = wx := hwx.symm
  go_upto_region 11 with fail
  clear z fz hin
  have g0 := Joins.block_setCell HX1.out (i := 1) (.int .i64 2)
  have g1 := Joins.block_setCell g0 (i := 7) (.int .i64 q)
  simp only [List.setIfInBounds_toArray, List.set_cons_zero, List.set_cons_succ] at g1
  have hrs : w.heap.size + 1 ≠ w.heap.size := by omega
  have HX2 : Aside (((w1.setCell ⟨w.heap.size, 1, none⟩ (.int .i64 2)).setCell ⟨w.heap.size, 7, none⟩ (.int .i64 q)).heap[w.heap.size]? = some (boxC (⟨c.p, 2, c.e, q, c.l, c.n, c.js, c.rs⟩ : Cl) (.slice a1 m1 k1) (.slice a2 m2 k2))) := g1
  have HR2 : Aside (((w1.setCell ⟨w.heap.size, 1, none⟩ (.int .i64 2)).setCell ⟨w.heap.size, 7, none⟩ (.int .i64 q)).heap[w.heap.size + 1]? = some (boxC Cl.zero nil0 nil0)) := by
    rw [Aside, Below.heap_setCell _ _ _ _ (by exact hrs), Below.heap_setCell _ _ _ _ (by exact hrs)]
    exact HR1.out
  have HB2 : Aside (Below w.heap.size w ((w1.setCell ⟨w.heap.size, 1, none⟩ (.int .i64 2)).setCell ⟨w.heap.size, 7, none⟩ (.int .i64 q))) := ((HB1.out).setCell (p := ⟨w.heap.size, 1, none⟩) (Nat.le_refl _) _).setCell (p := ⟨w.heap.size, 7, none⟩) (Nat.le_refl _) _
  clear g0 g1 HX1 HR1 HB1
  generalize ((w1.setCell ⟨w.heap.size, 1, none⟩ (.int .i64 2)).setCell ⟨w.heap.size, 7, none⟩ (.int .i64 q)) = w2 at *
  have z : ∀ i, w2.cell? ⟨w.heap.size, i, none⟩ = #[Value.int .i64 ((⟨c.p, 2, c.e, q, c.l, c.n, c.js, c.rs⟩ : Cl)).p, .int .i64 ((⟨c.p, 2, c.e, q, c.l, c.n, c.js, c.rs⟩ : Cl)).d, .int .i64 ((⟨c.p, 2, c.e, q, c.l, c.n, c.js, c.rs⟩ : Cl)).e.k, .int .i64 ((⟨c.p, 2, c.e, q, c.l, c.n, c.js, c.rs⟩ : Cl)).e.j, .int .i64 ((⟨c.p, 2, c.e, q, c.l, c.n, c.js, c.rs⟩ : Cl)).e.v, .int .i64 ((⟨c.p, 2, c.e, q, c.l, c.n, c.js, c.rs⟩ : Cl)).e.t, .int .i64 ((⟨c.p, 2, c.e, q, c.l, c.n, c.js, c.rs⟩ : Cl)).e.c, .int .i64 ((⟨c.p, 2, c.e, q, c.l, c.n, c.js, c.rs⟩ : Cl)).a, .int .i64 ((⟨c.p, 2, c.e, q, c.l, c.n, c.js, c.rs⟩ : Cl)).l, .int .i64 ((⟨c.p, 2, c.e, q, c.l, c.n, c.js, c.rs⟩ : Cl)).n, .slice a1 m1 k1, .slice a2 m2 k2][i]? := fun i => Joins.cell_of_block HX2.out i
  have zr : ∀ i, w2.cell? ⟨w.heap.size + 1, i, none⟩ = #[Value.int .i64 0, .int .i64 0, .int .i64 0, .int .i64 0, .int .i64 0, .int .i64 0, .int .i64 0, .int .i64 0, .int .i64 0, .int .i64 0, .slice none 0 0, .slice none 0 0][i]? := fun i => Joins.cell_of_block HR2.out i
  have fzr : ∀ i, w2.frozen? ⟨w.heap.size + 1, i, none⟩ = false := fun i => Joins.unfrozen_of_block HR2.out i
  go_wp2
  refine ret_st (p := 6) (q := 7) w2 (w.heap.size + 1) ((⟨c.p, 2, c.e, q, c.l, c.n, c.js, c.rs⟩ : Cl)) (.slice a1 m1 k1) (.slice a2 m2 k2) (o := Cl.zero) (u1 := nil0) (u2 := nil0) Try.results21 rfl rfl rfl HR2.out rfl ?_
  exact ⟨rfl, st12_below HB2.out (by omega) _ _ _⟩

set_option linter.unusedSimpArgs false in
set_option maxHeartbeats 4000000 in
set_option maxRecDepth 100000 in
theorem pp_ck (c : Cl) (a1 a2 : Option Addr) (m1 k1 m2 k2 : Nat) (q : Int) (w : World) (hb : BkAt w (.slice a1 m1 k1) (.slice a2 m2 k2) c) (d : Int) (hck : c.ck = d) (hz : (d != 0) = true) :
    AnsX 21 #[c.val (.slice a1 m1 k1) (.slice a2 m2 k2), .int .i64 q, .bool false] w (Cl.zero, d) nil0 nil0 := by
  have HB0 : Aside (Below w.heap.size w ((w.alloc (boxC c (.slice a1 m1 k1) (.slice a2 m2 k2))).alloc (boxC Cl.zero nil0 nil0))) := grew (grew (Below.refl _ _) _) _
  have HX0 : Aside (((w.alloc (boxC c (.slice a1 m1 k1) (.slice a2 m2 k2))).alloc (boxC Cl.zero nil0 nil0)).heap[w.heap.size]? = some (boxC c (.slice a1 m1 k1) (.slice a2 m2 k2))) := heap_old (heap_new _ _) _
  have HR0 : Aside (((w.alloc (boxC c (.slice a1 m1 k1) (.slice a2 m2 k2))).alloc (boxC Cl.zero nil0 nil0)).heap[w.heap.size + 1]? = some (boxC Cl.zero nil0 nil0)) := by
    have := heap_new (w.alloc (boxC c (.slice a1 m1 k1) (.slice a2 m2 k2))) (boxC Cl.zero nil0 nil0)
    rw [World.size_alloc] at this
    exact this
  have kc := ref_ckClient c (.slice a1 m1 k1) (.slice a2 m2 k2) _ (bkAt_later hb HB0.out)
  rw [hck] at kc
  have HK : Aside (BkAt w (.slice a1 m1 k1) (.slice a2 m2 k2) c) := hb
  clear hb hck
  go_enter Try.func21, Try.ntmps21
  go_wp2_with fail
  refine kc.mono ?_
  rintro r w1 ⟨rfl, hb1⟩
  have HX1 : Aside _ := heap_below HX0.out hb1 (heap_lt HX0.out)
  have HR1 : Aside _ := heap_below HR0.out hb1 (heap_lt HR0.out)
  have HB1 : Aside (Below w.heap.size w w1) := step_below HB0.out hb1
  clear hb1 HB0 HX0 HR0
  clear kc
  have zr : ∀ i, w1.cell? ⟨w.heap.size + 1, i, none⟩ = #[Value.int .i64 0, .int .i64 0, .int .i64 0, .int .i64 0, .int .i64 0, .int .i64 0, .int .i64 0, .int .i64 0, .int .i64 0, .int .i64 0, .slice none 0 0, .slice none 0 0][i]? := fun i => Joins.cell_of_block HR1.out i
  have fzr : ∀ i, w1.frozen? ⟨w.heap.size + 1, i, none⟩ = false := fun i => Joins.unfrozen_of_block HR1.out i
  go_wp2
  refine ret_st (p := 6) (q := 7) w1 (w.heap.size + 1) (Cl.zero) nil0 nil0 (o := Cl.zero) (u1 := nil0) (u2 := nil0) Try.results21 rfl rfl rfl HR1.out rfl ?_
  exact ⟨rfl, st12_below HB1.out (by omega) _ _ _⟩

set_option linter.unusedSimpArgs false in
set_option maxHeartbeats 4000000 in
set_option maxRecDepth 100000 in
theorem pp_late (c : Cl) (a1 a2 : Option Addr) (m1 k1 m2 k2 : Nat) (q : Int) (w : World) (hb : BkAt w (.slice a1 m1 k1) (.slice a2 m2 k2) c) (hck : c.ck = 0)(hd : (c.d != 1) = true) :
    AnsX 21 #[c.val (.slice a1 m1 k1) (.slice a2 m2 k2), .int .i64 q, .bool false] w (Cl.zero, 7) nil0 nil0 := by
  have HB0 : Aside (Below w.heap.size w ((w.alloc (boxC c (.slice a1 m1 k1) (.slice a2 m2 k2))).alloc (boxC Cl.zero nil0 nil0))) := grew (grew (Below.refl _ _) _) _
  have HX0 : Aside (((w.alloc (boxC c (.slice a1 m1 k1) (.slice a2 m2 k2))).alloc (boxC Cl.zero nil0 nil0)).heap[w.heap.size]? = some (boxC c (.slice a1 m1 k1) (.slice a2 m2 k2))) := heap_old (heap_new _ _) _
  have HR0 : Aside (((w.alloc (boxC c (.slice a1 m1 k1) (.slice a2 m2 k2))).alloc (boxC Cl.zero nil0 nil0)).heap[w.heap.size + 1]? = some (boxC Cl.zero nil0 nil0)) := by
    have := heap_new (w.alloc (boxC c (.slice a1 m1 k1) (.slice a2 m2 k2))) (boxC Cl.zero nil0 nil0)
    rw [World.size_alloc] at this
    exact this
  have kc := ref_ckClient c (.slice a1 m1 k1) (.slice a2 m2 k2) _ (bkAt_later hb HB0.out)
  rw [hck] at kc
  have HK : Aside (BkAt w (.slice a1 m1 k1) (.slice a2 m2 k2) c) := hb
  clear hb hck
  go_enter Try.func21, Try.ntmps21
  go_wp2_with fail
  refine kc.mono ?_
  rintro r w1 ⟨rfl, hb1⟩
  have HX1 : Aside _ := heap_below HX0.out hb1 (heap_lt HX0.out)
  have HR1 : Aside _ := heap_below HR0.out hb1 (heap_lt HR0.out)
  have HB1 : Aside (Below w.heap.size w w1) := step_below HB0.out hb1
  clear hb1 HB0 HX0 HR0
  clear kc
  have z : ∀ i, w1.cell? ⟨w.heap.size, i, none⟩ = #[Value.int .i64 c.p, .int .i64 c.d, .int .i64 c.e.k, .int .i64 c.e.j, .int .i64 c.e.v, .int .i64 c.e.t, .int .i64 c.e.c, .int .i64 c.a, .int .i64 c.l, .int .i64 c.n, .slice a1 m1 k1, .slice a2 m2 k2][i]? := fun i => Joins.cell_of_block HX1.out i
  have zr : ∀ i, w1.cell? ⟨w.heap.size + 1, i, none⟩ = #[Value.int .i64 0, .int .i64 0, .int .i64 0, .int .i64 0, .int .i64 0, .int .i64 0, .int .i64 0, .int .i64 0, .int .i64 0, .int .i64 0, .slice none 0 0, .slice none 0 0][i]? := fun i => Joins.cell_of_block HR1.out i
  have fzr : ∀ i, w1.frozen? ⟨w.heap.size + 1, i, none⟩ = false := fun i => Joins.unfrozen_of_block HR1.out i
  go_wp2
  refine ret_st (p := 6) (q := 7) w1 (w.heap.size + 1) (Cl.zero) nil0 nil0 (o := Cl.zero) (u1 := nil0) (u2 := nil0) Try.results21 rfl rfl rfl HR1.out rfl ?_
  exact ⟨rfl, st12_below HB1.out (by omega) _ _ _⟩

set_option linter.unusedSimpArgs false in
set_option maxHeartbeats 4000000 in
set_option maxRecDepth 100000 in
theorem pp_who (c : Cl) (a1 a2 : Option Addr) (m1 k1 m2 k2 : Nat) (q : Int) (w : World) (hb : BkAt w (.slice a1 m1 k1) (.slice a2 m2 k2) c) (hck : c.ck = 0)(hd : (c.d != 1) = false) (h0 : ¬ (0 ≤ q ∧ q ≤ 59)) :
    AnsX 21 #[c.val (.slice a1 m1 k1) (.slice a2 m2 k2), .int .i64 q, .bool false] w (Cl.zero, 5) nil0 nil0 := by
  have HB0 : Aside (Below w.heap.size w ((w.alloc (boxC c (.slice a1 m1 k1) (.slice a2 m2 k2))).alloc (boxC Cl.zero nil0 nil0))) := grew (grew (Below.refl _ _) _) _
  have HX0 : Aside (((w.alloc (boxC c (.slice a1 m1 k1) (.slice a2 m2 k2))).alloc (boxC Cl.zero nil0 nil0)).heap[w.heap.size]? = some (boxC c (.slice a1 m1 k1) (.slice a2 m2 k2))) := heap_old (heap_new _ _) _
  have HR0 : Aside (((w.alloc (boxC c (.slice a1 m1 k1) (.slice a2 m2 k2))).alloc (boxC Cl.zero nil0 nil0)).heap[w.heap.size + 1]? = some (boxC Cl.zero nil0 nil0)) := by
    have := heap_new (w.alloc (boxC c (.slice a1 m1 k1) (.slice a2 m2 k2))) (boxC Cl.zero nil0 nil0)
    rw [World.size_alloc] at this
    exact this
  have kc := ref_ckClient c (.slice a1 m1 k1) (.slice a2 m2 k2) _ (bkAt_later hb HB0.out)
  rw [hck] at kc
  have HK : Aside (BkAt w (.slice a1 m1 k1) (.slice a2 m2 k2) c) := hb
  clear hb hck
  have hin := fun W => in_any q 0 59 W
  rw [decide_eq_false h0] at hin
  clear h0
  go_enter Try.func21, Try.ntmps21
  go_wp2_with fail
  refine kc.mono ?_
  rintro r w1 ⟨rfl, hb1⟩
  have HX1 : Aside _ := heap_below HX0.out hb1 (heap_lt HX0.out)
  have HR1 : Aside _ := heap_below HR0.out hb1 (heap_lt HR0.out)
  have HB1 : Aside (Below w.heap.size w w1) := step_below HB0.out hb1
  clear hb1 HB0 HX0 HR0
  clear kc
  have z : ∀ i, w1.cell? ⟨w.heap.size, i, none⟩ = #[Value.int .i64 c.p, .int .i64 c.d, .int .i64 c.e.k, .int .i64 c.e.j, .int .i64 c.e.v, .int .i64 c.e.t, .int .i64 c.e.c, .int .i64 c.a, .int .i64 c.l, .int .i64 c.n, .slice a1 m1 k1, .slice a2 m2 k2][i]? := fun i => Joins.cell_of_block HX1.out i
  go_wp2_with fail
  refine (hin _).mono ?_
  rintro r wx ⟨rfl, hwx⟩
  obtain rfl : w1 = wx := hwx.symm
  have zr : ∀ i, w1.cell? ⟨w.heap.size + 1, i, none⟩ = #[Value.int .i64 0, .int .i64 0, .int .i64 0, .int .i64 0, .int .i64 0, .int .i64 0, .int .i64 0, .int .i64 0, .int .i64 0, .int .i64 0, .slice none 0 0, .slice none 0 0][i]? := fun i => Joins.cell_of_block HR1.out i
  have fzr : ∀ i, w1.frozen? ⟨w.heap.size + 1, i, none⟩ = false := fun i => Joins.unfrozen_of_block HR1.out i
  go_wp2
  refine ret_st (p := 6) (q := 7) w1 (w.heap.size + 1) (Cl.zero) nil0 nil0 (o := Cl.zero) (u1 := nil0) (u2 := nil0) Try.results21 rfl rfl rfl HR1.out rfl ?_
  exact ⟨rfl, st12_below HB1.out (by omega) _ _ _⟩

set_option linter.unusedSimpArgs false in
set_option maxHeartbeats 4000000 in
set_option maxRecDepth 100000 in
theorem pp_ok (c : Cl) (a1 a2 : Option Addr) (m1 k1 m2 k2 : Nat) (q : Int) (w : World) (hb : BkAt w (.slice a1 m1 k1) (.slice a2 m2 k2) c) (hck : c.ck = 0)(hd : (c.d != 1) = false) (h0 : 0 ≤ q ∧ q ≤ 59) :
    AnsX 21 #[c.val (.slice a1 m1 k1) (.slice a2 m2 k2), .int .i64 q, .bool false] w ((⟨c.p, 2, c.e, q, c.l, c.n, c.js, c.rs⟩ : Cl), 0) (.slice a1 m1 k1) (.slice a2 m2 k2) := by
  have HB0 : Aside (Below w.heap.size w ((w.alloc (boxC c (.slice a1 m1 k1) (.slice a2 m2 k2))).alloc (boxC Cl.zero nil0 nil0))) := grew (grew (Below.refl _ _) _) _
  have HX0 : Aside (((w.alloc (boxC c (.slice a1 m1 k1) (.slice a2 m2 k2))).alloc (boxC Cl.zero nil0 nil0)).heap[w.heap.size]? = some (boxC c (.slice a1 m1 k1) (.slice a2 m2 k2))) := heap_old (heap_new _ _) _
  have HR0 : Aside (((w.alloc (boxC c (.slice a1 m1 k1) (.slice a2 m2 k2))).alloc (boxC Cl.zero nil0 nil0)).heap[w.heap.size + 1]? = some (boxC Cl.zero nil0 nil0)) := by
    have := heap_new (w.alloc (boxC c (.slice a1 m1 k1) (.slice a2 m2 k2))) (boxC Cl.zero nil0 nil0)
    rw [World.size_alloc] at this
    exact this
  have kc := ref_ckClient c (.slice a1 m1 k1) (.slice a2 m2 k2) _ (bkAt_later hb HB0.out)
  rw [hck] at kc
  have HK : Aside (BkAt w (.slice a1 m1 k1) (.slice a2 m2 k2) c) := hb
  clear hb hck
  have hin := fun W => in_any q 0 59 W
  rw [decide_eq_true h0] at hin
  clear h0
  go_enter Try.func21, Try.ntmps21
  go_wp2_with fail
  refine kc.mono ?_
  rintro r w1 ⟨rfl, hb1⟩
  have HX1 : Aside _ := heap_below HX0.out hb1 (heap_lt HX0.out)
  have HR1 : Aside _ := heap_below HR0.out hb1 (heap_lt HR0.out)
  have HB1 : Aside (Below w.heap.size w w1) := step_below HB0.out hb1
  clear hb1 HB0 HX0 HR0
  clear kc
  have z : ∀ i, w1.cell? ⟨w.heap.size, i, none⟩ = #[Value.int .i64 c.p, .int .i64 c.d, .int .i64 c.e.k, .int .i64 c.e.j, .int .i64 c.e.v, .int .i64 c.e.t, .int .i64 c.e.c, .int .i64 c.a, .int .i64 c.l, .int .i64 c.n, .slice a1 m1 k1, .slice a2 m2 k2][i]? := fun i => Joins.cell_of_block HX1.out i
  have fz : ∀ i, w1.frozen? ⟨w.heap.size, i, none⟩ = false := fun i => Joins.unfrozen_of_block HX1.out i
  go_wp2_with fail
  refine (hin _).mono ?_
  rintro r wx ⟨rfl, hwx⟩
  obtain rfl : w1 = wx := hwx.symm
  go_upto_region 11 with fail
  clear z fz hin
  have g0 := Joins.block_setCell HX1.out (i := 1) (.int .i64 2)
  have g1 := Joins.block_setCell g0 (i := 7) (.int .i64 q)
  simp only [List.setIfInBounds_toArray, List.set_cons_zero, List.set_cons_succ] at g1
  have hrs : w.heap.size + 1 ≠ w.heap.size := by omega
  have HX2 : Aside (((w1.setCell ⟨w.heap.size, 1, none⟩ (.int .i64 2)).setCell ⟨w.heap.size, 7, none⟩ (.int .i64 q)).heap[w.heap.size]? = some (boxC (⟨c.p, 2, c.e, q, c.l, c.n, c.js, c.rs⟩ : Cl) (.slice a1 m1 k1) (.slice a2 m2 k2))) := g1
  have HR2 : Aside (((w1.setCell ⟨w.heap.size, 1, none⟩ (.int .i64 2)).setCell ⟨w.heap.size, 7, none⟩ (.int .i64 q)).heap[w.heap.size + 1]? = some (boxC Cl.zero nil0 nil0)) := by
    rw [Aside, Below.heap_setCell _ _ _ _ (by exact hrs), Below.heap_setCell _ _ _ _ (by exact hrs)]
    exact HR1.out
  have HB2 : Aside (Below w.heap.size w ((w1.setCell ⟨w.heap.size, 1, none⟩ (.int .i64 2)).setCell ⟨w.heap.size, 7, none⟩ (.int .i64 q))) := ((HB1.out).setCell (p := ⟨w.heap.size, 1, none⟩) (Nat.le_refl _) _).setCell (p := ⟨w.heap.size, 7, none⟩) (Nat.le_refl _) _
  clear g0 g1 HX1 HR1 HB1
  generalize ((w1.setCell ⟨w.heap.size, 1, none⟩ (.int .i64 2)).setCell ⟨w.heap.size, 7, none⟩ (.int .i64 q)) = w2 at *
  have z : ∀ i, w2.cell? ⟨w.heap.size, i, none⟩ = #[Value.int .i64 ((⟨c.p, 2, c.e, q, c.l, c.n, c.js, c.rs⟩ : Cl)).p, .int .i64 ((⟨c.p, 2, c.e, q, c.l, c.n, c.js, c.rs⟩ : Cl)).d, .int .i64 ((⟨c.p, 2, c.e, q, c.l, c.n, c.js, c.rs⟩ : Cl)).e.k, .int .i64 ((⟨c.p, 2, c.e, q, c.l, c.n, c.js, c.rs⟩ : Cl)).e.j, .int .i64 ((⟨c.p, 2, c.e, q, c.l, c.n, c.js, c.rs⟩ : Cl)).e.v, .int .i64 ((⟨c.p, 2, c.e, q, c.l, c.n, c.js, c.rs⟩ : Cl)).e.t, .int .i64 ((⟨c.p, 2, c.e, q, c.l, c.n, c.js, c.rs⟩ : Cl)).e.c, .int .i64 ((⟨c.p, 2, c.e, q, c.l, c.n, c.js, c.rs⟩ : Cl)).a, .int .i64 ((⟨c.p, 2, c.e, q, c.l, c.n, c.js, c.rs⟩ : Cl)).l, .int .i64 ((⟨c.p, 2, c.e, q, c.l, c.n, c.js, c.rs⟩ : Cl)).n, .slice a1 m1 k1, .slice a2 m2 k2][i]? := fun i => Joins.cell_of_block HX2.out i
  have zr : ∀ i, w2.cell? ⟨w.heap.size + 1, i, none⟩ = #[Value.int .i64 0, .int .i64 0, .int .i64 0, .int .i64 0, .int .i64 0, .int .i64 0, .int .i64 0, .int .i64 0, .int .i64 0, .int .i64 0, .slice none 0 0, .slice none 0 0][i]? := fun i => Joins.cell_of_block HR2.out i
  have fzr : ∀ i, w2.frozen? ⟨w.heap.size + 1, i, none⟩ = false := fun i => Joins.unfrozen_of_block HR2.out i
  go_wp2
  refine ret_st (p := 6) (q := 7) w2 (w.heap.size + 1) ((⟨c.p, 2, c.e, q, c.l, c.n, c.js, c.rs⟩ : Cl)) (.slice a1 m1 k1) (.slice a2 m2 k2) (o := Cl.zero) (u1 := nil0) (u2 := nil0) Try.results21 rfl rfl rfl HR2.out rfl ?_
  exact ⟨rfl, st12_below HB2.out (by omega) _ _ _⟩

/-- The reference's Placed, where a place is filled (0), or got (1). -/
theorem ref_placed0 (c : Cl) (q : Int) (v1 v2 : Value) (w : World) (hb : BkAt w v1 v2 c) : AnsC 21 #[c.val v1 v2, .int .i64 q, .bool true] w (placeOf 0 c q) := by
  obtain ⟨a1, k1, a2, k2, rfl, rfl⟩ := bk_slices hb.1 hb.2
  unfold placeOf
  by_cases hc : c.ck = 0
  · rw [if_neg (by simpa using hc)]
    by_cases hd : c.d = 0
    · have hdb : (c.d != 0) = false := by rw [hd]; rfl
      rw [if_neg (by simpa using hd)]
      by_cases hq : 0 ≤ q ∧ q ≤ 59
      · rw [if_neg (by simpa using hq)]
        exact ansC_of hb <| pf_ok c a1 a2 _ k1 _ k2 q w hb hc hdb hq
      · rw [if_pos hq]
        exact ansC_zero <| pf_who c a1 a2 _ k1 _ k2 q w hb hc hdb hq
    · rw [if_pos hd]
      exact ansC_zero <| pf_late c a1 a2 _ k1 _ k2 q w hb hc (by rw [bne_iff_ne]; exact hd)
  · rw [if_pos hc]
    exact ansC_zero <| pf_ck c a1 a2 _ k1 _ k2 q w hb _ rfl (by rw [bne_iff_ne]; exact hc)

theorem ref_placed1 (c : Cl) (q : Int) (v1 v2 : Value) (w : World) (hb : BkAt w v1 v2 c) : AnsC 21 #[c.val v1 v2, .int .i64 q, .bool false] w (placeOf 1 c q) := by
  obtain ⟨a1, k1, a2, k2, rfl, rfl⟩ := bk_slices hb.1 hb.2
  unfold placeOf
  by_cases hc : c.ck = 0
  · rw [if_neg (by simpa using hc)]
    by_cases hd : c.d = 1
    · have hdb : (c.d != 1) = false := by rw [hd]; rfl
      rw [if_neg (by simpa using hd)]
      by_cases hq : 0 ≤ q ∧ q ≤ 59
      · rw [if_neg (by simpa using hq)]
        exact ansC_of hb <| pp_ok c a1 a2 _ k1 _ k2 q w hb hc hdb hq
      · rw [if_pos hq]
        exact ansC_zero <| pp_who c a1 a2 _ k1 _ k2 q w hb hc hdb hq
    · rw [if_pos hd]
      exact ansC_zero <| pp_late c a1 a2 _ k1 _ k2 q w hb hc (by rw [bne_iff_ne]; exact hd)
  · rw [if_pos hc]
    exact ansC_zero <| pp_ck c a1 a2 _ k1 _ k2 q w hb _ rfl (by rw [bne_iff_ne]; exact hc)

set_option linter.unusedSimpArgs false in
set_option maxHeartbeats 4000000 in
set_option maxRecDepth 100000 in
theorem rl_ck (c : Cl) (a1 a2 : Option Addr) (m1 k1 m2 k2 : Nat) (q : Int) (w : World) (hb : BkAt w (.slice a1 m1 k1) (.slice a2 m2 k2) c) (d : Int) (hck : c.ck = d) (hz : (d != 0) = true) :
    AnsX 33 #[c.val (.slice a1 m1 k1) (.slice a2 m2 k2), .int .i64 q] w (Cl.zero, d) nil0 nil0 := by
  have HB0 : Aside (Below w.heap.size w ((w.alloc (boxC c (.slice a1 m1 k1) (.slice a2 m2 k2))).alloc (boxC Cl.zero nil0 nil0))) := grew (grew (Below.refl _ _) _) _
  have HX0 : Aside (((w.alloc (boxC c (.slice a1 m1 k1) (.slice a2 m2 k2))).alloc (boxC Cl.zero nil0 nil0)).heap[w.heap.size]? = some (boxC c (.slice a1 m1 k1) (.slice a2 m2 k2))) := heap_old (heap_new _ _) _
  have HR0 : Aside (((w.alloc (boxC c (.slice a1 m1 k1) (.slice a2 m2 k2))).alloc (boxC Cl.zero nil0 nil0)).heap[w.heap.size + 1]? = some (boxC Cl.zero nil0 nil0)) := by
    have := heap_new (w.alloc (boxC c (.slice a1 m1 k1) (.slice a2 m2 k2))) (boxC Cl.zero nil0 nil0)
    rw [World.size_alloc] at this
    exact this
  have kc := ref_ckClient c (.slice a1 m1 k1) (.slice a2 m2 k2) _ (bkAt_later hb HB0.out)
  rw [hck] at kc
  have HK : Aside (BkAt w (.slice a1 m1 k1) (.slice a2 m2 k2) c) := hb
  clear hb hck
  go_enter Try.func33, Try.ntmps33
  go_wp2_with fail
  refine kc.mono ?_
  rintro r w1 ⟨rfl, hb1⟩
  have HX1 : Aside _ := heap_below HX0.out hb1 (heap_lt HX0.out)
  have HR1 : Aside _ := heap_below HR0.out hb1 (heap_lt HR0.out)
  have HB1 : Aside (Below w.heap.size w w1) := step_below HB0.out hb1
  clear hb1 HB0 HX0 HR0
  clear kc
  have zr : ∀ i, w1.cell? ⟨w.heap.size + 1, i, none⟩ = #[Value.int .i64 0, .int .i64 0, .int .i64 0, .int .i64 0, .int .i64 0, .int .i64 0, .int .i64 0, .int .i64 0, .int .i64 0, .int .i64 0, .slice none 0 0, .slice none 0 0][i]? := fun i => Joins.cell_of_block HR1.out i
  have fzr : ∀ i, w1.frozen? ⟨w.heap.size + 1, i, none⟩ = false := fun i => Joins.unfrozen_of_block HR1.out i
  go_wp2
  refine ret_st (p := 4) (q := 5) w1 (w.heap.size + 1) (Cl.zero) nil0 nil0 (o := Cl.zero) (u1 := nil0) (u2 := nil0) Try.results33 rfl rfl rfl HR1.out rfl ?_
  exact ⟨rfl, st12_below HB1.out (by omega) _ _ _⟩

set_option linter.unusedSimpArgs false in
set_option maxHeartbeats 4000000 in
set_option maxRecDepth 100000 in
theorem rl_rng (c : Cl) (a1 a2 : Option Addr) (m1 k1 m2 k2 : Nat) (q : Int) (w : World) (hb : BkAt w (.slice a1 m1 k1) (.slice a2 m2 k2) c) (hck : c.ck = 0) (h0 : ¬ (1 ≤ q ∧ q ≤ 20)) :
    AnsX 33 #[c.val (.slice a1 m1 k1) (.slice a2 m2 k2), .int .i64 q] w (Cl.zero, 3) nil0 nil0 := by
  have HB0 : Aside (Below w.heap.size w ((w.alloc (boxC c (.slice a1 m1 k1) (.slice a2 m2 k2))).alloc (boxC Cl.zero nil0 nil0))) := grew (grew (Below.refl _ _) _) _
  have HX0 : Aside (((w.alloc (boxC c (.slice a1 m1 k1) (.slice a2 m2 k2))).alloc (boxC Cl.zero nil0 nil0)).heap[w.heap.size]? = some (boxC c (.slice a1 m1 k1) (.slice a2 m2 k2))) := heap_old (heap_new _ _) _
  have HR0 : Aside (((w.alloc (boxC c (.slice a1 m1 k1) (.slice a2 m2 k2))).alloc (boxC Cl.zero nil0 nil0)).heap[w.heap.size + 1]? = some (boxC Cl.zero nil0 nil0)) := by
    have := heap_new (w.alloc (boxC c (.slice a1 m1 k1) (.slice a2 m2 k2))) (boxC Cl.zero nil0 nil0)
    rw [World.size_alloc] at this
    exact this
  have kc := ref_ckClient c (.slice a1 m1 k1) (.slice a2 m2 k2) _ (bkAt_later hb HB0.out)
  rw [hck] at kc
  have HK : Aside (BkAt w (.slice a1 m1 k1) (.slice a2 m2 k2) c) := hb
  clear hb hck
  have hin := fun W => in_any q 1 20 W
  rw [decide_eq_false h0] at hin
  clear h0
  go_enter Try.func33, Try.ntmps33
  go_wp2_with fail
  refine kc.mono ?_
  rintro r w1 ⟨rfl, hb1⟩
  have HX1 : Aside _ := heap_below HX0.out hb1 (heap_lt HX0.out)
  have HR1 : Aside _ := heap_below HR0.out hb1 (heap_lt HR0.out)
  have HB1 : Aside (Below w.heap.size w w1) := step_below HB0.out hb1
  clear hb1 HB0 HX0 HR0
  clear kc
  go_wp2_with fail
  refine (hin _).mono ?_
  rintro r wx ⟨rfl, hwx⟩
  obtain rfl : w1 = wx := hwx.symm
  have zr : ∀ i, w1.cell? ⟨w.heap.size + 1, i, none⟩ = #[Value.int .i64 0, .int .i64 0, .int .i64 0, .int .i64 0, .int .i64 0, .int .i64 0, .int .i64 0, .int .i64 0, .int .i64 0, .int .i64 0, .slice none 0 0, .slice none 0 0][i]? := fun i => Joins.cell_of_block HR1.out i
  have fzr : ∀ i, w1.frozen? ⟨w.heap.size + 1, i, none⟩ = false := fun i => Joins.unfrozen_of_block HR1.out i
  go_wp2
  refine ret_st (p := 4) (q := 5) w1 (w.heap.size + 1) (Cl.zero) nil0 nil0 (o := Cl.zero) (u1 := nil0) (u2 := nil0) Try.results33 rfl rfl rfl HR1.out rfl ?_
  exact ⟨rfl, st12_below HB1.out (by omega) _ _ _⟩

set_option linter.unusedSimpArgs false in
set_option maxHeartbeats 4000000 in
set_option maxRecDepth 100000 in
theorem rl_old (c : Cl) (a1 a2 : Option Addr) (m1 k1 m2 k2 : Nat) (q : Int) (w : World) (hb : BkAt w (.slice a1 m1 k1) (.slice a2 m2 k2) c) (hck : c.ck = 0) (h0 : 1 ≤ q ∧ q ≤ 20) (h1 : decide (q ≤ c.p) = true) :
    AnsX 33 #[c.val (.slice a1 m1 k1) (.slice a2 m2 k2), .int .i64 q] w (Cl.zero, 8) nil0 nil0 := by
  have HB0 : Aside (Below w.heap.size w ((w.alloc (boxC c (.slice a1 m1 k1) (.slice a2 m2 k2))).alloc (boxC Cl.zero nil0 nil0))) := grew (grew (Below.refl _ _) _) _
  have HX0 : Aside (((w.alloc (boxC c (.slice a1 m1 k1) (.slice a2 m2 k2))).alloc (boxC Cl.zero nil0 nil0)).heap[w.heap.size]? = some (boxC c (.slice a1 m1 k1) (.slice a2 m2 k2))) := heap_old (heap_new _ _) _
  have HR0 : Aside (((w.alloc (boxC c (.slice a1 m1 k1) (.slice a2 m2 k2))).alloc (boxC Cl.zero nil0 nil0)).heap[w.heap.size + 1]? = some (boxC Cl.zero nil0 nil0)) := by
    have := heap_new (w.alloc (boxC c (.slice a1 m1 k1) (.slice a2 m2 k2))) (boxC Cl.zero nil0 nil0)
    rw [World.size_alloc] at this
    exact this
  have kc := ref_ckClient c (.slice a1 m1 k1) (.slice a2 m2 k2) _ (bkAt_later hb HB0.out)
  rw [hck] at kc
  have HK : Aside (BkAt w (.slice a1 m1 k1) (.slice a2 m2 k2) c) := hb
  clear hb hck
  have hin := fun W => in_any q 1 20 W
  rw [decide_eq_true h0] at hin
  clear h0
  go_enter Try.func33, Try.ntmps33
  go_wp2_with fail
  refine kc.mono ?_
  rintro r w1 ⟨rfl, hb1⟩
  have HX1 : Aside _ := heap_below HX0.out hb1 (heap_lt HX0.out)
  have HR1 : Aside _ := heap_below HR0.out hb1 (heap_lt HR0.out)
  have HB1 : Aside (Below w.heap.size w w1) := step_below HB0.out hb1
  clear hb1 HB0 HX0 HR0
  clear kc
  have z : ∀ i, w1.cell? ⟨w.heap.size, i, none⟩ = #[Value.int .i64 c.p, .int .i64 c.d, .int .i64 c.e.k, .int .i64 c.e.j, .int .i64 c.e.v, .int .i64 c.e.t, .int .i64 c.e.c, .int .i64 c.a, .int .i64 c.l, .int .i64 c.n, .slice a1 m1 k1, .slice a2 m2 k2][i]? := fun i => Joins.cell_of_block HX1.out i
  go_wp2_with fail
  refine (hin _).mono ?_
  rintro r wx ⟨rfl, hwx⟩
  obtain rfl : w1 = wx := hwx.symm
  have zr : ∀ i, w1.cell? ⟨w.heap.size + 1, i, none⟩ = #[Value.int .i64 0, .int .i64 0, .int .i64 0, .int .i64 0, .int .i64 0, .int .i64 0, .int .i64 0, .int .i64 0, .int .i64 0, .int .i64 0, .slice none 0 0, .slice none 0 0][i]? := fun i => Joins.cell_of_block HR1.out i
  have fzr : ∀ i, w1.frozen? ⟨w.heap.size + 1, i, none⟩ = false := fun i => Joins.unfrozen_of_block HR1.out i
  go_wp2
  refine ret_st (p := 4) (q := 5) w1 (w.heap.size + 1) (Cl.zero) nil0 nil0 (o := Cl.zero) (u1 := nil0) (u2 := nil0) Try.results33 rfl rfl rfl HR1.out rfl ?_
  exact ⟨rfl, st12_below HB1.out (by omega) _ _ _⟩

set_option linter.unusedSimpArgs false in
set_option maxHeartbeats 4000000 in
set_option maxRecDepth 100000 in
theorem rl_ok (c : Cl) (a1 a2 : Option Addr) (m1 k1 m2 k2 : Nat) (q : Int) (w : World) (hb : BkAt w (.slice a1 m1 k1) (.slice a2 m2 k2) c) (hck : c.ck = 0) (h0 : 1 ≤ q ∧ q ≤ 20) (h1 : decide (q ≤ c.p) = false) :
    AnsX 33 #[c.val (.slice a1 m1 k1) (.slice a2 m2 k2), .int .i64 q] w ((⟨q, c.d, c.e, c.a, c.l, c.n, c.js, c.rs⟩ : Cl), 0) (.slice a1 m1 k1) (.slice a2 m2 k2) := by
  have HB0 : Aside (Below w.heap.size w ((w.alloc (boxC c (.slice a1 m1 k1) (.slice a2 m2 k2))).alloc (boxC Cl.zero nil0 nil0))) := grew (grew (Below.refl _ _) _) _
  have HX0 : Aside (((w.alloc (boxC c (.slice a1 m1 k1) (.slice a2 m2 k2))).alloc (boxC Cl.zero nil0 nil0)).heap[w.heap.size]? = some (boxC c (.slice a1 m1 k1) (.slice a2 m2 k2))) := heap_old (heap_new _ _) _
  have HR0 : Aside (((w.alloc (boxC c (.slice a1 m1 k1) (.slice a2 m2 k2))).alloc (boxC Cl.zero nil0 nil0)).heap[w.heap.size + 1]? = some (boxC Cl.zero nil0 nil0)) := by
    have := heap_new (w.alloc (boxC c (.slice a1 m1 k1) (.slice a2 m2 k2))) (boxC Cl.zero nil0 nil0)
    rw [World.size_alloc] at this
    exact this
  have kc := ref_ckClient c (.slice a1 m1 k1) (.slice a2 m2 k2) _ (bkAt_later hb HB0.out)
  rw [hck] at kc
  have HK : Aside (BkAt w (.slice a1 m1 k1) (.slice a2 m2 k2) c) := hb
  clear hb hck
  have hin := fun W => in_any q 1 20 W
  rw [decide_eq_true h0] at hin
  clear h0
  go_enter Try.func33, Try.ntmps33
  go_wp2_with fail
  refine kc.mono ?_
  rintro r w1 ⟨rfl, hb1⟩
  have HX1 : Aside _ := heap_below HX0.out hb1 (heap_lt HX0.out)
  have HR1 : Aside _ := heap_below HR0.out hb1 (heap_lt HR0.out)
  have HB1 : Aside (Below w.heap.size w w1) := step_below HB0.out hb1
  clear hb1 HB0 HX0 HR0
  clear kc
  have z : ∀ i, w1.cell? ⟨w.heap.size, i, none⟩ = #[Value.int .i64 c.p, .int .i64 c.d, .int .i64 c.e.k, .int .i64 c.e.j, .int .i64 c.e.v, .int .i64 c.e.t, .int .i64 c.e.c, .int .i64 c.a, .int .i64 c.l, .int .i64 c.n, .slice a1 m1 k1, .slice a2 m2 k2][i]? := fun i => Joins.cell_of_block HX1.out i
  have fz : ∀ i, w1.frozen? ⟨w.heap.size, i, none⟩ = false := fun i => Joins.unfrozen_of_block HX1.out i
  go_wp2_with fail
  refine (hin _).mono ?_
  rintro r wx ⟨rfl, hwx⟩
  obtain rfl : w1 = wx := hwx.symm
  go_upto_region 10 with fail
  clear z fz hin
  have g0 := Joins.block_setCell HX1.out (i := 0) (.int .i64 q)
  simp only [List.setIfInBounds_toArray, List.set_cons_zero, List.set_cons_succ] at g0
  have hrs : w.heap.size + 1 ≠ w.heap.size := by omega
  have HX2 : Aside ((w1.setCell ⟨w.heap.size, 0, none⟩ (.int .i64 q)).heap[w.heap.size]? = some (boxC (⟨q, c.d, c.e, c.a, c.l, c.n, c.js, c.rs⟩ : Cl) (.slice a1 m1 k1) (.slice a2 m2 k2))) := g0
  have HR2 : Aside ((w1.setCell ⟨w.heap.size, 0, none⟩ (.int .i64 q)).heap[w.heap.size + 1]? = some (boxC Cl.zero nil0 nil0)) := by
    rw [Aside, Below.heap_setCell _ _ _ _ (by exact hrs)]
    exact HR1.out
  have HB2 : Aside (Below w.heap.size w (w1.setCell ⟨w.heap.size, 0, none⟩ (.int .i64 q))) := (HB1.out).setCell (p := ⟨w.heap.size, 0, none⟩) (Nat.le_refl _) _
  clear g0 HX1 HR1 HB1
  generalize (w1.setCell ⟨w.heap.size, 0, none⟩ (.int .i64 q)) = w2 at *
  have z : ∀ i, w2.cell? ⟨w.heap.size, i, none⟩ = #[Value.int .i64 ((⟨q, c.d, c.e, c.a, c.l, c.n, c.js, c.rs⟩ : Cl)).p, .int .i64 ((⟨q, c.d, c.e, c.a, c.l, c.n, c.js, c.rs⟩ : Cl)).d, .int .i64 ((⟨q, c.d, c.e, c.a, c.l, c.n, c.js, c.rs⟩ : Cl)).e.k, .int .i64 ((⟨q, c.d, c.e, c.a, c.l, c.n, c.js, c.rs⟩ : Cl)).e.j, .int .i64 ((⟨q, c.d, c.e, c.a, c.l, c.n, c.js, c.rs⟩ : Cl)).e.v, .int .i64 ((⟨q, c.d, c.e, c.a, c.l, c.n, c.js, c.rs⟩ : Cl)).e.t, .int .i64 ((⟨q, c.d, c.e, c.a, c.l, c.n, c.js, c.rs⟩ : Cl)).e.c, .int .i64 ((⟨q, c.d, c.e, c.a, c.l, c.n, c.js, c.rs⟩ : Cl)).a, .int .i64 ((⟨q, c.d, c.e, c.a, c.l, c.n, c.js, c.rs⟩ : Cl)).l, .int .i64 ((⟨q, c.d, c.e, c.a, c.l, c.n, c.js, c.rs⟩ : Cl)).n, .slice a1 m1 k1, .slice a2 m2 k2][i]? := fun i => Joins.cell_of_block HX2.out i
  have zr : ∀ i, w2.cell? ⟨w.heap.size + 1, i, none⟩ = #[Value.int .i64 0, .int .i64 0, .int .i64 0, .int .i64 0, .int .i64 0, .int .i64 0, .int .i64 0, .int .i64 0, .int .i64 0, .int .i64 0, .slice none 0 0, .slice none 0 0][i]? := fun i => Joins.cell_of_block HR2.out i
  have fzr : ∀ i, w2.frozen? ⟨w.heap.size + 1, i, none⟩ = false := fun i => Joins.unfrozen_of_block HR2.out i
  go_wp2
  refine ret_st (p := 4) (q := 5) w2 (w.heap.size + 1) ((⟨q, c.d, c.e, c.a, c.l, c.n, c.js, c.rs⟩ : Cl)) (.slice a1 m1 k1) (.slice a2 m2 k2) (o := Cl.zero) (u1 := nil0) (u2 := nil0) Try.results33 rfl rfl rfl HR2.out rfl ?_
  exact ⟨rfl, st12_below HB2.out (by omega) _ _ _⟩

/-- The reference's Learned. -/
theorem ref_learned (c : Cl) (q : Int) (v1 v2 : Value) (w : World) (hb : BkAt w v1 v2 c) : AnsC 33 #[c.val v1 v2, .int .i64 q] w (learnOf c q) := by
  obtain ⟨a1, k1, a2, k2, rfl, rfl⟩ := bk_slices hb.1 hb.2
  unfold learnOf
  by_cases hc : c.ck = 0
  · rw [if_neg (by simpa using hc)]
    by_cases hq : 1 ≤ q ∧ q ≤ 20
    · rw [if_neg (by simpa using hq)]
      by_cases ho : q ≤ c.p
      · rw [if_pos ho]
        exact ansC_zero <| rl_old c a1 a2 _ k1 _ k2 q w hb hc hq (decide_eq_true ho)
      · rw [if_neg ho]
        exact ansC_of hb <| rl_ok c a1 a2 _ k1 _ k2 q w hb hc hq (decide_eq_false ho)
    · rw [if_pos hq]
      exact ansC_zero <| rl_rng c a1 a2 _ k1 _ k2 q w hb hc hq
  · rw [if_pos hc]
    exact ansC_zero <| rl_ck c a1 a2 _ k1 _ k2 q w hb _ rfl (by rw [bne_iff_ne]; exact hc)

end Go.Proofs.Ytbokdcdnandgbae
