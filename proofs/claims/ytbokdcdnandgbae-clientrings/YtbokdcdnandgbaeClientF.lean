/- The reference's HeardOf. -/
import Derived.Test.YtbokdcdnandgbaeClientE
import Derived.Deep.CutBlock
import Derived.Deep.RegionHeld3
namespace Go.Proofs.Ytbokdcdnandgbae
open Go.RowKit

set_option linter.unusedSimpArgs false in
set_option maxHeartbeats 4000000 in
set_option maxRecDepth 100000 in
theorem rh_ck (c : Cl) (a1 a2 : Option Addr) (m1 k1 m2 k2 : Nat) (x : En) (w : World) (hb : BkAt w (.slice a1 m1 k1) (.slice a2 m2 k2) c) (d : Int) (hck : c.ck = d) (hz : (d != 0) = true) :
    AnsX 31 #[c.val (.slice a1 m1 k1) (.slice a2 m2 k2), x.val] w (Cl.zero, d) nil0 nil0 := by
  have HB0 : Aside (Below w.heap.size w (((w.alloc (boxC c (.slice a1 m1 k1) (.slice a2 m2 k2))).alloc (boxE x.k x.j x.v x.t x.c)).alloc (boxC Cl.zero nil0 nil0))) := grew (grew (grew (Below.refl _ _) _) _) _
  have HX0 : Aside ((((w.alloc (boxC c (.slice a1 m1 k1) (.slice a2 m2 k2))).alloc (boxE x.k x.j x.v x.t x.c)).alloc (boxC Cl.zero nil0 nil0)).heap[w.heap.size]? = some (boxC c (.slice a1 m1 k1) (.slice a2 m2 k2))) := heap_old (heap_old (heap_new _ _) _) _
  have HE0 : Aside ((((w.alloc (boxC c (.slice a1 m1 k1) (.slice a2 m2 k2))).alloc (boxE x.k x.j x.v x.t x.c)).alloc (boxC Cl.zero nil0 nil0)).heap[w.heap.size + 1]? = some (boxE x.k x.j x.v x.t x.c)) := by
    have := heap_new (w.alloc (boxC c (.slice a1 m1 k1) (.slice a2 m2 k2))) (boxE x.k x.j x.v x.t x.c)
    rw [World.size_alloc] at this
    exact heap_old (this) _
  have HR0 : Aside ((((w.alloc (boxC c (.slice a1 m1 k1) (.slice a2 m2 k2))).alloc (boxE x.k x.j x.v x.t x.c)).alloc (boxC Cl.zero nil0 nil0)).heap[w.heap.size + 1 + 1]? = some (boxC Cl.zero nil0 nil0)) := by
    have := heap_new ((w.alloc (boxC c (.slice a1 m1 k1) (.slice a2 m2 k2))).alloc (boxE x.k x.j x.v x.t x.c)) (boxC Cl.zero nil0 nil0)
    rw [World.size_alloc, World.size_alloc] at this
    exact this
  have kc := ref_ckClient c (.slice a1 m1 k1) (.slice a2 m2 k2) _ (bkAt_later hb HB0.out)
  rw [hck] at kc
  have HK : Aside (BkAt w (.slice a1 m1 k1) (.slice a2 m2 k2) c) := hb
  clear hb hck
  go_enter Try.func31, Try.ntmps31
  go_wp2_with fail
  refine kc.mono ?_
  rintro r w1 ⟨rfl, hb1⟩
  have HX1 : Aside _ := heap_below HX0.out hb1 (heap_lt HX0.out)
  have HE1 : Aside _ := heap_below HE0.out hb1 (heap_lt HE0.out)
  have HR1 : Aside _ := heap_below HR0.out hb1 (heap_lt HR0.out)
  have HB1 : Aside (Below w.heap.size w w1) := step_below HB0.out hb1
  clear hb1 HB0 HX0 HE0 HR0
  clear kc
  have zr : ∀ i, w1.cell? ⟨w.heap.size + 1 + 1, i, none⟩ = #[Value.int .i64 0, .int .i64 0, .int .i64 0, .int .i64 0, .int .i64 0, .int .i64 0, .int .i64 0, .int .i64 0, .int .i64 0, .int .i64 0, .slice none 0 0, .slice none 0 0][i]? := fun i => Joins.cell_of_block HR1.out i
  have fzr : ∀ i, w1.frozen? ⟨w.heap.size + 1 + 1, i, none⟩ = false := fun i => Joins.unfrozen_of_block HR1.out i
  go_wp2
  refine ret_st (p := 4) (q := 5) w1 (w.heap.size + 1 + 1) (Cl.zero) nil0 nil0 (o := Cl.zero) (u1 := nil0) (u2 := nil0) Try.results31 rfl rfl rfl HR1.out rfl ?_
  exact ⟨rfl, st12_below HB1.out (by omega) _ _ _⟩

set_option linter.unusedSimpArgs false in
set_option maxHeartbeats 4000000 in
set_option maxRecDepth 100000 in
theorem rh_ent (c : Cl) (a1 a2 : Option Addr) (m1 k1 m2 k2 : Nat) (x : En) (w : World) (hb : BkAt w (.slice a1 m1 k1) (.slice a2 m2 k2) c) (hck : c.ck = 0) (q : Int) (hx : x.chk = q) (hz : (q != 0) = true) :
    AnsX 31 #[c.val (.slice a1 m1 k1) (.slice a2 m2 k2), x.val] w (Cl.zero, q) nil0 nil0 := by
  have HB0 : Aside (Below w.heap.size w (((w.alloc (boxC c (.slice a1 m1 k1) (.slice a2 m2 k2))).alloc (boxE x.k x.j x.v x.t x.c)).alloc (boxC Cl.zero nil0 nil0))) := grew (grew (grew (Below.refl _ _) _) _) _
  have HX0 : Aside ((((w.alloc (boxC c (.slice a1 m1 k1) (.slice a2 m2 k2))).alloc (boxE x.k x.j x.v x.t x.c)).alloc (boxC Cl.zero nil0 nil0)).heap[w.heap.size]? = some (boxC c (.slice a1 m1 k1) (.slice a2 m2 k2))) := heap_old (heap_old (heap_new _ _) _) _
  have HE0 : Aside ((((w.alloc (boxC c (.slice a1 m1 k1) (.slice a2 m2 k2))).alloc (boxE x.k x.j x.v x.t x.c)).alloc (boxC Cl.zero nil0 nil0)).heap[w.heap.size + 1]? = some (boxE x.k x.j x.v x.t x.c)) := by
    have := heap_new (w.alloc (boxC c (.slice a1 m1 k1) (.slice a2 m2 k2))) (boxE x.k x.j x.v x.t x.c)
    rw [World.size_alloc] at this
    exact heap_old (this) _
  have HR0 : Aside ((((w.alloc (boxC c (.slice a1 m1 k1) (.slice a2 m2 k2))).alloc (boxE x.k x.j x.v x.t x.c)).alloc (boxC Cl.zero nil0 nil0)).heap[w.heap.size + 1 + 1]? = some (boxC Cl.zero nil0 nil0)) := by
    have := heap_new ((w.alloc (boxC c (.slice a1 m1 k1) (.slice a2 m2 k2))).alloc (boxE x.k x.j x.v x.t x.c)) (boxC Cl.zero nil0 nil0)
    rw [World.size_alloc, World.size_alloc] at this
    exact this
  have kc := ref_ckClient c (.slice a1 m1 k1) (.slice a2 m2 k2) _ (bkAt_later hb HB0.out)
  rw [hck] at kc
  have HK : Aside (BkAt w (.slice a1 m1 k1) (.slice a2 m2 k2) c) := hb
  clear hb hck
  have hce : ∀ W, Calls Try.prog 54 #[ev x.k x.j x.v x.t x.c] W fun e w' => e = .returned (.int .i64 x.chk) ∧ Below W.heap.size W w' := fun W => ref_check x.k x.j x.v x.t x.c W
  rw [hx] at hce
  clear hx
  go_enter Try.func31, Try.ntmps31
  go_wp2_with fail
  refine kc.mono ?_
  rintro r w1 ⟨rfl, hb1⟩
  have HX1 : Aside _ := heap_below HX0.out hb1 (heap_lt HX0.out)
  have HE1 : Aside _ := heap_below HE0.out hb1 (heap_lt HE0.out)
  have HR1 : Aside _ := heap_below HR0.out hb1 (heap_lt HR0.out)
  have HB1 : Aside (Below w.heap.size w w1) := step_below HB0.out hb1
  clear hb1 HB0 HX0 HE0 HR0
  clear kc
  have ze : ∀ i, w1.cell? ⟨w.heap.size + 1, i, none⟩ = #[Value.int .i64 x.k, .int .i64 x.j, .int .i64 x.v, .int .i64 x.t, .int .i64 x.c][i]? := fun i => Joins.cell_of_block HE1.out i
  go_wp2_with fail
  refine (hce _).mono ?_
  rintro r w2 ⟨rfl, hb2⟩
  have HX2 : Aside _ := heap_below HX1.out hb2 (heap_lt HX1.out)
  have HE2 : Aside _ := heap_below HE1.out hb2 (heap_lt HE1.out)
  have HR2 : Aside _ := heap_below HR1.out hb2 (heap_lt HR1.out)
  have HB2 : Aside (Below w.heap.size w w2) := step_below HB1.out hb2
  clear hb2 HB1 HX1 HE1 HR1
  clear ze
  have ze : ∀ i, w2.cell? ⟨w.heap.size + 1, i, none⟩ = #[Value.int .i64 x.k, .int .i64 x.j, .int .i64 x.v, .int .i64 x.t, .int .i64 x.c][i]? := fun i => Joins.cell_of_block HE2.out i
  go_wp2_with fail
  refine (hce _).mono ?_
  rintro r w3 ⟨rfl, hb3⟩
  have HX3 : Aside _ := heap_below HX2.out hb3 (heap_lt HX2.out)
  have HE3 : Aside _ := heap_below HE2.out hb3 (heap_lt HE2.out)
  have HR3 : Aside _ := heap_below HR2.out hb3 (heap_lt HR2.out)
  have HB3 : Aside (Below w.heap.size w w3) := step_below HB2.out hb3
  clear hb3 HB2 HX2 HE2 HR2
  clear ze hce
  have zr : ∀ i, w3.cell? ⟨w.heap.size + 1 + 1, i, none⟩ = #[Value.int .i64 0, .int .i64 0, .int .i64 0, .int .i64 0, .int .i64 0, .int .i64 0, .int .i64 0, .int .i64 0, .int .i64 0, .int .i64 0, .slice none 0 0, .slice none 0 0][i]? := fun i => Joins.cell_of_block HR3.out i
  have fzr : ∀ i, w3.frozen? ⟨w.heap.size + 1 + 1, i, none⟩ = false := fun i => Joins.unfrozen_of_block HR3.out i
  go_wp2
  refine ret_st (p := 4) (q := 5) w3 (w.heap.size + 1 + 1) (Cl.zero) nil0 nil0 (o := Cl.zero) (u1 := nil0) (u2 := nil0) Try.results31 rfl rfl rfl HR3.out rfl ?_
  exact ⟨rfl, st12_below HB3.out (by omega) _ _ _⟩

set_option linter.unusedSimpArgs false in
set_option maxHeartbeats 4000000 in
set_option maxRecDepth 100000 in
theorem rh_late (c : Cl) (a1 a2 : Option Addr) (m1 k1 m2 k2 : Nat) (x : En) (w : World) (hb : BkAt w (.slice a1 m1 k1) (.slice a2 m2 k2) c) (hck : c.ck = 0) (hx : x.chk = 0) (hd : (c.d != 2) = true) :
    AnsX 31 #[c.val (.slice a1 m1 k1) (.slice a2 m2 k2), x.val] w (Cl.zero, 7) nil0 nil0 := by
  have HB0 : Aside (Below w.heap.size w (((w.alloc (boxC c (.slice a1 m1 k1) (.slice a2 m2 k2))).alloc (boxE x.k x.j x.v x.t x.c)).alloc (boxC Cl.zero nil0 nil0))) := grew (grew (grew (Below.refl _ _) _) _) _
  have HX0 : Aside ((((w.alloc (boxC c (.slice a1 m1 k1) (.slice a2 m2 k2))).alloc (boxE x.k x.j x.v x.t x.c)).alloc (boxC Cl.zero nil0 nil0)).heap[w.heap.size]? = some (boxC c (.slice a1 m1 k1) (.slice a2 m2 k2))) := heap_old (heap_old (heap_new _ _) _) _
  have HE0 : Aside ((((w.alloc (boxC c (.slice a1 m1 k1) (.slice a2 m2 k2))).alloc (boxE x.k x.j x.v x.t x.c)).alloc (boxC Cl.zero nil0 nil0)).heap[w.heap.size + 1]? = some (boxE x.k x.j x.v x.t x.c)) := by
    have := heap_new (w.alloc (boxC c (.slice a1 m1 k1) (.slice a2 m2 k2))) (boxE x.k x.j x.v x.t x.c)
    rw [World.size_alloc] at this
    exact heap_old (this) _
  have HR0 : Aside ((((w.alloc (boxC c (.slice a1 m1 k1) (.slice a2 m2 k2))).alloc (boxE x.k x.j x.v x.t x.c)).alloc (boxC Cl.zero nil0 nil0)).heap[w.heap.size + 1 + 1]? = some (boxC Cl.zero nil0 nil0)) := by
    have := heap_new ((w.alloc (boxC c (.slice a1 m1 k1) (.slice a2 m2 k2))).alloc (boxE x.k x.j x.v x.t x.c)) (boxC Cl.zero nil0 nil0)
    rw [World.size_alloc, World.size_alloc] at this
    exact this
  have kc := ref_ckClient c (.slice a1 m1 k1) (.slice a2 m2 k2) _ (bkAt_later hb HB0.out)
  rw [hck] at kc
  have HK : Aside (BkAt w (.slice a1 m1 k1) (.slice a2 m2 k2) c) := hb
  clear hb hck
  have hce : ∀ W, Calls Try.prog 54 #[ev x.k x.j x.v x.t x.c] W fun e w' => e = .returned (.int .i64 x.chk) ∧ Below W.heap.size W w' := fun W => ref_check x.k x.j x.v x.t x.c W
  rw [hx] at hce
  clear hx
  go_enter Try.func31, Try.ntmps31
  go_wp2_with fail
  refine kc.mono ?_
  rintro r w1 ⟨rfl, hb1⟩
  have HX1 : Aside _ := heap_below HX0.out hb1 (heap_lt HX0.out)
  have HE1 : Aside _ := heap_below HE0.out hb1 (heap_lt HE0.out)
  have HR1 : Aside _ := heap_below HR0.out hb1 (heap_lt HR0.out)
  have HB1 : Aside (Below w.heap.size w w1) := step_below HB0.out hb1
  clear hb1 HB0 HX0 HE0 HR0
  clear kc
  have ze : ∀ i, w1.cell? ⟨w.heap.size + 1, i, none⟩ = #[Value.int .i64 x.k, .int .i64 x.j, .int .i64 x.v, .int .i64 x.t, .int .i64 x.c][i]? := fun i => Joins.cell_of_block HE1.out i
  go_wp2_with fail
  refine (hce _).mono ?_
  rintro r w2 ⟨rfl, hb2⟩
  have HX2 : Aside _ := heap_below HX1.out hb2 (heap_lt HX1.out)
  have HE2 : Aside _ := heap_below HE1.out hb2 (heap_lt HE1.out)
  have HR2 : Aside _ := heap_below HR1.out hb2 (heap_lt HR1.out)
  have HB2 : Aside (Below w.heap.size w w2) := step_below HB1.out hb2
  clear hb2 HB1 HX1 HE1 HR1
  clear ze hce
  have z : ∀ i, w2.cell? ⟨w.heap.size, i, none⟩ = #[Value.int .i64 c.p, .int .i64 c.d, .int .i64 c.e.k, .int .i64 c.e.j, .int .i64 c.e.v, .int .i64 c.e.t, .int .i64 c.e.c, .int .i64 c.a, .int .i64 c.l, .int .i64 c.n, .slice a1 m1 k1, .slice a2 m2 k2][i]? := fun i => Joins.cell_of_block HX2.out i
  have zr : ∀ i, w2.cell? ⟨w.heap.size + 1 + 1, i, none⟩ = #[Value.int .i64 0, .int .i64 0, .int .i64 0, .int .i64 0, .int .i64 0, .int .i64 0, .int .i64 0, .int .i64 0, .int .i64 0, .int .i64 0, .slice none 0 0, .slice none 0 0][i]? := fun i => Joins.cell_of_block HR2.out i
  have fzr : ∀ i, w2.frozen? ⟨w.heap.size + 1 + 1, i, none⟩ = false := fun i => Joins.unfrozen_of_block HR2.out i
  go_wp2
  refine ret_st (p := 4) (q := 5) w2 (w.heap.size + 1 + 1) (Cl.zero) nil0 nil0 (o := Cl.zero) (u1 := nil0) (u2 := nil0) Try.results31 rfl rfl rfl HR2.out rfl ?_
  exact ⟨rfl, st12_below HB2.out (by omega) _ _ _⟩

set_option linter.unusedSimpArgs false in
set_option maxHeartbeats 4000000 in
set_option maxRecDepth 100000 in
theorem rh_other (c : Cl) (a1 a2 : Option Addr) (m1 k1 m2 k2 : Nat) (x : En) (w : World) (hb : BkAt w (.slice a1 m1 k1) (.slice a2 m2 k2) c) (hck : c.ck = 0) (hx : x.chk = 0) (hd : (c.d != 2) = false) (hk : (c.e.k != 0) = true) (hn : unlike c.e.k c.e.j c.e.v c.e.t c.e.c x.k x.j x.v x.t x.c = true) :
    AnsX 31 #[c.val (.slice a1 m1 k1) (.slice a2 m2 k2), x.val] w ((⟨c.p, 1, c.e, 0, 0, c.n, c.js, c.rs⟩ : Cl), 0) (.slice a1 m1 k1) (.slice a2 m2 k2) := by
  have HB0 : Aside (Below w.heap.size w (((w.alloc (boxC c (.slice a1 m1 k1) (.slice a2 m2 k2))).alloc (boxE x.k x.j x.v x.t x.c)).alloc (boxC Cl.zero nil0 nil0))) := grew (grew (grew (Below.refl _ _) _) _) _
  have HX0 : Aside ((((w.alloc (boxC c (.slice a1 m1 k1) (.slice a2 m2 k2))).alloc (boxE x.k x.j x.v x.t x.c)).alloc (boxC Cl.zero nil0 nil0)).heap[w.heap.size]? = some (boxC c (.slice a1 m1 k1) (.slice a2 m2 k2))) := heap_old (heap_old (heap_new _ _) _) _
  have HE0 : Aside ((((w.alloc (boxC c (.slice a1 m1 k1) (.slice a2 m2 k2))).alloc (boxE x.k x.j x.v x.t x.c)).alloc (boxC Cl.zero nil0 nil0)).heap[w.heap.size + 1]? = some (boxE x.k x.j x.v x.t x.c)) := by
    have := heap_new (w.alloc (boxC c (.slice a1 m1 k1) (.slice a2 m2 k2))) (boxE x.k x.j x.v x.t x.c)
    rw [World.size_alloc] at this
    exact heap_old (this) _
  have HR0 : Aside ((((w.alloc (boxC c (.slice a1 m1 k1) (.slice a2 m2 k2))).alloc (boxE x.k x.j x.v x.t x.c)).alloc (boxC Cl.zero nil0 nil0)).heap[w.heap.size + 1 + 1]? = some (boxC Cl.zero nil0 nil0)) := by
    have := heap_new ((w.alloc (boxC c (.slice a1 m1 k1) (.slice a2 m2 k2))).alloc (boxE x.k x.j x.v x.t x.c)) (boxC Cl.zero nil0 nil0)
    rw [World.size_alloc, World.size_alloc] at this
    exact this
  have kc := ref_ckClient c (.slice a1 m1 k1) (.slice a2 m2 k2) _ (bkAt_later hb HB0.out)
  rw [hck] at kc
  have HK : Aside (BkAt w (.slice a1 m1 k1) (.slice a2 m2 k2) c) := hb
  clear hb hck
  have hce : ∀ W, Calls Try.prog 54 #[ev x.k x.j x.v x.t x.c] W fun e w' => e = .returned (.int .i64 x.chk) ∧ Below W.heap.size W w' := fun W => ref_check x.k x.j x.v x.t x.c W
  rw [hx] at hce
  clear hx
  have hq := fun W => neq_entry c.e.k c.e.j c.e.v c.e.t c.e.c x.k x.j x.v x.t x.c W
  rw [hn] at hq
  clear hn
  go_enter Try.func31, Try.ntmps31
  go_wp2_with fail
  refine kc.mono ?_
  rintro r w1 ⟨rfl, hb1⟩
  have HX1 : Aside _ := heap_below HX0.out hb1 (heap_lt HX0.out)
  have HE1 : Aside _ := heap_below HE0.out hb1 (heap_lt HE0.out)
  have HR1 : Aside _ := heap_below HR0.out hb1 (heap_lt HR0.out)
  have HB1 : Aside (Below w.heap.size w w1) := step_below HB0.out hb1
  clear hb1 HB0 HX0 HE0 HR0
  clear kc
  have ze : ∀ i, w1.cell? ⟨w.heap.size + 1, i, none⟩ = #[Value.int .i64 x.k, .int .i64 x.j, .int .i64 x.v, .int .i64 x.t, .int .i64 x.c][i]? := fun i => Joins.cell_of_block HE1.out i
  go_wp2_with fail
  refine (hce _).mono ?_
  rintro r w2 ⟨rfl, hb2⟩
  have HX2 : Aside _ := heap_below HX1.out hb2 (heap_lt HX1.out)
  have HE2 : Aside _ := heap_below HE1.out hb2 (heap_lt HE1.out)
  have HR2 : Aside _ := heap_below HR1.out hb2 (heap_lt HR1.out)
  have HB2 : Aside (Below w.heap.size w w2) := step_below HB1.out hb2
  clear hb2 HB1 HX1 HE1 HR1
  clear ze hce
  have z : ∀ i, w2.cell? ⟨w.heap.size, i, none⟩ = #[Value.int .i64 c.p, .int .i64 c.d, .int .i64 c.e.k, .int .i64 c.e.j, .int .i64 c.e.v, .int .i64 c.e.t, .int .i64 c.e.c, .int .i64 c.a, .int .i64 c.l, .int .i64 c.n, .slice a1 m1 k1, .slice a2 m2 k2][i]? := fun i => Joins.cell_of_block HX2.out i
  have ze : ∀ i, w2.cell? ⟨w.heap.size + 1, i, none⟩ = #[Value.int .i64 x.k, .int .i64 x.j, .int .i64 x.v, .int .i64 x.t, .int .i64 x.c][i]? := fun i => Joins.cell_of_block HE2.out i
  have zr : ∀ i, w2.cell? ⟨w.heap.size + 1 + 1, i, none⟩ = #[Value.int .i64 0, .int .i64 0, .int .i64 0, .int .i64 0, .int .i64 0, .int .i64 0, .int .i64 0, .int .i64 0, .int .i64 0, .int .i64 0, .slice none 0 0, .slice none 0 0][i]? := fun i => Joins.cell_of_block HR2.out i
  have fzr : ∀ i, w2.frozen? ⟨w.heap.size + 1 + 1, i, none⟩ = false := fun i => Joins.unfrozen_of_block HR2.out i
  go_wp2
  refine ret_st (p := 4) (q := 5) w2 (w.heap.size + 1 + 1) ((⟨c.p, 1, c.e, 0, 0, c.n, c.js, c.rs⟩ : Cl)) (.slice a1 m1 k1) (.slice a2 m2 k2) (o := Cl.zero) (u1 := nil0) (u2 := nil0) Try.results31 rfl rfl rfl HR2.out rfl ?_
  exact ⟨rfl, st12_below HB2.out (by omega) _ _ _⟩

set_option linter.unusedSimpArgs false in
set_option maxHeartbeats 4000000 in
set_option maxRecDepth 100000 in
theorem rh_last0 (c : Cl) (a1 a2 : Option Addr) (m1 k1 m2 k2 : Nat) (x : En) (w : World) (hb : BkAt w (.slice a1 m1 k1) (.slice a2 m2 k2) c) (hck : c.ck = 0) (hx : x.chk = 0) (hd : (c.d != 2) = false) (hk : (c.e.k != 0) = false) (hl : (c.l == 2) = true) :
    AnsX 31 #[c.val (.slice a1 m1 k1) (.slice a2 m2 k2), x.val] w ((⟨c.p, 0, En.zero, 0, 0, c.n, c.js, c.rs⟩ : Cl), 0) (.slice a1 m1 k1) (.slice a2 m2 k2) := by
  have HB0 : Aside (Below w.heap.size w (((w.alloc (boxC c (.slice a1 m1 k1) (.slice a2 m2 k2))).alloc (boxE x.k x.j x.v x.t x.c)).alloc (boxC Cl.zero nil0 nil0))) := grew (grew (grew (Below.refl _ _) _) _) _
  have HX0 : Aside ((((w.alloc (boxC c (.slice a1 m1 k1) (.slice a2 m2 k2))).alloc (boxE x.k x.j x.v x.t x.c)).alloc (boxC Cl.zero nil0 nil0)).heap[w.heap.size]? = some (boxC c (.slice a1 m1 k1) (.slice a2 m2 k2))) := heap_old (heap_old (heap_new _ _) _) _
  have HE0 : Aside ((((w.alloc (boxC c (.slice a1 m1 k1) (.slice a2 m2 k2))).alloc (boxE x.k x.j x.v x.t x.c)).alloc (boxC Cl.zero nil0 nil0)).heap[w.heap.size + 1]? = some (boxE x.k x.j x.v x.t x.c)) := by
    have := heap_new (w.alloc (boxC c (.slice a1 m1 k1) (.slice a2 m2 k2))) (boxE x.k x.j x.v x.t x.c)
    rw [World.size_alloc] at this
    exact heap_old (this) _
  have HR0 : Aside ((((w.alloc (boxC c (.slice a1 m1 k1) (.slice a2 m2 k2))).alloc (boxE x.k x.j x.v x.t x.c)).alloc (boxC Cl.zero nil0 nil0)).heap[w.heap.size + 1 + 1]? = some (boxC Cl.zero nil0 nil0)) := by
    have := heap_new ((w.alloc (boxC c (.slice a1 m1 k1) (.slice a2 m2 k2))).alloc (boxE x.k x.j x.v x.t x.c)) (boxC Cl.zero nil0 nil0)
    rw [World.size_alloc, World.size_alloc] at this
    exact this
  have kc := ref_ckClient c (.slice a1 m1 k1) (.slice a2 m2 k2) _ (bkAt_later hb HB0.out)
  rw [hck] at kc
  have HK : Aside (BkAt w (.slice a1 m1 k1) (.slice a2 m2 k2) c) := hb
  clear hb hck
  have hce : ∀ W, Calls Try.prog 54 #[ev x.k x.j x.v x.t x.c] W fun e w' => e = .returned (.int .i64 x.chk) ∧ Below W.heap.size W w' := fun W => ref_check x.k x.j x.v x.t x.c W
  rw [hx] at hce
  clear hx
  have hq := fun W => neq_entry c.e.k c.e.j c.e.v c.e.t c.e.c x.k x.j x.v x.t x.c W
  clear hq
  go_enter Try.func31, Try.ntmps31
  go_wp2_with fail
  refine kc.mono ?_
  rintro r w1 ⟨rfl, hb1⟩
  have HX1 : Aside _ := heap_below HX0.out hb1 (heap_lt HX0.out)
  have HE1 : Aside _ := heap_below HE0.out hb1 (heap_lt HE0.out)
  have HR1 : Aside _ := heap_below HR0.out hb1 (heap_lt HR0.out)
  have HB1 : Aside (Below w.heap.size w w1) := step_below HB0.out hb1
  clear hb1 HB0 HX0 HE0 HR0
  clear kc
  have ze : ∀ i, w1.cell? ⟨w.heap.size + 1, i, none⟩ = #[Value.int .i64 x.k, .int .i64 x.j, .int .i64 x.v, .int .i64 x.t, .int .i64 x.c][i]? := fun i => Joins.cell_of_block HE1.out i
  go_wp2_with fail
  refine (hce _).mono ?_
  rintro r w2 ⟨rfl, hb2⟩
  have HX2 : Aside _ := heap_below HX1.out hb2 (heap_lt HX1.out)
  have HE2 : Aside _ := heap_below HE1.out hb2 (heap_lt HE1.out)
  have HR2 : Aside _ := heap_below HR1.out hb2 (heap_lt HR1.out)
  have HB2 : Aside (Below w.heap.size w w2) := step_below HB1.out hb2
  clear hb2 HB1 HX1 HE1 HR1
  clear ze hce
  have z : ∀ i, w2.cell? ⟨w.heap.size, i, none⟩ = #[Value.int .i64 c.p, .int .i64 c.d, .int .i64 c.e.k, .int .i64 c.e.j, .int .i64 c.e.v, .int .i64 c.e.t, .int .i64 c.e.c, .int .i64 c.a, .int .i64 c.l, .int .i64 c.n, .slice a1 m1 k1, .slice a2 m2 k2][i]? := fun i => Joins.cell_of_block HX2.out i
  have ze : ∀ i, w2.cell? ⟨w.heap.size + 1, i, none⟩ = #[Value.int .i64 x.k, .int .i64 x.j, .int .i64 x.v, .int .i64 x.t, .int .i64 x.c][i]? := fun i => Joins.cell_of_block HE2.out i
  have zr : ∀ i, w2.cell? ⟨w.heap.size + 1 + 1, i, none⟩ = #[Value.int .i64 0, .int .i64 0, .int .i64 0, .int .i64 0, .int .i64 0, .int .i64 0, .int .i64 0, .int .i64 0, .int .i64 0, .int .i64 0, .slice none 0 0, .slice none 0 0][i]? := fun i => Joins.cell_of_block HR2.out i
  have fzr : ∀ i, w2.frozen? ⟨w.heap.size + 1 + 1, i, none⟩ = false := fun i => Joins.unfrozen_of_block HR2.out i
  go_wp2
  refine ret_st (p := 4) (q := 5) w2 (w.heap.size + 1 + 1) ((⟨c.p, 0, En.zero, 0, 0, c.n, c.js, c.rs⟩ : Cl)) (.slice a1 m1 k1) (.slice a2 m2 k2) (o := Cl.zero) (u1 := nil0) (u2 := nil0) Try.results31 rfl rfl rfl HR2.out rfl ?_
  exact ⟨rfl, st12_below HB2.out (by omega) _ _ _⟩

set_option linter.unusedSimpArgs false in
set_option maxHeartbeats 4000000 in
set_option maxRecDepth 100000 in
theorem rh_last1 (c : Cl) (a1 a2 : Option Addr) (m1 k1 m2 k2 : Nat) (x : En) (w : World) (hb : BkAt w (.slice a1 m1 k1) (.slice a2 m2 k2) c) (hck : c.ck = 0) (hx : x.chk = 0) (hd : (c.d != 2) = false) (hk : (c.e.k != 0) = true) (hn : unlike c.e.k c.e.j c.e.v c.e.t c.e.c x.k x.j x.v x.t x.c = false) (hl : (c.l == 2) = true) :
    AnsX 31 #[c.val (.slice a1 m1 k1) (.slice a2 m2 k2), x.val] w ((⟨c.p, 0, En.zero, 0, 0, c.n, c.js, c.rs⟩ : Cl), 0) (.slice a1 m1 k1) (.slice a2 m2 k2) := by
  have HB0 : Aside (Below w.heap.size w (((w.alloc (boxC c (.slice a1 m1 k1) (.slice a2 m2 k2))).alloc (boxE x.k x.j x.v x.t x.c)).alloc (boxC Cl.zero nil0 nil0))) := grew (grew (grew (Below.refl _ _) _) _) _
  have HX0 : Aside ((((w.alloc (boxC c (.slice a1 m1 k1) (.slice a2 m2 k2))).alloc (boxE x.k x.j x.v x.t x.c)).alloc (boxC Cl.zero nil0 nil0)).heap[w.heap.size]? = some (boxC c (.slice a1 m1 k1) (.slice a2 m2 k2))) := heap_old (heap_old (heap_new _ _) _) _
  have HE0 : Aside ((((w.alloc (boxC c (.slice a1 m1 k1) (.slice a2 m2 k2))).alloc (boxE x.k x.j x.v x.t x.c)).alloc (boxC Cl.zero nil0 nil0)).heap[w.heap.size + 1]? = some (boxE x.k x.j x.v x.t x.c)) := by
    have := heap_new (w.alloc (boxC c (.slice a1 m1 k1) (.slice a2 m2 k2))) (boxE x.k x.j x.v x.t x.c)
    rw [World.size_alloc] at this
    exact heap_old (this) _
  have HR0 : Aside ((((w.alloc (boxC c (.slice a1 m1 k1) (.slice a2 m2 k2))).alloc (boxE x.k x.j x.v x.t x.c)).alloc (boxC Cl.zero nil0 nil0)).heap[w.heap.size + 1 + 1]? = some (boxC Cl.zero nil0 nil0)) := by
    have := heap_new ((w.alloc (boxC c (.slice a1 m1 k1) (.slice a2 m2 k2))).alloc (boxE x.k x.j x.v x.t x.c)) (boxC Cl.zero nil0 nil0)
    rw [World.size_alloc, World.size_alloc] at this
    exact this
  have kc := ref_ckClient c (.slice a1 m1 k1) (.slice a2 m2 k2) _ (bkAt_later hb HB0.out)
  rw [hck] at kc
  have HK : Aside (BkAt w (.slice a1 m1 k1) (.slice a2 m2 k2) c) := hb
  clear hb hck
  have hce : ∀ W, Calls Try.prog 54 #[ev x.k x.j x.v x.t x.c] W fun e w' => e = .returned (.int .i64 x.chk) ∧ Below W.heap.size W w' := fun W => ref_check x.k x.j x.v x.t x.c W
  rw [hx] at hce
  clear hx
  have hq := fun W => neq_entry c.e.k c.e.j c.e.v c.e.t c.e.c x.k x.j x.v x.t x.c W
  rw [hn] at hq
  clear hn
  go_enter Try.func31, Try.ntmps31
  go_wp2_with fail
  refine kc.mono ?_
  rintro r w1 ⟨rfl, hb1⟩
  have HX1 : Aside _ := heap_below HX0.out hb1 (heap_lt HX0.out)
  have HE1 : Aside _ := heap_below HE0.out hb1 (heap_lt HE0.out)
  have HR1 : Aside _ := heap_below HR0.out hb1 (heap_lt HR0.out)
  have HB1 : Aside (Below w.heap.size w w1) := step_below HB0.out hb1
  clear hb1 HB0 HX0 HE0 HR0
  clear kc
  have ze : ∀ i, w1.cell? ⟨w.heap.size + 1, i, none⟩ = #[Value.int .i64 x.k, .int .i64 x.j, .int .i64 x.v, .int .i64 x.t, .int .i64 x.c][i]? := fun i => Joins.cell_of_block HE1.out i
  go_wp2_with fail
  refine (hce _).mono ?_
  rintro r w2 ⟨rfl, hb2⟩
  have HX2 : Aside _ := heap_below HX1.out hb2 (heap_lt HX1.out)
  have HE2 : Aside _ := heap_below HE1.out hb2 (heap_lt HE1.out)
  have HR2 : Aside _ := heap_below HR1.out hb2 (heap_lt HR1.out)
  have HB2 : Aside (Below w.heap.size w w2) := step_below HB1.out hb2
  clear hb2 HB1 HX1 HE1 HR1
  clear ze hce
  have z : ∀ i, w2.cell? ⟨w.heap.size, i, none⟩ = #[Value.int .i64 c.p, .int .i64 c.d, .int .i64 c.e.k, .int .i64 c.e.j, .int .i64 c.e.v, .int .i64 c.e.t, .int .i64 c.e.c, .int .i64 c.a, .int .i64 c.l, .int .i64 c.n, .slice a1 m1 k1, .slice a2 m2 k2][i]? := fun i => Joins.cell_of_block HX2.out i
  have ze : ∀ i, w2.cell? ⟨w.heap.size + 1, i, none⟩ = #[Value.int .i64 x.k, .int .i64 x.j, .int .i64 x.v, .int .i64 x.t, .int .i64 x.c][i]? := fun i => Joins.cell_of_block HE2.out i
  have zr : ∀ i, w2.cell? ⟨w.heap.size + 1 + 1, i, none⟩ = #[Value.int .i64 0, .int .i64 0, .int .i64 0, .int .i64 0, .int .i64 0, .int .i64 0, .int .i64 0, .int .i64 0, .int .i64 0, .int .i64 0, .slice none 0 0, .slice none 0 0][i]? := fun i => Joins.cell_of_block HR2.out i
  have fzr : ∀ i, w2.frozen? ⟨w.heap.size + 1 + 1, i, none⟩ = false := fun i => Joins.unfrozen_of_block HR2.out i
  go_wp2
  refine ret_st (p := 4) (q := 5) w2 (w.heap.size + 1 + 1) ((⟨c.p, 0, En.zero, 0, 0, c.n, c.js, c.rs⟩ : Cl)) (.slice a1 m1 k1) (.slice a2 m2 k2) (o := Cl.zero) (u1 := nil0) (u2 := nil0) Try.results31 rfl rfl rfl HR2.out rfl ?_
  exact ⟨rfl, st12_below HB2.out (by omega) _ _ _⟩

set_option linter.unusedSimpArgs false in
set_option maxHeartbeats 4000000 in
set_option maxRecDepth 100000 in
theorem rh_on0 (c : Cl) (a1 a2 : Option Addr) (m1 k1 m2 k2 : Nat) (x : En) (w : World) (hb : BkAt w (.slice a1 m1 k1) (.slice a2 m2 k2) c) (hck : c.ck = 0) (hx : x.chk = 0) (hd : (c.d != 2) = false) (hk : (c.e.k != 0) = false) (hl : (c.l == 2) = false) (hw : IntKind.i64.wrap (c.l + 1) = c.l + 1) :
    AnsX 31 #[c.val (.slice a1 m1 k1) (.slice a2 m2 k2), x.val] w ((⟨c.p, c.d, x, c.a, c.l + 1, c.n, c.js, c.rs⟩ : Cl), 0) (.slice a1 m1 k1) (.slice a2 m2 k2) := by
  have HB0 : Aside (Below w.heap.size w (((w.alloc (boxC c (.slice a1 m1 k1) (.slice a2 m2 k2))).alloc (boxE x.k x.j x.v x.t x.c)).alloc (boxC Cl.zero nil0 nil0))) := grew (grew (grew (Below.refl _ _) _) _) _
  have HX0 : Aside ((((w.alloc (boxC c (.slice a1 m1 k1) (.slice a2 m2 k2))).alloc (boxE x.k x.j x.v x.t x.c)).alloc (boxC Cl.zero nil0 nil0)).heap[w.heap.size]? = some (boxC c (.slice a1 m1 k1) (.slice a2 m2 k2))) := heap_old (heap_old (heap_new _ _) _) _
  have HE0 : Aside ((((w.alloc (boxC c (.slice a1 m1 k1) (.slice a2 m2 k2))).alloc (boxE x.k x.j x.v x.t x.c)).alloc (boxC Cl.zero nil0 nil0)).heap[w.heap.size + 1]? = some (boxE x.k x.j x.v x.t x.c)) := by
    have := heap_new (w.alloc (boxC c (.slice a1 m1 k1) (.slice a2 m2 k2))) (boxE x.k x.j x.v x.t x.c)
    rw [World.size_alloc] at this
    exact heap_old (this) _
  have HR0 : Aside ((((w.alloc (boxC c (.slice a1 m1 k1) (.slice a2 m2 k2))).alloc (boxE x.k x.j x.v x.t x.c)).alloc (boxC Cl.zero nil0 nil0)).heap[w.heap.size + 1 + 1]? = some (boxC Cl.zero nil0 nil0)) := by
    have := heap_new ((w.alloc (boxC c (.slice a1 m1 k1) (.slice a2 m2 k2))).alloc (boxE x.k x.j x.v x.t x.c)) (boxC Cl.zero nil0 nil0)
    rw [World.size_alloc, World.size_alloc] at this
    exact this
  have kc := ref_ckClient c (.slice a1 m1 k1) (.slice a2 m2 k2) _ (bkAt_later hb HB0.out)
  rw [hck] at kc
  have HK : Aside (BkAt w (.slice a1 m1 k1) (.slice a2 m2 k2) c) := hb
  clear hb hck
  have hce : ∀ W, Calls Try.prog 54 #[ev x.k x.j x.v x.t x.c] W fun e w' => e = .returned (.int .i64 x.chk) ∧ Below W.heap.size W w' := fun W => ref_check x.k x.j x.v x.t x.c W
  rw [hx] at hce
  clear hx
  have hq := fun W => neq_entry c.e.k c.e.j c.e.v c.e.t c.e.c x.k x.j x.v x.t x.c W
  clear hq
  go_enter Try.func31, Try.ntmps31
  go_wp2_with fail
  refine kc.mono ?_
  rintro r w1 ⟨rfl, hb1⟩
  have HX1 : Aside _ := heap_below HX0.out hb1 (heap_lt HX0.out)
  have HE1 : Aside _ := heap_below HE0.out hb1 (heap_lt HE0.out)
  have HR1 : Aside _ := heap_below HR0.out hb1 (heap_lt HR0.out)
  have HB1 : Aside (Below w.heap.size w w1) := step_below HB0.out hb1
  clear hb1 HB0 HX0 HE0 HR0
  clear kc
  have ze : ∀ i, w1.cell? ⟨w.heap.size + 1, i, none⟩ = #[Value.int .i64 x.k, .int .i64 x.j, .int .i64 x.v, .int .i64 x.t, .int .i64 x.c][i]? := fun i => Joins.cell_of_block HE1.out i
  go_wp2_with fail
  refine (hce _).mono ?_
  rintro r w2 ⟨rfl, hb2⟩
  have HX2 : Aside _ := heap_below HX1.out hb2 (heap_lt HX1.out)
  have HE2 : Aside _ := heap_below HE1.out hb2 (heap_lt HE1.out)
  have HR2 : Aside _ := heap_below HR1.out hb2 (heap_lt HR1.out)
  have HB2 : Aside (Below w.heap.size w w2) := step_below HB1.out hb2
  clear hb2 HB1 HX1 HE1 HR1
  clear ze hce
  have z : ∀ i, w2.cell? ⟨w.heap.size, i, none⟩ = #[Value.int .i64 c.p, .int .i64 c.d, .int .i64 c.e.k, .int .i64 c.e.j, .int .i64 c.e.v, .int .i64 c.e.t, .int .i64 c.e.c, .int .i64 c.a, .int .i64 c.l, .int .i64 c.n, .slice a1 m1 k1, .slice a2 m2 k2][i]? := fun i => Joins.cell_of_block HX2.out i
  have ze : ∀ i, w2.cell? ⟨w.heap.size + 1, i, none⟩ = #[Value.int .i64 x.k, .int .i64 x.j, .int .i64 x.v, .int .i64 x.t, .int .i64 x.c][i]? := fun i => Joins.cell_of_block HE2.out i
  have zr : ∀ i, w2.cell? ⟨w.heap.size + 1 + 1, i, none⟩ = #[Value.int .i64 0, .int .i64 0, .int .i64 0, .int .i64 0, .int .i64 0, .int .i64 0, .int .i64 0, .int .i64 0, .int .i64 0, .int .i64 0, .slice none 0 0, .slice none 0 0][i]? := fun i => Joins.cell_of_block HR2.out i
  have fzr : ∀ i, w2.frozen? ⟨w.heap.size + 1 + 1, i, none⟩ = false := fun i => Joins.unfrozen_of_block HR2.out i
  have fz : ∀ i, w2.frozen? ⟨w.heap.size, i, none⟩ = false := fun i => Joins.unfrozen_of_block HX2.out i
  go_upto_region 15 with fail
  clear z ze zr fz fzr
  clear hw
  have g0 := Joins.block_setCell HX2.out (i := 2) (.int .i64 x.k)
  have g1 := Joins.block_setCell g0 (i := 3) (.int .i64 x.j)
  have g2 := Joins.block_setCell g1 (i := 4) (.int .i64 x.v)
  have g3 := Joins.block_setCell g2 (i := 5) (.int .i64 x.t)
  have g4 := Joins.block_setCell g3 (i := 6) (.int .i64 x.c)
  have g5 := Joins.block_setCell g4 (i := 8) (.int .i64 (c.l + 1))
  simp only [List.setIfInBounds_toArray, List.set_cons_zero, List.set_cons_succ] at g5
  have hrs : w.heap.size + 1 + 1 ≠ w.heap.size := by omega
  have HX6 : Aside (((((((w2.setCell ⟨w.heap.size, 2, none⟩ (.int .i64 x.k)).setCell ⟨w.heap.size, 3, none⟩ (.int .i64 x.j)).setCell ⟨w.heap.size, 4, none⟩ (.int .i64 x.v)).setCell ⟨w.heap.size, 5, none⟩ (.int .i64 x.t)).setCell ⟨w.heap.size, 6, none⟩ (.int .i64 x.c)).setCell ⟨w.heap.size, 8, none⟩ (.int .i64 (c.l + 1))).heap[w.heap.size]? = some (boxC (⟨c.p, c.d, x, c.a, c.l + 1, c.n, c.js, c.rs⟩ : Cl) (.slice a1 m1 k1) (.slice a2 m2 k2))) := g5
  have HR6 : Aside (((((((w2.setCell ⟨w.heap.size, 2, none⟩ (.int .i64 x.k)).setCell ⟨w.heap.size, 3, none⟩ (.int .i64 x.j)).setCell ⟨w.heap.size, 4, none⟩ (.int .i64 x.v)).setCell ⟨w.heap.size, 5, none⟩ (.int .i64 x.t)).setCell ⟨w.heap.size, 6, none⟩ (.int .i64 x.c)).setCell ⟨w.heap.size, 8, none⟩ (.int .i64 (c.l + 1))).heap[w.heap.size + 1 + 1]? = some (boxC Cl.zero nil0 nil0)) := by
    rw [Aside, Below.heap_setCell _ _ _ _ (by exact hrs), Below.heap_setCell _ _ _ _ (by exact hrs), Below.heap_setCell _ _ _ _ (by exact hrs), Below.heap_setCell _ _ _ _ (by exact hrs), Below.heap_setCell _ _ _ _ (by exact hrs), Below.heap_setCell _ _ _ _ (by exact hrs)]
    exact HR2.out
  have HB6 : Aside (Below w.heap.size w ((((((w2.setCell ⟨w.heap.size, 2, none⟩ (.int .i64 x.k)).setCell ⟨w.heap.size, 3, none⟩ (.int .i64 x.j)).setCell ⟨w.heap.size, 4, none⟩ (.int .i64 x.v)).setCell ⟨w.heap.size, 5, none⟩ (.int .i64 x.t)).setCell ⟨w.heap.size, 6, none⟩ (.int .i64 x.c)).setCell ⟨w.heap.size, 8, none⟩ (.int .i64 (c.l + 1)))) := ((((((HB2.out).setCell (p := ⟨w.heap.size, 2, none⟩) (Nat.le_refl _) _).setCell (p := ⟨w.heap.size, 3, none⟩) (Nat.le_refl _) _).setCell (p := ⟨w.heap.size, 4, none⟩) (Nat.le_refl _) _).setCell (p := ⟨w.heap.size, 5, none⟩) (Nat.le_refl _) _).setCell (p := ⟨w.heap.size, 6, none⟩) (Nat.le_refl _) _).setCell (p := ⟨w.heap.size, 8, none⟩) (Nat.le_refl _) _
  clear g0 g1 g2 g3 g4 g5 HX2 HR2 HB2
  generalize ((((((w2.setCell ⟨w.heap.size, 2, none⟩ (.int .i64 x.k)).setCell ⟨w.heap.size, 3, none⟩ (.int .i64 x.j)).setCell ⟨w.heap.size, 4, none⟩ (.int .i64 x.v)).setCell ⟨w.heap.size, 5, none⟩ (.int .i64 x.t)).setCell ⟨w.heap.size, 6, none⟩ (.int .i64 x.c)).setCell ⟨w.heap.size, 8, none⟩ (.int .i64 (c.l + 1))) = w6 at *
  have z : ∀ i, w6.cell? ⟨w.heap.size, i, none⟩ = #[Value.int .i64 ((⟨c.p, c.d, x, c.a, c.l + 1, c.n, c.js, c.rs⟩ : Cl)).p, .int .i64 ((⟨c.p, c.d, x, c.a, c.l + 1, c.n, c.js, c.rs⟩ : Cl)).d, .int .i64 ((⟨c.p, c.d, x, c.a, c.l + 1, c.n, c.js, c.rs⟩ : Cl)).e.k, .int .i64 ((⟨c.p, c.d, x, c.a, c.l + 1, c.n, c.js, c.rs⟩ : Cl)).e.j, .int .i64 ((⟨c.p, c.d, x, c.a, c.l + 1, c.n, c.js, c.rs⟩ : Cl)).e.v, .int .i64 ((⟨c.p, c.d, x, c.a, c.l + 1, c.n, c.js, c.rs⟩ : Cl)).e.t, .int .i64 ((⟨c.p, c.d, x, c.a, c.l + 1, c.n, c.js, c.rs⟩ : Cl)).e.c, .int .i64 ((⟨c.p, c.d, x, c.a, c.l + 1, c.n, c.js, c.rs⟩ : Cl)).a, .int .i64 ((⟨c.p, c.d, x, c.a, c.l + 1, c.n, c.js, c.rs⟩ : Cl)).l, .int .i64 ((⟨c.p, c.d, x, c.a, c.l + 1, c.n, c.js, c.rs⟩ : Cl)).n, .slice a1 m1 k1, .slice a2 m2 k2][i]? := fun i => Joins.cell_of_block HX6.out i
  have zr : ∀ i, w6.cell? ⟨w.heap.size + 1 + 1, i, none⟩ = #[Value.int .i64 0, .int .i64 0, .int .i64 0, .int .i64 0, .int .i64 0, .int .i64 0, .int .i64 0, .int .i64 0, .int .i64 0, .int .i64 0, .slice none 0 0, .slice none 0 0][i]? := fun i => Joins.cell_of_block HR6.out i
  have fzr : ∀ i, w6.frozen? ⟨w.heap.size + 1 + 1, i, none⟩ = false := fun i => Joins.unfrozen_of_block HR6.out i
  go_wp2
  refine ret_st (p := 4) (q := 5) w6 (w.heap.size + 1 + 1) ((⟨c.p, c.d, x, c.a, c.l + 1, c.n, c.js, c.rs⟩ : Cl)) (.slice a1 m1 k1) (.slice a2 m2 k2) (o := Cl.zero) (u1 := nil0) (u2 := nil0) Try.results31 rfl rfl rfl HR6.out rfl ?_
  exact ⟨rfl, st12_below HB6.out (by omega) _ _ _⟩

set_option linter.unusedSimpArgs false in
set_option maxHeartbeats 4000000 in
set_option maxRecDepth 100000 in
theorem rh_on1 (c : Cl) (a1 a2 : Option Addr) (m1 k1 m2 k2 : Nat) (x : En) (w : World) (hb : BkAt w (.slice a1 m1 k1) (.slice a2 m2 k2) c) (hck : c.ck = 0) (hx : x.chk = 0) (hd : (c.d != 2) = false) (hk : (c.e.k != 0) = true) (hn : unlike c.e.k c.e.j c.e.v c.e.t c.e.c x.k x.j x.v x.t x.c = false) (hl : (c.l == 2) = false) (hw : IntKind.i64.wrap (c.l + 1) = c.l + 1) :
    AnsX 31 #[c.val (.slice a1 m1 k1) (.slice a2 m2 k2), x.val] w ((⟨c.p, c.d, x, c.a, c.l + 1, c.n, c.js, c.rs⟩ : Cl), 0) (.slice a1 m1 k1) (.slice a2 m2 k2) := by
  have HB0 : Aside (Below w.heap.size w (((w.alloc (boxC c (.slice a1 m1 k1) (.slice a2 m2 k2))).alloc (boxE x.k x.j x.v x.t x.c)).alloc (boxC Cl.zero nil0 nil0))) := grew (grew (grew (Below.refl _ _) _) _) _
  have HX0 : Aside ((((w.alloc (boxC c (.slice a1 m1 k1) (.slice a2 m2 k2))).alloc (boxE x.k x.j x.v x.t x.c)).alloc (boxC Cl.zero nil0 nil0)).heap[w.heap.size]? = some (boxC c (.slice a1 m1 k1) (.slice a2 m2 k2))) := heap_old (heap_old (heap_new _ _) _) _
  have HE0 : Aside ((((w.alloc (boxC c (.slice a1 m1 k1) (.slice a2 m2 k2))).alloc (boxE x.k x.j x.v x.t x.c)).alloc (boxC Cl.zero nil0 nil0)).heap[w.heap.size + 1]? = some (boxE x.k x.j x.v x.t x.c)) := by
    have := heap_new (w.alloc (boxC c (.slice a1 m1 k1) (.slice a2 m2 k2))) (boxE x.k x.j x.v x.t x.c)
    rw [World.size_alloc] at this
    exact heap_old (this) _
  have HR0 : Aside ((((w.alloc (boxC c (.slice a1 m1 k1) (.slice a2 m2 k2))).alloc (boxE x.k x.j x.v x.t x.c)).alloc (boxC Cl.zero nil0 nil0)).heap[w.heap.size + 1 + 1]? = some (boxC Cl.zero nil0 nil0)) := by
    have := heap_new ((w.alloc (boxC c (.slice a1 m1 k1) (.slice a2 m2 k2))).alloc (boxE x.k x.j x.v x.t x.c)) (boxC Cl.zero nil0 nil0)
    rw [World.size_alloc, World.size_alloc] at this
    exact this
  have kc := ref_ckClient c (.slice a1 m1 k1) (.slice a2 m2 k2) _ (bkAt_later hb HB0.out)
  rw [hck] at kc
  have HK : Aside (BkAt w (.slice a1 m1 k1) (.slice a2 m2 k2) c) := hb
  clear hb hck
  have hce : ∀ W, Calls Try.prog 54 #[ev x.k x.j x.v x.t x.c] W fun e w' => e = .returned (.int .i64 x.chk) ∧ Below W.heap.size W w' := fun W => ref_check x.k x.j x.v x.t x.c W
  rw [hx] at hce
  clear hx
  have hq := fun W => neq_entry c.e.k c.e.j c.e.v c.e.t c.e.c x.k x.j x.v x.t x.c W
  rw [hn] at hq
  clear hn
  go_enter Try.func31, Try.ntmps31
  go_wp2_with fail
  refine kc.mono ?_
  rintro r w1 ⟨rfl, hb1⟩
  have HX1 : Aside _ := heap_below HX0.out hb1 (heap_lt HX0.out)
  have HE1 : Aside _ := heap_below HE0.out hb1 (heap_lt HE0.out)
  have HR1 : Aside _ := heap_below HR0.out hb1 (heap_lt HR0.out)
  have HB1 : Aside (Below w.heap.size w w1) := step_below HB0.out hb1
  clear hb1 HB0 HX0 HE0 HR0
  clear kc
  have ze : ∀ i, w1.cell? ⟨w.heap.size + 1, i, none⟩ = #[Value.int .i64 x.k, .int .i64 x.j, .int .i64 x.v, .int .i64 x.t, .int .i64 x.c][i]? := fun i => Joins.cell_of_block HE1.out i
  go_wp2_with fail
  refine (hce _).mono ?_
  rintro r w2 ⟨rfl, hb2⟩
  have HX2 : Aside _ := heap_below HX1.out hb2 (heap_lt HX1.out)
  have HE2 : Aside _ := heap_below HE1.out hb2 (heap_lt HE1.out)
  have HR2 : Aside _ := heap_below HR1.out hb2 (heap_lt HR1.out)
  have HB2 : Aside (Below w.heap.size w w2) := step_below HB1.out hb2
  clear hb2 HB1 HX1 HE1 HR1
  clear ze hce
  have z : ∀ i, w2.cell? ⟨w.heap.size, i, none⟩ = #[Value.int .i64 c.p, .int .i64 c.d, .int .i64 c.e.k, .int .i64 c.e.j, .int .i64 c.e.v, .int .i64 c.e.t, .int .i64 c.e.c, .int .i64 c.a, .int .i64 c.l, .int .i64 c.n, .slice a1 m1 k1, .slice a2 m2 k2][i]? := fun i => Joins.cell_of_block HX2.out i
  have ze : ∀ i, w2.cell? ⟨w.heap.size + 1, i, none⟩ = #[Value.int .i64 x.k, .int .i64 x.j, .int .i64 x.v, .int .i64 x.t, .int .i64 x.c][i]? := fun i => Joins.cell_of_block HE2.out i
  have zr : ∀ i, w2.cell? ⟨w.heap.size + 1 + 1, i, none⟩ = #[Value.int .i64 0, .int .i64 0, .int .i64 0, .int .i64 0, .int .i64 0, .int .i64 0, .int .i64 0, .int .i64 0, .int .i64 0, .int .i64 0, .slice none 0 0, .slice none 0 0][i]? := fun i => Joins.cell_of_block HR2.out i
  have fzr : ∀ i, w2.frozen? ⟨w.heap.size + 1 + 1, i, none⟩ = false := fun i => Joins.unfrozen_of_block HR2.out i
  have fz : ∀ i, w2.frozen? ⟨w.heap.size, i, none⟩ = false := fun i => Joins.unfrozen_of_block HX2.out i
  go_upto_region 15 with fail
  clear z ze zr fz fzr
  clear hw
  have g0 := Joins.block_setCell HX2.out (i := 2) (.int .i64 x.k)
  have g1 := Joins.block_setCell g0 (i := 3) (.int .i64 x.j)
  have g2 := Joins.block_setCell g1 (i := 4) (.int .i64 x.v)
  have g3 := Joins.block_setCell g2 (i := 5) (.int .i64 x.t)
  have g4 := Joins.block_setCell g3 (i := 6) (.int .i64 x.c)
  have g5 := Joins.block_setCell g4 (i := 8) (.int .i64 (c.l + 1))
  simp only [List.setIfInBounds_toArray, List.set_cons_zero, List.set_cons_succ] at g5
  have hrs : w.heap.size + 1 + 1 ≠ w.heap.size := by omega
  have HX6 : Aside (((((((w2.setCell ⟨w.heap.size, 2, none⟩ (.int .i64 x.k)).setCell ⟨w.heap.size, 3, none⟩ (.int .i64 x.j)).setCell ⟨w.heap.size, 4, none⟩ (.int .i64 x.v)).setCell ⟨w.heap.size, 5, none⟩ (.int .i64 x.t)).setCell ⟨w.heap.size, 6, none⟩ (.int .i64 x.c)).setCell ⟨w.heap.size, 8, none⟩ (.int .i64 (c.l + 1))).heap[w.heap.size]? = some (boxC (⟨c.p, c.d, x, c.a, c.l + 1, c.n, c.js, c.rs⟩ : Cl) (.slice a1 m1 k1) (.slice a2 m2 k2))) := g5
  have HR6 : Aside (((((((w2.setCell ⟨w.heap.size, 2, none⟩ (.int .i64 x.k)).setCell ⟨w.heap.size, 3, none⟩ (.int .i64 x.j)).setCell ⟨w.heap.size, 4, none⟩ (.int .i64 x.v)).setCell ⟨w.heap.size, 5, none⟩ (.int .i64 x.t)).setCell ⟨w.heap.size, 6, none⟩ (.int .i64 x.c)).setCell ⟨w.heap.size, 8, none⟩ (.int .i64 (c.l + 1))).heap[w.heap.size + 1 + 1]? = some (boxC Cl.zero nil0 nil0)) := by
    rw [Aside, Below.heap_setCell _ _ _ _ (by exact hrs), Below.heap_setCell _ _ _ _ (by exact hrs), Below.heap_setCell _ _ _ _ (by exact hrs), Below.heap_setCell _ _ _ _ (by exact hrs), Below.heap_setCell _ _ _ _ (by exact hrs), Below.heap_setCell _ _ _ _ (by exact hrs)]
    exact HR2.out
  have HB6 : Aside (Below w.heap.size w ((((((w2.setCell ⟨w.heap.size, 2, none⟩ (.int .i64 x.k)).setCell ⟨w.heap.size, 3, none⟩ (.int .i64 x.j)).setCell ⟨w.heap.size, 4, none⟩ (.int .i64 x.v)).setCell ⟨w.heap.size, 5, none⟩ (.int .i64 x.t)).setCell ⟨w.heap.size, 6, none⟩ (.int .i64 x.c)).setCell ⟨w.heap.size, 8, none⟩ (.int .i64 (c.l + 1)))) := ((((((HB2.out).setCell (p := ⟨w.heap.size, 2, none⟩) (Nat.le_refl _) _).setCell (p := ⟨w.heap.size, 3, none⟩) (Nat.le_refl _) _).setCell (p := ⟨w.heap.size, 4, none⟩) (Nat.le_refl _) _).setCell (p := ⟨w.heap.size, 5, none⟩) (Nat.le_refl _) _).setCell (p := ⟨w.heap.size, 6, none⟩) (Nat.le_refl _) _).setCell (p := ⟨w.heap.size, 8, none⟩) (Nat.le_refl _) _
  clear g0 g1 g2 g3 g4 g5 HX2 HR2 HB2
  generalize ((((((w2.setCell ⟨w.heap.size, 2, none⟩ (.int .i64 x.k)).setCell ⟨w.heap.size, 3, none⟩ (.int .i64 x.j)).setCell ⟨w.heap.size, 4, none⟩ (.int .i64 x.v)).setCell ⟨w.heap.size, 5, none⟩ (.int .i64 x.t)).setCell ⟨w.heap.size, 6, none⟩ (.int .i64 x.c)).setCell ⟨w.heap.size, 8, none⟩ (.int .i64 (c.l + 1))) = w6 at *
  have z : ∀ i, w6.cell? ⟨w.heap.size, i, none⟩ = #[Value.int .i64 ((⟨c.p, c.d, x, c.a, c.l + 1, c.n, c.js, c.rs⟩ : Cl)).p, .int .i64 ((⟨c.p, c.d, x, c.a, c.l + 1, c.n, c.js, c.rs⟩ : Cl)).d, .int .i64 ((⟨c.p, c.d, x, c.a, c.l + 1, c.n, c.js, c.rs⟩ : Cl)).e.k, .int .i64 ((⟨c.p, c.d, x, c.a, c.l + 1, c.n, c.js, c.rs⟩ : Cl)).e.j, .int .i64 ((⟨c.p, c.d, x, c.a, c.l + 1, c.n, c.js, c.rs⟩ : Cl)).e.v, .int .i64 ((⟨c.p, c.d, x, c.a, c.l + 1, c.n, c.js, c.rs⟩ : Cl)).e.t, .int .i64 ((⟨c.p, c.d, x, c.a, c.l + 1, c.n, c.js, c.rs⟩ : Cl)).e.c, .int .i64 ((⟨c.p, c.d, x, c.a, c.l + 1, c.n, c.js, c.rs⟩ : Cl)).a, .int .i64 ((⟨c.p, c.d, x, c.a, c.l + 1, c.n, c.js, c.rs⟩ : Cl)).l, .int .i64 ((⟨c.p, c.d, x, c.a, c.l + 1, c.n, c.js, c.rs⟩ : Cl)).n, .slice a1 m1 k1, .slice a2 m2 k2][i]? := fun i => Joins.cell_of_block HX6.out i
  have zr : ∀ i, w6.cell? ⟨w.heap.size + 1 + 1, i, none⟩ = #[Value.int .i64 0, .int .i64 0, .int .i64 0, .int .i64 0, .int .i64 0, .int .i64 0, .int .i64 0, .int .i64 0, .int .i64 0, .int .i64 0, .slice none 0 0, .slice none 0 0][i]? := fun i => Joins.cell_of_block HR6.out i
  have fzr : ∀ i, w6.frozen? ⟨w.heap.size + 1 + 1, i, none⟩ = false := fun i => Joins.unfrozen_of_block HR6.out i
  go_wp2
  refine ret_st (p := 4) (q := 5) w6 (w.heap.size + 1 + 1) ((⟨c.p, c.d, x, c.a, c.l + 1, c.n, c.js, c.rs⟩ : Cl)) (.slice a1 m1 k1) (.slice a2 m2 k2) (o := Cl.zero) (u1 := nil0) (u2 := nil0) Try.results31 rfl rfl rfl HR6.out rfl ?_
  exact ⟨rfl, st12_below HB6.out (by omega) _ _ _⟩

/-- The reference's HeardOf. -/
theorem ref_heardOf (c : Cl) (x : En) (v1 v2 : Value) (w : World) (hb : BkAt w v1 v2 c) : AnsC 31 #[c.val v1 v2, x.val] w (hearOf c x) := by
  obtain ⟨a1, k1, a2, k2, rfl, rfl⟩ := bk_slices hb.1 hb.2
  unfold hearOf
  by_cases hc : c.ck = 0
  · rw [if_neg (by simpa using hc)]
    by_cases hx : x.chk = 0
    · rw [if_neg (by simpa using hx)]
      by_cases hd : c.d = 2
      · have hdb : (c.d != 2) = false := by rw [hd]; rfl
        rw [if_neg (by simpa using hd)]
        have hg := (Cl.good (Cl.ck_zero.1 hc).1).2.2.2.1
        have hw : IntKind.i64.wrap (c.l + 1) = c.l + 1 := by rw [IntKind.wrap_i64]; omega
        by_cases hk : c.e.k = 0
        · have hkb : (c.e.k != 0) = false := by rw [hk]; rfl
          rw [if_neg (fun h => h.1 hk)]
          by_cases hl : c.l = 2
          · rw [if_pos hl]
            exact ansC_of hb <| rh_last0 c a1 a2 _ k1 _ k2 x w hb hc hx hdb hkb (by rw [hl]; rfl)
          · rw [if_neg hl]
            exact ansC_of hb <| rh_on0 c a1 a2 _ k1 _ k2 x w hb hc hx hdb hkb (by rw [beq_eq_false_iff_ne]; exact hl) hw
        · have hkb : (c.e.k != 0) = true := by rw [bne_iff_ne]; exact hk
          cases hn : c.e.ne x with
          | true =>
            rw [if_pos ⟨hk, rfl⟩]
            exact ansC_of hb <| rh_other c a1 a2 _ k1 _ k2 x w hb hc hx hdb hkb hn
          | false =>
            rw [if_neg (fun h => by cases h.2)]
            by_cases hl : c.l = 2
            · rw [if_pos hl]
              exact ansC_of hb <| rh_last1 c a1 a2 _ k1 _ k2 x w hb hc hx hdb hkb hn (by rw [hl]; rfl)
            · rw [if_neg hl]
              exact ansC_of hb <| rh_on1 c a1 a2 _ k1 _ k2 x w hb hc hx hdb hkb hn (by rw [beq_eq_false_iff_ne]; exact hl) hw
      · rw [if_pos hd]
        exact ansC_zero <| rh_late c a1 a2 _ k1 _ k2 x w hb hc hx (by rw [bne_iff_ne]; exact hd)
    · rw [if_pos hx]
      exact ansC_zero <| rh_ent c a1 a2 _ k1 _ k2 x w hb hc _ rfl (by rw [bne_iff_ne]; exact hx)
  · rw [if_pos hc]
    exact ansC_zero <| rh_ck c a1 a2 _ k1 _ k2 x w hb _ rfl (by rw [bne_iff_ne]; exact hc)

end Go.Proofs.Ytbokdcdnandgbae
