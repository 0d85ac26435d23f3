/- The reference's PlayedOn. -/
import Derived.Test.YtbokdcdnandgbaeClientE
import Derived.Test.YtbokdcdnandgbaeClientT
import Derived.Test.YtbokdcdnandgbaeBookG
import Derived.Test.YtbokdcdnandgbaeCellE
import Derived.Deep.CutBlock
namespace Go.Proofs.Ytbokdcdnandgbae
open Go.RowKit

set_option linter.unusedSimpArgs false in
set_option maxHeartbeats 4000000 in
set_option maxRecDepth 100000 in
theorem ry_ck (c : Cl) (a1 a2 : Option Addr) (m1 k1 m2 k2 : Nat) (x : En) (w : World) (hb : BkAt w (.slice a1 m1 k1) (.slice a2 m2 k2) c) (d : Int) (hck : c.ck = d) (hz : (d != 0) = true) :
    AnsX 32 #[c.val (.slice a1 m1 k1) (.slice a2 m2 k2), x.val] w (Cl.zero, d) nil0 nil0 := by
  have HB0 : Aside (Below w.heap.size w (((w.alloc (boxC c (.slice a1 m1 k1) (.slice a2 m2 k2))).alloc (boxE x.k x.j x.v x.t x.c)).alloc (boxC Cl.zero nil0 nil0))) := grew (grew (grew (Below.refl _ _) _) _) _
  have HX0 : Aside ((((w.alloc (boxC c (.slice a1 m1 k1) (.slice a2 m2 k2))).alloc (boxE x.k x.j x.v x.t x.c)).alloc (boxC Cl.zero nil0 nil0)).heap[w.heap.size]? = some (boxC c (.slice a1 m1 k1) (.slice a2 m2 k2))) := heap_old (heap_old (heap_new _ _) _) _
  have HE0 : Aside ((((w.alloc (boxC c (.slice a1 m1 k1) (.slice a2 m2 k2))).alloc (boxE x.k x.j x.v x.t x.c)).alloc (boxC Cl.zero nil0 nil0)).heap[w.heap.size + 1]? = some (boxE x.k x.j x.v x.t x.c)) := by
    have := heap_new (w.alloc (boxC c (.slice a1 m1 k1) (.slice a2 m2 k2))) (boxE x.k x.j x.v x.t x.c)
    rw [World.size_alloc] at this
    exact heap_old (this) _
  have HR0 : Aside ((((w.alloc (boxC c (.slice a1 m1 k1) (.slice a2 m2 k2))).alloc (boxE x.k x.j x.v x.t x.c)).alloc (boxC Cl.zero nil0 nil0)).heap[w.heap.size + 1 + 1]? = some (boxC Cl.zero nil0 nil0)) := by
    have := heap_new ((w.alloc (boxC c (.slice a1 m1 k1) (.slice a2 m2 k2))).alloc (boxE x.k x.j x.v x.t x.c)) (boxC Cl.zero nil0 nil0)
    rw [World.size_alloc, World.size_alloc] at this
    exact this
  have kc := ref_ckClient c (.slice a1 m1 k1) (.slice a2 m2 k2) _ (bkAt_later hb HB0.out)
  rw [hck] at kc
  have HK : Aside (BkAt w (.slice a1 m1 k1) (.slice a2 m2 k2) c) := hb
  clear hb hck
  go_enter Try.func32, Try.ntmps32
  go_wp2_with fail
  refine kc.mono ?_
  rintro r w1 ⟨rfl, hb1⟩
  have HX1 : Aside _ := heap_below HX0.out hb1 (heap_lt HX0.out)
  have HE1 : Aside _ := heap_below HE0.out hb1 (heap_lt HE0.out)
  have HR1 : Aside _ := heap_below HR0.out hb1 (heap_lt HR0.out)
  have HB1 : Aside (Below w.heap.size w w1) := step_below HB0.out hb1
  clear hb1 HB0 HX0 HE0 HR0
  clear kc
  have zr : ∀ i, w1.cell? ⟨w.heap.size + 1 + 1, i, none⟩ = #[Value.int .i64 0, .int .i64 0, .int .i64 0, .int .i64 0, .int .i64 0, .int .i64 0, .int .i64 0, .int .i64 0, .int .i64 0, .int .i64 0, .slice none 0 0, .slice none 0 0][i]? := fun i => Joins.cell_of_block HR1.out i
  have fzr : ∀ i, w1.frozen? ⟨w.heap.size + 1 + 1, i, none⟩ = false := fun i => Joins.unfrozen_of_block HR1.out i
  go_wp2
  refine ret_st (p := 4) (q := 5) w1 (w.heap.size + 1 + 1) (Cl.zero) nil0 nil0 (o := Cl.zero) (u1 := nil0) (u2 := nil0) Try.results32 rfl rfl rfl HR1.out rfl ?_
  exact ⟨rfl, st12_below HB1.out (by omega) _ _ _⟩

set_option linter.unusedSimpArgs false in
set_option maxHeartbeats 4000000 in
set_option maxRecDepth 100000 in
theorem ry_full (c : Cl) (a1 a2 : Option Addr) (m1 k1 m2 k2 : Nat) (x : En) (w : World) (hb : BkAt w (.slice a1 m1 k1) (.slice a2 m2 k2) c) (hck : c.ck = 0) (hn : (c.n == 60) = true) :
    AnsX 32 #[c.val (.slice a1 m1 k1) (.slice a2 m2 k2), x.val] w (Cl.zero, 2) nil0 nil0 := by
  have HB0 : Aside (Below w.heap.size w (((w.alloc (boxC c (.slice a1 m1 k1) (.slice a2 m2 k2))).alloc (boxE x.k x.j x.v x.t x.c)).alloc (boxC Cl.zero nil0 nil0))) := grew (grew (grew (Below.refl _ _) _) _) _
  have HX0 : Aside ((((w.alloc (boxC c (.slice a1 m1 k1) (.slice a2 m2 k2))).alloc (boxE x.k x.j x.v x.t x.c)).alloc (boxC Cl.zero nil0 nil0)).heap[w.heap.size]? = some (boxC c (.slice a1 m1 k1) (.slice a2 m2 k2))) := heap_old (heap_old (heap_new _ _) _) _
  have HE0 : Aside ((((w.alloc (boxC c (.slice a1 m1 k1) (.slice a2 m2 k2))).alloc (boxE x.k x.j x.v x.t x.c)).alloc (boxC Cl.zero nil0 nil0)).heap[w.heap.size + 1]? = some (boxE x.k x.j x.v x.t x.c)) := by
    have := heap_new (w.alloc (boxC c (.slice a1 m1 k1) (.slice a2 m2 k2))) (boxE x.k x.j x.v x.t x.c)
    rw [World.size_alloc] at this
    exact heap_old (this) _
  have HR0 : Aside ((((w.alloc (boxC c (.slice a1 m1 k1) (.slice a2 m2 k2))).alloc (boxE x.k x.j x.v x.t x.c)).alloc (boxC Cl.zero nil0 nil0)).heap[w.heap.size + 1 + 1]? = some (boxC Cl.zero nil0 nil0)) := by
    have := heap_new ((w.alloc (boxC c (.slice a1 m1 k1) (.slice a2 m2 k2))).alloc (boxE x.k x.j x.v x.t x.c)) (boxC Cl.zero nil0 nil0)
    rw [World.size_alloc, World.size_alloc] at this
    exact this
  have kc := ref_ckClient c (.slice a1 m1 k1) (.slice a2 m2 k2) _ (bkAt_later hb HB0.out)
  rw [hck] at kc
  have HK : Aside (BkAt w (.slice a1 m1 k1) (.slice a2 m2 k2) c) := hb
  clear hb hck
  go_enter Try.func32, Try.ntmps32
  go_wp2_with fail
  refine kc.mono ?_
  rintro r w1 ⟨rfl, hb1⟩
  have HX1 : Aside _ := heap_below HX0.out hb1 (heap_lt HX0.out)
  have HE1 : Aside _ := heap_below HE0.out hb1 (heap_lt HE0.out)
  have HR1 : Aside _ := heap_below HR0.out hb1 (heap_lt HR0.out)
  have HB1 : Aside (Below w.heap.size w w1) := step_below HB0.out hb1
  clear hb1 HB0 HX0 HE0 HR0
  clear kc
  have z : ∀ i, w1.cell? ⟨w.heap.size, i, none⟩ = #[Value.int .i64 c.p, .int .i64 c.d, .int .i64 c.e.k, .int .i64 c.e.j, .int .i64 c.e.v, .int .i64 c.e.t, .int .i64 c.e.c, .int .i64 c.a, .int .i64 c.l, .int .i64 c.n, .slice a1 m1 k1, .slice a2 m2 k2][i]? := fun i => Joins.cell_of_block HX1.out i
  have zr : ∀ i, w1.cell? ⟨w.heap.size + 1 + 1, i, none⟩ = #[Value.int .i64 0, .int .i64 0, .int .i64 0, .int .i64 0, .int .i64 0, .int .i64 0, .int .i64 0, .int .i64 0, .int .i64 0, .int .i64 0, .slice none 0 0, .slice none 0 0][i]? := fun i => Joins.cell_of_block HR1.out i
  have fzr : ∀ i, w1.frozen? ⟨w.heap.size + 1 + 1, i, none⟩ = false := fun i => Joins.unfrozen_of_block HR1.out i
  go_wp2
  refine ret_st (p := 4) (q := 5) w1 (w.heap.size + 1 + 1) (Cl.zero) nil0 nil0 (o := Cl.zero) (u1 := nil0) (u2 := nil0) Try.results32 rfl rfl rfl HR1.out rfl ?_
  exact ⟨rfl, st12_below HB1.out (by omega) _ _ _⟩

set_option linter.unusedSimpArgs false in
set_option maxHeartbeats 4000000 in
set_option maxRecDepth 100000 in
theorem ry_app (c : Cl) (a1 a2 : Option Addr) (m1 k1 m2 k2 : Nat) (x : En) (w : World) (hb : BkAt w (.slice a1 m1 k1) (.slice a2 m2 k2) c) (hck : c.ck = 0) (hn : (c.n == 60) = false) (J : List Jb) (Q : List Rg) (d : Int) (hA : app c.js c.rs x = ((J, Q), d)) (hz : (d != 0) = true) :
    AnsX 32 #[c.val (.slice a1 m1 k1) (.slice a2 m2 k2), x.val] w (Cl.zero, d) nil0 nil0 := by
  have HB0 : Aside (Below w.heap.size w (((w.alloc (boxC c (.slice a1 m1 k1) (.slice a2 m2 k2))).alloc (boxE x.k x.j x.v x.t x.c)).alloc (boxC Cl.zero nil0 nil0))) := grew (grew (grew (Below.refl _ _) _) _) _
  have HX0 : Aside ((((w.alloc (boxC c (.slice a1 m1 k1) (.slice a2 m2 k2))).alloc (boxE x.k x.j x.v x.t x.c)).alloc (boxC Cl.zero nil0 nil0)).heap[w.heap.size]? = some (boxC c (.slice a1 m1 k1) (.slice a2 m2 k2))) := heap_old (heap_old (heap_new _ _) _) _
  have HE0 : Aside ((((w.alloc (boxC c (.slice a1 m1 k1) (.slice a2 m2 k2))).alloc (boxE x.k x.j x.v x.t x.c)).alloc (boxC Cl.zero nil0 nil0)).heap[w.heap.size + 1]? = some (boxE x.k x.j x.v x.t x.c)) := by
    have := heap_new (w.alloc (boxC c (.slice a1 m1 k1) (.slice a2 m2 k2))) (boxE x.k x.j x.v x.t x.c)
    rw [World.size_alloc] at this
    exact heap_old (this) _
  have HR0 : Aside ((((w.alloc (boxC c (.slice a1 m1 k1) (.slice a2 m2 k2))).alloc (boxE x.k x.j x.v x.t x.c)).alloc (boxC Cl.zero nil0 nil0)).heap[w.heap.size + 1 + 1]? = some (boxC Cl.zero nil0 nil0)) := by
    have := heap_new ((w.alloc (boxC c (.slice a1 m1 k1) (.slice a2 m2 k2))).alloc (boxE x.k x.j x.v x.t x.c)) (boxC Cl.zero nil0 nil0)
    rw [World.size_alloc, World.size_alloc] at this
    exact this
  have kc := ref_ckClient c (.slice a1 m1 k1) (.slice a2 m2 k2) _ (bkAt_later hb HB0.out)
  have kp : ∀ W, Below w.heap.size w W → Calls Try.prog 65 #[.agg #[(.slice a1 m1 k1), (.slice a2 m2 k2)], x.val] W fun e w' => ∃ u1 u2, e = .returned (.tuple #[.agg #[u1, u2], .int .i64 d]) ∧ BkT w' u1 u2 (⟨c.p, c.d, c.e, c.a, c.l, (c.n + 1), J, Q⟩ : Cl) ∧ Below W.heap.size W w' := fun W hB =>
    (ref_appliedT (.slice a1 m1 k1) (.slice a2 m2 k2) c.js c.rs x W (hb.1.later hB) (hb.2.later hB)).mono fun e w' ⟨u1, u2, g1, g2, g3, g4, _, g5, g6⟩ => ⟨u1, u2, by rw [g1, hA], by rw [hA] at g2 g3; exact ⟨⟨g2, g3⟩, g5, g6⟩, g4⟩
  clear hA
  rw [hck] at kc
  have HK : Aside (BkAt w (.slice a1 m1 k1) (.slice a2 m2 k2) c) := hb
  clear hb hck
  go_enter Try.func32, Try.ntmps32
  go_wp2_with fail
  refine kc.mono ?_
  rintro r w1 ⟨rfl, hb1⟩
  have HX1 : Aside _ := heap_below HX0.out hb1 (heap_lt HX0.out)
  have HE1 : Aside _ := heap_below HE0.out hb1 (heap_lt HE0.out)
  have HR1 : Aside _ := heap_below HR0.out hb1 (heap_lt HR0.out)
  have HB1 : Aside (Below w.heap.size w w1) := step_below HB0.out hb1
  clear hb1 HB0 HX0 HE0 HR0
  clear kc
  have z : ∀ i, w1.cell? ⟨w.heap.size, i, none⟩ = #[Value.int .i64 c.p, .int .i64 c.d, .int .i64 c.e.k, .int .i64 c.e.j, .int .i64 c.e.v, .int .i64 c.e.t, .int .i64 c.e.c, .int .i64 c.a, .int .i64 c.l, .int .i64 c.n, .slice a1 m1 k1, .slice a2 m2 k2][i]? := fun i => Joins.cell_of_block HX1.out i
  have ze : ∀ i, w1.cell? ⟨w.heap.size + 1, i, none⟩ = #[Value.int .i64 x.k, .int .i64 x.j, .int .i64 x.v, .int .i64 x.t, .int .i64 x.c][i]? := fun i => Joins.cell_of_block HE1.out i
  go_wp2_with fail
  refine (kp w1 HB1.out).mono ?_
  rintro r w2 ⟨u1, u2, rfl, hT2, hb2⟩
  have HX2 : Aside _ := heap_below HX1.out hb2 (heap_lt HX1.out)
  have HR2 : Aside _ := heap_below HR1.out hb2 (heap_lt HR1.out)
  have HB2 : Aside (Below w.heap.size w w2) := step_below HB1.out hb2
  have HT2 : Aside (BkT w2 u1 u2 (⟨c.p, c.d, c.e, c.a, c.l, (c.n + 1), J, Q⟩ : Cl)) := hT2
  obtain ⟨s1, o1, s2, o2, rfl, rfl⟩ := bk_slices hT2.1.1 hT2.1.2
  clear hb2 kp HB1 HR1 HX1 hT2
  obtain ⟨n1, hn1⟩ : ∃ n, Hid (J.length = n) := ⟨_, rfl⟩
  obtain ⟨n2, hn2⟩ : ∃ n, Hid (Q.length = n) := ⟨_, rfl⟩
  rw [hn1.out, hn2.out] at HT2 ⊢
  clear z ze
  go_upto_region 7 with fail
  have HX3 : Aside ((w2.alloc (boxB (.slice s1 n1 o1) (.slice s2 n2 o2))).heap[w.heap.size]? = some (boxC c (.slice a1 m1 k1) (.slice a2 m2 k2))) := heap_old HX2.out _
  have HR3 : Aside ((w2.alloc (boxB (.slice s1 n1 o1) (.slice s2 n2 o2))).heap[w.heap.size + 1 + 1]? = some (boxC Cl.zero nil0 nil0)) := heap_old HR2.out _
  have HB3 : Aside (Below w.heap.size w (w2.alloc (boxB (.slice s1 n1 o1) (.slice s2 n2 o2)))) := grew HB2.out _
  have HT3 : Aside _ := bkT_later HT2.out (grew (Below.refl _ _) (boxB (.slice s1 n1 o1) (.slice s2 n2 o2)))
  have HK3 : Aside ((w2.alloc (boxB (.slice s1 n1 o1) (.slice s2 n2 o2))).heap[w2.heap.size]? = some (boxB (.slice s1 n1 o1) (.slice s2 n2 o2))) := heap_new _ _
  have hne : w2.heap.size ≠ w.heap.size := by have := heap_lt HX2.out; omega
  clear HX2 HR2 HB2 HT2
  generalize (w2.alloc (boxB (.slice s1 n1 o1) (.slice s2 n2 o2))) = w3 at *
  have zr : ∀ i, w3.cell? ⟨w.heap.size + 1 + 1, i, none⟩ = #[Value.int .i64 0, .int .i64 0, .int .i64 0, .int .i64 0, .int .i64 0, .int .i64 0, .int .i64 0, .int .i64 0, .int .i64 0, .int .i64 0, .slice none 0 0, .slice none 0 0][i]? := fun i => Joins.cell_of_block HR3.out i
  have fzr : ∀ i, w3.frozen? ⟨w.heap.size + 1 + 1, i, none⟩ = false := fun i => Joins.unfrozen_of_block HR3.out i
  go_wp2
  refine ret_st (p := 4) (q := 5) w3 (w.heap.size + 1 + 1) (Cl.zero) nil0 nil0 (o := Cl.zero) (u1 := nil0) (u2 := nil0) Try.results32 rfl rfl rfl HR3.out rfl ?_
  exact ⟨rfl, st12_below HB3.out (by omega) _ _ _⟩

set_option linter.unusedSimpArgs false in
set_option maxHeartbeats 4000000 in
set_option maxRecDepth 100000 in
theorem ry_ok (c : Cl) (a1 a2 : Option Addr) (m1 k1 m2 k2 : Nat) (x : En) (w : World) (hb : BkAt w (.slice a1 m1 k1) (.slice a2 m2 k2) c) (hck : c.ck = 0) (hn : (c.n == 60) = false) (d : Int) (hd : d = 0) (J : List Jb) (Q : List Rg) (hA : app c.js c.rs x = ((J, Q), d)) (hw : IntKind.i64.wrap (c.n + 1) = c.n + 1) :
    AnsT 32 #[c.val (.slice a1 m1 k1) (.slice a2 m2 k2), x.val] w ((⟨c.p, c.d, c.e, c.a, c.l, (c.n + 1), J, Q⟩ : Cl), 0) := by
  have HB0 : Aside (Below w.heap.size w (((w.alloc (boxC c (.slice a1 m1 k1) (.slice a2 m2 k2))).alloc (boxE x.k x.j x.v x.t x.c)).alloc (boxC Cl.zero nil0 nil0))) := grew (grew (grew (Below.refl _ _) _) _) _
  have HX0 : Aside ((((w.alloc (boxC c (.slice a1 m1 k1) (.slice a2 m2 k2))).alloc (boxE x.k x.j x.v x.t x.c)).alloc (boxC Cl.zero nil0 nil0)).heap[w.heap.size]? = some (boxC c (.slice a1 m1 k1) (.slice a2 m2 k2))) := heap_old (heap_old (heap_new _ _) _) _
  have HE0 : Aside ((((w.alloc (boxC c (.slice a1 m1 k1) (.slice a2 m2 k2))).alloc (boxE x.k x.j x.v x.t x.c)).alloc (boxC Cl.zero nil0 nil0)).heap[w.heap.size + 1]? = some (boxE x.k x.j x.v x.t x.c)) := by
    have := heap_new (w.alloc (boxC c (.slice a1 m1 k1) (.slice a2 m2 k2))) (boxE x.k x.j x.v x.t x.c)
    rw [World.size_alloc] at this
    exact heap_old (this) _
  have HR0 : Aside ((((w.alloc (boxC c (.slice a1 m1 k1) (.slice a2 m2 k2))).alloc (boxE x.k x.j x.v x.t x.c)).alloc (boxC Cl.zero nil0 nil0)).heap[w.heap.size + 1 + 1]? = some (boxC Cl.zero nil0 nil0)) := by
    have := heap_new ((w.alloc (boxC c (.slice a1 m1 k1) (.slice a2 m2 k2))).alloc (boxE x.k x.j x.v x.t x.c)) (boxC Cl.zero nil0 nil0)
    rw [World.size_alloc, World.size_alloc] at this
    exact this
  have kc := ref_ckClient c (.slice a1 m1 k1) (.slice a2 m2 k2) _ (bkAt_later hb HB0.out)
  have kp : ∀ W, Below w.heap.size w W → Calls Try.prog 65 #[.agg #[(.slice a1 m1 k1), (.slice a2 m2 k2)], x.val] W fun e w' => ∃ u1 u2, e = .returned (.tuple #[.agg #[u1, u2], .int .i64 d]) ∧ BkT w' u1 u2 (⟨c.p, c.d, c.e, c.a, c.l, (c.n + 1), J, Q⟩ : Cl) ∧ Below W.heap.size W w' := fun W hB =>
    (ref_appliedT (.slice a1 m1 k1) (.slice a2 m2 k2) c.js c.rs x W (hb.1.later hB) (hb.2.later hB)).mono fun e w' ⟨u1, u2, g1, g2, g3, g4, _, g5, g6⟩ => ⟨u1, u2, by rw [g1, hA], by rw [hA] at g2 g3; exact ⟨⟨g2, g3⟩, g5, g6⟩, g4⟩
  clear hA
  subst hd
  rw [hck] at kc
  have HK : Aside (BkAt w (.slice a1 m1 k1) (.slice a2 m2 k2) c) := hb
  clear hb hck
  go_enter Try.func32, Try.ntmps32
  go_wp2_with fail
  refine kc.mono ?_
  rintro r w1 ⟨rfl, hb1⟩
  have HX1 : Aside _ := heap_below HX0.out hb1 (heap_lt HX0.out)
  have HE1 : Aside _ := heap_below HE0.out hb1 (heap_lt HE0.out)
  have HR1 : Aside _ := heap_below HR0.out hb1 (heap_lt HR0.out)
  have HB1 : Aside (Below w.heap.size w w1) := step_below HB0.out hb1
  clear hb1 HB0 HX0 HE0 HR0
  clear kc
  have z : ∀ i, w1.cell? ⟨w.heap.size, i, none⟩ = #[Value.int .i64 c.p, .int .i64 c.d, .int .i64 c.e.k, .int .i64 c.e.j, .int .i64 c.e.v, .int .i64 c.e.t, .int .i64 c.e.c, .int .i64 c.a, .int .i64 c.l, .int .i64 c.n, .slice a1 m1 k1, .slice a2 m2 k2][i]? := fun i => Joins.cell_of_block HX1.out i
  have ze : ∀ i, w1.cell? ⟨w.heap.size + 1, i, none⟩ = #[Value.int .i64 x.k, .int .i64 x.j, .int .i64 x.v, .int .i64 x.t, .int .i64 x.c][i]? := fun i => Joins.cell_of_block HE1.out i
  go_wp2_with fail
  refine (kp w1 HB1.out).mono ?_
  rintro r w2 ⟨u1, u2, rfl, hT2, hb2⟩
  have HX2 : Aside _ := heap_below HX1.out hb2 (heap_lt HX1.out)
  have HR2 : Aside _ := heap_below HR1.out hb2 (heap_lt HR1.out)
  have HB2 : Aside (Below w.heap.size w w2) := step_below HB1.out hb2
  have HT2 : Aside (BkT w2 u1 u2 (⟨c.p, c.d, c.e, c.a, c.l, (c.n + 1), J, Q⟩ : Cl)) := hT2
  obtain ⟨s1, o1, s2, o2, rfl, rfl⟩ := bk_slices hT2.1.1 hT2.1.2
  clear hb2 kp HB1 HR1 HX1 hT2
  obtain ⟨n1, hn1⟩ : ∃ n, Hid (J.length = n) := ⟨_, rfl⟩
  obtain ⟨n2, hn2⟩ : ∃ n, Hid (Q.length = n) := ⟨_, rfl⟩
  rw [hn1.out, hn2.out] at HT2 ⊢
  clear z ze
  go_upto_region 7 with fail
  have HX3 : Aside ((w2.alloc (boxB (.slice s1 n1 o1) (.slice s2 n2 o2))).heap[w.heap.size]? = some (boxC c (.slice a1 m1 k1) (.slice a2 m2 k2))) := heap_old HX2.out _
  have HR3 : Aside ((w2.alloc (boxB (.slice s1 n1 o1) (.slice s2 n2 o2))).heap[w.heap.size + 1 + 1]? = some (boxC Cl.zero nil0 nil0)) := heap_old HR2.out _
  have HB3 : Aside (Below w.heap.size w (w2.alloc (boxB (.slice s1 n1 o1) (.slice s2 n2 o2)))) := grew HB2.out _
  have HT3 : Aside _ := bkT_later HT2.out (grew (Below.refl _ _) (boxB (.slice s1 n1 o1) (.slice s2 n2 o2)))
  have HK3 : Aside ((w2.alloc (boxB (.slice s1 n1 o1) (.slice s2 n2 o2))).heap[w2.heap.size]? = some (boxB (.slice s1 n1 o1) (.slice s2 n2 o2))) := heap_new _ _
  have hne : w2.heap.size ≠ w.heap.size := by have := heap_lt HX2.out; omega
  clear HX2 HR2 HB2 HT2
  generalize (w2.alloc (boxB (.slice s1 n1 o1) (.slice s2 n2 o2))) = w3 at *
  go_upto_region 9 with fail
  have HXd : Aside (w3.drew.heap[w.heap.size]? = some (boxC c (.slice a1 m1 k1) (.slice a2 m2 k2))) := HX3.out
  have HRd : Aside (w3.drew.heap[w.heap.size + 1 + 1]? = some (boxC Cl.zero nil0 nil0)) := HR3.out
  have HBd : Aside (Below w.heap.size w w3.drew) := HB3.out.drew
  have HTd : Aside (BkT w3.drew (.slice s1 n1 o1) (.slice s2 n2 o2) (⟨c.p, c.d, c.e, c.a, c.l, (c.n + 1), J, Q⟩ : Cl)) := bkT_later HT3.out (Below.refl _ _).drew
  have hS0 : w3.drew.cell? ⟨w2.heap.size, 0, none⟩ = some (.slice s1 n1 o1) ∧ w3.drew.cell? ⟨w2.heap.size, 1, none⟩ = some (.slice s2 n2 o2) := ⟨Joins.cell_of_block HK3.out 0, Joins.cell_of_block HK3.out 1⟩
  clear HX3 HR3 HB3 HT3 HK3
  refine wp_region_held_drew (S := fun w' => w'.cell? ⟨w2.heap.size, 0, none⟩ = some (.slice s1 n1 o1) ∧ w'.cell? ⟨w2.heap.size, 1, none⟩ = some (.slice s2 n2 o2)) (by kernel_rfl) (hS0) (fun hHeld => ?_)
  clear hS0
  generalize w3.drew = X at *
  refine wpAnyH_take (i := 0) (oi := ?oi0) (v := ?v0) ?hi0 ?hs0 ?hf0 ?hr0 ?hQ0 (Or.inl ⟨?hw0, ?hy0⟩) (by assumption) ?h0
  case hi0 => (simp only [List.getElem?_toArray, List.getElem?_cons_succ, List.getElem?_cons_zero]; rfl)
  case hs0 => kernel_rfl
  case hf0 => kernel_rfl
  case hr0 => kernel_rfl
  case hw0 => rfl
  case hy0 => (intro w0 hSw; (try dsimp only at hSw); go_simp; first | done | with_reducible rfl)
  case hQ0 => exact fun _ _ _ h => h
  try simp only [Act.put, List.setIfInBounds_toArray, List.set_cons_zero, List.set_cons_succ]
  refine wpAnyH_take (i := 3) (oi := ?oi3) (v := ?v3) ?hi3 ?hs3 ?hf3 ?hr3 ?hQ3 (Or.inl ⟨?hw3, ?hy3⟩) (by assumption) ?h3
  case hi3 => (simp only [List.getElem?_toArray, List.getElem?_cons_succ, List.getElem?_cons_zero]; rfl)
  case hs3 => kernel_rfl
  case hf3 => kernel_rfl
  case hr3 => kernel_rfl
  case hw3 => rfl
  case hy3 => (intro w0 hSw; (try dsimp only at hSw); go_simp; first | done | with_reducible rfl)
  case hQ3 => exact fun _ _ _ h => h
  try simp only [Act.put, List.setIfInBounds_toArray, List.set_cons_zero, List.set_cons_succ]
  have z : ∀ i, X.cell? ⟨w.heap.size, i, none⟩ = #[Value.int .i64 c.p, .int .i64 c.d, .int .i64 c.e.k, .int .i64 c.e.j, .int .i64 c.e.v, .int .i64 c.e.t, .int .i64 c.e.c, .int .i64 c.a, .int .i64 c.l, .int .i64 c.n, .slice a1 m1 k1, .slice a2 m2 k2][i]? := fun i => Joins.cell_of_block HXd.out i
  have fz : ∀ i, X.frozen? ⟨w.heap.size, i, none⟩ = false := fun i => Joins.unfrozen_of_block HXd.out i
  refine wpAnyH_ready (rs := [1]) (by kernel_rfl) (by simp) ?_
  refine AllReadyH.cons (o := ?o1) ?hi1 ?step1 AllReadyH.nil
  case hi1 => (simp only [List.getElem?_toArray, List.getElem?_cons_succ, List.getElem?_cons_zero]; rfl)
  intro K hK
  go_simp
  refine hK.out _ _ (by assumption) (fun hHeld => ?_)
  clear hK K
  try simp only [Act.put, List.setIfInBounds_toArray, List.set_cons_zero, List.set_cons_succ]
  refine wpAnyH_take (i := 2) (oi := ?oi2) (v := ?v2) ?hi2 ?hs2 ?hf2 ?hr2 ?hQ2 (Or.inl ⟨?hw2, ?hy2⟩) (by assumption) ?h2
  case hi2 => (simp only [List.getElem?_toArray, List.getElem?_cons_succ, List.getElem?_cons_zero]; rfl)
  case hs2 => kernel_rfl
  case hf2 => kernel_rfl
  case hr2 => kernel_rfl
  case hw2 => rfl
  case hy2 => (intro w0 hSw; (try dsimp only at hSw); go_simp; first | done | with_reducible rfl)
  case hQ2 => exact fun _ _ _ h => h
  try simp only [Act.put, List.setIfInBounds_toArray, List.set_cons_zero, List.set_cons_succ]
  refine wpAnyH_take (i := 4) (oi := ?oi4) (v := ?v4) ?hi4 ?hs4 ?hf4 ?hr4 ?hQ4 (Or.inl ⟨?hw4, ?hy4⟩) (by assumption) ?h4
  case hi4 => (simp only [List.getElem?_toArray, List.getElem?_cons_succ, List.getElem?_cons_zero]; rfl)
  case hs4 => kernel_rfl
  case hf4 => kernel_rfl
  case hr4 => kernel_rfl
  case hw4 => rfl
  case hy4 => (intro w0 hSw; (try dsimp only at hSw); go_simp; first | done | with_reducible rfl)
  case hQ4 => exact fun _ _ _ h => h
  try simp only [Act.put, List.setIfInBounds_toArray, List.set_cons_zero, List.set_cons_succ]
  refine wpAnyH_ready (rs := [5]) (by kernel_rfl) (by simp) ?_
  refine AllReadyH.cons (o := ?o5) ?hi5 ?step5 AllReadyH.nil
  case hi5 => (simp only [List.getElem?_toArray, List.getElem?_cons_succ, List.getElem?_cons_zero]; rfl)
  intro K hK
  go_simp
  refine hK.out _ _ (⟨(c5_far hne _ _ _).trans (hHeld).1, (c5_far hne _ _ _).trans (hHeld).2⟩) (fun hHeld => ?_)
  clear hK K
  try simp only [Act.put, List.setIfInBounds_toArray, List.set_cons_zero, List.set_cons_succ]
  refine wpAnyH_take (i := 6) (oi := ?oi6) (v := ?v6) ?hi6 ?hs6 ?hf6 ?hr6 ?hQ6 (Or.inl ⟨?hw6, ?hy6⟩) (by assumption) ?h6
  case hi6 => (simp only [List.getElem?_toArray, List.getElem?_cons_succ, List.getElem?_cons_zero]; rfl)
  case hs6 => kernel_rfl
  case hf6 => kernel_rfl
  case hr6 => kernel_rfl
  case hw6 => rfl
  case hy6 => (intro w0 hSw; (try dsimp only at hSw); go_simp; first | done | with_reducible rfl)
  case hQ6 => exact fun _ _ _ h => h
  try simp only [Act.put, List.setIfInBounds_toArray, List.set_cons_zero, List.set_cons_succ]
  refine wpAnyH_ready (rs := [7]) (by kernel_rfl) (by simp) ?_
  refine AllReadyH.cons (o := ?o7) ?hi7 ?step7 AllReadyH.nil
  case hi7 => (simp only [List.getElem?_toArray, List.getElem?_cons_succ, List.getElem?_cons_zero]; rfl)
  intro K hK
  go_simp
  refine hK.out _ _ (⟨(c5_far hne _ _ _).trans ((c5_far hne _ _ _).trans hHeld.1), (c5_far hne _ _ _).trans ((c5_far hne _ _ _).trans hHeld.2)⟩) (fun hHeld => ?_)
  clear hK K
  try simp only [Act.put, List.setIfInBounds_toArray, List.set_cons_zero, List.set_cons_succ]
  refine wpAnyH_done (by kernel_rfl) ?_ _
  clear z fz hHeld
  have HT4 : Aside _ := (bkT_both (bkT_both (bkT_both ⟨isC_of HXd.out, HTd.out⟩ 9 (.int .i64 (c.n + 1))) 10 (.slice s1 n1 o1)) 11 (.slice s2 n2 o2)).2
  have g0 := Joins.block_setCell HXd.out (i := 9) (.int .i64 (c.n + 1))
  have g1 := Joins.block_setCell g0 (i := 10) (.slice s1 n1 o1)
  have g2 := Joins.block_setCell g1 (i := 11) (.slice s2 n2 o2)
  simp only [List.setIfInBounds_toArray, List.set_cons_zero, List.set_cons_succ] at g2
  have hrs : w.heap.size + 1 + 1 ≠ w.heap.size := by omega
  have HX4 : Aside ((((X.setCell ⟨w.heap.size, 9, none⟩ (.int .i64 (c.n + 1))).setCell ⟨w.heap.size, 10, none⟩ (.slice s1 n1 o1)).setCell ⟨w.heap.size, 11, none⟩ (.slice s2 n2 o2)).heap[w.heap.size]? = some (boxC (⟨c.p, c.d, c.e, c.a, c.l, (c.n + 1), J, Q⟩ : Cl) (.slice s1 n1 o1) (.slice s2 n2 o2))) := g2
  have HR4 : Aside ((((X.setCell ⟨w.heap.size, 9, none⟩ (.int .i64 (c.n + 1))).setCell ⟨w.heap.size, 10, none⟩ (.slice s1 n1 o1)).setCell ⟨w.heap.size, 11, none⟩ (.slice s2 n2 o2)).heap[w.heap.size + 1 + 1]? = some (boxC Cl.zero nil0 nil0)) := by
    rw [Aside, Below.heap_setCell _ _ _ _ (by exact hrs), Below.heap_setCell _ _ _ _ (by exact hrs), Below.heap_setCell _ _ _ _ (by exact hrs)]
    exact HRd.out
  have HB4 : Aside (Below w.heap.size w (((X.setCell ⟨w.heap.size, 9, none⟩ (.int .i64 (c.n + 1))).setCell ⟨w.heap.size, 10, none⟩ (.slice s1 n1 o1)).setCell ⟨w.heap.size, 11, none⟩ (.slice s2 n2 o2))) := (((HBd.out).setCell (p := ⟨w.heap.size, 9, none⟩) (Nat.le_refl _) _).setCell (p := ⟨w.heap.size, 10, none⟩) (Nat.le_refl _) _).setCell (p := ⟨w.heap.size, 11, none⟩) (Nat.le_refl _) _
  clear g0 g1 g2 HXd HRd HBd
  clear HTd
  generalize (((X.setCell ⟨w.heap.size, 9, none⟩ (.int .i64 (c.n + 1))).setCell ⟨w.heap.size, 10, none⟩ (.slice s1 n1 o1)).setCell ⟨w.heap.size, 11, none⟩ (.slice s2 n2 o2)) = w4 at *
  have z : ∀ i, w4.cell? ⟨w.heap.size, i, none⟩ = #[Value.int .i64 c.p, .int .i64 c.d, .int .i64 c.e.k, .int .i64 c.e.j, .int .i64 c.e.v, .int .i64 c.e.t, .int .i64 c.e.c, .int .i64 c.a, .int .i64 c.l, .int .i64 (c.n + 1), .slice s1 n1 o1, .slice s2 n2 o2][i]? := fun i => Joins.cell_of_block HX4.out i
  have zr : ∀ i, w4.cell? ⟨w.heap.size + 1 + 1, i, none⟩ = #[Value.int .i64 0, .int .i64 0, .int .i64 0, .int .i64 0, .int .i64 0, .int .i64 0, .int .i64 0, .int .i64 0, .int .i64 0, .int .i64 0, .slice none 0 0, .slice none 0 0][i]? := fun i => Joins.cell_of_block HR4.out i
  have fzr : ∀ i, w4.frozen? ⟨w.heap.size + 1 + 1, i, none⟩ = false := fun i => Joins.unfrozen_of_block HR4.out i
  go_wp2
  refine ret_st (p := 4) (q := 5) w4 (w.heap.size + 1 + 1) ((⟨c.p, c.d, c.e, c.a, c.l, (c.n + 1), J, Q⟩ : Cl)) (.slice s1 n1 o1) (.slice s2 n2 o2) (o := Cl.zero) (u1 := nil0) (u2 := nil0) Try.results32 rfl rfl rfl HR4.out rfl ?_
  exact ⟨(.slice s1 n1 o1), (.slice s2 n2 o2), rfl, bkT_st12 ⟨_, HR4.out⟩ HT4.out _ _ _, st12_below HB4.out (by omega) _ _ _⟩

/-- The reference's PlayedOn. -/
theorem ref_playedOn (c : Cl) (x : En) (v1 v2 : Value) (w : World) (hb : BkAt w v1 v2 c) : AnsT 32 #[c.val v1 v2, x.val] w (playOf c x) := by
  obtain ⟨a1, k1, a2, k2, rfl, rfl⟩ := bk_slices hb.1 hb.2
  unfold playOf
  by_cases hc : c.ck = 0
  · rw [if_neg (by simpa using hc)]
    by_cases hn : c.n = 60
    · rw [if_pos hn]
      exact ansT_zero <| ry_full c a1 a2 _ k1 _ k2 x w hb hc (by rw [hn]; rfl)
    · have hnb : (c.n == 60) = false := by rw [beq_eq_false_iff_ne]; exact hn
      rw [if_neg hn]
      by_cases hd : (app c.js c.rs x).2 = 0
      · rw [if_neg (by simpa using hd)]
        have hg := (Cl.good (Cl.ck_zero.1 hc).1).2.2.2.2
        exact ry_ok c a1 a2 _ k1 _ k2 x w hb hc hnb _ hd _ _ rfl (by rw [IntKind.wrap_i64]; omega)
      · rw [if_pos hd]
        exact ansT_zero <| ry_app c a1 a2 _ k1 _ k2 x w hb hc hnb _ _ _ rfl (by rw [bne_iff_ne]; exact hd)
  · rw [if_pos hc]
    exact ansT_zero <| ry_ck c a1 a2 _ k1 _ k2 x w hb _ rfl (by rw [bne_iff_ne]; exact hc)

end Go.Proofs.Ytbokdcdnandgbae
