/- For the law. -/
import Derived.Test.YtmoaobfmopimlafGreatDoorM38
set_option linter.unusedSimpArgs false
set_option linter.unusedVariables false
namespace Go.Proofs.YtmoaobfmopimlafGreatDoor
open Go.RowKit
set_option maxHeartbeats 4000000 in
set_option maxRecDepth 100000 in
theorem zh_ck (c : Cl) (a1 a2 : Option Addr) (m1 k1 m2 k2 : Nat) (x : En) (w : World) (hb : BkAt w (.slice a1 m1 k1) (.slice a2 m2 k2) c) (d : Int) (hck : c.ck = d) (hz : (d != 0) = true) :
  AnsX 136 #[c.val (.slice a1 m1 k1) (.slice a2 m2 k2), x.val] w (Cl.zero, d) nil0 nil0 := by
 have HB0 : Aside (Below w.heap.size w (((w.alloc (boxC c (.slice a1 m1 k1) (.slice a2 m2 k2))).alloc (boxE x.k x.j x.v x.t x.c)).alloc (boxC Cl.zero nil0 nil0))) := grew (grew (grew (Below.refl _ _) _) _) _
 have HX0 : Aside ((((w.alloc (boxC c (.slice a1 m1 k1) (.slice a2 m2 k2))).alloc (boxE x.k x.j x.v x.t x.c)).alloc (boxC Cl.zero nil0 nil0)).heap[w.heap.size]? = some (boxC c (.slice a1 m1 k1) (.slice a2 m2 k2))) := heap_old (heap_old (heap_new _ _) _) _
 have HE0 : Aside ((((w.alloc (boxC c (.slice a1 m1 k1) (.slice a2 m2 k2))).alloc (boxE x.k x.j x.v x.t x.c)).alloc (boxC Cl.zero nil0 nil0)).heap[w.heap.size + 1]? = some (boxE x.k x.j x.v x.t x.c)) := by
  have := heap_new (w.alloc (boxC c (.slice a1 m1 k1) (.slice a2 m2 k2))) (boxE x.k x.j x.v x.t x.c)
  rw [World.size_alloc] at this
  exact heap_old (this) _
 have HR0 : Aside ((((w.alloc (boxC c (.slice a1 m1 k1) (.slice a2 m2 k2))).alloc (boxE x.k x.j x.v x.t x.c)).alloc (boxC Cl.zero nil0 nil0)).heap[w.heap.size + 1 + 1]? = some (boxC Cl.zero nil0 nil0)) := by
  have := heap_new ((w.alloc (boxC c (.slice a1 m1 k1) (.slice a2 m2 k2))).alloc (boxE x.k x.j x.v x.t x.c)) (boxC Cl.zero nil0 nil0)
  rw [World.size_alloc, World.size_alloc] at this
  exact this
 have kc := cl_check c (.slice a1 m1 k1) (.slice a2 m2 k2) _ (bkAt_later hb HB0.out)
 rw [hck] at kc
 have HK : Aside (BkAt w (.slice a1 m1 k1) (.slice a2 m2 k2) c) := hb
 clear hb hck
 go_enter Tryz.func136, Tryz.ntmps136
 go_wp2_with fail
 refine kc.mono ?_
 rintro r w1 ⟨rfl, hb1⟩
 have HX1 := hv HX0 hb1
 have HE1 := hv HE0 hb1
 have HR1 := hv HR0 hb1
 have HB1 := sb HB0 hb1
 clear hb1 HB0 HX0 HE0 HR0
 clear kc
 have zr := cb HR1
 have fzr := cf HR1
 go_wp2
 refine ret_st (p := 4) (q := 5) w1 (w.heap.size + 1 + 1) (Cl.zero) nil0 nil0 (o := Cl.zero) (u1 := nil0) (u2 := nil0) Tryz.results136 rfl rfl rfl HR1.out rfl ?_
 exact ⟨rfl, st12_below HB1.out (by omega) _ _ _⟩
set_option maxHeartbeats 4000000 in
set_option maxRecDepth 100000 in
theorem zh_ent (c : Cl) (a1 a2 : Option Addr) (m1 k1 m2 k2 : Nat) (x : En) (w : World) (hb : BkAt w (.slice a1 m1 k1) (.slice a2 m2 k2) c) (hck : c.ck = 0) (q : Int) (hx : x.chk = q) (hz : (q != 0) = true) :
  AnsX 136 #[c.val (.slice a1 m1 k1) (.slice a2 m2 k2), x.val] w (Cl.zero, q) nil0 nil0 := by
 have HB0 : Aside (Below w.heap.size w (((w.alloc (boxC c (.slice a1 m1 k1) (.slice a2 m2 k2))).alloc (boxE x.k x.j x.v x.t x.c)).alloc (boxC Cl.zero nil0 nil0))) := grew (grew (grew (Below.refl _ _) _) _) _
 have HX0 : Aside ((((w.alloc (boxC c (.slice a1 m1 k1) (.slice a2 m2 k2))).alloc (boxE x.k x.j x.v x.t x.c)).alloc (boxC Cl.zero nil0 nil0)).heap[w.heap.size]? = some (boxC c (.slice a1 m1 k1) (.slice a2 m2 k2))) := heap_old (heap_old (heap_new _ _) _) _
 have HE0 : Aside ((((w.alloc (boxC c (.slice a1 m1 k1) (.slice a2 m2 k2))).alloc (boxE x.k x.j x.v x.t x.c)).alloc (boxC Cl.zero nil0 nil0)).heap[w.heap.size + 1]? = some (boxE x.k x.j x.v x.t x.c)) := by
  have := heap_new (w.alloc (boxC c (.slice a1 m1 k1) (.slice a2 m2 k2))) (boxE x.k x.j x.v x.t x.c)
  rw [World.size_alloc] at this
  exact heap_old (this) _
 have HR0 : Aside ((((w.alloc (boxC c (.slice a1 m1 k1) (.slice a2 m2 k2))).alloc (boxE x.k x.j x.v x.t x.c)).alloc (boxC Cl.zero nil0 nil0)).heap[w.heap.size + 1 + 1]? = some (boxC Cl.zero nil0 nil0)) := by
  have := heap_new ((w.alloc (boxC c (.slice a1 m1 k1) (.slice a2 m2 k2))).alloc (boxE x.k x.j x.v x.t x.c)) (boxC Cl.zero nil0 nil0)
  rw [World.size_alloc, World.size_alloc] at this
  exact this
 have kc := cl_check c (.slice a1 m1 k1) (.slice a2 m2 k2) _ (bkAt_later hb HB0.out)
 rw [hck] at kc
 have HK : Aside (BkAt w (.slice a1 m1 k1) (.slice a2 m2 k2) c) := hb
 clear hb hck
 have hce : ∀ W, Calls Tryz.prog 115 #[ev x.k x.j x.v x.t x.c] W fun e w' => e = .returned (.int .i64 x.chk) ∧ Below W.heap.size W w' := fun W => check_any x.k x.j x.v x.t x.c W
 rw [hx] at hce
 clear hx
 go_enter Tryz.func136, Tryz.ntmps136
 go_wp2_with fail
 refine kc.mono ?_
 rintro r w1 ⟨rfl, hb1⟩
 have HX1 := hv HX0 hb1
 have HE1 := hv HE0 hb1
 have HR1 := hv HR0 hb1
 have HB1 := sb HB0 hb1
 clear hb1 HB0 HX0 HE0 HR0
 clear kc
 have ze := cb HE1
 go_wp2_with fail
 refine (hce _).mono ?_
 rintro r w2 ⟨rfl, hb2⟩
 have HX2 := hv HX1 hb2
 have HE2 := hv HE1 hb2
 have HR2 := hv HR1 hb2
 have HB2 := sb HB1 hb2
 clear hb2 HB1 HX1 HE1 HR1
 clear ze hce
 have zr := cb HR2
 have fzr := cf HR2
 go_wp2
 refine ret_st (p := 4) (q := 5) w2 (w.heap.size + 1 + 1) (Cl.zero) nil0 nil0 (o := Cl.zero) (u1 := nil0) (u2 := nil0) Tryz.results136 rfl rfl rfl HR2.out rfl ?_
 exact ⟨rfl, st12_below HB2.out (by omega) _ _ _⟩
set_option maxHeartbeats 4000000 in
set_option maxRecDepth 100000 in
theorem zh_late (c : Cl) (a1 a2 : Option Addr) (m1 k1 m2 k2 : Nat) (x : En) (w : World) (hb : BkAt w (.slice a1 m1 k1) (.slice a2 m2 k2) c) (hck : c.ck = 0) (hx : x.chk = 0) (hd : (c.d != 2) = true) :
  AnsX 136 #[c.val (.slice a1 m1 k1) (.slice a2 m2 k2), x.val] w (Cl.zero, 7) nil0 nil0 := by
 have HB0 : Aside (Below w.heap.size w (((w.alloc (boxC c (.slice a1 m1 k1) (.slice a2 m2 k2))).alloc (boxE x.k x.j x.v x.t x.c)).alloc (boxC Cl.zero nil0 nil0))) := grew (grew (grew (Below.refl _ _) _) _) _
 have HX0 : Aside ((((w.alloc (boxC c (.slice a1 m1 k1) (.slice a2 m2 k2))).alloc (boxE x.k x.j x.v x.t x.c)).alloc (boxC Cl.zero nil0 nil0)).heap[w.heap.size]? = some (boxC c (.slice a1 m1 k1) (.slice a2 m2 k2))) := heap_old (heap_old (heap_new _ _) _) _
 have HE0 : Aside ((((w.alloc (boxC c (.slice a1 m1 k1) (.slice a2 m2 k2))).alloc (boxE x.k x.j x.v x.t x.c)).alloc (boxC Cl.zero nil0 nil0)).heap[w.heap.size + 1]? = some (boxE x.k x.j x.v x.t x.c)) := by
  have := heap_new (w.alloc (boxC c (.slice a1 m1 k1) (.slice a2 m2 k2))) (boxE x.k x.j x.v x.t x.c)
  rw [World.size_alloc] at this
  exact heap_old (this) _
 have HR0 : Aside ((((w.alloc (boxC c (.slice a1 m1 k1) (.slice a2 m2 k2))).alloc (boxE x.k x.j x.v x.t x.c)).alloc (boxC Cl.zero nil0 nil0)).heap[w.heap.size + 1 + 1]? = some (boxC Cl.zero nil0 nil0)) := by
  have := heap_new ((w.alloc (boxC c (.slice a1 m1 k1) (.slice a2 m2 k2))).alloc (boxE x.k x.j x.v x.t x.c)) (boxC Cl.zero nil0 nil0)
  rw [World.size_alloc, World.size_alloc] at this
  exact this
 have kc := cl_check c (.slice a1 m1 k1) (.slice a2 m2 k2) _ (bkAt_later hb HB0.out)
 rw [hck] at kc
 have HK : Aside (BkAt w (.slice a1 m1 k1) (.slice a2 m2 k2) c) := hb
 clear hb hck
 have hce : ∀ W, Calls Tryz.prog 115 #[ev x.k x.j x.v x.t x.c] W fun e w' => e = .returned (.int .i64 x.chk) ∧ Below W.heap.size W w' := fun W => check_any x.k x.j x.v x.t x.c W
 rw [hx] at hce
 clear hx
 go_enter Tryz.func136, Tryz.ntmps136
 go_wp2_with fail
 refine kc.mono ?_
 rintro r w1 ⟨rfl, hb1⟩
 have HX1 := hv HX0 hb1
 have HE1 := hv HE0 hb1
 have HR1 := hv HR0 hb1
 have HB1 := sb HB0 hb1
 clear hb1 HB0 HX0 HE0 HR0
 clear kc
 have ze := cb HE1
 go_wp2_with fail
 refine (hce _).mono ?_
 rintro r w2 ⟨rfl, hb2⟩
 have HX2 := hv HX1 hb2
 have HE2 := hv HE1 hb2
 have HR2 := hv HR1 hb2
 have HB2 := sb HB1 hb2
 clear hb2 HB1 HX1 HE1 HR1
 clear ze hce
 have z := cb HX2
 have zr := cb HR2
 have fzr := cf HR2
 go_wp2
 refine ret_st (p := 4) (q := 5) w2 (w.heap.size + 1 + 1) (Cl.zero) nil0 nil0 (o := Cl.zero) (u1 := nil0) (u2 := nil0) Tryz.results136 rfl rfl rfl HR2.out rfl ?_
 exact ⟨rfl, st12_below HB2.out (by omega) _ _ _⟩
set_option maxHeartbeats 4000000 in
set_option maxRecDepth 100000 in
theorem zh_other (c : Cl) (a1 a2 : Option Addr) (m1 k1 m2 k2 : Nat) (x : En) (w : World) (hb : BkAt w (.slice a1 m1 k1) (.slice a2 m2 k2) c) (hck : c.ck = 0) (hx : x.chk = 0) (hd : (c.d != 2) = false) (hn : unlike x.k x.j x.v x.t x.c c.e.k c.e.j c.e.v c.e.t c.e.c = true) (hk : (c.e.k == 0) = false) (hn1 : c.js.length ≤ 1000000) (hn2 : c.rs.length ≤ 1000000) :
  AnsT 136 #[c.val (.slice a1 m1 k1) (.slice a2 m2 k2), x.val] w ((⟨c.p, 1, c.e, 0, 0, c.n, c.js, c.rs⟩ : Cl), 0) := by
 have HB0 : Aside (Below w.heap.size w (((w.alloc (boxC c (.slice a1 m1 k1) (.slice a2 m2 k2))).alloc (boxE x.k x.j x.v x.t x.c)).alloc (boxC Cl.zero nil0 nil0))) := grew (grew (grew (Below.refl _ _) _) _) _
 have HX0 : Aside ((((w.alloc (boxC c (.slice a1 m1 k1) (.slice a2 m2 k2))).alloc (boxE x.k x.j x.v x.t x.c)).alloc (boxC Cl.zero nil0 nil0)).heap[w.heap.size]? = some (boxC c (.slice a1 m1 k1) (.slice a2 m2 k2))) := heap_old (heap_old (heap_new _ _) _) _
 have HE0 : Aside ((((w.alloc (boxC c (.slice a1 m1 k1) (.slice a2 m2 k2))).alloc (boxE x.k x.j x.v x.t x.c)).alloc (boxC Cl.zero nil0 nil0)).heap[w.heap.size + 1]? = some (boxE x.k x.j x.v x.t x.c)) := by
  have := heap_new (w.alloc (boxC c (.slice a1 m1 k1) (.slice a2 m2 k2))) (boxE x.k x.j x.v x.t x.c)
  rw [World.size_alloc] at this
  exact heap_old (this) _
 have HR0 : Aside ((((w.alloc (boxC c (.slice a1 m1 k1) (.slice a2 m2 k2))).alloc (boxE x.k x.j x.v x.t x.c)).alloc (boxC Cl.zero nil0 nil0)).heap[w.heap.size + 1 + 1]? = some (boxC Cl.zero nil0 nil0)) := by
  have := heap_new ((w.alloc (boxC c (.slice a1 m1 k1) (.slice a2 m2 k2))).alloc (boxE x.k x.j x.v x.t x.c)) (boxC Cl.zero nil0 nil0)
  rw [World.size_alloc, World.size_alloc] at this
  exact this
 have kc := cl_check c (.slice a1 m1 k1) (.slice a2 m2 k2) _ (bkAt_later hb HB0.out)
 have kd : ∀ W, Below w.heap.size w W → Calls Tryz.prog 171 #[c.val (.slice a1 m1 k1) (.slice a2 m2 k2), .int .i64 1, c.e.val, .int .i64 0, .int .i64 0] W fun e w' => ∃ u1 u2, e = .returned ((⟨c.p, 1, c.e, 0, 0, c.n, c.js, c.rs⟩ : Cl).val u1 u2) ∧ BkT w' u1 u2 c ∧ Below W.heap.size W w' := fun W hB => cl_doing c c.e 1 0 0 a1 a2 m1 k1 m2 k2 W (bkAt_later hb hB) hn1 hn2
 clear hn1 hn2
 rw [hck] at kc
 have HK : Aside (BkAt w (.slice a1 m1 k1) (.slice a2 m2 k2) c) := hb
 clear hb hck
 have hce : ∀ W, Calls Tryz.prog 115 #[ev x.k x.j x.v x.t x.c] W fun e w' => e = .returned (.int .i64 x.chk) ∧ Below W.heap.size W w' := fun W => check_any x.k x.j x.v x.t x.c W
 rw [hx] at hce
 clear hx
 have hq := fun W => neq_entry x.k x.j x.v x.t x.c c.e.k c.e.j c.e.v c.e.t c.e.c W
 rw [hn] at hq
 clear hn
 have kj := fun W => junk_any c.e W
 rw [hk] at kj
 go_enter Tryz.func136, Tryz.ntmps136
 go_wp2_with fail
 refine kc.mono ?_
 rintro r w1 ⟨rfl, hb1⟩
 have HX1 := hv HX0 hb1
 have HE1 := hv HE0 hb1
 have HR1 := hv HR0 hb1
 have HB1 := sb HB0 hb1
 clear hb1 HB0 HX0 HE0 HR0
 clear kc
 have ze := cb HE1
 go_wp2_with fail
 refine (hce _).mono ?_
 rintro r w2 ⟨rfl, hb2⟩
 have HX2 := hv HX1 hb2
 have HE2 := hv HE1 hb2
 have HR2 := hv HR1 hb2
 have HB2 := sb HB1 hb2
 clear hb2 HB1 HX1 HE1 HR1
 clear ze hce
 have z := cb HX2
 have ze := cb HE2
 go_wp2_with fail
 refine (kj _).mono ?_
 rintro r w3 ⟨rfl, hb3⟩
 have HX3 := hv HX2 hb3
 have HE3 := hv HE2 hb3
 have HR3 := hv HR2 hb3
 have HB3 := sb HB2 hb3
 clear hb3 HB2 HX2 HE2 HR2
 clear z ze kj hq
 have z := cb HX3
 have ze := cb HE3
 go_wp2_with fail
 refine (kd w3 HB3.out).mono ?_
 rintro r w4 ⟨u1, u2, rfl, hT4, hb4⟩
 have HR4 := hv HR3 hb4
 have HB4 := sb HB3 hb4
 have HT4 : Aside (BkT w4 u1 u2 c) := hT4
 obtain ⟨s1, o1, s2, o2, rfl, rfl⟩ := bk_slices hT4.1.1 hT4.1.2
 clear hb4 kd HB3 HR3 hT4
 obtain ⟨n1, hn1⟩ : ∃ n, Hid (c.js.length = n) := ⟨_, rfl⟩
 obtain ⟨n2, hn2⟩ : ∃ n, Hid (c.rs.length = n) := ⟨_, rfl⟩
 rw [hn1.out, hn2.out] at HT4 ⊢
 clear z ze
 have zr := cb HR4
 have fzr := cf HR4
 go_wp2
 refine ret_st (p := 4) (q := 5) w4 (w.heap.size + 1 + 1) ((⟨c.p, 1, c.e, 0, 0, c.n, c.js, c.rs⟩ : Cl)) (.slice s1 n1 o1) (.slice s2 n2 o2) (o := Cl.zero) (u1 := nil0) (u2 := nil0) Tryz.results136 rfl rfl rfl HR4.out rfl ?_
 exact ⟨(.slice s1 n1 o1), (.slice s2 n2 o2), rfl, bkT_st12 ⟨_, HR4.out⟩ (bkT_cong HT4.out rfl rfl) _ _ _, st12_below HB4.out (by omega) _ _ _⟩
set_option maxHeartbeats 4000000 in
set_option maxRecDepth 100000 in
theorem zh_last0 (c : Cl) (a1 a2 : Option Addr) (m1 k1 m2 k2 : Nat) (x : En) (w : World) (hb : BkAt w (.slice a1 m1 k1) (.slice a2 m2 k2) c) (hck : c.ck = 0) (hx : x.chk = 0) (hd : (c.d != 2) = false) (hn : unlike x.k x.j x.v x.t x.c c.e.k c.e.j c.e.v c.e.t c.e.c = true) (hk : (c.e.k == 0) = true) (hw : IntKind.i64.wrap (c.l + 1) = c.l + 1) (hl : (c.l + 1 == 3) = true) (hn1 : c.js.length ≤ 1000000) (hn2 : c.rs.length ≤ 1000000) :
  AnsT 136 #[c.val (.slice a1 m1 k1) (.slice a2 m2 k2), x.val] w ((⟨c.p, 0, En.zero, 0, 0, c.n, c.js, c.rs⟩ : Cl), 0) := by
 have HB0 : Aside (Below w.heap.size w (((w.alloc (boxC c (.slice a1 m1 k1) (.slice a2 m2 k2))).alloc (boxE x.k x.j x.v x.t x.c)).alloc (boxC Cl.zero nil0 nil0))) := grew (grew (grew (Below.refl _ _) _) _) _
 have HX0 : Aside ((((w.alloc (boxC c (.slice a1 m1 k1) (.slice a2 m2 k2))).alloc (boxE x.k x.j x.v x.t x.c)).alloc (boxC Cl.zero nil0 nil0)).heap[w.heap.size]? = some (boxC c (.slice a1 m1 k1) (.slice a2 m2 k2))) := heap_old (heap_old (heap_new _ _) _) _
 have HE0 : Aside ((((w.alloc (boxC c (.slice a1 m1 k1) (.slice a2 m2 k2))).alloc (boxE x.k x.j x.v x.t x.c)).alloc (boxC Cl.zero nil0 nil0)).heap[w.heap.size + 1]? = some (boxE x.k x.j x.v x.t x.c)) := by
  have := heap_new (w.alloc (boxC c (.slice a1 m1 k1) (.slice a2 m2 k2))) (boxE x.k x.j x.v x.t x.c)
  rw [World.size_alloc] at this
  exact heap_old (this) _
 have HR0 : Aside ((((w.alloc (boxC c (.slice a1 m1 k1) (.slice a2 m2 k2))).alloc (boxE x.k x.j x.v x.t x.c)).alloc (boxC Cl.zero nil0 nil0)).heap[w.heap.size + 1 + 1]? = some (boxC Cl.zero nil0 nil0)) := by
  have := heap_new ((w.alloc (boxC c (.slice a1 m1 k1) (.slice a2 m2 k2))).alloc (boxE x.k x.j x.v x.t x.c)) (boxC Cl.zero nil0 nil0)
  rw [World.size_alloc, World.size_alloc] at this
  exact this
 have kc := cl_check c (.slice a1 m1 k1) (.slice a2 m2 k2) _ (bkAt_later hb HB0.out)
 have kd : ∀ W, Below w.heap.size w W → Calls Tryz.prog 171 #[c.val (.slice a1 m1 k1) (.slice a2 m2 k2), .int .i64 0, En.zero.val, .int .i64 0, .int .i64 0] W fun e w' => ∃ u1 u2, e = .returned ((⟨c.p, 0, En.zero, 0, 0, c.n, c.js, c.rs⟩ : Cl).val u1 u2) ∧ BkT w' u1 u2 c ∧ Below W.heap.size W w' := fun W hB => cl_doing c En.zero 0 0 0 a1 a2 m1 k1 m2 k2 W (bkAt_later hb hB) hn1 hn2
 clear hn1 hn2
 rw [hck] at kc
 have HK : Aside (BkAt w (.slice a1 m1 k1) (.slice a2 m2 k2) c) := hb
 clear hb hck
 have hce : ∀ W, Calls Tryz.prog 115 #[ev x.k x.j x.v x.t x.c] W fun e w' => e = .returned (.int .i64 x.chk) ∧ Below W.heap.size W w' := fun W => check_any x.k x.j x.v x.t x.c W
 rw [hx] at hce
 clear hx
 have hq := fun W => neq_entry x.k x.j x.v x.t x.c c.e.k c.e.j c.e.v c.e.t c.e.c W
 rw [hn] at hq
 clear hn
 have kj := fun W => junk_any c.e W
 rw [hk] at kj
 go_enter Tryz.func136, Tryz.ntmps136
 go_wp2_with fail
 refine kc.mono ?_
 rintro r w1 ⟨rfl, hb1⟩
 have HX1 := hv HX0 hb1
 have HE1 := hv HE0 hb1
 have HR1 := hv HR0 hb1
 have HB1 := sb HB0 hb1
 clear hb1 HB0 HX0 HE0 HR0
 clear kc
 have ze := cb HE1
 go_wp2_with fail
 refine (hce _).mono ?_
 rintro r w2 ⟨rfl, hb2⟩
 have HX2 := hv HX1 hb2
 have HE2 := hv HE1 hb2
 have HR2 := hv HR1 hb2
 have HB2 := sb HB1 hb2
 clear hb2 HB1 HX1 HE1 HR1
 clear ze hce
 have z := cb HX2
 have ze := cb HE2
 go_wp2_with fail
 refine (kj _).mono ?_
 rintro r w3 ⟨rfl, hb3⟩
 have HX3 := hv HX2 hb3
 have HE3 := hv HE2 hb3
 have HR3 := hv HR2 hb3
 have HB3 := sb HB2 hb3
 clear hb3 HB2 HX2 HE2 HR2
 clear z ze kj hq
 have z := cb HX3
 have ze := cb HE3
 go_wp2_with fail
 refine (kd w3 HB3.out).mono ?_
 rintro r w4 ⟨u1, u2, rfl, hT4, hb4⟩
 have HR4 := hv HR3 hb4
 have HB4 := sb HB3 hb4
 have HT4 : Aside (BkT w4 u1 u2 c) := hT4
 obtain ⟨s1, o1, s2, o2, rfl, rfl⟩ := bk_slices hT4.1.1 hT4.1.2
 clear hb4 kd HB3 HR3 hT4
 obtain ⟨n1, hn1⟩ : ∃ n, Hid (c.js.length = n) := ⟨_, rfl⟩
 obtain ⟨n2, hn2⟩ : ∃ n, Hid (c.rs.length = n) := ⟨_, rfl⟩
 rw [hn1.out, hn2.out] at HT4 ⊢
 clear z ze
 have zr := cb HR4
 have fzr := cf HR4
 go_wp2
 refine ret_st (p := 4) (q := 5) w4 (w.heap.size + 1 + 1) ((⟨c.p, 0, En.zero, 0, 0, c.n, c.js, c.rs⟩ : Cl)) (.slice s1 n1 o1) (.slice s2 n2 o2) (o := Cl.zero) (u1 := nil0) (u2 := nil0) Tryz.results136 rfl rfl rfl HR4.out rfl ?_
 exact ⟨(.slice s1 n1 o1), (.slice s2 n2 o2), rfl, bkT_st12 ⟨_, HR4.out⟩ (bkT_cong HT4.out rfl rfl) _ _ _, st12_below HB4.out (by omega) _ _ _⟩
set_option maxHeartbeats 4000000 in
set_option maxRecDepth 100000 in
theorem zh_on0 (c : Cl) (a1 a2 : Option Addr) (m1 k1 m2 k2 : Nat) (x : En) (w : World) (hb : BkAt w (.slice a1 m1 k1) (.slice a2 m2 k2) c) (hck : c.ck = 0) (hx : x.chk = 0) (hd : (c.d != 2) = false) (hn : unlike x.k x.j x.v x.t x.c c.e.k c.e.j c.e.v c.e.t c.e.c = true) (hk : (c.e.k == 0) = true) (hw : IntKind.i64.wrap (c.l + 1) = c.l + 1) (hl : (c.l + 1 == 3) = false) (hn1 : c.js.length ≤ 1000000) (hn2 : c.rs.length ≤ 1000000) :
  AnsT 136 #[c.val (.slice a1 m1 k1) (.slice a2 m2 k2), x.val] w ((⟨c.p, 2, x, c.a, (c.l + 1), c.n, c.js, c.rs⟩ : Cl), 0) := by
 have HB0 : Aside (Below w.heap.size w (((w.alloc (boxC c (.slice a1 m1 k1) (.slice a2 m2 k2))).alloc (boxE x.k x.j x.v x.t x.c)).alloc (boxC Cl.zero nil0 nil0))) := grew (grew (grew (Below.refl _ _) _) _) _
 have HX0 : Aside ((((w.alloc (boxC c (.slice a1 m1 k1) (.slice a2 m2 k2))).alloc (boxE x.k x.j x.v x.t x.c)).alloc (boxC Cl.zero nil0 nil0)).heap[w.heap.size]? = some (boxC c (.slice a1 m1 k1) (.slice a2 m2 k2))) := heap_old (heap_old (heap_new _ _) _) _
 have HE0 : Aside ((((w.alloc (boxC c (.slice a1 m1 k1) (.slice a2 m2 k2))).alloc (boxE x.k x.j x.v x.t x.c)).alloc (boxC Cl.zero nil0 nil0)).heap[w.heap.size + 1]? = some (boxE x.k x.j x.v x.t x.c)) := by
  have := heap_new (w.alloc (boxC c (.slice a1 m1 k1) (.slice a2 m2 k2))) (boxE x.k x.j x.v x.t x.c)
  rw [World.size_alloc] at this
  exact heap_old (this) _
 have HR0 : Aside ((((w.alloc (boxC c (.slice a1 m1 k1) (.slice a2 m2 k2))).alloc (boxE x.k x.j x.v x.t x.c)).alloc (boxC Cl.zero nil0 nil0)).heap[w.heap.size + 1 + 1]? = some (boxC Cl.zero nil0 nil0)) := by
  have := heap_new ((w.alloc (boxC c (.slice a1 m1 k1) (.slice a2 m2 k2))).alloc (boxE x.k x.j x.v x.t x.c)) (boxC Cl.zero nil0 nil0)
  rw [World.size_alloc, World.size_alloc] at this
  exact this
 have kc := cl_check c (.slice a1 m1 k1) (.slice a2 m2 k2) _ (bkAt_later hb HB0.out)
 have kd : ∀ W, Below w.heap.size w W → Calls Tryz.prog 171 #[c.val (.slice a1 m1 k1) (.slice a2 m2 k2), .int .i64 2, x.val, .int .i64 c.a, .int .i64 (c.l + 1)] W fun e w' => ∃ u1 u2, e = .returned ((⟨c.p, 2, x, c.a, (c.l + 1), c.n, c.js, c.rs⟩ : Cl).val u1 u2) ∧ BkT w' u1 u2 c ∧ Below W.heap.size W w' := fun W hB => cl_doing c x 2 c.a (c.l + 1) a1 a2 m1 k1 m2 k2 W (bkAt_later hb hB) hn1 hn2
 clear hn1 hn2
 rw [hck] at kc
 have HK : Aside (BkAt w (.slice a1 m1 k1) (.slice a2 m2 k2) c) := hb
 clear hb hck
 have hce : ∀ W, Calls Tryz.prog 115 #[ev x.k x.j x.v x.t x.c] W fun e w' => e = .returned (.int .i64 x.chk) ∧ Below W.heap.size W w' := fun W => check_any x.k x.j x.v x.t x.c W
 rw [hx] at hce
 clear hx
 have hq := fun W => neq_entry x.k x.j x.v x.t x.c c.e.k c.e.j c.e.v c.e.t c.e.c W
 rw [hn] at hq
 clear hn
 have kj := fun W => junk_any c.e W
 rw [hk] at kj
 go_enter Tryz.func136, Tryz.ntmps136
 go_wp2_with fail
 refine kc.mono ?_
 rintro r w1 ⟨rfl, hb1⟩
 have HX1 := hv HX0 hb1
 have HE1 := hv HE0 hb1
 have HR1 := hv HR0 hb1
 have HB1 := sb HB0 hb1
 clear hb1 HB0 HX0 HE0 HR0
 clear kc
 have ze := cb HE1
 go_wp2_with fail
 refine (hce _).mono ?_
 rintro r w2 ⟨rfl, hb2⟩
 have HX2 := hv HX1 hb2
 have HE2 := hv HE1 hb2
 have HR2 := hv HR1 hb2
 have HB2 := sb HB1 hb2
 clear hb2 HB1 HX1 HE1 HR1
 clear ze hce
 have z := cb HX2
 have ze := cb HE2
 go_wp2_with fail
 refine (kj _).mono ?_
 rintro r w3 ⟨rfl, hb3⟩
 have HX3 := hv HX2 hb3
 have HE3 := hv HE2 hb3
 have HR3 := hv HR2 hb3
 have HB3 := sb HB2 hb3
 clear hb3 HB2 HX2 HE2 HR2
 clear z ze kj hq
 have z := cb HX3
 have ze := cb HE3
 go_wp2_with fail
 refine (kd w3 HB3.out).mono ?_
 rintro r w4 ⟨u1, u2, rfl, hT4, hb4⟩
 have HR4 := hv HR3 hb4
 have HB4 := sb HB3 hb4
 have HT4 : Aside (BkT w4 u1 u2 c) := hT4
 obtain ⟨s1, o1, s2, o2, rfl, rfl⟩ := bk_slices hT4.1.1 hT4.1.2
 clear hb4 kd HB3 HR3 hT4
 obtain ⟨n1, hn1⟩ : ∃ n, Hid (c.js.length = n) := ⟨_, rfl⟩
 obtain ⟨n2, hn2⟩ : ∃ n, Hid (c.rs.length = n) := ⟨_, rfl⟩
 rw [hn1.out, hn2.out] at HT4 ⊢
 clear z ze
 have zr := cb HR4
 have fzr := cf HR4
 go_wp2
 refine ret_st (p := 4) (q := 5) w4 (w.heap.size + 1 + 1) ((⟨c.p, 2, x, c.a, (c.l + 1), c.n, c.js, c.rs⟩ : Cl)) (.slice s1 n1 o1) (.slice s2 n2 o2) (o := Cl.zero) (u1 := nil0) (u2 := nil0) Tryz.results136 rfl rfl rfl HR4.out rfl ?_
 exact ⟨(.slice s1 n1 o1), (.slice s2 n2 o2), rfl, bkT_st12 ⟨_, HR4.out⟩ (bkT_cong HT4.out rfl rfl) _ _ _, st12_below HB4.out (by omega) _ _ _⟩
set_option maxHeartbeats 4000000 in
set_option maxRecDepth 100000 in
theorem zh_last1 (c : Cl) (a1 a2 : Option Addr) (m1 k1 m2 k2 : Nat) (x : En) (w : World) (hb : BkAt w (.slice a1 m1 k1) (.slice a2 m2 k2) c) (hck : c.ck = 0) (hx : x.chk = 0) (hd : (c.d != 2) = false) (hn : unlike x.k x.j x.v x.t x.c c.e.k c.e.j c.e.v c.e.t c.e.c = false) (hw : IntKind.i64.wrap (c.l + 1) = c.l + 1) (hl : (c.l + 1 == 3) = true) (hn1 : c.js.length ≤ 1000000) (hn2 : c.rs.length ≤ 1000000) :
  AnsT 136 #[c.val (.slice a1 m1 k1) (.slice a2 m2 k2), x.val] w ((⟨c.p, 0, En.zero, 0, 0, c.n, c.js, c.rs⟩ : Cl), 0) := by
 have HB0 : Aside (Below w.heap.size w (((w.alloc (boxC c (.slice a1 m1 k1) (.slice a2 m2 k2))).alloc (boxE x.k x.j x.v x.t x.c)).alloc (boxC Cl.zero nil0 nil0))) := grew (grew (grew (Below.refl _ _) _) _) _
 have HX0 : Aside ((((w.alloc (boxC c (.slice a1 m1 k1) (.slice a2 m2 k2))).alloc (boxE x.k x.j x.v x.t x.c)).alloc (boxC Cl.zero nil0 nil0)).heap[w.heap.size]? = some (boxC c (.slice a1 m1 k1) (.slice a2 m2 k2))) := heap_old (heap_old (heap_new _ _) _) _
 have HE0 : Aside ((((w.alloc (boxC c (.slice a1 m1 k1) (.slice a2 m2 k2))).alloc (boxE x.k x.j x.v x.t x.c)).alloc (boxC Cl.zero nil0 nil0)).heap[w.heap.size + 1]? = some (boxE x.k x.j x.v x.t x.c)) := by
  have := heap_new (w.alloc (boxC c (.slice a1 m1 k1) (.slice a2 m2 k2))) (boxE x.k x.j x.v x.t x.c)
  rw [World.size_alloc] at this
  exact heap_old (this) _
 have HR0 : Aside ((((w.alloc (boxC c (.slice a1 m1 k1) (.slice a2 m2 k2))).alloc (boxE x.k x.j x.v x.t x.c)).alloc (boxC Cl.zero nil0 nil0)).heap[w.heap.size + 1 + 1]? = some (boxC Cl.zero nil0 nil0)) := by
  have := heap_new ((w.alloc (boxC c (.slice a1 m1 k1) (.slice a2 m2 k2))).alloc (boxE x.k x.j x.v x.t x.c)) (boxC Cl.zero nil0 nil0)
  rw [World.size_alloc, World.size_alloc] at this
  exact this
 have kc := cl_check c (.slice a1 m1 k1) (.slice a2 m2 k2) _ (bkAt_later hb HB0.out)
 have kd : ∀ W, Below w.heap.size w W → Calls Tryz.prog 171 #[c.val (.slice a1 m1 k1) (.slice a2 m2 k2), .int .i64 0, En.zero.val, .int .i64 0, .int .i64 0] W fun e w' => ∃ u1 u2, e = .returned ((⟨c.p, 0, En.zero, 0, 0, c.n, c.js, c.rs⟩ : Cl).val u1 u2) ∧ BkT w' u1 u2 c ∧ Below W.heap.size W w' := fun W hB => cl_doing c En.zero 0 0 0 a1 a2 m1 k1 m2 k2 W (bkAt_later hb hB) hn1 hn2
 clear hn1 hn2
 rw [hck] at kc
 have HK : Aside (BkAt w (.slice a1 m1 k1) (.slice a2 m2 k2) c) := hb
 clear hb hck
 have hce : ∀ W, Calls Tryz.prog 115 #[ev x.k x.j x.v x.t x.c] W fun e w' => e = .returned (.int .i64 x.chk) ∧ Below W.heap.size W w' := fun W => check_any x.k x.j x.v x.t x.c W
 rw [hx] at hce
 clear hx
 have hq := fun W => neq_entry x.k x.j x.v x.t x.c c.e.k c.e.j c.e.v c.e.t c.e.c W
 rw [hn] at hq
 clear hn
 go_enter Tryz.func136, Tryz.ntmps136
 go_wp2_with fail
 refine kc.mono ?_
 rintro r w1 ⟨rfl, hb1⟩
 have HX1 := hv HX0 hb1
 have HE1 := hv HE0 hb1
 have HR1 := hv HR0 hb1
 have HB1 := sb HB0 hb1
 clear hb1 HB0 HX0 HE0 HR0
 clear kc
 have ze := cb HE1
 go_wp2_with fail
 refine (hce _).mono ?_
 rintro r w2 ⟨rfl, hb2⟩
 have HX2 := hv HX1 hb2
 have HE2 := hv HE1 hb2
 have HR2 := hv HR1 hb2
 have HB2 := sb HB1 hb2
 clear hb2 HB1 HX1 HE1 HR1
 clear ze hce
 have z := cb HX2
 have ze := cb HE2
 go_wp2_with fail
 refine (kd w2 HB2.out).mono ?_
 rintro r w4 ⟨u1, u2, rfl, hT4, hb4⟩
 have HR4 := hv HR2 hb4
 have HB4 := sb HB2 hb4
 have HT4 : Aside (BkT w4 u1 u2 c) := hT4
 obtain ⟨s1, o1, s2, o2, rfl, rfl⟩ := bk_slices hT4.1.1 hT4.1.2
 clear hb4 kd HB2 HR2 hT4
 obtain ⟨n1, hn1⟩ : ∃ n, Hid (c.js.length = n) := ⟨_, rfl⟩
 obtain ⟨n2, hn2⟩ : ∃ n, Hid (c.rs.length = n) := ⟨_, rfl⟩
 rw [hn1.out, hn2.out] at HT4 ⊢
 clear z ze hq
 have zr := cb HR4
 have fzr := cf HR4
 go_wp2
 refine ret_st (p := 4) (q := 5) w4 (w.heap.size + 1 + 1) ((⟨c.p, 0, En.zero, 0, 0, c.n, c.js, c.rs⟩ : Cl)) (.slice s1 n1 o1) (.slice s2 n2 o2) (o := Cl.zero) (u1 := nil0) (u2 := nil0) Tryz.results136 rfl rfl rfl HR4.out rfl ?_
 exact ⟨(.slice s1 n1 o1), (.slice s2 n2 o2), rfl, bkT_st12 ⟨_, HR4.out⟩ (bkT_cong HT4.out rfl rfl) _ _ _, st12_below HB4.out (by omega) _ _ _⟩
set_option maxHeartbeats 4000000 in
set_option maxRecDepth 100000 in
theorem zh_on1 (c : Cl) (a1 a2 : Option Addr) (m1 k1 m2 k2 : Nat) (x : En) (w : World) (hb : BkAt w (.slice a1 m1 k1) (.slice a2 m2 k2) c) (hck : c.ck = 0) (hx : x.chk = 0) (hd : (c.d != 2) = false) (hn : unlike x.k x.j x.v x.t x.c c.e.k c.e.j c.e.v c.e.t c.e.c = false) (hw : IntKind.i64.wrap (c.l + 1) = c.l + 1) (hl : (c.l + 1 == 3) = false) (hn1 : c.js.length ≤ 1000000) (hn2 : c.rs.length ≤ 1000000) :
  AnsT 136 #[c.val (.slice a1 m1 k1) (.slice a2 m2 k2), x.val] w ((⟨c.p, 2, x, c.a, (c.l + 1), c.n, c.js, c.rs⟩ : Cl), 0) := by
 have HB0 : Aside (Below w.heap.size w (((w.alloc (boxC c (.slice a1 m1 k1) (.slice a2 m2 k2))).alloc (boxE x.k x.j x.v x.t x.c)).alloc (boxC Cl.zero nil0 nil0))) := grew (grew (grew (Below.refl _ _) _) _) _
 have HX0 : Aside ((((w.alloc (boxC c (.slice a1 m1 k1) (.slice a2 m2 k2))).alloc (boxE x.k x.j x.v x.t x.c)).alloc (boxC Cl.zero nil0 nil0)).heap[w.heap.size]? = some (boxC c (.slice a1 m1 k1) (.slice a2 m2 k2))) := heap_old (heap_old (heap_new _ _) _) _
 have HE0 : Aside ((((w.alloc (boxC c (.slice a1 m1 k1) (.slice a2 m2 k2))).alloc (boxE x.k x.j x.v x.t x.c)).alloc (boxC Cl.zero nil0 nil0)).heap[w.heap.size + 1]? = some (boxE x.k x.j x.v x.t x.c)) := by
  have := heap_new (w.alloc (boxC c (.slice a1 m1 k1) (.slice a2 m2 k2))) (boxE x.k x.j x.v x.t x.c)
  rw [World.size_alloc] at this
  exact heap_old (this) _
 have HR0 : Aside ((((w.alloc (boxC c (.slice a1 m1 k1) (.slice a2 m2 k2))).alloc (boxE x.k x.j x.v x.t x.c)).alloc (boxC Cl.zero nil0 nil0)).heap[w.heap.size + 1 + 1]? = some (boxC Cl.zero nil0 nil0)) := by
  have := heap_new ((w.alloc (boxC c (.slice a1 m1 k1) (.slice a2 m2 k2))).alloc (boxE x.k x.j x.v x.t x.c)) (boxC Cl.zero nil0 nil0)
  rw [World.size_alloc, World.size_alloc] at this
  exact this
 have kc := cl_check c (.slice a1 m1 k1) (.slice a2 m2 k2) _ (bkAt_later hb HB0.out)
 have kd : ∀ W, Below w.heap.size w W → Calls Tryz.prog 171 #[c.val (.slice a1 m1 k1) (.slice a2 m2 k2), .int .i64 2, x.val, .int .i64 c.a, .int .i64 (c.l + 1)] W fun e w' => ∃ u1 u2, e = .returned ((⟨c.p, 2, x, c.a, (c.l + 1), c.n, c.js, c.rs⟩ : Cl).val u1 u2) ∧ BkT w' u1 u2 c ∧ Below W.heap.size W w' := fun W hB => cl_doing c x 2 c.a (c.l + 1) a1 a2 m1 k1 m2 k2 W (bkAt_later hb hB) hn1 hn2
 clear hn1 hn2
 rw [hck] at kc
 have HK : Aside (BkAt w (.slice a1 m1 k1) (.slice a2 m2 k2) c) := hb
 clear hb hck
 have hce : ∀ W, Calls Tryz.prog 115 #[ev x.k x.j x.v x.t x.c] W fun e w' => e = .returned (.int .i64 x.chk) ∧ Below W.heap.size W w' := fun W => check_any x.k x.j x.v x.t x.c W
 rw [hx] at hce
 clear hx
 have hq := fun W => neq_entry x.k x.j x.v x.t x.c c.e.k c.e.j c.e.v c.e.t c.e.c W
 rw [hn] at hq
 clear hn
 go_enter Tryz.func136, Tryz.ntmps136
 go_wp2_with fail
 refine kc.mono ?_
 rintro r w1 ⟨rfl, hb1⟩
 have HX1 := hv HX0 hb1
 have HE1 := hv HE0 hb1
 have HR1 := hv HR0 hb1
 have HB1 := sb HB0 hb1
 clear hb1 HB0 HX0 HE0 HR0
 clear kc
 have ze := cb HE1
 go_wp2_with fail
 refine (hce _).mono ?_
 rintro r w2 ⟨rfl, hb2⟩
 have HX2 := hv HX1 hb2
 have HE2 := hv HE1 hb2
 have HR2 := hv HR1 hb2
 have HB2 := sb HB1 hb2
 clear hb2 HB1 HX1 HE1 HR1
 clear ze hce
 have z := cb HX2
 have ze := cb HE2
 go_wp2_with fail
 refine (kd w2 HB2.out).mono ?_
 rintro r w4 ⟨u1, u2, rfl, hT4, hb4⟩
 have HR4 := hv HR2 hb4
 have HB4 := sb HB2 hb4
 have HT4 : Aside (BkT w4 u1 u2 c) := hT4
 obtain ⟨s1, o1, s2, o2, rfl, rfl⟩ := bk_slices hT4.1.1 hT4.1.2
 clear hb4 kd HB2 HR2 hT4
 obtain ⟨n1, hn1⟩ : ∃ n, Hid (c.js.length = n) := ⟨_, rfl⟩
 obtain ⟨n2, hn2⟩ : ∃ n, Hid (c.rs.length = n) := ⟨_, rfl⟩
 rw [hn1.out, hn2.out] at HT4 ⊢
 clear z ze hq
 have zr := cb HR4
 have fzr := cf HR4
 go_wp2
 refine ret_st (p := 4) (q := 5) w4 (w.heap.size + 1 + 1) ((⟨c.p, 2, x, c.a, (c.l + 1), c.n, c.js, c.rs⟩ : Cl)) (.slice s1 n1 o1) (.slice s2 n2 o2) (o := Cl.zero) (u1 := nil0) (u2 := nil0) Tryz.results136 rfl rfl rfl HR4.out rfl ?_
 exact ⟨(.slice s1 n1 o1), (.slice s2 n2 o2), rfl, bkT_st12 ⟨_, HR4.out⟩ (bkT_cong HT4.out rfl rfl) _ _ _, st12_below HB4.out (by omega) _ _ _⟩
theorem unlike_symm (x y : En) : unlike x.k x.j x.v x.t x.c y.k y.j y.v y.t y.c = y.ne x := by
 cases h : y.ne x with
 | true =>
  cases h2 : unlike x.k x.j x.v x.t x.c y.k y.j y.v y.t y.c with
  | true => rfl
  | false =>
   have e : x = y := ne_false.1 h2
   rw [e, ne_self] at h
   cases h
 | false =>
  have e : y = x := ne_false.1 h
  rw [e]
  exact ne_self x
theorem cl_heard (c : Cl) (x : En) (v1 v2 : Value) (w : World) (hb : BkAt w v1 v2 c) : AnsT 136 #[c.val v1 v2, x.val] w (hearOf c x) := by
 obtain ⟨a1, k1, a2, k2, rfl, rfl⟩ := bk_slices hb.1 hb.2
 unfold hearOf
 by_cases hc : c.ck = 0
 ·rw [if_neg (by simpa using hc)]
  have hn1 := (few_of hc).1
  have hn2 := (few_of hc).2
  by_cases hx : x.chk = 0
  ·rw [if_neg (by simpa using hx)]
   by_cases hd : c.d = 2
   ·have hdb : (c.d != 2) = false := by rw [hd]; rfl
    rw [if_neg (by simpa using hd)]
    have hg := (Cl.good (Cl.ck_zero.1 hc).1).2.2.2.1
    have hw : IntKind.i64.wrap (c.l + 1) = c.l + 1 := by rw [IntKind.wrap_i64]; omega
    by_cases hk : c.e.k = 0
    ·have hkb : (c.e.k == 0) = true := by rw [hk]; rfl
     rw [if_neg (fun h => h.1 hk)]
     by_cases hl : c.l = 2
     ·have hl3 : (c.l + 1 == 3) = true := by rw [hl]; rfl
      rw [if_pos hl]
      cases hn : c.e.ne x with
      | true => exact zh_last0 c a1 a2 _ k1 _ k2 x w hb hc hx hdb ((unlike_symm x c.e).trans hn) hkb hw hl3 hn1 hn2
      | false => exact zh_last1 c a1 a2 _ k1 _ k2 x w hb hc hx hdb ((unlike_symm x c.e).trans hn) hw hl3 hn1 hn2
     ·have hl3 : (c.l + 1 == 3) = false := by rw [beq_eq_false_iff_ne]; omega
      rw [if_neg hl, hd]
      cases hn : c.e.ne x with
      | true => exact zh_on0 c a1 a2 _ k1 _ k2 x w hb hc hx hdb ((unlike_symm x c.e).trans hn) hkb hw hl3 hn1 hn2
      | false => exact zh_on1 c a1 a2 _ k1 _ k2 x w hb hc hx hdb ((unlike_symm x c.e).trans hn) hw hl3 hn1 hn2
    ·have hkb : (c.e.k == 0) = false := by rw [beq_eq_false_iff_ne]; exact hk
     cases hn : c.e.ne x with
     | true =>
      rw [if_pos ⟨hk, rfl⟩]
      exact zh_other c a1 a2 _ k1 _ k2 x w hb hc hx hdb ((unlike_symm x c.e).trans hn) hkb hn1 hn2
     | false =>
      rw [if_neg (fun h => by cases h.2)]
      by_cases hl : c.l = 2
      ·have hl3 : (c.l + 1 == 3) = true := by rw [hl]; rfl
       rw [if_pos hl]
       exact zh_last1 c a1 a2 _ k1 _ k2 x w hb hc hx hdb ((unlike_symm x c.e).trans hn) hw hl3 hn1 hn2
      ·have hl3 : (c.l + 1 == 3) = false := by rw [beq_eq_false_iff_ne]; omega
       rw [if_neg hl, hd]
       exact zh_on1 c a1 a2 _ k1 _ k2 x w hb hc hx hdb ((unlike_symm x c.e).trans hn) hw hl3 hn1 hn2
   ·rw [if_pos hd]
    exact ansT_zero <| zh_late c a1 a2 _ k1 _ k2 x w hb hc hx (by rw [bne_iff_ne]; exact hd)
  ·rw [if_pos hx]
   exact ansT_zero <| zh_ent c a1 a2 _ k1 _ k2 x w hb hc _ rfl (by rw [bne_iff_ne]; exact hx)
 ·rw [if_pos hc]
  exact ansT_zero <| zh_ck c a1 a2 _ k1 _ k2 x w hb _ rfl (by rw [bne_iff_ne]; exact hc)
end Go.Proofs.YtmoaobfmopimlafGreatDoor
