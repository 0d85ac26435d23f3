/- For the law. -/
import Derived.Test.YtmoaobfmopimlafGreatDoorM37
set_option linter.unusedSimpArgs false
set_option linter.unusedVariables false
namespace Go.Proofs.YtmoaobfmopimlafGreatDoor
open Go.RowKit
set_option maxHeartbeats 4000000 in
set_option maxRecDepth 100000 in
theorem zw_ck (c : Cl) (a1 a2 : Option Addr) (m1 k1 m2 k2 : Nat) (x : En) (w : World) (hb : BkAt w (.slice a1 m1 k1) (.slice a2 m2 k2) c) (d : Int) (hck : restErr c = d) (hz : (d != 0) = true) :
  AnsX 172 #[c.val (.slice a1 m1 k1) (.slice a2 m2 k2), x.val] w (Cl.zero, d) nil0 nil0 := by
 have HB0 : Aside (Below w.heap.size w (((w.alloc (boxC c (.slice a1 m1 k1) (.slice a2 m2 k2))).alloc (boxE x.k x.j x.v x.t x.c)).alloc (boxC Cl.zero nil0 nil0))) := grew (grew (grew (Below.refl _ _) _) _) _
 have HX0 : Aside ((((w.alloc (boxC c (.slice a1 m1 k1) (.slice a2 m2 k2))).alloc (boxE x.k x.j x.v x.t x.c)).alloc (boxC Cl.zero nil0 nil0)).heap[w.heap.size]? = some (boxC c (.slice a1 m1 k1) (.slice a2 m2 k2))) := heap_old (heap_old (heap_new _ _) _) _
 have HE0 : Aside ((((w.alloc (boxC c (.slice a1 m1 k1) (.slice a2 m2 k2))).alloc (boxE x.k x.j x.v x.t x.c)).alloc (boxC Cl.zero nil0 nil0)).heap[w.heap.size + 1]? = some (boxE x.k x.j x.v x.t x.c)) := by
  have := heap_new (w.alloc (boxC c (.slice a1 m1 k1) (.slice a2 m2 k2))) (boxE x.k x.j x.v x.t x.c)
  rw [World.size_alloc] at this
  exact heap_old (this) _
 have HR0 : Aside ((((w.alloc (boxC c (.slice a1 m1 k1) (.slice a2 m2 k2))).alloc (boxE x.k x.j x.v x.t x.c)).alloc (boxC Cl.zero nil0 nil0)).heap[w.heap.size + 1 + 1]? = some (boxC Cl.zero nil0 nil0)) := by
  have := heap_new ((w.alloc (boxC c (.slice a1 m1 k1) (.slice a2 m2 k2))).alloc (boxE x.k x.j x.v x.t x.c)) (boxC Cl.zero nil0 nil0)
  rw [World.size_alloc, World.size_alloc] at this
  exact this
 have kc := cl_rest c (.slice a1 m1 k1) (.slice a2 m2 k2) _ (bkAt_later hb HB0.out)
 rw [hck] at kc
 have HK : Aside (BkAt w (.slice a1 m1 k1) (.slice a2 m2 k2) c) := hb
 clear hb hck
 go_enter Tryz.func172, Tryz.ntmps172
 go_wp2_with fail
 refine kc.mono ?_
 rintro r w1 ⟨rfl, hb1⟩
 have HX1 := hv HX0 hb1
 have HE1 := hv HE0 hb1
 have HR1 := hv HR0 hb1
 have HB1 := sb HB0 hb1
 clear hb1 HB0 HX0 HE0 HR0
 clear kc
 have zr := cb HR1
 have fzr := cf HR1
 go_wp2
 refine ret_st (p := 4) (q := 5) w1 (w.heap.size + 1 + 1) (Cl.zero) nil0 nil0 (o := Cl.zero) (u1 := nil0) (u2 := nil0) Tryz.results172 rfl rfl rfl HR1.out rfl ?_
 exact ⟨rfl, st12_below HB1.out (by omega) _ _ _⟩
set_option maxHeartbeats 4000000 in
set_option maxRecDepth 100000 in
theorem zw_ent (c : Cl) (a1 a2 : Option Addr) (m1 k1 m2 k2 : Nat) (x : En) (w : World) (hb : BkAt w (.slice a1 m1 k1) (.slice a2 m2 k2) c) (hck : restErr c = 0) (q : Int) (hx : x.chk = q) (hz : (q != 0) = true) :
  AnsX 172 #[c.val (.slice a1 m1 k1) (.slice a2 m2 k2), x.val] w (Cl.zero, q) nil0 nil0 := by
 have HB0 : Aside (Below w.heap.size w (((w.alloc (boxC c (.slice a1 m1 k1) (.slice a2 m2 k2))).alloc (boxE x.k x.j x.v x.t x.c)).alloc (boxC Cl.zero nil0 nil0))) := grew (grew (grew (Below.refl _ _) _) _) _
 have HX0 : Aside ((((w.alloc (boxC c (.slice a1 m1 k1) (.slice a2 m2 k2))).alloc (boxE x.k x.j x.v x.t x.c)).alloc (boxC Cl.zero nil0 nil0)).heap[w.heap.size]? = some (boxC c (.slice a1 m1 k1) (.slice a2 m2 k2))) := heap_old (heap_old (heap_new _ _) _) _
 have HE0 : Aside ((((w.alloc (boxC c (.slice a1 m1 k1) (.slice a2 m2 k2))).alloc (boxE x.k x.j x.v x.t x.c)).alloc (boxC Cl.zero nil0 nil0)).heap[w.heap.size + 1]? = some (boxE x.k x.j x.v x.t x.c)) := by
  have := heap_new (w.alloc (boxC c (.slice a1 m1 k1) (.slice a2 m2 k2))) (boxE x.k x.j x.v x.t x.c)
  rw [World.size_alloc] at this
  exact heap_old (this) _
 have HR0 : Aside ((((w.alloc (boxC c (.slice a1 m1 k1) (.slice a2 m2 k2))).alloc (boxE x.k x.j x.v x.t x.c)).alloc (boxC Cl.zero nil0 nil0)).heap[w.heap.size + 1 + 1]? = some (boxC Cl.zero nil0 nil0)) := by
  have := heap_new ((w.alloc (boxC c (.slice a1 m1 k1) (.slice a2 m2 k2))).alloc (boxE x.k x.j x.v x.t x.c)) (boxC Cl.zero nil0 nil0)
  rw [World.size_alloc, World.size_alloc] at this
  exact this
 have kc := cl_rest c (.slice a1 m1 k1) (.slice a2 m2 k2) _ (bkAt_later hb HB0.out)
 rw [hck] at kc
 have HK : Aside (BkAt w (.slice a1 m1 k1) (.slice a2 m2 k2) c) := hb
 clear hb hck
 have hce : ∀ W, Calls Tryz.prog 115 #[ev x.k x.j x.v x.t x.c] W fun e w' => e = .returned (.int .i64 x.chk) ∧ Below W.heap.size W w' := fun W => check_any x.k x.j x.v x.t x.c W
 rw [hx] at hce
 clear hx
 go_enter Tryz.func172, Tryz.ntmps172
 go_wp2_with fail
 refine kc.mono ?_
 rintro r w1 ⟨rfl, hb1⟩
 have HX1 := hv HX0 hb1
 have HE1 := hv HE0 hb1
 have HR1 := hv HR0 hb1
 have HB1 := sb HB0 hb1
 clear hb1 HB0 HX0 HE0 HR0
 clear kc
 have ze := cb HE1
 go_wp2_with fail
 refine (hce _).mono ?_
 rintro r w2 ⟨rfl, hb2⟩
 have HX2 := hv HX1 hb2
 have HE2 := hv HE1 hb2
 have HR2 := hv HR1 hb2
 have HB2 := sb HB1 hb2
 clear hb2 HB1 HX1 HE1 HR1
 clear ze hce
 have zr := cb HR2
 have fzr := cf HR2
 go_wp2
 refine ret_st (p := 4) (q := 5) w2 (w.heap.size + 1 + 1) (Cl.zero) nil0 nil0 (o := Cl.zero) (u1 := nil0) (u2 := nil0) Tryz.results172 rfl rfl rfl HR2.out rfl ?_
 exact ⟨rfl, st12_below HB2.out (by omega) _ _ _⟩
set_option maxHeartbeats 4000000 in
set_option maxRecDepth 100000 in
theorem zw_junk (c : Cl) (a1 a2 : Option Addr) (m1 k1 m2 k2 : Nat) (x : En) (w : World) (hb : BkAt w (.slice a1 m1 k1) (.slice a2 m2 k2) c) (hck : restErr c = 0) (hx : x.chk = 0) (hk : (x.k == 0) = true) :
  AnsX 172 #[c.val (.slice a1 m1 k1) (.slice a2 m2 k2), x.val] w (Cl.zero, 4) nil0 nil0 := by
 have HB0 : Aside (Below w.heap.size w (((w.alloc (boxC c (.slice a1 m1 k1) (.slice a2 m2 k2))).alloc (boxE x.k x.j x.v x.t x.c)).alloc (boxC Cl.zero nil0 nil0))) := grew (grew (grew (Below.refl _ _) _) _) _
 have HX0 : Aside ((((w.alloc (boxC c (.slice a1 m1 k1) (.slice a2 m2 k2))).alloc (boxE x.k x.j x.v x.t x.c)).alloc (boxC Cl.zero nil0 nil0)).heap[w.heap.size]? = some (boxC c (.slice a1 m1 k1) (.slice a2 m2 k2))) := heap_old (heap_old (heap_new _ _) _) _
 have HE0 : Aside ((((w.alloc (boxC c (.slice a1 m1 k1) (.slice a2 m2 k2))).alloc (boxE x.k x.j x.v x.t x.c)).alloc (boxC Cl.zero nil0 nil0)).heap[w.heap.size + 1]? = some (boxE x.k x.j x.v x.t x.c)) := by
  have := heap_new (w.alloc (boxC c (.slice a1 m1 k1) (.slice a2 m2 k2))) (boxE x.k x.j x.v x.t x.c)
  rw [World.size_alloc] at this
  exact heap_old (this) _
 have HR0 : Aside ((((w.alloc (boxC c (.slice a1 m1 k1) (.slice a2 m2 k2))).alloc (boxE x.k x.j x.v x.t x.c)).alloc (boxC Cl.zero nil0 nil0)).heap[w.heap.size + 1 + 1]? = some (boxC Cl.zero nil0 nil0)) := by
  have := heap_new ((w.alloc (boxC c (.slice a1 m1 k1) (.slice a2 m2 k2))).alloc (boxE x.k x.j x.v x.t x.c)) (boxC Cl.zero nil0 nil0)
  rw [World.size_alloc, World.size_alloc] at this
  exact this
 have kc := cl_rest c (.slice a1 m1 k1) (.slice a2 m2 k2) _ (bkAt_later hb HB0.out)
 rw [hck] at kc
 have HK : Aside (BkAt w (.slice a1 m1 k1) (.slice a2 m2 k2) c) := hb
 clear hb hck
 have hce : ∀ W, Calls Tryz.prog 115 #[ev x.k x.j x.v x.t x.c] W fun e w' => e = .returned (.int .i64 x.chk) ∧ Below W.heap.size W w' := fun W => check_any x.k x.j x.v x.t x.c W
 rw [hx] at hce
 clear hx
 have kj := fun W => junk_any x W
 rw [hk] at kj
 go_enter Tryz.func172, Tryz.ntmps172
 go_wp2_with fail
 refine kc.mono ?_
 rintro r w1 ⟨rfl, hb1⟩
 have HX1 := hv HX0 hb1
 have HE1 := hv HE0 hb1
 have HR1 := hv HR0 hb1
 have HB1 := sb HB0 hb1
 clear hb1 HB0 HX0 HE0 HR0
 clear kc
 have ze := cb HE1
 go_wp2_with fail
 refine (hce _).mono ?_
 rintro r w2 ⟨rfl, hb2⟩
 have HX2 := hv HX1 hb2
 have HE2 := hv HE1 hb2
 have HR2 := hv HR1 hb2
 have HB2 := sb HB1 hb2
 clear hb2 HB1 HX1 HE1 HR1
 clear ze hce
 have ze := cb HE2
 go_wp2_with fail
 refine (kj _).mono ?_
 rintro r w3 ⟨rfl, hb3⟩
 have HX3 := hv HX2 hb3
 have HE3 := hv HE2 hb3
 have HR3 := hv HR2 hb3
 have HB3 := sb HB2 hb3
 clear hb3 HB2 HX2 HE2 HR2
 clear ze kj
 have zr := cb HR3
 have fzr := cf HR3
 go_wp2
 refine ret_st (p := 4) (q := 5) w3 (w.heap.size + 1 + 1) (Cl.zero) nil0 nil0 (o := Cl.zero) (u1 := nil0) (u2 := nil0) Tryz.results172 rfl rfl rfl HR3.out rfl ?_
 exact ⟨rfl, st12_below HB3.out (by omega) _ _ _⟩
set_option maxHeartbeats 4000000 in
set_option maxRecDepth 100000 in
theorem zw_ok (c : Cl) (a1 a2 : Option Addr) (m1 k1 m2 k2 : Nat) (x : En) (w : World) (hb : BkAt w (.slice a1 m1 k1) (.slice a2 m2 k2) c) (hck : restErr c = 0) (hx : x.chk = 0) (hk : (x.k == 0) = false) (hn1 : c.js.length ≤ 1000000) (hn2 : c.rs.length ≤ 1000000) :
  AnsT 172 #[c.val (.slice a1 m1 k1) (.slice a2 m2 k2), x.val] w ((⟨c.p, 1, x, 0, 0, c.n, c.js, c.rs⟩ : Cl), 0) := by
 have HB0 : Aside (Below w.heap.size w (((w.alloc (boxC c (.slice a1 m1 k1) (.slice a2 m2 k2))).alloc (boxE x.k x.j x.v x.t x.c)).alloc (boxC Cl.zero nil0 nil0))) := grew (grew (grew (Below.refl _ _) _) _) _
 have HX0 : Aside ((((w.alloc (boxC c (.slice a1 m1 k1) (.slice a2 m2 k2))).alloc (boxE x.k x.j x.v x.t x.c)).alloc (boxC Cl.zero nil0 nil0)).heap[w.heap.size]? = some (boxC c (.slice a1 m1 k1) (.slice a2 m2 k2))) := heap_old (heap_old (heap_new _ _) _) _
 have HE0 : Aside ((((w.alloc (boxC c (.slice a1 m1 k1) (.slice a2 m2 k2))).alloc (boxE x.k x.j x.v x.t x.c)).alloc (boxC Cl.zero nil0 nil0)).heap[w.heap.size + 1]? = some (boxE x.k x.j x.v x.t x.c)) := by
  have := heap_new (w.alloc (boxC c (.slice a1 m1 k1) (.slice a2 m2 k2))) (boxE x.k x.j x.v x.t x.c)
  rw [World.size_alloc] at this
  exact heap_old (this) _
 have HR0 : Aside ((((w.alloc (boxC c (.slice a1 m1 k1) (.slice a2 m2 k2))).alloc (boxE x.k x.j x.v x.t x.c)).alloc (boxC Cl.zero nil0 nil0)).heap[w.heap.size + 1 + 1]? = some (boxC Cl.zero nil0 nil0)) := by
  have := heap_new ((w.alloc (boxC c (.slice a1 m1 k1) (.slice a2 m2 k2))).alloc (boxE x.k x.j x.v x.t x.c)) (boxC Cl.zero nil0 nil0)
  rw [World.size_alloc, World.size_alloc] at this
  exact this
 have kc := cl_rest c (.slice a1 m1 k1) (.slice a2 m2 k2) _ (bkAt_later hb HB0.out)
 have kd : ∀ W, Below w.heap.size w W → Calls Tryz.prog 171 #[c.val (.slice a1 m1 k1) (.slice a2 m2 k2), .int .i64 1, x.val, .int .i64 0, .int .i64 0] W fun e w' => ∃ u1 u2, e = .returned ((⟨c.p, 1, x, 0, 0, c.n, c.js, c.rs⟩ : Cl).val u1 u2) ∧ BkT w' u1 u2 c ∧ Below W.heap.size W w' := fun W hB => cl_doing c x 1 0 0 a1 a2 m1 k1 m2 k2 W (bkAt_later hb hB) hn1 hn2
 clear hn1 hn2
 rw [hck] at kc
 have HK : Aside (BkAt w (.slice a1 m1 k1) (.slice a2 m2 k2) c) := hb
 clear hb hck
 have hce : ∀ W, Calls Tryz.prog 115 #[ev x.k x.j x.v x.t x.c] W fun e w' => e = .returned (.int .i64 x.chk) ∧ Below W.heap.size W w' := fun W => check_any x.k x.j x.v x.t x.c W
 rw [hx] at hce
 clear hx
 have kj := fun W => junk_any x W
 rw [hk] at kj
 go_enter Tryz.func172, Tryz.ntmps172
 go_wp2_with fail
 refine kc.mono ?_
 rintro r w1 ⟨rfl, hb1⟩
 have HX1 := hv HX0 hb1
 have HE1 := hv HE0 hb1
 have HR1 := hv HR0 hb1
 have HB1 := sb HB0 hb1
 clear hb1 HB0 HX0 HE0 HR0
 clear kc
 have ze := cb HE1
 go_wp2_with fail
 refine (hce _).mono ?_
 rintro r w2 ⟨rfl, hb2⟩
 have HX2 := hv HX1 hb2
 have HE2 := hv HE1 hb2
 have HR2 := hv HR1 hb2
 have HB2 := sb HB1 hb2
 clear hb2 HB1 HX1 HE1 HR1
 clear ze hce
 have ze := cb HE2
 go_wp2_with fail
 refine (kj _).mono ?_
 rintro r w3 ⟨rfl, hb3⟩
 have HX3 := hv HX2 hb3
 have HE3 := hv HE2 hb3
 have HR3 := hv HR2 hb3
 have HB3 := sb HB2 hb3
 clear hb3 HB2 HX2 HE2 HR2
 clear ze kj
 have z := cb HX3
 have ze := cb HE3
 go_wp2_with fail
 refine (kd w3 HB3.out).mono ?_
 rintro r w4 ⟨u1, u2, rfl, hT4, hb4⟩
 have HR4 := hv HR3 hb4
 have HB4 := sb HB3 hb4
 have HT4 : Aside (BkT w4 u1 u2 c) := hT4
 obtain ⟨s1, o1, s2, o2, rfl, rfl⟩ := bk_slices hT4.1.1 hT4.1.2
 clear hb4 kd HB3 HR3 hT4
 obtain ⟨n1, hn1⟩ : ∃ n, Hid (c.js.length = n) := ⟨_, rfl⟩
 obtain ⟨n2, hn2⟩ : ∃ n, Hid (c.rs.length = n) := ⟨_, rfl⟩
 rw [hn1.out, hn2.out] at HT4 ⊢
 clear z ze
 have zr := cb HR4
 have fzr := cf HR4
 go_wp2
 refine ret_st (p := 4) (q := 5) w4 (w.heap.size + 1 + 1) ((⟨c.p, 1, x, 0, 0, c.n, c.js, c.rs⟩ : Cl)) (.slice s1 n1 o1) (.slice s2 n2 o2) (o := Cl.zero) (u1 := nil0) (u2 := nil0) Tryz.results172 rfl rfl rfl HR4.out rfl ?_
 exact ⟨(.slice s1 n1 o1), (.slice s2 n2 o2), rfl, bkT_st12 ⟨_, HR4.out⟩ (bkT_cong HT4.out rfl rfl) _ _ _, st12_below HB4.out (by omega) _ _ _⟩
set_option maxHeartbeats 4000000 in
set_option maxRecDepth 100000 in
theorem zp_ck (c : Cl) (a1 a2 : Option Addr) (m1 k1 m2 k2 : Nat) (q : Int) (w : World) (hb : BkAt w (.slice a1 m1 k1) (.slice a2 m2 k2) c) (d : Int) (hck : c.ck = d) (hz : (d != 0) = true) :
  AnsX 177 #[c.val (.slice a1 m1 k1) (.slice a2 m2 k2), .int .i64 q] w (Cl.zero, d) nil0 nil0 := by
 have HB0 : Aside (Below w.heap.size w ((w.alloc (boxC c (.slice a1 m1 k1) (.slice a2 m2 k2))).alloc (boxC Cl.zero nil0 nil0))) := grew (grew (Below.refl _ _) _) _
 have HX0 : Aside (((w.alloc (boxC c (.slice a1 m1 k1) (.slice a2 m2 k2))).alloc (boxC Cl.zero nil0 nil0)).heap[w.heap.size]? = some (boxC c (.slice a1 m1 k1) (.slice a2 m2 k2))) := heap_old (heap_new _ _) _
 have HR0 : Aside (((w.alloc (boxC c (.slice a1 m1 k1) (.slice a2 m2 k2))).alloc (boxC Cl.zero nil0 nil0)).heap[w.heap.size + 1]? = some (boxC Cl.zero nil0 nil0)) := by
  have := heap_new (w.alloc (boxC c (.slice a1 m1 k1) (.slice a2 m2 k2))) (boxC Cl.zero nil0 nil0)
  rw [World.size_alloc] at this
  exact this
 have kc := cl_check c (.slice a1 m1 k1) (.slice a2 m2 k2) _ (bkAt_later hb HB0.out)
 rw [hck] at kc
 have HK : Aside (BkAt w (.slice a1 m1 k1) (.slice a2 m2 k2) c) := hb
 clear hb hck
 go_enter Tryz.func177, Tryz.ntmps177
 go_wp2_with fail
 refine kc.mono ?_
 rintro r w1 ⟨rfl, hb1⟩
 have HX1 := hv HX0 hb1
 have HR1 := hv HR0 hb1
 have HB1 := sb HB0 hb1
 clear hb1 HB0 HX0 HR0
 clear kc
 have zr := cb HR1
 have fzr := cf HR1
 go_wp2
 refine ret_st (p := 4) (q := 5) w1 (w.heap.size + 1) (Cl.zero) nil0 nil0 (o := Cl.zero) (u1 := nil0) (u2 := nil0) Tryz.results177 rfl rfl rfl HR1.out rfl ?_
 exact ⟨rfl, st12_below HB1.out (by omega) _ _ _⟩
set_option maxHeartbeats 4000000 in
set_option maxRecDepth 100000 in
theorem zp_late (c : Cl) (a1 a2 : Option Addr) (m1 k1 m2 k2 : Nat) (q : Int) (w : World) (hb : BkAt w (.slice a1 m1 k1) (.slice a2 m2 k2) c) (hck : c.ck = 0) (hd : (c.d != 1) = true) :
  AnsX 177 #[c.val (.slice a1 m1 k1) (.slice a2 m2 k2), .int .i64 q] w (Cl.zero, 7) nil0 nil0 := by
 have HB0 : Aside (Below w.heap.size w ((w.alloc (boxC c (.slice a1 m1 k1) (.slice a2 m2 k2))).alloc (boxC Cl.zero nil0 nil0))) := grew (grew (Below.refl _ _) _) _
 have HX0 : Aside (((w.alloc (boxC c (.slice a1 m1 k1) (.slice a2 m2 k2))).alloc (boxC Cl.zero nil0 nil0)).heap[w.heap.size]? = some (boxC c (.slice a1 m1 k1) (.slice a2 m2 k2))) := heap_old (heap_new _ _) _
 have HR0 : Aside (((w.alloc (boxC c (.slice a1 m1 k1) (.slice a2 m2 k2))).alloc (boxC Cl.zero nil0 nil0)).heap[w.heap.size + 1]? = some (boxC Cl.zero nil0 nil0)) := by
  have := heap_new (w.alloc (boxC c (.slice a1 m1 k1) (.slice a2 m2 k2))) (boxC Cl.zero nil0 nil0)
  rw [World.size_alloc] at this
  exact this
 have kc := cl_check c (.slice a1 m1 k1) (.slice a2 m2 k2) _ (bkAt_later hb HB0.out)
 rw [hck] at kc
 have HK : Aside (BkAt w (.slice a1 m1 k1) (.slice a2 m2 k2) c) := hb
 clear hb hck
 go_enter Tryz.func177, Tryz.ntmps177
 go_wp2_with fail
 refine kc.mono ?_
 rintro r w1 ⟨rfl, hb1⟩
 have HX1 := hv HX0 hb1
 have HR1 := hv HR0 hb1
 have HB1 := sb HB0 hb1
 clear hb1 HB0 HX0 HR0
 clear kc
 have z := cb HX1
 have zr := cb HR1
 have fzr := cf HR1
 go_wp2
 refine ret_st (p := 4) (q := 5) w1 (w.heap.size + 1) (Cl.zero) nil0 nil0 (o := Cl.zero) (u1 := nil0) (u2 := nil0) Tryz.results177 rfl rfl rfl HR1.out rfl ?_
 exact ⟨rfl, st12_below HB1.out (by omega) _ _ _⟩
set_option maxHeartbeats 4000000 in
set_option maxRecDepth 100000 in
theorem zp_who (c : Cl) (a1 a2 : Option Addr) (m1 k1 m2 k2 : Nat) (q : Int) (w : World) (hb : BkAt w (.slice a1 m1 k1) (.slice a2 m2 k2) c) (hck : c.ck = 0) (hd : (c.d != 1) = false) (h0 : ¬ (0 ≤ q ∧ q ≤ 59)) :
  AnsX 177 #[c.val (.slice a1 m1 k1) (.slice a2 m2 k2), .int .i64 q] w (Cl.zero, 5) nil0 nil0 := by
 have HB0 : Aside (Below w.heap.size w ((w.alloc (boxC c (.slice a1 m1 k1) (.slice a2 m2 k2))).alloc (boxC Cl.zero nil0 nil0))) := grew (grew (Below.refl _ _) _) _
 have HX0 : Aside (((w.alloc (boxC c (.slice a1 m1 k1) (.slice a2 m2 k2))).alloc (boxC Cl.zero nil0 nil0)).heap[w.heap.size]? = some (boxC c (.slice a1 m1 k1) (.slice a2 m2 k2))) := heap_old (heap_new _ _) _
 have HR0 : Aside (((w.alloc (boxC c (.slice a1 m1 k1) (.slice a2 m2 k2))).alloc (boxC Cl.zero nil0 nil0)).heap[w.heap.size + 1]? = some (boxC Cl.zero nil0 nil0)) := by
  have := heap_new (w.alloc (boxC c (.slice a1 m1 k1) (.slice a2 m2 k2))) (boxC Cl.zero nil0 nil0)
  rw [World.size_alloc] at this
  exact this
 have kc := cl_check c (.slice a1 m1 k1) (.slice a2 m2 k2) _ (bkAt_later hb HB0.out)
 rw [hck] at kc
 have HK : Aside (BkAt w (.slice a1 m1 k1) (.slice a2 m2 k2) c) := hb
 clear hb hck
 have hin := fun W => cplace_any q W
 rw [decide_eq_false h0] at hin
 clear h0
 go_enter Tryz.func177, Tryz.ntmps177
 go_wp2_with fail
 refine kc.mono ?_
 rintro r w1 ⟨rfl, hb1⟩
 have HX1 := hv HX0 hb1
 have HR1 := hv HR0 hb1
 have HB1 := sb HB0 hb1
 clear hb1 HB0 HX0 HR0
 clear kc
 have z := cb HX1
 go_wp2_with fail
 refine (hin _).mono ?_
 rintro r wx ⟨rfl, hwx⟩
 obtain rfl : w1 = wx := hwx.symm
 have zr := cb HR1
 have fzr := cf HR1
 go_wp2
 refine ret_st (p := 4) (q := 5) w1 (w.heap.size + 1) (Cl.zero) nil0 nil0 (o := Cl.zero) (u1 := nil0) (u2 := nil0) Tryz.results177 rfl rfl rfl HR1.out rfl ?_
 exact ⟨rfl, st12_below HB1.out (by omega) _ _ _⟩
set_option maxHeartbeats 4000000 in
set_option maxRecDepth 100000 in
theorem zp_ok (c : Cl) (a1 a2 : Option Addr) (m1 k1 m2 k2 : Nat) (q : Int) (w : World) (hb : BkAt w (.slice a1 m1 k1) (.slice a2 m2 k2) c) (hck : c.ck = 0) (hd : (c.d != 1) = false) (h0 : 0 ≤ q ∧ q ≤ 59) (hn1 : c.js.length ≤ 1000000) (hn2 : c.rs.length ≤ 1000000) :
  AnsT 177 #[c.val (.slice a1 m1 k1) (.slice a2 m2 k2), .int .i64 q] w ((⟨c.p, 2, c.e, q, 0, c.n, c.js, c.rs⟩ : Cl), 0) := by
 have HB0 : Aside (Below w.heap.size w ((w.alloc (boxC c (.slice a1 m1 k1) (.slice a2 m2 k2))).alloc (boxC Cl.zero nil0 nil0))) := grew (grew (Below.refl _ _) _) _
 have HX0 : Aside (((w.alloc (boxC c (.slice a1 m1 k1) (.slice a2 m2 k2))).alloc (boxC Cl.zero nil0 nil0)).heap[w.heap.size]? = some (boxC c (.slice a1 m1 k1) (.slice a2 m2 k2))) := heap_old (heap_new _ _) _
 have HR0 : Aside (((w.alloc (boxC c (.slice a1 m1 k1) (.slice a2 m2 k2))).alloc (boxC Cl.zero nil0 nil0)).heap[w.heap.size + 1]? = some (boxC Cl.zero nil0 nil0)) := by
  have := heap_new (w.alloc (boxC c (.slice a1 m1 k1) (.slice a2 m2 k2))) (boxC Cl.zero nil0 nil0)
  rw [World.size_alloc] at this
  exact this
 have kc := cl_check c (.slice a1 m1 k1) (.slice a2 m2 k2) _ (bkAt_later hb HB0.out)
 have kd : ∀ W, Below w.heap.size w W → Calls Tryz.prog 171 #[c.val (.slice a1 m1 k1) (.slice a2 m2 k2), .int .i64 2, c.e.val, .int .i64 q, .int .i64 0] W fun e w' => ∃ u1 u2, e = .returned ((⟨c.p, 2, c.e, q, 0, c.n, c.js, c.rs⟩ : Cl).val u1 u2) ∧ BkT w' u1 u2 c ∧ Below W.heap.size W w' := fun W hB => cl_doing c c.e 2 q 0 a1 a2 m1 k1 m2 k2 W (bkAt_later hb hB) hn1 hn2
 clear hn1 hn2
 rw [hck] at kc
 have HK : Aside (BkAt w (.slice a1 m1 k1) (.slice a2 m2 k2) c) := hb
 clear hb hck
 have hin := fun W => cplace_any q W
 rw [decide_eq_true h0] at hin
 clear h0
 go_enter Tryz.func177, Tryz.ntmps177
 go_wp2_with fail
 refine kc.mono ?_
 rintro r w1 ⟨rfl, hb1⟩
 have HX1 := hv HX0 hb1
 have HR1 := hv HR0 hb1
 have HB1 := sb HB0 hb1
 clear hb1 HB0 HX0 HR0
 clear kc
 have z := cb HX1
 go_wp2_with fail
 refine (hin _).mono ?_
 rintro r wx ⟨rfl, hwx⟩
 obtain rfl : w1 = wx := hwx.symm
 go_wp2_with fail
 refine (kd w1 HB1.out).mono ?_
 rintro r w2 ⟨u1, u2, rfl, hT2, hb2⟩
 have HR2 := hv HR1 hb2
 have HB2 := sb HB1 hb2
 have HT2 : Aside (BkT w2 u1 u2 c) := hT2
 obtain ⟨s1, o1, s2, o2, rfl, rfl⟩ := bk_slices hT2.1.1 hT2.1.2
 clear hb2 kd HB1 HR1 hT2
 obtain ⟨n1, hn1⟩ : ∃ n, Hid (c.js.length = n) := ⟨_, rfl⟩
 obtain ⟨n2, hn2⟩ : ∃ n, Hid (c.rs.length = n) := ⟨_, rfl⟩
 rw [hn1.out, hn2.out] at HT2 ⊢
 clear z
 have zr := cb HR2
 have fzr := cf HR2
 go_wp2
 refine ret_st (p := 4) (q := 5) w2 (w.heap.size + 1) ((⟨c.p, 2, c.e, q, 0, c.n, c.js, c.rs⟩ : Cl)) (.slice s1 n1 o1) (.slice s2 n2 o2) (o := Cl.zero) (u1 := nil0) (u2 := nil0) Tryz.results177 rfl rfl rfl HR2.out rfl ?_
 exact ⟨(.slice s1 n1 o1), (.slice s2 n2 o2), rfl, bkT_st12 ⟨_, HR2.out⟩ (bkT_cong HT2.out rfl rfl) _ _ _, st12_below HB2.out (by omega) _ _ _⟩
set_option maxHeartbeats 4000000 in
set_option maxRecDepth 100000 in
theorem zf_ck (c : Cl) (a1 a2 : Option Addr) (m1 k1 m2 k2 : Nat) (q : Int) (w : World) (hb : BkAt w (.slice a1 m1 k1) (.slice a2 m2 k2) c) (d : Int) (hck : restErr c = d) (hz : (d != 0) = true) :
  AnsX 140 #[c.val (.slice a1 m1 k1) (.slice a2 m2 k2), .int .i64 q] w (Cl.zero, d) nil0 nil0 := by
 have HB0 : Aside (Below w.heap.size w ((w.alloc (boxC c (.slice a1 m1 k1) (.slice a2 m2 k2))).alloc (boxC Cl.zero nil0 nil0))) := grew (grew (Below.refl _ _) _) _
 have HX0 : Aside (((w.alloc (boxC c (.slice a1 m1 k1) (.slice a2 m2 k2))).alloc (boxC Cl.zero nil0 nil0)).heap[w.heap.size]? = some (boxC c (.slice a1 m1 k1) (.slice a2 m2 k2))) := heap_old (heap_new _ _) _
 have HR0 : Aside (((w.alloc (boxC c (.slice a1 m1 k1) (.slice a2 m2 k2))).alloc (boxC Cl.zero nil0 nil0)).heap[w.heap.size + 1]? = some (boxC Cl.zero nil0 nil0)) := by
  have := heap_new (w.alloc (boxC c (.slice a1 m1 k1) (.slice a2 m2 k2))) (boxC Cl.zero nil0 nil0)
  rw [World.size_alloc] at this
  exact this
 have kc := cl_rest c (.slice a1 m1 k1) (.slice a2 m2 k2) _ (bkAt_later hb HB0.out)
 rw [hck] at kc
 have HK : Aside (BkAt w (.slice a1 m1 k1) (.slice a2 m2 k2) c) := hb
 clear hb hck
 go_enter Tryz.func140, Tryz.ntmps140
 go_wp2_with fail
 refine kc.mono ?_
 rintro r w1 ⟨rfl, hb1⟩
 have HX1 := hv HX0 hb1
 have HR1 := hv HR0 hb1
 have HB1 := sb HB0 hb1
 clear hb1 HB0 HX0 HR0
 clear kc
 have zr := cb HR1
 have fzr := cf HR1
 go_wp2
 refine ret_st (p := 4) (q := 5) w1 (w.heap.size + 1) (Cl.zero) nil0 nil0 (o := Cl.zero) (u1 := nil0) (u2 := nil0) Tryz.results140 rfl rfl rfl HR1.out rfl ?_
 exact ⟨rfl, st12_below HB1.out (by omega) _ _ _⟩
set_option maxHeartbeats 4000000 in
set_option maxRecDepth 100000 in
theorem zf_who (c : Cl) (a1 a2 : Option Addr) (m1 k1 m2 k2 : Nat) (q : Int) (w : World) (hb : BkAt w (.slice a1 m1 k1) (.slice a2 m2 k2) c) (hck : restErr c = 0) (h0 : ¬ (0 ≤ q ∧ q ≤ 59)) :
  AnsX 140 #[c.val (.slice a1 m1 k1) (.slice a2 m2 k2), .int .i64 q] w (Cl.zero, 5) nil0 nil0 := by
 have HB0 : Aside (Below w.heap.size w ((w.alloc (boxC c (.slice a1 m1 k1) (.slice a2 m2 k2))).alloc (boxC Cl.zero nil0 nil0))) := grew (grew (Below.refl _ _) _) _
 have HX0 : Aside (((w.alloc (boxC c (.slice a1 m1 k1) (.slice a2 m2 k2))).alloc (boxC Cl.zero nil0 nil0)).heap[w.heap.size]? = some (boxC c (.slice a1 m1 k1) (.slice a2 m2 k2))) := heap_old (heap_new _ _) _
 have HR0 : Aside (((w.alloc (boxC c (.slice a1 m1 k1) (.slice a2 m2 k2))).alloc (boxC Cl.zero nil0 nil0)).heap[w.heap.size + 1]? = some (boxC Cl.zero nil0 nil0)) := by
  have := heap_new (w.alloc (boxC c (.slice a1 m1 k1) (.slice a2 m2 k2))) (boxC Cl.zero nil0 nil0)
  rw [World.size_alloc] at this
  exact this
 have kc := cl_rest c (.slice a1 m1 k1) (.slice a2 m2 k2) _ (bkAt_later hb HB0.out)
 rw [hck] at kc
 have HK : Aside (BkAt w (.slice a1 m1 k1) (.slice a2 m2 k2) c) := hb
 clear hb hck
 have hin := fun W => cplace_any q W
 rw [decide_eq_false h0] at hin
 clear h0
 go_enter Tryz.func140, Tryz.ntmps140
 go_wp2_with fail
 refine kc.mono ?_
 rintro r w1 ⟨rfl, hb1⟩
 have HX1 := hv HX0 hb1
 have HR1 := hv HR0 hb1
 have HB1 := sb HB0 hb1
 clear hb1 HB0 HX0 HR0
 clear kc
 go_wp2_with fail
 refine (hin _).mono ?_
 rintro r wx ⟨rfl, hwx⟩
 obtain rfl : w1 = wx := hwx.symm
 have zr := cb HR1
 have fzr := cf HR1
 go_wp2
 refine ret_st (p := 4) (q := 5) w1 (w.heap.size + 1) (Cl.zero) nil0 nil0 (o := Cl.zero) (u1 := nil0) (u2 := nil0) Tryz.results140 rfl rfl rfl HR1.out rfl ?_
 exact ⟨rfl, st12_below HB1.out (by omega) _ _ _⟩
set_option maxHeartbeats 4000000 in
set_option maxRecDepth 100000 in
theorem zf_ok (c : Cl) (a1 a2 : Option Addr) (m1 k1 m2 k2 : Nat) (q : Int) (w : World) (hb : BkAt w (.slice a1 m1 k1) (.slice a2 m2 k2) c) (hck : restErr c = 0) (h0 : 0 ≤ q ∧ q ≤ 59) (hn1 : c.js.length ≤ 1000000) (hn2 : c.rs.length ≤ 1000000) :
  AnsT 140 #[c.val (.slice a1 m1 k1) (.slice a2 m2 k2), .int .i64 q] w ((⟨c.p, 2, En.zero, q, 0, c.n, c.js, c.rs⟩ : Cl), 0) := by
 have HB0 : Aside (Below w.heap.size w ((w.alloc (boxC c (.slice a1 m1 k1) (.slice a2 m2 k2))).alloc (boxC Cl.zero nil0 nil0))) := grew (grew (Below.refl _ _) _) _
 have HX0 : Aside (((w.alloc (boxC c (.slice a1 m1 k1) (.slice a2 m2 k2))).alloc (boxC Cl.zero nil0 nil0)).heap[w.heap.size]? = some (boxC c (.slice a1 m1 k1) (.slice a2 m2 k2))) := heap_old (heap_new _ _) _
 have HR0 : Aside (((w.alloc (boxC c (.slice a1 m1 k1) (.slice a2 m2 k2))).alloc (boxC Cl.zero nil0 nil0)).heap[w.heap.size + 1]? = some (boxC Cl.zero nil0 nil0)) := by
  have := heap_new (w.alloc (boxC c (.slice a1 m1 k1) (.slice a2 m2 k2))) (boxC Cl.zero nil0 nil0)
  rw [World.size_alloc] at this
  exact this
 have kc := cl_rest c (.slice a1 m1 k1) (.slice a2 m2 k2) _ (bkAt_later hb HB0.out)
 have kd : ∀ W, Below w.heap.size w W → Calls Tryz.prog 171 #[c.val (.slice a1 m1 k1) (.slice a2 m2 k2), .int .i64 2, En.zero.val, .int .i64 q, .int .i64 0] W fun e w' => ∃ u1 u2, e = .returned ((⟨c.p, 2, En.zero, q, 0, c.n, c.js, c.rs⟩ : Cl).val u1 u2) ∧ BkT w' u1 u2 c ∧ Below W.heap.size W w' := fun W hB => cl_doing c En.zero 2 q 0 a1 a2 m1 k1 m2 k2 W (bkAt_later hb hB) hn1 hn2
 clear hn1 hn2
 rw [hck] at kc
 have HK : Aside (BkAt w (.slice a1 m1 k1) (.slice a2 m2 k2) c) := hb
 clear hb hck
 have hin := fun W => cplace_any q W
 rw [decide_eq_true h0] at hin
 clear h0
 go_enter Tryz.func140, Tryz.ntmps140
 go_wp2_with fail
 refine kc.mono ?_
 rintro r w1 ⟨rfl, hb1⟩
 have HX1 := hv HX0 hb1
 have HR1 := hv HR0 hb1
 have HB1 := sb HB0 hb1
 clear hb1 HB0 HX0 HR0
 clear kc
 have z := cb HX1
 go_wp2_with fail
 refine (hin _).mono ?_
 rintro r wx ⟨rfl, hwx⟩
 obtain rfl : w1 = wx := hwx.symm
 go_wp2_with fail
 refine (kd w1 HB1.out).mono ?_
 rintro r w2 ⟨u1, u2, rfl, hT2, hb2⟩
 have HR2 := hv HR1 hb2
 have HB2 := sb HB1 hb2
 have HT2 : Aside (BkT w2 u1 u2 c) := hT2
 obtain ⟨s1, o1, s2, o2, rfl, rfl⟩ := bk_slices hT2.1.1 hT2.1.2
 clear hb2 kd HB1 HR1 hT2
 obtain ⟨n1, hn1⟩ : ∃ n, Hid (c.js.length = n) := ⟨_, rfl⟩
 obtain ⟨n2, hn2⟩ : ∃ n, Hid (c.rs.length = n) := ⟨_, rfl⟩
 rw [hn1.out, hn2.out] at HT2 ⊢
 clear z
 have zr := cb HR2
 have fzr := cf HR2
 go_wp2
 refine ret_st (p := 4) (q := 5) w2 (w.heap.size + 1) ((⟨c.p, 2, En.zero, q, 0, c.n, c.js, c.rs⟩ : Cl)) (.slice s1 n1 o1) (.slice s2 n2 o2) (o := Cl.zero) (u1 := nil0) (u2 := nil0) Tryz.results140 rfl rfl rfl HR2.out rfl ?_
 exact ⟨(.slice s1 n1 o1), (.slice s2 n2 o2), rfl, bkT_st12 ⟨_, HR2.out⟩ (bkT_cong HT2.out rfl rfl) _ _ _, st12_below HB2.out (by omega) _ _ _⟩
theorem few_of {c : Cl} (h : c.ck = 0) : c.js.length ≤ 1000000 ∧ c.rs.length ≤ 1000000 := by
 have hok := (Cl.ck_zero.1 h).2.2.2
 have h1 := hok.few
 have h2 := hok.room
 constructor <;> omega
theorem cl_want (c : Cl) (x : En) (v1 v2 : Value) (w : World) (hb : BkAt w v1 v2 c) : AnsT 172 #[c.val v1 v2, x.val] w (wantOf c x) := by
 obtain ⟨a1, k1, a2, k2, rfl, rfl⟩ := bk_slices hb.1 hb.2
 unfold wantOf
 by_cases hc : c.ck = 0
 ·rw [if_neg (by simpa using hc)]
  by_cases hd : c.d = 0
  ·have hr : restErr c = 0 := by rw [restErr, if_neg (by simpa using hc), if_neg (by simpa using hd)]
   rw [if_neg (by simpa using hd)]
   by_cases hx : x.chk = 0
   ·rw [if_neg (by simpa using hx)]
    by_cases hk : x.k = 0
    ·rw [if_pos hk]
     exact ansT_zero <| zw_junk c a1 a2 _ k1 _ k2 x w hb hr hx (by rw [hk]; rfl)
    ·rw [if_neg hk]
     have h := zw_ok c a1 a2 _ k1 _ k2 x w hb hr hx (by rw [beq_eq_false_iff_ne]; exact hk) (few_of hc).1 (few_of hc).2
     have e := rests hc hd
     rw [show c.a = 0 by rw [e], show c.l = 0 by rw [e]]
     exact h
   ·rw [if_pos hx]
    exact ansT_zero <| zw_ent c a1 a2 _ k1 _ k2 x w hb hr _ rfl (by rw [bne_iff_ne]; exact hx)
  ·rw [if_pos hd]
   exact ansT_zero <| zw_ck c a1 a2 _ k1 _ k2 x w hb 7 (by rw [restErr, if_neg (by simpa using hc), if_pos hd]) rfl
 ·rw [if_pos hc]
  exact ansT_zero <| zw_ck c a1 a2 _ k1 _ k2 x w hb _ (by rw [restErr, if_pos hc]) (by rw [bne_iff_ne]; exact hc)
theorem wants {c : Cl} (h : c.ck = 0) (hd : c.d = 1) : c.a = 0 ∧ c.l = 0 := by
 obtain ⟨ho, _, hf, _⟩ := Cl.ck_zero.1 h
 have hg := Cl.good ho
 rw [Cl.odd, if_neg (by omega), if_pos hd] at hf
 simp only [Bool.or_eq_false_iff, decide_eq_false_iff_not] at hf
 constructor <;> omega
theorem cl_place (c : Cl) (q : Int) (v1 v2 : Value) (w : World) (hb : BkAt w v1 v2 c) : AnsT 177 #[c.val v1 v2, .int .i64 q] w (placeOf 1 c q) := by
 obtain ⟨a1, k1, a2, k2, rfl, rfl⟩ := bk_slices hb.1 hb.2
 unfold placeOf
 by_cases hc : c.ck = 0
 ·rw [if_neg (by simpa using hc)]
  by_cases hd : c.d = 1
  ·have hdb : (c.d != 1) = false := by rw [hd]; rfl
   rw [if_neg (by simpa using hd)]
   by_cases hq : 0 ≤ q ∧ q ≤ 59
   ·rw [if_neg (by simpa using hq), (wants hc hd).2]
    exact zp_ok c a1 a2 _ k1 _ k2 q w hb hc hdb hq (few_of hc).1 (few_of hc).2
   ·rw [if_pos hq]
    exact ansT_zero <| zp_who c a1 a2 _ k1 _ k2 q w hb hc hdb hq
  ·rw [if_pos hd]
   exact ansT_zero <| zp_late c a1 a2 _ k1 _ k2 q w hb hc (by rw [bne_iff_ne]; exact hd)
 ·rw [if_pos hc]
  exact ansT_zero <| zp_ck c a1 a2 _ k1 _ k2 q w hb _ rfl (by rw [bne_iff_ne]; exact hc)
theorem cl_fill (c : Cl) (q : Int) (v1 v2 : Value) (w : World) (hb : BkAt w v1 v2 c) : AnsT 140 #[c.val v1 v2, .int .i64 q] w (placeOf 0 c q) := by
 obtain ⟨a1, k1, a2, k2, rfl, rfl⟩ := bk_slices hb.1 hb.2
 unfold placeOf
 by_cases hc : c.ck = 0
 ·rw [if_neg (by simpa using hc)]
  by_cases hd : c.d = 0
  ·have hr : restErr c = 0 := by rw [restErr, if_neg (by simpa using hc), if_neg (by simpa using hd)]
   rw [if_neg (by simpa using hd)]
   by_cases hq : 0 ≤ q ∧ q ≤ 59
   ·rw [if_neg (by simpa using hq)]
    have h := zf_ok c a1 a2 _ k1 _ k2 q w hb hr hq (few_of hc).1 (few_of hc).2
    have e := rests hc hd
    rw [show c.e = En.zero by rw [e], show c.l = 0 by rw [e]]
    exact h
   ·rw [if_pos hq]
    exact ansT_zero <| zf_who c a1 a2 _ k1 _ k2 q w hb hr hq
  ·rw [if_pos hd]
   exact ansT_zero <| zf_ck c a1 a2 _ k1 _ k2 q w hb 7 (by rw [restErr, if_neg (by simpa using hc), if_pos hd]) rfl
 ·rw [if_pos hc]
  exact ansT_zero <| zf_ck c a1 a2 _ k1 _ k2 q w hb _ (by rw [restErr, if_pos hc]) (by rw [bne_iff_ne]; exact hc)
end Go.Proofs.YtmoaobfmopimlafGreatDoor
