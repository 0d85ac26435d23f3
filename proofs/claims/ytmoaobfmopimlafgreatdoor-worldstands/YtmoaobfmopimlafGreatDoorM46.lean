/- For the law. -/
import Derived.Test.YtmoaobfmopimlafGreatDoorM45
set_option linter.unusedSimpArgs false
set_option linter.unusedVariables false
namespace Go.Proofs.YtmoaobfmopimlafGreatDoor
open Go.RowKit
set_option maxHeartbeats 4000000 in
set_option maxRecDepth 100000 in
theorem zl_ck (c : Cl) (a1 a2 : Option Addr) (m1 k1 m2 k2 : Nat) (q : Int) (w : World) (hb : BkAt w (.slice a1 m1 k1) (.slice a2 m2 k2) c) (d : Int) (hck : c.ck = d) (hz : (d != 0) = true) :
  AnsX 131 #[c.val (.slice a1 m1 k1) (.slice a2 m2 k2), .int .i64 q] w (Cl.zero, d) nil0 nil0 := by
 have HB0 : Aside (Below w.heap.size w ((w.alloc (boxC c (.slice a1 m1 k1) (.slice a2 m2 k2))).alloc (boxC Cl.zero nil0 nil0))) := grew (grew (Below.refl _ _) _) _
 have HX0 : Aside (((w.alloc (boxC c (.slice a1 m1 k1) (.slice a2 m2 k2))).alloc (boxC Cl.zero nil0 nil0)).heap[w.heap.size]? = some (boxC c (.slice a1 m1 k1) (.slice a2 m2 k2))) := heap_old (heap_new _ _) _
 have HR0 : Aside (((w.alloc (boxC c (.slice a1 m1 k1) (.slice a2 m2 k2))).alloc (boxC Cl.zero nil0 nil0)).heap[w.heap.size + 1]? = some (boxC Cl.zero nil0 nil0)) := by
  have := heap_new (w.alloc (boxC c (.slice a1 m1 k1) (.slice a2 m2 k2))) (boxC Cl.zero nil0 nil0)
  rw [World.size_alloc] at this
  exact this
 have kc := cl_check c (.slice a1 m1 k1) (.slice a2 m2 k2) _ (bkAt_later hb HB0.out)
 rw [hck] at kc
 have HK : Aside (BkAt w (.slice a1 m1 k1) (.slice a2 m2 k2) c) := hb
 clear hb hck
 go_enter Tryz.func131, Tryz.ntmps131
 go_wp2_with fail
 refine kc.mono ?_
 rintro r w1 ⟨rfl, hb1⟩
 have HX1 := hv HX0 hb1
 have HR1 := hv HR0 hb1
 have HB1 := sb HB0 hb1
 clear hb1 HB0 HX0 HR0
 clear kc
 have zr := cb HR1
 have fzr := cf HR1
 go_wp2
 refine ret_st (p := 4) (q := 5) w1 (w.heap.size + 1) (Cl.zero) nil0 nil0 (o := Cl.zero) (u1 := nil0) (u2 := nil0) Tryz.results131 rfl rfl rfl HR1.out rfl ?_
 exact ⟨rfl, st12_below HB1.out (by omega) _ _ _⟩
set_option maxHeartbeats 4000000 in
set_option maxRecDepth 100000 in
theorem zl_rng (c : Cl) (a1 a2 : Option Addr) (m1 k1 m2 k2 : Nat) (q : Int) (w : World) (hb : BkAt w (.slice a1 m1 k1) (.slice a2 m2 k2) c) (hck : c.ck = 0) (h0 : ¬ (1 ≤ q ∧ q ≤ 20)) :
  AnsX 131 #[c.val (.slice a1 m1 k1) (.slice a2 m2 k2), .int .i64 q] w (Cl.zero, 3) nil0 nil0 := by
 have HB0 : Aside (Below w.heap.size w ((w.alloc (boxC c (.slice a1 m1 k1) (.slice a2 m2 k2))).alloc (boxC Cl.zero nil0 nil0))) := grew (grew (Below.refl _ _) _) _
 have HX0 : Aside (((w.alloc (boxC c (.slice a1 m1 k1) (.slice a2 m2 k2))).alloc (boxC Cl.zero nil0 nil0)).heap[w.heap.size]? = some (boxC c (.slice a1 m1 k1) (.slice a2 m2 k2))) := heap_old (heap_new _ _) _
 have HR0 : Aside (((w.alloc (boxC c (.slice a1 m1 k1) (.slice a2 m2 k2))).alloc (boxC Cl.zero nil0 nil0)).heap[w.heap.size + 1]? = some (boxC Cl.zero nil0 nil0)) := by
  have := heap_new (w.alloc (boxC c (.slice a1 m1 k1) (.slice a2 m2 k2))) (boxC Cl.zero nil0 nil0)
  rw [World.size_alloc] at this
  exact this
 have kc := cl_check c (.slice a1 m1 k1) (.slice a2 m2 k2) _ (bkAt_later hb HB0.out)
 rw [hck] at kc
 have HK : Aside (BkAt w (.slice a1 m1 k1) (.slice a2 m2 k2) c) := hb
 clear hb hck
 have hin := fun W => cepoch_any q W
 rw [decide_eq_false h0] at hin
 clear h0
 go_enter Tryz.func131, Tryz.ntmps131
 go_wp2_with fail
 refine kc.mono ?_
 rintro r w1 ⟨rfl, hb1⟩
 have HX1 := hv HX0 hb1
 have HR1 := hv HR0 hb1
 have HB1 := sb HB0 hb1
 clear hb1 HB0 HX0 HR0
 clear kc
 go_wp2_with fail
 refine (hin _).mono ?_
 rintro r wx ⟨rfl, hwx⟩
 obtain rfl : w1 = wx := hwx.symm
 have zr := cb HR1
 have fzr := cf HR1
 go_wp2
 refine ret_st (p := 4) (q := 5) w1 (w.heap.size + 1) (Cl.zero) nil0 nil0 (o := Cl.zero) (u1 := nil0) (u2 := nil0) Tryz.results131 rfl rfl rfl HR1.out rfl ?_
 exact ⟨rfl, st12_below HB1.out (by omega) _ _ _⟩
set_option maxHeartbeats 4000000 in
set_option maxRecDepth 100000 in
theorem zl_old (c : Cl) (a1 a2 : Option Addr) (m1 k1 m2 k2 : Nat) (q : Int) (w : World) (hb : BkAt w (.slice a1 m1 k1) (.slice a2 m2 k2) c) (hck : c.ck = 0) (h0 : 1 ≤ q ∧ q ≤ 20) (h1 : decide (q ≤ c.p) = true) :
  AnsX 131 #[c.val (.slice a1 m1 k1) (.slice a2 m2 k2), .int .i64 q] w (Cl.zero, 8) nil0 nil0 := by
 have HB0 : Aside (Below w.heap.size w ((w.alloc (boxC c (.slice a1 m1 k1) (.slice a2 m2 k2))).alloc (boxC Cl.zero nil0 nil0))) := grew (grew (Below.refl _ _) _) _
 have HX0 : Aside (((w.alloc (boxC c (.slice a1 m1 k1) (.slice a2 m2 k2))).alloc (boxC Cl.zero nil0 nil0)).heap[w.heap.size]? = some (boxC c (.slice a1 m1 k1) (.slice a2 m2 k2))) := heap_old (heap_new _ _) _
 have HR0 : Aside (((w.alloc (boxC c (.slice a1 m1 k1) (.slice a2 m2 k2))).alloc (boxC Cl.zero nil0 nil0)).heap[w.heap.size + 1]? = some (boxC Cl.zero nil0 nil0)) := by
  have := heap_new (w.alloc (boxC c (.slice a1 m1 k1) (.slice a2 m2 k2))) (boxC Cl.zero nil0 nil0)
  rw [World.size_alloc] at this
  exact this
 have kc := cl_check c (.slice a1 m1 k1) (.slice a2 m2 k2) _ (bkAt_later hb HB0.out)
 rw [hck] at kc
 have HK : Aside (BkAt w (.slice a1 m1 k1) (.slice a2 m2 k2) c) := hb
 clear hb hck
 have hin := fun W => cepoch_any q W
 rw [decide_eq_true h0] at hin
 clear h0
 go_enter Tryz.func131, Tryz.ntmps131
 go_wp2_with fail
 refine kc.mono ?_
 rintro r w1 ⟨rfl, hb1⟩
 have HX1 := hv HX0 hb1
 have HR1 := hv HR0 hb1
 have HB1 := sb HB0 hb1
 clear hb1 HB0 HX0 HR0
 clear kc
 have z := cb HX1
 go_wp2_with fail
 refine (hin _).mono ?_
 rintro r wx ⟨rfl, hwx⟩
 obtain rfl : w1 = wx := hwx.symm
 have zr := cb HR1
 have fzr := cf HR1
 go_wp2
 refine ret_st (p := 4) (q := 5) w1 (w.heap.size + 1) (Cl.zero) nil0 nil0 (o := Cl.zero) (u1 := nil0) (u2 := nil0) Tryz.results131 rfl rfl rfl HR1.out rfl ?_
 exact ⟨rfl, st12_below HB1.out (by omega) _ _ _⟩
set_option maxHeartbeats 4000000 in
set_option maxRecDepth 100000 in
theorem zl_ok (c : Cl) (a1 a2 : Option Addr) (m1 k1 m2 k2 : Nat) (q : Int) (w : World) (hb : BkAt w (.slice a1 m1 k1) (.slice a2 m2 k2) c) (hck : c.ck = 0) (h0 : 1 ≤ q ∧ q ≤ 20) (h1 : decide (q ≤ c.p) = false) (hn1 : c.js.length ≤ 1000000) (hn2 : c.rs.length ≤ 1000000) :
  AnsT 131 #[c.val (.slice a1 m1 k1) (.slice a2 m2 k2), .int .i64 q] w ((⟨q, c.d, c.e, c.a, c.l, c.n, c.js, c.rs⟩ : Cl), 0) := by
 have HB0 : Aside (Below w.heap.size w ((w.alloc (boxC c (.slice a1 m1 k1) (.slice a2 m2 k2))).alloc (boxC Cl.zero nil0 nil0))) := grew (grew (Below.refl _ _) _) _
 have HX0 : Aside (((w.alloc (boxC c (.slice a1 m1 k1) (.slice a2 m2 k2))).alloc (boxC Cl.zero nil0 nil0)).heap[w.heap.size]? = some (boxC c (.slice a1 m1 k1) (.slice a2 m2 k2))) := heap_old (heap_new _ _) _
 have HR0 : Aside (((w.alloc (boxC c (.slice a1 m1 k1) (.slice a2 m2 k2))).alloc (boxC Cl.zero nil0 nil0)).heap[w.heap.size + 1]? = some (boxC Cl.zero nil0 nil0)) := by
  have := heap_new (w.alloc (boxC c (.slice a1 m1 k1) (.slice a2 m2 k2))) (boxC Cl.zero nil0 nil0)
  rw [World.size_alloc] at this
  exact this
 have kc := cl_check c (.slice a1 m1 k1) (.slice a2 m2 k2) _ (bkAt_later hb HB0.out)
 have kd : ∀ W, Below w.heap.size w W → Calls Tryz.prog 168 #[c.val (.slice a1 m1 k1) (.slice a2 m2 k2)] W fun e w' => ∃ u1 u2, e = .returned (c.val u1 u2) ∧ BkT w' u1 u2 c ∧ Below W.heap.size W w' := fun W hB => cl_apart c a1 a2 m1 k1 m2 k2 W (bkAt_later hb hB) hn1 hn2
 clear hn1 hn2
 rw [hck] at kc
 have HK : Aside (BkAt w (.slice a1 m1 k1) (.slice a2 m2 k2) c) := hb
 clear hb hck
 have hin := fun W => cepoch_any q W
 rw [decide_eq_true h0] at hin
 clear h0
 go_enter Tryz.func131, Tryz.ntmps131
 go_wp2_with fail
 refine kc.mono ?_
 rintro r w1 ⟨rfl, hb1⟩
 have HX1 := hv HX0 hb1
 have HR1 := hv HR0 hb1
 have HB1 := sb HB0 hb1
 clear hb1 HB0 HX0 HR0
 clear kc
 have z := cb HX1
 go_wp2_with fail
 refine (hin _).mono ?_
 rintro r wx ⟨rfl, hwx⟩
 obtain rfl : w1 = wx := hwx.symm
 go_wp2_with fail
 refine (kd w1 HB1.out).mono ?_
 rintro r w2 ⟨u1, u2, rfl, hT2, hb2⟩
 have HR2 := hv HR1 hb2
 have HB2 := sb HB1 hb2
 have HT2 : Aside (BkT w2 u1 u2 c) := hT2
 obtain ⟨s1, o1, s2, o2, rfl, rfl⟩ := bk_slices hT2.1.1 hT2.1.2
 clear hb2 kd HB1 HR1 hT2
 obtain ⟨n1, hn1⟩ : ∃ n, Hid (c.js.length = n) := ⟨_, rfl⟩
 obtain ⟨n2, hn2⟩ : ∃ n, Hid (c.rs.length = n) := ⟨_, rfl⟩
 rw [hn1.out, hn2.out] at HT2 ⊢
 clear z hin h1
 go_upto_region 9 with fail
 have HA3 : Aside ((w2.alloc (boxC c (.slice s1 n1 o1) (.slice s2 n2 o2))).heap[w2.heap.size]? = some (boxC c (.slice s1 n1 o1) (.slice s2 n2 o2))) := heap_new _ _
 have HD3 : Aside (Below w2.heap.size w2 (w2.alloc (boxC c (.slice s1 n1 o1) (.slice s2 n2 o2)))) := grew (Below.refl _ _) _
 generalize (w2.alloc (boxC c (.slice s1 n1 o1) (.slice s2 n2 o2))) = X at *
 have z := cb HA3
 have fz := cf HA3
 go_upto_region 10 with fail
 have g0 := Joins.block_setCell HA3.out (i := 0) (.int .i64 q)
 simp only [List.setIfInBounds_toArray, List.set_cons_zero, List.set_cons_succ] at g0
 have HX4 : Aside ((X.setCell ⟨w2.heap.size, 0, none⟩ (.int .i64 q)).heap[w2.heap.size]? = some (boxC (⟨q, c.d, c.e, c.a, c.l, c.n, c.js, c.rs⟩ : Cl) (.slice s1 n1 o1) (.slice s2 n2 o2))) := g0
 have HD4 : Aside (Below w2.heap.size w2 (X.setCell ⟨w2.heap.size, 0, none⟩ (.int .i64 q))) := HD3.out.setCell (p := ⟨w2.heap.size, 0, none⟩) (Nat.le_refl _) _
 clear g0 HA3 HD3 z fz
 generalize X.setCell ⟨w2.heap.size, 0, none⟩ (.int .i64 q) = w4 at *
 have HR4 : Aside _ := heap_below HR2.out HD4.out (heap_lt HR2.out)
 have HB4 : Aside _ := step_below HB2.out HD4.out
 have HT4 : Aside _ := bkT_later HT2.out HD4.out
 have z := cb HX4
 clear HR2 HB2 HT2 HD4
 have zr := cb HR4
 have fzr := cf HR4
 go_wp2
 refine ret_st (p := 4) (q := 5) w4 (w.heap.size + 1) ((⟨q, c.d, c.e, c.a, c.l, c.n, c.js, c.rs⟩ : Cl)) (.slice s1 n1 o1) (.slice s2 n2 o2) (o := Cl.zero) (u1 := nil0) (u2 := nil0) Tryz.results131 rfl rfl rfl HR4.out rfl ?_
 exact ⟨(.slice s1 n1 o1), (.slice s2 n2 o2), rfl, bkT_st12 ⟨_, HR4.out⟩ (bkT_cong HT4.out rfl rfl) _ _ _, st12_below HB4.out (by omega) _ _ _⟩
theorem cl_learn (c : Cl) (q : Int) (v1 v2 : Value) (w : World) (hb : BkAt w v1 v2 c) : AnsT 131 #[c.val v1 v2, .int .i64 q] w (learnOf c q) := by
 obtain ⟨a1, k1, a2, k2, rfl, rfl⟩ := bk_slices hb.1 hb.2
 unfold learnOf
 by_cases hc : c.ck = 0
 ·rw [if_neg (by simpa using hc)]
  by_cases hq : 1 ≤ q ∧ q ≤ 20
  ·rw [if_neg (by simpa using hq)]
   by_cases ho : q ≤ c.p
   ·rw [if_pos ho]
    exact ansT_zero <| zl_old c a1 a2 _ k1 _ k2 q w hb hc hq (decide_eq_true ho)
   ·rw [if_neg ho]
    exact zl_ok c a1 a2 _ k1 _ k2 q w hb hc hq (decide_eq_false ho) (few_of hc).1 (few_of hc).2
  ·rw [if_pos hq]
   exact ansT_zero <| zl_rng c a1 a2 _ k1 _ k2 q w hb hc hq
 ·rw [if_pos hc]
  exact ansT_zero <| zl_ck c a1 a2 _ k1 _ k2 q w hb _ rfl (by rw [bne_iff_ne]; exact hc)
set_option maxHeartbeats 4000000 in
set_option maxRecDepth 100000 in
theorem zy_ck (c : Cl) (a1 a2 : Option Addr) (m1 k1 m2 k2 : Nat) (x : En) (w : World) (hb : BkAt w (.slice a1 m1 k1) (.slice a2 m2 k2) c) (d : Int) (hck : c.ck = d) (hz : (d != 0) = true) :
  AnsX 179 #[c.val (.slice a1 m1 k1) (.slice a2 m2 k2), x.val] w (Cl.zero, d) nil0 nil0 := by
 have HB0 : Aside (Below w.heap.size w (((w.alloc (boxC c (.slice a1 m1 k1) (.slice a2 m2 k2))).alloc (boxE x.k x.j x.v x.t x.c)).alloc (boxC Cl.zero nil0 nil0))) := grew (grew (grew (Below.refl _ _) _) _) _
 have HX0 : Aside ((((w.alloc (boxC c (.slice a1 m1 k1) (.slice a2 m2 k2))).alloc (boxE x.k x.j x.v x.t x.c)).alloc (boxC Cl.zero nil0 nil0)).heap[w.heap.size]? = some (boxC c (.slice a1 m1 k1) (.slice a2 m2 k2))) := heap_old (heap_old (heap_new _ _) _) _
 have HE0 : Aside ((((w.alloc (boxC c (.slice a1 m1 k1) (.slice a2 m2 k2))).alloc (boxE x.k x.j x.v x.t x.c)).alloc (boxC Cl.zero nil0 nil0)).heap[w.heap.size + 1]? = some (boxE x.k x.j x.v x.t x.c)) := by
  have := heap_new (w.alloc (boxC c (.slice a1 m1 k1) (.slice a2 m2 k2))) (boxE x.k x.j x.v x.t x.c)
  rw [World.size_alloc] at this
  exact heap_old (this) _
 have HR0 : Aside ((((w.alloc (boxC c (.slice a1 m1 k1) (.slice a2 m2 k2))).alloc (boxE x.k x.j x.v x.t x.c)).alloc (boxC Cl.zero nil0 nil0)).heap[w.heap.size + 1 + 1]? = some (boxC Cl.zero nil0 nil0)) := by
  have := heap_new ((w.alloc (boxC c (.slice a1 m1 k1) (.slice a2 m2 k2))).alloc (boxE x.k x.j x.v x.t x.c)) (boxC Cl.zero nil0 nil0)
  rw [World.size_alloc, World.size_alloc] at this
  exact this
 have kc := cl_check c (.slice a1 m1 k1) (.slice a2 m2 k2) _ (bkAt_later hb HB0.out)
 rw [hck] at kc
 have HK : Aside (BkAt w (.slice a1 m1 k1) (.slice a2 m2 k2) c) := hb
 clear hb hck
 go_enter Tryz.func179, Tryz.ntmps179
 go_wp2_with fail
 refine kc.mono ?_
 rintro r w1 ⟨rfl, hb1⟩
 have HX1 := hv HX0 hb1
 have HE1 := hv HE0 hb1
 have HR1 := hv HR0 hb1
 have HB1 := sb HB0 hb1
 clear hb1 HB0 HX0 HE0 HR0
 clear kc
 have zr := cb HR1
 have fzr := cf HR1
 go_wp2
 refine ret_st (p := 4) (q := 5) w1 (w.heap.size + 1 + 1) (Cl.zero) nil0 nil0 (o := Cl.zero) (u1 := nil0) (u2 := nil0) Tryz.results179 rfl rfl rfl HR1.out rfl ?_
 exact ⟨rfl, st12_below HB1.out (by omega) _ _ _⟩
set_option maxHeartbeats 4000000 in
set_option maxRecDepth 100000 in
theorem zy_full (c : Cl) (a1 a2 : Option Addr) (m1 k1 m2 k2 : Nat) (x : En) (w : World) (hb : BkAt w (.slice a1 m1 k1) (.slice a2 m2 k2) c) (hck : c.ck = 0) (hn : (c.n == 60) = true) :
  AnsX 179 #[c.val (.slice a1 m1 k1) (.slice a2 m2 k2), x.val] w (Cl.zero, 2) nil0 nil0 := by
 have HB0 : Aside (Below w.heap.size w (((w.alloc (boxC c (.slice a1 m1 k1) (.slice a2 m2 k2))).alloc (boxE x.k x.j x.v x.t x.c)).alloc (boxC Cl.zero nil0 nil0))) := grew (grew (grew (Below.refl _ _) _) _) _
 have HX0 : Aside ((((w.alloc (boxC c (.slice a1 m1 k1) (.slice a2 m2 k2))).alloc (boxE x.k x.j x.v x.t x.c)).alloc (boxC Cl.zero nil0 nil0)).heap[w.heap.size]? = some (boxC c (.slice a1 m1 k1) (.slice a2 m2 k2))) := heap_old (heap_old (heap_new _ _) _) _
 have HE0 : Aside ((((w.alloc (boxC c (.slice a1 m1 k1) (.slice a2 m2 k2))).alloc (boxE x.k x.j x.v x.t x.c)).alloc (boxC Cl.zero nil0 nil0)).heap[w.heap.size + 1]? = some (boxE x.k x.j x.v x.t x.c)) := by
  have := heap_new (w.alloc (boxC c (.slice a1 m1 k1) (.slice a2 m2 k2))) (boxE x.k x.j x.v x.t x.c)
  rw [World.size_alloc] at this
  exact heap_old (this) _
 have HR0 : Aside ((((w.alloc (boxC c (.slice a1 m1 k1) (.slice a2 m2 k2))).alloc (boxE x.k x.j x.v x.t x.c)).alloc (boxC Cl.zero nil0 nil0)).heap[w.heap.size + 1 + 1]? = some (boxC Cl.zero nil0 nil0)) := by
  have := heap_new ((w.alloc (boxC c (.slice a1 m1 k1) (.slice a2 m2 k2))).alloc (boxE x.k x.j x.v x.t x.c)) (boxC Cl.zero nil0 nil0)
  rw [World.size_alloc, World.size_alloc] at this
  exact this
 have kc := cl_check c (.slice a1 m1 k1) (.slice a2 m2 k2) _ (bkAt_later hb HB0.out)
 rw [hck] at kc
 have HK : Aside (BkAt w (.slice a1 m1 k1) (.slice a2 m2 k2) c) := hb
 clear hb hck
 go_enter Tryz.func179, Tryz.ntmps179
 go_wp2_with fail
 refine kc.mono ?_
 rintro r w1 ⟨rfl, hb1⟩
 have HX1 := hv HX0 hb1
 have HE1 := hv HE0 hb1
 have HR1 := hv HR0 hb1
 have HB1 := sb HB0 hb1
 clear hb1 HB0 HX0 HE0 HR0
 clear kc
 have z := cb HX1
 have zr := cb HR1
 have fzr := cf HR1
 go_wp2
 refine ret_st (p := 4) (q := 5) w1 (w.heap.size + 1 + 1) (Cl.zero) nil0 nil0 (o := Cl.zero) (u1 := nil0) (u2 := nil0) Tryz.results179 rfl rfl rfl HR1.out rfl ?_
 exact ⟨rfl, st12_below HB1.out (by omega) _ _ _⟩
set_option maxHeartbeats 4000000 in
set_option maxRecDepth 100000 in
theorem zy_app (c : Cl) (a1 a2 : Option Addr) (m1 k1 m2 k2 : Nat) (x : En) (w : World) (hb : BkAt w (.slice a1 m1 k1) (.slice a2 m2 k2) c) (hck : c.ck = 0) (hn : (c.n == 60) = false) (J : List Jb) (Q : List Rg) (d : Int) (hA : app c.js c.rs x = ((J, Q), d)) (hz : (d != 0) = true) :
  AnsX 179 #[c.val (.slice a1 m1 k1) (.slice a2 m2 k2), x.val] w (Cl.zero, d) nil0 nil0 := by
 have HB0 : Aside (Below w.heap.size w (((w.alloc (boxC c (.slice a1 m1 k1) (.slice a2 m2 k2))).alloc (boxE x.k x.j x.v x.t x.c)).alloc (boxC Cl.zero nil0 nil0))) := grew (grew (grew (Below.refl _ _) _) _) _
 have HX0 : Aside ((((w.alloc (boxC c (.slice a1 m1 k1) (.slice a2 m2 k2))).alloc (boxE x.k x.j x.v x.t x.c)).alloc (boxC Cl.zero nil0 nil0)).heap[w.heap.size]? = some (boxC c (.slice a1 m1 k1) (.slice a2 m2 k2))) := heap_old (heap_old (heap_new _ _) _) _
 have HE0 : Aside ((((w.alloc (boxC c (.slice a1 m1 k1) (.slice a2 m2 k2))).alloc (boxE x.k x.j x.v x.t x.c)).alloc (boxC Cl.zero nil0 nil0)).heap[w.heap.size + 1]? = some (boxE x.k x.j x.v x.t x.c)) := by
  have := heap_new (w.alloc (boxC c (.slice a1 m1 k1) (.slice a2 m2 k2))) (boxE x.k x.j x.v x.t x.c)
  rw [World.size_alloc] at this
  exact heap_old (this) _
 have HR0 : Aside ((((w.alloc (boxC c (.slice a1 m1 k1) (.slice a2 m2 k2))).alloc (boxE x.k x.j x.v x.t x.c)).alloc (boxC Cl.zero nil0 nil0)).heap[w.heap.size + 1 + 1]? = some (boxC Cl.zero nil0 nil0)) := by
  have := heap_new ((w.alloc (boxC c (.slice a1 m1 k1) (.slice a2 m2 k2))).alloc (boxE x.k x.j x.v x.t x.c)) (boxC Cl.zero nil0 nil0)
  rw [World.size_alloc, World.size_alloc] at this
  exact this
 have kc := cl_check c (.slice a1 m1 k1) (.slice a2 m2 k2) _ (bkAt_later hb HB0.out)
 have kp : ∀ W, Below w.heap.size w W → Calls Tryz.prog 205 #[.agg #[(.slice a1 m1 k1), (.slice a2 m2 k2)], x.val] W fun e w' => ∃ u1 u2, e = .returned (.tuple #[.agg #[u1, u2], .int .i64 d]) ∧ BkT w' u1 u2 (⟨c.p, c.d, c.e, c.a, c.l, (c.n + 1), J, Q⟩ : Cl) ∧ Below W.heap.size W w' := fun W hB =>
  (bk_applyT (.slice a1 m1 k1) (.slice a2 m2 k2) c.js c.rs x W (hb.1.later hB) (hb.2.later hB)).mono fun e w' ⟨u1, u2, g1, g2, g3, g4, _, g5, g6⟩ => ⟨u1, u2, by rw [g1, hA], by rw [hA] at g2 g3; exact ⟨⟨g2, g3⟩, g5, g6⟩, g4⟩
 clear hA
 rw [hck] at kc
 have HK : Aside (BkAt w (.slice a1 m1 k1) (.slice a2 m2 k2) c) := hb
 clear hb hck
 go_enter Tryz.func179, Tryz.ntmps179
 go_wp2_with fail
 refine kc.mono ?_
 rintro r w1 ⟨rfl, hb1⟩
 have HX1 := hv HX0 hb1
 have HE1 := hv HE0 hb1
 have HR1 := hv HR0 hb1
 have HB1 := sb HB0 hb1
 clear hb1 HB0 HX0 HE0 HR0
 clear kc
 have z := cb HX1
 have ze := cb HE1
 go_wp2_with fail
 refine (kp w1 HB1.out).mono ?_
 rintro r w2 ⟨u1, u2, rfl, hT2, hb2⟩
 have HX2 := hv HX1 hb2
 have HR2 := hv HR1 hb2
 have HB2 := sb HB1 hb2
 have HT2 : Aside (BkT w2 u1 u2 (⟨c.p, c.d, c.e, c.a, c.l, (c.n + 1), J, Q⟩ : Cl)) := hT2
 obtain ⟨s1, o1, s2, o2, rfl, rfl⟩ := bk_slices hT2.1.1 hT2.1.2
 clear hb2 kp HB1 HR1 HX1 hT2
 obtain ⟨n1, hn1⟩ : ∃ n, Hid (J.length = n) := ⟨_, rfl⟩
 obtain ⟨n2, hn2⟩ : ∃ n, Hid (Q.length = n) := ⟨_, rfl⟩
 rw [hn1.out, hn2.out] at HT2 ⊢
 clear z ze
 go_upto_region 7 with fail
 have HX3 : Aside ((w2.alloc (boxB (.slice s1 n1 o1) (.slice s2 n2 o2))).heap[w.heap.size]? = some (boxC c (.slice a1 m1 k1) (.slice a2 m2 k2))) := heap_old HX2.out _
 have HR3 : Aside ((w2.alloc (boxB (.slice s1 n1 o1) (.slice s2 n2 o2))).heap[w.heap.size + 1 + 1]? = some (boxC Cl.zero nil0 nil0)) := heap_old HR2.out _
 have HB3 : Aside (Below w.heap.size w (w2.alloc (boxB (.slice s1 n1 o1) (.slice s2 n2 o2)))) := grew HB2.out _
 have HT3 : Aside _ := bkT_later HT2.out (grew (Below.refl _ _) (boxB (.slice s1 n1 o1) (.slice s2 n2 o2)))
 have HK3 : Aside ((w2.alloc (boxB (.slice s1 n1 o1) (.slice s2 n2 o2))).heap[w2.heap.size]? = some (boxB (.slice s1 n1 o1) (.slice s2 n2 o2))) := heap_new _ _
 have hne : w2.heap.size ≠ w.heap.size := by have := heap_lt HX2.out; omega
 clear HX2 HR2 HB2 HT2
 generalize (w2.alloc (boxB (.slice s1 n1 o1) (.slice s2 n2 o2))) = w3 at *
 have zr := cb HR3
 have fzr := cf HR3
 go_wp2
 refine ret_st (p := 4) (q := 5) w3 (w.heap.size + 1 + 1) (Cl.zero) nil0 nil0 (o := Cl.zero) (u1 := nil0) (u2 := nil0) Tryz.results179 rfl rfl rfl HR3.out rfl ?_
 exact ⟨rfl, st12_below HB3.out (by omega) _ _ _⟩
set_option maxHeartbeats 4000000 in
set_option maxRecDepth 100000 in
theorem zy_ok (c : Cl) (a1 a2 : Option Addr) (m1 k1 m2 k2 : Nat) (x : En) (w : World) (hb : BkAt w (.slice a1 m1 k1) (.slice a2 m2 k2) c) (hck : c.ck = 0) (hn : (c.n == 60) = false) (d : Int) (hd : d = 0) (J : List Jb) (Q : List Rg) (hA : app c.js c.rs x = ((J, Q), d)) (hw : IntKind.i64.wrap (c.n + 1) = c.n + 1) :
  AnsT 179 #[c.val (.slice a1 m1 k1) (.slice a2 m2 k2), x.val] w ((⟨c.p, c.d, c.e, c.a, c.l, (c.n + 1), J, Q⟩ : Cl), 0) := by
 have HB0 : Aside (Below w.heap.size w (((w.alloc (boxC c (.slice a1 m1 k1) (.slice a2 m2 k2))).alloc (boxE x.k x.j x.v x.t x.c)).alloc (boxC Cl.zero nil0 nil0))) := grew (grew (grew (Below.refl _ _) _) _) _
 have HX0 : Aside ((((w.alloc (boxC c (.slice a1 m1 k1) (.slice a2 m2 k2))).alloc (boxE x.k x.j x.v x.t x.c)).alloc (boxC Cl.zero nil0 nil0)).heap[w.heap.size]? = some (boxC c (.slice a1 m1 k1) (.slice a2 m2 k2))) := heap_old (heap_old (heap_new _ _) _) _
 have HE0 : Aside ((((w.alloc (boxC c (.slice a1 m1 k1) (.slice a2 m2 k2))).alloc (boxE x.k x.j x.v x.t x.c)).alloc (boxC Cl.zero nil0 nil0)).heap[w.heap.size + 1]? = some (boxE x.k x.j x.v x.t x.c)) := by
  have := heap_new (w.alloc (boxC c (.slice a1 m1 k1) (.slice a2 m2 k2))) (boxE x.k x.j x.v x.t x.c)
  rw [World.size_alloc] at this
  exact heap_old (this) _
 have HR0 : Aside ((((w.alloc (boxC c (.slice a1 m1 k1) (.slice a2 m2 k2))).alloc (boxE x.k x.j x.v x.t x.c)).alloc (boxC Cl.zero nil0 nil0)).heap[w.heap.size + 1 + 1]? = some (boxC Cl.zero nil0 nil0)) := by
  have := heap_new ((w.alloc (boxC c (.slice a1 m1 k1) (.slice a2 m2 k2))).alloc (boxE x.k x.j x.v x.t x.c)) (boxC Cl.zero nil0 nil0)
  rw [World.size_alloc, World.size_alloc] at this
  exact this
 have kc := cl_check c (.slice a1 m1 k1) (.slice a2 m2 k2) _ (bkAt_later hb HB0.out)
 have kp : ∀ W, Below w.heap.size w W → Calls Tryz.prog 205 #[.agg #[(.slice a1 m1 k1), (.slice a2 m2 k2)], x.val] W fun e w' => ∃ u1 u2, e = .returned (.tuple #[.agg #[u1, u2], .int .i64 d]) ∧ BkT w' u1 u2 (⟨c.p, c.d, c.e, c.a, c.l, (c.n + 1), J, Q⟩ : Cl) ∧ Below W.heap.size W w' := fun W hB =>
  (bk_applyT (.slice a1 m1 k1) (.slice a2 m2 k2) c.js c.rs x W (hb.1.later hB) (hb.2.later hB)).mono fun e w' ⟨u1, u2, g1, g2, g3, g4, _, g5, g6⟩ => ⟨u1, u2, by rw [g1, hA], by rw [hA] at g2 g3; exact ⟨⟨g2, g3⟩, g5, g6⟩, g4⟩
 clear hA
 subst hd
 rw [hck] at kc
 have HK : Aside (BkAt w (.slice a1 m1 k1) (.slice a2 m2 k2) c) := hb
 clear hb hck
 go_enter Tryz.func179, Tryz.ntmps179
 go_wp2_with fail
 refine kc.mono ?_
 rintro r w1 ⟨rfl, hb1⟩
 have HX1 := hv HX0 hb1
 have HE1 := hv HE0 hb1
 have HR1 := hv HR0 hb1
 have HB1 := sb HB0 hb1
 clear hb1 HB0 HX0 HE0 HR0
 clear kc
 have z := cb HX1
 have ze := cb HE1
 go_wp2_with fail
 refine (kp w1 HB1.out).mono ?_
 rintro r w2 ⟨u1, u2, rfl, hT2, hb2⟩
 have HX2 := hv HX1 hb2
 have HR2 := hv HR1 hb2
 have HB2 := sb HB1 hb2
 have HT2 : Aside (BkT w2 u1 u2 (⟨c.p, c.d, c.e, c.a, c.l, (c.n + 1), J, Q⟩ : Cl)) := hT2
 obtain ⟨s1, o1, s2, o2, rfl, rfl⟩ := bk_slices hT2.1.1 hT2.1.2
 clear hb2 kp HB1 HR1 HX1 hT2
 obtain ⟨n1, hn1⟩ : ∃ n, Hid (J.length = n) := ⟨_, rfl⟩
 obtain ⟨n2, hn2⟩ : ∃ n, Hid (Q.length = n) := ⟨_, rfl⟩
 rw [hn1.out, hn2.out] at HT2 ⊢
 clear z ze
 go_upto_region 7 with fail
 have HX3 : Aside ((w2.alloc (boxB (.slice s1 n1 o1) (.slice s2 n2 o2))).heap[w.heap.size]? = some (boxC c (.slice a1 m1 k1) (.slice a2 m2 k2))) := heap_old HX2.out _
 have HR3 : Aside ((w2.alloc (boxB (.slice s1 n1 o1) (.slice s2 n2 o2))).heap[w.heap.size + 1 + 1]? = some (boxC Cl.zero nil0 nil0)) := heap_old HR2.out _
 have HB3 : Aside (Below w.heap.size w (w2.alloc (boxB (.slice s1 n1 o1) (.slice s2 n2 o2)))) := grew HB2.out _
 have HT3 : Aside _ := bkT_later HT2.out (grew (Below.refl _ _) (boxB (.slice s1 n1 o1) (.slice s2 n2 o2)))
 have HK3 : Aside ((w2.alloc (boxB (.slice s1 n1 o1) (.slice s2 n2 o2))).heap[w2.heap.size]? = some (boxB (.slice s1 n1 o1) (.slice s2 n2 o2))) := heap_new _ _
 have hne : w2.heap.size ≠ w.heap.size := by have := heap_lt HX2.out; omega
 clear HX2 HR2 HB2 HT2
 generalize (w2.alloc (boxB (.slice s1 n1 o1) (.slice s2 n2 o2))) = w3 at *
 have z := cb HX3
 have fz := cf HX3
 have zb := cb HK3
 go_upto_region 11 with fail
 clear z fz zb
 have HT4 : Aside _ := (bkT_both (bkT_both (bkT_both ⟨isC_of HX3.out, HT3.out⟩ 10 (.slice s1 n1 o1)) 11 (.slice s2 n2 o2)) 9 (.int .i64 (c.n + 1))).2
 have g0 := Joins.block_setCell HX3.out (i := 10) (.slice s1 n1 o1)
 have g1 := Joins.block_setCell g0 (i := 11) (.slice s2 n2 o2)
 have g2 := Joins.block_setCell g1 (i := 9) (.int .i64 (c.n + 1))
 simp only [List.setIfInBounds_toArray, List.set_cons_zero, List.set_cons_succ] at g2
 have hrs : w.heap.size + 1 + 1 ≠ w.heap.size := by omega
 have HX4 : Aside ((((w3.setCell ⟨w.heap.size, 10, none⟩ (.slice s1 n1 o1)).setCell ⟨w.heap.size, 11, none⟩ (.slice s2 n2 o2)).setCell ⟨w.heap.size, 9, none⟩ (.int .i64 (c.n + 1))).heap[w.heap.size]? = some (boxC (⟨c.p, c.d, c.e, c.a, c.l, (c.n + 1), J, Q⟩ : Cl) (.slice s1 n1 o1) (.slice s2 n2 o2))) := g2
 have HR4 : Aside ((((w3.setCell ⟨w.heap.size, 10, none⟩ (.slice s1 n1 o1)).setCell ⟨w.heap.size, 11, none⟩ (.slice s2 n2 o2)).setCell ⟨w.heap.size, 9, none⟩ (.int .i64 (c.n + 1))).heap[w.heap.size + 1 + 1]? = some (boxC Cl.zero nil0 nil0)) := by
  rw [Aside, Below.heap_setCell _ _ _ _ (by exact hrs), Below.heap_setCell _ _ _ _ (by exact hrs), Below.heap_setCell _ _ _ _ (by exact hrs)]
  exact HR3.out
 have HB4 : Aside (Below w.heap.size w (((w3.setCell ⟨w.heap.size, 10, none⟩ (.slice s1 n1 o1)).setCell ⟨w.heap.size, 11, none⟩ (.slice s2 n2 o2)).setCell ⟨w.heap.size, 9, none⟩ (.int .i64 (c.n + 1)))) := (((HB3.out).setCell (p := ⟨w.heap.size, 10, none⟩) (Nat.le_refl _) _).setCell (p := ⟨w.heap.size, 11, none⟩) (Nat.le_refl _) _).setCell (p := ⟨w.heap.size, 9, none⟩) (Nat.le_refl _) _
 clear g0 g1 g2 HX3 HR3 HB3
 clear HT3
 generalize (((w3.setCell ⟨w.heap.size, 10, none⟩ (.slice s1 n1 o1)).setCell ⟨w.heap.size, 11, none⟩ (.slice s2 n2 o2)).setCell ⟨w.heap.size, 9, none⟩ (.int .i64 (c.n + 1))) = w4 at *
 have z := cb HX4
 have zr := cb HR4
 have fzr := cf HR4
 go_wp2
 refine ret_st (p := 4) (q := 5) w4 (w.heap.size + 1 + 1) ((⟨c.p, c.d, c.e, c.a, c.l, (c.n + 1), J, Q⟩ : Cl)) (.slice s1 n1 o1) (.slice s2 n2 o2) (o := Cl.zero) (u1 := nil0) (u2 := nil0) Tryz.results179 rfl rfl rfl HR4.out rfl ?_
 exact ⟨(.slice s1 n1 o1), (.slice s2 n2 o2), rfl, bkT_st12 ⟨_, HR4.out⟩ HT4.out _ _ _, st12_below HB4.out (by omega) _ _ _⟩
theorem cl_play (c : Cl) (x : En) (v1 v2 : Value) (w : World) (hb : BkAt w v1 v2 c) : AnsT 179 #[c.val v1 v2, x.val] w (playOf c x) := by
 obtain ⟨a1, k1, a2, k2, rfl, rfl⟩ := bk_slices hb.1 hb.2
 unfold playOf
 by_cases hc : c.ck = 0
 ·rw [if_neg (by simpa using hc)]
  by_cases hn : c.n = 60
  ·rw [if_pos hn]
   exact ansT_zero <| zy_full c a1 a2 _ k1 _ k2 x w hb hc (by rw [hn]; rfl)
  ·have hnb : (c.n == 60) = false := by rw [beq_eq_false_iff_ne]; exact hn
   rw [if_neg hn]
   by_cases hd : (app c.js c.rs x).2 = 0
   ·rw [if_neg (by simpa using hd)]
    have hg := (Cl.good (Cl.ck_zero.1 hc).1).2.2.2.2
    exact zy_ok c a1 a2 _ k1 _ k2 x w hb hc hnb _ hd _ _ rfl (by rw [IntKind.wrap_i64]; omega)
   ·rw [if_pos hd]
    exact ansT_zero <| zy_app c a1 a2 _ k1 _ k2 x w hb hc hnb _ _ _ rfl (by rw [bne_iff_ne]; exact hd)
 ·rw [if_pos hc]
  exact ansT_zero <| zy_ck c a1 a2 _ k1 _ k2 x w hb _ rfl (by rw [bne_iff_ne]; exact hc)
theorem into_few (x : Jb) : ∀ l : List Jb, (into x l).length = l.length + 1
 | [] => rfl
 | y :: s => by rw [into]; split <;> simp [into_few x s]
theorem dueOf_few (t : Int) : ∀ js : List Jb, (dueOf js t).length ≤ js.length
 | [] => by simp [dueOf]
 | x :: r => by
  have ih := dueOf_few t r
  rw [dueOf]
  split
  ·rw [into_few]; simp; omega
  ·simp; omega
theorem due_find {js : List Jb} {rs : List Rg} (hok : Ok js rs) (t j : Int) :
  (idx (fun y => y.i == j) (dueOf js t) = -1 ∧ ∀ z, tab js j = some z → t < z.n) ∨
   ∃ (k : Nat) (z : Jb), idx (fun y => y.i == j) (dueOf js t) = (k : Nat) ∧ k < (dueOf js t).length ∧ (dueOf js t)[k]? = some z ∧ tab js j = some z ∧ z.n ≤ t ∧ z.i = j ∧ z ∈ js := by
 rcases idx_ways (fun y : Jb => y.i == j) (dueOf js t) with ⟨h, hall⟩ | ⟨k, z, h, hk, hz, hp, _⟩
 ·refine Or.inl ⟨h, fun z hz => ?_⟩
  have hid := tab_id hz
  by_cases hn : z.n ≤ t
  ·have := hall z ((dueOf_mem t z js).2 ⟨hid.2, hn⟩)
   rw [hid.1] at this
   simp at this
  ·omega
 ·have hm := (dueOf_mem t z js).1 (List.mem_of_getElem? hz)
  have hi : z.i = j := by simpa using hp
  refine Or.inr ⟨k, z, h, hk, hz, ?_, hm.2, hi, hm.1⟩
  rw [← hi]
  exact tab_mem hok.srt z hm.1
set_option maxHeartbeats 1000000 in
theorem ring_pred (id : Int) (B : Nat) (w : World) (hB : B < w.heap.size) (hc : w.cell? ⟨B, 0, none⟩ = some (.int .i64 id)) (W : World) (x : Jb) (hb : Below w.heap.size w W) :
  Calls Tryz.prog 176 (#[x.val] ++ #[.pointer (some ⟨B, 0, none⟩)]) W fun e w' => e = .returned (.bool (x.i == id)) ∧ Below w.heap.size w w' := by
 have hc' : W.cell? ⟨B, 0, none⟩ = some (.int .i64 id) := (hb.cell (p := ⟨B, 0, none⟩) hB).trans hc
 have hBW : B < W.heap.size := Nat.lt_of_lt_of_le hB hb.size
 have hne : B ≠ W.heap.size := by omega
 show Calls Tryz.prog 176 #[x.val, .pointer (some ⟨B, 0, none⟩)] W _
 go_enter Tryz.func176, Tryz.ntmps176
 go_wp2
 all_goals (go_ret; exact ⟨by simp_all, hb.alloc hb.size _⟩)
theorem row_append : ∀ {a b : List Jb}, Row a → Row b → (∀ x, x ∈ a → ∀ y, y ∈ b → x.ahead y) → Row (a ++ b)
 | [], _, _, hb, _ => hb
 | x :: r, b, ha, hb, h => ⟨fun y hy => by
   rcases List.mem_append.1 hy with hy | hy
   ·exact ha.1 y hy
   ·exact h x (by simp) y hy, row_append ha.2 hb (fun z hz => h z (List.mem_cons_of_mem _ hz))⟩
def dueErr (js : List Jb) (rs : List Rg) (t : Int) : Int := if ckBook js rs ≠ 0 then ckBook js rs else if t < 0 ∨ 100000 < t then 3 else 0
def cJ : List Jb := [⟨1, 7, 3⟩, ⟨2, 5, 2⟩, ⟨4, 1, 12⟩]
end Go.Proofs.YtmoaobfmopimlafGreatDoor
