/- For the law. -/
import Derived.Test.YtmoaobfmopimlafGreatDoorM49
set_option linter.unusedSimpArgs false
set_option linter.unusedVariables false
namespace Go.Proofs.YtmoaobfmopimlafGreatDoor
open Go.RowKit
set_option maxHeartbeats 4000000 in
set_option maxRecDepth 100000 in
theorem w_want_ring (c : Cl) (a1 a2 : Option Addr) (m1 k1 m2 k2 : Nat) (x : En) (w : World) (hb : BkAt w (.slice a1 m1 k1) (.slice a2 m2 k2) c) (hx : (x.k == 3) = true) :
  AnsT 137 #[c.val (.slice a1 m1 k1) (.slice a2 m2 k2), x.val] w (Cl.zero, 4) := by
 have B0 : Aside (Below w.heap.size w (((w.alloc (boxC c (.slice a1 m1 k1) (.slice a2 m2 k2))).alloc (boxE x.k x.j x.v x.t x.c)).alloc (boxZ))) := grew (grew (grew (Below.refl _ _) _) _) _
 have h0_0 : Aside ((((w.alloc (boxC c (.slice a1 m1 k1) (.slice a2 m2 k2))).alloc (boxE x.k x.j x.v x.t x.c)).alloc (boxZ)).heap[w.heap.size]? = some (boxC c (.slice a1 m1 k1) (.slice a2 m2 k2))) := by
  have := heap_new w (boxC c (.slice a1 m1 k1) (.slice a2 m2 k2))
  exact heap_old (heap_old (this) _) _
 have h1_0 : Aside ((((w.alloc (boxC c (.slice a1 m1 k1) (.slice a2 m2 k2))).alloc (boxE x.k x.j x.v x.t x.c)).alloc (boxZ)).heap[w.heap.size + 1]? = some (boxE x.k x.j x.v x.t x.c)) := by
  have := heap_new (w.alloc (boxC c (.slice a1 m1 k1) (.slice a2 m2 k2))) (boxE x.k x.j x.v x.t x.c)
  rw [World.size_alloc] at this
  exact heap_old (this) _
 have h2_0 : Aside ((((w.alloc (boxC c (.slice a1 m1 k1) (.slice a2 m2 k2))).alloc (boxE x.k x.j x.v x.t x.c)).alloc (boxZ)).heap[w.heap.size + 1 + 1]? = some (boxZ)) := by
  have := heap_new ((w.alloc (boxC c (.slice a1 m1 k1) (.slice a2 m2 k2))).alloc (boxE x.k x.j x.v x.t x.c)) (boxZ)
  rw [World.size_alloc, World.size_alloc] at this
  exact this
 have HK : Aside (BkAt (((w.alloc (boxC c (.slice a1 m1 k1) (.slice a2 m2 k2))).alloc (boxE x.k x.j x.v x.t x.c)).alloc (boxZ)) (.slice a1 m1 k1) (.slice a2 m2 k2) c) := bkAt_later hb B0.out
 clear hb
 go_enter Tryz.func137, Tryz.ntmps137
 go_upto_region 1 with fail
 generalize (((w.alloc (boxC c (.slice a1 m1 k1) (.slice a2 m2 k2))).alloc (boxE x.k x.j x.v x.t x.c)).alloc (boxZ)) = w0 at *
 have z0 := cb h0_0
 have z1 := cb h1_0
 clear HK z0
 have z2 := cb h2_0
 have fz2 := cf h2_0
 go_wp2
 refine ret_st (p := 4) (q := 5) w0 (w.heap.size + 1 + 1) Cl.zero nil0 nil0 (o := Cl.zero) (u1 := nil0) (u2 := nil0) Tryz.results137 rfl rfl rfl h2_0.out rfl ?_
 exact ⟨nil0, nil0, rfl, bkT_nil _ rfl rfl, st12_below B0.out (by omega) _ _ _⟩
set_option maxHeartbeats 4000000 in
set_option maxRecDepth 100000 in
theorem w_want_other (c : Cl) (a1 a2 : Option Addr) (m1 k1 m2 k2 : Nat) (x : En) (w : World) (hb : BkAt w (.slice a1 m1 k1) (.slice a2 m2 k2) c) (hx : (x.k == 3) = false) :
  AnsT 137 #[c.val (.slice a1 m1 k1) (.slice a2 m2 k2), x.val] w (wantOf c x) := by
 obtain ⟨⟨R, d⟩, hq⟩ : ∃ q, wantOf c x = q := ⟨_, rfl⟩
 rw [hq]
 have B0 : Aside (Below w.heap.size w (((w.alloc (boxC c (.slice a1 m1 k1) (.slice a2 m2 k2))).alloc (boxE x.k x.j x.v x.t x.c)).alloc (boxZ))) := grew (grew (grew (Below.refl _ _) _) _) _
 have h0_0 : Aside ((((w.alloc (boxC c (.slice a1 m1 k1) (.slice a2 m2 k2))).alloc (boxE x.k x.j x.v x.t x.c)).alloc (boxZ)).heap[w.heap.size]? = some (boxC c (.slice a1 m1 k1) (.slice a2 m2 k2))) := by
  have := heap_new w (boxC c (.slice a1 m1 k1) (.slice a2 m2 k2))
  exact heap_old (heap_old (this) _) _
 have h1_0 : Aside ((((w.alloc (boxC c (.slice a1 m1 k1) (.slice a2 m2 k2))).alloc (boxE x.k x.j x.v x.t x.c)).alloc (boxZ)).heap[w.heap.size + 1]? = some (boxE x.k x.j x.v x.t x.c)) := by
  have := heap_new (w.alloc (boxC c (.slice a1 m1 k1) (.slice a2 m2 k2))) (boxE x.k x.j x.v x.t x.c)
  rw [World.size_alloc] at this
  exact heap_old (this) _
 have h2_0 : Aside ((((w.alloc (boxC c (.slice a1 m1 k1) (.slice a2 m2 k2))).alloc (boxE x.k x.j x.v x.t x.c)).alloc (boxZ)).heap[w.heap.size + 1 + 1]? = some (boxZ)) := by
  have := heap_new ((w.alloc (boxC c (.slice a1 m1 k1) (.slice a2 m2 k2))).alloc (boxE x.k x.j x.v x.t x.c)) (boxZ)
  rw [World.size_alloc, World.size_alloc] at this
  exact this
 have kc := cl_want c x _ _ (((w.alloc (boxC c (.slice a1 m1 k1) (.slice a2 m2 k2))).alloc (boxE x.k x.j x.v x.t x.c)).alloc (boxZ)) (bkAt_later hb B0.out)
 rw [hq] at kc
 clear hb hq
 go_enter Tryz.func137, Tryz.ntmps137
 go_upto_region 1 with fail
 generalize (((w.alloc (boxC c (.slice a1 m1 k1) (.slice a2 m2 k2))).alloc (boxE x.k x.j x.v x.t x.c)).alloc (boxZ)) = w0 at *
 have z0 := cb h0_0
 have z1 := cb h1_0
 go_wp2_with fail
 refine (kc).mono ?_
 rintro e w1 ⟨u1, u2, rfl, hT, hb1⟩
 have hR := hv h2_0 hb1
 have hB := sb B0 hb1
 have HT : Aside (BkT w1 u1 u2 R) := hT
 obtain ⟨s1, o1, s2, o2, rfl, rfl⟩ := bk_slices hT.1.1 hT.1.2
 clear hb1 B0 hT h0_0 h1_0 h2_0 z0 z1 kc
 obtain ⟨n1, hn1⟩ : ∃ n, Hid ((R).js.length = n) := ⟨_, rfl⟩
 obtain ⟨n2, hn2⟩ : ∃ n, Hid ((R).rs.length = n) := ⟨_, rfl⟩
 rw [hn1.out, hn2.out] at HT ⊢
 have zr := cb hR
 have fzr := cf hR
 go_wp2
 refine ret_st (p := 4) (q := 5) w1 (w.heap.size + 1 + 1) (R) (.slice s1 n1 o1) (.slice s2 n2 o2) (o := Cl.zero) (u1 := nil0) (u2 := nil0) Tryz.results137 rfl rfl rfl hR.out rfl ?_
 exact ⟨(.slice s1 n1 o1), (.slice s2 n2 o2), rfl, bkT_st12 ⟨_, hR.out⟩ HT.out _ _ _, st12_below hB.out (by omega) _ _ _⟩
set_option maxHeartbeats 4000000 in
set_option maxRecDepth 100000 in
theorem w_place_full (c : Cl) (a1 a2 : Option Addr) (m1 k1 m2 k2 : Nat) (a : Int) (w : World) (_ : BkAt w (.slice a1 m1 k1) (.slice a2 m2 k2) c) (hx : (a == 60) = true) :
  AnsT 139 #[c.val (.slice a1 m1 k1) (.slice a2 m2 k2), .int .i64 a] w (Cl.zero, 2) := by
 have B0 : Aside (Below w.heap.size w ((w.alloc (boxC c (.slice a1 m1 k1) (.slice a2 m2 k2))).alloc (boxZ))) := grew (grew (Below.refl _ _) _) _
 have h0_0 : Aside (((w.alloc (boxC c (.slice a1 m1 k1) (.slice a2 m2 k2))).alloc (boxZ)).heap[w.heap.size]? = some (boxC c (.slice a1 m1 k1) (.slice a2 m2 k2))) := by
  have := heap_new w (boxC c (.slice a1 m1 k1) (.slice a2 m2 k2))
  exact heap_old (this) _
 have h1_0 : Aside (((w.alloc (boxC c (.slice a1 m1 k1) (.slice a2 m2 k2))).alloc (boxZ)).heap[w.heap.size + 1]? = some (boxZ)) := by
  have := heap_new (w.alloc (boxC c (.slice a1 m1 k1) (.slice a2 m2 k2))) (boxZ)
  rw [World.size_alloc] at this
  exact this
 go_enter Tryz.func139, Tryz.ntmps139
 go_upto_region 1 with fail
 generalize ((w.alloc (boxC c (.slice a1 m1 k1) (.slice a2 m2 k2))).alloc (boxZ)) = w0 at *
 have z1 := cb h1_0
 have fz1 := cf h1_0
 go_wp2
 refine ret_st (p := 4) (q := 5) w0 (w.heap.size + 1) Cl.zero nil0 nil0 (o := Cl.zero) (u1 := nil0) (u2 := nil0) Tryz.results139 rfl rfl rfl h1_0.out rfl ?_
 exact ⟨nil0, nil0, rfl, bkT_nil _ rfl rfl, st12_below B0.out (by omega) _ _ _⟩
set_option maxHeartbeats 4000000 in
set_option maxRecDepth 100000 in
theorem w_place_other (c : Cl) (a1 a2 : Option Addr) (m1 k1 m2 k2 : Nat) (a : Int) (w : World) (hb : BkAt w (.slice a1 m1 k1) (.slice a2 m2 k2) c) (hx : (a == 60) = false) :
  AnsT 139 #[c.val (.slice a1 m1 k1) (.slice a2 m2 k2), .int .i64 a] w (placeOf 1 c a) := by
 obtain ⟨⟨R, d⟩, hq⟩ : ∃ q, placeOf 1 c a = q := ⟨_, rfl⟩
 rw [hq]
 have B0 : Aside (Below w.heap.size w ((w.alloc (boxC c (.slice a1 m1 k1) (.slice a2 m2 k2))).alloc (boxZ))) := grew (grew (Below.refl _ _) _) _
 have h0_0 : Aside (((w.alloc (boxC c (.slice a1 m1 k1) (.slice a2 m2 k2))).alloc (boxZ)).heap[w.heap.size]? = some (boxC c (.slice a1 m1 k1) (.slice a2 m2 k2))) := by
  have := heap_new w (boxC c (.slice a1 m1 k1) (.slice a2 m2 k2))
  exact heap_old (this) _
 have h1_0 : Aside (((w.alloc (boxC c (.slice a1 m1 k1) (.slice a2 m2 k2))).alloc (boxZ)).heap[w.heap.size + 1]? = some (boxZ)) := by
  have := heap_new (w.alloc (boxC c (.slice a1 m1 k1) (.slice a2 m2 k2))) (boxZ)
  rw [World.size_alloc] at this
  exact this
 have kc := cl_place c a _ _ ((w.alloc (boxC c (.slice a1 m1 k1) (.slice a2 m2 k2))).alloc (boxZ)) (bkAt_later hb B0.out)
 rw [hq] at kc
 clear hb hq
 go_enter Tryz.func139, Tryz.ntmps139
 go_upto_region 1 with fail
 generalize ((w.alloc (boxC c (.slice a1 m1 k1) (.slice a2 m2 k2))).alloc (boxZ)) = w0 at *
 have z0 := cb h0_0
 go_wp2_with fail
 refine (kc).mono ?_
 rintro e w1 ⟨u1, u2, rfl, hT, hb1⟩
 have hR := hv h1_0 hb1
 have hB := sb B0 hb1
 have HT : Aside (BkT w1 u1 u2 R) := hT
 obtain ⟨s1, o1, s2, o2, rfl, rfl⟩ := bk_slices hT.1.1 hT.1.2
 clear hb1 B0 hT h0_0 h1_0 z0 kc
 obtain ⟨n1, hn1⟩ : ∃ n, Hid ((R).js.length = n) := ⟨_, rfl⟩
 obtain ⟨n2, hn2⟩ : ∃ n, Hid ((R).rs.length = n) := ⟨_, rfl⟩
 rw [hn1.out, hn2.out] at HT ⊢
 have zr := cb hR
 have fzr := cf hR
 go_wp2
 refine ret_st (p := 4) (q := 5) w1 (w.heap.size + 1) (R) (.slice s1 n1 o1) (.slice s2 n2 o2) (o := Cl.zero) (u1 := nil0) (u2 := nil0) Tryz.results139 rfl rfl rfl hR.out rfl ?_
 exact ⟨(.slice s1 n1 o1), (.slice s2 n2 o2), rfl, bkT_st12 ⟨_, hR.out⟩ HT.out _ _ _, st12_below hB.out (by omega) _ _ _⟩
theorem w_want (c : Cl) (x : En) (v1 v2 : Value) (w : World) (hb : BkAt w v1 v2 c) : AnsT 137 #[c.val v1 v2, x.val] w (if x.k = 3 then (Cl.zero, 4) else wantOf c x) := by
 obtain ⟨a1, k1, a2, k2, rfl, rfl⟩ := bk_slices hb.1 hb.2
 by_cases h : x.k = 3
 ·rw [if_pos h]
  exact w_want_ring c a1 a2 _ k1 _ k2 x w hb (by rw [h]; rfl)
 ·rw [if_neg h]
  exact w_want_other c a1 a2 _ k1 _ k2 x w hb (by rw [beq_eq_false_iff_ne]; exact h)
theorem w_place (c : Cl) (a : Int) (v1 v2 : Value) (w : World) (hb : BkAt w v1 v2 c) : AnsT 139 #[c.val v1 v2, .int .i64 a] w (if a = 60 then (Cl.zero, 2) else placeOf 1 c a) := by
 obtain ⟨a1, k1, a2, k2, rfl, rfl⟩ := bk_slices hb.1 hb.2
 by_cases h : a = 60
 ·rw [if_pos h]
  exact w_place_full c a1 a2 _ k1 _ k2 a w hb (by rw [h]; rfl)
 ·rw [if_neg h]
  exact w_place_other c a1 a2 _ k1 _ k2 a w hb (by rw [beq_eq_false_iff_ne]; exact h)
end Go.Proofs.YtmoaobfmopimlafGreatDoor
