/- For the law. -/
import Derived.Test.YtmoaobfmopimlafGreatDoorM48
set_option linter.unusedSimpArgs false
set_option linter.unusedVariables false
namespace Go.Proofs.YtmoaobfmopimlafGreatDoor
open Go.RowKit
set_option maxHeartbeats 4000000 in
set_option maxRecDepth 100000 in
theorem zg_ck (c : Cl) (a1 a2 : Option Addr) (m1 k1 m2 k2 : Nat) (me j t : Int) (w : World) (hb : BkAt w (.slice a1 m1 k1) (.slice a2 m2 k2) c) (d : Int) (hck : restErr c = d) (hz : (d != 0) = true) :
  AnsX 138 #[c.val (.slice a1 m1 k1) (.slice a2 m2 k2), .int .i64 me, .int .i64 j, .int .i64 t] w (Cl.zero, d) nil0 nil0 := by
 have HB0 : Aside (Below w.heap.size w (((w.alloc (boxC c (.slice a1 m1 k1) (.slice a2 m2 k2))).alloc (.cells #[.int .i64 j] 3)).alloc (boxC Cl.zero nil0 nil0))) := grew (grew (grew (Below.refl _ _) _) _) _
 have HX0 : Aside ((((w.alloc (boxC c (.slice a1 m1 k1) (.slice a2 m2 k2))).alloc (.cells #[.int .i64 j] 3)).alloc (boxC Cl.zero nil0 nil0)).heap[w.heap.size]? = some (boxC c (.slice a1 m1 k1) (.slice a2 m2 k2))) := heap_old (heap_old (heap_new _ _) _) _
 have HJ0 : Aside ((((w.alloc (boxC c (.slice a1 m1 k1) (.slice a2 m2 k2))).alloc (.cells #[.int .i64 j] 3)).alloc (boxC Cl.zero nil0 nil0)).heap[w.heap.size + 1]? = some (.cells #[.int .i64 j] 3)) := by
  have := heap_new (w.alloc (boxC c (.slice a1 m1 k1) (.slice a2 m2 k2))) (.cells #[.int .i64 j] 3)
  rw [World.size_alloc] at this
  exact heap_old (this) _
 have HR0 : Aside ((((w.alloc (boxC c (.slice a1 m1 k1) (.slice a2 m2 k2))).alloc (.cells #[.int .i64 j] 3)).alloc (boxC Cl.zero nil0 nil0)).heap[w.heap.size + 1 + 1]? = some (boxC Cl.zero nil0 nil0)) := by
  have := heap_new ((w.alloc (boxC c (.slice a1 m1 k1) (.slice a2 m2 k2))).alloc (.cells #[.int .i64 j] 3)) (boxC Cl.zero nil0 nil0)
  rw [World.size_alloc, World.size_alloc] at this
  exact this
 have kc := cl_rest c (.slice a1 m1 k1) (.slice a2 m2 k2) _ (bkAt_later hb HB0.out)
 rw [hck] at kc
 have HK : Aside (BkAt w (.slice a1 m1 k1) (.slice a2 m2 k2) c) := hb
 clear hb hck
 go_enter Tryz.func138, Tryz.ntmps138
 go_wp2_with fail
 refine kc.mono ?_
 rintro r w1 ⟨rfl, hb1⟩
 have HX1 := hv HX0 hb1
 have HJ1 := hv HJ0 hb1
 have HR1 := hv HR0 hb1
 have HB1 := sb HB0 hb1
 clear hb1 HB0 HX0 HJ0 HR0
 clear kc
 have zr := cb HR1
 have fzr := cf HR1
 go_wp2
 refine ret_st (p := 8) (q := 9) w1 (w.heap.size + 1 + 1) (Cl.zero) nil0 nil0 (o := Cl.zero) (u1 := nil0) (u2 := nil0) Tryz.results138 rfl rfl rfl HR1.out rfl ?_
 exact ⟨rfl, st12_below HB1.out (by omega) _ _ _⟩
set_option maxHeartbeats 4000000 in
set_option maxRecDepth 100000 in
theorem zg_due (c : Cl) (a1 a2 : Option Addr) (m1 k1 m2 k2 : Nat) (me j t : Int) (w : World) (hb : BkAt w (.slice a1 m1 k1) (.slice a2 m2 k2) c) (hck : restErr c = 0) (q : Int) (hd : dueErr c.js c.rs t = q) (hz : (q != 0) = true) :
  AnsX 138 #[c.val (.slice a1 m1 k1) (.slice a2 m2 k2), .int .i64 me, .int .i64 j, .int .i64 t] w (Cl.zero, q) nil0 nil0 := by
 have HB0 : Aside (Below w.heap.size w (((w.alloc (boxC c (.slice a1 m1 k1) (.slice a2 m2 k2))).alloc (.cells #[.int .i64 j] 3)).alloc (boxC Cl.zero nil0 nil0))) := grew (grew (grew (Below.refl _ _) _) _) _
 have HX0 : Aside ((((w.alloc (boxC c (.slice a1 m1 k1) (.slice a2 m2 k2))).alloc (.cells #[.int .i64 j] 3)).alloc (boxC Cl.zero nil0 nil0)).heap[w.heap.size]? = some (boxC c (.slice a1 m1 k1) (.slice a2 m2 k2))) := heap_old (heap_old (heap_new _ _) _) _
 have HJ0 : Aside ((((w.alloc (boxC c (.slice a1 m1 k1) (.slice a2 m2 k2))).alloc (.cells #[.int .i64 j] 3)).alloc (boxC Cl.zero nil0 nil0)).heap[w.heap.size + 1]? = some (.cells #[.int .i64 j] 3)) := by
  have := heap_new (w.alloc (boxC c (.slice a1 m1 k1) (.slice a2 m2 k2))) (.cells #[.int .i64 j] 3)
  rw [World.size_alloc] at this
  exact heap_old (this) _
 have HR0 : Aside ((((w.alloc (boxC c (.slice a1 m1 k1) (.slice a2 m2 k2))).alloc (.cells #[.int .i64 j] 3)).alloc (boxC Cl.zero nil0 nil0)).heap[w.heap.size + 1 + 1]? = some (boxC Cl.zero nil0 nil0)) := by
  have := heap_new ((w.alloc (boxC c (.slice a1 m1 k1) (.slice a2 m2 k2))).alloc (.cells #[.int .i64 j] 3)) (boxC Cl.zero nil0 nil0)
  rw [World.size_alloc, World.size_alloc] at this
  exact this
 have kc := cl_rest c (.slice a1 m1 k1) (.slice a2 m2 k2) _ (bkAt_later hb HB0.out)
 have kd : ∀ W, Below w.heap.size w W → Calls Tryz.prog 174 #[.agg #[(.slice a1 m1 k1), (.slice a2 m2 k2)], .int .i64 t] W fun e w' => ∃ ua n uc, e = .returned (.tuple #[.slice ua n uc, .int .i64 q]) ∧ Aside (JobSl w' (.slice ua n uc) (if q = 0 then dueOf c.js t else [])) ∧ Below W.heap.size W w' := fun W hB =>
  (due_any (.slice a1 m1 k1) (.slice a2 m2 k2) c.js c.rs t W (hb.1.later hB) (hb.2.later hB)).mono fun e w' ⟨u, g1, g2, g3, _⟩ => by
   rw [hd] at g1 g2
   obtain ⟨ua, uc, rfl⟩ : ∃ ua uc, u = .slice ua (if q = 0 then dueOf c.js t else []).length uc := by
    obtain ⟨ua, uc, e, _⟩ := g2
    exact ⟨ua, uc, e⟩
   exact ⟨ua, _, uc, g1, g2, g3⟩
 clear hd
 rw [hck] at kc
 have HK : Aside (BkAt w (.slice a1 m1 k1) (.slice a2 m2 k2) c) := hb
 clear hb hck
 go_enter Tryz.func138, Tryz.ntmps138
 go_wp2_with fail
 refine kc.mono ?_
 rintro r w1 ⟨rfl, hb1⟩
 have HX1 := hv HX0 hb1
 have HJ1 := hv HJ0 hb1
 have HR1 := hv HR0 hb1
 have HB1 := sb HB0 hb1
 clear hb1 HB0 HX0 HJ0 HR0
 clear kc
 have z := cb HX1
 go_wp2_with fail
 refine (kd w1 HB1.out).mono ?_
 rintro r w2 ⟨ua, n, uc, rfl, JL2, hb2⟩
 have HX2 := hv HX1 hb2
 have HJ2 := hv HJ1 hb2
 have HR2 := hv HR1 hb2
 have HB2 := sb HB1 hb2
 clear hb2 kd HB1 z HX1 HJ1 HR1
 have zr := cb HR2
 have fzr := cf HR2
 go_wp2
 refine ret_st (p := 8) (q := 9) w2 (w.heap.size + 1 + 1) (Cl.zero) nil0 nil0 (o := Cl.zero) (u1 := nil0) (u2 := nil0) Tryz.results138 rfl rfl rfl HR2.out rfl ?_
 exact ⟨rfl, st12_below HB2.out (by omega) _ _ _⟩
set_option maxHeartbeats 4000000 in
set_option maxRecDepth 100000 in
theorem zg_who (c : Cl) (a1 a2 : Option Addr) (m1 k1 m2 k2 : Nat) (me j t : Int) (w : World) (hb : BkAt w (.slice a1 m1 k1) (.slice a2 m2 k2) c) (hck : restErr c = 0) (q : Int) (hd : dueErr c.js c.rs t = q) (hq : q = 0) (hm : (dueOf c.js t).length ≤ most) (hi : idx (fun y => y.i == j) (dueOf c.js t) = -1) :
  AnsX 138 #[c.val (.slice a1 m1 k1) (.slice a2 m2 k2), .int .i64 me, .int .i64 j, .int .i64 t] w (Cl.zero, 5) nil0 nil0 := by
 have HB0 : Aside (Below w.heap.size w (((w.alloc (boxC c (.slice a1 m1 k1) (.slice a2 m2 k2))).alloc (.cells #[.int .i64 j] 3)).alloc (boxC Cl.zero nil0 nil0))) := grew (grew (grew (Below.refl _ _) _) _) _
 have HX0 : Aside ((((w.alloc (boxC c (.slice a1 m1 k1) (.slice a2 m2 k2))).alloc (.cells #[.int .i64 j] 3)).alloc (boxC Cl.zero nil0 nil0)).heap[w.heap.size]? = some (boxC c (.slice a1 m1 k1) (.slice a2 m2 k2))) := heap_old (heap_old (heap_new _ _) _) _
 have HJ0 : Aside ((((w.alloc (boxC c (.slice a1 m1 k1) (.slice a2 m2 k2))).alloc (.cells #[.int .i64 j] 3)).alloc (boxC Cl.zero nil0 nil0)).heap[w.heap.size + 1]? = some (.cells #[.int .i64 j] 3)) := by
  have := heap_new (w.alloc (boxC c (.slice a1 m1 k1) (.slice a2 m2 k2))) (.cells #[.int .i64 j] 3)
  rw [World.size_alloc] at this
  exact heap_old (this) _
 have HR0 : Aside ((((w.alloc (boxC c (.slice a1 m1 k1) (.slice a2 m2 k2))).alloc (.cells #[.int .i64 j] 3)).alloc (boxC Cl.zero nil0 nil0)).heap[w.heap.size + 1 + 1]? = some (boxC Cl.zero nil0 nil0)) := by
  have := heap_new ((w.alloc (boxC c (.slice a1 m1 k1) (.slice a2 m2 k2))).alloc (.cells #[.int .i64 j] 3)) (boxC Cl.zero nil0 nil0)
  rw [World.size_alloc, World.size_alloc] at this
  exact this
 have kc := cl_rest c (.slice a1 m1 k1) (.slice a2 m2 k2) _ (bkAt_later hb HB0.out)
 have kd : ∀ W, Below w.heap.size w W → Calls Tryz.prog 174 #[.agg #[(.slice a1 m1 k1), (.slice a2 m2 k2)], .int .i64 t] W fun e w' => ∃ ua n uc, e = .returned (.tuple #[.slice ua n uc, .int .i64 q]) ∧ Aside (JobSl w' (.slice ua n uc) (if q = 0 then dueOf c.js t else [])) ∧ Below W.heap.size W w' := fun W hB =>
  (due_any (.slice a1 m1 k1) (.slice a2 m2 k2) c.js c.rs t W (hb.1.later hB) (hb.2.later hB)).mono fun e w' ⟨u, g1, g2, g3, _⟩ => by
   rw [hd] at g1 g2
   obtain ⟨ua, uc, rfl⟩ : ∃ ua uc, u = .slice ua (if q = 0 then dueOf c.js t else []).length uc := by
    obtain ⟨ua, uc, e, _⟩ := g2
    exact ⟨ua, uc, e⟩
   exact ⟨ua, _, uc, g1, g2, g3⟩
 clear hd
 subst hq
 rw [hck] at kc
 have HK : Aside (BkAt w (.slice a1 m1 k1) (.slice a2 m2 k2) c) := hb
 clear hb hck
 go_enter Tryz.func138, Tryz.ntmps138
 go_wp2_with fail
 refine kc.mono ?_
 rintro r w1 ⟨rfl, hb1⟩
 have HX1 := hv HX0 hb1
 have HJ1 := hv HJ0 hb1
 have HR1 := hv HR0 hb1
 have HB1 := sb HB0 hb1
 clear hb1 HB0 HX0 HJ0 HR0
 clear kc
 have z := cb HX1
 go_wp2_with fail
 refine (kd w1 HB1.out).mono ?_
 rintro r w2 ⟨ua, n, uc, rfl, JL2, hb2⟩
 have HX2 := hv HX1 hb2
 have HJ2 := hv HJ1 hb2
 have HR2 := hv HR1 hb2
 have HB2 := sb HB1 hb2
 clear hb2 kd HB1 z HX1 HJ1 HR1
 rw [if_pos trivial] at JL2
 have hlen : (dueOf c.js t).length = n := JL2.out.len
 have eg : ∀ args w, (callFunc 176 args).run Tryz.prog w = .ok (.enter 176 args) w := enters_of Tryz.func176 (by kernel_rfl) rfl
 have ki : Calls Tryz.prog 175 #[.slice ua n uc, .func (.func 176) #[] #[.pointer (some ⟨w.heap.size + 1, 0, none⟩)]] w2 fun e w' => e = .returned (.int .i64 (-1)) ∧ Below w2.heap.size w2 w' := by
  have := idxFJ (fun y => y.i == j) 176 #[.pointer (some ⟨w.heap.size + 1, 0, none⟩)] eg (.slice ua n uc) (dueOf c.js t) w2 JL2.out hm (ring_pred j (w.heap.size + 1) w2 (heap_lt HJ2.out) (Joins.cell_of_block HJ2.out 0))
  rw [hi] at this
  exact this
 clear eg hm hi
 go_wp2_with fail
 refine ki.mono ?_
 rintro r w3 ⟨rfl, hb3⟩
 have HX3 := hv HX2 hb3
 have HJ3 := hv HJ2 hb3
 have HR3 := hv HR2 hb3
 have HB3 := sb HB2 hb3
 have JL3 : Aside _ := JL2.out.later hb3
 clear hb3 ki HB2 JL2 HX2 HJ2 HR2
 clear JL3 hlen
 have zr := cb HR3
 have fzr := cf HR3
 go_wp2
 refine ret_st (p := 8) (q := 9) w3 (w.heap.size + 1 + 1) (Cl.zero) nil0 nil0 (o := Cl.zero) (u1 := nil0) (u2 := nil0) Tryz.results138 rfl rfl rfl HR3.out rfl ?_
 exact ⟨rfl, st12_below HB3.out (by omega) _ _ _⟩
set_option maxHeartbeats 4000000 in
set_option maxRecDepth 100000 in
theorem zg_ok (c : Cl) (a1 a2 : Option Addr) (m1 k1 m2 k2 : Nat) (me j t : Int) (w : World) (hb : BkAt w (.slice a1 m1 k1) (.slice a2 m2 k2) c) (hck : restErr c = 0) (q : Int) (hd : dueErr c.js c.rs t = q) (hq : q = 0) (hm : (dueOf c.js t).length ≤ most) (k : Nat) (z0 : Jb) (hi : idx (fun y => y.i == j) (dueOf c.js t) = (k : Nat)) (hk : k < (dueOf c.js t).length) (hz0 : (dueOf c.js t)[k]? = some z0) (R : Cl) (d : Int) (hW : wantOf c ⟨3, j, 0, z0.n, me⟩ = (R, d)) :
  AnsT 138 #[c.val (.slice a1 m1 k1) (.slice a2 m2 k2), .int .i64 me, .int .i64 j, .int .i64 t] w (R, d) := by
 have HB0 : Aside (Below w.heap.size w (((w.alloc (boxC c (.slice a1 m1 k1) (.slice a2 m2 k2))).alloc (.cells #[.int .i64 j] 3)).alloc (boxC Cl.zero nil0 nil0))) := grew (grew (grew (Below.refl _ _) _) _) _
 have HX0 : Aside ((((w.alloc (boxC c (.slice a1 m1 k1) (.slice a2 m2 k2))).alloc (.cells #[.int .i64 j] 3)).alloc (boxC Cl.zero nil0 nil0)).heap[w.heap.size]? = some (boxC c (.slice a1 m1 k1) (.slice a2 m2 k2))) := heap_old (heap_old (heap_new _ _) _) _
 have HJ0 : Aside ((((w.alloc (boxC c (.slice a1 m1 k1) (.slice a2 m2 k2))).alloc (.cells #[.int .i64 j] 3)).alloc (boxC Cl.zero nil0 nil0)).heap[w.heap.size + 1]? = some (.cells #[.int .i64 j] 3)) := by
  have := heap_new (w.alloc (boxC c (.slice a1 m1 k1) (.slice a2 m2 k2))) (.cells #[.int .i64 j] 3)
  rw [World.size_alloc] at this
  exact heap_old (this) _
 have HR0 : Aside ((((w.alloc (boxC c (.slice a1 m1 k1) (.slice a2 m2 k2))).alloc (.cells #[.int .i64 j] 3)).alloc (boxC Cl.zero nil0 nil0)).heap[w.heap.size + 1 + 1]? = some (boxC Cl.zero nil0 nil0)) := by
  have := heap_new ((w.alloc (boxC c (.slice a1 m1 k1) (.slice a2 m2 k2))).alloc (.cells #[.int .i64 j] 3)) (boxC Cl.zero nil0 nil0)
  rw [World.size_alloc, World.size_alloc] at this
  exact this
 have kc := cl_rest c (.slice a1 m1 k1) (.slice a2 m2 k2) _ (bkAt_later hb HB0.out)
 have kd : ∀ W, Below w.heap.size w W → Calls Tryz.prog 174 #[.agg #[(.slice a1 m1 k1), (.slice a2 m2 k2)], .int .i64 t] W fun e w' => ∃ ua n uc, e = .returned (.tuple #[.slice ua n uc, .int .i64 q]) ∧ Aside (JobSl w' (.slice ua n uc) (if q = 0 then dueOf c.js t else [])) ∧ Below W.heap.size W w' := fun W hB =>
  (due_any (.slice a1 m1 k1) (.slice a2 m2 k2) c.js c.rs t W (hb.1.later hB) (hb.2.later hB)).mono fun e w' ⟨u, g1, g2, g3, _⟩ => by
   rw [hd] at g1 g2
   obtain ⟨ua, uc, rfl⟩ : ∃ ua uc, u = .slice ua (if q = 0 then dueOf c.js t else []).length uc := by
    obtain ⟨ua, uc, e, _⟩ := g2
    exact ⟨ua, uc, e⟩
   exact ⟨ua, _, uc, g1, g2, g3⟩
 clear hd
 subst hq
 have kw : Aside (∀ W, Below w.heap.size w W → AnsT 172 #[c.val (.slice a1 m1 k1) (.slice a2 m2 k2), (⟨3, j, 0, z0.n, me⟩ : En).val] W (R, d)) := fun W hB => by
  have := cl_want c ⟨3, j, 0, z0.n, me⟩ (.slice a1 m1 k1) (.slice a2 m2 k2) W (bkAt_later hb hB)
  rw [hW] at this
  exact this
 clear hW
 rw [hck] at kc
 have HK : Aside (BkAt w (.slice a1 m1 k1) (.slice a2 m2 k2) c) := hb
 clear hb hck
 go_enter Tryz.func138, Tryz.ntmps138
 go_wp2_with fail
 refine kc.mono ?_
 rintro r w1 ⟨rfl, hb1⟩
 have HX1 := hv HX0 hb1
 have HJ1 := hv HJ0 hb1
 have HR1 := hv HR0 hb1
 have HB1 := sb HB0 hb1
 clear hb1 HB0 HX0 HJ0 HR0
 clear kc
 have z := cb HX1
 go_wp2_with fail
 refine (kd w1 HB1.out).mono ?_
 rintro r w2 ⟨ua, n, uc, rfl, JL2, hb2⟩
 have HX2 := hv HX1 hb2
 have HJ2 := hv HJ1 hb2
 have HR2 := hv HR1 hb2
 have HB2 := sb HB1 hb2
 clear hb2 kd HB1 z HX1 HJ1 HR1
 rw [if_pos trivial] at JL2
 have hlen : (dueOf c.js t).length = n := JL2.out.len
 have eg : ∀ args w, (callFunc 176 args).run Tryz.prog w = .ok (.enter 176 args) w := enters_of Tryz.func176 (by kernel_rfl) rfl
 have ki : Calls Tryz.prog 175 #[.slice ua n uc, .func (.func 176) #[] #[.pointer (some ⟨w.heap.size + 1, 0, none⟩)]] w2 fun e w' => e = .returned (.int .i64 (k : Nat)) ∧ Below w2.heap.size w2 w' := by
  have := idxFJ (fun y => y.i == j) 176 #[.pointer (some ⟨w.heap.size + 1, 0, none⟩)] eg (.slice ua n uc) (dueOf c.js t) w2 JL2.out hm (ring_pred j (w.heap.size + 1) w2 (heap_lt HJ2.out) (Joins.cell_of_block HJ2.out 0))
  rw [hi] at this
  exact this
 clear eg hm hi
 go_wp2_with fail
 refine ki.mono ?_
 rintro r w3 ⟨rfl, hb3⟩
 have HX3 := hv HX2 hb3
 have HJ3 := hv HJ2 hb3
 have HR3 := hv HR2 hb3
 have HB3 := sb HB2 hb3
 have JL3 : Aside _ := JL2.out.later hb3
 clear hb3 ki HB2 JL2 HX2 HJ2 HR2
 rw [hlen] at hk
 obtain ⟨b, off, rfl, hE⟩ := JL3.out.at (by omega)
 have hrow : w3.cell? ⟨b, off + k * 3 + 2, none⟩ = some (.int .i64 z0.n) := hE k z0 hz0 2 _ rfl
 have hkn : ¬ ((k : Int) < 0) := by omega
 clear hE JL3 hlen hz0
 go_upto_region 10 with fail
 have HXd : Aside (w3.drew.heap[w.heap.size]? = some (boxC c (.slice a1 m1 k1) (.slice a2 m2 k2))) := HX3.out
 have HRd : Aside (w3.drew.heap[w.heap.size + 1 + 1]? = some (boxC Cl.zero nil0 nil0)) := HR3.out
 have HBd : Aside (Below w.heap.size w w3.drew) := HB3.out.drew
 have hS0 : w3.drew.cell? ⟨w.heap.size + 1, 0, none⟩ = some (.int .i64 j) ∧ w3.drew.cell? ⟨b, off + k * 3 + 2, none⟩ = some (.int .i64 z0.n) := ⟨Joins.cell_of_block HJ3.out 0, hrow⟩
 clear HX3 HR3 HB3 HJ3 hrow
 refine wp_region_noPanic ?_
 refine region_L (fun w' => w'.cell? ⟨w.heap.size + 1, 0, none⟩ = some (.int .i64 j) ∧ w'.cell? ⟨b, off + k * 3 + 2, none⟩ = some (.int .i64 z0.n)) 12 (by kernel_rfl) (hS0) (fun hHeld => ?_)
 clear hS0
 generalize w3.drew = X at *
 refine tl 1 (v := ?_) rfl (by kernel_rfl) (by rfl) (by assumption) (fun _ _ _ h => h) ?_ ?_
 rotate_left
 ·(intro w0 hSw; (try dsimp only at hSw); go_simp; first | done | with_reducible rfl)
 try simp only [Act.put, qa, qb, qc]
 refine tl 2 (v := ?_) rfl (by kernel_rfl) (by rfl) (by assumption) (fun _ _ _ h => h) ?_ ?_
 rotate_left
 ·(intro w0 hSw; (try dsimp only at hSw); go_simp; first | done | with_reducible rfl)
 try simp only [Act.put, qa, qb, qc]
 refine tl 3 (v := ?_) rfl (by kernel_rfl) (by rfl) (by assumption) (fun _ _ _ h => h) ?_ ?_
 rotate_left
 ·(intro w0 hSw; (try dsimp only at hSw); go_simp; first | done | with_reducible rfl)
 try simp only [Act.put, qa, qb, qc]
 refine tl 4 (v := ?_) rfl (by kernel_rfl) (by rfl) (by assumption) (fun _ _ _ h => h) ?_ ?_
 rotate_left
 ·(intro w0 hSw; (try dsimp only at hSw); go_simp; first | done | with_reducible rfl)
 try simp only [Act.put, qa, qb, qc]
 refine tl 5 (v := ?_) rfl (by kernel_rfl) (by rfl) (by assumption) (fun _ _ _ h => h) ?_ ?_
 rotate_left
 ·(intro w0 hSw; (try dsimp only at hSw); go_simp; first | done | with_reducible rfl)
 try simp only [Act.put, qa, qb, qc]
 refine tl 6 (v := ?_) rfl (by kernel_rfl) (by rfl) (by assumption) (fun _ _ _ h => h) ?_ ?_
 rotate_left
 ·(intro w0 hSw; (try dsimp only at hSw); go_simp; first | done | with_reducible rfl)
 try simp only [Act.put, qa, qb, qc]
 refine tl 7 (v := ?_) rfl (by kernel_rfl) (by rfl) (by assumption) (fun _ _ _ h => h) ?_ ?_
 rotate_left
 ·(intro w0 hSw; (try dsimp only at hSw); go_simp; first | done | with_reducible rfl)
 try simp only [Act.put, qa, qb, qc]
 refine tl 8 (v := ?_) rfl (by kernel_rfl) (by rfl) (by assumption) (fun _ _ _ h => h) ?_ ?_
 rotate_left
 ·(intro w0 hSw; (try dsimp only at hSw); go_simp; first | done | with_reducible rfl)
 try simp only [Act.put, qa, qb, qc]
 have z := cb HXd
 refine anyL_one (i := 0) (by kernel_rfl) rfl (fun K hK => ?_)
 go_simp
 refine hK.out _ _ (fun _ => by assumption) (fun hNext => ?_)
 replace hNext := hNext (by kernel_rfl)
 clear hK K hHeld z
 try simp only [Act.put, qa, qb, qc]
 refine anyL_one (i := 9) (by kernel_rfl) rfl (fun K hK => ?_)
 go_simp
 refine (kw.out _ HBd.out).mono ?_
 rintro r w4 ⟨u1, u2, rfl, hT4, hb4⟩
 have HR4 := hv HRd hb4
 have HB4 : Aside (Below w.heap.size w w4) := HBd.out.trans (hb4.mono HBd.out.size)
 have HT4 : Aside (BkT w4 u1 u2 R) := hT4
 obtain ⟨s1, o1, s2, o2, rfl, rfl⟩ := bk_slices hT4.1.1 hT4.1.2
 refine hK.out _ _ (fun _ => ⟨cell_later hb4 hNext.1, cell_later hb4 hNext.2⟩) (fun hNext => ?_)
 replace hNext := hNext (by kernel_rfl)
 clear hK K hb4 HRd HBd HXd hT4
 try simp only [Act.put, qa, qb, qc]
 obtain ⟨n1, hn1⟩ : ∃ n, Hid (R.js.length = n) := ⟨_, rfl⟩
 obtain ⟨n2, hn2⟩ : ∃ n, Hid (R.rs.length = n) := ⟨_, rfl⟩
 rw [hn1.out, hn2.out] at HT4 ⊢
 have zr := cb HR4
 have fzr := cf HR4
 refine tl 10 (v := ?_) rfl (by kernel_rfl) (by rfl) (by assumption) (fun _ _ _ h => h) ?_ ?_
 rotate_left
 ·(intro w0 hSw; (try dsimp only at hSw); go_simp; first | done | with_reducible rfl)
 try simp only [Act.put, qa, qb, qc]
 refine tl 11 (v := ?_) rfl (by kernel_rfl) (by rfl) (by assumption) (fun _ _ _ h => h) ?_ ?_
 rotate_left
 ·(intro w0 hSw; (try dsimp only at hSw); go_simp; first | done | with_reducible rfl)
 try simp only [Act.put, qa, qb, qc]
 refine anyL_one (i := 12) (by kernel_rfl) rfl (fun K hK => ?_)
 go_simp
 refine hK.out _ _ (fun h => absurd h (by decide +kernel)) (fun _ => ?_)
 clear hK K
 try simp only [Act.put, qa, qb, qc]
 refine anyL_one (i := 13) (by kernel_rfl) rfl (fun K hK => ?_)
 go_simp
 refine hK.out _ _ (fun h => absurd h (by decide +kernel)) (fun _ => ?_)
 clear hK K
 try simp only [Act.put, qa, qb, qc]
 refine anyL_done (by kernel_rfl) ?_ _
 refine NoPanic.normal ?_
 try simp only [Act.put, qa, qb, qc]
 clear hNext
 go_wp2
 refine ret_st (p := 8) (q := 9) w4 (w.heap.size + 1 + 1) R (.slice s1 n1 o1) (.slice s2 n2 o2) (o := Cl.zero) (u1 := nil0) (u2 := nil0) Tryz.results138 rfl rfl rfl HR4.out rfl ?_
 exact ⟨(.slice s1 n1 o1), (.slice s2 n2 o2), rfl, bkT_st12 ⟨_, HR4.out⟩ HT4.out _ _ _, st12_below HB4.out (by omega) _ _ _⟩
theorem due_ok_err {c : Cl} (hc : c.ck = 0) (t : Int) : dueErr c.js c.rs t = if t < 0 ∨ 100000 < t then 3 else 0 := by
 rw [dueErr, if_neg (by simpa using ckBook_zero.2 (Cl.ck_zero.1 hc).2.2.2)]
theorem cl_ring (c : Cl) (me j t : Int) (v1 v2 : Value) (w : World) (hb : BkAt w v1 v2 c) : AnsT 138 #[c.val v1 v2, .int .i64 me, .int .i64 j, .int .i64 t] w (ringOf c me j t) := by
 obtain ⟨a1, k1, a2, k2, rfl, rfl⟩ := bk_slices hb.1 hb.2
 unfold ringOf
 by_cases hc : c.ck = 0
 ·rw [if_neg (by simpa using hc)]
  by_cases hd : c.d = 0
  ·have hr : restErr c = 0 := by rw [restErr, if_neg (by simpa using hc), if_neg (by simpa using hd)]
   have hok := (Cl.ck_zero.1 hc).2.2.2
   rw [if_neg (by simpa using hd)]
   by_cases ht : t < 0 ∨ 100000 < t
   ·rw [if_pos ht]
    exact ansT_zero <| zg_due c a1 a2 _ k1 _ k2 me j t w hb hr 3 (by rw [due_ok_err hc, if_pos ht]) rfl
   ·rw [if_neg ht]
    have he : dueErr c.js c.rs t = 0 := by rw [due_ok_err hc, if_neg ht]
    have hm : (dueOf c.js t).length ≤ most := by have := dueOf_few t c.js; have := hok.few; unfold most; omega
    rcases due_find hok t j with ⟨hi, hno⟩ | ⟨k, z, hi, hk, hz, htab, hn, _, _⟩
    ·have h := ansT_zero <| zg_who c a1 a2 _ k1 _ k2 me j t w hb hr 0 he rfl hm hi
     cases htab : tab c.js j with
     | none => exact h
     | some z =>
      show AnsT _ _ _ (if t < z.n then _ else _)
      rw [if_pos (hno z htab)]
      exact h
    ·rw [htab]
     show AnsT _ _ _ (if t < z.n then _ else _)
     rw [if_neg (by omega)]
     exact zg_ok c a1 a2 _ k1 _ k2 me j t w hb hr 0 he rfl hm k z hi hk hz _ _ rfl
  ·rw [if_pos hd]
   exact ansT_zero <| zg_ck c a1 a2 _ k1 _ k2 me j t w hb 7 (by rw [restErr, if_neg (by simpa using hc), if_pos hd]) rfl
 ·rw [if_pos hc]
  exact ansT_zero <| zg_ck c a1 a2 _ k1 _ k2 me j t w hb _ (by rw [restErr, if_pos hc]) (by rw [bne_iff_ne]; exact hc)
end Go.Proofs.YtmoaobfmopimlafGreatDoor
