/- The walk of ClientKeeps, where the client is not right, or does not rest. The walk of ClientKeeps, where the client rests. -/
import Derived.Test.YtbokdcdnandgbaeClientJ
import Derived.Deep.CutBlock
namespace Go.Proofs.Ytbokdcdnandgbae
open Go.RowKit

set_option linter.unusedSimpArgs false in
set_option maxHeartbeats 8000000 in
set_option maxRecDepth 100000 in
theorem ke_bad (c : Cl) (x : En) (q0 q : Int) (a1 a2 : Option Addr) (m1 k1 m2 k2 : Nat) (w : World) (hb : BkAt w (.slice a1 m1 k1) (.slice a2 m2 k2) c) (_hs : Slim c) (_hq : 0 ≤ q ∧ q ≤ 59) (hat : ∀ W, Calls Try.prog 8 #[.int .i64 q0, .int .i64 60] W fun e w' => e = .returned (.int .i64 q) ∧ w' = W) (kc : Int) (hck : c.ck = kc) (hz : (kc != 0) = true) :
    Calls Try.prog 6 #[c.val (.slice a1 m1 k1) (.slice a2 m2 k2), .int .i64 q0, x.val] w fun e w' => e = .returned (.bool true) ∧ Below w.heap.size w w' := by
  have pC : Aside (∀ W, BkAt W (.slice a1 m1 k1) (.slice a2 m2 k2) c → Calls Try.prog 23 #[c.val (.slice a1 m1 k1) (.slice a2 m2 k2)] W fun e w' => e = .returned (.int .i64 kc) ∧ Below W.heap.size W w') := fun W hB => by have := cl_check c _ _ W hB; rw [hck] at this; exact this
  have H0 : Aside (HeldC w ((w.alloc (boxC c (.slice a1 m1 k1) (.slice a2 m2 k2))).alloc (boxE x.k x.j x.v x.t x.c)) [(w.heap.size + 1, boxE x.k x.j x.v x.t x.c), (w.heap.size, boxC c (.slice a1 m1 k1) (.slice a2 m2 k2))] [((.slice a1 m1 k1), (.slice a2 m2 k2), c)]) := by
    have h0 : HeldC w w [] [((.slice a1 m1 k1), (.slice a2 m2 k2), c)] := ⟨Below.refl _ _, (fun p hp => by cases hp), fun p hp => by
      simp only [List.mem_cons, List.not_mem_nil, or_false] at hp
      subst hp
      exact hb⟩
    have h1 := (h0.boxed (boxC c (.slice a1 m1 k1) (.slice a2 m2 k2))).boxed (boxE x.k x.j x.v x.t x.c)
    rw [World.size_alloc] at h1
    exact h1
  clear hb hck
  go_enter Try.func6, Try.ntmps6
  go_upto_region 1 with fail
  generalize ((w.alloc (boxC c (.slice a1 m1 k1) (.slice a2 m2 k2))).alloc (boxE x.k x.j x.v x.t x.c)) = w0 at *
  go_wp2_with fail
  refine (hat _).mono ?_
  rintro e wx ⟨rfl, hwx⟩
  obtain rfl : w0 = wx := hwx.symm
  clear hat
  go_wp2_with fail
  refine (lc_heard _).mono ?_
  rintro e w1 ⟨rfl, hb1⟩
  have H1 : Aside (HeldC w w1 [(w.heap.size + 1, boxE x.k x.j x.v x.t x.c), (w.heap.size, boxC c (.slice a1 m1 k1) (.slice a2 m2 k2))] [((.slice a1 m1 k1), (.slice a2 m2 k2), c)]) := H0.out.later hb1
  clear hb1 H0 
  have z : ∀ i, w1.cell? ⟨w.heap.size, i, none⟩ = #[Value.int .i64 c.p, .int .i64 c.d, .int .i64 c.e.k, .int .i64 c.e.j, .int .i64 c.e.v, .int .i64 c.e.t, .int .i64 c.e.c, .int .i64 c.a, .int .i64 c.l, .int .i64 c.n, .slice a1 m1 k1, .slice a2 m2 k2][i]? := fun i => Joins.cell_of_block (H1.out.at (.tail _ (.head _))) i
  go_wp2_with fail
  refine (pC.out _ (H1.out.books (.head _))).mono ?_
  rintro e w2 ⟨rfl, hb2⟩
  have H2 : Aside (HeldC w w2 [(w.heap.size + 1, boxE x.k x.j x.v x.t x.c), (w.heap.size, boxC c (.slice a1 m1 k1) (.slice a2 m2 k2))] [((.slice a1 m1 k1), (.slice a2 m2 k2), c)]) := H1.out.later hb2
  clear hb2 H1 z pC
  go_wp2_with fail
  refine (lc_heard _).mono ?_
  rintro e w3 ⟨rfl, hb3⟩
  have H3 : Aside (HeldC w w3 [(w.heap.size + 1, boxE x.k x.j x.v x.t x.c), (w.heap.size, boxC c (.slice a1 m1 k1) (.slice a2 m2 k2))] [((.slice a1 m1 k1), (.slice a2 m2 k2), c)]) := H2.out.later hb3
  clear hb3 H2 
  have HB := H3.out.below
  clear H3
  go_wp2
  go_ret
  exact ⟨rfl, HB⟩

set_option linter.unusedSimpArgs false in
set_option maxHeartbeats 8000000 in
set_option maxRecDepth 100000 in
theorem ke_busy0 (c : Cl) (x : En) (q0 q : Int) (a1 a2 : Option Addr) (m1 k1 m2 k2 : Nat) (w : World) (hb : BkAt w (.slice a1 m1 k1) (.slice a2 m2 k2) c) (_hs : Slim c) (_hq : 0 ≤ q ∧ q ≤ 59) (hat : ∀ W, Calls Try.prog 8 #[.int .i64 q0, .int .i64 60] W fun e w' => e = .returned (.int .i64 q) ∧ w' = W) (hck : c.ck = 0) (RP : Cl) (eP : Int) (hP : playOf c x = (RP, eP)) (hz : (eP == 0) = false) (hd : (c.d == 0) = false) (RF : Cl) (eF : Int) (hF : placeOf 0 c q = (RF, eF)) (hzf : (eF == 0) = false) (hzf2 : (eF != 0) = true) :
    Calls Try.prog 6 #[c.val (.slice a1 m1 k1) (.slice a2 m2 k2), .int .i64 q0, x.val] w fun e w' => e = .returned (.bool true) ∧ Below w.heap.size w w' := by
  have pC : Aside (∀ W, BkAt W (.slice a1 m1 k1) (.slice a2 m2 k2) c → Calls Try.prog 23 #[c.val (.slice a1 m1 k1) (.slice a2 m2 k2)] W fun e w' => e = .returned (.int .i64 0) ∧ Below W.heap.size W w') := fun W hB => by have := cl_check c _ _ W hB; rw [hck] at this; exact this
  have pP : Aside (∀ W, BkAt W (.slice a1 m1 k1) (.slice a2 m2 k2) c → AnsT 29 #[c.val (.slice a1 m1 k1) (.slice a2 m2 k2), x.val] W (RP, eP)) := fun W hB => by have := cl_play c x _ _ W hB; rw [hP] at this; exact this
  have pF : Aside (∀ W, BkAt W (.slice a1 m1 k1) (.slice a2 m2 k2) c → AnsT 18 #[c.val (.slice a1 m1 k1) (.slice a2 m2 k2), .int .i64 q] W (RF, eF)) := fun W hB => by have := cl_fill c q _ _ W hB; rw [hF] at this; exact this
  have H0 : Aside (HeldC w ((w.alloc (boxC c (.slice a1 m1 k1) (.slice a2 m2 k2))).alloc (boxE x.k x.j x.v x.t x.c)) [(w.heap.size + 1, boxE x.k x.j x.v x.t x.c), (w.heap.size, boxC c (.slice a1 m1 k1) (.slice a2 m2 k2))] [((.slice a1 m1 k1), (.slice a2 m2 k2), c)]) := by
    have h0 : HeldC w w [] [((.slice a1 m1 k1), (.slice a2 m2 k2), c)] := ⟨Below.refl _ _, (fun p hp => by cases hp), fun p hp => by
      simp only [List.mem_cons, List.not_mem_nil, or_false] at hp
      subst hp
      exact hb⟩
    have h1 := (h0.boxed (boxC c (.slice a1 m1 k1) (.slice a2 m2 k2))).boxed (boxE x.k x.j x.v x.t x.c)
    rw [World.size_alloc] at h1
    exact h1
  clear hb hck hP hF
  go_enter Try.func6, Try.ntmps6
  go_upto_region 1 with fail
  generalize ((w.alloc (boxC c (.slice a1 m1 k1) (.slice a2 m2 k2))).alloc (boxE x.k x.j x.v x.t x.c)) = w0 at *
  go_wp2_with fail
  refine (hat _).mono ?_
  rintro e wx ⟨rfl, hwx⟩
  obtain rfl : w0 = wx := hwx.symm
  clear hat
  go_wp2_with fail
  refine (lc_heard _).mono ?_
  rintro e w1 ⟨rfl, hb1⟩
  have H1 : Aside (HeldC w w1 [(w.heap.size + 1, boxE x.k x.j x.v x.t x.c), (w.heap.size, boxC c (.slice a1 m1 k1) (.slice a2 m2 k2))] [((.slice a1 m1 k1), (.slice a2 m2 k2), c)]) := H0.out.later hb1
  clear hb1 H0 
  have z : ∀ i, w1.cell? ⟨w.heap.size, i, none⟩ = #[Value.int .i64 c.p, .int .i64 c.d, .int .i64 c.e.k, .int .i64 c.e.j, .int .i64 c.e.v, .int .i64 c.e.t, .int .i64 c.e.c, .int .i64 c.a, .int .i64 c.l, .int .i64 c.n, .slice a1 m1 k1, .slice a2 m2 k2][i]? := fun i => Joins.cell_of_block (H1.out.at (.tail _ (.head _))) i
  go_wp2_with fail
  refine (pC.out _ (H1.out.books (.head _))).mono ?_
  rintro e w2 ⟨rfl, hb2⟩
  have H2 : Aside (HeldC w w2 [(w.heap.size + 1, boxE x.k x.j x.v x.t x.c), (w.heap.size, boxC c (.slice a1 m1 k1) (.slice a2 m2 k2))] [((.slice a1 m1 k1), (.slice a2 m2 k2), c)]) := H1.out.later hb2
  clear hb2 H1 z pC
  have z : ∀ i, w2.cell? ⟨w.heap.size, i, none⟩ = #[Value.int .i64 c.p, .int .i64 c.d, .int .i64 c.e.k, .int .i64 c.e.j, .int .i64 c.e.v, .int .i64 c.e.t, .int .i64 c.e.c, .int .i64 c.a, .int .i64 c.l, .int .i64 c.n, .slice a1 m1 k1, .slice a2 m2 k2][i]? := fun i => Joins.cell_of_block (H2.out.at (.tail _ (.head _))) i
  have ze : ∀ i, w2.cell? ⟨w.heap.size + 1, i, none⟩ = #[Value.int .i64 x.k, .int .i64 x.j, .int .i64 x.v, .int .i64 x.t, .int .i64 x.c][i]? := fun i => Joins.cell_of_block (H2.out.at (.head _)) i
  go_wp2_with fail
  refine (pP.out _ (H2.out.books (.head _))).mono ?_
  rintro e w3 ⟨u1, u2, rfl, hT3, hb3⟩
  have hT3 : BkAt w3 u1 u2 RP := by first | exact hT3 | exact hT3.1
  have H3 : Aside _ := (H2.out.later hb3).book hT3
  obtain ⟨s3, o3, t3, p3, rfl, rfl⟩ := bk_slices hT3.1 hT3.2
  clear hb3 H2 hT3 z ze pP
  obtain ⟨j3, hj3⟩ : ∃ n, Hid (RP.js.length = n) := ⟨_, rfl⟩
  obtain ⟨q3, hq3⟩ : ∃ n, Hid (RP.rs.length = n) := ⟨_, rfl⟩
  rw [hj3.out, hq3.out] at H3 ⊢
  go_upto_region 5 with fail
  have H4 : Aside _ := H3.out.boxed (boxC RP (.slice s3 j3 o3) (.slice t3 q3 p3))
  clear H3
  generalize w3.alloc (boxC RP (.slice s3 j3 o3) (.slice t3 q3 p3)) = w4 at *
  generalize w3.heap.size = g1 at *
  have z : ∀ i, w4.cell? ⟨w.heap.size, i, none⟩ = #[Value.int .i64 c.p, .int .i64 c.d, .int .i64 c.e.k, .int .i64 c.e.j, .int .i64 c.e.v, .int .i64 c.e.t, .int .i64 c.e.c, .int .i64 c.a, .int .i64 c.l, .int .i64 c.n, .slice a1 m1 k1, .slice a2 m2 k2][i]? := fun i => Joins.cell_of_block (H4.out.at (.tail _ (.tail _ (.head _)))) i
  go_wp2_with fail
  refine (pF.out _ (H4.out.books (.tail _ (.head _)))).mono ?_
  rintro e w5 ⟨u1, u2, rfl, hT5, hb5⟩
  have hT5 : BkAt w5 u1 u2 RF := by first | exact hT5 | exact hT5.1
  have H5 : Aside _ := (H4.out.later hb5).book hT5
  obtain ⟨s5, o5, t5, p5, rfl, rfl⟩ := bk_slices hT5.1 hT5.2
  clear hb5 H4 hT5 z pF
  obtain ⟨j5, hj5⟩ : ∃ n, Hid (RF.js.length = n) := ⟨_, rfl⟩
  obtain ⟨q5, hq5⟩ : ∃ n, Hid (RF.rs.length = n) := ⟨_, rfl⟩
  rw [hj5.out, hq5.out] at H5 ⊢
  go_upto_region 8 with fail
  have H6 : Aside _ := H5.out.boxed (boxC RF (.slice s5 j5 o5) (.slice t5 q5 p5))
  clear H5
  generalize w5.alloc (boxC RF (.slice s5 j5 o5) (.slice t5 q5 p5)) = w6 at *
  generalize w5.heap.size = g2 at *
  have z : ∀ i, w6.cell? ⟨w.heap.size, i, none⟩ = #[Value.int .i64 c.p, .int .i64 c.d, .int .i64 c.e.k, .int .i64 c.e.j, .int .i64 c.e.v, .int .i64 c.e.t, .int .i64 c.e.c, .int .i64 c.a, .int .i64 c.l, .int .i64 c.n, .slice a1 m1 k1, .slice a2 m2 k2][i]? := fun i => Joins.cell_of_block (H6.out.at (.tail _ (.tail _ (.tail _ (.head _))))) i
  have HB := H6.out.below
  clear H6
  go_wp2
  go_ret
  exact ⟨rfl, HB⟩

set_option linter.unusedSimpArgs false in
set_option maxHeartbeats 8000000 in
set_option maxRecDepth 100000 in
theorem ke_busy1 (c : Cl) (x : En) (q0 q : Int) (a1 a2 : Option Addr) (m1 k1 m2 k2 : Nat) (w : World) (hb : BkAt w (.slice a1 m1 k1) (.slice a2 m2 k2) c) (_hs : Slim c) (_hq : 0 ≤ q ∧ q ≤ 59) (hat : ∀ W, Calls Try.prog 8 #[.int .i64 q0, .int .i64 60] W fun e w' => e = .returned (.int .i64 q) ∧ w' = W) (hck : c.ck = 0) (J : List Jb) (Q : List Rg) (hw : IntKind.i64.wrap (c.n + 1) = c.n + 1) (hP : playOf c x = (⟨c.p, c.d, c.e, c.a, c.l, c.n + 1, J, Q⟩, 0)) (hPk : (⟨c.p, c.d, c.e, c.a, c.l, c.n + 1, J, Q⟩ : Cl).ck = 0) (hd : (c.d == 0) = false) (RF : Cl) (eF : Int) (hF : placeOf 0 c q = (RF, eF)) (hzf : (eF == 0) = false) (hzf2 : (eF != 0) = true) :
    Calls Try.prog 6 #[c.val (.slice a1 m1 k1) (.slice a2 m2 k2), .int .i64 q0, x.val] w fun e w' => e = .returned (.bool true) ∧ Below w.heap.size w w' := by
  have cP : Aside (∀ W u v, BkAt W u v (⟨c.p, c.d, c.e, c.a, c.l, (c.n + 1), J, Q⟩ : Cl) → Calls Try.prog 23 #[(⟨c.p, c.d, c.e, c.a, c.l, (c.n + 1), J, Q⟩ : Cl).val u v] W fun e w' => e = .returned (.int .i64 0) ∧ Below W.heap.size W w') := fun W u v hB => by have := cl_check (⟨c.p, c.d, c.e, c.a, c.l, (c.n + 1), J, Q⟩ : Cl) _ _ W hB; rw [hPk] at this; exact this
  have pC : Aside (∀ W, BkAt W (.slice a1 m1 k1) (.slice a2 m2 k2) c → Calls Try.prog 23 #[c.val (.slice a1 m1 k1) (.slice a2 m2 k2)] W fun e w' => e = .returned (.int .i64 0) ∧ Below W.heap.size W w') := fun W hB => by have := cl_check c _ _ W hB; rw [hck] at this; exact this
  have pP : Aside (∀ W, BkAt W (.slice a1 m1 k1) (.slice a2 m2 k2) c → AnsT 29 #[c.val (.slice a1 m1 k1) (.slice a2 m2 k2), x.val] W ((⟨c.p, c.d, c.e, c.a, c.l, (c.n + 1), J, Q⟩ : Cl), 0)) := fun W hB => by have := cl_play c x _ _ W hB; rw [hP] at this; exact this
  have pF : Aside (∀ W, BkAt W (.slice a1 m1 k1) (.slice a2 m2 k2) c → AnsT 18 #[c.val (.slice a1 m1 k1) (.slice a2 m2 k2), .int .i64 q] W (RF, eF)) := fun W hB => by have := cl_fill c q _ _ W hB; rw [hF] at this; exact this
  have H0 : Aside (HeldC w ((w.alloc (boxC c (.slice a1 m1 k1) (.slice a2 m2 k2))).alloc (boxE x.k x.j x.v x.t x.c)) [(w.heap.size + 1, boxE x.k x.j x.v x.t x.c), (w.heap.size, boxC c (.slice a1 m1 k1) (.slice a2 m2 k2))] [((.slice a1 m1 k1), (.slice a2 m2 k2), c)]) := by
    have h0 : HeldC w w [] [((.slice a1 m1 k1), (.slice a2 m2 k2), c)] := ⟨Below.refl _ _, (fun p hp => by cases hp), fun p hp => by
      simp only [List.mem_cons, List.not_mem_nil, or_false] at hp
      subst hp
      exact hb⟩
    have h1 := (h0.boxed (boxC c (.slice a1 m1 k1) (.slice a2 m2 k2))).boxed (boxE x.k x.j x.v x.t x.c)
    rw [World.size_alloc] at h1
    exact h1
  clear hb hck hP hPk hF
  go_enter Try.func6, Try.ntmps6
  go_upto_region 1 with fail
  generalize ((w.alloc (boxC c (.slice a1 m1 k1) (.slice a2 m2 k2))).alloc (boxE x.k x.j x.v x.t x.c)) = w0 at *
  go_wp2_with fail
  refine (hat _).mono ?_
  rintro e wx ⟨rfl, hwx⟩
  obtain rfl : w0 = wx := hwx.symm
  clear hat
  go_wp2_with fail
  refine (lc_heard _).mono ?_
  rintro e w1 ⟨rfl, hb1⟩
  have H1 : Aside (HeldC w w1 [(w.heap.size + 1, boxE x.k x.j x.v x.t x.c), (w.heap.size, boxC c (.slice a1 m1 k1) (.slice a2 m2 k2))] [((.slice a1 m1 k1), (.slice a2 m2 k2), c)]) := H0.out.later hb1
  clear hb1 H0 
  have z : ∀ i, w1.cell? ⟨w.heap.size, i, none⟩ = #[Value.int .i64 c.p, .int .i64 c.d, .int .i64 c.e.k, .int .i64 c.e.j, .int .i64 c.e.v, .int .i64 c.e.t, .int .i64 c.e.c, .int .i64 c.a, .int .i64 c.l, .int .i64 c.n, .slice a1 m1 k1, .slice a2 m2 k2][i]? := fun i => Joins.cell_of_block (H1.out.at (.tail _ (.head _))) i
  go_wp2_with fail
  refine (pC.out _ (H1.out.books (.head _))).mono ?_
  rintro e w2 ⟨rfl, hb2⟩
  have H2 : Aside (HeldC w w2 [(w.heap.size + 1, boxE x.k x.j x.v x.t x.c), (w.heap.size, boxC c (.slice a1 m1 k1) (.slice a2 m2 k2))] [((.slice a1 m1 k1), (.slice a2 m2 k2), c)]) := H1.out.later hb2
  clear hb2 H1 z pC
  have z : ∀ i, w2.cell? ⟨w.heap.size, i, none⟩ = #[Value.int .i64 c.p, .int .i64 c.d, .int .i64 c.e.k, .int .i64 c.e.j, .int .i64 c.e.v, .int .i64 c.e.t, .int .i64 c.e.c, .int .i64 c.a, .int .i64 c.l, .int .i64 c.n, .slice a1 m1 k1, .slice a2 m2 k2][i]? := fun i => Joins.cell_of_block (H2.out.at (.tail _ (.head _))) i
  have ze : ∀ i, w2.cell? ⟨w.heap.size + 1, i, none⟩ = #[Value.int .i64 x.k, .int .i64 x.j, .int .i64 x.v, .int .i64 x.t, .int .i64 x.c][i]? := fun i => Joins.cell_of_block (H2.out.at (.head _)) i
  go_wp2_with fail
  refine (pP.out _ (H2.out.books (.head _))).mono ?_
  rintro e w3 ⟨u1, u2, rfl, hT3, hb3⟩
  have hT3 : BkAt w3 u1 u2 (⟨c.p, c.d, c.e, c.a, c.l, (c.n + 1), J, Q⟩ : Cl) := by first | exact hT3 | exact hT3.1
  have H3 : Aside _ := (H2.out.later hb3).book hT3
  obtain ⟨s3, o3, t3, p3, rfl, rfl⟩ := bk_slices hT3.1 hT3.2
  clear hb3 H2 hT3 z ze pP
  obtain ⟨j3, hj3⟩ : ∃ n, Hid (J.length = n) := ⟨_, rfl⟩
  obtain ⟨q3, hq3⟩ : ∃ n, Hid (Q.length = n) := ⟨_, rfl⟩
  rw [hj3.out, hq3.out] at H3 ⊢
  go_upto_region 5 with fail
  have H4 : Aside _ := H3.out.boxed (boxC (⟨c.p, c.d, c.e, c.a, c.l, (c.n + 1), J, Q⟩ : Cl) (.slice s3 j3 o3) (.slice t3 q3 p3))
  clear H3
  generalize w3.alloc (boxC (⟨c.p, c.d, c.e, c.a, c.l, (c.n + 1), J, Q⟩ : Cl) (.slice s3 j3 o3) (.slice t3 q3 p3)) = w4 at *
  generalize w3.heap.size = g1 at *
  have zp : ∀ i, w4.cell? ⟨g1, i, none⟩ = #[Value.int .i64 (⟨c.p, c.d, c.e, c.a, c.l, (c.n + 1), J, Q⟩ : Cl).p, .int .i64 (⟨c.p, c.d, c.e, c.a, c.l, (c.n + 1), J, Q⟩ : Cl).d, .int .i64 (⟨c.p, c.d, c.e, c.a, c.l, (c.n + 1), J, Q⟩ : Cl).e.k, .int .i64 (⟨c.p, c.d, c.e, c.a, c.l, (c.n + 1), J, Q⟩ : Cl).e.j, .int .i64 (⟨c.p, c.d, c.e, c.a, c.l, (c.n + 1), J, Q⟩ : Cl).e.v, .int .i64 (⟨c.p, c.d, c.e, c.a, c.l, (c.n + 1), J, Q⟩ : Cl).e.t, .int .i64 (⟨c.p, c.d, c.e, c.a, c.l, (c.n + 1), J, Q⟩ : Cl).e.c, .int .i64 (⟨c.p, c.d, c.e, c.a, c.l, (c.n + 1), J, Q⟩ : Cl).a, .int .i64 (⟨c.p, c.d, c.e, c.a, c.l, (c.n + 1), J, Q⟩ : Cl).l, .int .i64 (⟨c.p, c.d, c.e, c.a, c.l, (c.n + 1), J, Q⟩ : Cl).n, .slice s3 j3 o3, .slice t3 q3 p3][i]? := fun i => Joins.cell_of_block (H4.out.at (.head _)) i
  have z : ∀ i, w4.cell? ⟨w.heap.size, i, none⟩ = #[Value.int .i64 c.p, .int .i64 c.d, .int .i64 c.e.k, .int .i64 c.e.j, .int .i64 c.e.v, .int .i64 c.e.t, .int .i64 c.e.c, .int .i64 c.a, .int .i64 c.l, .int .i64 c.n, .slice a1 m1 k1, .slice a2 m2 k2][i]? := fun i => Joins.cell_of_block (H4.out.at (.tail _ (.tail _ (.head _)))) i
  go_wp2_with fail
  refine (cP.out _ _ _ (H4.out.books (.head _))).mono ?_
  rintro e w5 ⟨rfl, hb5⟩
  have H5 : Aside (HeldC w w5 [(g1, boxC (⟨c.p, c.d, c.e, c.a, c.l, (c.n + 1), J, Q⟩ : Cl) (.slice s3 j3 o3) (.slice t3 q3 p3)), (w.heap.size + 1, boxE x.k x.j x.v x.t x.c), (w.heap.size, boxC c (.slice a1 m1 k1) (.slice a2 m2 k2))] [((.slice s3 j3 o3), (.slice t3 q3 p3), (⟨c.p, c.d, c.e, c.a, c.l, (c.n + 1), J, Q⟩ : Cl)), ((.slice a1 m1 k1), (.slice a2 m2 k2), c)]) := H4.out.later hb5
  clear hb5 H4 zp z cP
  have zp : ∀ i, w5.cell? ⟨g1, i, none⟩ = #[Value.int .i64 (⟨c.p, c.d, c.e, c.a, c.l, (c.n + 1), J, Q⟩ : Cl).p, .int .i64 (⟨c.p, c.d, c.e, c.a, c.l, (c.n + 1), J, Q⟩ : Cl).d, .int .i64 (⟨c.p, c.d, c.e, c.a, c.l, (c.n + 1), J, Q⟩ : Cl).e.k, .int .i64 (⟨c.p, c.d, c.e, c.a, c.l, (c.n + 1), J, Q⟩ : Cl).e.j, .int .i64 (⟨c.p, c.d, c.e, c.a, c.l, (c.n + 1), J, Q⟩ : Cl).e.v, .int .i64 (⟨c.p, c.d, c.e, c.a, c.l, (c.n + 1), J, Q⟩ : Cl).e.t, .int .i64 (⟨c.p, c.d, c.e, c.a, c.l, (c.n + 1), J, Q⟩ : Cl).e.c, .int .i64 (⟨c.p, c.d, c.e, c.a, c.l, (c.n + 1), J, Q⟩ : Cl).a, .int .i64 (⟨c.p, c.d, c.e, c.a, c.l, (c.n + 1), J, Q⟩ : Cl).l, .int .i64 (⟨c.p, c.d, c.e, c.a, c.l, (c.n + 1), J, Q⟩ : Cl).n, .slice s3 j3 o3, .slice t3 q3 p3][i]? := fun i => Joins.cell_of_block (H5.out.at (.head _)) i
  have z : ∀ i, w5.cell? ⟨w.heap.size, i, none⟩ = #[Value.int .i64 c.p, .int .i64 c.d, .int .i64 c.e.k, .int .i64 c.e.j, .int .i64 c.e.v, .int .i64 c.e.t, .int .i64 c.e.c, .int .i64 c.a, .int .i64 c.l, .int .i64 c.n, .slice a1 m1 k1, .slice a2 m2 k2][i]? := fun i => Joins.cell_of_block (H5.out.at (.tail _ (.tail _ (.head _)))) i
  have hne := fun W => neq_entry c.e.k c.e.j c.e.v c.e.t c.e.c c.e.k c.e.j c.e.v c.e.t c.e.c W
  rw [show unlike c.e.k c.e.j c.e.v c.e.t c.e.c c.e.k c.e.j c.e.v c.e.t c.e.c = false from ne_self c.e] at hne
  go_upto_region 7 with fail
  clear zp z hne
  have z : ∀ i, w5.cell? ⟨w.heap.size, i, none⟩ = #[Value.int .i64 c.p, .int .i64 c.d, .int .i64 c.e.k, .int .i64 c.e.j, .int .i64 c.e.v, .int .i64 c.e.t, .int .i64 c.e.c, .int .i64 c.a, .int .i64 c.l, .int .i64 c.n, .slice a1 m1 k1, .slice a2 m2 k2][i]? := fun i => Joins.cell_of_block (H5.out.at (.tail _ (.tail _ (.head _)))) i
  go_wp2_with fail
  refine (pF.out _ (H5.out.books (.tail _ (.head _)))).mono ?_
  rintro e w6 ⟨u1, u2, rfl, hT6, hb6⟩
  have hT6 : BkAt w6 u1 u2 RF := by first | exact hT6 | exact hT6.1
  have H6 : Aside _ := (H5.out.later hb6).book hT6
  obtain ⟨s6, o6, t6, p6, rfl, rfl⟩ := bk_slices hT6.1 hT6.2
  clear hb6 H5 hT6 z pF
  obtain ⟨j6, hj6⟩ : ∃ n, Hid (RF.js.length = n) := ⟨_, rfl⟩
  obtain ⟨q6, hq6⟩ : ∃ n, Hid (RF.rs.length = n) := ⟨_, rfl⟩
  rw [hj6.out, hq6.out] at H6 ⊢
  go_upto_region 8 with fail
  have H7 : Aside _ := H6.out.boxed (boxC RF (.slice s6 j6 o6) (.slice t6 q6 p6))
  clear H6
  generalize w6.alloc (boxC RF (.slice s6 j6 o6) (.slice t6 q6 p6)) = w7 at *
  generalize w6.heap.size = g2 at *
  have z : ∀ i, w7.cell? ⟨w.heap.size, i, none⟩ = #[Value.int .i64 c.p, .int .i64 c.d, .int .i64 c.e.k, .int .i64 c.e.j, .int .i64 c.e.v, .int .i64 c.e.t, .int .i64 c.e.c, .int .i64 c.a, .int .i64 c.l, .int .i64 c.n, .slice a1 m1 k1, .slice a2 m2 k2][i]? := fun i => Joins.cell_of_block (H7.out.at (.tail _ (.tail _ (.tail _ (.head _))))) i
  have HB := H7.out.below
  clear H7
  go_wp2
  go_ret
  exact ⟨rfl, HB⟩

end Go.Proofs.Ytbokdcdnandgbae
namespace Go.Proofs.Ytbokdcdnandgbae
open Go.RowKit

/-- Along the units. -/
def fk (c : Cl) (x : En) (q : Int) : Nat → Cl
  | 0 => ⟨c.p, 2, x, q, 1, c.n, c.js, c.rs⟩
  | 1 => ⟨c.p, 2, x, q, 2, c.n, c.js, c.rs⟩
  | _ => ⟨c.p, 0, En.zero, 0, 0, c.n, c.js, c.rs⟩
theorem fk_js (c : Cl) (x : En) (q : Int) (k : Nat) : (fk c x q k).js = c.js := by
  match k with
  | 0 => rfl
  | 1 => rfl
  | k + 2 => rfl
theorem fk_rs (c : Cl) (x : En) (q : Int) (k : Nat) : (fk c x q k).rs = c.rs := by
  match k with
  | 0 => rfl
  | 1 => rfl
  | k + 2 => rfl
theorem fk_ok {c : Cl} {x : En} {q : Int} (h : (⟨c.p, 2, En.zero, q, 0, c.n, c.js, c.rs⟩ : Cl).ck = 0) (hx : x.chk = 0) :
    (hearOf ⟨c.p, 2, En.zero, q, 0, c.n, c.js, c.rs⟩ x = (fk c x q 0, 0) ∧ (fk c x q 0).ck = 0) ∧ (hearOf (fk c x q 0) x = (fk c x q 1, 0) ∧ (fk c x q 1).ck = 0) ∧ (hearOf (fk c x q 1) x = (fk c x q 2, 0) ∧ (fk c x q 2).ck = 0) := by
  have k0 := hear_on h hx (Or.inl rfl) (by omega)
  rw [show (0 : Int) + 1 = 1 from rfl] at k0
  have k1 := hear_on k0.2 hx (Or.inr rfl) (by omega)
  rw [show (1 : Int) + 1 = 2 from rfl] at k1
  exact ⟨k0, k1, hear_last k1.2 hx (Or.inr rfl)⟩
theorem fk_hear {c : Cl} {x : En} {q : Int} (h : (⟨c.p, 2, En.zero, q, 0, c.n, c.js, c.rs⟩ : Cl).ck = 0) (hx : x.chk = 0) (k : Nat) (hk : k < 2) : hearOf (fk c x q k) x = (fk c x q (k + 1), 0) := by
  have h2 := fk_ok h hx
  rcases (show k = 0 ∨ k = 1 by omega) with rfl | rfl
  · exact h2.2.1.1
  · exact h2.2.2.1
theorem fk_ck {c : Cl} {x : En} {q : Int} (h : (⟨c.p, 2, En.zero, q, 0, c.n, c.js, c.rs⟩ : Cl).ck = 0) (hx : x.chk = 0) (k : Nat) (hk : k < 3) : (fk c x q k).ck = 0 := by
  have h2 := fk_ok h hx
  rcases (show k = 0 ∨ k = 1 ∨ k = 2 by omega) with rfl | rfl | rfl
  · exact h2.1.2
  · exact h2.2.1.2
  · exact h2.2.2.2
theorem st12_far {W : World} {b g : Nat} (hne : g ≠ b) (c : Cl) (v1 v2 : Value) : (st12 W b c v1 v2).heap[g]? = W.heap[g]? := by
  unfold st12
  rw [Below.heap_setCell _ _ _ _ (by exact hne), Below.heap_setCell _ _ _ _ (by exact hne), Below.heap_setCell _ _ _ _ (by exact hne), Below.heap_setCell _ _ _ _ (by exact hne), Below.heap_setCell _ _ _ _ (by exact hne), Below.heap_setCell _ _ _ _ (by exact hne), Below.heap_setCell _ _ _ _ (by exact hne), Below.heap_setCell _ _ _ _ (by exact hne), Below.heap_setCell _ _ _ _ (by exact hne), Below.heap_setCell _ _ _ _ (by exact hne), Below.heap_setCell _ _ _ _ (by exact hne), Below.heap_setCell _ _ _ _ (by exact hne)]

set_option linter.unusedSimpArgs false in
set_option maxHeartbeats 8000000 in
set_option maxRecDepth 100000 in
theorem ke_noent0 (c : Cl) (x : En) (q0 q : Int) (a1 a2 : Option Addr) (m1 k1 m2 k2 : Nat) (w : World) (hb : BkAt w (.slice a1 m1 k1) (.slice a2 m2 k2) c) (_hs : Slim c) (hq : 0 ≤ q ∧ q ≤ 59) (hat : ∀ W, Calls Try.prog 8 #[.int .i64 q0, .int .i64 60] W fun e w' => e = .returned (.int .i64 q) ∧ w' = W) (hck : c.ck = 0) (RP : Cl) (eP : Int) (hP : playOf c x = (RP, eP)) (hz : (eP == 0) = false) (hd : c.d = 0) (ex : Int) (hx : x.chk = ex) (hzx : (ex != 0) = true) :
    Calls Try.prog 6 #[c.val (.slice a1 m1 k1) (.slice a2 m2 k2), .int .i64 q0, x.val] w fun e w' => e = .returned (.bool true) ∧ Below w.heap.size w w' := by
  have pC : Aside (∀ W, BkAt W (.slice a1 m1 k1) (.slice a2 m2 k2) c → Calls Try.prog 23 #[c.val (.slice a1 m1 k1) (.slice a2 m2 k2)] W fun e w' => e = .returned (.int .i64 0) ∧ Below W.heap.size W w') := fun W hB => by have := cl_check c _ _ W hB; rw [hck] at this; exact this
  have pP : Aside (∀ W, BkAt W (.slice a1 m1 k1) (.slice a2 m2 k2) c → AnsT 29 #[c.val (.slice a1 m1 k1) (.slice a2 m2 k2), x.val] W (RP, eP)) := fun W hB => by have := cl_play c x _ _ W hB; rw [hP] at this; exact this
  have hFF := ((fill_ok hck hq).2 hd)
  obtain ⟨RF, hRF⟩ : ∃ R : Cl, Hid (R = ⟨c.p, 2, En.zero, q, 0, c.n, c.js, c.rs⟩) := ⟨_, rfl⟩
  have hF : placeOf 0 c q = (RF, 0) := by rw [hRF.out]; exact hFF.1
  have hFk : RF.ck = 0 := by have := hFF.2; rw [hFF.1] at this; rw [hRF.out]; exact this
  have pF : Aside (∀ W, BkAt W (.slice a1 m1 k1) (.slice a2 m2 k2) c → AnsT 18 #[c.val (.slice a1 m1 k1) (.slice a2 m2 k2), .int .i64 q] W (RF, 0)) := fun W hB => by have := cl_fill c q _ _ W hB; rw [hF] at this; exact this
  have pH : Aside (∀ W u v, BkAt W u v RF → AnsT 28 #[RF.val u v, x.val] W (Cl.zero, ex)) := fun W u v hB => by
    have := cl_heard RF x _ _ W hB
    rw [hear_bad hFk (by rw [hx]; rw [bne_iff_ne] at hzx; exact hzx), hx] at this
    exact this
  have H0 : Aside (HeldC w ((w.alloc (boxC c (.slice a1 m1 k1) (.slice a2 m2 k2))).alloc (boxE x.k x.j x.v x.t x.c)) [(w.heap.size + 1, boxE x.k x.j x.v x.t x.c), (w.heap.size, boxC c (.slice a1 m1 k1) (.slice a2 m2 k2))] [((.slice a1 m1 k1), (.slice a2 m2 k2), c)]) := by
    have h0 : HeldC w w [] [((.slice a1 m1 k1), (.slice a2 m2 k2), c)] := ⟨Below.refl _ _, (fun p hp => by cases hp), fun p hp => by
      simp only [List.mem_cons, List.not_mem_nil, or_false] at hp
      subst hp
      exact hb⟩
    have h1 := (h0.boxed (boxC c (.slice a1 m1 k1) (.slice a2 m2 k2))).boxed (boxE x.k x.j x.v x.t x.c)
    rw [World.size_alloc] at h1
    exact h1
  have HD : Hid (c.d = 0) := hd
  clear hb hck hP hd hF hFk hFF hx hq
  go_enter Try.func6, Try.ntmps6
  go_upto_region 1 with fail
  generalize ((w.alloc (boxC c (.slice a1 m1 k1) (.slice a2 m2 k2))).alloc (boxE x.k x.j x.v x.t x.c)) = w0 at *
  go_wp2_with fail
  refine (hat _).mono ?_
  rintro e wx ⟨rfl, hwx⟩
  obtain rfl : w0 = wx := hwx.symm
  clear hat
  go_wp2_with fail
  refine (lc_heard _).mono ?_
  rintro e w1 ⟨rfl, hb1⟩
  have H1 : Aside (HeldC w w1 [(w.heap.size + 1, boxE x.k x.j x.v x.t x.c), (w.heap.size, boxC c (.slice a1 m1 k1) (.slice a2 m2 k2))] [((.slice a1 m1 k1), (.slice a2 m2 k2), c)]) := H0.out.later hb1
  clear hb1 H0 
  have z : ∀ i, w1.cell? ⟨w.heap.size, i, none⟩ = #[Value.int .i64 c.p, .int .i64 c.d, .int .i64 c.e.k, .int .i64 c.e.j, .int .i64 c.e.v, .int .i64 c.e.t, .int .i64 c.e.c, .int .i64 c.a, .int .i64 c.l, .int .i64 c.n, .slice a1 m1 k1, .slice a2 m2 k2][i]? := fun i => Joins.cell_of_block (H1.out.at (.tail _ (.head _))) i
  go_wp2_with fail
  refine (pC.out _ (H1.out.books (.head _))).mono ?_
  rintro e w2 ⟨rfl, hb2⟩
  have H2 : Aside (HeldC w w2 [(w.heap.size + 1, boxE x.k x.j x.v x.t x.c), (w.heap.size, boxC c (.slice a1 m1 k1) (.slice a2 m2 k2))] [((.slice a1 m1 k1), (.slice a2 m2 k2), c)]) := H1.out.later hb2
  clear hb2 H1 z pC
  have z : ∀ i, w2.cell? ⟨w.heap.size, i, none⟩ = #[Value.int .i64 c.p, .int .i64 c.d, .int .i64 c.e.k, .int .i64 c.e.j, .int .i64 c.e.v, .int .i64 c.e.t, .int .i64 c.e.c, .int .i64 c.a, .int .i64 c.l, .int .i64 c.n, .slice a1 m1 k1, .slice a2 m2 k2][i]? := fun i => Joins.cell_of_block (H2.out.at (.tail _ (.head _))) i
  have ze : ∀ i, w2.cell? ⟨w.heap.size + 1, i, none⟩ = #[Value.int .i64 x.k, .int .i64 x.j, .int .i64 x.v, .int .i64 x.t, .int .i64 x.c][i]? := fun i => Joins.cell_of_block (H2.out.at (.head _)) i
  go_wp2_with fail
  refine (pP.out _ (H2.out.books (.head _))).mono ?_
  rintro e w3 ⟨u1, u2, rfl, hT3, hb3⟩
  have hT3 : BkAt w3 u1 u2 RP := by first | exact hT3 | exact hT3.1
  have H3 : Aside _ := (H2.out.later hb3).book hT3
  obtain ⟨s3, o3, t3, p3, rfl, rfl⟩ := bk_slices hT3.1 hT3.2
  clear hb3 H2 hT3 z ze pP
  obtain ⟨j3, hj3⟩ : ∃ n, Hid (RP.js.length = n) := ⟨_, rfl⟩
  obtain ⟨q3, hq3⟩ : ∃ n, Hid (RP.rs.length = n) := ⟨_, rfl⟩
  rw [hj3.out, hq3.out] at H3 ⊢
  go_upto_region 5 with fail
  have H4 : Aside _ := H3.out.boxed (boxC RP (.slice s3 j3 o3) (.slice t3 q3 p3))
  clear H3
  generalize w3.alloc (boxC RP (.slice s3 j3 o3) (.slice t3 q3 p3)) = w4 at *
  generalize w3.heap.size = g1 at *
  have z : ∀ i, w4.cell? ⟨w.heap.size, i, none⟩ = #[Value.int .i64 c.p, .int .i64 c.d, .int .i64 c.e.k, .int .i64 c.e.j, .int .i64 c.e.v, .int .i64 c.e.t, .int .i64 c.e.c, .int .i64 c.a, .int .i64 c.l, .int .i64 c.n, .slice a1 m1 k1, .slice a2 m2 k2][i]? := fun i => Joins.cell_of_block (H4.out.at (.tail _ (.tail _ (.head _)))) i
  go_wp2_with fail
  refine (pF.out _ (H4.out.books (.tail _ (.head _)))).mono ?_
  rintro e w5 ⟨u1, u2, rfl, hT5, hb5⟩
  have hT5 : BkAt w5 u1 u2 RF := by first | exact hT5 | exact hT5.1
  have H5 : Aside _ := (H4.out.later hb5).book hT5
  obtain ⟨s5, o5, t5, p5, rfl, rfl⟩ := bk_slices hT5.1 hT5.2
  clear hb5 H4 hT5 z pF
  obtain ⟨j5, hj5⟩ : ∃ n, Hid (RF.js.length = n) := ⟨_, rfl⟩
  obtain ⟨q5, hq5⟩ : ∃ n, Hid (RF.rs.length = n) := ⟨_, rfl⟩
  rw [hj5.out, hq5.out] at H5 ⊢
  go_upto_region 8 with fail
  have H6 : Aside _ := H5.out.boxed (boxC RF (.slice s5 j5 o5) (.slice t5 q5 p5))
  clear H5
  generalize w5.alloc (boxC RF (.slice s5 j5 o5) (.slice t5 q5 p5)) = w6 at *
  generalize w5.heap.size = g2 at *
  have z : ∀ i, w6.cell? ⟨w.heap.size, i, none⟩ = #[Value.int .i64 c.p, .int .i64 c.d, .int .i64 c.e.k, .int .i64 c.e.j, .int .i64 c.e.v, .int .i64 c.e.t, .int .i64 c.e.c, .int .i64 c.a, .int .i64 c.l, .int .i64 c.n, .slice a1 m1 k1, .slice a2 m2 k2][i]? := fun i => Joins.cell_of_block (H6.out.at (.tail _ (.tail _ (.tail _ (.head _))))) i
  have hdb : (c.d == 0) = true := by rw [HD.out]; rfl
  go_upto_region 12 with fail
  clear z hdb
  have z : ∀ i, w6.cell? ⟨g2, i, none⟩ = #[Value.int .i64 RF.p, .int .i64 RF.d, .int .i64 RF.e.k, .int .i64 RF.e.j, .int .i64 RF.e.v, .int .i64 RF.e.t, .int .i64 RF.e.c, .int .i64 RF.a, .int .i64 RF.l, .int .i64 RF.n, .slice s5 j5 o5, .slice t5 q5 p5][i]? := fun i => Joins.cell_of_block (H6.out.at (.head _)) i
  have ze : ∀ i, w6.cell? ⟨w.heap.size + 1, i, none⟩ = #[Value.int .i64 x.k, .int .i64 x.j, .int .i64 x.v, .int .i64 x.t, .int .i64 x.c][i]? := fun i => Joins.cell_of_block (H6.out.at (.tail _ (.tail _ (.head _)))) i
  go_wp2_with fail
  refine (pH.out _ _ _ (H6.out.books (.head _))).mono ?_
  rintro e w7 ⟨u1, u2, rfl, hT7, hb7⟩
  have hT7 : BkAt w7 u1 u2 Cl.zero := by first | exact hT7 | exact hT7.1
  have H7 : Aside _ := (H6.out.later hb7).book hT7
  obtain ⟨s7, o7, t7, p7, rfl, rfl⟩ := bk_slices hT7.1 hT7.2
  clear hb7 H6 hT7 z ze pH
  obtain ⟨j7, hj7⟩ : ∃ n, Hid (Cl.zero.js.length = n) := ⟨_, rfl⟩
  obtain ⟨q7, hq7⟩ : ∃ n, Hid (Cl.zero.rs.length = n) := ⟨_, rfl⟩
  rw [hj7.out, hq7.out] at H7 ⊢
  go_upto_region 13 with fail
  have H8 : Aside _ := H7.out.boxed (boxC Cl.zero (.slice s7 j7 o7) (.slice t7 q7 p7))
  clear H7
  generalize w7.alloc (boxC Cl.zero (.slice s7 j7 o7) (.slice t7 q7 p7)) = w8 at *
  generalize w7.heap.size = g3 at *
  go_wp2_with fail
  have HB := H8.out.below
  clear H8
  go_loopw [91, 8] (fun i e wr => i = .int .i64 0 ∧ e = .int .i64 ex ∧ Hid (Below w.heap.size w wr)) (fun i _ _ => 1)
  case atStart => exact ⟨rfl, rfl, HB⟩
  case round =>
    obtain ⟨rfl, rfl, hB⟩ := hrel
    clear HB
    go_wp2
    go_ret
    exact ⟨rfl, hB.out⟩

set_option linter.unusedSimpArgs false in
set_option maxHeartbeats 8000000 in
set_option maxRecDepth 100000 in
theorem ke_noent1 (c : Cl) (x : En) (q0 q : Int) (a1 a2 : Option Addr) (m1 k1 m2 k2 : Nat) (w : World) (hb : BkAt w (.slice a1 m1 k1) (.slice a2 m2 k2) c) (_hs : Slim c) (hq : 0 ≤ q ∧ q ≤ 59) (hat : ∀ W, Calls Try.prog 8 #[.int .i64 q0, .int .i64 60] W fun e w' => e = .returned (.int .i64 q) ∧ w' = W) (hck : c.ck = 0) (J : List Jb) (Q : List Rg) (hw : IntKind.i64.wrap (c.n + 1) = c.n + 1) (hP : playOf c x = (⟨c.p, c.d, c.e, c.a, c.l, c.n + 1, J, Q⟩, 0)) (hPk : (⟨c.p, c.d, c.e, c.a, c.l, c.n + 1, J, Q⟩ : Cl).ck = 0) (hd : c.d = 0) (ex : Int) (hx : x.chk = ex) (hzx : (ex != 0) = true) :
    Calls Try.prog 6 #[c.val (.slice a1 m1 k1) (.slice a2 m2 k2), .int .i64 q0, x.val] w fun e w' => e = .returned (.bool true) ∧ Below w.heap.size w w' := by
  have cP : Aside (∀ W u v, BkAt W u v (⟨c.p, c.d, c.e, c.a, c.l, (c.n + 1), J, Q⟩ : Cl) → Calls Try.prog 23 #[(⟨c.p, c.d, c.e, c.a, c.l, (c.n + 1), J, Q⟩ : Cl).val u v] W fun e w' => e = .returned (.int .i64 0) ∧ Below W.heap.size W w') := fun W u v hB => by have := cl_check (⟨c.p, c.d, c.e, c.a, c.l, (c.n + 1), J, Q⟩ : Cl) _ _ W hB; rw [hPk] at this; exact this
  have pC : Aside (∀ W, BkAt W (.slice a1 m1 k1) (.slice a2 m2 k2) c → Calls Try.prog 23 #[c.val (.slice a1 m1 k1) (.slice a2 m2 k2)] W fun e w' => e = .returned (.int .i64 0) ∧ Below W.heap.size W w') := fun W hB => by have := cl_check c _ _ W hB; rw [hck] at this; exact this
  have pP : Aside (∀ W, BkAt W (.slice a1 m1 k1) (.slice a2 m2 k2) c → AnsT 29 #[c.val (.slice a1 m1 k1) (.slice a2 m2 k2), x.val] W ((⟨c.p, c.d, c.e, c.a, c.l, (c.n + 1), J, Q⟩ : Cl), 0)) := fun W hB => by have := cl_play c x _ _ W hB; rw [hP] at this; exact this
  have hFF := ((fill_ok hck hq).2 hd)
  obtain ⟨RF, hRF⟩ : ∃ R : Cl, Hid (R = ⟨c.p, 2, En.zero, q, 0, c.n, c.js, c.rs⟩) := ⟨_, rfl⟩
  have hF : placeOf 0 c q = (RF, 0) := by rw [hRF.out]; exact hFF.1
  have hFk : RF.ck = 0 := by have := hFF.2; rw [hFF.1] at this; rw [hRF.out]; exact this
  have pF : Aside (∀ W, BkAt W (.slice a1 m1 k1) (.slice a2 m2 k2) c → AnsT 18 #[c.val (.slice a1 m1 k1) (.slice a2 m2 k2), .int .i64 q] W (RF, 0)) := fun W hB => by have := cl_fill c q _ _ W hB; rw [hF] at this; exact this
  have pH : Aside (∀ W u v, BkAt W u v RF → AnsT 28 #[RF.val u v, x.val] W (Cl.zero, ex)) := fun W u v hB => by
    have := cl_heard RF x _ _ W hB
    rw [hear_bad hFk (by rw [hx]; rw [bne_iff_ne] at hzx; exact hzx), hx] at this
    exact this
  have H0 : Aside (HeldC w ((w.alloc (boxC c (.slice a1 m1 k1) (.slice a2 m2 k2))).alloc (boxE x.k x.j x.v x.t x.c)) [(w.heap.size + 1, boxE x.k x.j x.v x.t x.c), (w.heap.size, boxC c (.slice a1 m1 k1) (.slice a2 m2 k2))] [((.slice a1 m1 k1), (.slice a2 m2 k2), c)]) := by
    have h0 : HeldC w w [] [((.slice a1 m1 k1), (.slice a2 m2 k2), c)] := ⟨Below.refl _ _, (fun p hp => by cases hp), fun p hp => by
      simp only [List.mem_cons, List.not_mem_nil, or_false] at hp
      subst hp
      exact hb⟩
    have h1 := (h0.boxed (boxC c (.slice a1 m1 k1) (.slice a2 m2 k2))).boxed (boxE x.k x.j x.v x.t x.c)
    rw [World.size_alloc] at h1
    exact h1
  have HD : Hid (c.d = 0) := hd
  clear hb hck hP hd hPk hF hFk hFF hx hq
  go_enter Try.func6, Try.ntmps6
  go_upto_region 1 with fail
  generalize ((w.alloc (boxC c (.slice a1 m1 k1) (.slice a2 m2 k2))).alloc (boxE x.k x.j x.v x.t x.c)) = w0 at *
  go_wp2_with fail
  refine (hat _).mono ?_
  rintro e wx ⟨rfl, hwx⟩
  obtain rfl : w0 = wx := hwx.symm
  clear hat
  go_wp2_with fail
  refine (lc_heard _).mono ?_
  rintro e w1 ⟨rfl, hb1⟩
  have H1 : Aside (HeldC w w1 [(w.heap.size + 1, boxE x.k x.j x.v x.t x.c), (w.heap.size, boxC c (.slice a1 m1 k1) (.slice a2 m2 k2))] [((.slice a1 m1 k1), (.slice a2 m2 k2), c)]) := H0.out.later hb1
  clear hb1 H0 
  have z : ∀ i, w1.cell? ⟨w.heap.size, i, none⟩ = #[Value.int .i64 c.p, .int .i64 c.d, .int .i64 c.e.k, .int .i64 c.e.j, .int .i64 c.e.v, .int .i64 c.e.t, .int .i64 c.e.c, .int .i64 c.a, .int .i64 c.l, .int .i64 c.n, .slice a1 m1 k1, .slice a2 m2 k2][i]? := fun i => Joins.cell_of_block (H1.out.at (.tail _ (.head _))) i
  go_wp2_with fail
  refine (pC.out _ (H1.out.books (.head _))).mono ?_
  rintro e w2 ⟨rfl, hb2⟩
  have H2 : Aside (HeldC w w2 [(w.heap.size + 1, boxE x.k x.j x.v x.t x.c), (w.heap.size, boxC c (.slice a1 m1 k1) (.slice a2 m2 k2))] [((.slice a1 m1 k1), (.slice a2 m2 k2), c)]) := H1.out.later hb2
  clear hb2 H1 z pC
  have z : ∀ i, w2.cell? ⟨w.heap.size, i, none⟩ = #[Value.int .i64 c.p, .int .i64 c.d, .int .i64 c.e.k, .int .i64 c.e.j, .int .i64 c.e.v, .int .i64 c.e.t, .int .i64 c.e.c, .int .i64 c.a, .int .i64 c.l, .int .i64 c.n, .slice a1 m1 k1, .slice a2 m2 k2][i]? := fun i => Joins.cell_of_block (H2.out.at (.tail _ (.head _))) i
  have ze : ∀ i, w2.cell? ⟨w.heap.size + 1, i, none⟩ = #[Value.int .i64 x.k, .int .i64 x.j, .int .i64 x.v, .int .i64 x.t, .int .i64 x.c][i]? := fun i => Joins.cell_of_block (H2.out.at (.head _)) i
  go_wp2_with fail
  refine (pP.out _ (H2.out.books (.head _))).mono ?_
  rintro e w3 ⟨u1, u2, rfl, hT3, hb3⟩
  have hT3 : BkAt w3 u1 u2 (⟨c.p, c.d, c.e, c.a, c.l, (c.n + 1), J, Q⟩ : Cl) := by first | exact hT3 | exact hT3.1
  have H3 : Aside _ := (H2.out.later hb3).book hT3
  obtain ⟨s3, o3, t3, p3, rfl, rfl⟩ := bk_slices hT3.1 hT3.2
  clear hb3 H2 hT3 z ze pP
  obtain ⟨j3, hj3⟩ : ∃ n, Hid (J.length = n) := ⟨_, rfl⟩
  obtain ⟨q3, hq3⟩ : ∃ n, Hid (Q.length = n) := ⟨_, rfl⟩
  rw [hj3.out, hq3.out] at H3 ⊢
  go_upto_region 5 with fail
  have H4 : Aside _ := H3.out.boxed (boxC (⟨c.p, c.d, c.e, c.a, c.l, (c.n + 1), J, Q⟩ : Cl) (.slice s3 j3 o3) (.slice t3 q3 p3))
  clear H3
  generalize w3.alloc (boxC (⟨c.p, c.d, c.e, c.a, c.l, (c.n + 1), J, Q⟩ : Cl) (.slice s3 j3 o3) (.slice t3 q3 p3)) = w4 at *
  generalize w3.heap.size = g1 at *
  have zp : ∀ i, w4.cell? ⟨g1, i, none⟩ = #[Value.int .i64 (⟨c.p, c.d, c.e, c.a, c.l, (c.n + 1), J, Q⟩ : Cl).p, .int .i64 (⟨c.p, c.d, c.e, c.a, c.l, (c.n + 1), J, Q⟩ : Cl).d, .int .i64 (⟨c.p, c.d, c.e, c.a, c.l, (c.n + 1), J, Q⟩ : Cl).e.k, .int .i64 (⟨c.p, c.d, c.e, c.a, c.l, (c.n + 1), J, Q⟩ : Cl).e.j, .int .i64 (⟨c.p, c.d, c.e, c.a, c.l, (c.n + 1), J, Q⟩ : Cl).e.v, .int .i64 (⟨c.p, c.d, c.e, c.a, c.l, (c.n + 1), J, Q⟩ : Cl).e.t, .int .i64 (⟨c.p, c.d, c.e, c.a, c.l, (c.n + 1), J, Q⟩ : Cl).e.c, .int .i64 (⟨c.p, c.d, c.e, c.a, c.l, (c.n + 1), J, Q⟩ : Cl).a, .int .i64 (⟨c.p, c.d, c.e, c.a, c.l, (c.n + 1), J, Q⟩ : Cl).l, .int .i64 (⟨c.p, c.d, c.e, c.a, c.l, (c.n + 1), J, Q⟩ : Cl).n, .slice s3 j3 o3, .slice t3 q3 p3][i]? := fun i => Joins.cell_of_block (H4.out.at (.head _)) i
  have z : ∀ i, w4.cell? ⟨w.heap.size, i, none⟩ = #[Value.int .i64 c.p, .int .i64 c.d, .int .i64 c.e.k, .int .i64 c.e.j, .int .i64 c.e.v, .int .i64 c.e.t, .int .i64 c.e.c, .int .i64 c.a, .int .i64 c.l, .int .i64 c.n, .slice a1 m1 k1, .slice a2 m2 k2][i]? := fun i => Joins.cell_of_block (H4.out.at (.tail _ (.tail _ (.head _)))) i
  go_wp2_with fail
  refine (cP.out _ _ _ (H4.out.books (.head _))).mono ?_
  rintro e w5 ⟨rfl, hb5⟩
  have H5 : Aside (HeldC w w5 [(g1, boxC (⟨c.p, c.d, c.e, c.a, c.l, (c.n + 1), J, Q⟩ : Cl) (.slice s3 j3 o3) (.slice t3 q3 p3)), (w.heap.size + 1, boxE x.k x.j x.v x.t x.c), (w.heap.size, boxC c (.slice a1 m1 k1) (.slice a2 m2 k2))] [((.slice s3 j3 o3), (.slice t3 q3 p3), (⟨c.p, c.d, c.e, c.a, c.l, (c.n + 1), J, Q⟩ : Cl)), ((.slice a1 m1 k1), (.slice a2 m2 k2), c)]) := H4.out.later hb5
  clear hb5 H4 zp z cP
  have zp : ∀ i, w5.cell? ⟨g1, i, none⟩ = #[Value.int .i64 (⟨c.p, c.d, c.e, c.a, c.l, (c.n + 1), J, Q⟩ : Cl).p, .int .i64 (⟨c.p, c.d, c.e, c.a, c.l, (c.n + 1), J, Q⟩ : Cl).d, .int .i64 (⟨c.p, c.d, c.e, c.a, c.l, (c.n + 1), J, Q⟩ : Cl).e.k, .int .i64 (⟨c.p, c.d, c.e, c.a, c.l, (c.n + 1), J, Q⟩ : Cl).e.j, .int .i64 (⟨c.p, c.d, c.e, c.a, c.l, (c.n + 1), J, Q⟩ : Cl).e.v, .int .i64 (⟨c.p, c.d, c.e, c.a, c.l, (c.n + 1), J, Q⟩ : Cl).e.t, .int .i64 (⟨c.p, c.d, c.e, c.a, c.l, (c.n + 1), J, Q⟩ : Cl).e.c, .int .i64 (⟨c.p, c.d, c.e, c.a, c.l, (c.n + 1), J, Q⟩ : Cl).a, .int .i64 (⟨c.p, c.d, c.e, c.a, c.l, (c.n + 1), J, Q⟩ : Cl).l, .int .i64 (⟨c.p, c.d, c.e, c.a, c.l, (c.n + 1), J, Q⟩ : Cl).n, .slice s3 j3 o3, .slice t3 q3 p3][i]? := fun i => Joins.cell_of_block (H5.out.at (.head _)) i
  have z : ∀ i, w5.cell? ⟨w.heap.size, i, none⟩ = #[Value.int .i64 c.p, .int .i64 c.d, .int .i64 c.e.k, .int .i64 c.e.j, .int .i64 c.e.v, .int .i64 c.e.t, .int .i64 c.e.c, .int .i64 c.a, .int .i64 c.l, .int .i64 c.n, .slice a1 m1 k1, .slice a2 m2 k2][i]? := fun i => Joins.cell_of_block (H5.out.at (.tail _ (.tail _ (.head _)))) i
  have hne := fun W => neq_entry c.e.k c.e.j c.e.v c.e.t c.e.c c.e.k c.e.j c.e.v c.e.t c.e.c W
  rw [show unlike c.e.k c.e.j c.e.v c.e.t c.e.c c.e.k c.e.j c.e.v c.e.t c.e.c = false from ne_self c.e] at hne
  go_upto_region 7 with fail
  clear zp z hne
  have z : ∀ i, w5.cell? ⟨w.heap.size, i, none⟩ = #[Value.int .i64 c.p, .int .i64 c.d, .int .i64 c.e.k, .int .i64 c.e.j, .int .i64 c.e.v, .int .i64 c.e.t, .int .i64 c.e.c, .int .i64 c.a, .int .i64 c.l, .int .i64 c.n, .slice a1 m1 k1, .slice a2 m2 k2][i]? := fun i => Joins.cell_of_block (H5.out.at (.tail _ (.tail _ (.head _)))) i
  go_wp2_with fail
  refine (pF.out _ (H5.out.books (.tail _ (.head _)))).mono ?_
  rintro e w6 ⟨u1, u2, rfl, hT6, hb6⟩
  have hT6 : BkAt w6 u1 u2 RF := by first | exact hT6 | exact hT6.1
  have H6 : Aside _ := (H5.out.later hb6).book hT6
  obtain ⟨s6, o6, t6, p6, rfl, rfl⟩ := bk_slices hT6.1 hT6.2
  clear hb6 H5 hT6 z pF
  obtain ⟨j6, hj6⟩ : ∃ n, Hid (RF.js.length = n) := ⟨_, rfl⟩
  obtain ⟨q6, hq6⟩ : ∃ n, Hid (RF.rs.length = n) := ⟨_, rfl⟩
  rw [hj6.out, hq6.out] at H6 ⊢
  go_upto_region 8 with fail
  have H7 : Aside _ := H6.out.boxed (boxC RF (.slice s6 j6 o6) (.slice t6 q6 p6))
  clear H6
  generalize w6.alloc (boxC RF (.slice s6 j6 o6) (.slice t6 q6 p6)) = w7 at *
  generalize w6.heap.size = g2 at *
  have z : ∀ i, w7.cell? ⟨w.heap.size, i, none⟩ = #[Value.int .i64 c.p, .int .i64 c.d, .int .i64 c.e.k, .int .i64 c.e.j, .int .i64 c.e.v, .int .i64 c.e.t, .int .i64 c.e.c, .int .i64 c.a, .int .i64 c.l, .int .i64 c.n, .slice a1 m1 k1, .slice a2 m2 k2][i]? := fun i => Joins.cell_of_block (H7.out.at (.tail _ (.tail _ (.tail _ (.head _))))) i
  have hdb : (c.d == 0) = true := by rw [HD.out]; rfl
  go_upto_region 12 with fail
  clear z hdb
  have z : ∀ i, w7.cell? ⟨g2, i, none⟩ = #[Value.int .i64 RF.p, .int .i64 RF.d, .int .i64 RF.e.k, .int .i64 RF.e.j, .int .i64 RF.e.v, .int .i64 RF.e.t, .int .i64 RF.e.c, .int .i64 RF.a, .int .i64 RF.l, .int .i64 RF.n, .slice s6 j6 o6, .slice t6 q6 p6][i]? := fun i => Joins.cell_of_block (H7.out.at (.head _)) i
  have ze : ∀ i, w7.cell? ⟨w.heap.size + 1, i, none⟩ = #[Value.int .i64 x.k, .int .i64 x.j, .int .i64 x.v, .int .i64 x.t, .int .i64 x.c][i]? := fun i => Joins.cell_of_block (H7.out.at (.tail _ (.tail _ (.head _)))) i
  go_wp2_with fail
  refine (pH.out _ _ _ (H7.out.books (.head _))).mono ?_
  rintro e w8 ⟨u1, u2, rfl, hT8, hb8⟩
  have hT8 : BkAt w8 u1 u2 Cl.zero := by first | exact hT8 | exact hT8.1
  have H8 : Aside _ := (H7.out.later hb8).book hT8
  obtain ⟨s8, o8, t8, p8, rfl, rfl⟩ := bk_slices hT8.1 hT8.2
  clear hb8 H7 hT8 z ze pH
  obtain ⟨j8, hj8⟩ : ∃ n, Hid (Cl.zero.js.length = n) := ⟨_, rfl⟩
  obtain ⟨q8, hq8⟩ : ∃ n, Hid (Cl.zero.rs.length = n) := ⟨_, rfl⟩
  rw [hj8.out, hq8.out] at H8 ⊢
  go_upto_region 13 with fail
  have H9 : Aside _ := H8.out.boxed (boxC Cl.zero (.slice s8 j8 o8) (.slice t8 q8 p8))
  clear H8
  generalize w8.alloc (boxC Cl.zero (.slice s8 j8 o8) (.slice t8 q8 p8)) = w9 at *
  generalize w8.heap.size = g3 at *
  go_wp2_with fail
  have HB := H9.out.below
  clear H9
  go_loopw [91, 8] (fun i e wr => i = .int .i64 0 ∧ e = .int .i64 ex ∧ Hid (Below w.heap.size w wr)) (fun i _ _ => 1)
  case atStart => exact ⟨rfl, rfl, HB⟩
  case round =>
    obtain ⟨rfl, rfl, hB⟩ := hrel
    clear HB
    go_wp2
    go_ret
    exact ⟨rfl, hB.out⟩

end Go.Proofs.Ytbokdcdnandgbae
