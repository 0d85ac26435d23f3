/- The walk of ClientSays. -/
import Derived.Test.YtbokdcdnandgbaeClientJ
import Derived.Test.YtbokdcdnandgbaeClientH
namespace Go.Proofs.Ytbokdcdnandgbae
open Go.RowKit

set_option linter.unusedSimpArgs false in
set_option maxHeartbeats 8000000 in
set_option maxRecDepth 100000 in
/-- ClientSays. -/
theorem clSays_any (c d : Cl) (x : En) (pl me j tt : Int) (a1 a2 b1 b2 : Option Addr) (m1 k1 m2 k2 r1 y1 r2 y2 : Nat) (w : World) (hb : BkAt w (.slice a1 m1 k1) (.slice a2 m2 k2) c) (hd : BkAt w (.slice b1 r1 y1) (.slice b2 r2 y2) d) (hs : Slim c) :
    Calls Try.prog 4 #[c.val (.slice a1 m1 k1) (.slice a2 m2 k2), x.val, .int .i64 pl, .int .i64 me, .int .i64 j, .int .i64 tt, d.val (.slice b1 r1 y1) (.slice b2 r2 y2)] w fun e w' => e = .returned (.bool true) ∧ Below w.heap.size w w' := by
  obtain ⟨RW, eW, hW⟩ : ∃ R n, wantOf c x = (R, n) := ⟨_, _, rfl⟩
  have SW : Aside (Slim RW) := by have := slim_want c x; rw [hW] at this; exact this
  obtain ⟨RR, eR, hR⟩ : ∃ R n, ringOf c me j tt = (R, n) := ⟨_, _, rfl⟩
  have SR : Aside (Slim RR) := by have := slim_ring c me j tt; rw [hR] at this; exact this
  obtain ⟨RP, eP, hP⟩ : ∃ R n, placeOf 1 c pl = (R, n) := ⟨_, _, rfl⟩
  have SP : Aside (Slim RP) := by have := slim_place 1 c pl; rw [hP] at this; exact this
  obtain ⟨RF, eF, hF⟩ : ∃ R n, placeOf 0 c pl = (R, n) := ⟨_, _, rfl⟩
  have SF : Aside (Slim RF) := by have := slim_place 0 c pl; rw [hF] at this; exact this
  have pW : Aside (∀ W, BkAt W (.slice a1 m1 k1) (.slice a2 m2 k2) c → AnsT 15 #[c.val (.slice a1 m1 k1) (.slice a2 m2 k2), x.val] W (RW, eW)) := fun W hB => by have := cl_want c x _ _ W hB; rw [hW] at this; exact this
  have pR : Aside (∀ W, BkAt W (.slice a1 m1 k1) (.slice a2 m2 k2) c → AnsT 16 #[c.val (.slice a1 m1 k1) (.slice a2 m2 k2), .int .i64 me, .int .i64 j, .int .i64 tt] W (RR, eR)) := fun W hB => by have := cl_ring c me j tt _ _ W hB; rw [hR] at this; exact this
  have pP : Aside (∀ W, BkAt W (.slice a1 m1 k1) (.slice a2 m2 k2) c → AnsT 17 #[c.val (.slice a1 m1 k1) (.slice a2 m2 k2), .int .i64 pl] W (RP, eP)) := fun W hB => by have := cl_place c pl _ _ W hB; rw [hP] at this; exact this
  have pF : Aside (∀ W, BkAt W (.slice a1 m1 k1) (.slice a2 m2 k2) c → AnsT 18 #[c.val (.slice a1 m1 k1) (.slice a2 m2 k2), .int .i64 pl] W (RF, eF)) := fun W hB => by have := cl_fill c pl _ _ W hB; rw [hF] at this; exact this
  have rW : Aside (∀ W, BkAt W (.slice a1 m1 k1) (.slice a2 m2 k2) c → AnsC 19 #[c.val (.slice a1 m1 k1) (.slice a2 m2 k2), x.val] W (RW, eW)) := fun W hB => by have := ref_wanted c x _ _ W hB; rw [hW] at this; exact this
  have rR : Aside (∀ W, BkAt W (.slice a1 m1 k1) (.slice a2 m2 k2) c → AnsC 20 #[c.val (.slice a1 m1 k1) (.slice a2 m2 k2), .int .i64 me, .int .i64 j, .int .i64 tt] W (RR, eR)) := fun W hB => by have := ref_ringing c me j tt _ _ W hB; rw [hR] at this; exact this
  have rP : Aside (∀ W, BkAt W (.slice a1 m1 k1) (.slice a2 m2 k2) c → AnsC 21 #[c.val (.slice a1 m1 k1) (.slice a2 m2 k2), .int .i64 pl, .bool false] W (RP, eP)) := fun W hB => by have := ref_placed1 c pl _ _ W hB; rw [hP] at this; exact this
  have rF : Aside (∀ W, BkAt W (.slice a1 m1 k1) (.slice a2 m2 k2) c → AnsC 21 #[c.val (.slice a1 m1 k1) (.slice a2 m2 k2), .int .i64 pl, .bool true] W (RF, eF)) := fun W hB => by have := ref_placed0 c pl _ _ W hB; rw [hF] at this; exact this
  obtain ⟨kc, hkc⟩ : ∃ n, c.ck = n := ⟨_, rfl⟩
  obtain ⟨sc, hsc⟩ : ∃ n, sameC c d = n := ⟨_, rfl⟩
  have pC : Aside (∀ W, BkAt W (.slice a1 m1 k1) (.slice a2 m2 k2) c → Calls Try.prog 23 #[c.val (.slice a1 m1 k1) (.slice a2 m2 k2)] W fun e w' => e = .returned (.int .i64 kc) ∧ Below W.heap.size W w') := fun W hB => by have := cl_check c _ _ W hB; rw [hkc] at this; exact this
  have rC : Aside (∀ W, BkAt W (.slice a1 m1 k1) (.slice a2 m2 k2) c → Calls Try.prog 24 #[c.val (.slice a1 m1 k1) (.slice a2 m2 k2)] W fun e w' => e = .returned (.int .i64 kc) ∧ Below W.heap.size W w') := fun W hB => by have := ref_ckClient c _ _ W hB; rw [hkc] at this; exact this
  have pS : Aside (∀ W, BkAt W (.slice a1 m1 k1) (.slice a2 m2 k2) c → BkAt W (.slice b1 r1 y1) (.slice b2 r2 y2) d → Calls Try.prog 25 #[c.val (.slice a1 m1 k1) (.slice a2 m2 k2), d.val (.slice b1 r1 y1) (.slice b2 r2 y2)] W fun e w' => e = .returned (.bool sc) ∧ Below W.heap.size W w') := fun W hB hD => by have := cl_same c d _ _ _ _ W hB hD hs.1 hs.2; rw [hsc] at this; exact this
  have rS : Aside (∀ W, BkAt W (.slice a1 m1 k1) (.slice a2 m2 k2) c → BkAt W (.slice b1 r1 y1) (.slice b2 r2 y2) d → Calls Try.prog 26 #[c.val (.slice a1 m1 k1) (.slice a2 m2 k2), d.val (.slice b1 r1 y1) (.slice b2 r2 y2)] W fun e w' => e = .returned (.bool sc) ∧ Below W.heap.size W w') := fun W hB hD => by have := ref_sameC c d _ _ _ _ W hB hD hs.1 hs.2; rw [hsc] at this; exact this
  have nS : Aside (∀ W, Calls Try.prog 26 #[(⟨1, 0, En.zero, 0, 0, 0, [], []⟩ : Cl).val nil0 nil0, (⟨1, 0, En.zero, 0, 0, 0, [], []⟩ : Cl).val nil0 nil0] W fun e w' => e = .returned (.bool true) ∧ Below W.heap.size W w') := fun W => same_self (c := (⟨1, 0, En.zero, 0, 0, 0, [], []⟩ : Cl)) (slim_few (Nat.zero_le _) (Nat.zero_le _)) (bkAt_nil W rfl rfl none 0 none 0) (bkAt_nil W rfl rfl none 0 none 0)
  have H0 : Aside (HeldC w (((w.alloc (boxC c (.slice a1 m1 k1) (.slice a2 m2 k2))).alloc (boxE x.k x.j x.v x.t x.c)).alloc (boxC d (.slice b1 r1 y1) (.slice b2 r2 y2))) [(w.heap.size + 1 + 1, boxC d (.slice b1 r1 y1) (.slice b2 r2 y2)), (w.heap.size + 1, boxE x.k x.j x.v x.t x.c), (w.heap.size, boxC c (.slice a1 m1 k1) (.slice a2 m2 k2))] [((.slice b1 r1 y1), (.slice b2 r2 y2), d), ((.slice a1 m1 k1), (.slice a2 m2 k2), c)]) := by
    have h0 : HeldC w w [] [((.slice b1 r1 y1), (.slice b2 r2 y2), d), ((.slice a1 m1 k1), (.slice a2 m2 k2), c)] := ⟨Below.refl _ _, (fun p hp => by cases hp), fun p hp => by
      simp only [List.mem_cons, List.not_mem_nil, or_false] at hp
      rcases hp with rfl | rfl
      · exact hd
      · exact hb⟩
    have h1 := ((h0.boxed (boxC c (.slice a1 m1 k1) (.slice a2 m2 k2))).boxed (boxE x.k x.j x.v x.t x.c)).boxed (boxC d (.slice b1 r1 y1) (.slice b2 r2 y2))
    rw [World.size_alloc, World.size_alloc] at h1
    exact h1
  clear hW hR hP hF hb hd hs hkc hsc
  go_enter Try.func4, Try.ntmps4
  go_upto_region 1 with fail
  generalize (((w.alloc (boxC c (.slice a1 m1 k1) (.slice a2 m2 k2))).alloc (boxE x.k x.j x.v x.t x.c)).alloc (boxC d (.slice b1 r1 y1) (.slice b2 r2 y2))) = w0 at *
  have z : ∀ i, w0.cell? ⟨w.heap.size, i, none⟩ = #[Value.int .i64 c.p, .int .i64 c.d, .int .i64 c.e.k, .int .i64 c.e.j, .int .i64 c.e.v, .int .i64 c.e.t, .int .i64 c.e.c, .int .i64 c.a, .int .i64 c.l, .int .i64 c.n, .slice a1 m1 k1, .slice a2 m2 k2][i]? := fun i => Joins.cell_of_block (H0.out.at (.tail _ (.tail _ (.head _)))) i
  have ze : ∀ i, w0.cell? ⟨w.heap.size + 1, i, none⟩ = #[Value.int .i64 x.k, .int .i64 x.j, .int .i64 x.v, .int .i64 x.t, .int .i64 x.c][i]? := fun i => Joins.cell_of_block (H0.out.at (.tail _ (.head _))) i
  go_wp2_with fail
  refine (pW.out _ (H0.out.books (.tail _ (.head _)))).mono ?_
  rintro e w1 ⟨u1, u2, rfl, hT1, hb1⟩
  have hT1 : BkAt w1 u1 u2 RW := by first | exact hT1 | exact hT1.1
  have H1 : Aside _ := (H0.out.later hb1).book hT1
  obtain ⟨s1, o1, t1, p1, rfl, rfl⟩ := bk_slices hT1.1 hT1.2
  clear hb1 H0 hT1 z ze pW
  obtain ⟨j1, hj1⟩ : ∃ n, Hid (RW.js.length = n) := ⟨_, rfl⟩
  obtain ⟨q1, hq1⟩ : ∃ n, Hid (RW.rs.length = n) := ⟨_, rfl⟩
  rw [hj1.out, hq1.out] at H1 ⊢
  go_upto_region 2 with fail
  have H2 : Aside _ := H1.out.boxed (boxC RW (.slice s1 j1 o1) (.slice t1 q1 p1))
  clear H1
  generalize w1.alloc (boxC RW (.slice s1 j1 o1) (.slice t1 q1 p1)) = w2 at *
  generalize w1.heap.size = g1 at *
  have z : ∀ i, w2.cell? ⟨w.heap.size, i, none⟩ = #[Value.int .i64 c.p, .int .i64 c.d, .int .i64 c.e.k, .int .i64 c.e.j, .int .i64 c.e.v, .int .i64 c.e.t, .int .i64 c.e.c, .int .i64 c.a, .int .i64 c.l, .int .i64 c.n, .slice a1 m1 k1, .slice a2 m2 k2][i]? := fun i => Joins.cell_of_block (H2.out.at (.tail _ (.tail _ (.tail _ (.head _))))) i
  go_wp2_with fail
  refine (pR.out _ (H2.out.books (.tail _ (.tail _ (.head _))))).mono ?_
  rintro e w3 ⟨u1, u2, rfl, hT3, hb3⟩
  have hT3 : BkAt w3 u1 u2 RR := by first | exact hT3 | exact hT3.1
  have H3 : Aside _ := (H2.out.later hb3).book hT3
  obtain ⟨s3, o3, t3, p3, rfl, rfl⟩ := bk_slices hT3.1 hT3.2
  clear hb3 H2 hT3 z  pR
  obtain ⟨j3, hj3⟩ : ∃ n, Hid (RR.js.length = n) := ⟨_, rfl⟩
  obtain ⟨q3, hq3⟩ : ∃ n, Hid (RR.rs.length = n) := ⟨_, rfl⟩
  rw [hj3.out, hq3.out] at H3 ⊢
  go_upto_region 3 with fail
  have H4 : Aside _ := H3.out.boxed (boxC RR (.slice s3 j3 o3) (.slice t3 q3 p3))
  clear H3
  generalize w3.alloc (boxC RR (.slice s3 j3 o3) (.slice t3 q3 p3)) = w4 at *
  generalize w3.heap.size = g2 at *
  have z : ∀ i, w4.cell? ⟨w.heap.size, i, none⟩ = #[Value.int .i64 c.p, .int .i64 c.d, .int .i64 c.e.k, .int .i64 c.e.j, .int .i64 c.e.v, .int .i64 c.e.t, .int .i64 c.e.c, .int .i64 c.a, .int .i64 c.l, .int .i64 c.n, .slice a1 m1 k1, .slice a2 m2 k2][i]? := fun i => Joins.cell_of_block (H4.out.at (.tail _ (.tail _ (.tail _ (.tail _ (.head _)))))) i
  go_wp2_with fail
  refine (pP.out _ (H4.out.books (.tail _ (.tail _ (.tail _ (.head _)))))).mono ?_
  rintro e w5 ⟨u1, u2, rfl, hT5, hb5⟩
  have hT5 : BkAt w5 u1 u2 RP := by first | exact hT5 | exact hT5.1
  have H5 : Aside _ := (H4.out.later hb5).book hT5
  obtain ⟨s5, o5, t5, p5, rfl, rfl⟩ := bk_slices hT5.1 hT5.2
  clear hb5 H4 hT5 z  pP
  obtain ⟨j5, hj5⟩ : ∃ n, Hid (RP.js.length = n) := ⟨_, rfl⟩
  obtain ⟨q5, hq5⟩ : ∃ n, Hid (RP.rs.length = n) := ⟨_, rfl⟩
  rw [hj5.out, hq5.out] at H5 ⊢
  go_upto_region 4 with fail
  have H6 : Aside _ := H5.out.boxed (boxC RP (.slice s5 j5 o5) (.slice t5 q5 p5))
  clear H5
  generalize w5.alloc (boxC RP (.slice s5 j5 o5) (.slice t5 q5 p5)) = w6 at *
  generalize w5.heap.size = g3 at *
  have z : ∀ i, w6.cell? ⟨w.heap.size, i, none⟩ = #[Value.int .i64 c.p, .int .i64 c.d, .int .i64 c.e.k, .int .i64 c.e.j, .int .i64 c.e.v, .int .i64 c.e.t, .int .i64 c.e.c, .int .i64 c.a, .int .i64 c.l, .int .i64 c.n, .slice a1 m1 k1, .slice a2 m2 k2][i]? := fun i => Joins.cell_of_block (H6.out.at (.tail _ (.tail _ (.tail _ (.tail _ (.tail _ (.head _))))))) i
  go_wp2_with fail
  refine (pF.out _ (H6.out.books (.tail _ (.tail _ (.tail _ (.tail _ (.head _))))))).mono ?_
  rintro e w7 ⟨u1, u2, rfl, hT7, hb7⟩
  have hT7 : BkAt w7 u1 u2 RF := by first | exact hT7 | exact hT7.1
  have H7 : Aside _ := (H6.out.later hb7).book hT7
  obtain ⟨s7, o7, t7, p7, rfl, rfl⟩ := bk_slices hT7.1 hT7.2
  clear hb7 H6 hT7 z  pF
  obtain ⟨j7, hj7⟩ : ∃ n, Hid (RF.js.length = n) := ⟨_, rfl⟩
  obtain ⟨q7, hq7⟩ : ∃ n, Hid (RF.rs.length = n) := ⟨_, rfl⟩
  rw [hj7.out, hq7.out] at H7 ⊢
  go_upto_region 5 with fail
  have H8 : Aside _ := H7.out.boxed (boxC RF (.slice s7 j7 o7) (.slice t7 q7 p7))
  clear H7
  generalize w7.alloc (boxC RF (.slice s7 j7 o7) (.slice t7 q7 p7)) = w8 at *
  generalize w7.heap.size = g4 at *
  have z : ∀ i, w8.cell? ⟨w.heap.size, i, none⟩ = #[Value.int .i64 c.p, .int .i64 c.d, .int .i64 c.e.k, .int .i64 c.e.j, .int .i64 c.e.v, .int .i64 c.e.t, .int .i64 c.e.c, .int .i64 c.a, .int .i64 c.l, .int .i64 c.n, .slice a1 m1 k1, .slice a2 m2 k2][i]? := fun i => Joins.cell_of_block (H8.out.at (.tail _ (.tail _ (.tail _ (.tail _ (.tail _ (.tail _ (.head _)))))))) i
  have ze : ∀ i, w8.cell? ⟨w.heap.size + 1, i, none⟩ = #[Value.int .i64 x.k, .int .i64 x.j, .int .i64 x.v, .int .i64 x.t, .int .i64 x.c][i]? := fun i => Joins.cell_of_block (H8.out.at (.tail _ (.tail _ (.tail _ (.tail _ (.tail _ (.head _))))))) i
  go_wp2_with fail
  refine (rW.out _ (H8.out.books (.tail _ (.tail _ (.tail _ (.tail _ (.tail _ (.head _)))))))).mono ?_
  rintro e w9 ⟨u1, u2, rfl, hT9, hb9⟩
  have hT9 : BkAt w9 u1 u2 RW := by first | exact hT9 | exact hT9.1
  have H9 : Aside _ := (H8.out.later hb9).book hT9
  obtain ⟨s9, o9, t9, p9, rfl, rfl⟩ := bk_slices hT9.1 hT9.2
  clear hb9 H8 hT9 z ze rW
  obtain ⟨j9, hj9⟩ : ∃ n, Hid (RW.js.length = n) := ⟨_, rfl⟩
  obtain ⟨q9, hq9⟩ : ∃ n, Hid (RW.rs.length = n) := ⟨_, rfl⟩
  rw [hj9.out, hq9.out] at H9 ⊢
  go_upto_region 6 with fail
  have H10 : Aside _ := H9.out.boxed (boxC RW (.slice s9 j9 o9) (.slice t9 q9 p9))
  clear H9
  generalize w9.alloc (boxC RW (.slice s9 j9 o9) (.slice t9 q9 p9)) = w10 at *
  generalize w9.heap.size = g5 at *
  have z : ∀ i, w10.cell? ⟨w.heap.size, i, none⟩ = #[Value.int .i64 c.p, .int .i64 c.d, .int .i64 c.e.k, .int .i64 c.e.j, .int .i64 c.e.v, .int .i64 c.e.t, .int .i64 c.e.c, .int .i64 c.a, .int .i64 c.l, .int .i64 c.n, .slice a1 m1 k1, .slice a2 m2 k2][i]? := fun i => Joins.cell_of_block (H10.out.at (.tail _ (.tail _ (.tail _ (.tail _ (.tail _ (.tail _ (.tail _ (.head _))))))))) i
  go_wp2_with fail
  refine (rR.out _ (H10.out.books (.tail _ (.tail _ (.tail _ (.tail _ (.tail _ (.tail _ (.head _))))))))).mono ?_
  rintro e w11 ⟨u1, u2, rfl, hT11, hb11⟩
  have hT11 : BkAt w11 u1 u2 RR := by first | exact hT11 | exact hT11.1
  have H11 : Aside _ := (H10.out.later hb11).book hT11
  obtain ⟨s11, o11, t11, p11, rfl, rfl⟩ := bk_slices hT11.1 hT11.2
  clear hb11 H10 hT11 z  rR
  obtain ⟨j11, hj11⟩ : ∃ n, Hid (RR.js.length = n) := ⟨_, rfl⟩
  obtain ⟨q11, hq11⟩ : ∃ n, Hid (RR.rs.length = n) := ⟨_, rfl⟩
  rw [hj11.out, hq11.out] at H11 ⊢
  go_upto_region 7 with fail
  have H12 : Aside _ := H11.out.boxed (boxC RR (.slice s11 j11 o11) (.slice t11 q11 p11))
  clear H11
  generalize w11.alloc (boxC RR (.slice s11 j11 o11) (.slice t11 q11 p11)) = w12 at *
  generalize w11.heap.size = g6 at *
  have z : ∀ i, w12.cell? ⟨w.heap.size, i, none⟩ = #[Value.int .i64 c.p, .int .i64 c.d, .int .i64 c.e.k, .int .i64 c.e.j, .int .i64 c.e.v, .int .i64 c.e.t, .int .i64 c.e.c, .int .i64 c.a, .int .i64 c.l, .int .i64 c.n, .slice a1 m1 k1, .slice a2 m2 k2][i]? := fun i => Joins.cell_of_block (H12.out.at (.tail _ (.tail _ (.tail _ (.tail _ (.tail _ (.tail _ (.tail _ (.tail _ (.head _)))))))))) i
  go_wp2_with fail
  refine (rP.out _ (H12.out.books (.tail _ (.tail _ (.tail _ (.tail _ (.tail _ (.tail _ (.tail _ (.head _)))))))))).mono ?_
  rintro e w13 ⟨u1, u2, rfl, hT13, hb13⟩
  have hT13 : BkAt w13 u1 u2 RP := by first | exact hT13 | exact hT13.1
  have H13 : Aside _ := (H12.out.later hb13).book hT13
  obtain ⟨s13, o13, t13, p13, rfl, rfl⟩ := bk_slices hT13.1 hT13.2
  clear hb13 H12 hT13 z  rP
  obtain ⟨j13, hj13⟩ : ∃ n, Hid (RP.js.length = n) := ⟨_, rfl⟩
  obtain ⟨q13, hq13⟩ : ∃ n, Hid (RP.rs.length = n) := ⟨_, rfl⟩
  rw [hj13.out, hq13.out] at H13 ⊢
  go_upto_region 8 with fail
  have H14 : Aside _ := H13.out.boxed (boxC RP (.slice s13 j13 o13) (.slice t13 q13 p13))
  clear H13
  generalize w13.alloc (boxC RP (.slice s13 j13 o13) (.slice t13 q13 p13)) = w14 at *
  generalize w13.heap.size = g7 at *
  have z : ∀ i, w14.cell? ⟨w.heap.size, i, none⟩ = #[Value.int .i64 c.p, .int .i64 c.d, .int .i64 c.e.k, .int .i64 c.e.j, .int .i64 c.e.v, .int .i64 c.e.t, .int .i64 c.e.c, .int .i64 c.a, .int .i64 c.l, .int .i64 c.n, .slice a1 m1 k1, .slice a2 m2 k2][i]? := fun i => Joins.cell_of_block (H14.out.at (.tail _ (.tail _ (.tail _ (.tail _ (.tail _ (.tail _ (.tail _ (.tail _ (.tail _ (.head _))))))))))) i
  go_wp2_with fail
  refine (rF.out _ (H14.out.books (.tail _ (.tail _ (.tail _ (.tail _ (.tail _ (.tail _ (.tail _ (.tail _ (.head _))))))))))).mono ?_
  rintro e w15 ⟨u1, u2, rfl, hT15, hb15⟩
  have hT15 : BkAt w15 u1 u2 RF := by first | exact hT15 | exact hT15.1
  have H15 : Aside _ := (H14.out.later hb15).book hT15
  obtain ⟨s15, o15, t15, p15, rfl, rfl⟩ := bk_slices hT15.1 hT15.2
  clear hb15 H14 hT15 z  rF
  obtain ⟨j15, hj15⟩ : ∃ n, Hid (RF.js.length = n) := ⟨_, rfl⟩
  obtain ⟨q15, hq15⟩ : ∃ n, Hid (RF.rs.length = n) := ⟨_, rfl⟩
  rw [hj15.out, hq15.out] at H15 ⊢
  go_upto_region 9 with fail
  have H16 : Aside _ := H15.out.boxed (boxC RF (.slice s15 j15 o15) (.slice t15 q15 p15))
  clear H15
  generalize w15.alloc (boxC RF (.slice s15 j15 o15) (.slice t15 q15 p15)) = w16 at *
  generalize w15.heap.size = g8 at *
  obtain ⟨P, hP0, hPs, hPH⟩ := heldC_letter H16.out
  have PS : Aside _ := hPs
  have PH : Aside _ := hPH
  have hS0 : P w16.drew := hPs _ _ hP0 (Below.refl _ _).drew
  clear hP0 hPs hPH H16
  refine wp_region_held_drew (S := P) (by kernel_rfl) (hS0) (fun hHeld => ?_)
  clear hS0
  generalize w16.drew = X at *
  refine wpAnyH_ready (rs := [0]) (by kernel_rfl) (by simp) ?_
  refine AllReadyH.cons (o := ?o0) ?hi0 ?step0 AllReadyH.nil
  case hi0 => (simp only [List.getElem?_toArray, List.getElem?_cons_succ, List.getElem?_cons_zero]; rfl)
  intro K hK
  go_simp
  refine (lc_heard _).mono ?_
  rintro e wq ⟨rfl, hbq⟩
  refine hK.out _ _ (PS.out _ _ hHeld hbq) (fun hHeld => ?_)
  clear hK K
  try simp only [Act.put, List.setIfInBounds_toArray, List.set_cons_zero, List.set_cons_succ]
  clear hbq
  refine wpAnyH_take (i := 1) (oi := ?oi1) (v := ?v1) ?hi1 ?hs1 ?hf1 ?hr1 ?hQ1 (Or.inl ⟨?hw1, ?hy1⟩) (by assumption) ?h1
  case hi1 => (simp only [List.getElem?_toArray, List.getElem?_cons_succ, List.getElem?_cons_zero]; rfl)
  case hs1 => kernel_rfl
  case hf1 => kernel_rfl
  case hr1 => kernel_rfl
  case hw1 => rfl
  case hy1 => (intro w0 hSw; (try dsimp only at hSw); go_simp; first | done | with_reducible rfl)
  case hQ1 => exact fun _ _ _ h => h
  try simp only [Act.put, List.setIfInBounds_toArray, List.set_cons_zero, List.set_cons_succ]
  refine wpAnyH_take (i := 2) (oi := ?oi2) (v := ?v2) ?hi2 ?hs2 ?hf2 ?hr2 ?hQ2 (Or.inl ⟨?hw2, ?hy2⟩) (by assumption) ?h2
  case hi2 => (simp only [List.getElem?_toArray, List.getElem?_cons_succ, List.getElem?_cons_zero]; rfl)
  case hs2 => kernel_rfl
  case hf2 => kernel_rfl
  case hr2 => kernel_rfl
  case hw2 => rfl
  case hy2 => (intro w0 hSw; have z := (show ∀ i, w0.cell? ⟨w.heap.size, i, none⟩ = #[Value.int .i64 c.p, .int .i64 c.d, .int .i64 c.e.k, .int .i64 c.e.j, .int .i64 c.e.v, .int .i64 c.e.t, .int .i64 c.e.c, .int .i64 c.a, .int .i64 c.l, .int .i64 c.n, .slice a1 m1 k1, .slice a2 m2 k2][i]? from fun i => Joins.cell_of_block ((PH.out w0 hSw).at (.tail _ (.tail _ (.tail _ (.tail _ (.tail _ (.tail _ (.tail _ (.tail _ (.tail _ (.tail _ (.head _)))))))))))) i); clear hSw; go_simp; first | done | with_reducible rfl)
  case hQ2 => exact fun _ _ _ h => h
  try simp only [Act.put, List.setIfInBounds_toArray, List.set_cons_zero, List.set_cons_succ]
  refine wpAnyH_take (i := 4) (oi := ?oi4) (v := ?v4) ?hi4 ?hs4 ?hf4 ?hr4 ?hQ4 (Or.inl ⟨?hw4, ?hy4⟩) (by assumption) ?h4
  case hi4 => (simp only [List.getElem?_toArray, List.getElem?_cons_succ, List.getElem?_cons_zero]; rfl)
  case hs4 => kernel_rfl
  case hf4 => kernel_rfl
  case hr4 => kernel_rfl
  case hw4 => rfl
  case hy4 => (intro w0 hSw; have z := (show ∀ i, w0.cell? ⟨w.heap.size, i, none⟩ = #[Value.int .i64 c.p, .int .i64 c.d, .int .i64 c.e.k, .int .i64 c.e.j, .int .i64 c.e.v, .int .i64 c.e.t, .int .i64 c.e.c, .int .i64 c.a, .int .i64 c.l, .int .i64 c.n, .slice a1 m1 k1, .slice a2 m2 k2][i]? from fun i => Joins.cell_of_block ((PH.out w0 hSw).at (.tail _ (.tail _ (.tail _ (.tail _ (.tail _ (.tail _ (.tail _ (.tail _ (.tail _ (.tail _ (.head _)))))))))))) i); clear hSw; go_simp; first | done | with_reducible rfl)
  case hQ4 => exact fun _ _ _ h => h
  try simp only [Act.put, List.setIfInBounds_toArray, List.set_cons_zero, List.set_cons_succ]
  refine wpAnyH_ready (rs := [3]) (by kernel_rfl) (by simp) ?_
  refine AllReadyH.cons (o := ?o3) ?hi3 ?step3 AllReadyH.nil
  case hi3 => (simp only [List.getElem?_toArray, List.getElem?_cons_succ, List.getElem?_cons_zero]; rfl)
  intro K hK
  go_simp
  refine (pC.out _ ((PH.out _ hHeld).books (.tail _ (.tail _ (.tail _ (.tail _ (.tail _ (.tail _ (.tail _ (.tail _ (.tail _ (.head _)))))))))))).mono ?_
  rintro e wq ⟨rfl, hbq⟩
  refine hK.out _ _ (PS.out _ _ hHeld hbq) (fun hHeld => ?_)
  clear hK K
  try simp only [Act.put, List.setIfInBounds_toArray, List.set_cons_zero, List.set_cons_succ]
  clear hbq
  refine wpAnyH_ready (rs := [5]) (by kernel_rfl) (by simp) ?_
  refine AllReadyH.cons (o := ?o5) ?hi5 ?step5 AllReadyH.nil
  case hi5 => (simp only [List.getElem?_toArray, List.getElem?_cons_succ, List.getElem?_cons_zero]; rfl)
  intro K hK
  go_simp
  refine (rC.out _ ((PH.out _ hHeld).books (.tail _ (.tail _ (.tail _ (.tail _ (.tail _ (.tail _ (.tail _ (.tail _ (.tail _ (.head _)))))))))))).mono ?_
  rintro e wq ⟨rfl, hbq⟩
  refine hK.out _ _ (PS.out _ _ hHeld hbq) (fun hHeld => ?_)
  clear hK K
  try simp only [Act.put, List.setIfInBounds_toArray, List.set_cons_zero, List.set_cons_succ]
  clear hbq
  refine wpAnyH_take (i := 6) (oi := ?oi6) (v := ?v6) ?hi6 ?hs6 ?hf6 ?hr6 ?hQ6 (Or.inl ⟨?hw6, ?hy6⟩) (by assumption) ?h6
  case hi6 => (simp only [List.getElem?_toArray, List.getElem?_cons_succ, List.getElem?_cons_zero]; rfl)
  case hs6 => kernel_rfl
  case hf6 => kernel_rfl
  case hr6 => kernel_rfl
  case hw6 => rfl
  case hy6 => (intro w0 hSw; (try dsimp only at hSw); go_simp; first | done | with_reducible rfl)
  case hQ6 => exact fun _ _ _ h => h
  try simp only [Act.put, List.setIfInBounds_toArray, List.set_cons_zero, List.set_cons_succ]
  refine wpAnyH_take (i := 7) (oi := ?oi7) (v := ?v7) ?hi7 ?hs7 ?hf7 ?hr7 ?hQ7 (Or.inl ⟨?hw7, ?hy7⟩) (by assumption) ?h7
  case hi7 => (simp only [List.getElem?_toArray, List.getElem?_cons_succ, List.getElem?_cons_zero]; rfl)
  case hs7 => kernel_rfl
  case hf7 => kernel_rfl
  case hr7 => kernel_rfl
  case hw7 => rfl
  case hy7 => (intro w0 hSw; (try dsimp only at hSw); go_simp; first | done | with_reducible rfl)
  case hQ7 => exact fun _ _ _ h => h
  try simp only [Act.put, List.setIfInBounds_toArray, List.set_cons_zero, List.set_cons_succ]
  refine wpAnyH_take (i := 8) (oi := ?oi8) (v := ?v8) ?hi8 ?hs8 ?hf8 ?hr8 ?hQ8 (Or.inl ⟨?hw8, ?hy8⟩) (by assumption) ?h8
  case hi8 => (simp only [List.getElem?_toArray, List.getElem?_cons_succ, List.getElem?_cons_zero]; rfl)
  case hs8 => kernel_rfl
  case hf8 => kernel_rfl
  case hr8 => kernel_rfl
  case hw8 => rfl
  case hy8 => (intro w0 hSw; (try dsimp only at hSw); go_simp; first | done | with_reducible rfl)
  case hQ8 => exact fun _ _ _ h => h
  try simp only [Act.put, List.setIfInBounds_toArray, List.set_cons_zero, List.set_cons_succ]
  refine wpAnyH_take (i := 9) (oi := ?oi9) (v := ?v9) ?hi9 ?hs9 ?hf9 ?hr9 ?hQ9 (Or.inl ⟨?hw9, ?hy9⟩) (by assumption) ?h9
  case hi9 => (simp only [List.getElem?_toArray, List.getElem?_cons_succ, List.getElem?_cons_zero]; rfl)
  case hs9 => kernel_rfl
  case hf9 => kernel_rfl
  case hr9 => kernel_rfl
  case hw9 => rfl
  case hy9 => (intro w0 hSw; have z := (show ∀ i, w0.cell? ⟨w.heap.size, i, none⟩ = #[Value.int .i64 c.p, .int .i64 c.d, .int .i64 c.e.k, .int .i64 c.e.j, .int .i64 c.e.v, .int .i64 c.e.t, .int .i64 c.e.c, .int .i64 c.a, .int .i64 c.l, .int .i64 c.n, .slice a1 m1 k1, .slice a2 m2 k2][i]? from fun i => Joins.cell_of_block ((PH.out w0 hSw).at (.tail _ (.tail _ (.tail _ (.tail _ (.tail _ (.tail _ (.tail _ (.tail _ (.tail _ (.tail _ (.head _)))))))))))) i); clear hSw; go_simp; first | done | with_reducible rfl)
  case hQ9 => exact fun _ _ _ h => h
  try simp only [Act.put, List.setIfInBounds_toArray, List.set_cons_zero, List.set_cons_succ]
  refine wpAnyH_take (i := 10) (oi := ?oi10) (v := ?v10) ?hi10 ?hs10 ?hf10 ?hr10 ?hQ10 (Or.inl ⟨?hw10, ?hy10⟩) (by assumption) ?h10
  case hi10 => (simp only [List.getElem?_toArray, List.getElem?_cons_succ, List.getElem?_cons_zero]; rfl)
  case hs10 => kernel_rfl
  case hf10 => kernel_rfl
  case hr10 => kernel_rfl
  case hw10 => rfl
  case hy10 => (intro w0 hSw; have z := (show ∀ i, w0.cell? ⟨w.heap.size + 1 + 1, i, none⟩ = #[Value.int .i64 d.p, .int .i64 d.d, .int .i64 d.e.k, .int .i64 d.e.j, .int .i64 d.e.v, .int .i64 d.e.t, .int .i64 d.e.c, .int .i64 d.a, .int .i64 d.l, .int .i64 d.n, .slice b1 r1 y1, .slice b2 r2 y2][i]? from fun i => Joins.cell_of_block ((PH.out w0 hSw).at (.tail _ (.tail _ (.tail _ (.tail _ (.tail _ (.tail _ (.tail _ (.tail _ (.head _)))))))))) i); clear hSw; go_simp; first | done | with_reducible rfl)
  case hQ10 => exact fun _ _ _ h => h
  try simp only [Act.put, List.setIfInBounds_toArray, List.set_cons_zero, List.set_cons_succ]
  refine wpAnyH_take (i := 12) (oi := ?oi12) (v := ?v12) ?hi12 ?hs12 ?hf12 ?hr12 ?hQ12 (Or.inl ⟨?hw12, ?hy12⟩) (by assumption) ?h12
  case hi12 => (simp only [List.getElem?_toArray, List.getElem?_cons_succ, List.getElem?_cons_zero]; rfl)
  case hs12 => kernel_rfl
  case hf12 => kernel_rfl
  case hr12 => kernel_rfl
  case hw12 => rfl
  case hy12 => (intro w0 hSw; have z := (show ∀ i, w0.cell? ⟨w.heap.size, i, none⟩ = #[Value.int .i64 c.p, .int .i64 c.d, .int .i64 c.e.k, .int .i64 c.e.j, .int .i64 c.e.v, .int .i64 c.e.t, .int .i64 c.e.c, .int .i64 c.a, .int .i64 c.l, .int .i64 c.n, .slice a1 m1 k1, .slice a2 m2 k2][i]? from fun i => Joins.cell_of_block ((PH.out w0 hSw).at (.tail _ (.tail _ (.tail _ (.tail _ (.tail _ (.tail _ (.tail _ (.tail _ (.tail _ (.tail _ (.head _)))))))))))) i); clear hSw; go_simp; first | done | with_reducible rfl)
  case hQ12 => exact fun _ _ _ h => h
  try simp only [Act.put, List.setIfInBounds_toArray, List.set_cons_zero, List.set_cons_succ]
  refine wpAnyH_take (i := 13) (oi := ?oi13) (v := ?v13) ?hi13 ?hs13 ?hf13 ?hr13 ?hQ13 (Or.inl ⟨?hw13, ?hy13⟩) (by assumption) ?h13
  case hi13 => (simp only [List.getElem?_toArray, List.getElem?_cons_succ, List.getElem?_cons_zero]; rfl)
  case hs13 => kernel_rfl
  case hf13 => kernel_rfl
  case hr13 => kernel_rfl
  case hw13 => rfl
  case hy13 => (intro w0 hSw; have z := (show ∀ i, w0.cell? ⟨w.heap.size + 1 + 1, i, none⟩ = #[Value.int .i64 d.p, .int .i64 d.d, .int .i64 d.e.k, .int .i64 d.e.j, .int .i64 d.e.v, .int .i64 d.e.t, .int .i64 d.e.c, .int .i64 d.a, .int .i64 d.l, .int .i64 d.n, .slice b1 r1 y1, .slice b2 r2 y2][i]? from fun i => Joins.cell_of_block ((PH.out w0 hSw).at (.tail _ (.tail _ (.tail _ (.tail _ (.tail _ (.tail _ (.tail _ (.tail _ (.head _)))))))))) i); clear hSw; go_simp; first | done | with_reducible rfl)
  case hQ13 => exact fun _ _ _ h => h
  try simp only [Act.put, List.setIfInBounds_toArray, List.set_cons_zero, List.set_cons_succ]
  refine wpAnyH_ready (rs := [11]) (by kernel_rfl) (by simp) ?_
  refine AllReadyH.cons (o := ?o11) ?hi11 ?step11 AllReadyH.nil
  case hi11 => (simp only [List.getElem?_toArray, List.getElem?_cons_succ, List.getElem?_cons_zero]; rfl)
  intro K hK
  go_simp
  refine (pS.out _ ((PH.out _ hHeld).books (.tail _ (.tail _ (.tail _ (.tail _ (.tail _ (.tail _ (.tail _ (.tail _ (.tail _ (.head _))))))))))) ((PH.out _ hHeld).books (.tail _ (.tail _ (.tail _ (.tail _ (.tail _ (.tail _ (.tail _ (.tail _ (.head _))))))))))).mono ?_
  rintro e wq ⟨rfl, hbq⟩
  refine hK.out _ _ (PS.out _ _ hHeld hbq) (fun hHeld => ?_)
  clear hK K
  try simp only [Act.put, List.setIfInBounds_toArray, List.set_cons_zero, List.set_cons_succ]
  clear hbq
  refine wpAnyH_ready (rs := [14]) (by kernel_rfl) (by simp) ?_
  refine AllReadyH.cons (o := ?o14) ?hi14 ?step14 AllReadyH.nil
  case hi14 => (simp only [List.getElem?_toArray, List.getElem?_cons_succ, List.getElem?_cons_zero]; rfl)
  intro K hK
  go_simp
  refine (rS.out _ ((PH.out _ hHeld).books (.tail _ (.tail _ (.tail _ (.tail _ (.tail _ (.tail _ (.tail _ (.tail _ (.tail _ (.head _))))))))))) ((PH.out _ hHeld).books (.tail _ (.tail _ (.tail _ (.tail _ (.tail _ (.tail _ (.tail _ (.tail _ (.head _))))))))))).mono ?_
  rintro e wq ⟨rfl, hbq⟩
  refine hK.out _ _ (PS.out _ _ hHeld hbq) (fun hHeld => ?_)
  clear hK K
  try simp only [Act.put, List.setIfInBounds_toArray, List.set_cons_zero, List.set_cons_succ]
  clear hbq
  refine wpAnyH_take (i := 15) (oi := ?oi15) (v := ?v15) ?hi15 ?hs15 ?hf15 ?hr15 ?hQ15 (Or.inl ⟨?hw15, ?hy15⟩) (by assumption) ?h15
  case hi15 => (simp only [List.getElem?_toArray, List.getElem?_cons_succ, List.getElem?_cons_zero]; rfl)
  case hs15 => kernel_rfl
  case hf15 => kernel_rfl
  case hr15 => kernel_rfl
  case hw15 => rfl
  case hy15 => (intro w0 hSw; (try dsimp only at hSw); go_simp; first | done | with_reducible rfl)
  case hQ15 => exact fun _ _ _ h => h
  try simp only [Act.put, List.setIfInBounds_toArray, List.set_cons_zero, List.set_cons_succ]
  refine wpAnyH_take (i := 16) (oi := ?oi16) (v := ?v16) ?hi16 ?hs16 ?hf16 ?hr16 ?hQ16 (Or.inl ⟨?hw16, ?hy16⟩) (by assumption) ?h16
  case hi16 => (simp only [List.getElem?_toArray, List.getElem?_cons_succ, List.getElem?_cons_zero]; rfl)
  case hs16 => kernel_rfl
  case hf16 => kernel_rfl
  case hr16 => kernel_rfl
  case hw16 => rfl
  case hy16 => (intro w0 hSw; (try dsimp only at hSw); go_simp; first | done | with_reducible rfl)
  case hQ16 => exact fun _ _ _ h => h
  try simp only [Act.put, List.setIfInBounds_toArray, List.set_cons_zero, List.set_cons_succ]
  refine wpAnyH_take (i := 17) (oi := ?oi17) (v := ?v17) ?hi17 ?hs17 ?hf17 ?hr17 ?hQ17 (Or.inl ⟨?hw17, ?hy17⟩) (by assumption) ?h17
  case hi17 => (simp only [List.getElem?_toArray, List.getElem?_cons_succ, List.getElem?_cons_zero]; rfl)
  case hs17 => kernel_rfl
  case hf17 => kernel_rfl
  case hr17 => kernel_rfl
  case hw17 => rfl
  case hy17 => (intro w0 hSw; (try dsimp only at hSw); go_simp; first | done | with_reducible rfl)
  case hQ17 => exact fun _ _ _ h => h
  try simp only [Act.put, List.setIfInBounds_toArray, List.set_cons_zero, List.set_cons_succ]
  refine wpAnyH_take (i := 19) (oi := ?oi19) (v := ?v19) ?hi19 ?hs19 ?hf19 ?hr19 ?hQ19 (Or.inl ⟨?hw19, ?hy19⟩) (by assumption) ?h19
  case hi19 => (simp only [List.getElem?_toArray, List.getElem?_cons_succ, List.getElem?_cons_zero]; rfl)
  case hs19 => kernel_rfl
  case hf19 => kernel_rfl
  case hr19 => kernel_rfl
  case hw19 => rfl
  case hy19 => (intro w0 hSw; (try dsimp only at hSw); go_simp; first | done | with_reducible rfl)
  case hQ19 => exact fun _ _ _ h => h
  try simp only [Act.put, List.setIfInBounds_toArray, List.set_cons_zero, List.set_cons_succ]
  refine wpAnyH_ready (rs := [18]) (by kernel_rfl) (by simp) ?_
  refine AllReadyH.cons (o := ?o18) ?hi18 ?step18 AllReadyH.nil
  case hi18 => (simp only [List.getElem?_toArray, List.getElem?_cons_succ, List.getElem?_cons_zero]; rfl)
  intro K hK
  go_simp
  refine (cl_new _).mono ?_
  rintro e wq ⟨rfl, hbq⟩
  refine hK.out _ _ (PS.out _ _ hHeld hbq) (fun hHeld => ?_)
  clear hK K
  try simp only [Act.put, List.setIfInBounds_toArray, List.set_cons_zero, List.set_cons_succ]
  clear hbq
  refine wpAnyH_ready (rs := [20]) (by kernel_rfl) (by simp) ?_
  refine AllReadyH.cons (o := ?o20) ?hi20 ?step20 AllReadyH.nil
  case hi20 => (simp only [List.getElem?_toArray, List.getElem?_cons_succ, List.getElem?_cons_zero]; rfl)
  intro K hK
  go_simp
  refine (nS.out _).mono ?_
  rintro e wq ⟨rfl, hbq⟩
  refine hK.out _ _ (PS.out _ _ hHeld hbq) (fun hHeld => ?_)
  clear hK K
  try simp only [Act.put, List.setIfInBounds_toArray, List.set_cons_zero, List.set_cons_succ]
  clear hbq
  refine wpAnyH_take (i := 21) (oi := ?oi21) (v := ?v21) ?hi21 ?hs21 ?hf21 ?hr21 ?hQ21 (Or.inl ⟨?hw21, ?hy21⟩) (by assumption) ?h21
  case hi21 => (simp only [List.getElem?_toArray, List.getElem?_cons_succ, List.getElem?_cons_zero]; rfl)
  case hs21 => kernel_rfl
  case hf21 => kernel_rfl
  case hr21 => kernel_rfl
  case hw21 => rfl
  case hy21 => (intro w0 hSw; (try dsimp only at hSw); go_simp; first | done | with_reducible rfl)
  case hQ21 => exact fun _ _ _ h => h
  try simp only [Act.put, List.setIfInBounds_toArray, List.set_cons_zero, List.set_cons_succ]
  refine wpAnyH_take (i := 22) (oi := ?oi22) (v := ?v22) ?hi22 ?hs22 ?hf22 ?hr22 ?hQ22 (Or.inl ⟨?hw22, ?hy22⟩) (by assumption) ?h22
  case hi22 => (simp only [List.getElem?_toArray, List.getElem?_cons_succ, List.getElem?_cons_zero]; rfl)
  case hs22 => kernel_rfl
  case hf22 => kernel_rfl
  case hr22 => kernel_rfl
  case hw22 => rfl
  case hy22 => (intro w0 hSw; (try dsimp only at hSw); go_simp; first | done | with_reducible rfl)
  case hQ22 => exact fun _ _ _ h => h
  try simp only [Act.put, List.setIfInBounds_toArray, List.set_cons_zero, List.set_cons_succ]
  refine wpAnyH_take (i := 23) (oi := ?oi23) (v := ?v23) ?hi23 ?hs23 ?hf23 ?hr23 ?hQ23 (Or.inl ⟨?hw23, ?hy23⟩) (by assumption) ?h23
  case hi23 => (simp only [List.getElem?_toArray, List.getElem?_cons_succ, List.getElem?_cons_zero]; rfl)
  case hs23 => kernel_rfl
  case hf23 => kernel_rfl
  case hr23 => kernel_rfl
  case hw23 => rfl
  case hy23 => (intro w0 hSw; (try dsimp only at hSw); go_simp; first | done | with_reducible rfl)
  case hQ23 => exact fun _ _ _ h => h
  try simp only [Act.put, List.setIfInBounds_toArray, List.set_cons_zero, List.set_cons_succ]
  refine wpAnyH_take (i := 24) (oi := ?oi24) (v := ?v24) ?hi24 ?hs24 ?hf24 ?hr24 ?hQ24 (Or.inl ⟨?hw24, ?hy24⟩) (by assumption) ?h24
  case hi24 => (simp only [List.getElem?_toArray, List.getElem?_cons_succ, List.getElem?_cons_zero]; rfl)
  case hs24 => kernel_rfl
  case hf24 => kernel_rfl
  case hr24 => kernel_rfl
  case hw24 => rfl
  case hy24 => (intro w0 hSw; (try dsimp only at hSw); go_simp; first | done | with_reducible rfl)
  case hQ24 => exact fun _ _ _ h => h
  try simp only [Act.put, List.setIfInBounds_toArray, List.set_cons_zero, List.set_cons_succ]
  refine wpAnyH_take (i := 25) (oi := ?oi25) (v := ?v25) ?hi25 ?hs25 ?hf25 ?hr25 ?hQ25 (Or.inl ⟨?hw25, ?hy25⟩) (by assumption) ?h25
  case hi25 => (simp only [List.getElem?_toArray, List.getElem?_cons_succ, List.getElem?_cons_zero]; rfl)
  case hs25 => kernel_rfl
  case hf25 => kernel_rfl
  case hr25 => kernel_rfl
  case hw25 => rfl
  case hy25 => (intro w0 hSw; (try dsimp only at hSw); go_simp; first | done | with_reducible rfl)
  case hQ25 => exact fun _ _ _ h => h
  try simp only [Act.put, List.setIfInBounds_toArray, List.set_cons_zero, List.set_cons_succ]
  refine wpAnyH_take (i := 26) (oi := ?oi26) (v := ?v26) ?hi26 ?hs26 ?hf26 ?hr26 ?hQ26 (Or.inl ⟨?hw26, ?hy26⟩) (by assumption) ?h26
  case hi26 => (simp only [List.getElem?_toArray, List.getElem?_cons_succ, List.getElem?_cons_zero]; rfl)
  case hs26 => kernel_rfl
  case hf26 => kernel_rfl
  case hr26 => kernel_rfl
  case hw26 => rfl
  case hy26 => (intro w0 hSw; (try dsimp only at hSw); go_simp; first | done | with_reducible rfl)
  case hQ26 => exact fun _ _ _ h => h
  try simp only [Act.put, List.setIfInBounds_toArray, List.set_cons_zero, List.set_cons_succ]
  refine wpAnyH_take (i := 27) (oi := ?oi27) (v := ?v27) ?hi27 ?hs27 ?hf27 ?hr27 ?hQ27 (Or.inl ⟨?hw27, ?hy27⟩) (by assumption) ?h27
  case hi27 => (simp only [List.getElem?_toArray, List.getElem?_cons_succ, List.getElem?_cons_zero]; rfl)
  case hs27 => kernel_rfl
  case hf27 => kernel_rfl
  case hr27 => kernel_rfl
  case hw27 => rfl
  case hy27 => (intro w0 hSw; (try dsimp only at hSw); go_simp; first | done | with_reducible rfl)
  case hQ27 => exact fun _ _ _ h => h
  try simp only [Act.put, List.setIfInBounds_toArray, List.set_cons_zero, List.set_cons_succ]
  refine wpAnyH_take (i := 28) (oi := ?oi28) (v := ?v28) ?hi28 ?hs28 ?hf28 ?hr28 ?hQ28 (Or.inl ⟨?hw28, ?hy28⟩) (by assumption) ?h28
  case hi28 => (simp only [List.getElem?_toArray, List.getElem?_cons_succ, List.getElem?_cons_zero]; rfl)
  case hs28 => kernel_rfl
  case hf28 => kernel_rfl
  case hr28 => kernel_rfl
  case hw28 => rfl
  case hy28 => (intro w0 hSw; have z := (show ∀ i, w0.cell? ⟨g1, i, none⟩ = #[Value.int .i64 RW.p, .int .i64 RW.d, .int .i64 RW.e.k, .int .i64 RW.e.j, .int .i64 RW.e.v, .int .i64 RW.e.t, .int .i64 RW.e.c, .int .i64 RW.a, .int .i64 RW.l, .int .i64 RW.n, .slice s1 j1 o1, .slice t1 q1 p1][i]? from fun i => Joins.cell_of_block ((PH.out w0 hSw).at (.tail _ (.tail _ (.tail _ (.tail _ (.tail _ (.tail _ (.tail _ (.head _))))))))) i); clear hSw; go_simp; first | done | with_reducible rfl)
  case hQ28 => exact fun _ _ _ h => h
  try simp only [Act.put, List.setIfInBounds_toArray, List.set_cons_zero, List.set_cons_succ]
  refine wpAnyH_take (i := 29) (oi := ?oi29) (v := ?v29) ?hi29 ?hs29 ?hf29 ?hr29 ?hQ29 (Or.inl ⟨?hw29, ?hy29⟩) (by assumption) ?h29
  case hi29 => (simp only [List.getElem?_toArray, List.getElem?_cons_succ, List.getElem?_cons_zero]; rfl)
  case hs29 => kernel_rfl
  case hf29 => kernel_rfl
  case hr29 => kernel_rfl
  case hw29 => rfl
  case hy29 => (intro w0 hSw; have z := (show ∀ i, w0.cell? ⟨g5, i, none⟩ = #[Value.int .i64 RW.p, .int .i64 RW.d, .int .i64 RW.e.k, .int .i64 RW.e.j, .int .i64 RW.e.v, .int .i64 RW.e.t, .int .i64 RW.e.c, .int .i64 RW.a, .int .i64 RW.l, .int .i64 RW.n, .slice s9 j9 o9, .slice t9 q9 p9][i]? from fun i => Joins.cell_of_block ((PH.out w0 hSw).at (.tail _ (.tail _ (.tail _ (.head _))))) i); clear hSw; go_simp; first | done | with_reducible rfl)
  case hQ29 => exact fun _ _ _ h => h
  try simp only [Act.put, List.setIfInBounds_toArray, List.set_cons_zero, List.set_cons_succ]
  refine wpAnyH_ready (rs := [30]) (by kernel_rfl) (by simp) ?_
  refine AllReadyH.cons (o := ?o30) ?hi30 ?step30 AllReadyH.nil
  case hi30 => (simp only [List.getElem?_toArray, List.getElem?_cons_succ, List.getElem?_cons_zero]; rfl)
  intro K hK
  go_simp
  refine (same_self SW.out ((PH.out _ hHeld).books (.tail _ (.tail _ (.tail _ (.tail _ (.tail _ (.tail _ (.tail _ (.head _))))))))) ((PH.out _ hHeld).books (.tail _ (.tail _ (.tail _ (.head _)))))).mono ?_
  rintro e wq ⟨rfl, hbq⟩
  refine hK.out _ _ (PS.out _ _ hHeld hbq) (fun hHeld => ?_)
  clear hK K
  try simp only [Act.put, List.setIfInBounds_toArray, List.set_cons_zero, List.set_cons_succ]
  clear hbq
  refine wpAnyH_take (i := 31) (oi := ?oi31) (v := ?v31) ?hi31 ?hs31 ?hf31 ?hr31 ?hQ31 (Or.inl ⟨?hw31, ?hy31⟩) (by assumption) ?h31
  case hi31 => (simp only [List.getElem?_toArray, List.getElem?_cons_succ, List.getElem?_cons_zero]; rfl)
  case hs31 => kernel_rfl
  case hf31 => kernel_rfl
  case hr31 => kernel_rfl
  case hw31 => rfl
  case hy31 => (intro w0 hSw; (try dsimp only at hSw); go_simp; first | done | with_reducible rfl)
  case hQ31 => exact fun _ _ _ h => h
  try simp only [Act.put, List.setIfInBounds_toArray, List.set_cons_zero, List.set_cons_succ]
  refine wpAnyH_take (i := 32) (oi := ?oi32) (v := ?v32) ?hi32 ?hs32 ?hf32 ?hr32 ?hQ32 (Or.inl ⟨?hw32, ?hy32⟩) (by assumption) ?h32
  case hi32 => (simp only [List.getElem?_toArray, List.getElem?_cons_succ, List.getElem?_cons_zero]; rfl)
  case hs32 => kernel_rfl
  case hf32 => kernel_rfl
  case hr32 => kernel_rfl
  case hw32 => rfl
  case hy32 => (intro w0 hSw; (try dsimp only at hSw); go_simp; first | done | with_reducible rfl)
  case hQ32 => exact fun _ _ _ h => h
  try simp only [Act.put, List.setIfInBounds_toArray, List.set_cons_zero, List.set_cons_succ]
  refine wpAnyH_take (i := 33) (oi := ?oi33) (v := ?v33) ?hi33 ?hs33 ?hf33 ?hr33 ?hQ33 (Or.inl ⟨?hw33, ?hy33⟩) (by assumption) ?h33
  case hi33 => (simp only [List.getElem?_toArray, List.getElem?_cons_succ, List.getElem?_cons_zero]; rfl)
  case hs33 => kernel_rfl
  case hf33 => kernel_rfl
  case hr33 => kernel_rfl
  case hw33 => rfl
  case hy33 => (intro w0 hSw; (try dsimp only at hSw); go_simp; first | done | with_reducible rfl)
  case hQ33 => exact fun _ _ _ h => h
  try simp only [Act.put, List.setIfInBounds_toArray, List.set_cons_zero, List.set_cons_succ]
  refine wpAnyH_take (i := 34) (oi := ?oi34) (v := ?v34) ?hi34 ?hs34 ?hf34 ?hr34 ?hQ34 (Or.inl ⟨?hw34, ?hy34⟩) (by assumption) ?h34
  case hi34 => (simp only [List.getElem?_toArray, List.getElem?_cons_succ, List.getElem?_cons_zero]; rfl)
  case hs34 => kernel_rfl
  case hf34 => kernel_rfl
  case hr34 => kernel_rfl
  case hw34 => rfl
  case hy34 => (intro w0 hSw; (try dsimp only at hSw); go_simp; first | done | with_reducible rfl)
  case hQ34 => exact fun _ _ _ h => h
  try simp only [Act.put, List.setIfInBounds_toArray, List.set_cons_zero, List.set_cons_succ]
  refine wpAnyH_take (i := 35) (oi := ?oi35) (v := ?v35) ?hi35 ?hs35 ?hf35 ?hr35 ?hQ35 (Or.inl ⟨?hw35, ?hy35⟩) (by assumption) ?h35
  case hi35 => (simp only [List.getElem?_toArray, List.getElem?_cons_succ, List.getElem?_cons_zero]; rfl)
  case hs35 => kernel_rfl
  case hf35 => kernel_rfl
  case hr35 => kernel_rfl
  case hw35 => rfl
  case hy35 => (intro w0 hSw; (try dsimp only at hSw); go_simp; first | done | with_reducible rfl)
  case hQ35 => exact fun _ _ _ h => h
  try simp only [Act.put, List.setIfInBounds_toArray, List.set_cons_zero, List.set_cons_succ]
  refine wpAnyH_take (i := 36) (oi := ?oi36) (v := ?v36) ?hi36 ?hs36 ?hf36 ?hr36 ?hQ36 (Or.inl ⟨?hw36, ?hy36⟩) (by assumption) ?h36
  case hi36 => (simp only [List.getElem?_toArray, List.getElem?_cons_succ, List.getElem?_cons_zero]; rfl)
  case hs36 => kernel_rfl
  case hf36 => kernel_rfl
  case hr36 => kernel_rfl
  case hw36 => rfl
  case hy36 => (intro w0 hSw; (try dsimp only at hSw); go_simp; first | done | with_reducible rfl)
  case hQ36 => exact fun _ _ _ h => h
  try simp only [Act.put, List.setIfInBounds_toArray, List.set_cons_zero, List.set_cons_succ]
  refine wpAnyH_take (i := 37) (oi := ?oi37) (v := ?v37) ?hi37 ?hs37 ?hf37 ?hr37 ?hQ37 (Or.inl ⟨?hw37, ?hy37⟩) (by assumption) ?h37
  case hi37 => (simp only [List.getElem?_toArray, List.getElem?_cons_succ, List.getElem?_cons_zero]; rfl)
  case hs37 => kernel_rfl
  case hf37 => kernel_rfl
  case hr37 => kernel_rfl
  case hw37 => rfl
  case hy37 => (intro w0 hSw; (try dsimp only at hSw); go_simp; first | done | with_reducible rfl)
  case hQ37 => exact fun _ _ _ h => h
  try simp only [Act.put, List.setIfInBounds_toArray, List.set_cons_zero, List.set_cons_succ]
  refine wpAnyH_take (i := 38) (oi := ?oi38) (v := ?v38) ?hi38 ?hs38 ?hf38 ?hr38 ?hQ38 (Or.inl ⟨?hw38, ?hy38⟩) (by assumption) ?h38
  case hi38 => (simp only [List.getElem?_toArray, List.getElem?_cons_succ, List.getElem?_cons_zero]; rfl)
  case hs38 => kernel_rfl
  case hf38 => kernel_rfl
  case hr38 => kernel_rfl
  case hw38 => rfl
  case hy38 => (intro w0 hSw; have z := (show ∀ i, w0.cell? ⟨g2, i, none⟩ = #[Value.int .i64 RR.p, .int .i64 RR.d, .int .i64 RR.e.k, .int .i64 RR.e.j, .int .i64 RR.e.v, .int .i64 RR.e.t, .int .i64 RR.e.c, .int .i64 RR.a, .int .i64 RR.l, .int .i64 RR.n, .slice s3 j3 o3, .slice t3 q3 p3][i]? from fun i => Joins.cell_of_block ((PH.out w0 hSw).at (.tail _ (.tail _ (.tail _ (.tail _ (.tail _ (.tail _ (.head _)))))))) i); clear hSw; go_simp; first | done | with_reducible rfl)
  case hQ38 => exact fun _ _ _ h => h
  try simp only [Act.put, List.setIfInBounds_toArray, List.set_cons_zero, List.set_cons_succ]
  refine wpAnyH_take (i := 39) (oi := ?oi39) (v := ?v39) ?hi39 ?hs39 ?hf39 ?hr39 ?hQ39 (Or.inl ⟨?hw39, ?hy39⟩) (by assumption) ?h39
  case hi39 => (simp only [List.getElem?_toArray, List.getElem?_cons_succ, List.getElem?_cons_zero]; rfl)
  case hs39 => kernel_rfl
  case hf39 => kernel_rfl
  case hr39 => kernel_rfl
  case hw39 => rfl
  case hy39 => (intro w0 hSw; have z := (show ∀ i, w0.cell? ⟨g6, i, none⟩ = #[Value.int .i64 RR.p, .int .i64 RR.d, .int .i64 RR.e.k, .int .i64 RR.e.j, .int .i64 RR.e.v, .int .i64 RR.e.t, .int .i64 RR.e.c, .int .i64 RR.a, .int .i64 RR.l, .int .i64 RR.n, .slice s11 j11 o11, .slice t11 q11 p11][i]? from fun i => Joins.cell_of_block ((PH.out w0 hSw).at (.tail _ (.tail _ (.head _)))) i); clear hSw; go_simp; first | done | with_reducible rfl)
  case hQ39 => exact fun _ _ _ h => h
  try simp only [Act.put, List.setIfInBounds_toArray, List.set_cons_zero, List.set_cons_succ]
  refine wpAnyH_ready (rs := [40]) (by kernel_rfl) (by simp) ?_
  refine AllReadyH.cons (o := ?o40) ?hi40 ?step40 AllReadyH.nil
  case hi40 => (simp only [List.getElem?_toArray, List.getElem?_cons_succ, List.getElem?_cons_zero]; rfl)
  intro K hK
  go_simp
  refine (same_self SR.out ((PH.out _ hHeld).books (.tail _ (.tail _ (.tail _ (.tail _ (.tail _ (.tail _ (.head _)))))))) ((PH.out _ hHeld).books (.tail _ (.tail _ (.head _))))).mono ?_
  rintro e wq ⟨rfl, hbq⟩
  refine hK.out _ _ (PS.out _ _ hHeld hbq) (fun hHeld => ?_)
  clear hK K
  try simp only [Act.put, List.setIfInBounds_toArray, List.set_cons_zero, List.set_cons_succ]
  clear hbq
  refine wpAnyH_take (i := 41) (oi := ?oi41) (v := ?v41) ?hi41 ?hs41 ?hf41 ?hr41 ?hQ41 (Or.inl ⟨?hw41, ?hy41⟩) (by assumption) ?h41
  case hi41 => (simp only [List.getElem?_toArray, List.getElem?_cons_succ, List.getElem?_cons_zero]; rfl)
  case hs41 => kernel_rfl
  case hf41 => kernel_rfl
  case hr41 => kernel_rfl
  case hw41 => rfl
  case hy41 => (intro w0 hSw; (try dsimp only at hSw); go_simp; first | done | with_reducible rfl)
  case hQ41 => exact fun _ _ _ h => h
  try simp only [Act.put, List.setIfInBounds_toArray, List.set_cons_zero, List.set_cons_succ]
  refine wpAnyH_take (i := 42) (oi := ?oi42) (v := ?v42) ?hi42 ?hs42 ?hf42 ?hr42 ?hQ42 (Or.inl ⟨?hw42, ?hy42⟩) (by assumption) ?h42
  case hi42 => (simp only [List.getElem?_toArray, List.getElem?_cons_succ, List.getElem?_cons_zero]; rfl)
  case hs42 => kernel_rfl
  case hf42 => kernel_rfl
  case hr42 => kernel_rfl
  case hw42 => rfl
  case hy42 => (intro w0 hSw; (try dsimp only at hSw); go_simp; first | done | with_reducible rfl)
  case hQ42 => exact fun _ _ _ h => h
  try simp only [Act.put, List.setIfInBounds_toArray, List.set_cons_zero, List.set_cons_succ]
  refine wpAnyH_take (i := 43) (oi := ?oi43) (v := ?v43) ?hi43 ?hs43 ?hf43 ?hr43 ?hQ43 (Or.inl ⟨?hw43, ?hy43⟩) (by assumption) ?h43
  case hi43 => (simp only [List.getElem?_toArray, List.getElem?_cons_succ, List.getElem?_cons_zero]; rfl)
  case hs43 => kernel_rfl
  case hf43 => kernel_rfl
  case hr43 => kernel_rfl
  case hw43 => rfl
  case hy43 => (intro w0 hSw; (try dsimp only at hSw); go_simp; first | done | with_reducible rfl)
  case hQ43 => exact fun _ _ _ h => h
  try simp only [Act.put, List.setIfInBounds_toArray, List.set_cons_zero, List.set_cons_succ]
  refine wpAnyH_take (i := 44) (oi := ?oi44) (v := ?v44) ?hi44 ?hs44 ?hf44 ?hr44 ?hQ44 (Or.inl ⟨?hw44, ?hy44⟩) (by assumption) ?h44
  case hi44 => (simp only [List.getElem?_toArray, List.getElem?_cons_succ, List.getElem?_cons_zero]; rfl)
  case hs44 => kernel_rfl
  case hf44 => kernel_rfl
  case hr44 => kernel_rfl
  case hw44 => rfl
  case hy44 => (intro w0 hSw; (try dsimp only at hSw); go_simp; first | done | with_reducible rfl)
  case hQ44 => exact fun _ _ _ h => h
  try simp only [Act.put, List.setIfInBounds_toArray, List.set_cons_zero, List.set_cons_succ]
  refine wpAnyH_take (i := 45) (oi := ?oi45) (v := ?v45) ?hi45 ?hs45 ?hf45 ?hr45 ?hQ45 (Or.inl ⟨?hw45, ?hy45⟩) (by assumption) ?h45
  case hi45 => (simp only [List.getElem?_toArray, List.getElem?_cons_succ, List.getElem?_cons_zero]; rfl)
  case hs45 => kernel_rfl
  case hf45 => kernel_rfl
  case hr45 => kernel_rfl
  case hw45 => rfl
  case hy45 => (intro w0 hSw; (try dsimp only at hSw); go_simp; first | done | with_reducible rfl)
  case hQ45 => exact fun _ _ _ h => h
  try simp only [Act.put, List.setIfInBounds_toArray, List.set_cons_zero, List.set_cons_succ]
  refine wpAnyH_take (i := 46) (oi := ?oi46) (v := ?v46) ?hi46 ?hs46 ?hf46 ?hr46 ?hQ46 (Or.inl ⟨?hw46, ?hy46⟩) (by assumption) ?h46
  case hi46 => (simp only [List.getElem?_toArray, List.getElem?_cons_succ, List.getElem?_cons_zero]; rfl)
  case hs46 => kernel_rfl
  case hf46 => kernel_rfl
  case hr46 => kernel_rfl
  case hw46 => rfl
  case hy46 => (intro w0 hSw; (try dsimp only at hSw); go_simp; first | done | with_reducible rfl)
  case hQ46 => exact fun _ _ _ h => h
  try simp only [Act.put, List.setIfInBounds_toArray, List.set_cons_zero, List.set_cons_succ]
  refine wpAnyH_take (i := 47) (oi := ?oi47) (v := ?v47) ?hi47 ?hs47 ?hf47 ?hr47 ?hQ47 (Or.inl ⟨?hw47, ?hy47⟩) (by assumption) ?h47
  case hi47 => (simp only [List.getElem?_toArray, List.getElem?_cons_succ, List.getElem?_cons_zero]; rfl)
  case hs47 => kernel_rfl
  case hf47 => kernel_rfl
  case hr47 => kernel_rfl
  case hw47 => rfl
  case hy47 => (intro w0 hSw; (try dsimp only at hSw); go_simp; first | done | with_reducible rfl)
  case hQ47 => exact fun _ _ _ h => h
  try simp only [Act.put, List.setIfInBounds_toArray, List.set_cons_zero, List.set_cons_succ]
  refine wpAnyH_take (i := 48) (oi := ?oi48) (v := ?v48) ?hi48 ?hs48 ?hf48 ?hr48 ?hQ48 (Or.inl ⟨?hw48, ?hy48⟩) (by assumption) ?h48
  case hi48 => (simp only [List.getElem?_toArray, List.getElem?_cons_succ, List.getElem?_cons_zero]; rfl)
  case hs48 => kernel_rfl
  case hf48 => kernel_rfl
  case hr48 => kernel_rfl
  case hw48 => rfl
  case hy48 => (intro w0 hSw; have z := (show ∀ i, w0.cell? ⟨g3, i, none⟩ = #[Value.int .i64 RP.p, .int .i64 RP.d, .int .i64 RP.e.k, .int .i64 RP.e.j, .int .i64 RP.e.v, .int .i64 RP.e.t, .int .i64 RP.e.c, .int .i64 RP.a, .int .i64 RP.l, .int .i64 RP.n, .slice s5 j5 o5, .slice t5 q5 p5][i]? from fun i => Joins.cell_of_block ((PH.out w0 hSw).at (.tail _ (.tail _ (.tail _ (.tail _ (.tail _ (.head _))))))) i); clear hSw; go_simp; first | done | with_reducible rfl)
  case hQ48 => exact fun _ _ _ h => h
  try simp only [Act.put, List.setIfInBounds_toArray, List.set_cons_zero, List.set_cons_succ]
  refine wpAnyH_take (i := 49) (oi := ?oi49) (v := ?v49) ?hi49 ?hs49 ?hf49 ?hr49 ?hQ49 (Or.inl ⟨?hw49, ?hy49⟩) (by assumption) ?h49
  case hi49 => (simp only [List.getElem?_toArray, List.getElem?_cons_succ, List.getElem?_cons_zero]; rfl)
  case hs49 => kernel_rfl
  case hf49 => kernel_rfl
  case hr49 => kernel_rfl
  case hw49 => rfl
  case hy49 => (intro w0 hSw; have z := (show ∀ i, w0.cell? ⟨g7, i, none⟩ = #[Value.int .i64 RP.p, .int .i64 RP.d, .int .i64 RP.e.k, .int .i64 RP.e.j, .int .i64 RP.e.v, .int .i64 RP.e.t, .int .i64 RP.e.c, .int .i64 RP.a, .int .i64 RP.l, .int .i64 RP.n, .slice s13 j13 o13, .slice t13 q13 p13][i]? from fun i => Joins.cell_of_block ((PH.out w0 hSw).at (.tail _ (.head _))) i); clear hSw; go_simp; first | done | with_reducible rfl)
  case hQ49 => exact fun _ _ _ h => h
  try simp only [Act.put, List.setIfInBounds_toArray, List.set_cons_zero, List.set_cons_succ]
  refine wpAnyH_ready (rs := [50]) (by kernel_rfl) (by simp) ?_
  refine AllReadyH.cons (o := ?o50) ?hi50 ?step50 AllReadyH.nil
  case hi50 => (simp only [List.getElem?_toArray, List.getElem?_cons_succ, List.getElem?_cons_zero]; rfl)
  intro K hK
  go_simp
  refine (same_self SP.out ((PH.out _ hHeld).books (.tail _ (.tail _ (.tail _ (.tail _ (.tail _ (.head _))))))) ((PH.out _ hHeld).books (.tail _ (.head _)))).mono ?_
  rintro e wq ⟨rfl, hbq⟩
  refine hK.out _ _ (PS.out _ _ hHeld hbq) (fun hHeld => ?_)
  clear hK K
  try simp only [Act.put, List.setIfInBounds_toArray, List.set_cons_zero, List.set_cons_succ]
  clear hbq
  refine wpAnyH_take (i := 51) (oi := ?oi51) (v := ?v51) ?hi51 ?hs51 ?hf51 ?hr51 ?hQ51 (Or.inl ⟨?hw51, ?hy51⟩) (by assumption) ?h51
  case hi51 => (simp only [List.getElem?_toArray, List.getElem?_cons_succ, List.getElem?_cons_zero]; rfl)
  case hs51 => kernel_rfl
  case hf51 => kernel_rfl
  case hr51 => kernel_rfl
  case hw51 => rfl
  case hy51 => (intro w0 hSw; (try dsimp only at hSw); go_simp; first | done | with_reducible rfl)
  case hQ51 => exact fun _ _ _ h => h
  try simp only [Act.put, List.setIfInBounds_toArray, List.set_cons_zero, List.set_cons_succ]
  refine wpAnyH_take (i := 52) (oi := ?oi52) (v := ?v52) ?hi52 ?hs52 ?hf52 ?hr52 ?hQ52 (Or.inl ⟨?hw52, ?hy52⟩) (by assumption) ?h52
  case hi52 => (simp only [List.getElem?_toArray, List.getElem?_cons_succ, List.getElem?_cons_zero]; rfl)
  case hs52 => kernel_rfl
  case hf52 => kernel_rfl
  case hr52 => kernel_rfl
  case hw52 => rfl
  case hy52 => (intro w0 hSw; (try dsimp only at hSw); go_simp; first | done | with_reducible rfl)
  case hQ52 => exact fun _ _ _ h => h
  try simp only [Act.put, List.setIfInBounds_toArray, List.set_cons_zero, List.set_cons_succ]
  refine wpAnyH_take (i := 53) (oi := ?oi53) (v := ?v53) ?hi53 ?hs53 ?hf53 ?hr53 ?hQ53 (Or.inl ⟨?hw53, ?hy53⟩) (by assumption) ?h53
  case hi53 => (simp only [List.getElem?_toArray, List.getElem?_cons_succ, List.getElem?_cons_zero]; rfl)
  case hs53 => kernel_rfl
  case hf53 => kernel_rfl
  case hr53 => kernel_rfl
  case hw53 => rfl
  case hy53 => (intro w0 hSw; (try dsimp only at hSw); go_simp; first | done | with_reducible rfl)
  case hQ53 => exact fun _ _ _ h => h
  try simp only [Act.put, List.setIfInBounds_toArray, List.set_cons_zero, List.set_cons_succ]
  refine wpAnyH_take (i := 54) (oi := ?oi54) (v := ?v54) ?hi54 ?hs54 ?hf54 ?hr54 ?hQ54 (Or.inl ⟨?hw54, ?hy54⟩) (by assumption) ?h54
  case hi54 => (simp only [List.getElem?_toArray, List.getElem?_cons_succ, List.getElem?_cons_zero]; rfl)
  case hs54 => kernel_rfl
  case hf54 => kernel_rfl
  case hr54 => kernel_rfl
  case hw54 => rfl
  case hy54 => (intro w0 hSw; (try dsimp only at hSw); go_simp; first | done | with_reducible rfl)
  case hQ54 => exact fun _ _ _ h => h
  try simp only [Act.put, List.setIfInBounds_toArray, List.set_cons_zero, List.set_cons_succ]
  refine wpAnyH_take (i := 55) (oi := ?oi55) (v := ?v55) ?hi55 ?hs55 ?hf55 ?hr55 ?hQ55 (Or.inl ⟨?hw55, ?hy55⟩) (by assumption) ?h55
  case hi55 => (simp only [List.getElem?_toArray, List.getElem?_cons_succ, List.getElem?_cons_zero]; rfl)
  case hs55 => kernel_rfl
  case hf55 => kernel_rfl
  case hr55 => kernel_rfl
  case hw55 => rfl
  case hy55 => (intro w0 hSw; (try dsimp only at hSw); go_simp; first | done | with_reducible rfl)
  case hQ55 => exact fun _ _ _ h => h
  try simp only [Act.put, List.setIfInBounds_toArray, List.set_cons_zero, List.set_cons_succ]
  refine wpAnyH_take (i := 56) (oi := ?oi56) (v := ?v56) ?hi56 ?hs56 ?hf56 ?hr56 ?hQ56 (Or.inl ⟨?hw56, ?hy56⟩) (by assumption) ?h56
  case hi56 => (simp only [List.getElem?_toArray, List.getElem?_cons_succ, List.getElem?_cons_zero]; rfl)
  case hs56 => kernel_rfl
  case hf56 => kernel_rfl
  case hr56 => kernel_rfl
  case hw56 => rfl
  case hy56 => (intro w0 hSw; (try dsimp only at hSw); go_simp; first | done | with_reducible rfl)
  case hQ56 => exact fun _ _ _ h => h
  try simp only [Act.put, List.setIfInBounds_toArray, List.set_cons_zero, List.set_cons_succ]
  refine wpAnyH_take (i := 57) (oi := ?oi57) (v := ?v57) ?hi57 ?hs57 ?hf57 ?hr57 ?hQ57 (Or.inl ⟨?hw57, ?hy57⟩) (by assumption) ?h57
  case hi57 => (simp only [List.getElem?_toArray, List.getElem?_cons_succ, List.getElem?_cons_zero]; rfl)
  case hs57 => kernel_rfl
  case hf57 => kernel_rfl
  case hr57 => kernel_rfl
  case hw57 => rfl
  case hy57 => (intro w0 hSw; (try dsimp only at hSw); go_simp; first | done | with_reducible rfl)
  case hQ57 => exact fun _ _ _ h => h
  try simp only [Act.put, List.setIfInBounds_toArray, List.set_cons_zero, List.set_cons_succ]
  refine wpAnyH_take (i := 58) (oi := ?oi58) (v := ?v58) ?hi58 ?hs58 ?hf58 ?hr58 ?hQ58 (Or.inl ⟨?hw58, ?hy58⟩) (by assumption) ?h58
  case hi58 => (simp only [List.getElem?_toArray, List.getElem?_cons_succ, List.getElem?_cons_zero]; rfl)
  case hs58 => kernel_rfl
  case hf58 => kernel_rfl
  case hr58 => kernel_rfl
  case hw58 => rfl
  case hy58 => (intro w0 hSw; have z := (show ∀ i, w0.cell? ⟨g4, i, none⟩ = #[Value.int .i64 RF.p, .int .i64 RF.d, .int .i64 RF.e.k, .int .i64 RF.e.j, .int .i64 RF.e.v, .int .i64 RF.e.t, .int .i64 RF.e.c, .int .i64 RF.a, .int .i64 RF.l, .int .i64 RF.n, .slice s7 j7 o7, .slice t7 q7 p7][i]? from fun i => Joins.cell_of_block ((PH.out w0 hSw).at (.tail _ (.tail _ (.tail _ (.tail _ (.head _)))))) i); clear hSw; go_simp; first | done | with_reducible rfl)
  case hQ58 => exact fun _ _ _ h => h
  try simp only [Act.put, List.setIfInBounds_toArray, List.set_cons_zero, List.set_cons_succ]
  refine wpAnyH_take (i := 59) (oi := ?oi59) (v := ?v59) ?hi59 ?hs59 ?hf59 ?hr59 ?hQ59 (Or.inl ⟨?hw59, ?hy59⟩) (by assumption) ?h59
  case hi59 => (simp only [List.getElem?_toArray, List.getElem?_cons_succ, List.getElem?_cons_zero]; rfl)
  case hs59 => kernel_rfl
  case hf59 => kernel_rfl
  case hr59 => kernel_rfl
  case hw59 => rfl
  case hy59 => (intro w0 hSw; have z := (show ∀ i, w0.cell? ⟨g8, i, none⟩ = #[Value.int .i64 RF.p, .int .i64 RF.d, .int .i64 RF.e.k, .int .i64 RF.e.j, .int .i64 RF.e.v, .int .i64 RF.e.t, .int .i64 RF.e.c, .int .i64 RF.a, .int .i64 RF.l, .int .i64 RF.n, .slice s15 j15 o15, .slice t15 q15 p15][i]? from fun i => Joins.cell_of_block ((PH.out w0 hSw).at (.head _)) i); clear hSw; go_simp; first | done | with_reducible rfl)
  case hQ59 => exact fun _ _ _ h => h
  try simp only [Act.put, List.setIfInBounds_toArray, List.set_cons_zero, List.set_cons_succ]
  refine wpAnyH_ready (rs := [60]) (by kernel_rfl) (by simp) ?_
  refine AllReadyH.cons (o := ?o60) ?hi60 ?step60 AllReadyH.nil
  case hi60 => (simp only [List.getElem?_toArray, List.getElem?_cons_succ, List.getElem?_cons_zero]; rfl)
  intro K hK
  go_simp
  refine (same_self SF.out ((PH.out _ hHeld).books (.tail _ (.tail _ (.tail _ (.tail _ (.head _)))))) ((PH.out _ hHeld).books (.head _))).mono ?_
  rintro e wq ⟨rfl, hbq⟩
  refine hK.out _ _ (PS.out _ _ hHeld hbq) (fun hHeld => ?_)
  clear hK K
  try simp only [Act.put, List.setIfInBounds_toArray, List.set_cons_zero, List.set_cons_succ]
  clear hbq
  refine wpAnyH_take (i := 61) (oi := ?oi61) (v := ?v61) ?hi61 ?hs61 ?hf61 ?hr61 ?hQ61 (Or.inl ⟨?hw61, ?hy61⟩) (by assumption) ?h61
  case hi61 => (simp only [List.getElem?_toArray, List.getElem?_cons_succ, List.getElem?_cons_zero]; rfl)
  case hs61 => kernel_rfl
  case hf61 => kernel_rfl
  case hr61 => kernel_rfl
  case hw61 => rfl
  case hy61 => (intro w0 hSw; (try dsimp only at hSw); go_simp; first | done | with_reducible rfl)
  case hQ61 => exact fun _ _ _ h => h
  try simp only [Act.put, List.setIfInBounds_toArray, List.set_cons_zero, List.set_cons_succ]
  refine wpAnyH_take (i := 62) (oi := ?oi62) (v := ?v62) ?hi62 ?hs62 ?hf62 ?hr62 ?hQ62 (Or.inl ⟨?hw62, ?hy62⟩) (by assumption) ?h62
  case hi62 => (simp only [List.getElem?_toArray, List.getElem?_cons_succ, List.getElem?_cons_zero]; rfl)
  case hs62 => kernel_rfl
  case hf62 => kernel_rfl
  case hr62 => kernel_rfl
  case hw62 => rfl
  case hy62 => (intro w0 hSw; (try dsimp only at hSw); go_simp; first | done | with_reducible rfl)
  case hQ62 => exact fun _ _ _ h => h
  try simp only [Act.put, List.setIfInBounds_toArray, List.set_cons_zero, List.set_cons_succ]
  refine wpAnyH_done (by kernel_rfl) ?_ _
  have HB := (PH.out _ hHeld).below
  clear hHeld PS PH
  go_wp2
  go_ret
  exact ⟨rfl, HB⟩

end Go.Proofs.Ytbokdcdnandgbae
