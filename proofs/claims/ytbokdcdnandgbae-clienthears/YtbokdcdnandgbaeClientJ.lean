/- How long the books are that clients' functions answer; the walk of ClientHears. -/
import Derived.Test.YtbokdcdnandgbaeClientI
import Derived.Test.YtbokdcdnandgbaeClientE
import Derived.Test.YtbokdcdnandgbaeClientF
import Derived.Test.YtbokdcdnandgbaeClientG
namespace Go.Proofs.Ytbokdcdnandgbae
open Go.RowKit

/-- A book that is not longer than what may be held against another one. -/
def Slim (c : Cl) : Prop := c.js.length ≤ most ∧ c.rs.length ≤ most
theorem slim_zero : Slim Cl.zero := ⟨Nat.zero_le _, Nat.zero_le _⟩
theorem slim_few {c : Cl} (h1 : c.js.length ≤ 1000000) (h2 : c.rs.length ≤ 1000000) : Slim c := by
  unfold Slim most; omega
theorem slim_ck {c x : Cl} (h : c.ck = 0) (hj : x.js = c.js := by rfl) (hr : x.rs = c.rs := by rfl) : Slim x :=
  slim_few (by rw [hj]; exact (few_of h).1) (by rw [hr]; exact (few_of h).2)
theorem slim_want (c : Cl) (x : En) : Slim (wantOf c x).1 := by
  unfold wantOf
  by_cases hc : c.ck = 0
  · rw [if_neg (by simpa using hc)]
    repeat' split
    all_goals first | exact slim_zero | exact slim_ck hc
  · rw [if_pos hc]; exact slim_zero
theorem slim_ring (c : Cl) (me j t : Int) : Slim (ringOf c me j t).1 := by
  unfold ringOf
  repeat' split
  all_goals first | exact slim_zero | exact slim_want _ _
theorem slim_place (q : Int) (c : Cl) (a : Int) : Slim (placeOf q c a).1 := by
  unfold placeOf
  by_cases hc : c.ck = 0
  · rw [if_neg (by simpa using hc)]
    repeat' split
    all_goals first | exact slim_zero | exact slim_ck hc
  · rw [if_pos hc]; exact slim_zero
theorem slim_hear (c : Cl) (x : En) : Slim (hearOf c x).1 := by
  unfold hearOf
  by_cases hc : c.ck = 0
  · rw [if_neg (by simpa using hc)]
    repeat' split
    all_goals first | exact slim_zero | exact slim_ck hc
  · rw [if_pos hc]; exact slim_zero
theorem slim_learn (c : Cl) (q : Int) : Slim (learnOf c q).1 := by
  unfold learnOf
  by_cases hc : c.ck = 0
  · rw [if_neg (by simpa using hc)]
    repeat' split
    all_goals first | exact slim_zero | exact slim_ck hc
  · rw [if_pos hc]; exact slim_zero
theorem slim_play (c : Cl) (x : En) : Slim (playOf c x).1 := by
  by_cases h : (playOf c x).2 = 0
  · exact slim_ck (play_ok h).2.2.2.2
  · have : (playOf c x).1 = Cl.zero := by
      unfold playOf at h ⊢
      repeat' split at h
      all_goals first | (exact absurd rfl h) | skip
      all_goals simp_all
    rw [this]; exact slim_zero

/-- The reckoner's: alike. -/
theorem same_self {c : Cl} (h : Slim c) {u1 v1 u2 v2 : Value} {W : World} (h1 : BkAt W u1 v1 c) (h2 : BkAt W u2 v2 c) :
    Calls Try.prog 26 #[c.val u1 v1, c.val u2 v2] W fun e w' => e = .returned (.bool true) ∧ Below W.heap.size W w' := by
  have := ref_sameC c c u1 v1 u2 v2 W h1 h2 h.1 h.2
  rw [sameC_self] at this
  exact this

set_option linter.unusedSimpArgs false in
set_option maxHeartbeats 8000000 in
set_option maxRecDepth 100000 in
/-- ClientHears. -/
theorem clHears_any (c : Cl) (x : En) (q : Int) (a1 a2 : Option Addr) (m1 k1 m2 k2 : Nat) (w : World) (hb : BkAt w (.slice a1 m1 k1) (.slice a2 m2 k2) c) :
    Calls Try.prog 5 #[c.val (.slice a1 m1 k1) (.slice a2 m2 k2), x.val, .int .i64 q] w fun e w' => e = .returned (.bool true) ∧ Below w.heap.size w w' := by
  obtain ⟨RH, eH, hH⟩ : ∃ R n, hearOf c x = (R, n) := ⟨_, _, rfl⟩
  obtain ⟨RP, eP, hP⟩ : ∃ R n, playOf c x = (R, n) := ⟨_, _, rfl⟩
  obtain ⟨RL, eL, hL⟩ : ∃ R n, learnOf c q = (R, n) := ⟨_, _, rfl⟩
  have SH : Aside (Slim RH) := by have := slim_hear c x; rw [hH] at this; exact this
  have SP : Aside (Slim RP) := by have := slim_play c x; rw [hP] at this; exact this
  have SL : Aside (Slim RL) := by have := slim_learn c q; rw [hL] at this; exact this
  have pH : Aside (∀ W, BkAt W (.slice a1 m1 k1) (.slice a2 m2 k2) c → AnsT 28 #[c.val (.slice a1 m1 k1) (.slice a2 m2 k2), x.val] W (RH, eH)) := fun W hB => by have := cl_heard c x _ _ W hB; rw [hH] at this; exact this
  have pP : Aside (∀ W, BkAt W (.slice a1 m1 k1) (.slice a2 m2 k2) c → AnsT 29 #[c.val (.slice a1 m1 k1) (.slice a2 m2 k2), x.val] W (RP, eP)) := fun W hB => by have := cl_play c x _ _ W hB; rw [hP] at this; exact this
  have pL : Aside (∀ W, BkAt W (.slice a1 m1 k1) (.slice a2 m2 k2) c → AnsT 30 #[c.val (.slice a1 m1 k1) (.slice a2 m2 k2), .int .i64 q] W (RL, eL)) := fun W hB => by have := cl_learn c q _ _ W hB; rw [hL] at this; exact this
  have rH : Aside (∀ W, BkAt W (.slice a1 m1 k1) (.slice a2 m2 k2) c → AnsC 31 #[c.val (.slice a1 m1 k1) (.slice a2 m2 k2), x.val] W (RH, eH)) := fun W hB => by have := ref_heardOf c x _ _ W hB; rw [hH] at this; exact this
  have rP : Aside (∀ W, BkAt W (.slice a1 m1 k1) (.slice a2 m2 k2) c → AnsT 32 #[c.val (.slice a1 m1 k1) (.slice a2 m2 k2), x.val] W (RP, eP)) := fun W hB => by have := ref_playedOn c x _ _ W hB; rw [hP] at this; exact this
  have rL : Aside (∀ W, BkAt W (.slice a1 m1 k1) (.slice a2 m2 k2) c → AnsC 33 #[c.val (.slice a1 m1 k1) (.slice a2 m2 k2), .int .i64 q] W (RL, eL)) := fun W hB => by have := ref_learned c q _ _ W hB; rw [hL] at this; exact this
  have H0 : Aside (HeldC w ((w.alloc (boxC c (.slice a1 m1 k1) (.slice a2 m2 k2))).alloc (boxE x.k x.j x.v x.t x.c)) [(w.heap.size + 1, boxE x.k x.j x.v x.t x.c), (w.heap.size, boxC c (.slice a1 m1 k1) (.slice a2 m2 k2))] [((.slice a1 m1 k1), (.slice a2 m2 k2), c)]) := by
    have h0 : HeldC w w [] [((.slice a1 m1 k1), (.slice a2 m2 k2), c)] := ⟨Below.refl _ _, (fun p hp => by cases hp), fun p hp => by
      simp only [List.mem_cons, List.not_mem_nil, or_false] at hp
      subst hp
      exact hb⟩
    have h1 := (h0.boxed (boxC c (.slice a1 m1 k1) (.slice a2 m2 k2))).boxed (boxE x.k x.j x.v x.t x.c)
    rw [World.size_alloc] at h1
    exact h1
  clear hH hP hL hb
  go_enter Try.func5, Try.ntmps5
  go_upto_region 1 with fail
  generalize ((w.alloc (boxC c (.slice a1 m1 k1) (.slice a2 m2 k2))).alloc (boxE x.k x.j x.v x.t x.c)) = w0 at *
  have z : ∀ i, w0.cell? ⟨w.heap.size, i, none⟩ = #[Value.int .i64 c.p, .int .i64 c.d, .int .i64 c.e.k, .int .i64 c.e.j, .int .i64 c.e.v, .int .i64 c.e.t, .int .i64 c.e.c, .int .i64 c.a, .int .i64 c.l, .int .i64 c.n, .slice a1 m1 k1, .slice a2 m2 k2][i]? := fun i => Joins.cell_of_block (H0.out.at (.tail _ (.head _))) i
  have ze : ∀ i, w0.cell? ⟨w.heap.size + 1, i, none⟩ = #[Value.int .i64 x.k, .int .i64 x.j, .int .i64 x.v, .int .i64 x.t, .int .i64 x.c][i]? := fun i => Joins.cell_of_block (H0.out.at (.head _)) i
  go_wp2_with fail
  refine (pH.out _ (H0.out.books (.head _))).mono ?_
  rintro e w1 ⟨u1, u2, rfl, hT1, hb1⟩
  have hT1 : BkAt w1 u1 u2 RH := by first | exact hT1 | exact hT1.1
  have H1 : Aside _ := (H0.out.later hb1).book hT1
  obtain ⟨s1, o1, t1, p1, rfl, rfl⟩ := bk_slices hT1.1 hT1.2
  clear hb1 H0 hT1 z ze pH
  obtain ⟨j1, hj1⟩ : ∃ n, Hid (RH.js.length = n) := ⟨_, rfl⟩
  obtain ⟨q1, hq1⟩ : ∃ n, Hid (RH.rs.length = n) := ⟨_, rfl⟩
  rw [hj1.out, hq1.out] at H1 ⊢
  go_upto_region 2 with fail
  have H2 : Aside _ := H1.out.boxed (boxC RH (.slice s1 j1 o1) (.slice t1 q1 p1))
  clear H1
  generalize w1.alloc (boxC RH (.slice s1 j1 o1) (.slice t1 q1 p1)) = w2 at *
  generalize w1.heap.size = g1 at *
  have z : ∀ i, w2.cell? ⟨w.heap.size, i, none⟩ = #[Value.int .i64 c.p, .int .i64 c.d, .int .i64 c.e.k, .int .i64 c.e.j, .int .i64 c.e.v, .int .i64 c.e.t, .int .i64 c.e.c, .int .i64 c.a, .int .i64 c.l, .int .i64 c.n, .slice a1 m1 k1, .slice a2 m2 k2][i]? := fun i => Joins.cell_of_block (H2.out.at (.tail _ (.tail _ (.head _)))) i
  have ze : ∀ i, w2.cell? ⟨w.heap.size + 1, i, none⟩ = #[Value.int .i64 x.k, .int .i64 x.j, .int .i64 x.v, .int .i64 x.t, .int .i64 x.c][i]? := fun i => Joins.cell_of_block (H2.out.at (.tail _ (.head _))) i
  go_wp2_with fail
  refine (pP.out _ (H2.out.books (.tail _ (.head _)))).mono ?_
  rintro e w3 ⟨u1, u2, rfl, hT3, hb3⟩
  have hT3 : BkAt w3 u1 u2 RP := by first | exact hT3 | exact hT3.1
  have H3 : Aside _ := (H2.out.later hb3).book hT3
  obtain ⟨s3, o3, t3, p3, rfl, rfl⟩ := bk_slices hT3.1 hT3.2
  clear hb3 H2 hT3 z ze pP
  obtain ⟨j3, hj3⟩ : ∃ n, Hid (RP.js.length = n) := ⟨_, rfl⟩
  obtain ⟨q3, hq3⟩ : ∃ n, Hid (RP.rs.length = n) := ⟨_, rfl⟩
  rw [hj3.out, hq3.out] at H3 ⊢
  go_upto_region 3 with fail
  have H4 : Aside _ := H3.out.boxed (boxC RP (.slice s3 j3 o3) (.slice t3 q3 p3))
  clear H3
  generalize w3.alloc (boxC RP (.slice s3 j3 o3) (.slice t3 q3 p3)) = w4 at *
  generalize w3.heap.size = g2 at *
  have z : ∀ i, w4.cell? ⟨w.heap.size, i, none⟩ = #[Value.int .i64 c.p, .int .i64 c.d, .int .i64 c.e.k, .int .i64 c.e.j, .int .i64 c.e.v, .int .i64 c.e.t, .int .i64 c.e.c, .int .i64 c.a, .int .i64 c.l, .int .i64 c.n, .slice a1 m1 k1, .slice a2 m2 k2][i]? := fun i => Joins.cell_of_block (H4.out.at (.tail _ (.tail _ (.tail _ (.head _))))) i
  go_wp2_with fail
  refine (pL.out _ (H4.out.books (.tail _ (.tail _ (.head _))))).mono ?_
  rintro e w5 ⟨u1, u2, rfl, hT5, hb5⟩
  have hT5 : BkAt w5 u1 u2 RL := by first | exact hT5 | exact hT5.1
  have H5 : Aside _ := (H4.out.later hb5).book hT5
  obtain ⟨s5, o5, t5, p5, rfl, rfl⟩ := bk_slices hT5.1 hT5.2
  clear hb5 H4 hT5 z  pL
  obtain ⟨j5, hj5⟩ : ∃ n, Hid (RL.js.length = n) := ⟨_, rfl⟩
  obtain ⟨q5, hq5⟩ : ∃ n, Hid (RL.rs.length = n) := ⟨_, rfl⟩
  rw [hj5.out, hq5.out] at H5 ⊢
  go_upto_region 4 with fail
  have H6 : Aside _ := H5.out.boxed (boxC RL (.slice s5 j5 o5) (.slice t5 q5 p5))
  clear H5
  generalize w5.alloc (boxC RL (.slice s5 j5 o5) (.slice t5 q5 p5)) = w6 at *
  generalize w5.heap.size = g3 at *
  have z : ∀ i, w6.cell? ⟨w.heap.size, i, none⟩ = #[Value.int .i64 c.p, .int .i64 c.d, .int .i64 c.e.k, .int .i64 c.e.j, .int .i64 c.e.v, .int .i64 c.e.t, .int .i64 c.e.c, .int .i64 c.a, .int .i64 c.l, .int .i64 c.n, .slice a1 m1 k1, .slice a2 m2 k2][i]? := fun i => Joins.cell_of_block (H6.out.at (.tail _ (.tail _ (.tail _ (.tail _ (.head _)))))) i
  have ze : ∀ i, w6.cell? ⟨w.heap.size + 1, i, none⟩ = #[Value.int .i64 x.k, .int .i64 x.j, .int .i64 x.v, .int .i64 x.t, .int .i64 x.c][i]? := fun i => Joins.cell_of_block (H6.out.at (.tail _ (.tail _ (.tail _ (.head _))))) i
  go_wp2_with fail
  refine (rH.out _ (H6.out.books (.tail _ (.tail _ (.tail _ (.head _)))))).mono ?_
  rintro e w7 ⟨u1, u2, rfl, hT7, hb7⟩
  have hT7 : BkAt w7 u1 u2 RH := by first | exact hT7 | exact hT7.1
  have H7 : Aside _ := (H6.out.later hb7).book hT7
  obtain ⟨s7, o7, t7, p7, rfl, rfl⟩ := bk_slices hT7.1 hT7.2
  clear hb7 H6 hT7 z ze rH
  obtain ⟨j7, hj7⟩ : ∃ n, Hid (RH.js.length = n) := ⟨_, rfl⟩
  obtain ⟨q7, hq7⟩ : ∃ n, Hid (RH.rs.length = n) := ⟨_, rfl⟩
  rw [hj7.out, hq7.out] at H7 ⊢
  go_upto_region 5 with fail
  have H8 : Aside _ := H7.out.boxed (boxC RH (.slice s7 j7 o7) (.slice t7 q7 p7))
  clear H7
  generalize w7.alloc (boxC RH (.slice s7 j7 o7) (.slice t7 q7 p7)) = w8 at *
  generalize w7.heap.size = g4 at *
  have z : ∀ i, w8.cell? ⟨w.heap.size, i, none⟩ = #[Value.int .i64 c.p, .int .i64 c.d, .int .i64 c.e.k, .int .i64 c.e.j, .int .i64 c.e.v, .int .i64 c.e.t, .int .i64 c.e.c, .int .i64 c.a, .int .i64 c.l, .int .i64 c.n, .slice a1 m1 k1, .slice a2 m2 k2][i]? := fun i => Joins.cell_of_block (H8.out.at (.tail _ (.tail _ (.tail _ (.tail _ (.tail _ (.head _))))))) i
  have ze : ∀ i, w8.cell? ⟨w.heap.size + 1, i, none⟩ = #[Value.int .i64 x.k, .int .i64 x.j, .int .i64 x.v, .int .i64 x.t, .int .i64 x.c][i]? := fun i => Joins.cell_of_block (H8.out.at (.tail _ (.tail _ (.tail _ (.tail _ (.head _)))))) i
  go_wp2_with fail
  refine (rP.out _ (H8.out.books (.tail _ (.tail _ (.tail _ (.tail _ (.head _))))))).mono ?_
  rintro e w9 ⟨u1, u2, rfl, hT9, hb9⟩
  have hT9 : BkAt w9 u1 u2 RP := by first | exact hT9 | exact hT9.1
  have H9 : Aside _ := (H8.out.later hb9).book hT9
  obtain ⟨s9, o9, t9, p9, rfl, rfl⟩ := bk_slices hT9.1 hT9.2
  clear hb9 H8 hT9 z ze rP
  obtain ⟨j9, hj9⟩ : ∃ n, Hid (RP.js.length = n) := ⟨_, rfl⟩
  obtain ⟨q9, hq9⟩ : ∃ n, Hid (RP.rs.length = n) := ⟨_, rfl⟩
  rw [hj9.out, hq9.out] at H9 ⊢
  go_upto_region 6 with fail
  have H10 : Aside _ := H9.out.boxed (boxC RP (.slice s9 j9 o9) (.slice t9 q9 p9))
  clear H9
  generalize w9.alloc (boxC RP (.slice s9 j9 o9) (.slice t9 q9 p9)) = w10 at *
  generalize w9.heap.size = g5 at *
  have z : ∀ i, w10.cell? ⟨w.heap.size, i, none⟩ = #[Value.int .i64 c.p, .int .i64 c.d, .int .i64 c.e.k, .int .i64 c.e.j, .int .i64 c.e.v, .int .i64 c.e.t, .int .i64 c.e.c, .int .i64 c.a, .int .i64 c.l, .int .i64 c.n, .slice a1 m1 k1, .slice a2 m2 k2][i]? := fun i => Joins.cell_of_block (H10.out.at (.tail _ (.tail _ (.tail _ (.tail _ (.tail _ (.tail _ (.head _)))))))) i
  go_wp2_with fail
  refine (rL.out _ (H10.out.books (.tail _ (.tail _ (.tail _ (.tail _ (.tail _ (.head _)))))))).mono ?_
  rintro e w11 ⟨u1, u2, rfl, hT11, hb11⟩
  have hT11 : BkAt w11 u1 u2 RL := by first | exact hT11 | exact hT11.1
  have H11 : Aside _ := (H10.out.later hb11).book hT11
  obtain ⟨s11, o11, t11, p11, rfl, rfl⟩ := bk_slices hT11.1 hT11.2
  clear hb11 H10 hT11 z  rL
  obtain ⟨j11, hj11⟩ : ∃ n, Hid (RL.js.length = n) := ⟨_, rfl⟩
  obtain ⟨q11, hq11⟩ : ∃ n, Hid (RL.rs.length = n) := ⟨_, rfl⟩
  rw [hj11.out, hq11.out] at H11 ⊢
  go_upto_region 7 with fail
  have H12 : Aside _ := H11.out.boxed (boxC RL (.slice s11 j11 o11) (.slice t11 q11 p11))
  clear H11
  generalize w11.alloc (boxC RL (.slice s11 j11 o11) (.slice t11 q11 p11)) = w12 at *
  generalize w11.heap.size = g6 at *
  go_wp2_with fail
  refine (lc_heard _).mono ?_
  rintro e w13 ⟨rfl, hb13⟩
  have H13 : Aside (HeldC w w13 [(g6, boxC RL (.slice s11 j11 o11) (.slice t11 q11 p11)), (g5, boxC RP (.slice s9 j9 o9) (.slice t9 q9 p9)), (g4, boxC RH (.slice s7 j7 o7) (.slice t7 q7 p7)), (g3, boxC RL (.slice s5 j5 o5) (.slice t5 q5 p5)), (g2, boxC RP (.slice s3 j3 o3) (.slice t3 q3 p3)), (g1, boxC RH (.slice s1 j1 o1) (.slice t1 q1 p1)), (w.heap.size + 1, boxE x.k x.j x.v x.t x.c), (w.heap.size, boxC c (.slice a1 m1 k1) (.slice a2 m2 k2))] [((.slice s11 j11 o11), (.slice t11 q11 p11), RL), ((.slice s9 j9 o9), (.slice t9 q9 p9), RP), ((.slice s7 j7 o7), (.slice t7 q7 p7), RH), ((.slice s5 j5 o5), (.slice t5 q5 p5), RL), ((.slice s3 j3 o3), (.slice t3 q3 p3), RP), ((.slice s1 j1 o1), (.slice t1 q1 p1), RH), ((.slice a1 m1 k1), (.slice a2 m2 k2), c)]) := H12.out.later hb13
  clear hb13 H12 
  have za : ∀ i, w13.cell? ⟨g1, i, none⟩ = #[Value.int .i64 RH.p, .int .i64 RH.d, .int .i64 RH.e.k, .int .i64 RH.e.j, .int .i64 RH.e.v, .int .i64 RH.e.t, .int .i64 RH.e.c, .int .i64 RH.a, .int .i64 RH.l, .int .i64 RH.n, .slice s1 j1 o1, .slice t1 q1 p1][i]? := fun i => Joins.cell_of_block (H13.out.at (.tail _ (.tail _ (.tail _ (.tail _ (.tail _ (.head _))))))) i
  have zb : ∀ i, w13.cell? ⟨g4, i, none⟩ = #[Value.int .i64 RH.p, .int .i64 RH.d, .int .i64 RH.e.k, .int .i64 RH.e.j, .int .i64 RH.e.v, .int .i64 RH.e.t, .int .i64 RH.e.c, .int .i64 RH.a, .int .i64 RH.l, .int .i64 RH.n, .slice s7 j7 o7, .slice t7 q7 p7][i]? := fun i => Joins.cell_of_block (H13.out.at (.tail _ (.tail _ (.head _)))) i
  go_wp2_with fail
  refine (same_self SH.out (H13.out.books (.tail _ (.tail _ (.tail _ (.tail _ (.tail _ (.head _))))))) (H13.out.books (.tail _ (.tail _ (.head _))))).mono ?_
  rintro e w14 ⟨rfl, hb14⟩
  have H14 : Aside (HeldC w w14 [(g6, boxC RL (.slice s11 j11 o11) (.slice t11 q11 p11)), (g5, boxC RP (.slice s9 j9 o9) (.slice t9 q9 p9)), (g4, boxC RH (.slice s7 j7 o7) (.slice t7 q7 p7)), (g3, boxC RL (.slice s5 j5 o5) (.slice t5 q5 p5)), (g2, boxC RP (.slice s3 j3 o3) (.slice t3 q3 p3)), (g1, boxC RH (.slice s1 j1 o1) (.slice t1 q1 p1)), (w.heap.size + 1, boxE x.k x.j x.v x.t x.c), (w.heap.size, boxC c (.slice a1 m1 k1) (.slice a2 m2 k2))] [((.slice s11 j11 o11), (.slice t11 q11 p11), RL), ((.slice s9 j9 o9), (.slice t9 q9 p9), RP), ((.slice s7 j7 o7), (.slice t7 q7 p7), RH), ((.slice s5 j5 o5), (.slice t5 q5 p5), RL), ((.slice s3 j3 o3), (.slice t3 q3 p3), RP), ((.slice s1 j1 o1), (.slice t1 q1 p1), RH), ((.slice a1 m1 k1), (.slice a2 m2 k2), c)]) := H13.out.later hb14
  clear hb14 H13 za zb
  have za : ∀ i, w14.cell? ⟨g2, i, none⟩ = #[Value.int .i64 RP.p, .int .i64 RP.d, .int .i64 RP.e.k, .int .i64 RP.e.j, .int .i64 RP.e.v, .int .i64 RP.e.t, .int .i64 RP.e.c, .int .i64 RP.a, .int .i64 RP.l, .int .i64 RP.n, .slice s3 j3 o3, .slice t3 q3 p3][i]? := fun i => Joins.cell_of_block (H14.out.at (.tail _ (.tail _ (.tail _ (.tail _ (.head _)))))) i
  have zb : ∀ i, w14.cell? ⟨g5, i, none⟩ = #[Value.int .i64 RP.p, .int .i64 RP.d, .int .i64 RP.e.k, .int .i64 RP.e.j, .int .i64 RP.e.v, .int .i64 RP.e.t, .int .i64 RP.e.c, .int .i64 RP.a, .int .i64 RP.l, .int .i64 RP.n, .slice s9 j9 o9, .slice t9 q9 p9][i]? := fun i => Joins.cell_of_block (H14.out.at (.tail _ (.head _))) i
  go_wp2_with fail
  refine (same_self SP.out (H14.out.books (.tail _ (.tail _ (.tail _ (.tail _ (.head _)))))) (H14.out.books (.tail _ (.head _)))).mono ?_
  rintro e w15 ⟨rfl, hb15⟩
  have H15 : Aside (HeldC w w15 [(g6, boxC RL (.slice s11 j11 o11) (.slice t11 q11 p11)), (g5, boxC RP (.slice s9 j9 o9) (.slice t9 q9 p9)), (g4, boxC RH (.slice s7 j7 o7) (.slice t7 q7 p7)), (g3, boxC RL (.slice s5 j5 o5) (.slice t5 q5 p5)), (g2, boxC RP (.slice s3 j3 o3) (.slice t3 q3 p3)), (g1, boxC RH (.slice s1 j1 o1) (.slice t1 q1 p1)), (w.heap.size + 1, boxE x.k x.j x.v x.t x.c), (w.heap.size, boxC c (.slice a1 m1 k1) (.slice a2 m2 k2))] [((.slice s11 j11 o11), (.slice t11 q11 p11), RL), ((.slice s9 j9 o9), (.slice t9 q9 p9), RP), ((.slice s7 j7 o7), (.slice t7 q7 p7), RH), ((.slice s5 j5 o5), (.slice t5 q5 p5), RL), ((.slice s3 j3 o3), (.slice t3 q3 p3), RP), ((.slice s1 j1 o1), (.slice t1 q1 p1), RH), ((.slice a1 m1 k1), (.slice a2 m2 k2), c)]) := H14.out.later hb15
  clear hb15 H14 za zb
  have za : ∀ i, w15.cell? ⟨g3, i, none⟩ = #[Value.int .i64 RL.p, .int .i64 RL.d, .int .i64 RL.e.k, .int .i64 RL.e.j, .int .i64 RL.e.v, .int .i64 RL.e.t, .int .i64 RL.e.c, .int .i64 RL.a, .int .i64 RL.l, .int .i64 RL.n, .slice s5 j5 o5, .slice t5 q5 p5][i]? := fun i => Joins.cell_of_block (H15.out.at (.tail _ (.tail _ (.tail _ (.head _))))) i
  have zb : ∀ i, w15.cell? ⟨g6, i, none⟩ = #[Value.int .i64 RL.p, .int .i64 RL.d, .int .i64 RL.e.k, .int .i64 RL.e.j, .int .i64 RL.e.v, .int .i64 RL.e.t, .int .i64 RL.e.c, .int .i64 RL.a, .int .i64 RL.l, .int .i64 RL.n, .slice s11 j11 o11, .slice t11 q11 p11][i]? := fun i => Joins.cell_of_block (H15.out.at (.head _)) i
  go_wp2_with fail
  refine (same_self SL.out (H15.out.books (.tail _ (.tail _ (.tail _ (.head _))))) (H15.out.books (.head _))).mono ?_
  rintro e w16 ⟨rfl, hb16⟩
  have H16 : Aside (HeldC w w16 [(g6, boxC RL (.slice s11 j11 o11) (.slice t11 q11 p11)), (g5, boxC RP (.slice s9 j9 o9) (.slice t9 q9 p9)), (g4, boxC RH (.slice s7 j7 o7) (.slice t7 q7 p7)), (g3, boxC RL (.slice s5 j5 o5) (.slice t5 q5 p5)), (g2, boxC RP (.slice s3 j3 o3) (.slice t3 q3 p3)), (g1, boxC RH (.slice s1 j1 o1) (.slice t1 q1 p1)), (w.heap.size + 1, boxE x.k x.j x.v x.t x.c), (w.heap.size, boxC c (.slice a1 m1 k1) (.slice a2 m2 k2))] [((.slice s11 j11 o11), (.slice t11 q11 p11), RL), ((.slice s9 j9 o9), (.slice t9 q9 p9), RP), ((.slice s7 j7 o7), (.slice t7 q7 p7), RH), ((.slice s5 j5 o5), (.slice t5 q5 p5), RL), ((.slice s3 j3 o3), (.slice t3 q3 p3), RP), ((.slice s1 j1 o1), (.slice t1 q1 p1), RH), ((.slice a1 m1 k1), (.slice a2 m2 k2), c)]) := H15.out.later hb16
  clear hb16 H15 za zb
  have HB := H16.out.below
  clear H16
  go_wp2
  go_ret
  exact ⟨rfl, HB⟩

end Go.Proofs.Ytbokdcdnandgbae
