/- The walk of ClientKeeps, where the client rests and hears what stands. -/
import Derived.Test.YtbokdcdnandgbaeClientM
import Derived.Deep.CutBlock
namespace Go.Proofs.Ytbokdcdnandgbae
open Go.RowKit
open scoped Classical

set_option linter.unusedSimpArgs false in
set_option maxHeartbeats 8000000 in
set_option maxRecDepth 100000 in
theorem ke_ok0 (c : Cl) (x : En) (q0 q : Int) (a1 a2 : Option Addr) (m1 k1 m2 k2 : Nat) (w : World) (hb : BkAt w (.slice a1 m1 k1) (.slice a2 m2 k2) c) (hs : Slim c) (hq : 0 ≤ q ∧ q ≤ 59) (hat : ∀ W, Calls Try.prog 8 #[.int .i64 q0, .int .i64 60] W fun e w' => e = .returned (.int .i64 q) ∧ w' = W) (hck : c.ck = 0) (RP : Cl) (eP : Int) (hP : playOf c x = (RP, eP)) (hz : (eP == 0) = false) (hd : c.d = 0) (hx : x.chk = 0) :
    Calls Try.prog 6 #[c.val (.slice a1 m1 k1) (.slice a2 m2 k2), .int .i64 q0, x.val] w fun e w' => e = .returned (.bool true) ∧ Below w.heap.size w w' := by
  have pC : Aside (∀ W, BkAt W (.slice a1 m1 k1) (.slice a2 m2 k2) c → Calls Try.prog 23 #[c.val (.slice a1 m1 k1) (.slice a2 m2 k2)] W fun e w' => e = .returned (.int .i64 0) ∧ Below W.heap.size W w') := fun W hB => by have := cl_check c _ _ W hB; rw [hck] at this; exact this
  have pP : Aside (∀ W, BkAt W (.slice a1 m1 k1) (.slice a2 m2 k2) c → AnsT 29 #[c.val (.slice a1 m1 k1) (.slice a2 m2 k2), x.val] W (RP, eP)) := fun W hB => by have := cl_play c x _ _ W hB; rw [hP] at this; exact this
  have hFF := ((fill_ok hck hq).2 hd)
  obtain ⟨RF, hRF⟩ : ∃ R : Cl, Hid (R = ⟨c.p, 2, En.zero, q, 0, c.n, c.js, c.rs⟩) := ⟨_, rfl⟩
  have hF : placeOf 0 c q = (RF, 0) := by rw [hRF.out]; exact hFF.1
  have hFk : RF.ck = 0 := by have := hFF.2; rw [hFF.1] at this; rw [hRF.out]; exact this
  have pF : Aside (∀ W, BkAt W (.slice a1 m1 k1) (.slice a2 m2 k2) c → AnsT 18 #[c.val (.slice a1 m1 k1) (.slice a2 m2 k2), .int .i64 q] W (RF, 0)) := fun W hB => by have := cl_fill c q _ _ W hB; rw [hF] at this; exact this
  have hcc := rests hck hd
  have hz0 : (⟨c.p, 2, En.zero, q, 0, c.n, c.js, c.rs⟩ : Cl).ck = 0 := by rw [← hRF.out]; exact hFk
  have hR0 : hearOf RF x = (fk c x q 0, 0) := by rw [hRF.out]; exact (fk_ok hz0 hx).1.1
  have pH0 : Aside (∀ W u v, BkAt W u v RF → AnsT 28 #[RF.val u v, x.val] W (fk c x q 0, 0)) := fun W u v hB => by
    have := cl_heard RF x _ _ W hB
    rw [hR0] at this
    exact this
  have pHk : Aside (∀ k, k < 2 → ∀ W u v, BkAt W u v (fk c x q k) → AnsT 28 #[(fk c x q k).val u v, x.val] W (fk c x q (k + 1), 0)) := fun k hk W u v hB => by
    have := cl_heard (fk c x q k) x _ _ W hB
    rw [fk_hear hz0 hx k hk] at this
    exact this
  have cF : Aside (∀ k, k < 3 → ∀ W u v, BkAt W u v (fk c x q k) → Calls Try.prog 23 #[(fk c x q k).val u v] W fun e w' => e = .returned (.int .i64 0) ∧ Below W.heap.size W w') := fun k hk W u v hB => by
    have := cl_check (fk c x q k) _ _ W hB
    rw [fk_ck hz0 hx k hk] at this
    exact this
  have bF : Aside (∀ k W u v, BkAt W u v (fk c x q k) → BkAt W (.slice a1 m1 k1) (.slice a2 m2 k2) c → Calls Try.prog 34 #[.agg #[u, v], .agg #[(.slice a1 m1 k1), (.slice a2 m2 k2)]] W fun e w' => e = .returned (.bool true) ∧ Below W.heap.size W w') := fun k W u v hB hC => by
    have e1 : (fk c x q k).js = c.js := fk_js c x q k
    have e2 : (fk c x q k).rs = c.rs := fk_rs c x q k
    have := bk_same u v (.slice a1 m1 k1) (.slice a2 m2 k2) c.js c.js c.rs c.rs W (by rw [← e1]; exact hB.1) (by rw [← e2]; exact hB.2) hC.1 hC.2 hs.1 hs.2
    rw [decide_eq_true rfl, decide_eq_true rfl] at this
    exact this
  have sF : Aside (∀ W u v, BkAt W u v (fk c x q 2) → BkAt W (.slice a1 m1 k1) (.slice a2 m2 k2) c → Calls Try.prog 25 #[(fk c x q 2).val u v, c.val (.slice a1 m1 k1) (.slice a2 m2 k2)] W fun e w' => e = .returned (.bool true) ∧ Below W.heap.size W w') := fun W u v hB hC => by
    have := cl_same (fk c x q 2) c u v _ _ W hB hC hs.1 hs.2
    have he : fk c x q 2 = c := hcc.symm
    rw [show sameC (fk c x q 2) c = true by rw [he]; exact sameC_self c] at this
    exact this
  have H0 : Aside (HeldC w ((w.alloc (boxC c (.slice a1 m1 k1) (.slice a2 m2 k2))).alloc (boxE x.k x.j x.v x.t x.c)) [(w.heap.size + 1, boxE x.k x.j x.v x.t x.c), (w.heap.size, boxC c (.slice a1 m1 k1) (.slice a2 m2 k2))] [((.slice a1 m1 k1), (.slice a2 m2 k2), c)]) := by
    have h0 : HeldC w w [] [((.slice a1 m1 k1), (.slice a2 m2 k2), c)] := ⟨Below.refl _ _, (fun p hp => by cases hp), fun p hp => by
      simp only [List.mem_cons, List.not_mem_nil, or_false] at hp
      subst hp
      exact hb⟩
    have h1 := (h0.boxed (boxC c (.slice a1 m1 k1) (.slice a2 m2 k2))).boxed (boxE x.k x.j x.v x.t x.c)
    rw [World.size_alloc] at h1
    exact h1
  have HK0 : Aside (BkAt w (.slice a1 m1 k1) (.slice a2 m2 k2) c) := hb
  have HD : Hid (c.d = 0) := hd
  clear hb hck hP hs hd hF hFk hFF hx hz0 hR0 hcc hq
  go_enter Try.func6, Try.ntmps6
  go_upto_region 1 with fail
  generalize ((w.alloc (boxC c (.slice a1 m1 k1) (.slice a2 m2 k2))).alloc (boxE x.k x.j x.v x.t x.c)) = w0 at *
  go_wp2_with fail
  refine (hat _).mono ?_
  rintro e wx ⟨rfl, hwx⟩
  obtain rfl : w0 = wx := hwx.symm
  clear hat
  go_wp2_with fail
  refine (lc_heard _).mono ?_
  rintro e w1 ⟨rfl, hb1⟩
  have H1 : Aside (HeldC w w1 [(w.heap.size + 1, boxE x.k x.j x.v x.t x.c), (w.heap.size, boxC c (.slice a1 m1 k1) (.slice a2 m2 k2))] [((.slice a1 m1 k1), (.slice a2 m2 k2), c)]) := H0.out.later hb1
  clear hb1 H0 
  have z : ∀ i, w1.cell? ⟨w.heap.size, i, none⟩ = #[Value.int .i64 c.p, .int .i64 c.d, .int .i64 c.e.k, .int .i64 c.e.j, .int .i64 c.e.v, .int .i64 c.e.t, .int .i64 c.e.c, .int .i64 c.a, .int .i64 c.l, .int .i64 c.n, .slice a1 m1 k1, .slice a2 m2 k2][i]? := fun i => Joins.cell_of_block (H1.out.at (.tail _ (.head _))) i
  go_wp2_with fail
  refine (pC.out _ (H1.out.books (.head _))).mono ?_
  rintro e w2 ⟨rfl, hb2⟩
  have H2 : Aside (HeldC w w2 [(w.heap.size + 1, boxE x.k x.j x.v x.t x.c), (w.heap.size, boxC c (.slice a1 m1 k1) (.slice a2 m2 k2))] [((.slice a1 m1 k1), (.slice a2 m2 k2), c)]) := H1.out.later hb2
  clear hb2 H1 z pC
  have z : ∀ i, w2.cell? ⟨w.heap.size, i, none⟩ = #[Value.int .i64 c.p, .int .i64 c.d, .int .i64 c.e.k, .int .i64 c.e.j, .int .i64 c.e.v, .int .i64 c.e.t, .int .i64 c.e.c, .int .i64 c.a, .int .i64 c.l, .int .i64 c.n, .slice a1 m1 k1, .slice a2 m2 k2][i]? := fun i => Joins.cell_of_block (H2.out.at (.tail _ (.head _))) i
  have ze : ∀ i, w2.cell? ⟨w.heap.size + 1, i, none⟩ = #[Value.int .i64 x.k, .int .i64 x.j, .int .i64 x.v, .int .i64 x.t, .int .i64 x.c][i]? := fun i => Joins.cell_of_block (H2.out.at (.head _)) i
  go_wp2_with fail
  refine (pP.out _ (H2.out.books (.head _))).mono ?_
  rintro e w3 ⟨u1, u2, rfl, hT3, hb3⟩
  have hT3 : BkAt w3 u1 u2 RP := by first | exact hT3 | exact hT3.1
  have H3 : Aside _ := (H2.out.later hb3).book hT3
  obtain ⟨s3, o3, t3, p3, rfl, rfl⟩ := bk_slices hT3.1 hT3.2
  clear hb3 H2 hT3 z ze pP
  obtain ⟨j3, hj3⟩ : ∃ n, Hid (RP.js.length = n) := ⟨_, rfl⟩
  obtain ⟨q3, hq3⟩ : ∃ n, Hid (RP.rs.length = n) := ⟨_, rfl⟩
  rw [hj3.out, hq3.out] at H3 ⊢
  go_upto_region 5 with fail
  have H4 : Aside _ := H3.out.boxed (boxC RP (.slice s3 j3 o3) (.slice t3 q3 p3))
  clear H3
  generalize w3.alloc (boxC RP (.slice s3 j3 o3) (.slice t3 q3 p3)) = w4 at *
  generalize w3.heap.size = g1 at *
  have z : ∀ i, w4.cell? ⟨w.heap.size, i, none⟩ = #[Value.int .i64 c.p, .int .i64 c.d, .int .i64 c.e.k, .int .i64 c.e.j, .int .i64 c.e.v, .int .i64 c.e.t, .int .i64 c.e.c, .int .i64 c.a, .int .i64 c.l, .int .i64 c.n, .slice a1 m1 k1, .slice a2 m2 k2][i]? := fun i => Joins.cell_of_block (H4.out.at (.tail _ (.tail _ (.head _)))) i
  go_wp2_with fail
  refine (pF.out _ (H4.out.books (.tail _ (.head _)))).mono ?_
  rintro e w5 ⟨u1, u2, rfl, hT5, hb5⟩
  have hT5 : BkAt w5 u1 u2 RF := by first | exact hT5 | exact hT5.1
  have H5 : Aside _ := (H4.out.later hb5).book hT5
  obtain ⟨s5, o5, t5, p5, rfl, rfl⟩ := bk_slices hT5.1 hT5.2
  clear hb5 H4 hT5 z pF
  obtain ⟨j5, hj5⟩ : ∃ n, Hid (RF.js.length = n) := ⟨_, rfl⟩
  obtain ⟨q5, hq5⟩ : ∃ n, Hid (RF.rs.length = n) := ⟨_, rfl⟩
  rw [hj5.out, hq5.out] at H5 ⊢
  go_upto_region 8 with fail
  have H6 : Aside _ := H5.out.boxed (boxC RF (.slice s5 j5 o5) (.slice t5 q5 p5))
  clear H5
  generalize w5.alloc (boxC RF (.slice s5 j5 o5) (.slice t5 q5 p5)) = w6 at *
  generalize w5.heap.size = g2 at *
  have z : ∀ i, w6.cell? ⟨w.heap.size, i, none⟩ = #[Value.int .i64 c.p, .int .i64 c.d, .int .i64 c.e.k, .int .i64 c.e.j, .int .i64 c.e.v, .int .i64 c.e.t, .int .i64 c.e.c, .int .i64 c.a, .int .i64 c.l, .int .i64 c.n, .slice a1 m1 k1, .slice a2 m2 k2][i]? := fun i => Joins.cell_of_block (H6.out.at (.tail _ (.tail _ (.tail _ (.head _))))) i
  have hdb : (c.d == 0) = true := by rw [HD.out]; rfl
  go_upto_region 12 with fail
  clear z hdb
  have z : ∀ i, w6.cell? ⟨g2, i, none⟩ = #[Value.int .i64 RF.p, .int .i64 RF.d, .int .i64 RF.e.k, .int .i64 RF.e.j, .int .i64 RF.e.v, .int .i64 RF.e.t, .int .i64 RF.e.c, .int .i64 RF.a, .int .i64 RF.l, .int .i64 RF.n, .slice s5 j5 o5, .slice t5 q5 p5][i]? := fun i => Joins.cell_of_block (H6.out.at (.head _)) i
  have ze : ∀ i, w6.cell? ⟨w.heap.size + 1, i, none⟩ = #[Value.int .i64 x.k, .int .i64 x.j, .int .i64 x.v, .int .i64 x.t, .int .i64 x.c][i]? := fun i => Joins.cell_of_block (H6.out.at (.tail _ (.tail _ (.head _)))) i
  obtain ⟨f0, hf0⟩ : ∃ R : Cl, Hid (fk c x q 0 = R) := ⟨_, rfl⟩
  rw [hf0.out] at pH0
  go_wp2_with fail
  refine (pH0.out _ _ _ (H6.out.books (.head _))).mono ?_
  rintro e w7 ⟨u1, u2, rfl, hT7, hb7⟩
  have hT7 : BkAt w7 u1 u2 f0 := by first | exact hT7 | exact hT7.1
  have H7 : Aside _ := (H6.out.later hb7).book hT7
  obtain ⟨s7, o7, t7, p7, rfl, rfl⟩ := bk_slices hT7.1 hT7.2
  clear hb7 H6 hT7 z ze pH0
  obtain ⟨j7, hj7⟩ : ∃ n, Hid (f0.js.length = n) := ⟨_, rfl⟩
  obtain ⟨q7, hq7⟩ : ∃ n, Hid (f0.rs.length = n) := ⟨_, rfl⟩
  rw [hj7.out, hq7.out] at H7 ⊢
  go_upto_region 13 with fail
  have H8 : Aside _ := H7.out.boxed (boxC f0 (.slice s7 j7 o7) (.slice t7 q7 p7))
  have lg3 : w.heap.size + 1 < w7.heap.size := heap_lt (H7.out.at (.tail _ (.tail _ (.head _))))
  clear H7
  generalize w7.alloc (boxC f0 (.slice s7 j7 o7) (.slice t7 q7 p7)) = w8 at *
  generalize w7.heap.size = g3 at *
  have G0 : Aside (HeldC w w8 [(g3, boxC (fk c x q 0) (.slice s7 j7 o7) (.slice t7 q7 p7)), (w.heap.size + 1, boxE x.k x.j x.v x.t x.c), (w.heap.size, boxC c (.slice a1 m1 k1) (.slice a2 m2 k2))] [((.slice s7 j7 o7), (.slice t7 q7 p7), (fk c x q 0)), ((.slice a1 m1 k1), (.slice a2 m2 k2), c)]) := by
    rw [Aside, hf0.out]
    exact ⟨H8.out.below, fun p hp => by
      simp only [List.mem_cons, List.not_mem_nil, or_false] at hp
      rcases hp with rfl | rfl | rfl
      · exact H8.out.at (.head _)
      · exact H8.out.at (.tail _ (.tail _ (.tail _ (.head _))))
      · exact H8.out.at (.tail _ (.tail _ (.tail _ (.tail _ (.head _)))))
      , fun p hp => by
      simp only [List.mem_cons, List.not_mem_nil, or_false] at hp
      rcases hp with rfl | rfl
      · exact H8.out.books (.head _)
      · exact H8.out.books (.tail _ (.tail _ (.tail _ (.head _))))⟩
  clear H8 hf0 hj7 hq7
  go_wp2_with fail
  go_loopw [91, 8] (fun i e wr => ∃ (m : Nat) (s4 : Option Addr) (j4 o4 : Nat) (t4 : Option Addr) (q4 p4 : Nat), ((i = .int .i64 0 ∧ m = 0) ∨ (i = .int .i64 1 ∧ m = 1) ∨ (i = .int .i64 2 ∧ m = 2) ∨ (i = .int .i64 3 ∧ m = 2)) ∧ e = .int .i64 0 ∧ Hid (HeldC w wr [(g3, boxC (fk c x q m) (.slice s4 j4 o4) (.slice t4 q4 p4)), (w.heap.size + 1, boxE x.k x.j x.v x.t x.c), (w.heap.size, boxC c (.slice a1 m1 k1) (.slice a2 m2 k2))] [((.slice s4 j4 o4), (.slice t4 q4 p4), (fk c x q m)), ((.slice a1 m1 k1), (.slice a2 m2 k2), c)])) (fun i _ _ => 3 - (intOf i).toNat)
  case atStart => exact ⟨0, s7, j7, o7, t7, q7, p7, Or.inl ⟨rfl, rfl⟩, rfl, G0.out⟩
  case round =>
    clear G0
    obtain ⟨m, s4, j4, o4, t4, q4, p4, hi, rfl, G1⟩ := hrel
    rcases hi with ⟨rfl, rfl⟩ | ⟨rfl, rfl⟩ | ⟨rfl, rfl⟩ | ⟨rfl, rfl⟩
    · obtain ⟨f, hf⟩ : ∃ R : Cl, Hid (fk c x q 0 = R) := ⟨_, rfl⟩
      have kc := cF.out 0 (by omega)
      have kb := bF.out 0
      have hfd : (f.d == 0) = false := by rw [← hf.out]; rfl
      rw [hf.out] at kc kb G1
      have KC : Aside _ := kc
      have KB : Aside _ := kb
      clear kc kb cF bF sF
      obtain ⟨fx, hfx⟩ : ∃ R : Cl, Hid (fk c x q (0 + 1) = R) := ⟨_, rfl⟩
      have kh := pHk.out 0 (by omega)
      rw [hf.out, hfx.out] at kh
      have KH : Aside _ := kh
      clear kh pHk
      have z : ∀ i, wr.cell? ⟨g3, i, none⟩ = #[Value.int .i64 f.p, .int .i64 f.d, .int .i64 f.e.k, .int .i64 f.e.j, .int .i64 f.e.v, .int .i64 f.e.t, .int .i64 f.e.c, .int .i64 f.a, .int .i64 f.l, .int .i64 f.n, .slice s4 j4 o4, .slice t4 q4 p4][i]? := fun i => Joins.cell_of_block (G1.out.at (.head _)) i
      go_wp2_with fail
      refine (KC.out _ _ _ (G1.out.books (.head _))).mono ?_
      rintro e w20 ⟨rfl, hb20⟩
      have G2 : Aside _ := G1.out.later hb20
      clear hb20 G1 z KC
      have z : ∀ i, w20.cell? ⟨g3, i, none⟩ = #[Value.int .i64 f.p, .int .i64 f.d, .int .i64 f.e.k, .int .i64 f.e.j, .int .i64 f.e.v, .int .i64 f.e.t, .int .i64 f.e.c, .int .i64 f.a, .int .i64 f.l, .int .i64 f.n, .slice s4 j4 o4, .slice t4 q4 p4][i]? := fun i => Joins.cell_of_block (G2.out.at (.head _)) i
      have zc : ∀ i, w20.cell? ⟨w.heap.size, i, none⟩ = #[Value.int .i64 c.p, .int .i64 c.d, .int .i64 c.e.k, .int .i64 c.e.j, .int .i64 c.e.v, .int .i64 c.e.t, .int .i64 c.e.c, .int .i64 c.a, .int .i64 c.l, .int .i64 c.n, .slice a1 m1 k1, .slice a2 m2 k2][i]? := fun i => Joins.cell_of_block (G2.out.at (.tail _ (.tail _ (.head _)))) i
      go_wp2_with fail
      refine (KB.out _ _ _ (G2.out.books (.head _)) (G2.out.books (.tail _ (.head _)))).mono ?_
      rintro e w21 ⟨rfl, hb21⟩
      have G3 : Aside _ := G2.out.later hb21
      clear hb21 G2 z zc KB
      have z : ∀ i, w21.cell? ⟨g3, i, none⟩ = #[Value.int .i64 f.p, .int .i64 f.d, .int .i64 f.e.k, .int .i64 f.e.j, .int .i64 f.e.v, .int .i64 f.e.t, .int .i64 f.e.c, .int .i64 f.a, .int .i64 f.l, .int .i64 f.n, .slice s4 j4 o4, .slice t4 q4 p4][i]? := fun i => Joins.cell_of_block (G3.out.at (.head _)) i
      have zx : ∀ i, w21.cell? ⟨w.heap.size + 1, i, none⟩ = #[Value.int .i64 x.k, .int .i64 x.j, .int .i64 x.v, .int .i64 x.t, .int .i64 x.c][i]? := fun i => Joins.cell_of_block (G3.out.at (.tail _ (.head _))) i
      go_wp2_with fail
      refine (KH.out _ _ _ (G3.out.books (.head _))).mono ?_
      rintro e w22 ⟨u1, u2, rfl, hT, hb22⟩
      have G4 : Aside _ := G3.out.later hb22
      have HT : Aside (BkT w22 u1 u2 fx) := hT
      obtain ⟨s5, o5, t5, p5, rfl, rfl⟩ := bk_slices hT.1.1 hT.1.2
      obtain ⟨j5, hj5⟩ : ∃ n, Hid (fx.js.length = n) := ⟨_, rfl⟩
      obtain ⟨q5, hq5⟩ : ∃ n, Hid (fx.rs.length = n) := ⟨_, rfl⟩
      rw [hj5.out, hq5.out] at HT ⊢
      clear hb22 G3 z zx KH hT
      have z : ∀ i, w22.cell? ⟨g3, i, none⟩ = #[Value.int .i64 f.p, .int .i64 f.d, .int .i64 f.e.k, .int .i64 f.e.j, .int .i64 f.e.v, .int .i64 f.e.t, .int .i64 f.e.c, .int .i64 f.a, .int .i64 f.l, .int .i64 f.n, .slice s4 j4 o4, .slice t4 q4 p4][i]? := fun i => Joins.cell_of_block (G4.out.at (.head _)) i
      have fz : ∀ i, w22.frozen? ⟨g3, i, none⟩ = false := fun i => Joins.unfrozen_of_block (G4.out.at (.head _)) i
      go_upto_region 22 with fail
      clear z fz
      have G5 : Aside (HeldC w ((((((((((((w22.setCell ⟨g3, 0, none⟩ (.int .i64 fx.p)).setCell ⟨g3, 1, none⟩ (.int .i64 fx.d)).setCell ⟨g3, 2, none⟩ (.int .i64 fx.e.k)).setCell ⟨g3, 3, none⟩ (.int .i64 fx.e.j)).setCell ⟨g3, 4, none⟩ (.int .i64 fx.e.v)).setCell ⟨g3, 5, none⟩ (.int .i64 fx.e.t)).setCell ⟨g3, 6, none⟩ (.int .i64 fx.e.c)).setCell ⟨g3, 7, none⟩ (.int .i64 fx.a)).setCell ⟨g3, 8, none⟩ (.int .i64 fx.l)).setCell ⟨g3, 9, none⟩ (.int .i64 fx.n)).setCell ⟨g3, 10, none⟩ (.slice s5 j5 o5)).setCell ⟨g3, 11, none⟩ (.slice t5 q5 p5)) [(g3, boxC fx (.slice s5 j5 o5) (.slice t5 q5 p5)), (w.heap.size + 1, boxE x.k x.j x.v x.t x.c), (w.heap.size, boxC c (.slice a1 m1 k1) (.slice a2 m2 k2))] [((.slice s5 j5 o5), (.slice t5 q5 p5), fx), ((.slice a1 m1 k1), (.slice a2 m2 k2), c)]) := ⟨st12_below G4.out.below (by omega) fx (.slice s5 j5 o5) (.slice t5 q5 p5), fun p hp => by
          simp only [List.mem_cons, List.not_mem_nil, or_false] at hp
          rcases hp with rfl | rfl | rfl
          · exact st12_box (G4.out.at (.head _)) fx (.slice s5 j5 o5) (.slice t5 q5 p5)
          · exact (st12_far (W := w22) (b := g3) (by omega) fx (.slice s5 j5 o5) (.slice t5 q5 p5)).trans (G4.out.at (.tail _ (.head _)))
          · exact (st12_far (W := w22) (b := g3) (by omega) fx (.slice s5 j5 o5) (.slice t5 q5 p5)).trans (G4.out.at (.tail _ (.tail _ (.head _))))
          , fun p hp => by
          simp only [List.mem_cons, List.not_mem_nil, or_false] at hp
          rcases hp with rfl | rfl
          · exact (bkT_st12 (w := w22) (b := g3) ⟨_, G4.out.at (.head _)⟩ HT.out fx (.slice s5 j5 o5) (.slice t5 q5 p5)).1
          · exact bkAt_later HK0.out (st12_below G4.out.below (by omega) fx (.slice s5 j5 o5) (.slice t5 q5 p5))⟩
      clear G4 HT
      generalize ((((((((((((w22.setCell ⟨g3, 0, none⟩ (.int .i64 fx.p)).setCell ⟨g3, 1, none⟩ (.int .i64 fx.d)).setCell ⟨g3, 2, none⟩ (.int .i64 fx.e.k)).setCell ⟨g3, 3, none⟩ (.int .i64 fx.e.j)).setCell ⟨g3, 4, none⟩ (.int .i64 fx.e.v)).setCell ⟨g3, 5, none⟩ (.int .i64 fx.e.t)).setCell ⟨g3, 6, none⟩ (.int .i64 fx.e.c)).setCell ⟨g3, 7, none⟩ (.int .i64 fx.a)).setCell ⟨g3, 8, none⟩ (.int .i64 fx.l)).setCell ⟨g3, 9, none⟩ (.int .i64 fx.n)).setCell ⟨g3, 10, none⟩ (.slice s5 j5 o5)).setCell ⟨g3, 11, none⟩ (.slice t5 q5 p5)) = w23 at *
      go_wp2
      go_roundw
      case rel => exact ⟨1, s5, j5, o5, t5, q5, p5, Or.inr (Or.inl ⟨rfl, rfl⟩), rfl, by rw [hfx.out]; exact G5.out⟩
      case measure => simp [intOf]
    · obtain ⟨f, hf⟩ : ∃ R : Cl, Hid (fk c x q 1 = R) := ⟨_, rfl⟩
      have kc := cF.out 1 (by omega)
      have kb := bF.out 1
      have hfd : (f.d == 0) = false := by rw [← hf.out]; rfl
      rw [hf.out] at kc kb G1
      have KC : Aside _ := kc
      have KB : Aside _ := kb
      clear kc kb cF bF sF
      obtain ⟨fx, hfx⟩ : ∃ R : Cl, Hid (fk c x q (1 + 1) = R) := ⟨_, rfl⟩
      have kh := pHk.out 1 (by omega)
      rw [hf.out, hfx.out] at kh
      have KH : Aside _ := kh
      clear kh pHk
      have z : ∀ i, wr.cell? ⟨g3, i, none⟩ = #[Value.int .i64 f.p, .int .i64 f.d, .int .i64 f.e.k, .int .i64 f.e.j, .int .i64 f.e.v, .int .i64 f.e.t, .int .i64 f.e.c, .int .i64 f.a, .int .i64 f.l, .int .i64 f.n, .slice s4 j4 o4, .slice t4 q4 p4][i]? := fun i => Joins.cell_of_block (G1.out.at (.head _)) i
      go_wp2_with fail
      refine (KC.out _ _ _ (G1.out.books (.head _))).mono ?_
      rintro e w20 ⟨rfl, hb20⟩
      have G2 : Aside _ := G1.out.later hb20
      clear hb20 G1 z KC
      have z : ∀ i, w20.cell? ⟨g3, i, none⟩ = #[Value.int .i64 f.p, .int .i64 f.d, .int .i64 f.e.k, .int .i64 f.e.j, .int .i64 f.e.v, .int .i64 f.e.t, .int .i64 f.e.c, .int .i64 f.a, .int .i64 f.l, .int .i64 f.n, .slice s4 j4 o4, .slice t4 q4 p4][i]? := fun i => Joins.cell_of_block (G2.out.at (.head _)) i
      have zc : ∀ i, w20.cell? ⟨w.heap.size, i, none⟩ = #[Value.int .i64 c.p, .int .i64 c.d, .int .i64 c.e.k, .int .i64 c.e.j, .int .i64 c.e.v, .int .i64 c.e.t, .int .i64 c.e.c, .int .i64 c.a, .int .i64 c.l, .int .i64 c.n, .slice a1 m1 k1, .slice a2 m2 k2][i]? := fun i => Joins.cell_of_block (G2.out.at (.tail _ (.tail _ (.head _)))) i
      go_wp2_with fail
      refine (KB.out _ _ _ (G2.out.books (.head _)) (G2.out.books (.tail _ (.head _)))).mono ?_
      rintro e w21 ⟨rfl, hb21⟩
      have G3 : Aside _ := G2.out.later hb21
      clear hb21 G2 z zc KB
      have z : ∀ i, w21.cell? ⟨g3, i, none⟩ = #[Value.int .i64 f.p, .int .i64 f.d, .int .i64 f.e.k, .int .i64 f.e.j, .int .i64 f.e.v, .int .i64 f.e.t, .int .i64 f.e.c, .int .i64 f.a, .int .i64 f.l, .int .i64 f.n, .slice s4 j4 o4, .slice t4 q4 p4][i]? := fun i => Joins.cell_of_block (G3.out.at (.head _)) i
      have zx : ∀ i, w21.cell? ⟨w.heap.size + 1, i, none⟩ = #[Value.int .i64 x.k, .int .i64 x.j, .int .i64 x.v, .int .i64 x.t, .int .i64 x.c][i]? := fun i => Joins.cell_of_block (G3.out.at (.tail _ (.head _))) i
      go_wp2_with fail
      refine (KH.out _ _ _ (G3.out.books (.head _))).mono ?_
      rintro e w22 ⟨u1, u2, rfl, hT, hb22⟩
      have G4 : Aside _ := G3.out.later hb22
      have HT : Aside (BkT w22 u1 u2 fx) := hT
      obtain ⟨s5, o5, t5, p5, rfl, rfl⟩ := bk_slices hT.1.1 hT.1.2
      obtain ⟨j5, hj5⟩ : ∃ n, Hid (fx.js.length = n) := ⟨_, rfl⟩
      obtain ⟨q5, hq5⟩ : ∃ n, Hid (fx.rs.length = n) := ⟨_, rfl⟩
      rw [hj5.out, hq5.out] at HT ⊢
      clear hb22 G3 z zx KH hT
      have z : ∀ i, w22.cell? ⟨g3, i, none⟩ = #[Value.int .i64 f.p, .int .i64 f.d, .int .i64 f.e.k, .int .i64 f.e.j, .int .i64 f.e.v, .int .i64 f.e.t, .int .i64 f.e.c, .int .i64 f.a, .int .i64 f.l, .int .i64 f.n, .slice s4 j4 o4, .slice t4 q4 p4][i]? := fun i => Joins.cell_of_block (G4.out.at (.head _)) i
      have fz : ∀ i, w22.frozen? ⟨g3, i, none⟩ = false := fun i => Joins.unfrozen_of_block (G4.out.at (.head _)) i
      go_upto_region 22 with fail
      clear z fz
      have G5 : Aside (HeldC w ((((((((((((w22.setCell ⟨g3, 0, none⟩ (.int .i64 fx.p)).setCell ⟨g3, 1, none⟩ (.int .i64 fx.d)).setCell ⟨g3, 2, none⟩ (.int .i64 fx.e.k)).setCell ⟨g3, 3, none⟩ (.int .i64 fx.e.j)).setCell ⟨g3, 4, none⟩ (.int .i64 fx.e.v)).setCell ⟨g3, 5, none⟩ (.int .i64 fx.e.t)).setCell ⟨g3, 6, none⟩ (.int .i64 fx.e.c)).setCell ⟨g3, 7, none⟩ (.int .i64 fx.a)).setCell ⟨g3, 8, none⟩ (.int .i64 fx.l)).setCell ⟨g3, 9, none⟩ (.int .i64 fx.n)).setCell ⟨g3, 10, none⟩ (.slice s5 j5 o5)).setCell ⟨g3, 11, none⟩ (.slice t5 q5 p5)) [(g3, boxC fx (.slice s5 j5 o5) (.slice t5 q5 p5)), (w.heap.size + 1, boxE x.k x.j x.v x.t x.c), (w.heap.size, boxC c (.slice a1 m1 k1) (.slice a2 m2 k2))] [((.slice s5 j5 o5), (.slice t5 q5 p5), fx), ((.slice a1 m1 k1), (.slice a2 m2 k2), c)]) := ⟨st12_below G4.out.below (by omega) fx (.slice s5 j5 o5) (.slice t5 q5 p5), fun p hp => by
          simp only [List.mem_cons, List.not_mem_nil, or_false] at hp
          rcases hp with rfl | rfl | rfl
          · exact st12_box (G4.out.at (.head _)) fx (.slice s5 j5 o5) (.slice t5 q5 p5)
          · exact (st12_far (W := w22) (b := g3) (by omega) fx (.slice s5 j5 o5) (.slice t5 q5 p5)).trans (G4.out.at (.tail _ (.head _)))
          · exact (st12_far (W := w22) (b := g3) (by omega) fx (.slice s5 j5 o5) (.slice t5 q5 p5)).trans (G4.out.at (.tail _ (.tail _ (.head _))))
          , fun p hp => by
          simp only [List.mem_cons, List.not_mem_nil, or_false] at hp
          rcases hp with rfl | rfl
          · exact (bkT_st12 (w := w22) (b := g3) ⟨_, G4.out.at (.head _)⟩ HT.out fx (.slice s5 j5 o5) (.slice t5 q5 p5)).1
          · exact bkAt_later HK0.out (st12_below G4.out.below (by omega) fx (.slice s5 j5 o5) (.slice t5 q5 p5))⟩
      clear G4 HT
      generalize ((((((((((((w22.setCell ⟨g3, 0, none⟩ (.int .i64 fx.p)).setCell ⟨g3, 1, none⟩ (.int .i64 fx.d)).setCell ⟨g3, 2, none⟩ (.int .i64 fx.e.k)).setCell ⟨g3, 3, none⟩ (.int .i64 fx.e.j)).setCell ⟨g3, 4, none⟩ (.int .i64 fx.e.v)).setCell ⟨g3, 5, none⟩ (.int .i64 fx.e.t)).setCell ⟨g3, 6, none⟩ (.int .i64 fx.e.c)).setCell ⟨g3, 7, none⟩ (.int .i64 fx.a)).setCell ⟨g3, 8, none⟩ (.int .i64 fx.l)).setCell ⟨g3, 9, none⟩ (.int .i64 fx.n)).setCell ⟨g3, 10, none⟩ (.slice s5 j5 o5)).setCell ⟨g3, 11, none⟩ (.slice t5 q5 p5)) = w23 at *
      go_wp2
      go_roundw
      case rel => exact ⟨2, s5, j5, o5, t5, q5, p5, Or.inr (Or.inr (Or.inl ⟨rfl, rfl⟩)), rfl, by rw [hfx.out]; exact G5.out⟩
      case measure => simp [intOf]
    · obtain ⟨f, hf⟩ : ∃ R : Cl, Hid (fk c x q 2 = R) := ⟨_, rfl⟩
      have kc := cF.out 2 (by omega)
      have kb := bF.out 2
      have hfd : (f.d == 0) = true := by rw [← hf.out]; rfl
      rw [hf.out] at kc kb G1
      have KC : Aside _ := kc
      have KB : Aside _ := kb
      clear kc kb cF bF sF
      clear pHk
      have z : ∀ i, wr.cell? ⟨g3, i, none⟩ = #[Value.int .i64 f.p, .int .i64 f.d, .int .i64 f.e.k, .int .i64 f.e.j, .int .i64 f.e.v, .int .i64 f.e.t, .int .i64 f.e.c, .int .i64 f.a, .int .i64 f.l, .int .i64 f.n, .slice s4 j4 o4, .slice t4 q4 p4][i]? := fun i => Joins.cell_of_block (G1.out.at (.head _)) i
      go_wp2_with fail
      refine (KC.out _ _ _ (G1.out.books (.head _))).mono ?_
      rintro e w20 ⟨rfl, hb20⟩
      have G2 : Aside _ := G1.out.later hb20
      clear hb20 G1 z KC
      have z : ∀ i, w20.cell? ⟨g3, i, none⟩ = #[Value.int .i64 f.p, .int .i64 f.d, .int .i64 f.e.k, .int .i64 f.e.j, .int .i64 f.e.v, .int .i64 f.e.t, .int .i64 f.e.c, .int .i64 f.a, .int .i64 f.l, .int .i64 f.n, .slice s4 j4 o4, .slice t4 q4 p4][i]? := fun i => Joins.cell_of_block (G2.out.at (.head _)) i
      have zc : ∀ i, w20.cell? ⟨w.heap.size, i, none⟩ = #[Value.int .i64 c.p, .int .i64 c.d, .int .i64 c.e.k, .int .i64 c.e.j, .int .i64 c.e.v, .int .i64 c.e.t, .int .i64 c.e.c, .int .i64 c.a, .int .i64 c.l, .int .i64 c.n, .slice a1 m1 k1, .slice a2 m2 k2][i]? := fun i => Joins.cell_of_block (G2.out.at (.tail _ (.tail _ (.head _)))) i
      go_wp2_with fail
      refine (KB.out _ _ _ (G2.out.books (.head _)) (G2.out.books (.tail _ (.head _)))).mono ?_
      rintro e w21 ⟨rfl, hb21⟩
      have G3 : Aside _ := G2.out.later hb21
      clear hb21 G2 z zc KB
      go_wp2
      go_roundw
      case rel => exact ⟨2, s4, j4, o4, t4, q4, p4, Or.inr (Or.inr (Or.inr ⟨rfl, rfl⟩)), rfl, by rw [hf.out]; exact G3.out⟩
      case measure => simp [intOf]
    · obtain ⟨f, hf⟩ : ∃ R : Cl, Hid (fk c x q 2 = R) := ⟨_, rfl⟩
      have ks := sF.out
      rw [hf.out] at ks G1
      have KS : Aside _ := ks
      clear ks cF bF sF pHk
      have z : ∀ i, wr.cell? ⟨g3, i, none⟩ = #[Value.int .i64 f.p, .int .i64 f.d, .int .i64 f.e.k, .int .i64 f.e.j, .int .i64 f.e.v, .int .i64 f.e.t, .int .i64 f.e.c, .int .i64 f.a, .int .i64 f.l, .int .i64 f.n, .slice s4 j4 o4, .slice t4 q4 p4][i]? := fun i => Joins.cell_of_block (G1.out.at (.head _)) i
      have zc : ∀ i, wr.cell? ⟨w.heap.size, i, none⟩ = #[Value.int .i64 c.p, .int .i64 c.d, .int .i64 c.e.k, .int .i64 c.e.j, .int .i64 c.e.v, .int .i64 c.e.t, .int .i64 c.e.c, .int .i64 c.a, .int .i64 c.l, .int .i64 c.n, .slice a1 m1 k1, .slice a2 m2 k2][i]? := fun i => Joins.cell_of_block (G1.out.at (.tail _ (.tail _ (.head _)))) i
      go_wp2_with fail
      refine (KS.out _ _ _ (G1.out.books (.head _)) (G1.out.books (.tail _ (.head _)))).mono ?_
      rintro e w20 ⟨rfl, hb20⟩
      have G2 := (G1.out.later hb20).below
      clear hb20 G1 z zc KS
      go_wp2
      go_ret
      exact ⟨rfl, G2⟩

set_option linter.unusedSimpArgs false in
set_option maxHeartbeats 8000000 in
set_option maxRecDepth 100000 in
theorem ke_ok1 (c : Cl) (x : En) (q0 q : Int) (a1 a2 : Option Addr) (m1 k1 m2 k2 : Nat) (w : World) (hb : BkAt w (.slice a1 m1 k1) (.slice a2 m2 k2) c) (hs : Slim c) (hq : 0 ≤ q ∧ q ≤ 59) (hat : ∀ W, Calls Try.prog 8 #[.int .i64 q0, .int .i64 60] W fun e w' => e = .returned (.int .i64 q) ∧ w' = W) (hck : c.ck = 0) (J : List Jb) (Q : List Rg) (hw : IntKind.i64.wrap (c.n + 1) = c.n + 1) (hP : playOf c x = (⟨c.p, c.d, c.e, c.a, c.l, c.n + 1, J, Q⟩, 0)) (hPk : (⟨c.p, c.d, c.e, c.a, c.l, c.n + 1, J, Q⟩ : Cl).ck = 0) (hd : c.d = 0) (hx : x.chk = 0) :
    Calls Try.prog 6 #[c.val (.slice a1 m1 k1) (.slice a2 m2 k2), .int .i64 q0, x.val] w fun e w' => e = .returned (.bool true) ∧ Below w.heap.size w w' := by
  have cP : Aside (∀ W u v, BkAt W u v (⟨c.p, c.d, c.e, c.a, c.l, (c.n + 1), J, Q⟩ : Cl) → Calls Try.prog 23 #[(⟨c.p, c.d, c.e, c.a, c.l, (c.n + 1), J, Q⟩ : Cl).val u v] W fun e w' => e = .returned (.int .i64 0) ∧ Below W.heap.size W w') := fun W u v hB => by have := cl_check (⟨c.p, c.d, c.e, c.a, c.l, (c.n + 1), J, Q⟩ : Cl) _ _ W hB; rw [hPk] at this; exact this
  have pC : Aside (∀ W, BkAt W (.slice a1 m1 k1) (.slice a2 m2 k2) c → Calls Try.prog 23 #[c.val (.slice a1 m1 k1) (.slice a2 m2 k2)] W fun e w' => e = .returned (.int .i64 0) ∧ Below W.heap.size W w') := fun W hB => by have := cl_check c _ _ W hB; rw [hck] at this; exact this
  have pP : Aside (∀ W, BkAt W (.slice a1 m1 k1) (.slice a2 m2 k2) c → AnsT 29 #[c.val (.slice a1 m1 k1) (.slice a2 m2 k2), x.val] W ((⟨c.p, c.d, c.e, c.a, c.l, (c.n + 1), J, Q⟩ : Cl), 0)) := fun W hB => by have := cl_play c x _ _ W hB; rw [hP] at this; exact this
  have hFF := ((fill_ok hck hq).2 hd)
  obtain ⟨RF, hRF⟩ : ∃ R : Cl, Hid (R = ⟨c.p, 2, En.zero, q, 0, c.n, c.js, c.rs⟩) := ⟨_, rfl⟩
  have hF : placeOf 0 c q = (RF, 0) := by rw [hRF.out]; exact hFF.1
  have hFk : RF.ck = 0 := by have := hFF.2; rw [hFF.1] at this; rw [hRF.out]; exact this
  have pF : Aside (∀ W, BkAt W (.slice a1 m1 k1) (.slice a2 m2 k2) c → AnsT 18 #[c.val (.slice a1 m1 k1) (.slice a2 m2 k2), .int .i64 q] W (RF, 0)) := fun W hB => by have := cl_fill c q _ _ W hB; rw [hF] at this; exact this
  have hcc := rests hck hd
  have hz0 : (⟨c.p, 2, En.zero, q, 0, c.n, c.js, c.rs⟩ : Cl).ck = 0 := by rw [← hRF.out]; exact hFk
  have hR0 : hearOf RF x = (fk c x q 0, 0) := by rw [hRF.out]; exact (fk_ok hz0 hx).1.1
  have pH0 : Aside (∀ W u v, BkAt W u v RF → AnsT 28 #[RF.val u v, x.val] W (fk c x q 0, 0)) := fun W u v hB => by
    have := cl_heard RF x _ _ W hB
    rw [hR0] at this
    exact this
  have pHk : Aside (∀ k, k < 2 → ∀ W u v, BkAt W u v (fk c x q k) → AnsT 28 #[(fk c x q k).val u v, x.val] W (fk c x q (k + 1), 0)) := fun k hk W u v hB => by
    have := cl_heard (fk c x q k) x _ _ W hB
    rw [fk_hear hz0 hx k hk] at this
    exact this
  have cF : Aside (∀ k, k < 3 → ∀ W u v, BkAt W u v (fk c x q k) → Calls Try.prog 23 #[(fk c x q k).val u v] W fun e w' => e = .returned (.int .i64 0) ∧ Below W.heap.size W w') := fun k hk W u v hB => by
    have := cl_check (fk c x q k) _ _ W hB
    rw [fk_ck hz0 hx k hk] at this
    exact this
  have bF : Aside (∀ k W u v, BkAt W u v (fk c x q k) → BkAt W (.slice a1 m1 k1) (.slice a2 m2 k2) c → Calls Try.prog 34 #[.agg #[u, v], .agg #[(.slice a1 m1 k1), (.slice a2 m2 k2)]] W fun e w' => e = .returned (.bool true) ∧ Below W.heap.size W w') := fun k W u v hB hC => by
    have e1 : (fk c x q k).js = c.js := fk_js c x q k
    have e2 : (fk c x q k).rs = c.rs := fk_rs c x q k
    have := bk_same u v (.slice a1 m1 k1) (.slice a2 m2 k2) c.js c.js c.rs c.rs W (by rw [← e1]; exact hB.1) (by rw [← e2]; exact hB.2) hC.1 hC.2 hs.1 hs.2
    rw [decide_eq_true rfl, decide_eq_true rfl] at this
    exact this
  have sF : Aside (∀ W u v, BkAt W u v (fk c x q 2) → BkAt W (.slice a1 m1 k1) (.slice a2 m2 k2) c → Calls Try.prog 25 #[(fk c x q 2).val u v, c.val (.slice a1 m1 k1) (.slice a2 m2 k2)] W fun e w' => e = .returned (.bool true) ∧ Below W.heap.size W w') := fun W u v hB hC => by
    have := cl_same (fk c x q 2) c u v _ _ W hB hC hs.1 hs.2
    have he : fk c x q 2 = c := hcc.symm
    rw [show sameC (fk c x q 2) c = true by rw [he]; exact sameC_self c] at this
    exact this
  have H0 : Aside (HeldC w ((w.alloc (boxC c (.slice a1 m1 k1) (.slice a2 m2 k2))).alloc (boxE x.k x.j x.v x.t x.c)) [(w.heap.size + 1, boxE x.k x.j x.v x.t x.c), (w.heap.size, boxC c (.slice a1 m1 k1) (.slice a2 m2 k2))] [((.slice a1 m1 k1), (.slice a2 m2 k2), c)]) := by
    have h0 : HeldC w w [] [((.slice a1 m1 k1), (.slice a2 m2 k2), c)] := ⟨Below.refl _ _, (fun p hp => by cases hp), fun p hp => by
      simp only [List.mem_cons, List.not_mem_nil, or_false] at hp
      subst hp
      exact hb⟩
    have h1 := (h0.boxed (boxC c (.slice a1 m1 k1) (.slice a2 m2 k2))).boxed (boxE x.k x.j x.v x.t x.c)
    rw [World.size_alloc] at h1
    exact h1
  have HK0 : Aside (BkAt w (.slice a1 m1 k1) (.slice a2 m2 k2) c) := hb
  have HD : Hid (c.d = 0) := hd
  clear hb hck hP hs hd hPk hF hFk hFF hx hz0 hR0 hcc hq
  go_enter Try.func6, Try.ntmps6
  go_upto_region 1 with fail
  generalize ((w.alloc (boxC c (.slice a1 m1 k1) (.slice a2 m2 k2))).alloc (boxE x.k x.j x.v x.t x.c)) = w0 at *
  go_wp2_with fail
  refine (hat _).mono ?_
  rintro e wx ⟨rfl, hwx⟩
  obtain rfl : w0 = wx := hwx.symm
  clear hat
  go_wp2_with fail
  refine (lc_heard _).mono ?_
  rintro e w1 ⟨rfl, hb1⟩
  have H1 : Aside (HeldC w w1 [(w.heap.size + 1, boxE x.k x.j x.v x.t x.c), (w.heap.size, boxC c (.slice a1 m1 k1) (.slice a2 m2 k2))] [((.slice a1 m1 k1), (.slice a2 m2 k2), c)]) := H0.out.later hb1
  clear hb1 H0 
  have z : ∀ i, w1.cell? ⟨w.heap.size, i, none⟩ = #[Value.int .i64 c.p, .int .i64 c.d, .int .i64 c.e.k, .int .i64 c.e.j, .int .i64 c.e.v, .int .i64 c.e.t, .int .i64 c.e.c, .int .i64 c.a, .int .i64 c.l, .int .i64 c.n, .slice a1 m1 k1, .slice a2 m2 k2][i]? := fun i => Joins.cell_of_block (H1.out.at (.tail _ (.head _))) i
  go_wp2_with fail
  refine (pC.out _ (H1.out.books (.head _))).mono ?_
  rintro e w2 ⟨rfl, hb2⟩
  have H2 : Aside (HeldC w w2 [(w.heap.size + 1, boxE x.k x.j x.v x.t x.c), (w.heap.size, boxC c (.slice a1 m1 k1) (.slice a2 m2 k2))] [((.slice a1 m1 k1), (.slice a2 m2 k2), c)]) := H1.out.later hb2
  clear hb2 H1 z pC
  have z : ∀ i, w2.cell? ⟨w.heap.size, i, none⟩ = #[Value.int .i64 c.p, .int .i64 c.d, .int .i64 c.e.k, .int .i64 c.e.j, .int .i64 c.e.v, .int .i64 c.e.t, .int .i64 c.e.c, .int .i64 c.a, .int .i64 c.l, .int .i64 c.n, .slice a1 m1 k1, .slice a2 m2 k2][i]? := fun i => Joins.cell_of_block (H2.out.at (.tail _ (.head _))) i
  have ze : ∀ i, w2.cell? ⟨w.heap.size + 1, i, none⟩ = #[Value.int .i64 x.k, .int .i64 x.j, .int .i64 x.v, .int .i64 x.t, .int .i64 x.c][i]? := fun i => Joins.cell_of_block (H2.out.at (.head _)) i
  go_wp2_with fail
  refine (pP.out _ (H2.out.books (.head _))).mono ?_
  rintro e w3 ⟨u1, u2, rfl, hT3, hb3⟩
  have hT3 : BkAt w3 u1 u2 (⟨c.p, c.d, c.e, c.a, c.l, (c.n + 1), J, Q⟩ : Cl) := by first | exact hT3 | exact hT3.1
  have H3 : Aside _ := (H2.out.later hb3).book hT3
  obtain ⟨s3, o3, t3, p3, rfl, rfl⟩ := bk_slices hT3.1 hT3.2
  clear hb3 H2 hT3 z ze pP
  obtain ⟨j3, hj3⟩ : ∃ n, Hid (J.length = n) := ⟨_, rfl⟩
  obtain ⟨q3, hq3⟩ : ∃ n, Hid (Q.length = n) := ⟨_, rfl⟩
  rw [hj3.out, hq3.out] at H3 ⊢
  go_upto_region 5 with fail
  have H4 : Aside _ := H3.out.boxed (boxC (⟨c.p, c.d, c.e, c.a, c.l, (c.n + 1), J, Q⟩ : Cl) (.slice s3 j3 o3) (.slice t3 q3 p3))
  clear H3
  generalize w3.alloc (boxC (⟨c.p, c.d, c.e, c.a, c.l, (c.n + 1), J, Q⟩ : Cl) (.slice s3 j3 o3) (.slice t3 q3 p3)) = w4 at *
  generalize w3.heap.size = g1 at *
  have zp : ∀ i, w4.cell? ⟨g1, i, none⟩ = #[Value.int .i64 (⟨c.p, c.d, c.e, c.a, c.l, (c.n + 1), J, Q⟩ : Cl).p, .int .i64 (⟨c.p, c.d, c.e, c.a, c.l, (c.n + 1), J, Q⟩ : Cl).d, .int .i64 (⟨c.p, c.d, c.e, c.a, c.l, (c.n + 1), J, Q⟩ : Cl).e.k, .int .i64 (⟨c.p, c.d, c.e, c.a, c.l, (c.n + 1), J, Q⟩ : Cl).e.j, .int .i64 (⟨c.p, c.d, c.e, c.a, c.l, (c.n + 1), J, Q⟩ : Cl).e.v, .int .i64 (⟨c.p, c.d, c.e, c.a, c.l, (c.n + 1), J, Q⟩ : Cl).e.t, .int .i64 (⟨c.p, c.d, c.e, c.a, c.l, (c.n + 1), J, Q⟩ : Cl).e.c, .int .i64 (⟨c.p, c.d, c.e, c.a, c.l, (c.n + 1), J, Q⟩ : Cl).a, .int .i64 (⟨c.p, c.d, c.e, c.a, c.l, (c.n + 1), J, Q⟩ : Cl).l, .int .i64 (⟨c.p, c.d, c.e, c.a, c.l, (c.n + 1), J, Q⟩ : Cl).n, .slice s3 j3 o3, .slice t3 q3 p3][i]? := fun i => Joins.cell_of_block (H4.out.at (.head _)) i
  have z : ∀ i, w4.cell? ⟨w.heap.size, i, none⟩ = #[Value.int .i64 c.p, .int .i64 c.d, .int .i64 c.e.k, .int .i64 c.e.j, .int .i64 c.e.v, .int .i64 c.e.t, .int .i64 c.e.c, .int .i64 c.a, .int .i64 c.l, .int .i64 c.n, .slice a1 m1 k1, .slice a2 m2 k2][i]? := fun i => Joins.cell_of_block (H4.out.at (.tail _ (.tail _ (.head _)))) i
  go_wp2_with fail
  refine (cP.out _ _ _ (H4.out.books (.head _))).mono ?_
  rintro e w5 ⟨rfl, hb5⟩
  have H5 : Aside (HeldC w w5 [(g1, boxC (⟨c.p, c.d, c.e, c.a, c.l, (c.n + 1), J, Q⟩ : Cl) (.slice s3 j3 o3) (.slice t3 q3 p3)), (w.heap.size + 1, boxE x.k x.j x.v x.t x.c), (w.heap.size, boxC c (.slice a1 m1 k1) (.slice a2 m2 k2))] [((.slice s3 j3 o3), (.slice t3 q3 p3), (⟨c.p, c.d, c.e, c.a, c.l, (c.n + 1), J, Q⟩ : Cl)), ((.slice a1 m1 k1), (.slice a2 m2 k2), c)]) := H4.out.later hb5
  clear hb5 H4 zp z cP
  have zp : ∀ i, w5.cell? ⟨g1, i, none⟩ = #[Value.int .i64 (⟨c.p, c.d, c.e, c.a, c.l, (c.n + 1), J, Q⟩ : Cl).p, .int .i64 (⟨c.p, c.d, c.e, c.a, c.l, (c.n + 1), J, Q⟩ : Cl).d, .int .i64 (⟨c.p, c.d, c.e, c.a, c.l, (c.n + 1), J, Q⟩ : Cl).e.k, .int .i64 (⟨c.p, c.d, c.e, c.a, c.l, (c.n + 1), J, Q⟩ : Cl).e.j, .int .i64 (⟨c.p, c.d, c.e, c.a, c.l, (c.n + 1), J, Q⟩ : Cl).e.v, .int .i64 (⟨c.p, c.d, c.e, c.a, c.l, (c.n + 1), J, Q⟩ : Cl).e.t, .int .i64 (⟨c.p, c.d, c.e, c.a, c.l, (c.n + 1), J, Q⟩ : Cl).e.c, .int .i64 (⟨c.p, c.d, c.e, c.a, c.l, (c.n + 1), J, Q⟩ : Cl).a, .int .i64 (⟨c.p, c.d, c.e, c.a, c.l, (c.n + 1), J, Q⟩ : Cl).l, .int .i64 (⟨c.p, c.d, c.e, c.a, c.l, (c.n + 1), J, Q⟩ : Cl).n, .slice s3 j3 o3, .slice t3 q3 p3][i]? := fun i => Joins.cell_of_block (H5.out.at (.head _)) i
  have z : ∀ i, w5.cell? ⟨w.heap.size, i, none⟩ = #[Value.int .i64 c.p, .int .i64 c.d, .int .i64 c.e.k, .int .i64 c.e.j, .int .i64 c.e.v, .int .i64 c.e.t, .int .i64 c.e.c, .int .i64 c.a, .int .i64 c.l, .int .i64 c.n, .slice a1 m1 k1, .slice a2 m2 k2][i]? := fun i => Joins.cell_of_block (H5.out.at (.tail _ (.tail _ (.head _)))) i
  have hne := fun W => neq_entry c.e.k c.e.j c.e.v c.e.t c.e.c c.e.k c.e.j c.e.v c.e.t c.e.c W
  rw [show unlike c.e.k c.e.j c.e.v c.e.t c.e.c c.e.k c.e.j c.e.v c.e.t c.e.c = false from ne_self c.e] at hne
  go_upto_region 7 with fail
  clear zp z hne
  have z : ∀ i, w5.cell? ⟨w.heap.size, i, none⟩ = #[Value.int .i64 c.p, .int .i64 c.d, .int .i64 c.e.k, .int .i64 c.e.j, .int .i64 c.e.v, .int .i64 c.e.t, .int .i64 c.e.c, .int .i64 c.a, .int .i64 c.l, .int .i64 c.n, .slice a1 m1 k1, .slice a2 m2 k2][i]? := fun i => Joins.cell_of_block (H5.out.at (.tail _ (.tail _ (.head _)))) i
  go_wp2_with fail
  refine (pF.out _ (H5.out.books (.tail _ (.head _)))).mono ?_
  rintro e w6 ⟨u1, u2, rfl, hT6, hb6⟩
  have hT6 : BkAt w6 u1 u2 RF := by first | exact hT6 | exact hT6.1
  have H6 : Aside _ := (H5.out.later hb6).book hT6
  obtain ⟨s6, o6, t6, p6, rfl, rfl⟩ := bk_slices hT6.1 hT6.2
  clear hb6 H5 hT6 z pF
  obtain ⟨j6, hj6⟩ : ∃ n, Hid (RF.js.length = n) := ⟨_, rfl⟩
  obtain ⟨q6, hq6⟩ : ∃ n, Hid (RF.rs.length = n) := ⟨_, rfl⟩
  rw [hj6.out, hq6.out] at H6 ⊢
  go_upto_region 8 with fail
  have H7 : Aside _ := H6.out.boxed (boxC RF (.slice s6 j6 o6) (.slice t6 q6 p6))
  clear H6
  generalize w6.alloc (boxC RF (.slice s6 j6 o6) (.slice t6 q6 p6)) = w7 at *
  generalize w6.heap.size = g2 at *
  have z : ∀ i, w7.cell? ⟨w.heap.size, i, none⟩ = #[Value.int .i64 c.p, .int .i64 c.d, .int .i64 c.e.k, .int .i64 c.e.j, .int .i64 c.e.v, .int .i64 c.e.t, .int .i64 c.e.c, .int .i64 c.a, .int .i64 c.l, .int .i64 c.n, .slice a1 m1 k1, .slice a2 m2 k2][i]? := fun i => Joins.cell_of_block (H7.out.at (.tail _ (.tail _ (.tail _ (.head _))))) i
  have hdb : (c.d == 0) = true := by rw [HD.out]; rfl
  go_upto_region 12 with fail
  clear z hdb
  have z : ∀ i, w7.cell? ⟨g2, i, none⟩ = #[Value.int .i64 RF.p, .int .i64 RF.d, .int .i64 RF.e.k, .int .i64 RF.e.j, .int .i64 RF.e.v, .int .i64 RF.e.t, .int .i64 RF.e.c, .int .i64 RF.a, .int .i64 RF.l, .int .i64 RF.n, .slice s6 j6 o6, .slice t6 q6 p6][i]? := fun i => Joins.cell_of_block (H7.out.at (.head _)) i
  have ze : ∀ i, w7.cell? ⟨w.heap.size + 1, i, none⟩ = #[Value.int .i64 x.k, .int .i64 x.j, .int .i64 x.v, .int .i64 x.t, .int .i64 x.c][i]? := fun i => Joins.cell_of_block (H7.out.at (.tail _ (.tail _ (.head _)))) i
  obtain ⟨f0, hf0⟩ : ∃ R : Cl, Hid (fk c x q 0 = R) := ⟨_, rfl⟩
  rw [hf0.out] at pH0
  go_wp2_with fail
  refine (pH0.out _ _ _ (H7.out.books (.head _))).mono ?_
  rintro e w8 ⟨u1, u2, rfl, hT8, hb8⟩
  have hT8 : BkAt w8 u1 u2 f0 := by first | exact hT8 | exact hT8.1
  have H8 : Aside _ := (H7.out.later hb8).book hT8
  obtain ⟨s8, o8, t8, p8, rfl, rfl⟩ := bk_slices hT8.1 hT8.2
  clear hb8 H7 hT8 z ze pH0
  obtain ⟨j8, hj8⟩ : ∃ n, Hid (f0.js.length = n) := ⟨_, rfl⟩
  obtain ⟨q8, hq8⟩ : ∃ n, Hid (f0.rs.length = n) := ⟨_, rfl⟩
  rw [hj8.out, hq8.out] at H8 ⊢
  go_upto_region 13 with fail
  have H9 : Aside _ := H8.out.boxed (boxC f0 (.slice s8 j8 o8) (.slice t8 q8 p8))
  have lg3 : w.heap.size + 1 < w8.heap.size := heap_lt (H8.out.at (.tail _ (.tail _ (.head _))))
  clear H8
  generalize w8.alloc (boxC f0 (.slice s8 j8 o8) (.slice t8 q8 p8)) = w9 at *
  generalize w8.heap.size = g3 at *
  have G0 : Aside (HeldC w w9 [(g3, boxC (fk c x q 0) (.slice s8 j8 o8) (.slice t8 q8 p8)), (w.heap.size + 1, boxE x.k x.j x.v x.t x.c), (w.heap.size, boxC c (.slice a1 m1 k1) (.slice a2 m2 k2))] [((.slice s8 j8 o8), (.slice t8 q8 p8), (fk c x q 0)), ((.slice a1 m1 k1), (.slice a2 m2 k2), c)]) := by
    rw [Aside, hf0.out]
    exact ⟨H9.out.below, fun p hp => by
      simp only [List.mem_cons, List.not_mem_nil, or_false] at hp
      rcases hp with rfl | rfl | rfl
      · exact H9.out.at (.head _)
      · exact H9.out.at (.tail _ (.tail _ (.tail _ (.head _))))
      · exact H9.out.at (.tail _ (.tail _ (.tail _ (.tail _ (.head _)))))
      , fun p hp => by
      simp only [List.mem_cons, List.not_mem_nil, or_false] at hp
      rcases hp with rfl | rfl
      · exact H9.out.books (.head _)
      · exact H9.out.books (.tail _ (.tail _ (.tail _ (.head _))))⟩
  clear H9 hf0 hj8 hq8
  go_wp2_with fail
  go_loopw [91, 8] (fun i e wr => ∃ (m : Nat) (s4 : Option Addr) (j4 o4 : Nat) (t4 : Option Addr) (q4 p4 : Nat), ((i = .int .i64 0 ∧ m = 0) ∨ (i = .int .i64 1 ∧ m = 1) ∨ (i = .int .i64 2 ∧ m = 2) ∨ (i = .int .i64 3 ∧ m = 2)) ∧ e = .int .i64 0 ∧ Hid (HeldC w wr [(g3, boxC (fk c x q m) (.slice s4 j4 o4) (.slice t4 q4 p4)), (w.heap.size + 1, boxE x.k x.j x.v x.t x.c), (w.heap.size, boxC c (.slice a1 m1 k1) (.slice a2 m2 k2))] [((.slice s4 j4 o4), (.slice t4 q4 p4), (fk c x q m)), ((.slice a1 m1 k1), (.slice a2 m2 k2), c)])) (fun i _ _ => 3 - (intOf i).toNat)
  case atStart => exact ⟨0, s8, j8, o8, t8, q8, p8, Or.inl ⟨rfl, rfl⟩, rfl, G0.out⟩
  case round =>
    clear G0
    obtain ⟨m, s4, j4, o4, t4, q4, p4, hi, rfl, G1⟩ := hrel
    rcases hi with ⟨rfl, rfl⟩ | ⟨rfl, rfl⟩ | ⟨rfl, rfl⟩ | ⟨rfl, rfl⟩
    · obtain ⟨f, hf⟩ : ∃ R : Cl, Hid (fk c x q 0 = R) := ⟨_, rfl⟩
      have kc := cF.out 0 (by omega)
      have kb := bF.out 0
      have hfd : (f.d == 0) = false := by rw [← hf.out]; rfl
      rw [hf.out] at kc kb G1
      have KC : Aside _ := kc
      have KB : Aside _ := kb
      clear kc kb cF bF sF
      obtain ⟨fx, hfx⟩ : ∃ R : Cl, Hid (fk c x q (0 + 1) = R) := ⟨_, rfl⟩
      have kh := pHk.out 0 (by omega)
      rw [hf.out, hfx.out] at kh
      have KH : Aside _ := kh
      clear kh pHk
      have z : ∀ i, wr.cell? ⟨g3, i, none⟩ = #[Value.int .i64 f.p, .int .i64 f.d, .int .i64 f.e.k, .int .i64 f.e.j, .int .i64 f.e.v, .int .i64 f.e.t, .int .i64 f.e.c, .int .i64 f.a, .int .i64 f.l, .int .i64 f.n, .slice s4 j4 o4, .slice t4 q4 p4][i]? := fun i => Joins.cell_of_block (G1.out.at (.head _)) i
      go_wp2_with fail
      refine (KC.out _ _ _ (G1.out.books (.head _))).mono ?_
      rintro e w20 ⟨rfl, hb20⟩
      have G2 : Aside _ := G1.out.later hb20
      clear hb20 G1 z KC
      have z : ∀ i, w20.cell? ⟨g3, i, none⟩ = #[Value.int .i64 f.p, .int .i64 f.d, .int .i64 f.e.k, .int .i64 f.e.j, .int .i64 f.e.v, .int .i64 f.e.t, .int .i64 f.e.c, .int .i64 f.a, .int .i64 f.l, .int .i64 f.n, .slice s4 j4 o4, .slice t4 q4 p4][i]? := fun i => Joins.cell_of_block (G2.out.at (.head _)) i
      have zc : ∀ i, w20.cell? ⟨w.heap.size, i, none⟩ = #[Value.int .i64 c.p, .int .i64 c.d, .int .i64 c.e.k, .int .i64 c.e.j, .int .i64 c.e.v, .int .i64 c.e.t, .int .i64 c.e.c, .int .i64 c.a, .int .i64 c.l, .int .i64 c.n, .slice a1 m1 k1, .slice a2 m2 k2][i]? := fun i => Joins.cell_of_block (G2.out.at (.tail _ (.tail _ (.head _)))) i
      go_wp2_with fail
      refine (KB.out _ _ _ (G2.out.books (.head _)) (G2.out.books (.tail _ (.head _)))).mono ?_
      rintro e w21 ⟨rfl, hb21⟩
      have G3 : Aside _ := G2.out.later hb21
      clear hb21 G2 z zc KB
      have z : ∀ i, w21.cell? ⟨g3, i, none⟩ = #[Value.int .i64 f.p, .int .i64 f.d, .int .i64 f.e.k, .int .i64 f.e.j, .int .i64 f.e.v, .int .i64 f.e.t, .int .i64 f.e.c, .int .i64 f.a, .int .i64 f.l, .int .i64 f.n, .slice s4 j4 o4, .slice t4 q4 p4][i]? := fun i => Joins.cell_of_block (G3.out.at (.head _)) i
      have zx : ∀ i, w21.cell? ⟨w.heap.size + 1, i, none⟩ = #[Value.int .i64 x.k, .int .i64 x.j, .int .i64 x.v, .int .i64 x.t, .int .i64 x.c][i]? := fun i => Joins.cell_of_block (G3.out.at (.tail _ (.head _))) i
      go_wp2_with fail
      refine (KH.out _ _ _ (G3.out.books (.head _))).mono ?_
      rintro e w22 ⟨u1, u2, rfl, hT, hb22⟩
      have G4 : Aside _ := G3.out.later hb22
      have HT : Aside (BkT w22 u1 u2 fx) := hT
      obtain ⟨s5, o5, t5, p5, rfl, rfl⟩ := bk_slices hT.1.1 hT.1.2
      obtain ⟨j5, hj5⟩ : ∃ n, Hid (fx.js.length = n) := ⟨_, rfl⟩
      obtain ⟨q5, hq5⟩ : ∃ n, Hid (fx.rs.length = n) := ⟨_, rfl⟩
      rw [hj5.out, hq5.out] at HT ⊢
      clear hb22 G3 z zx KH hT
      have z : ∀ i, w22.cell? ⟨g3, i, none⟩ = #[Value.int .i64 f.p, .int .i64 f.d, .int .i64 f.e.k, .int .i64 f.e.j, .int .i64 f.e.v, .int .i64 f.e.t, .int .i64 f.e.c, .int .i64 f.a, .int .i64 f.l, .int .i64 f.n, .slice s4 j4 o4, .slice t4 q4 p4][i]? := fun i => Joins.cell_of_block (G4.out.at (.head _)) i
      have fz : ∀ i, w22.frozen? ⟨g3, i, none⟩ = false := fun i => Joins.unfrozen_of_block (G4.out.at (.head _)) i
      go_upto_region 22 with fail
      clear z fz
      have G5 : Aside (HeldC w ((((((((((((w22.setCell ⟨g3, 0, none⟩ (.int .i64 fx.p)).setCell ⟨g3, 1, none⟩ (.int .i64 fx.d)).setCell ⟨g3, 2, none⟩ (.int .i64 fx.e.k)).setCell ⟨g3, 3, none⟩ (.int .i64 fx.e.j)).setCell ⟨g3, 4, none⟩ (.int .i64 fx.e.v)).setCell ⟨g3, 5, none⟩ (.int .i64 fx.e.t)).setCell ⟨g3, 6, none⟩ (.int .i64 fx.e.c)).setCell ⟨g3, 7, none⟩ (.int .i64 fx.a)).setCell ⟨g3, 8, none⟩ (.int .i64 fx.l)).setCell ⟨g3, 9, none⟩ (.int .i64 fx.n)).setCell ⟨g3, 10, none⟩ (.slice s5 j5 o5)).setCell ⟨g3, 11, none⟩ (.slice t5 q5 p5)) [(g3, boxC fx (.slice s5 j5 o5) (.slice t5 q5 p5)), (w.heap.size + 1, boxE x.k x.j x.v x.t x.c), (w.heap.size, boxC c (.slice a1 m1 k1) (.slice a2 m2 k2))] [((.slice s5 j5 o5), (.slice t5 q5 p5), fx), ((.slice a1 m1 k1), (.slice a2 m2 k2), c)]) := ⟨st12_below G4.out.below (by omega) fx (.slice s5 j5 o5) (.slice t5 q5 p5), fun p hp => by
          simp only [List.mem_cons, List.not_mem_nil, or_false] at hp
          rcases hp with rfl | rfl | rfl
          · exact st12_box (G4.out.at (.head _)) fx (.slice s5 j5 o5) (.slice t5 q5 p5)
          · exact (st12_far (W := w22) (b := g3) (by omega) fx (.slice s5 j5 o5) (.slice t5 q5 p5)).trans (G4.out.at (.tail _ (.head _)))
          · exact (st12_far (W := w22) (b := g3) (by omega) fx (.slice s5 j5 o5) (.slice t5 q5 p5)).trans (G4.out.at (.tail _ (.tail _ (.head _))))
          , fun p hp => by
          simp only [List.mem_cons, List.not_mem_nil, or_false] at hp
          rcases hp with rfl | rfl
          · exact (bkT_st12 (w := w22) (b := g3) ⟨_, G4.out.at (.head _)⟩ HT.out fx (.slice s5 j5 o5) (.slice t5 q5 p5)).1
          · exact bkAt_later HK0.out (st12_below G4.out.below (by omega) fx (.slice s5 j5 o5) (.slice t5 q5 p5))⟩
      clear G4 HT
      generalize ((((((((((((w22.setCell ⟨g3, 0, none⟩ (.int .i64 fx.p)).setCell ⟨g3, 1, none⟩ (.int .i64 fx.d)).setCell ⟨g3, 2, none⟩ (.int .i64 fx.e.k)).setCell ⟨g3, 3, none⟩ (.int .i64 fx.e.j)).setCell ⟨g3, 4, none⟩ (.int .i64 fx.e.v)).setCell ⟨g3, 5, none⟩ (.int .i64 fx.e.t)).setCell ⟨g3, 6, none⟩ (.int .i64 fx.e.c)).setCell ⟨g3, 7, none⟩ (.int .i64 fx.a)).setCell ⟨g3, 8, none⟩ (.int .i64 fx.l)).setCell ⟨g3, 9, none⟩ (.int .i64 fx.n)).setCell ⟨g3, 10, none⟩ (.slice s5 j5 o5)).setCell ⟨g3, 11, none⟩ (.slice t5 q5 p5)) = w23 at *
      go_wp2
      go_roundw
      case rel => exact ⟨1, s5, j5, o5, t5, q5, p5, Or.inr (Or.inl ⟨rfl, rfl⟩), rfl, by rw [hfx.out]; exact G5.out⟩
      case measure => simp [intOf]
    · obtain ⟨f, hf⟩ : ∃ R : Cl, Hid (fk c x q 1 = R) := ⟨_, rfl⟩
      have kc := cF.out 1 (by omega)
      have kb := bF.out 1
      have hfd : (f.d == 0) = false := by rw [← hf.out]; rfl
      rw [hf.out] at kc kb G1
      have KC : Aside _ := kc
      have KB : Aside _ := kb
      clear kc kb cF bF sF
      obtain ⟨fx, hfx⟩ : ∃ R : Cl, Hid (fk c x q (1 + 1) = R) := ⟨_, rfl⟩
      have kh := pHk.out 1 (by omega)
      rw [hf.out, hfx.out] at kh
      have KH : Aside _ := kh
      clear kh pHk
      have z : ∀ i, wr.cell? ⟨g3, i, none⟩ = #[Value.int .i64 f.p, .int .i64 f.d, .int .i64 f.e.k, .int .i64 f.e.j, .int .i64 f.e.v, .int .i64 f.e.t, .int .i64 f.e.c, .int .i64 f.a, .int .i64 f.l, .int .i64 f.n, .slice s4 j4 o4, .slice t4 q4 p4][i]? := fun i => Joins.cell_of_block (G1.out.at (.head _)) i
      go_wp2_with fail
      refine (KC.out _ _ _ (G1.out.books (.head _))).mono ?_
      rintro e w20 ⟨rfl, hb20⟩
      have G2 : Aside _ := G1.out.later hb20
      clear hb20 G1 z KC
      have z : ∀ i, w20.cell? ⟨g3, i, none⟩ = #[Value.int .i64 f.p, .int .i64 f.d, .int .i64 f.e.k, .int .i64 f.e.j, .int .i64 f.e.v, .int .i64 f.e.t, .int .i64 f.e.c, .int .i64 f.a, .int .i64 f.l, .int .i64 f.n, .slice s4 j4 o4, .slice t4 q4 p4][i]? := fun i => Joins.cell_of_block (G2.out.at (.head _)) i
      have zc : ∀ i, w20.cell? ⟨w.heap.size, i, none⟩ = #[Value.int .i64 c.p, .int .i64 c.d, .int .i64 c.e.k, .int .i64 c.e.j, .int .i64 c.e.v, .int .i64 c.e.t, .int .i64 c.e.c, .int .i64 c.a, .int .i64 c.l, .int .i64 c.n, .slice a1 m1 k1, .slice a2 m2 k2][i]? := fun i => Joins.cell_of_block (G2.out.at (.tail _ (.tail _ (.head _)))) i
      go_wp2_with fail
      refine (KB.out _ _ _ (G2.out.books (.head _)) (G2.out.books (.tail _ (.head _)))).mono ?_
      rintro e w21 ⟨rfl, hb21⟩
      have G3 : Aside _ := G2.out.later hb21
      clear hb21 G2 z zc KB
      have z : ∀ i, w21.cell? ⟨g3, i, none⟩ = #[Value.int .i64 f.p, .int .i64 f.d, .int .i64 f.e.k, .int .i64 f.e.j, .int .i64 f.e.v, .int .i64 f.e.t, .int .i64 f.e.c, .int .i64 f.a, .int .i64 f.l, .int .i64 f.n, .slice s4 j4 o4, .slice t4 q4 p4][i]? := fun i => Joins.cell_of_block (G3.out.at (.head _)) i
      have zx : ∀ i, w21.cell? ⟨w.heap.size + 1, i, none⟩ = #[Value.int .i64 x.k, .int .i64 x.j, .int .i64 x.v, .int .i64 x.t, .int .i64 x.c][i]? := fun i => Joins.cell_of_block (G3.out.at (.tail _ (.head _))) i
      go_wp2_with fail
      refine (KH.out _ _ _ (G3.out.books (.head _))).mono ?_
      rintro e w22 ⟨u1, u2, rfl, hT, hb22⟩
      have G4 : Aside _ := G3.out.later hb22
      have HT : Aside (BkT w22 u1 u2 fx) := hT
      obtain ⟨s5, o5, t5, p5, rfl, rfl⟩ := bk_slices hT.1.1 hT.1.2
      obtain ⟨j5, hj5⟩ : ∃ n, Hid (fx.js.length = n) := ⟨_, rfl⟩
      obtain ⟨q5, hq5⟩ : ∃ n, Hid (fx.rs.length = n) := ⟨_, rfl⟩
      rw [hj5.out, hq5.out] at HT ⊢
      clear hb22 G3 z zx KH hT
      have z : ∀ i, w22.cell? ⟨g3, i, none⟩ = #[Value.int .i64 f.p, .int .i64 f.d, .int .i64 f.e.k, .int .i64 f.e.j, .int .i64 f.e.v, .int .i64 f.e.t, .int .i64 f.e.c, .int .i64 f.a, .int .i64 f.l, .int .i64 f.n, .slice s4 j4 o4, .slice t4 q4 p4][i]? := fun i => Joins.cell_of_block (G4.out.at (.head _)) i
      have fz : ∀ i, w22.frozen? ⟨g3, i, none⟩ = false := fun i => Joins.unfrozen_of_block (G4.out.at (.head _)) i
      go_upto_region 22 with fail
      clear z fz
      have G5 : Aside (HeldC w ((((((((((((w22.setCell ⟨g3, 0, none⟩ (.int .i64 fx.p)).setCell ⟨g3, 1, none⟩ (.int .i64 fx.d)).setCell ⟨g3, 2, none⟩ (.int .i64 fx.e.k)).setCell ⟨g3, 3, none⟩ (.int .i64 fx.e.j)).setCell ⟨g3, 4, none⟩ (.int .i64 fx.e.v)).setCell ⟨g3, 5, none⟩ (.int .i64 fx.e.t)).setCell ⟨g3, 6, none⟩ (.int .i64 fx.e.c)).setCell ⟨g3, 7, none⟩ (.int .i64 fx.a)).setCell ⟨g3, 8, none⟩ (.int .i64 fx.l)).setCell ⟨g3, 9, none⟩ (.int .i64 fx.n)).setCell ⟨g3, 10, none⟩ (.slice s5 j5 o5)).setCell ⟨g3, 11, none⟩ (.slice t5 q5 p5)) [(g3, boxC fx (.slice s5 j5 o5) (.slice t5 q5 p5)), (w.heap.size + 1, boxE x.k x.j x.v x.t x.c), (w.heap.size, boxC c (.slice a1 m1 k1) (.slice a2 m2 k2))] [((.slice s5 j5 o5), (.slice t5 q5 p5), fx), ((.slice a1 m1 k1), (.slice a2 m2 k2), c)]) := ⟨st12_below G4.out.below (by omega) fx (.slice s5 j5 o5) (.slice t5 q5 p5), fun p hp => by
          simp only [List.mem_cons, List.not_mem_nil, or_false] at hp
          rcases hp with rfl | rfl | rfl
          · exact st12_box (G4.out.at (.head _)) fx (.slice s5 j5 o5) (.slice t5 q5 p5)
          · exact (st12_far (W := w22) (b := g3) (by omega) fx (.slice s5 j5 o5) (.slice t5 q5 p5)).trans (G4.out.at (.tail _ (.head _)))
          · exact (st12_far (W := w22) (b := g3) (by omega) fx (.slice s5 j5 o5) (.slice t5 q5 p5)).trans (G4.out.at (.tail _ (.tail _ (.head _))))
          , fun p hp => by
          simp only [List.mem_cons, List.not_mem_nil, or_false] at hp
          rcases hp with rfl | rfl
          · exact (bkT_st12 (w := w22) (b := g3) ⟨_, G4.out.at (.head _)⟩ HT.out fx (.slice s5 j5 o5) (.slice t5 q5 p5)).1
          · exact bkAt_later HK0.out (st12_below G4.out.below (by omega) fx (.slice s5 j5 o5) (.slice t5 q5 p5))⟩
      clear G4 HT
      generalize ((((((((((((w22.setCell ⟨g3, 0, none⟩ (.int .i64 fx.p)).setCell ⟨g3, 1, none⟩ (.int .i64 fx.d)).setCell ⟨g3, 2, none⟩ (.int .i64 fx.e.k)).setCell ⟨g3, 3, none⟩ (.int .i64 fx.e.j)).setCell ⟨g3, 4, none⟩ (.int .i64 fx.e.v)).setCell ⟨g3, 5, none⟩ (.int .i64 fx.e.t)).setCell ⟨g3, 6, none⟩ (.int .i64 fx.e.c)).setCell ⟨g3, 7, none⟩ (.int .i64 fx.a)).setCell ⟨g3, 8, none⟩ (.int .i64 fx.l)).setCell ⟨g3, 9, none⟩ (.int .i64 fx.n)).setCell ⟨g3, 10, none⟩ (.slice s5 j5 o5)).setCell ⟨g3, 11, none⟩ (.slice t5 q5 p5)) = w23 at *
      go_wp2
      go_roundw
      case rel => exact ⟨2, s5, j5, o5, t5, q5, p5, Or.inr (Or.inr (Or.inl ⟨rfl, rfl⟩)), rfl, by rw [hfx.out]; exact G5.out⟩
      case measure => simp [intOf]
    · obtain ⟨f, hf⟩ : ∃ R : Cl, Hid (fk c x q 2 = R) := ⟨_, rfl⟩
      have kc := cF.out 2 (by omega)
      have kb := bF.out 2
      have hfd : (f.d == 0) = true := by rw [← hf.out]; rfl
      rw [hf.out] at kc kb G1
      have KC : Aside _ := kc
      have KB : Aside _ := kb
      clear kc kb cF bF sF
      clear pHk
      have z : ∀ i, wr.cell? ⟨g3, i, none⟩ = #[Value.int .i64 f.p, .int .i64 f.d, .int .i64 f.e.k, .int .i64 f.e.j, .int .i64 f.e.v, .int .i64 f.e.t, .int .i64 f.e.c, .int .i64 f.a, .int .i64 f.l, .int .i64 f.n, .slice s4 j4 o4, .slice t4 q4 p4][i]? := fun i => Joins.cell_of_block (G1.out.at (.head _)) i
      go_wp2_with fail
      refine (KC.out _ _ _ (G1.out.books (.head _))).mono ?_
      rintro e w20 ⟨rfl, hb20⟩
      have G2 : Aside _ := G1.out.later hb20
      clear hb20 G1 z KC
      have z : ∀ i, w20.cell? ⟨g3, i, none⟩ = #[Value.int .i64 f.p, .int .i64 f.d, .int .i64 f.e.k, .int .i64 f.e.j, .int .i64 f.e.v, .int .i64 f.e.t, .int .i64 f.e.c, .int .i64 f.a, .int .i64 f.l, .int .i64 f.n, .slice s4 j4 o4, .slice t4 q4 p4][i]? := fun i => Joins.cell_of_block (G2.out.at (.head _)) i
      have zc : ∀ i, w20.cell? ⟨w.heap.size, i, none⟩ = #[Value.int .i64 c.p, .int .i64 c.d, .int .i64 c.e.k, .int .i64 c.e.j, .int .i64 c.e.v, .int .i64 c.e.t, .int .i64 c.e.c, .int .i64 c.a, .int .i64 c.l, .int .i64 c.n, .slice a1 m1 k1, .slice a2 m2 k2][i]? := fun i => Joins.cell_of_block (G2.out.at (.tail _ (.tail _ (.head _)))) i
      go_wp2_with fail
      refine (KB.out _ _ _ (G2.out.books (.head _)) (G2.out.books (.tail _ (.head _)))).mono ?_
      rintro e w21 ⟨rfl, hb21⟩
      have G3 : Aside _ := G2.out.later hb21
      clear hb21 G2 z zc KB
      go_wp2
      go_roundw
      case rel => exact ⟨2, s4, j4, o4, t4, q4, p4, Or.inr (Or.inr (Or.inr ⟨rfl, rfl⟩)), rfl, by rw [hf.out]; exact G3.out⟩
      case measure => simp [intOf]
    · obtain ⟨f, hf⟩ : ∃ R : Cl, Hid (fk c x q 2 = R) := ⟨_, rfl⟩
      have ks := sF.out
      rw [hf.out] at ks G1
      have KS : Aside _ := ks
      clear ks cF bF sF pHk
      have z : ∀ i, wr.cell? ⟨g3, i, none⟩ = #[Value.int .i64 f.p, .int .i64 f.d, .int .i64 f.e.k, .int .i64 f.e.j, .int .i64 f.e.v, .int .i64 f.e.t, .int .i64 f.e.c, .int .i64 f.a, .int .i64 f.l, .int .i64 f.n, .slice s4 j4 o4, .slice t4 q4 p4][i]? := fun i => Joins.cell_of_block (G1.out.at (.head _)) i
      have zc : ∀ i, wr.cell? ⟨w.heap.size, i, none⟩ = #[Value.int .i64 c.p, .int .i64 c.d, .int .i64 c.e.k, .int .i64 c.e.j, .int .i64 c.e.v, .int .i64 c.e.t, .int .i64 c.e.c, .int .i64 c.a, .int .i64 c.l, .int .i64 c.n, .slice a1 m1 k1, .slice a2 m2 k2][i]? := fun i => Joins.cell_of_block (G1.out.at (.tail _ (.tail _ (.head _)))) i
      go_wp2_with fail
      refine (KS.out _ _ _ (G1.out.books (.head _)) (G1.out.books (.tail _ (.head _)))).mono ?_
      rintro e w20 ⟨rfl, hb20⟩
      have G2 := (G1.out.later hb20).below
      clear hb20 G1 z zc KS
      go_wp2
      go_ret
      exact ⟨rfl, G2⟩

/-- ClientKeeps. -/
theorem clKeeps_any (c : Cl) (x : En) (q0 : Int) (a1 a2 : Option Addr) (m1 k1 m2 k2 : Nat) (w : World) (hb : BkAt w (.slice a1 m1 k1) (.slice a2 m2 k2) c) (hs : Slim c) :
    Calls Try.prog 6 #[c.val (.slice a1 m1 k1) (.slice a2 m2 k2), .int .i64 q0, x.val] w fun e w' => e = .returned (.bool true) ∧ Below w.heap.size w w' := by
  obtain ⟨q, hq, hat⟩ : ∃ q : Int, (0 ≤ q ∧ q ≤ 59) ∧ ∀ W, Calls Try.prog 8 #[.int .i64 q0, .int .i64 60] W fun e w' => e = .returned (.int .i64 q) ∧ w' = W := ⟨atm q0 60, by have := atm_bound q0 60 (by omega); omega, fun W => at_wide q0 60 (by omega) (by omega) W⟩
  by_cases hck : c.ck = 0
  · obtain ⟨RP, eP, hP⟩ : ∃ R n, playOf c x = (R, n) := ⟨_, _, rfl⟩
    have hplay : eP = 0 → IntKind.i64.wrap (c.n + 1) = c.n + 1 ∧ playOf c x = (⟨c.p, c.d, c.e, c.a, c.l, c.n + 1, (app c.js c.rs x).1.1, (app c.js c.rs x).1.2⟩, 0) ∧ (⟨c.p, c.d, c.e, c.a, c.l, c.n + 1, (app c.js c.rs x).1.1, (app c.js c.rs x).1.2⟩ : Cl).ck = 0 := fun h0 => by
      obtain ⟨_, hn, _, he, hk⟩ := play_ok (c := c) (x := x) (by rw [hP]; exact h0)
      rw [he] at hk
      have hg := (Cl.good (Cl.ck_zero.1 hck).1).2.2.2.2
      exact ⟨by rw [IntKind.wrap_i64]; omega, he, hk⟩
    by_cases hd : c.d = 0
    · by_cases hx : x.chk = 0
      · by_cases h0 : eP = 0
        · obtain ⟨hw, hPe, hPk⟩ := hplay h0
          exact ke_ok1 c x q0 q a1 a2 m1 k1 m2 k2 w hb hs hq hat hck _ _ hw hPe hPk hd hx
        · exact ke_ok0 c x q0 q a1 a2 m1 k1 m2 k2 w hb hs hq hat hck RP eP hP (by rw [beq_eq_false_iff_ne]; exact h0) hd hx
      · have hzx : (x.chk != 0) = true := by rw [bne_iff_ne]; exact hx
        by_cases h0 : eP = 0
        · obtain ⟨hw, hPe, hPk⟩ := hplay h0
          exact ke_noent1 c x q0 q a1 a2 m1 k1 m2 k2 w hb hs hq hat hck _ _ hw hPe hPk hd _ rfl hzx
        · exact ke_noent0 c x q0 q a1 a2 m1 k1 m2 k2 w hb hs hq hat hck RP eP hP (by rw [beq_eq_false_iff_ne]; exact h0) hd _ rfl hzx
    · obtain ⟨RF, eF, hF⟩ : ∃ R n, placeOf 0 c q = (R, n) := ⟨_, _, rfl⟩
      have hzF : eF ≠ 0 := fun h => hd ((fill_ok hck hq).1.1 (by rw [hF]; exact h))
      have hdb : (c.d == 0) = false := by rw [beq_eq_false_iff_ne]; exact hd
      have hz1 : (eF == 0) = false := by rw [beq_eq_false_iff_ne]; exact hzF
      have hz2 : (eF != 0) = true := by rw [bne_iff_ne]; exact hzF
      by_cases h0 : eP = 0
      · obtain ⟨hw, hPe, hPk⟩ := hplay h0
        exact ke_busy1 c x q0 q a1 a2 m1 k1 m2 k2 w hb hs hq hat hck _ _ hw hPe hPk hdb RF eF hF hz1 hz2
      · exact ke_busy0 c x q0 q a1 a2 m1 k1 m2 k2 w hb hs hq hat hck RP eP hP (by rw [beq_eq_false_iff_ne]; exact h0) hdb RF eF hF hz1 hz2
  · exact ke_bad c x q0 q a1 a2 m1 k1 m2 k2 w hb hs hq hat _ rfl (by rw [bne_iff_ne]; exact hck)

end Go.Proofs.Ytbokdcdnandgbae
