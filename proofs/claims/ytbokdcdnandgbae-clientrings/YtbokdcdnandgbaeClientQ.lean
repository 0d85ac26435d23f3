/- The walk of ClientRings. -/
import Derived.Test.YtbokdcdnandgbaeClientJ
import Derived.Test.YtbokdcdnandgbaeClientO
import Derived.Deep.CutBlock
namespace Go.Proofs.Ytbokdcdnandgbae
open Go.RowKit
open scoped Classical

set_option linter.unusedSimpArgs false in
set_option maxHeartbeats 8000000 in
set_option maxRecDepth 100000 in
theorem ri_err (c : Cl) (me j tt : Int) (a1 a2 : Option Addr) (m1 k1 m2 k2 : Nat) (w : World) (hb : BkAt w (.slice a1 m1 k1) (.slice a2 m2 k2) c) (RR : Cl) (eR : Int) (hR : ringOf c me j tt = (RR, eR)) (hz : (eR != 0) = true) :
    Calls Try.prog 7 #[c.val (.slice a1 m1 k1) (.slice a2 m2 k2), .int .i64 me, .int .i64 j, .int .i64 tt] w fun e w' => e = .returned (.bool true) ∧ Below w.heap.size w w' := by
  have pR : Aside (∀ W, BkAt W (.slice a1 m1 k1) (.slice a2 m2 k2) c → AnsT 16 #[c.val (.slice a1 m1 k1) (.slice a2 m2 k2), .int .i64 me, .int .i64 j, .int .i64 tt] W (RR, eR)) := fun W hB => by have := cl_ring c me j tt _ _ W hB; rw [hR] at this; exact this
  have H0 : Aside (HeldC w ((w.alloc (boxC c (.slice a1 m1 k1) (.slice a2 m2 k2))).alloc (.cells #[.int .i64 j] 3)) [(w.heap.size + 1, .cells #[.int .i64 j] 3), (w.heap.size, boxC c (.slice a1 m1 k1) (.slice a2 m2 k2))] [((.slice a1 m1 k1), (.slice a2 m2 k2), c)]) := by
    have h0 : HeldC w w [] [((.slice a1 m1 k1), (.slice a2 m2 k2), c)] := ⟨Below.refl _ _, (fun p hp => by cases hp), fun p hp => by
      simp only [List.mem_cons, List.not_mem_nil, or_false] at hp
      subst hp
      exact hb⟩
    have h1 := (h0.boxed (boxC c (.slice a1 m1 k1) (.slice a2 m2 k2))).boxed (.cells #[.int .i64 j] 3)
    rw [World.size_alloc] at h1
    exact h1
  clear hb hR 
  go_enter Try.func7, Try.ntmps7
  go_upto_region 1 with fail
  generalize ((w.alloc (boxC c (.slice a1 m1 k1) (.slice a2 m2 k2))).alloc (.cells #[.int .i64 j] 3)) = w0 at *
  have z : ∀ i, w0.cell? ⟨w.heap.size, i, none⟩ = #[Value.int .i64 c.p, .int .i64 c.d, .int .i64 c.e.k, .int .i64 c.e.j, .int .i64 c.e.v, .int .i64 c.e.t, .int .i64 c.e.c, .int .i64 c.a, .int .i64 c.l, .int .i64 c.n, .slice a1 m1 k1, .slice a2 m2 k2][i]? := fun i => Joins.cell_of_block (H0.out.at (.tail _ (.head _))) i
  have zj : ∀ i, w0.cell? ⟨w.heap.size + 1, i, none⟩ = #[Value.int .i64 j][i]? := fun i => Joins.cell_of_block (H0.out.at (.head _)) i
  go_wp2_with fail
  refine (pR.out _ (H0.out.books (.head _))).mono ?_
  rintro e w1 ⟨u1, u2, rfl, hT1, hb1⟩
  have hT1 : BkAt w1 u1 u2 RR := by first | exact hT1 | exact hT1.1
  have H1 : Aside _ := (H0.out.later hb1).book hT1
  obtain ⟨s1, o1, t1, p1, rfl, rfl⟩ := bk_slices hT1.1 hT1.2
  clear hb1 H0 hT1 z zj pR
  obtain ⟨j1, hj1⟩ : ∃ n, Hid (RR.js.length = n) := ⟨_, rfl⟩
  obtain ⟨q1, hq1⟩ : ∃ n, Hid (RR.rs.length = n) := ⟨_, rfl⟩
  rw [hj1.out, hq1.out] at H1 ⊢
  go_upto_region 2 with fail
  have H2 : Aside _ := H1.out.boxed (boxC RR (.slice s1 j1 o1) (.slice t1 q1 p1))
  clear H1
  generalize w1.alloc (boxC RR (.slice s1 j1 o1) (.slice t1 q1 p1)) = w2 at *
  generalize w1.heap.size = g1 at *
  go_wp2_with fail
  refine (lc_heard _).mono ?_
  rintro e w3 ⟨rfl, hb3⟩
  have H3 : Aside (HeldC w w3 [(g1, boxC RR (.slice s1 j1 o1) (.slice t1 q1 p1)), (w.heap.size + 1, .cells #[.int .i64 j] 3), (w.heap.size, boxC c (.slice a1 m1 k1) (.slice a2 m2 k2))] [((.slice s1 j1 o1), (.slice t1 q1 p1), RR), ((.slice a1 m1 k1), (.slice a2 m2 k2), c)]) := H2.out.later hb3
  clear hb3 H2 
  go_wp2_with fail
  refine (lc_heard _).mono ?_
  rintro e w4 ⟨rfl, hb4⟩
  have H4 : Aside (HeldC w w4 [(g1, boxC RR (.slice s1 j1 o1) (.slice t1 q1 p1)), (w.heap.size + 1, .cells #[.int .i64 j] 3), (w.heap.size, boxC c (.slice a1 m1 k1) (.slice a2 m2 k2))] [((.slice s1 j1 o1), (.slice t1 q1 p1), RR), ((.slice a1 m1 k1), (.slice a2 m2 k2), c)]) := H3.out.later hb4
  clear hb4 H3 
  have HB := H4.out.below
  clear H4
  go_wp2
  go_ret
  exact ⟨rfl, HB⟩

set_option linter.unusedSimpArgs false in
set_option maxHeartbeats 8000000 in
set_option maxRecDepth 100000 in
theorem ri_full (c : Cl) (me j tt : Int) (a1 a2 : Option Addr) (m1 k1 m2 k2 : Nat) (w : World) (hb : BkAt w (.slice a1 m1 k1) (.slice a2 m2 k2) c) (z0 : Jb) (hR : ringOf c me j tt = ((⟨c.p, 1, ⟨3, j, 0, z0.n, me⟩, 0, 0, c.n, c.js, c.rs⟩ : Cl), 0)) (hs : Slim c) (k : Nat) (hm : (dueOf c.js tt).length ≤ most) (hi : idx (fun y => y.i == j) (dueOf c.js tt) = (k : Nat)) (hk : k < (dueOf c.js tt).length) (hz0 : (dueOf c.js tt)[k]? = some z0) (hle : decide (tt < z0.n) = false) (hde : dueErr c.js c.rs tt = 0) (hP : playOf (⟨c.p, 1, ⟨3, j, 0, z0.n, me⟩, 0, 0, c.n, c.js, c.rs⟩ : Cl) (⟨3, j, 0, z0.n, me⟩ : En) = (Cl.zero, 2)) :
    Calls Try.prog 7 #[c.val (.slice a1 m1 k1) (.slice a2 m2 k2), .int .i64 me, .int .i64 j, .int .i64 tt] w fun e w' => e = .returned (.bool true) ∧ Below w.heap.size w w' := by
  have pR : Aside (∀ W, BkAt W (.slice a1 m1 k1) (.slice a2 m2 k2) c → AnsT 16 #[c.val (.slice a1 m1 k1) (.slice a2 m2 k2), .int .i64 me, .int .i64 j, .int .i64 tt] W ((⟨c.p, 1, ⟨3, j, 0, z0.n, me⟩, 0, 0, c.n, c.js, c.rs⟩ : Cl), 0)) := fun W hB => by have := cl_ring c me j tt _ _ W hB; rw [hR] at this; exact this
  have pD : Aside (∀ W, BkAt W (.slice a1 m1 k1) (.slice a2 m2 k2) c → Calls Try.prog 35 #[.agg #[(.slice a1 m1 k1), (.slice a2 m2 k2)], .int .i64 tt] W fun e w' => ∃ ua n uc, e = .returned (.tuple #[.slice ua n uc, .int .i64 0]) ∧ Aside (JobSl w' (.slice ua n uc) (dueOf c.js tt)) ∧ Below W.heap.size W w') := fun W hB =>
    (due_any (.slice a1 m1 k1) (.slice a2 m2 k2) c.js c.rs tt W hB.1 hB.2).mono fun e w' ⟨u, g1, g2, g3, _⟩ => by
      rw [hde] at g1 g2
      rw [if_pos rfl] at g2
      obtain ⟨ua, uc, rfl⟩ : ∃ ua uc, u = .slice ua (dueOf c.js tt).length uc := by
        obtain ⟨ua, uc, e, _⟩ := g2
        exact ⟨ua, uc, e⟩
      exact ⟨ua, _, uc, g1, g2, g3⟩
  have pN : Aside (∀ W, BkAt W (.slice a1 m1 k1) (.slice a2 m2 k2) c → Calls Try.prog 38 #[.agg #[(.slice a1 m1 k1), (.slice a2 m2 k2)], .int .i64 tt] W fun e w' => e = .returned (.tuple #[.int .i64 (countOf c.js tt), .int .i64 0]) ∧ Below W.heap.size W w') := fun W hB => by
    have := count_any (.slice a1 m1 k1) (.slice a2 m2 k2) c.js c.rs tt W hB.1 hB.2
    rw [if_pos hde, hde] at this
    exact this
  have pS : Aside (∀ W u v, BkAt W (.slice a1 m1 k1) (.slice a2 m2 k2) c → BkAt W u v (⟨c.p, 1, ⟨3, j, 0, z0.n, me⟩, 0, 0, c.n, c.js, c.rs⟩ : Cl) → Calls Try.prog 34 #[.agg #[(.slice a1 m1 k1), (.slice a2 m2 k2)], .agg #[u, v]] W fun e w' => e = .returned (.bool true) ∧ Below W.heap.size W w') := fun W u v hB hC => by
    have := bk_same (.slice a1 m1 k1) (.slice a2 m2 k2) u v c.js c.js c.rs c.rs W hB.1 hB.2 hC.1 hC.2 hs.1 hs.2
    rw [decide_eq_true rfl, decide_eq_true rfl] at this
    exact this
  have pP : Aside (∀ W u v, BkAt W u v (⟨c.p, 1, ⟨3, j, 0, z0.n, me⟩, 0, 0, c.n, c.js, c.rs⟩ : Cl) → AnsT 29 #[(⟨c.p, 1, ⟨3, j, 0, z0.n, me⟩, 0, 0, c.n, c.js, c.rs⟩ : Cl).val u v, (⟨3, j, 0, z0.n, me⟩ : En).val] W (Cl.zero, 2)) := fun W u v hB => by have := cl_play (⟨c.p, 1, ⟨3, j, 0, z0.n, me⟩, 0, 0, c.n, c.js, c.rs⟩ : Cl) (⟨3, j, 0, z0.n, me⟩ : En) u v W hB; rw [hP] at this; exact this
  have eg : ∀ args w, (callFunc 37 args).run Try.prog w = .ok (.enter 37 args) w := enters_of Try.func37 (by kernel_rfl) rfl
  have pI : Aside (∀ W ua n uc, W.heap[w.heap.size + 1]? = some (.cells #[.int .i64 j] 3) → JobSl W (.slice ua n uc) (dueOf c.js tt) → Calls Try.prog 36 #[.slice ua n uc, .func (.func 37) #[] #[.pointer (some ⟨w.heap.size + 1, 0, none⟩)]] W fun e w' => e = .returned (.int .i64 (k : Nat)) ∧ Below W.heap.size W w') := fun W ua n uc hj hJ => by
    have := idxFJ (fun y => y.i == j) 37 #[.pointer (some ⟨w.heap.size + 1, 0, none⟩)] eg (.slice ua n uc) (dueOf c.js tt) W hJ hm (lring_pred j (w.heap.size + 1) W (heap_lt hj) (Joins.cell_of_block hj 0))
    rw [hi] at this
    exact this
  have HZ : Aside ((dueOf c.js tt)[k]? = some z0) := hz0
  have H0 : Aside (HeldC w ((w.alloc (boxC c (.slice a1 m1 k1) (.slice a2 m2 k2))).alloc (.cells #[.int .i64 j] 3)) [(w.heap.size + 1, .cells #[.int .i64 j] 3), (w.heap.size, boxC c (.slice a1 m1 k1) (.slice a2 m2 k2))] [((.slice a1 m1 k1), (.slice a2 m2 k2), c)]) := by
    have h0 : HeldC w w [] [((.slice a1 m1 k1), (.slice a2 m2 k2), c)] := ⟨Below.refl _ _, (fun p hp => by cases hp), fun p hp => by
      simp only [List.mem_cons, List.not_mem_nil, or_false] at hp
      subst hp
      exact hb⟩
    have h1 := (h0.boxed (boxC c (.slice a1 m1 k1) (.slice a2 m2 k2))).boxed (.cells #[.int .i64 j] 3)
    rw [World.size_alloc] at h1
    exact h1
  clear hb hR hm hi hz0 hs hde hP eg
  go_enter Try.func7, Try.ntmps7
  go_upto_region 1 with fail
  generalize ((w.alloc (boxC c (.slice a1 m1 k1) (.slice a2 m2 k2))).alloc (.cells #[.int .i64 j] 3)) = w0 at *
  have z : ∀ i, w0.cell? ⟨w.heap.size, i, none⟩ = #[Value.int .i64 c.p, .int .i64 c.d, .int .i64 c.e.k, .int .i64 c.e.j, .int .i64 c.e.v, .int .i64 c.e.t, .int .i64 c.e.c, .int .i64 c.a, .int .i64 c.l, .int .i64 c.n, .slice a1 m1 k1, .slice a2 m2 k2][i]? := fun i => Joins.cell_of_block (H0.out.at (.tail _ (.head _))) i
  have zj : ∀ i, w0.cell? ⟨w.heap.size + 1, i, none⟩ = #[Value.int .i64 j][i]? := fun i => Joins.cell_of_block (H0.out.at (.head _)) i
  go_wp2_with fail
  refine (pR.out _ (H0.out.books (.head _))).mono ?_
  rintro e w1 ⟨u1, u2, rfl, hT1, hb1⟩
  have hT1 : BkAt w1 u1 u2 (⟨c.p, 1, ⟨3, j, 0, z0.n, me⟩, 0, 0, c.n, c.js, c.rs⟩ : Cl) := by first | exact hT1 | exact hT1.1
  have H1 : Aside _ := (H0.out.later hb1).book hT1
  obtain ⟨s1, o1, t1, p1, rfl, rfl⟩ := bk_slices hT1.1 hT1.2
  clear hb1 H0 hT1 z zj pR
  obtain ⟨j1, hj1⟩ : ∃ n, Hid (c.js.length = n) := ⟨_, rfl⟩
  obtain ⟨q1, hq1⟩ : ∃ n, Hid (c.rs.length = n) := ⟨_, rfl⟩
  rw [hj1.out, hq1.out] at H1 ⊢
  go_upto_region 2 with fail
  have H2 : Aside _ := H1.out.boxed (boxC (⟨c.p, 1, ⟨3, j, 0, z0.n, me⟩, 0, 0, c.n, c.js, c.rs⟩ : Cl) (.slice s1 j1 o1) (.slice t1 q1 p1))
  clear H1
  generalize w1.alloc (boxC (⟨c.p, 1, ⟨3, j, 0, z0.n, me⟩, 0, 0, c.n, c.js, c.rs⟩ : Cl) (.slice s1 j1 o1) (.slice t1 q1 p1)) = w2 at *
  generalize w1.heap.size = g1 at *
  go_wp2_with fail
  refine (lc_heard _).mono ?_
  rintro e w3 ⟨rfl, hb3⟩
  have H3 : Aside (HeldC w w3 [(g1, boxC (⟨c.p, 1, ⟨3, j, 0, z0.n, me⟩, 0, 0, c.n, c.js, c.rs⟩ : Cl) (.slice s1 j1 o1) (.slice t1 q1 p1)), (w.heap.size + 1, .cells #[.int .i64 j] 3), (w.heap.size, boxC c (.slice a1 m1 k1) (.slice a2 m2 k2))] [((.slice s1 j1 o1), (.slice t1 q1 p1), (⟨c.p, 1, ⟨3, j, 0, z0.n, me⟩, 0, 0, c.n, c.js, c.rs⟩ : Cl)), ((.slice a1 m1 k1), (.slice a2 m2 k2), c)]) := H2.out.later hb3
  clear hb3 H2 
  have z : ∀ i, w3.cell? ⟨w.heap.size, i, none⟩ = #[Value.int .i64 c.p, .int .i64 c.d, .int .i64 c.e.k, .int .i64 c.e.j, .int .i64 c.e.v, .int .i64 c.e.t, .int .i64 c.e.c, .int .i64 c.a, .int .i64 c.l, .int .i64 c.n, .slice a1 m1 k1, .slice a2 m2 k2][i]? := fun i => Joins.cell_of_block (H3.out.at (.tail _ (.tail _ (.head _)))) i
  go_wp2_with fail
  refine (pD.out _ (H3.out.books (.tail _ (.head _)))).mono ?_
  rintro e w4 ⟨ua, nn, uc, rfl, JL, hb4⟩
  have H4 : Aside _ := H3.out.later hb4
  have hlen : (dueOf c.js tt).length = nn := JL.out.len
  rw [hlen] at hk
  clear hb4 H3 z pD hlen
  go_wp2_with fail
  refine (pI.out _ _ _ _ (H4.out.at (.tail _ (.head _))) JL.out).mono ?_
  rintro e w5 ⟨rfl, hb5⟩
  have H5 : Aside _ := H4.out.later hb5
  have J5 : JobSl w5 (.slice ua nn uc) (dueOf c.js tt) := JL.out.later hb5
  obtain ⟨b, off, rfl, hE⟩ := SlOf.at (cs := Jb.cells) (k := 3) J5 (by omega)
  have hrow : w5.cell? ⟨b, off + k * 3 + 2, none⟩ = some (.int .i64 z0.n) := hE k z0 HZ.out 2 _ rfl
  have hkn : ¬ ((k : Int) < 0) := by omega
  obtain ⟨P, hP0, hPs, hPH⟩ := heldC_with (Q := fun W => W.cell? ⟨b, off + k * 3 + 2, none⟩ = some (.int .i64 z0.n)) (fun W W' h hb => cell_later hb h) H5.out hrow
  have PS : Aside _ := hPs
  have PH : Aside _ := hPH
  have PB : Aside (∀ W, P W → HeldC w W [(g1, boxC (⟨c.p, 1, ⟨3, j, 0, z0.n, me⟩, 0, 0, c.n, c.js, c.rs⟩ : Cl) (.slice s1 j1 o1) (.slice t1 q1 p1)), (w.heap.size + 1, .cells #[.int .i64 j] 3), (w.heap.size, boxC c (.slice a1 m1 k1) (.slice a2 m2 k2))] [((.slice s1 j1 o1), (.slice t1 q1 p1), (⟨c.p, 1, ⟨3, j, 0, z0.n, me⟩, 0, 0, c.n, c.js, c.rs⟩ : Cl)), ((.slice a1 m1 k1), (.slice a2 m2 k2), c)]) := fun W h => (hPH W h).1
  have hS0 : P w5.drew := hPs _ _ hP0 (Below.refl _ _).drew
  have hne := fun W => neq_entry 3 j 0 z0.n me 3 j 0 z0.n me W
  rw [show unlike 3 j 0 z0.n me 3 j 0 z0.n me = false from ne_self (⟨3, j, 0, z0.n, me⟩ : En)] at hne
  clear hb5 H4 H5 JL pI HZ J5 hE hrow hP0 hPs hPH
  go_upto_region 6 with fail
  refine wp_region_held_drew (S := P) (by kernel_rfl) (hS0) (fun hHeld => ?_)
  clear hS0
  generalize w5.drew = X at *
  refine wpAnyH_take (i := 0) (oi := ?oi0) (v := ?v0) ?hi0 ?hs0 ?hf0 ?hr0 ?hQ0 (Or.inl ⟨?hw0, ?hy0⟩) (by assumption) ?h0
  case hi0 => (simp only [List.getElem?_toArray, List.getElem?_cons_succ, List.getElem?_cons_zero]; rfl)
  case hs0 => kernel_rfl
  case hf0 => kernel_rfl
  case hr0 => kernel_rfl
  case hw0 => rfl
  case hy0 => (intro w0 hSw; (try dsimp only at hSw); go_simp; first | done | with_reducible rfl)
  case hQ0 => exact fun _ _ _ h => h
  try simp only [Act.put, List.setIfInBounds_toArray, List.set_cons_zero, List.set_cons_succ]
  refine wpAnyH_take (i := 1) (oi := ?oi1) (v := ?v1) ?hi1 ?hs1 ?hf1 ?hr1 ?hQ1 (Or.inl ⟨?hw1, ?hy1⟩) (by assumption) ?h1
  case hi1 => (simp only [List.getElem?_toArray, List.getElem?_cons_succ, List.getElem?_cons_zero]; rfl)
  case hs1 => kernel_rfl
  case hf1 => kernel_rfl
  case hr1 => kernel_rfl
  case hw1 => rfl
  case hy1 => (intro w0 hSw; (try dsimp only at hSw); go_simp; first | done | with_reducible rfl)
  case hQ1 => exact fun _ _ _ h => h
  try simp only [Act.put, List.setIfInBounds_toArray, List.set_cons_zero, List.set_cons_succ]
  refine wpAnyH_take (i := 2) (oi := ?oi2) (v := ?v2) ?hi2 ?hs2 ?hf2 ?hr2 ?hQ2 (Or.inl ⟨?hw2, ?hy2⟩) (by assumption) ?h2
  case hi2 => (simp only [List.getElem?_toArray, List.getElem?_cons_succ, List.getElem?_cons_zero]; rfl)
  case hs2 => kernel_rfl
  case hf2 => kernel_rfl
  case hr2 => kernel_rfl
  case hw2 => rfl
  case hy2 => (intro w0 hSw; (try dsimp only at hSw); go_simp; first | done | with_reducible rfl)
  case hQ2 => exact fun _ _ _ h => h
  try simp only [Act.put, List.setIfInBounds_toArray, List.set_cons_zero, List.set_cons_succ]
  refine wpAnyH_take (i := 3) (oi := ?oi3) (v := ?v3) ?hi3 ?hs3 ?hf3 ?hr3 ?hQ3 (Or.inl ⟨?hw3, ?hy3⟩) (by assumption) ?h3
  case hi3 => (simp only [List.getElem?_toArray, List.getElem?_cons_succ, List.getElem?_cons_zero]; rfl)
  case hs3 => kernel_rfl
  case hf3 => kernel_rfl
  case hr3 => kernel_rfl
  case hw3 => rfl
  case hy3 => (intro w0 hSw; (try dsimp only at hSw); go_simp; first | done | with_reducible rfl)
  case hQ3 => exact fun _ _ _ h => h
  try simp only [Act.put, List.setIfInBounds_toArray, List.set_cons_zero, List.set_cons_succ]
  refine wpAnyH_take (i := 4) (oi := ?oi4) (v := ?v4) ?hi4 ?hs4 ?hf4 ?hr4 ?hQ4 (Or.inl ⟨?hw4, ?hy4⟩) (by assumption) ?h4
  case hi4 => (simp only [List.getElem?_toArray, List.getElem?_cons_succ, List.getElem?_cons_zero]; rfl)
  case hs4 => kernel_rfl
  case hf4 => kernel_rfl
  case hr4 => kernel_rfl
  case hw4 => rfl
  case hy4 => (intro w0 hSw; (try dsimp only at hSw); go_simp; first | done | with_reducible rfl)
  case hQ4 => exact fun _ _ _ h => h
  try simp only [Act.put, List.setIfInBounds_toArray, List.set_cons_zero, List.set_cons_succ]
  refine wpAnyH_take (i := 5) (oi := ?oi5) (v := ?v5) ?hi5 ?hs5 ?hf5 ?hr5 ?hQ5 (Or.inl ⟨?hw5, ?hy5⟩) (by assumption) ?h5
  case hi5 => (simp only [List.getElem?_toArray, List.getElem?_cons_succ, List.getElem?_cons_zero]; rfl)
  case hs5 => kernel_rfl
  case hf5 => kernel_rfl
  case hr5 => kernel_rfl
  case hw5 => rfl
  case hy5 => (intro w0 hSw; (try dsimp only at hSw); go_simp; first | done | with_reducible rfl)
  case hQ5 => exact fun _ _ _ h => h
  try simp only [Act.put, List.setIfInBounds_toArray, List.set_cons_zero, List.set_cons_succ]
  refine wpAnyH_take (i := 6) (oi := ?oi6) (v := ?v6) ?hi6 ?hs6 ?hf6 ?hr6 ?hQ6 (Or.inl ⟨?hw6, ?hy6⟩) (by assumption) ?h6
  case hi6 => (simp only [List.getElem?_toArray, List.getElem?_cons_succ, List.getElem?_cons_zero]; rfl)
  case hs6 => kernel_rfl
  case hf6 => kernel_rfl
  case hr6 => kernel_rfl
  case hw6 => rfl
  case hy6 => (intro w0 hSw; (try dsimp only at hSw); go_simp; first | done | with_reducible rfl)
  case hQ6 => exact fun _ _ _ h => h
  try simp only [Act.put, List.setIfInBounds_toArray, List.set_cons_zero, List.set_cons_succ]
  refine wpAnyH_take (i := 7) (oi := ?oi7) (v := ?v7) ?hi7 ?hs7 ?hf7 ?hr7 ?hQ7 (Or.inl ⟨?hw7, ?hy7⟩) (by assumption) ?h7
  case hi7 => (simp only [List.getElem?_toArray, List.getElem?_cons_succ, List.getElem?_cons_zero]; rfl)
  case hs7 => kernel_rfl
  case hf7 => kernel_rfl
  case hr7 => kernel_rfl
  case hw7 => rfl
  case hy7 => (intro w0 hSw; (try dsimp only at hSw); go_simp; first | done | with_reducible rfl)
  case hQ7 => exact fun _ _ _ h => h
  try simp only [Act.put, List.setIfInBounds_toArray, List.set_cons_zero, List.set_cons_succ]
  refine wpAnyH_take (i := 8) (oi := ?oi8) (v := ?v8) ?hi8 ?hs8 ?hf8 ?hr8 ?hQ8 (Or.inl ⟨?hw8, ?hy8⟩) (by assumption) ?h8
  case hi8 => (simp only [List.getElem?_toArray, List.getElem?_cons_succ, List.getElem?_cons_zero]; rfl)
  case hs8 => kernel_rfl
  case hf8 => kernel_rfl
  case hr8 => kernel_rfl
  case hw8 => rfl
  case hy8 => (intro w0 hSw; have z := (show ∀ i, w0.cell? ⟨g1, i, none⟩ = #[Value.int .i64 (⟨c.p, 1, ⟨3, j, 0, z0.n, me⟩, 0, 0, c.n, c.js, c.rs⟩ : Cl).p, .int .i64 (⟨c.p, 1, ⟨3, j, 0, z0.n, me⟩, 0, 0, c.n, c.js, c.rs⟩ : Cl).d, .int .i64 (⟨c.p, 1, ⟨3, j, 0, z0.n, me⟩, 0, 0, c.n, c.js, c.rs⟩ : Cl).e.k, .int .i64 (⟨c.p, 1, ⟨3, j, 0, z0.n, me⟩, 0, 0, c.n, c.js, c.rs⟩ : Cl).e.j, .int .i64 (⟨c.p, 1, ⟨3, j, 0, z0.n, me⟩, 0, 0, c.n, c.js, c.rs⟩ : Cl).e.v, .int .i64 (⟨c.p, 1, ⟨3, j, 0, z0.n, me⟩, 0, 0, c.n, c.js, c.rs⟩ : Cl).e.t, .int .i64 (⟨c.p, 1, ⟨3, j, 0, z0.n, me⟩, 0, 0, c.n, c.js, c.rs⟩ : Cl).e.c, .int .i64 (⟨c.p, 1, ⟨3, j, 0, z0.n, me⟩, 0, 0, c.n, c.js, c.rs⟩ : Cl).a, .int .i64 (⟨c.p, 1, ⟨3, j, 0, z0.n, me⟩, 0, 0, c.n, c.js, c.rs⟩ : Cl).l, .int .i64 (⟨c.p, 1, ⟨3, j, 0, z0.n, me⟩, 0, 0, c.n, c.js, c.rs⟩ : Cl).n, .slice s1 j1 o1, .slice t1 q1 p1][i]? from fun i => Joins.cell_of_block ((PB.out w0 hSw).at (.head _)) i); clear hSw; go_simp; first | done | with_reducible rfl)
  case hQ8 => exact fun _ _ _ h => h
  try simp only [Act.put, List.setIfInBounds_toArray, List.set_cons_zero, List.set_cons_succ]
  refine wpAnyH_take (i := 9) (oi := ?oi9) (v := ?v9) ?hi9 ?hs9 ?hf9 ?hr9 ?hQ9 (Or.inl ⟨?hw9, ?hy9⟩) (by assumption) ?h9
  case hi9 => (simp only [List.getElem?_toArray, List.getElem?_cons_succ, List.getElem?_cons_zero]; rfl)
  case hs9 => kernel_rfl
  case hf9 => kernel_rfl
  case hr9 => kernel_rfl
  case hw9 => rfl
  case hy9 => (intro w0 hSw; (try dsimp only at hSw); go_simp; first | done | with_reducible rfl)
  case hQ9 => exact fun _ _ _ h => h
  try simp only [Act.put, List.setIfInBounds_toArray, List.set_cons_zero, List.set_cons_succ]
  refine wpAnyH_take (i := 10) (oi := ?oi10) (v := ?v10) ?hi10 ?hs10 ?hf10 ?hr10 ?hQ10 (Or.inl ⟨?hw10, ?hy10⟩) (by assumption) ?h10
  case hi10 => (simp only [List.getElem?_toArray, List.getElem?_cons_succ, List.getElem?_cons_zero]; rfl)
  case hs10 => kernel_rfl
  case hf10 => kernel_rfl
  case hr10 => kernel_rfl
  case hw10 => rfl
  case hy10 => (intro w0 hSw; (try dsimp only at hSw); go_simp; first | done | with_reducible rfl)
  case hQ10 => exact fun _ _ _ h => h
  try simp only [Act.put, List.setIfInBounds_toArray, List.set_cons_zero, List.set_cons_succ]
  refine wpAnyH_take (i := 11) (oi := ?oi11) (v := ?v11) ?hi11 ?hs11 ?hf11 ?hr11 ?hQ11 (Or.inl ⟨?hw11, ?hy11⟩) (by assumption) ?h11
  case hi11 => (simp only [List.getElem?_toArray, List.getElem?_cons_succ, List.getElem?_cons_zero]; rfl)
  case hs11 => kernel_rfl
  case hf11 => kernel_rfl
  case hr11 => kernel_rfl
  case hw11 => rfl
  case hy11 => (intro w0 hSw; (try dsimp only at hSw); go_simp; first | done | with_reducible rfl)
  case hQ11 => exact fun _ _ _ h => h
  try simp only [Act.put, List.setIfInBounds_toArray, List.set_cons_zero, List.set_cons_succ]
  refine wpAnyH_take (i := 12) (oi := ?oi12) (v := ?v12) ?hi12 ?hs12 ?hf12 ?hr12 ?hQ12 (Or.inl ⟨?hw12, ?hy12⟩) (by assumption) ?h12
  case hi12 => (simp only [List.getElem?_toArray, List.getElem?_cons_succ, List.getElem?_cons_zero]; rfl)
  case hs12 => kernel_rfl
  case hf12 => kernel_rfl
  case hr12 => kernel_rfl
  case hw12 => rfl
  case hy12 => (intro w0 hSw; (try dsimp only at hSw); go_simp; first | done | with_reducible rfl)
  case hQ12 => exact fun _ _ _ h => h
  try simp only [Act.put, List.setIfInBounds_toArray, List.set_cons_zero, List.set_cons_succ]
  refine wpAnyH_take (i := 13) (oi := ?oi13) (v := ?v13) ?hi13 ?hs13 ?hf13 ?hr13 ?hQ13 (Or.inl ⟨?hw13, ?hy13⟩) (by assumption) ?h13
  case hi13 => (simp only [List.getElem?_toArray, List.getElem?_cons_succ, List.getElem?_cons_zero]; rfl)
  case hs13 => kernel_rfl
  case hf13 => kernel_rfl
  case hr13 => kernel_rfl
  case hw13 => rfl
  case hy13 => (intro w0 hSw; have z := (show ∀ i, w0.cell? ⟨g1, i, none⟩ = #[Value.int .i64 (⟨c.p, 1, ⟨3, j, 0, z0.n, me⟩, 0, 0, c.n, c.js, c.rs⟩ : Cl).p, .int .i64 (⟨c.p, 1, ⟨3, j, 0, z0.n, me⟩, 0, 0, c.n, c.js, c.rs⟩ : Cl).d, .int .i64 (⟨c.p, 1, ⟨3, j, 0, z0.n, me⟩, 0, 0, c.n, c.js, c.rs⟩ : Cl).e.k, .int .i64 (⟨c.p, 1, ⟨3, j, 0, z0.n, me⟩, 0, 0, c.n, c.js, c.rs⟩ : Cl).e.j, .int .i64 (⟨c.p, 1, ⟨3, j, 0, z0.n, me⟩, 0, 0, c.n, c.js, c.rs⟩ : Cl).e.v, .int .i64 (⟨c.p, 1, ⟨3, j, 0, z0.n, me⟩, 0, 0, c.n, c.js, c.rs⟩ : Cl).e.t, .int .i64 (⟨c.p, 1, ⟨3, j, 0, z0.n, me⟩, 0, 0, c.n, c.js, c.rs⟩ : Cl).e.c, .int .i64 (⟨c.p, 1, ⟨3, j, 0, z0.n, me⟩, 0, 0, c.n, c.js, c.rs⟩ : Cl).a, .int .i64 (⟨c.p, 1, ⟨3, j, 0, z0.n, me⟩, 0, 0, c.n, c.js, c.rs⟩ : Cl).l, .int .i64 (⟨c.p, 1, ⟨3, j, 0, z0.n, me⟩, 0, 0, c.n, c.js, c.rs⟩ : Cl).n, .slice s1 j1 o1, .slice t1 q1 p1][i]? from fun i => Joins.cell_of_block ((PB.out w0 hSw).at (.head _)) i); clear hSw; go_simp; first | done | with_reducible rfl)
  case hQ13 => exact fun _ _ _ h => h
  try simp only [Act.put, List.setIfInBounds_toArray, List.set_cons_zero, List.set_cons_succ]
  refine wpAnyH_take (i := 14) (oi := ?oi14) (v := ?v14) ?hi14 ?hs14 ?hf14 ?hr14 ?hQ14 (Or.inl ⟨?hw14, ?hy14⟩) (by assumption) ?h14
  case hi14 => (simp only [List.getElem?_toArray, List.getElem?_cons_succ, List.getElem?_cons_zero]; rfl)
  case hs14 => kernel_rfl
  case hf14 => kernel_rfl
  case hr14 => kernel_rfl
  case hw14 => rfl
  case hy14 => (intro w0 hSw; have z := (show ∀ i, w0.cell? ⟨w.heap.size + 1, i, none⟩ = #[Value.int .i64 j][i]? from fun i => Joins.cell_of_block ((PB.out w0 hSw).at (.tail _ (.head _))) i); clear hSw; go_simp; first | done | with_reducible rfl)
  case hQ14 => exact fun _ _ _ h => h
  try simp only [Act.put, List.setIfInBounds_toArray, List.set_cons_zero, List.set_cons_succ]
  refine wpAnyH_take (i := 15) (oi := ?oi15) (v := ?v15) ?hi15 ?hs15 ?hf15 ?hr15 ?hQ15 (Or.inl ⟨?hw15, ?hy15⟩) (by assumption) ?h15
  case hi15 => (simp only [List.getElem?_toArray, List.getElem?_cons_succ, List.getElem?_cons_zero]; rfl)
  case hs15 => kernel_rfl
  case hf15 => kernel_rfl
  case hr15 => kernel_rfl
  case hw15 => rfl
  case hy15 => (intro w0 hSw; (try dsimp only at hSw); go_simp; first | done | with_reducible rfl)
  case hQ15 => exact fun _ _ _ h => h
  try simp only [Act.put, List.setIfInBounds_toArray, List.set_cons_zero, List.set_cons_succ]
  refine wpAnyH_take (i := 16) (oi := ?oi16) (v := ?v16) ?hi16 ?hs16 ?hf16 ?hr16 ?hQ16 (Or.inl ⟨?hw16, ?hy16⟩) (by assumption) ?h16
  case hi16 => (simp only [List.getElem?_toArray, List.getElem?_cons_succ, List.getElem?_cons_zero]; rfl)
  case hs16 => kernel_rfl
  case hf16 => kernel_rfl
  case hr16 => kernel_rfl
  case hw16 => rfl
  case hy16 => (intro w0 hSw; (try dsimp only at hSw); go_simp; first | done | with_reducible rfl)
  case hQ16 => exact fun _ _ _ h => h
  try simp only [Act.put, List.setIfInBounds_toArray, List.set_cons_zero, List.set_cons_succ]
  refine wpAnyH_take (i := 17) (oi := ?oi17) (v := ?v17) ?hi17 ?hs17 ?hf17 ?hr17 ?hQ17 (Or.inl ⟨?hw17, ?hy17⟩) (by assumption) ?h17
  case hi17 => (simp only [List.getElem?_toArray, List.getElem?_cons_succ, List.getElem?_cons_zero]; rfl)
  case hs17 => kernel_rfl
  case hf17 => kernel_rfl
  case hr17 => kernel_rfl
  case hw17 => rfl
  case hy17 => (intro w0 hSw; (try dsimp only at hSw); go_simp; first | done | with_reducible rfl)
  case hQ17 => exact fun _ _ _ h => h
  try simp only [Act.put, List.setIfInBounds_toArray, List.set_cons_zero, List.set_cons_succ]
  refine wpAnyH_take (i := 18) (oi := ?oi18) (v := ?v18) ?hi18 ?hs18 ?hf18 ?hr18 ?hQ18 (Or.inl ⟨?hw18, ?hy18⟩) (by assumption) ?h18
  case hi18 => (simp only [List.getElem?_toArray, List.getElem?_cons_succ, List.getElem?_cons_zero]; rfl)
  case hs18 => kernel_rfl
  case hf18 => kernel_rfl
  case hr18 => kernel_rfl
  case hw18 => rfl
  case hy18 => (intro w0 hSw; (try dsimp only at hSw); go_simp; first | done | with_reducible rfl)
  case hQ18 => exact fun _ _ _ h => h
  try simp only [Act.put, List.setIfInBounds_toArray, List.set_cons_zero, List.set_cons_succ]
  refine wpAnyH_take (i := 19) (oi := ?oi19) (v := ?v19) ?hi19 ?hs19 ?hf19 ?hr19 ?hQ19 (Or.inl ⟨?hw19, ?hy19⟩) (by assumption) ?h19
  case hi19 => (simp only [List.getElem?_toArray, List.getElem?_cons_succ, List.getElem?_cons_zero]; rfl)
  case hs19 => kernel_rfl
  case hf19 => kernel_rfl
  case hr19 => kernel_rfl
  case hw19 => rfl
  case hy19 => (intro w0 hSw; have z := (PH.out w0 hSw).2; clear hSw; go_simp; first | done | with_reducible rfl)
  case hQ19 => exact fun _ _ _ h => h
  try simp only [Act.put, List.setIfInBounds_toArray, List.set_cons_zero, List.set_cons_succ]
  refine wpAnyH_take (i := 20) (oi := ?oi20) (v := ?v20) ?hi20 ?hs20 ?hf20 ?hr20 ?hQ20 (Or.inl ⟨?hw20, ?hy20⟩) (by assumption) ?h20
  case hi20 => (simp only [List.getElem?_toArray, List.getElem?_cons_succ, List.getElem?_cons_zero]; rfl)
  case hs20 => kernel_rfl
  case hf20 => kernel_rfl
  case hr20 => kernel_rfl
  case hw20 => rfl
  case hy20 => (intro w0 hSw; (try dsimp only at hSw); go_simp; first | done | with_reducible rfl)
  case hQ20 => exact fun _ _ _ h => h
  try simp only [Act.put, List.setIfInBounds_toArray, List.set_cons_zero, List.set_cons_succ]
  refine wpAnyH_take (i := 21) (oi := ?oi21) (v := ?v21) ?hi21 ?hs21 ?hf21 ?hr21 ?hQ21 (Or.inl ⟨?hw21, ?hy21⟩) (by assumption) ?h21
  case hi21 => (simp only [List.getElem?_toArray, List.getElem?_cons_succ, List.getElem?_cons_zero]; rfl)
  case hs21 => kernel_rfl
  case hf21 => kernel_rfl
  case hr21 => kernel_rfl
  case hw21 => rfl
  case hy21 => (intro w0 hSw; (try dsimp only at hSw); go_simp; first | done | with_reducible rfl)
  case hQ21 => exact fun _ _ _ h => h
  try simp only [Act.put, List.setIfInBounds_toArray, List.set_cons_zero, List.set_cons_succ]
  refine wpAnyH_take (i := 22) (oi := ?oi22) (v := ?v22) ?hi22 ?hs22 ?hf22 ?hr22 ?hQ22 (Or.inl ⟨?hw22, ?hy22⟩) (by assumption) ?h22
  case hi22 => (simp only [List.getElem?_toArray, List.getElem?_cons_succ, List.getElem?_cons_zero]; rfl)
  case hs22 => kernel_rfl
  case hf22 => kernel_rfl
  case hr22 => kernel_rfl
  case hw22 => rfl
  case hy22 => (intro w0 hSw; (try dsimp only at hSw); go_simp; first | done | with_reducible rfl)
  case hQ22 => exact fun _ _ _ h => h
  try simp only [Act.put, List.setIfInBounds_toArray, List.set_cons_zero, List.set_cons_succ]
  refine wpAnyH_take (i := 23) (oi := ?oi23) (v := ?v23) ?hi23 ?hs23 ?hf23 ?hr23 ?hQ23 (Or.inl ⟨?hw23, ?hy23⟩) (by assumption) ?h23
  case hi23 => (simp only [List.getElem?_toArray, List.getElem?_cons_succ, List.getElem?_cons_zero]; rfl)
  case hs23 => kernel_rfl
  case hf23 => kernel_rfl
  case hr23 => kernel_rfl
  case hw23 => rfl
  case hy23 => (intro w0 hSw; (try dsimp only at hSw); go_simp; first | done | with_reducible rfl)
  case hQ23 => exact fun _ _ _ h => h
  try simp only [Act.put, List.setIfInBounds_toArray, List.set_cons_zero, List.set_cons_succ]
  refine wpAnyH_take (i := 24) (oi := ?oi24) (v := ?v24) ?hi24 ?hs24 ?hf24 ?hr24 ?hQ24 (Or.inl ⟨?hw24, ?hy24⟩) (by assumption) ?h24
  case hi24 => (simp only [List.getElem?_toArray, List.getElem?_cons_succ, List.getElem?_cons_zero]; rfl)
  case hs24 => kernel_rfl
  case hf24 => kernel_rfl
  case hr24 => kernel_rfl
  case hw24 => rfl
  case hy24 => (intro w0 hSw; (try dsimp only at hSw); go_simp; first | done | with_reducible rfl)
  case hQ24 => exact fun _ _ _ h => h
  try simp only [Act.put, List.setIfInBounds_toArray, List.set_cons_zero, List.set_cons_succ]
  refine wpAnyH_take (i := 25) (oi := ?oi25) (v := ?v25) ?hi25 ?hs25 ?hf25 ?hr25 ?hQ25 (Or.inl ⟨?hw25, ?hy25⟩) (by assumption) ?h25
  case hi25 => (simp only [List.getElem?_toArray, List.getElem?_cons_succ, List.getElem?_cons_zero]; rfl)
  case hs25 => kernel_rfl
  case hf25 => kernel_rfl
  case hr25 => kernel_rfl
  case hw25 => rfl
  case hy25 => (intro w0 hSw; (try dsimp only at hSw); go_simp; first | done | with_reducible rfl)
  case hQ25 => exact fun _ _ _ h => h
  try simp only [Act.put, List.setIfInBounds_toArray, List.set_cons_zero, List.set_cons_succ]
  refine wpAnyH_take (i := 26) (oi := ?oi26) (v := ?v26) ?hi26 ?hs26 ?hf26 ?hr26 ?hQ26 (Or.inl ⟨?hw26, ?hy26⟩) (by assumption) ?h26
  case hi26 => (simp only [List.getElem?_toArray, List.getElem?_cons_succ, List.getElem?_cons_zero]; rfl)
  case hs26 => kernel_rfl
  case hf26 => kernel_rfl
  case hr26 => kernel_rfl
  case hw26 => rfl
  case hy26 => (intro w0 hSw; (try dsimp only at hSw); go_simp; first | done | with_reducible rfl)
  case hQ26 => exact fun _ _ _ h => h
  try simp only [Act.put, List.setIfInBounds_toArray, List.set_cons_zero, List.set_cons_succ]
  refine wpAnyH_take (i := 27) (oi := ?oi27) (v := ?v27) ?hi27 ?hs27 ?hf27 ?hr27 ?hQ27 (Or.inl ⟨?hw27, ?hy27⟩) (by assumption) ?h27
  case hi27 => (simp only [List.getElem?_toArray, List.getElem?_cons_succ, List.getElem?_cons_zero]; rfl)
  case hs27 => kernel_rfl
  case hf27 => kernel_rfl
  case hr27 => kernel_rfl
  case hw27 => rfl
  case hy27 => (intro w0 hSw; have z := (show ∀ i, w0.cell? ⟨g1, i, none⟩ = #[Value.int .i64 (⟨c.p, 1, ⟨3, j, 0, z0.n, me⟩, 0, 0, c.n, c.js, c.rs⟩ : Cl).p, .int .i64 (⟨c.p, 1, ⟨3, j, 0, z0.n, me⟩, 0, 0, c.n, c.js, c.rs⟩ : Cl).d, .int .i64 (⟨c.p, 1, ⟨3, j, 0, z0.n, me⟩, 0, 0, c.n, c.js, c.rs⟩ : Cl).e.k, .int .i64 (⟨c.p, 1, ⟨3, j, 0, z0.n, me⟩, 0, 0, c.n, c.js, c.rs⟩ : Cl).e.j, .int .i64 (⟨c.p, 1, ⟨3, j, 0, z0.n, me⟩, 0, 0, c.n, c.js, c.rs⟩ : Cl).e.v, .int .i64 (⟨c.p, 1, ⟨3, j, 0, z0.n, me⟩, 0, 0, c.n, c.js, c.rs⟩ : Cl).e.t, .int .i64 (⟨c.p, 1, ⟨3, j, 0, z0.n, me⟩, 0, 0, c.n, c.js, c.rs⟩ : Cl).e.c, .int .i64 (⟨c.p, 1, ⟨3, j, 0, z0.n, me⟩, 0, 0, c.n, c.js, c.rs⟩ : Cl).a, .int .i64 (⟨c.p, 1, ⟨3, j, 0, z0.n, me⟩, 0, 0, c.n, c.js, c.rs⟩ : Cl).l, .int .i64 (⟨c.p, 1, ⟨3, j, 0, z0.n, me⟩, 0, 0, c.n, c.js, c.rs⟩ : Cl).n, .slice s1 j1 o1, .slice t1 q1 p1][i]? from fun i => Joins.cell_of_block ((PB.out w0 hSw).at (.head _)) i); clear hSw; go_simp; first | done | with_reducible rfl)
  case hQ27 => exact fun _ _ _ h => h
  try simp only [Act.put, List.setIfInBounds_toArray, List.set_cons_zero, List.set_cons_succ]
  refine wpAnyH_take (i := 28) (oi := ?oi28) (v := ?v28) ?hi28 ?hs28 ?hf28 ?hr28 ?hQ28 (Or.inl ⟨?hw28, ?hy28⟩) (by assumption) ?h28
  case hi28 => (simp only [List.getElem?_toArray, List.getElem?_cons_succ, List.getElem?_cons_zero]; rfl)
  case hs28 => kernel_rfl
  case hf28 => kernel_rfl
  case hr28 => kernel_rfl
  case hw28 => rfl
  case hy28 => (intro w0 hSw; (try dsimp only at hSw); go_simp; first | done | with_reducible rfl)
  case hQ28 => exact fun _ _ _ h => h
  try simp only [Act.put, List.setIfInBounds_toArray, List.set_cons_zero, List.set_cons_succ]
  refine wpAnyH_take (i := 29) (oi := ?oi29) (v := ?v29) ?hi29 ?hs29 ?hf29 ?hr29 ?hQ29 (Or.inl ⟨?hw29, ?hy29⟩) (by assumption) ?h29
  case hi29 => (simp only [List.getElem?_toArray, List.getElem?_cons_succ, List.getElem?_cons_zero]; rfl)
  case hs29 => kernel_rfl
  case hf29 => kernel_rfl
  case hr29 => kernel_rfl
  case hw29 => rfl
  case hy29 => (intro w0 hSw; (try dsimp only at hSw); go_simp; first | done | with_reducible rfl)
  case hQ29 => exact fun _ _ _ h => h
  try simp only [Act.put, List.setIfInBounds_toArray, List.set_cons_zero, List.set_cons_succ]
  refine wpAnyH_take (i := 30) (oi := ?oi30) (v := ?v30) ?hi30 ?hs30 ?hf30 ?hr30 ?hQ30 (Or.inl ⟨?hw30, ?hy30⟩) (by assumption) ?h30
  case hi30 => (simp only [List.getElem?_toArray, List.getElem?_cons_succ, List.getElem?_cons_zero]; rfl)
  case hs30 => kernel_rfl
  case hf30 => kernel_rfl
  case hr30 => kernel_rfl
  case hw30 => rfl
  case hy30 => (intro w0 hSw; (try dsimp only at hSw); go_simp; first | done | with_reducible rfl)
  case hQ30 => exact fun _ _ _ h => h
  try simp only [Act.put, List.setIfInBounds_toArray, List.set_cons_zero, List.set_cons_succ]
  refine wpAnyH_take (i := 31) (oi := ?oi31) (v := ?v31) ?hi31 ?hs31 ?hf31 ?hr31 ?hQ31 (Or.inl ⟨?hw31, ?hy31⟩) (by assumption) ?h31
  case hi31 => (simp only [List.getElem?_toArray, List.getElem?_cons_succ, List.getElem?_cons_zero]; rfl)
  case hs31 => kernel_rfl
  case hf31 => kernel_rfl
  case hr31 => kernel_rfl
  case hw31 => rfl
  case hy31 => (intro w0 hSw; (try dsimp only at hSw); go_simp; first | done | with_reducible rfl)
  case hQ31 => exact fun _ _ _ h => h
  try simp only [Act.put, List.setIfInBounds_toArray, List.set_cons_zero, List.set_cons_succ]
  refine wpAnyH_take (i := 32) (oi := ?oi32) (v := ?v32) ?hi32 ?hs32 ?hf32 ?hr32 ?hQ32 (Or.inl ⟨?hw32, ?hy32⟩) (by assumption) ?h32
  case hi32 => (simp only [List.getElem?_toArray, List.getElem?_cons_succ, List.getElem?_cons_zero]; rfl)
  case hs32 => kernel_rfl
  case hf32 => kernel_rfl
  case hr32 => kernel_rfl
  case hw32 => rfl
  case hy32 => (intro w0 hSw; (try dsimp only at hSw); go_simp; first | done | with_reducible rfl)
  case hQ32 => exact fun _ _ _ h => h
  try simp only [Act.put, List.setIfInBounds_toArray, List.set_cons_zero, List.set_cons_succ]
  refine wpAnyH_take (i := 33) (oi := ?oi33) (v := ?v33) ?hi33 ?hs33 ?hf33 ?hr33 ?hQ33 (Or.inl ⟨?hw33, ?hy33⟩) (by assumption) ?h33
  case hi33 => (simp only [List.getElem?_toArray, List.getElem?_cons_succ, List.getElem?_cons_zero]; rfl)
  case hs33 => kernel_rfl
  case hf33 => kernel_rfl
  case hr33 => kernel_rfl
  case hw33 => rfl
  case hy33 => (intro w0 hSw; have z := (show ∀ i, w0.cell? ⟨w.heap.size, i, none⟩ = #[Value.int .i64 c.p, .int .i64 c.d, .int .i64 c.e.k, .int .i64 c.e.j, .int .i64 c.e.v, .int .i64 c.e.t, .int .i64 c.e.c, .int .i64 c.a, .int .i64 c.l, .int .i64 c.n, .slice a1 m1 k1, .slice a2 m2 k2][i]? from fun i => Joins.cell_of_block ((PB.out w0 hSw).at (.tail _ (.tail _ (.head _)))) i); clear hSw; go_simp; first | done | with_reducible rfl)
  case hQ33 => exact fun _ _ _ h => h
  try simp only [Act.put, List.setIfInBounds_toArray, List.set_cons_zero, List.set_cons_succ]
  refine wpAnyH_take (i := 34) (oi := ?oi34) (v := ?v34) ?hi34 ?hs34 ?hf34 ?hr34 ?hQ34 (Or.inl ⟨?hw34, ?hy34⟩) (by assumption) ?h34
  case hi34 => (simp only [List.getElem?_toArray, List.getElem?_cons_succ, List.getElem?_cons_zero]; rfl)
  case hs34 => kernel_rfl
  case hf34 => kernel_rfl
  case hr34 => kernel_rfl
  case hw34 => rfl
  case hy34 => (intro w0 hSw; (try dsimp only at hSw); go_simp; first | done | with_reducible rfl)
  case hQ34 => exact fun _ _ _ h => h
  try simp only [Act.put, List.setIfInBounds_toArray, List.set_cons_zero, List.set_cons_succ]
  refine wpAnyH_take (i := 35) (oi := ?oi35) (v := ?v35) ?hi35 ?hs35 ?hf35 ?hr35 ?hQ35 (Or.inl ⟨?hw35, ?hy35⟩) (by assumption) ?h35
  case hi35 => (simp only [List.getElem?_toArray, List.getElem?_cons_succ, List.getElem?_cons_zero]; rfl)
  case hs35 => kernel_rfl
  case hf35 => kernel_rfl
  case hr35 => kernel_rfl
  case hw35 => rfl
  case hy35 => (intro w0 hSw; have z := (show ∀ i, w0.cell? ⟨g1, i, none⟩ = #[Value.int .i64 (⟨c.p, 1, ⟨3, j, 0, z0.n, me⟩, 0, 0, c.n, c.js, c.rs⟩ : Cl).p, .int .i64 (⟨c.p, 1, ⟨3, j, 0, z0.n, me⟩, 0, 0, c.n, c.js, c.rs⟩ : Cl).d, .int .i64 (⟨c.p, 1, ⟨3, j, 0, z0.n, me⟩, 0, 0, c.n, c.js, c.rs⟩ : Cl).e.k, .int .i64 (⟨c.p, 1, ⟨3, j, 0, z0.n, me⟩, 0, 0, c.n, c.js, c.rs⟩ : Cl).e.j, .int .i64 (⟨c.p, 1, ⟨3, j, 0, z0.n, me⟩, 0, 0, c.n, c.js, c.rs⟩ : Cl).e.v, .int .i64 (⟨c.p, 1, ⟨3, j, 0, z0.n, me⟩, 0, 0, c.n, c.js, c.rs⟩ : Cl).e.t, .int .i64 (⟨c.p, 1, ⟨3, j, 0, z0.n, me⟩, 0, 0, c.n, c.js, c.rs⟩ : Cl).e.c, .int .i64 (⟨c.p, 1, ⟨3, j, 0, z0.n, me⟩, 0, 0, c.n, c.js, c.rs⟩ : Cl).a, .int .i64 (⟨c.p, 1, ⟨3, j, 0, z0.n, me⟩, 0, 0, c.n, c.js, c.rs⟩ : Cl).l, .int .i64 (⟨c.p, 1, ⟨3, j, 0, z0.n, me⟩, 0, 0, c.n, c.js, c.rs⟩ : Cl).n, .slice s1 j1 o1, .slice t1 q1 p1][i]? from fun i => Joins.cell_of_block ((PB.out w0 hSw).at (.head _)) i); clear hSw; go_simp; first | done | with_reducible rfl)
  case hQ35 => exact fun _ _ _ h => h
  try simp only [Act.put, List.setIfInBounds_toArray, List.set_cons_zero, List.set_cons_succ]
  refine wpAnyH_ready (rs := [36]) (by kernel_rfl) (by simp) ?_
  refine AllReadyH.cons (o := ?o36) ?hi36 ?step36 AllReadyH.nil
  case hi36 => (simp only [List.getElem?_toArray, List.getElem?_cons_succ, List.getElem?_cons_zero]; rfl)
  intro K hK
  go_simp
  refine (pS.out _ _ _ ((PB.out _ hHeld).books (.tail _ (.head _))) ((PB.out _ hHeld).books (.head _))).mono ?_
  rintro e wq ⟨rfl, hbq⟩
  refine hK.out _ _ (PS.out _ _ hHeld hbq) (fun hHeld => ?_)
  clear hK K
  try simp only [Act.put, List.setIfInBounds_toArray, List.set_cons_zero, List.set_cons_succ]
  clear hbq
  refine wpAnyH_take (i := 37) (oi := ?oi37) (v := ?v37) ?hi37 ?hs37 ?hf37 ?hr37 ?hQ37 (Or.inl ⟨?hw37, ?hy37⟩) (by assumption) ?h37
  case hi37 => (simp only [List.getElem?_toArray, List.getElem?_cons_succ, List.getElem?_cons_zero]; rfl)
  case hs37 => kernel_rfl
  case hf37 => kernel_rfl
  case hr37 => kernel_rfl
  case hw37 => rfl
  case hy37 => (intro w0 hSw; (try dsimp only at hSw); go_simp; first | done | with_reducible rfl)
  case hQ37 => exact fun _ _ _ h => h
  try simp only [Act.put, List.setIfInBounds_toArray, List.set_cons_zero, List.set_cons_succ]
  refine wpAnyH_take (i := 38) (oi := ?oi38) (v := ?v38) ?hi38 ?hs38 ?hf38 ?hr38 ?hQ38 (Or.inl ⟨?hw38, ?hy38⟩) (by assumption) ?h38
  case hi38 => (simp only [List.getElem?_toArray, List.getElem?_cons_succ, List.getElem?_cons_zero]; rfl)
  case hs38 => kernel_rfl
  case hf38 => kernel_rfl
  case hr38 => kernel_rfl
  case hw38 => rfl
  case hy38 => (intro w0 hSw; (try dsimp only at hSw); go_simp; first | done | with_reducible rfl)
  case hQ38 => exact fun _ _ _ h => h
  try simp only [Act.put, List.setIfInBounds_toArray, List.set_cons_zero, List.set_cons_succ]
  refine wpAnyH_done (by kernel_rfl) ?_ _
  have H6 : Aside _ := PB.out _ hHeld
  clear hHeld PS PH PB hne pS
  generalize wq = w6 at *
  have z : ∀ i, w6.cell? ⟨w.heap.size, i, none⟩ = #[Value.int .i64 c.p, .int .i64 c.d, .int .i64 c.e.k, .int .i64 c.e.j, .int .i64 c.e.v, .int .i64 c.e.t, .int .i64 c.e.c, .int .i64 c.a, .int .i64 c.l, .int .i64 c.n, .slice a1 m1 k1, .slice a2 m2 k2][i]? := fun i => Joins.cell_of_block (H6.out.at (.tail _ (.tail _ (.head _)))) i
  go_wp2_with fail
  refine (pN.out _ (H6.out.books (.tail _ (.head _)))).mono ?_
  rintro e w7 ⟨rfl, hb7⟩
  have H7 : Aside (HeldC w w7 [(g1, boxC (⟨c.p, 1, ⟨3, j, 0, z0.n, me⟩, 0, 0, c.n, c.js, c.rs⟩ : Cl) (.slice s1 j1 o1) (.slice t1 q1 p1)), (w.heap.size + 1, .cells #[.int .i64 j] 3), (w.heap.size, boxC c (.slice a1 m1 k1) (.slice a2 m2 k2))] [((.slice s1 j1 o1), (.slice t1 q1 p1), (⟨c.p, 1, ⟨3, j, 0, z0.n, me⟩, 0, 0, c.n, c.js, c.rs⟩ : Cl)), ((.slice a1 m1 k1), (.slice a2 m2 k2), c)]) := H6.out.later hb7
  clear hb7 H6 z pN
  have z : ∀ i, w7.cell? ⟨g1, i, none⟩ = #[Value.int .i64 (⟨c.p, 1, ⟨3, j, 0, z0.n, me⟩, 0, 0, c.n, c.js, c.rs⟩ : Cl).p, .int .i64 (⟨c.p, 1, ⟨3, j, 0, z0.n, me⟩, 0, 0, c.n, c.js, c.rs⟩ : Cl).d, .int .i64 (⟨c.p, 1, ⟨3, j, 0, z0.n, me⟩, 0, 0, c.n, c.js, c.rs⟩ : Cl).e.k, .int .i64 (⟨c.p, 1, ⟨3, j, 0, z0.n, me⟩, 0, 0, c.n, c.js, c.rs⟩ : Cl).e.j, .int .i64 (⟨c.p, 1, ⟨3, j, 0, z0.n, me⟩, 0, 0, c.n, c.js, c.rs⟩ : Cl).e.v, .int .i64 (⟨c.p, 1, ⟨3, j, 0, z0.n, me⟩, 0, 0, c.n, c.js, c.rs⟩ : Cl).e.t, .int .i64 (⟨c.p, 1, ⟨3, j, 0, z0.n, me⟩, 0, 0, c.n, c.js, c.rs⟩ : Cl).e.c, .int .i64 (⟨c.p, 1, ⟨3, j, 0, z0.n, me⟩, 0, 0, c.n, c.js, c.rs⟩ : Cl).a, .int .i64 (⟨c.p, 1, ⟨3, j, 0, z0.n, me⟩, 0, 0, c.n, c.js, c.rs⟩ : Cl).l, .int .i64 (⟨c.p, 1, ⟨3, j, 0, z0.n, me⟩, 0, 0, c.n, c.js, c.rs⟩ : Cl).n, .slice s1 j1 o1, .slice t1 q1 p1][i]? := fun i => Joins.cell_of_block (H7.out.at (.head _)) i
  go_wp2_with fail
  refine (pP.out _ _ _ (H7.out.books (.head _))).mono ?_
  rintro e w8 ⟨u1, u2, rfl, hT8, hb8⟩
  have hT8 : BkAt w8 u1 u2 Cl.zero := by first | exact hT8 | exact hT8.1
  have H8 : Aside _ := (H7.out.later hb8).book hT8
  obtain ⟨s8, o8, t8, p8, rfl, rfl⟩ := bk_slices hT8.1 hT8.2
  clear hb8 H7 hT8 z pP
  obtain ⟨j8, hj8⟩ : ∃ n, Hid (Cl.zero.js.length = n) := ⟨_, rfl⟩
  obtain ⟨q8, hq8⟩ : ∃ n, Hid (Cl.zero.rs.length = n) := ⟨_, rfl⟩
  rw [hj8.out, hq8.out] at H8 ⊢
  go_upto_region 10 with fail
  have H9 : Aside _ := H8.out.boxed (boxC Cl.zero (.slice s8 j8 o8) (.slice t8 q8 p8))
  clear H8
  generalize w8.alloc (boxC Cl.zero (.slice s8 j8 o8) (.slice t8 q8 p8)) = w9 at *
  generalize w8.heap.size = g2 at *
  have HB := H9.out.below
  clear H9
  go_wp2
  go_ret
  exact ⟨rfl, HB⟩

set_option linter.unusedSimpArgs false in
set_option maxHeartbeats 8000000 in
set_option maxRecDepth 100000 in
theorem ri_one (c : Cl) (me j tt : Int) (a1 a2 : Option Addr) (m1 k1 m2 k2 : Nat) (w : World) (hb : BkAt w (.slice a1 m1 k1) (.slice a2 m2 k2) c) (z0 : Jb) (hR : ringOf c me j tt = ((⟨c.p, 1, ⟨3, j, 0, z0.n, me⟩, 0, 0, c.n, c.js, c.rs⟩ : Cl), 0)) (hs : Slim c) (k : Nat) (hm : (dueOf c.js tt).length ≤ most) (hi : idx (fun y => y.i == j) (dueOf c.js tt) = (k : Nat)) (hk : k < (dueOf c.js tt).length) (hz0 : (dueOf c.js tt)[k]? = some z0) (hle : decide (tt < z0.n) = false) (hde : dueErr c.js c.rs tt = 0) (J : List Jb) (Q : List Rg) (hP : playOf (⟨c.p, 1, ⟨3, j, 0, z0.n, me⟩, 0, 0, c.n, c.js, c.rs⟩ : Cl) (⟨3, j, 0, z0.n, me⟩ : En) = ((⟨c.p, 1, ⟨3, j, 0, z0.n, me⟩, 0, 0, (c.n + 1), J, Q⟩ : Cl), 0)) (hdj : dueErr J Q tt = 0) (hw : IntKind.i64.wrap (countOf c.js tt - 1) = countOf c.js tt - 1) (hcm : (countOf J tt == countOf c.js tt - 1) = true) :
    Calls Try.prog 7 #[c.val (.slice a1 m1 k1) (.slice a2 m2 k2), .int .i64 me, .int .i64 j, .int .i64 tt] w fun e w' => e = .returned (.bool true) ∧ Below w.heap.size w w' := by
  have pR : Aside (∀ W, BkAt W (.slice a1 m1 k1) (.slice a2 m2 k2) c → AnsT 16 #[c.val (.slice a1 m1 k1) (.slice a2 m2 k2), .int .i64 me, .int .i64 j, .int .i64 tt] W ((⟨c.p, 1, ⟨3, j, 0, z0.n, me⟩, 0, 0, c.n, c.js, c.rs⟩ : Cl), 0)) := fun W hB => by have := cl_ring c me j tt _ _ W hB; rw [hR] at this; exact this
  have pD : Aside (∀ W, BkAt W (.slice a1 m1 k1) (.slice a2 m2 k2) c → Calls Try.prog 35 #[.agg #[(.slice a1 m1 k1), (.slice a2 m2 k2)], .int .i64 tt] W fun e w' => ∃ ua n uc, e = .returned (.tuple #[.slice ua n uc, .int .i64 0]) ∧ Aside (JobSl w' (.slice ua n uc) (dueOf c.js tt)) ∧ Below W.heap.size W w') := fun W hB =>
    (due_any (.slice a1 m1 k1) (.slice a2 m2 k2) c.js c.rs tt W hB.1 hB.2).mono fun e w' ⟨u, g1, g2, g3, _⟩ => by
      rw [hde] at g1 g2
      rw [if_pos rfl] at g2
      obtain ⟨ua, uc, rfl⟩ : ∃ ua uc, u = .slice ua (dueOf c.js tt).length uc := by
        obtain ⟨ua, uc, e, _⟩ := g2
        exact ⟨ua, uc, e⟩
      exact ⟨ua, _, uc, g1, g2, g3⟩
  have pN : Aside (∀ W, BkAt W (.slice a1 m1 k1) (.slice a2 m2 k2) c → Calls Try.prog 38 #[.agg #[(.slice a1 m1 k1), (.slice a2 m2 k2)], .int .i64 tt] W fun e w' => e = .returned (.tuple #[.int .i64 (countOf c.js tt), .int .i64 0]) ∧ Below W.heap.size W w') := fun W hB => by
    have := count_any (.slice a1 m1 k1) (.slice a2 m2 k2) c.js c.rs tt W hB.1 hB.2
    rw [if_pos hde, hde] at this
    exact this
  have pS : Aside (∀ W u v, BkAt W (.slice a1 m1 k1) (.slice a2 m2 k2) c → BkAt W u v (⟨c.p, 1, ⟨3, j, 0, z0.n, me⟩, 0, 0, c.n, c.js, c.rs⟩ : Cl) → Calls Try.prog 34 #[.agg #[(.slice a1 m1 k1), (.slice a2 m2 k2)], .agg #[u, v]] W fun e w' => e = .returned (.bool true) ∧ Below W.heap.size W w') := fun W u v hB hC => by
    have := bk_same (.slice a1 m1 k1) (.slice a2 m2 k2) u v c.js c.js c.rs c.rs W hB.1 hB.2 hC.1 hC.2 hs.1 hs.2
    rw [decide_eq_true rfl, decide_eq_true rfl] at this
    exact this
  have pP : Aside (∀ W u v, BkAt W u v (⟨c.p, 1, ⟨3, j, 0, z0.n, me⟩, 0, 0, c.n, c.js, c.rs⟩ : Cl) → AnsT 29 #[(⟨c.p, 1, ⟨3, j, 0, z0.n, me⟩, 0, 0, c.n, c.js, c.rs⟩ : Cl).val u v, (⟨3, j, 0, z0.n, me⟩ : En).val] W ((⟨c.p, 1, ⟨3, j, 0, z0.n, me⟩, 0, 0, (c.n + 1), J, Q⟩ : Cl), 0)) := fun W u v hB => by have := cl_play (⟨c.p, 1, ⟨3, j, 0, z0.n, me⟩, 0, 0, c.n, c.js, c.rs⟩ : Cl) (⟨3, j, 0, z0.n, me⟩ : En) u v W hB; rw [hP] at this; exact this
  have eg : ∀ args w, (callFunc 37 args).run Try.prog w = .ok (.enter 37 args) w := enters_of Try.func37 (by kernel_rfl) rfl
  have pI : Aside (∀ W ua n uc, W.heap[w.heap.size + 1]? = some (.cells #[.int .i64 j] 3) → JobSl W (.slice ua n uc) (dueOf c.js tt) → Calls Try.prog 36 #[.slice ua n uc, .func (.func 37) #[] #[.pointer (some ⟨w.heap.size + 1, 0, none⟩)]] W fun e w' => e = .returned (.int .i64 (k : Nat)) ∧ Below W.heap.size W w') := fun W ua n uc hj hJ => by
    have := idxFJ (fun y => y.i == j) 37 #[.pointer (some ⟨w.heap.size + 1, 0, none⟩)] eg (.slice ua n uc) (dueOf c.js tt) W hJ hm (lring_pred j (w.heap.size + 1) W (heap_lt hj) (Joins.cell_of_block hj 0))
    rw [hi] at this
    exact this
  have HZ : Aside ((dueOf c.js tt)[k]? = some z0) := hz0
  have pM : Aside (∀ W u v, BkAt W u v (⟨c.p, 1, ⟨3, j, 0, z0.n, me⟩, 0, 0, (c.n + 1), J, Q⟩ : Cl) → Calls Try.prog 38 #[.agg #[u, v], .int .i64 tt] W fun e w' => e = .returned (.tuple #[.int .i64 (countOf J tt), .int .i64 0]) ∧ Below W.heap.size W w') := fun W u v hB => by
    have := count_any u v J Q tt W hB.1 hB.2
    rw [if_pos hdj, hdj] at this
    exact this
  have H0 : Aside (HeldC w ((w.alloc (boxC c (.slice a1 m1 k1) (.slice a2 m2 k2))).alloc (.cells #[.int .i64 j] 3)) [(w.heap.size + 1, .cells #[.int .i64 j] 3), (w.heap.size, boxC c (.slice a1 m1 k1) (.slice a2 m2 k2))] [((.slice a1 m1 k1), (.slice a2 m2 k2), c)]) := by
    have h0 : HeldC w w [] [((.slice a1 m1 k1), (.slice a2 m2 k2), c)] := ⟨Below.refl _ _, (fun p hp => by cases hp), fun p hp => by
      simp only [List.mem_cons, List.not_mem_nil, or_false] at hp
      subst hp
      exact hb⟩
    have h1 := (h0.boxed (boxC c (.slice a1 m1 k1) (.slice a2 m2 k2))).boxed (.cells #[.int .i64 j] 3)
    rw [World.size_alloc] at h1
    exact h1
  clear hb hR hm hi hz0 hs hde hP eg hdj
  go_enter Try.func7, Try.ntmps7
  go_upto_region 1 with fail
  generalize ((w.alloc (boxC c (.slice a1 m1 k1) (.slice a2 m2 k2))).alloc (.cells #[.int .i64 j] 3)) = w0 at *
  have z : ∀ i, w0.cell? ⟨w.heap.size, i, none⟩ = #[Value.int .i64 c.p, .int .i64 c.d, .int .i64 c.e.k, .int .i64 c.e.j, .int .i64 c.e.v, .int .i64 c.e.t, .int .i64 c.e.c, .int .i64 c.a, .int .i64 c.l, .int .i64 c.n, .slice a1 m1 k1, .slice a2 m2 k2][i]? := fun i => Joins.cell_of_block (H0.out.at (.tail _ (.head _))) i
  have zj : ∀ i, w0.cell? ⟨w.heap.size + 1, i, none⟩ = #[Value.int .i64 j][i]? := fun i => Joins.cell_of_block (H0.out.at (.head _)) i
  go_wp2_with fail
  refine (pR.out _ (H0.out.books (.head _))).mono ?_
  rintro e w1 ⟨u1, u2, rfl, hT1, hb1⟩
  have hT1 : BkAt w1 u1 u2 (⟨c.p, 1, ⟨3, j, 0, z0.n, me⟩, 0, 0, c.n, c.js, c.rs⟩ : Cl) := by first | exact hT1 | exact hT1.1
  have H1 : Aside _ := (H0.out.later hb1).book hT1
  obtain ⟨s1, o1, t1, p1, rfl, rfl⟩ := bk_slices hT1.1 hT1.2
  clear hb1 H0 hT1 z zj pR
  obtain ⟨j1, hj1⟩ : ∃ n, Hid (c.js.length = n) := ⟨_, rfl⟩
  obtain ⟨q1, hq1⟩ : ∃ n, Hid (c.rs.length = n) := ⟨_, rfl⟩
  rw [hj1.out, hq1.out] at H1 ⊢
  go_upto_region 2 with fail
  have H2 : Aside _ := H1.out.boxed (boxC (⟨c.p, 1, ⟨3, j, 0, z0.n, me⟩, 0, 0, c.n, c.js, c.rs⟩ : Cl) (.slice s1 j1 o1) (.slice t1 q1 p1))
  clear H1
  generalize w1.alloc (boxC (⟨c.p, 1, ⟨3, j, 0, z0.n, me⟩, 0, 0, c.n, c.js, c.rs⟩ : Cl) (.slice s1 j1 o1) (.slice t1 q1 p1)) = w2 at *
  generalize w1.heap.size = g1 at *
  go_wp2_with fail
  refine (lc_heard _).mono ?_
  rintro e w3 ⟨rfl, hb3⟩
  have H3 : Aside (HeldC w w3 [(g1, boxC (⟨c.p, 1, ⟨3, j, 0, z0.n, me⟩, 0, 0, c.n, c.js, c.rs⟩ : Cl) (.slice s1 j1 o1) (.slice t1 q1 p1)), (w.heap.size + 1, .cells #[.int .i64 j] 3), (w.heap.size, boxC c (.slice a1 m1 k1) (.slice a2 m2 k2))] [((.slice s1 j1 o1), (.slice t1 q1 p1), (⟨c.p, 1, ⟨3, j, 0, z0.n, me⟩, 0, 0, c.n, c.js, c.rs⟩ : Cl)), ((.slice a1 m1 k1), (.slice a2 m2 k2), c)]) := H2.out.later hb3
  clear hb3 H2 
  have z : ∀ i, w3.cell? ⟨w.heap.size, i, none⟩ = #[Value.int .i64 c.p, .int .i64 c.d, .int .i64 c.e.k, .int .i64 c.e.j, .int .i64 c.e.v, .int .i64 c.e.t, .int .i64 c.e.c, .int .i64 c.a, .int .i64 c.l, .int .i64 c.n, .slice a1 m1 k1, .slice a2 m2 k2][i]? := fun i => Joins.cell_of_block (H3.out.at (.tail _ (.tail _ (.head _)))) i
  go_wp2_with fail
  refine (pD.out _ (H3.out.books (.tail _ (.head _)))).mono ?_
  rintro e w4 ⟨ua, nn, uc, rfl, JL, hb4⟩
  have H4 : Aside _ := H3.out.later hb4
  have hlen : (dueOf c.js tt).length = nn := JL.out.len
  rw [hlen] at hk
  clear hb4 H3 z pD hlen
  go_wp2_with fail
  refine (pI.out _ _ _ _ (H4.out.at (.tail _ (.head _))) JL.out).mono ?_
  rintro e w5 ⟨rfl, hb5⟩
  have H5 : Aside _ := H4.out.later hb5
  have J5 : JobSl w5 (.slice ua nn uc) (dueOf c.js tt) := JL.out.later hb5
  obtain ⟨b, off, rfl, hE⟩ := SlOf.at (cs := Jb.cells) (k := 3) J5 (by omega)
  have hrow : w5.cell? ⟨b, off + k * 3 + 2, none⟩ = some (.int .i64 z0.n) := hE k z0 HZ.out 2 _ rfl
  have hkn : ¬ ((k : Int) < 0) := by omega
  obtain ⟨P, hP0, hPs, hPH⟩ := heldC_with (Q := fun W => W.cell? ⟨b, off + k * 3 + 2, none⟩ = some (.int .i64 z0.n)) (fun W W' h hb => cell_later hb h) H5.out hrow
  have PS : Aside _ := hPs
  have PH : Aside _ := hPH
  have PB : Aside (∀ W, P W → HeldC w W [(g1, boxC (⟨c.p, 1, ⟨3, j, 0, z0.n, me⟩, 0, 0, c.n, c.js, c.rs⟩ : Cl) (.slice s1 j1 o1) (.slice t1 q1 p1)), (w.heap.size + 1, .cells #[.int .i64 j] 3), (w.heap.size, boxC c (.slice a1 m1 k1) (.slice a2 m2 k2))] [((.slice s1 j1 o1), (.slice t1 q1 p1), (⟨c.p, 1, ⟨3, j, 0, z0.n, me⟩, 0, 0, c.n, c.js, c.rs⟩ : Cl)), ((.slice a1 m1 k1), (.slice a2 m2 k2), c)]) := fun W h => (hPH W h).1
  have hS0 : P w5.drew := hPs _ _ hP0 (Below.refl _ _).drew
  have hne := fun W => neq_entry 3 j 0 z0.n me 3 j 0 z0.n me W
  rw [show unlike 3 j 0 z0.n me 3 j 0 z0.n me = false from ne_self (⟨3, j, 0, z0.n, me⟩ : En)] at hne
  clear hb5 H4 H5 JL pI HZ J5 hE hrow hP0 hPs hPH
  go_upto_region 6 with fail
  refine wp_region_held_drew (S := P) (by kernel_rfl) (hS0) (fun hHeld => ?_)
  clear hS0
  generalize w5.drew = X at *
  refine wpAnyH_take (i := 0) (oi := ?oi0) (v := ?v0) ?hi0 ?hs0 ?hf0 ?hr0 ?hQ0 (Or.inl ⟨?hw0, ?hy0⟩) (by assumption) ?h0
  case hi0 => (simp only [List.getElem?_toArray, List.getElem?_cons_succ, List.getElem?_cons_zero]; rfl)
  case hs0 => kernel_rfl
  case hf0 => kernel_rfl
  case hr0 => kernel_rfl
  case hw0 => rfl
  case hy0 => (intro w0 hSw; (try dsimp only at hSw); go_simp; first | done | with_reducible rfl)
  case hQ0 => exact fun _ _ _ h => h
  try simp only [Act.put, List.setIfInBounds_toArray, List.set_cons_zero, List.set_cons_succ]
  refine wpAnyH_take (i := 1) (oi := ?oi1) (v := ?v1) ?hi1 ?hs1 ?hf1 ?hr1 ?hQ1 (Or.inl ⟨?hw1, ?hy1⟩) (by assumption) ?h1
  case hi1 => (simp only [List.getElem?_toArray, List.getElem?_cons_succ, List.getElem?_cons_zero]; rfl)
  case hs1 => kernel_rfl
  case hf1 => kernel_rfl
  case hr1 => kernel_rfl
  case hw1 => rfl
  case hy1 => (intro w0 hSw; (try dsimp only at hSw); go_simp; first | done | with_reducible rfl)
  case hQ1 => exact fun _ _ _ h => h
  try simp only [Act.put, List.setIfInBounds_toArray, List.set_cons_zero, List.set_cons_succ]
  refine wpAnyH_take (i := 2) (oi := ?oi2) (v := ?v2) ?hi2 ?hs2 ?hf2 ?hr2 ?hQ2 (Or.inl ⟨?hw2, ?hy2⟩) (by assumption) ?h2
  case hi2 => (simp only [List.getElem?_toArray, List.getElem?_cons_succ, List.getElem?_cons_zero]; rfl)
  case hs2 => kernel_rfl
  case hf2 => kernel_rfl
  case hr2 => kernel_rfl
  case hw2 => rfl
  case hy2 => (intro w0 hSw; (try dsimp only at hSw); go_simp; first | done | with_reducible rfl)
  case hQ2 => exact fun _ _ _ h => h
  try simp only [Act.put, List.setIfInBounds_toArray, List.set_cons_zero, List.set_cons_succ]
  refine wpAnyH_take (i := 3) (oi := ?oi3) (v := ?v3) ?hi3 ?hs3 ?hf3 ?hr3 ?hQ3 (Or.inl ⟨?hw3, ?hy3⟩) (by assumption) ?h3
  case hi3 => (simp only [List.getElem?_toArray, List.getElem?_cons_succ, List.getElem?_cons_zero]; rfl)
  case hs3 => kernel_rfl
  case hf3 => kernel_rfl
  case hr3 => kernel_rfl
  case hw3 => rfl
  case hy3 => (intro w0 hSw; (try dsimp only at hSw); go_simp; first | done | with_reducible rfl)
  case hQ3 => exact fun _ _ _ h => h
  try simp only [Act.put, List.setIfInBounds_toArray, List.set_cons_zero, List.set_cons_succ]
  refine wpAnyH_take (i := 4) (oi := ?oi4) (v := ?v4) ?hi4 ?hs4 ?hf4 ?hr4 ?hQ4 (Or.inl ⟨?hw4, ?hy4⟩) (by assumption) ?h4
  case hi4 => (simp only [List.getElem?_toArray, List.getElem?_cons_succ, List.getElem?_cons_zero]; rfl)
  case hs4 => kernel_rfl
  case hf4 => kernel_rfl
  case hr4 => kernel_rfl
  case hw4 => rfl
  case hy4 => (intro w0 hSw; (try dsimp only at hSw); go_simp; first | done | with_reducible rfl)
  case hQ4 => exact fun _ _ _ h => h
  try simp only [Act.put, List.setIfInBounds_toArray, List.set_cons_zero, List.set_cons_succ]
  refine wpAnyH_take (i := 5) (oi := ?oi5) (v := ?v5) ?hi5 ?hs5 ?hf5 ?hr5 ?hQ5 (Or.inl ⟨?hw5, ?hy5⟩) (by assumption) ?h5
  case hi5 => (simp only [List.getElem?_toArray, List.getElem?_cons_succ, List.getElem?_cons_zero]; rfl)
  case hs5 => kernel_rfl
  case hf5 => kernel_rfl
  case hr5 => kernel_rfl
  case hw5 => rfl
  case hy5 => (intro w0 hSw; (try dsimp only at hSw); go_simp; first | done | with_reducible rfl)
  case hQ5 => exact fun _ _ _ h => h
  try simp only [Act.put, List.setIfInBounds_toArray, List.set_cons_zero, List.set_cons_succ]
  refine wpAnyH_take (i := 6) (oi := ?oi6) (v := ?v6) ?hi6 ?hs6 ?hf6 ?hr6 ?hQ6 (Or.inl ⟨?hw6, ?hy6⟩) (by assumption) ?h6
  case hi6 => (simp only [List.getElem?_toArray, List.getElem?_cons_succ, List.getElem?_cons_zero]; rfl)
  case hs6 => kernel_rfl
  case hf6 => kernel_rfl
  case hr6 => kernel_rfl
  case hw6 => rfl
  case hy6 => (intro w0 hSw; (try dsimp only at hSw); go_simp; first | done | with_reducible rfl)
  case hQ6 => exact fun _ _ _ h => h
  try simp only [Act.put, List.setIfInBounds_toArray, List.set_cons_zero, List.set_cons_succ]
  refine wpAnyH_take (i := 7) (oi := ?oi7) (v := ?v7) ?hi7 ?hs7 ?hf7 ?hr7 ?hQ7 (Or.inl ⟨?hw7, ?hy7⟩) (by assumption) ?h7
  case hi7 => (simp only [List.getElem?_toArray, List.getElem?_cons_succ, List.getElem?_cons_zero]; rfl)
  case hs7 => kernel_rfl
  case hf7 => kernel_rfl
  case hr7 => kernel_rfl
  case hw7 => rfl
  case hy7 => (intro w0 hSw; (try dsimp only at hSw); go_simp; first | done | with_reducible rfl)
  case hQ7 => exact fun _ _ _ h => h
  try simp only [Act.put, List.setIfInBounds_toArray, List.set_cons_zero, List.set_cons_succ]
  refine wpAnyH_take (i := 8) (oi := ?oi8) (v := ?v8) ?hi8 ?hs8 ?hf8 ?hr8 ?hQ8 (Or.inl ⟨?hw8, ?hy8⟩) (by assumption) ?h8
  case hi8 => (simp only [List.getElem?_toArray, List.getElem?_cons_succ, List.getElem?_cons_zero]; rfl)
  case hs8 => kernel_rfl
  case hf8 => kernel_rfl
  case hr8 => kernel_rfl
  case hw8 => rfl
  case hy8 => (intro w0 hSw; have z := (show ∀ i, w0.cell? ⟨g1, i, none⟩ = #[Value.int .i64 (⟨c.p, 1, ⟨3, j, 0, z0.n, me⟩, 0, 0, c.n, c.js, c.rs⟩ : Cl).p, .int .i64 (⟨c.p, 1, ⟨3, j, 0, z0.n, me⟩, 0, 0, c.n, c.js, c.rs⟩ : Cl).d, .int .i64 (⟨c.p, 1, ⟨3, j, 0, z0.n, me⟩, 0, 0, c.n, c.js, c.rs⟩ : Cl).e.k, .int .i64 (⟨c.p, 1, ⟨3, j, 0, z0.n, me⟩, 0, 0, c.n, c.js, c.rs⟩ : Cl).e.j, .int .i64 (⟨c.p, 1, ⟨3, j, 0, z0.n, me⟩, 0, 0, c.n, c.js, c.rs⟩ : Cl).e.v, .int .i64 (⟨c.p, 1, ⟨3, j, 0, z0.n, me⟩, 0, 0, c.n, c.js, c.rs⟩ : Cl).e.t, .int .i64 (⟨c.p, 1, ⟨3, j, 0, z0.n, me⟩, 0, 0, c.n, c.js, c.rs⟩ : Cl).e.c, .int .i64 (⟨c.p, 1, ⟨3, j, 0, z0.n, me⟩, 0, 0, c.n, c.js, c.rs⟩ : Cl).a, .int .i64 (⟨c.p, 1, ⟨3, j, 0, z0.n, me⟩, 0, 0, c.n, c.js, c.rs⟩ : Cl).l, .int .i64 (⟨c.p, 1, ⟨3, j, 0, z0.n, me⟩, 0, 0, c.n, c.js, c.rs⟩ : Cl).n, .slice s1 j1 o1, .slice t1 q1 p1][i]? from fun i => Joins.cell_of_block ((PB.out w0 hSw).at (.head _)) i); clear hSw; go_simp; first | done | with_reducible rfl)
  case hQ8 => exact fun _ _ _ h => h
  try simp only [Act.put, List.setIfInBounds_toArray, List.set_cons_zero, List.set_cons_succ]
  refine wpAnyH_take (i := 9) (oi := ?oi9) (v := ?v9) ?hi9 ?hs9 ?hf9 ?hr9 ?hQ9 (Or.inl ⟨?hw9, ?hy9⟩) (by assumption) ?h9
  case hi9 => (simp only [List.getElem?_toArray, List.getElem?_cons_succ, List.getElem?_cons_zero]; rfl)
  case hs9 => kernel_rfl
  case hf9 => kernel_rfl
  case hr9 => kernel_rfl
  case hw9 => rfl
  case hy9 => (intro w0 hSw; (try dsimp only at hSw); go_simp; first | done | with_reducible rfl)
  case hQ9 => exact fun _ _ _ h => h
  try simp only [Act.put, List.setIfInBounds_toArray, List.set_cons_zero, List.set_cons_succ]
  refine wpAnyH_take (i := 10) (oi := ?oi10) (v := ?v10) ?hi10 ?hs10 ?hf10 ?hr10 ?hQ10 (Or.inl ⟨?hw10, ?hy10⟩) (by assumption) ?h10
  case hi10 => (simp only [List.getElem?_toArray, List.getElem?_cons_succ, List.getElem?_cons_zero]; rfl)
  case hs10 => kernel_rfl
  case hf10 => kernel_rfl
  case hr10 => kernel_rfl
  case hw10 => rfl
  case hy10 => (intro w0 hSw; (try dsimp only at hSw); go_simp; first | done | with_reducible rfl)
  case hQ10 => exact fun _ _ _ h => h
  try simp only [Act.put, List.setIfInBounds_toArray, List.set_cons_zero, List.set_cons_succ]
  refine wpAnyH_take (i := 11) (oi := ?oi11) (v := ?v11) ?hi11 ?hs11 ?hf11 ?hr11 ?hQ11 (Or.inl ⟨?hw11, ?hy11⟩) (by assumption) ?h11
  case hi11 => (simp only [List.getElem?_toArray, List.getElem?_cons_succ, List.getElem?_cons_zero]; rfl)
  case hs11 => kernel_rfl
  case hf11 => kernel_rfl
  case hr11 => kernel_rfl
  case hw11 => rfl
  case hy11 => (intro w0 hSw; (try dsimp only at hSw); go_simp; first | done | with_reducible rfl)
  case hQ11 => exact fun _ _ _ h => h
  try simp only [Act.put, List.setIfInBounds_toArray, List.set_cons_zero, List.set_cons_succ]
  refine wpAnyH_take (i := 12) (oi := ?oi12) (v := ?v12) ?hi12 ?hs12 ?hf12 ?hr12 ?hQ12 (Or.inl ⟨?hw12, ?hy12⟩) (by assumption) ?h12
  case hi12 => (simp only [List.getElem?_toArray, List.getElem?_cons_succ, List.getElem?_cons_zero]; rfl)
  case hs12 => kernel_rfl
  case hf12 => kernel_rfl
  case hr12 => kernel_rfl
  case hw12 => rfl
  case hy12 => (intro w0 hSw; (try dsimp only at hSw); go_simp; first | done | with_reducible rfl)
  case hQ12 => exact fun _ _ _ h => h
  try simp only [Act.put, List.setIfInBounds_toArray, List.set_cons_zero, List.set_cons_succ]
  refine wpAnyH_take (i := 13) (oi := ?oi13) (v := ?v13) ?hi13 ?hs13 ?hf13 ?hr13 ?hQ13 (Or.inl ⟨?hw13, ?hy13⟩) (by assumption) ?h13
  case hi13 => (simp only [List.getElem?_toArray, List.getElem?_cons_succ, List.getElem?_cons_zero]; rfl)
  case hs13 => kernel_rfl
  case hf13 => kernel_rfl
  case hr13 => kernel_rfl
  case hw13 => rfl
  case hy13 => (intro w0 hSw; have z := (show ∀ i, w0.cell? ⟨g1, i, none⟩ = #[Value.int .i64 (⟨c.p, 1, ⟨3, j, 0, z0.n, me⟩, 0, 0, c.n, c.js, c.rs⟩ : Cl).p, .int .i64 (⟨c.p, 1, ⟨3, j, 0, z0.n, me⟩, 0, 0, c.n, c.js, c.rs⟩ : Cl).d, .int .i64 (⟨c.p, 1, ⟨3, j, 0, z0.n, me⟩, 0, 0, c.n, c.js, c.rs⟩ : Cl).e.k, .int .i64 (⟨c.p, 1, ⟨3, j, 0, z0.n, me⟩, 0, 0, c.n, c.js, c.rs⟩ : Cl).e.j, .int .i64 (⟨c.p, 1, ⟨3, j, 0, z0.n, me⟩, 0, 0, c.n, c.js, c.rs⟩ : Cl).e.v, .int .i64 (⟨c.p, 1, ⟨3, j, 0, z0.n, me⟩, 0, 0, c.n, c.js, c.rs⟩ : Cl).e.t, .int .i64 (⟨c.p, 1, ⟨3, j, 0, z0.n, me⟩, 0, 0, c.n, c.js, c.rs⟩ : Cl).e.c, .int .i64 (⟨c.p, 1, ⟨3, j, 0, z0.n, me⟩, 0, 0, c.n, c.js, c.rs⟩ : Cl).a, .int .i64 (⟨c.p, 1, ⟨3, j, 0, z0.n, me⟩, 0, 0, c.n, c.js, c.rs⟩ : Cl).l, .int .i64 (⟨c.p, 1, ⟨3, j, 0, z0.n, me⟩, 0, 0, c.n, c.js, c.rs⟩ : Cl).n, .slice s1 j1 o1, .slice t1 q1 p1][i]? from fun i => Joins.cell_of_block ((PB.out w0 hSw).at (.head _)) i); clear hSw; go_simp; first | done | with_reducible rfl)
  case hQ13 => exact fun _ _ _ h => h
  try simp only [Act.put, List.setIfInBounds_toArray, List.set_cons_zero, List.set_cons_succ]
  refine wpAnyH_take (i := 14) (oi := ?oi14) (v := ?v14) ?hi14 ?hs14 ?hf14 ?hr14 ?hQ14 (Or.inl ⟨?hw14, ?hy14⟩) (by assumption) ?h14
  case hi14 => (simp only [List.getElem?_toArray, List.getElem?_cons_succ, List.getElem?_cons_zero]; rfl)
  case hs14 => kernel_rfl
  case hf14 => kernel_rfl
  case hr14 => kernel_rfl
  case hw14 => rfl
  case hy14 => (intro w0 hSw; have z := (show ∀ i, w0.cell? ⟨w.heap.size + 1, i, none⟩ = #[Value.int .i64 j][i]? from fun i => Joins.cell_of_block ((PB.out w0 hSw).at (.tail _ (.head _))) i); clear hSw; go_simp; first | done | with_reducible rfl)
  case hQ14 => exact fun _ _ _ h => h
  try simp only [Act.put, List.setIfInBounds_toArray, List.set_cons_zero, List.set_cons_succ]
  refine wpAnyH_take (i := 15) (oi := ?oi15) (v := ?v15) ?hi15 ?hs15 ?hf15 ?hr15 ?hQ15 (Or.inl ⟨?hw15, ?hy15⟩) (by assumption) ?h15
  case hi15 => (simp only [List.getElem?_toArray, List.getElem?_cons_succ, List.getElem?_cons_zero]; rfl)
  case hs15 => kernel_rfl
  case hf15 => kernel_rfl
  case hr15 => kernel_rfl
  case hw15 => rfl
  case hy15 => (intro w0 hSw; (try dsimp only at hSw); go_simp; first | done | with_reducible rfl)
  case hQ15 => exact fun _ _ _ h => h
  try simp only [Act.put, List.setIfInBounds_toArray, List.set_cons_zero, List.set_cons_succ]
  refine wpAnyH_take (i := 16) (oi := ?oi16) (v := ?v16) ?hi16 ?hs16 ?hf16 ?hr16 ?hQ16 (Or.inl ⟨?hw16, ?hy16⟩) (by assumption) ?h16
  case hi16 => (simp only [List.getElem?_toArray, List.getElem?_cons_succ, List.getElem?_cons_zero]; rfl)
  case hs16 => kernel_rfl
  case hf16 => kernel_rfl
  case hr16 => kernel_rfl
  case hw16 => rfl
  case hy16 => (intro w0 hSw; (try dsimp only at hSw); go_simp; first | done | with_reducible rfl)
  case hQ16 => exact fun _ _ _ h => h
  try simp only [Act.put, List.setIfInBounds_toArray, List.set_cons_zero, List.set_cons_succ]
  refine wpAnyH_take (i := 17) (oi := ?oi17) (v := ?v17) ?hi17 ?hs17 ?hf17 ?hr17 ?hQ17 (Or.inl ⟨?hw17, ?hy17⟩) (by assumption) ?h17
  case hi17 => (simp only [List.getElem?_toArray, List.getElem?_cons_succ, List.getElem?_cons_zero]; rfl)
  case hs17 => kernel_rfl
  case hf17 => kernel_rfl
  case hr17 => kernel_rfl
  case hw17 => rfl
  case hy17 => (intro w0 hSw; (try dsimp only at hSw); go_simp; first | done | with_reducible rfl)
  case hQ17 => exact fun _ _ _ h => h
  try simp only [Act.put, List.setIfInBounds_toArray, List.set_cons_zero, List.set_cons_succ]
  refine wpAnyH_take (i := 18) (oi := ?oi18) (v := ?v18) ?hi18 ?hs18 ?hf18 ?hr18 ?hQ18 (Or.inl ⟨?hw18, ?hy18⟩) (by assumption) ?h18
  case hi18 => (simp only [List.getElem?_toArray, List.getElem?_cons_succ, List.getElem?_cons_zero]; rfl)
  case hs18 => kernel_rfl
  case hf18 => kernel_rfl
  case hr18 => kernel_rfl
  case hw18 => rfl
  case hy18 => (intro w0 hSw; (try dsimp only at hSw); go_simp; first | done | with_reducible rfl)
  case hQ18 => exact fun _ _ _ h => h
  try simp only [Act.put, List.setIfInBounds_toArray, List.set_cons_zero, List.set_cons_succ]
  refine wpAnyH_take (i := 19) (oi := ?oi19) (v := ?v19) ?hi19 ?hs19 ?hf19 ?hr19 ?hQ19 (Or.inl ⟨?hw19, ?hy19⟩) (by assumption) ?h19
  case hi19 => (simp only [List.getElem?_toArray, List.getElem?_cons_succ, List.getElem?_cons_zero]; rfl)
  case hs19 => kernel_rfl
  case hf19 => kernel_rfl
  case hr19 => kernel_rfl
  case hw19 => rfl
  case hy19 => (intro w0 hSw; have z := (PH.out w0 hSw).2; clear hSw; go_simp; first | done | with_reducible rfl)
  case hQ19 => exact fun _ _ _ h => h
  try simp only [Act.put, List.setIfInBounds_toArray, List.set_cons_zero, List.set_cons_succ]
  refine wpAnyH_take (i := 20) (oi := ?oi20) (v := ?v20) ?hi20 ?hs20 ?hf20 ?hr20 ?hQ20 (Or.inl ⟨?hw20, ?hy20⟩) (by assumption) ?h20
  case hi20 => (simp only [List.getElem?_toArray, List.getElem?_cons_succ, List.getElem?_cons_zero]; rfl)
  case hs20 => kernel_rfl
  case hf20 => kernel_rfl
  case hr20 => kernel_rfl
  case hw20 => rfl
  case hy20 => (intro w0 hSw; (try dsimp only at hSw); go_simp; first | done | with_reducible rfl)
  case hQ20 => exact fun _ _ _ h => h
  try simp only [Act.put, List.setIfInBounds_toArray, List.set_cons_zero, List.set_cons_succ]
  refine wpAnyH_take (i := 21) (oi := ?oi21) (v := ?v21) ?hi21 ?hs21 ?hf21 ?hr21 ?hQ21 (Or.inl ⟨?hw21, ?hy21⟩) (by assumption) ?h21
  case hi21 => (simp only [List.getElem?_toArray, List.getElem?_cons_succ, List.getElem?_cons_zero]; rfl)
  case hs21 => kernel_rfl
  case hf21 => kernel_rfl
  case hr21 => kernel_rfl
  case hw21 => rfl
  case hy21 => (intro w0 hSw; (try dsimp only at hSw); go_simp; first | done | with_reducible rfl)
  case hQ21 => exact fun _ _ _ h => h
  try simp only [Act.put, List.setIfInBounds_toArray, List.set_cons_zero, List.set_cons_succ]
  refine wpAnyH_take (i := 22) (oi := ?oi22) (v := ?v22) ?hi22 ?hs22 ?hf22 ?hr22 ?hQ22 (Or.inl ⟨?hw22, ?hy22⟩) (by assumption) ?h22
  case hi22 => (simp only [List.getElem?_toArray, List.getElem?_cons_succ, List.getElem?_cons_zero]; rfl)
  case hs22 => kernel_rfl
  case hf22 => kernel_rfl
  case hr22 => kernel_rfl
  case hw22 => rfl
  case hy22 => (intro w0 hSw; (try dsimp only at hSw); go_simp; first | done | with_reducible rfl)
  case hQ22 => exact fun _ _ _ h => h
  try simp only [Act.put, List.setIfInBounds_toArray, List.set_cons_zero, List.set_cons_succ]
  refine wpAnyH_take (i := 23) (oi := ?oi23) (v := ?v23) ?hi23 ?hs23 ?hf23 ?hr23 ?hQ23 (Or.inl ⟨?hw23, ?hy23⟩) (by assumption) ?h23
  case hi23 => (simp only [List.getElem?_toArray, List.getElem?_cons_succ, List.getElem?_cons_zero]; rfl)
  case hs23 => kernel_rfl
  case hf23 => kernel_rfl
  case hr23 => kernel_rfl
  case hw23 => rfl
  case hy23 => (intro w0 hSw; (try dsimp only at hSw); go_simp; first | done | with_reducible rfl)
  case hQ23 => exact fun _ _ _ h => h
  try simp only [Act.put, List.setIfInBounds_toArray, List.set_cons_zero, List.set_cons_succ]
  refine wpAnyH_take (i := 24) (oi := ?oi24) (v := ?v24) ?hi24 ?hs24 ?hf24 ?hr24 ?hQ24 (Or.inl ⟨?hw24, ?hy24⟩) (by assumption) ?h24
  case hi24 => (simp only [List.getElem?_toArray, List.getElem?_cons_succ, List.getElem?_cons_zero]; rfl)
  case hs24 => kernel_rfl
  case hf24 => kernel_rfl
  case hr24 => kernel_rfl
  case hw24 => rfl
  case hy24 => (intro w0 hSw; (try dsimp only at hSw); go_simp; first | done | with_reducible rfl)
  case hQ24 => exact fun _ _ _ h => h
  try simp only [Act.put, List.setIfInBounds_toArray, List.set_cons_zero, List.set_cons_succ]
  refine wpAnyH_take (i := 25) (oi := ?oi25) (v := ?v25) ?hi25 ?hs25 ?hf25 ?hr25 ?hQ25 (Or.inl ⟨?hw25, ?hy25⟩) (by assumption) ?h25
  case hi25 => (simp only [List.getElem?_toArray, List.getElem?_cons_succ, List.getElem?_cons_zero]; rfl)
  case hs25 => kernel_rfl
  case hf25 => kernel_rfl
  case hr25 => kernel_rfl
  case hw25 => rfl
  case hy25 => (intro w0 hSw; (try dsimp only at hSw); go_simp; first | done | with_reducible rfl)
  case hQ25 => exact fun _ _ _ h => h
  try simp only [Act.put, List.setIfInBounds_toArray, List.set_cons_zero, List.set_cons_succ]
  refine wpAnyH_take (i := 26) (oi := ?oi26) (v := ?v26) ?hi26 ?hs26 ?hf26 ?hr26 ?hQ26 (Or.inl ⟨?hw26, ?hy26⟩) (by assumption) ?h26
  case hi26 => (simp only [List.getElem?_toArray, List.getElem?_cons_succ, List.getElem?_cons_zero]; rfl)
  case hs26 => kernel_rfl
  case hf26 => kernel_rfl
  case hr26 => kernel_rfl
  case hw26 => rfl
  case hy26 => (intro w0 hSw; (try dsimp only at hSw); go_simp; first | done | with_reducible rfl)
  case hQ26 => exact fun _ _ _ h => h
  try simp only [Act.put, List.setIfInBounds_toArray, List.set_cons_zero, List.set_cons_succ]
  refine wpAnyH_take (i := 27) (oi := ?oi27) (v := ?v27) ?hi27 ?hs27 ?hf27 ?hr27 ?hQ27 (Or.inl ⟨?hw27, ?hy27⟩) (by assumption) ?h27
  case hi27 => (simp only [List.getElem?_toArray, List.getElem?_cons_succ, List.getElem?_cons_zero]; rfl)
  case hs27 => kernel_rfl
  case hf27 => kernel_rfl
  case hr27 => kernel_rfl
  case hw27 => rfl
  case hy27 => (intro w0 hSw; have z := (show ∀ i, w0.cell? ⟨g1, i, none⟩ = #[Value.int .i64 (⟨c.p, 1, ⟨3, j, 0, z0.n, me⟩, 0, 0, c.n, c.js, c.rs⟩ : Cl).p, .int .i64 (⟨c.p, 1, ⟨3, j, 0, z0.n, me⟩, 0, 0, c.n, c.js, c.rs⟩ : Cl).d, .int .i64 (⟨c.p, 1, ⟨3, j, 0, z0.n, me⟩, 0, 0, c.n, c.js, c.rs⟩ : Cl).e.k, .int .i64 (⟨c.p, 1, ⟨3, j, 0, z0.n, me⟩, 0, 0, c.n, c.js, c.rs⟩ : Cl).e.j, .int .i64 (⟨c.p, 1, ⟨3, j, 0, z0.n, me⟩, 0, 0, c.n, c.js, c.rs⟩ : Cl).e.v, .int .i64 (⟨c.p, 1, ⟨3, j, 0, z0.n, me⟩, 0, 0, c.n, c.js, c.rs⟩ : Cl).e.t, .int .i64 (⟨c.p, 1, ⟨3, j, 0, z0.n, me⟩, 0, 0, c.n, c.js, c.rs⟩ : Cl).e.c, .int .i64 (⟨c.p, 1, ⟨3, j, 0, z0.n, me⟩, 0, 0, c.n, c.js, c.rs⟩ : Cl).a, .int .i64 (⟨c.p, 1, ⟨3, j, 0, z0.n, me⟩, 0, 0, c.n, c.js, c.rs⟩ : Cl).l, .int .i64 (⟨c.p, 1, ⟨3, j, 0, z0.n, me⟩, 0, 0, c.n, c.js, c.rs⟩ : Cl).n, .slice s1 j1 o1, .slice t1 q1 p1][i]? from fun i => Joins.cell_of_block ((PB.out w0 hSw).at (.head _)) i); clear hSw; go_simp; first | done | with_reducible rfl)
  case hQ27 => exact fun _ _ _ h => h
  try simp only [Act.put, List.setIfInBounds_toArray, List.set_cons_zero, List.set_cons_succ]
  refine wpAnyH_take (i := 28) (oi := ?oi28) (v := ?v28) ?hi28 ?hs28 ?hf28 ?hr28 ?hQ28 (Or.inl ⟨?hw28, ?hy28⟩) (by assumption) ?h28
  case hi28 => (simp only [List.getElem?_toArray, List.getElem?_cons_succ, List.getElem?_cons_zero]; rfl)
  case hs28 => kernel_rfl
  case hf28 => kernel_rfl
  case hr28 => kernel_rfl
  case hw28 => rfl
  case hy28 => (intro w0 hSw; (try dsimp only at hSw); go_simp; first | done | with_reducible rfl)
  case hQ28 => exact fun _ _ _ h => h
  try simp only [Act.put, List.setIfInBounds_toArray, List.set_cons_zero, List.set_cons_succ]
  refine wpAnyH_take (i := 29) (oi := ?oi29) (v := ?v29) ?hi29 ?hs29 ?hf29 ?hr29 ?hQ29 (Or.inl ⟨?hw29, ?hy29⟩) (by assumption) ?h29
  case hi29 => (simp only [List.getElem?_toArray, List.getElem?_cons_succ, List.getElem?_cons_zero]; rfl)
  case hs29 => kernel_rfl
  case hf29 => kernel_rfl
  case hr29 => kernel_rfl
  case hw29 => rfl
  case hy29 => (intro w0 hSw; (try dsimp only at hSw); go_simp; first | done | with_reducible rfl)
  case hQ29 => exact fun _ _ _ h => h
  try simp only [Act.put, List.setIfInBounds_toArray, List.set_cons_zero, List.set_cons_succ]
  refine wpAnyH_take (i := 30) (oi := ?oi30) (v := ?v30) ?hi30 ?hs30 ?hf30 ?hr30 ?hQ30 (Or.inl ⟨?hw30, ?hy30⟩) (by assumption) ?h30
  case hi30 => (simp only [List.getElem?_toArray, List.getElem?_cons_succ, List.getElem?_cons_zero]; rfl)
  case hs30 => kernel_rfl
  case hf30 => kernel_rfl
  case hr30 => kernel_rfl
  case hw30 => rfl
  case hy30 => (intro w0 hSw; (try dsimp only at hSw); go_simp; first | done | with_reducible rfl)
  case hQ30 => exact fun _ _ _ h => h
  try simp only [Act.put, List.setIfInBounds_toArray, List.set_cons_zero, List.set_cons_succ]
  refine wpAnyH_take (i := 31) (oi := ?oi31) (v := ?v31) ?hi31 ?hs31 ?hf31 ?hr31 ?hQ31 (Or.inl ⟨?hw31, ?hy31⟩) (by assumption) ?h31
  case hi31 => (simp only [List.getElem?_toArray, List.getElem?_cons_succ, List.getElem?_cons_zero]; rfl)
  case hs31 => kernel_rfl
  case hf31 => kernel_rfl
  case hr31 => kernel_rfl
  case hw31 => rfl
  case hy31 => (intro w0 hSw; (try dsimp only at hSw); go_simp; first | done | with_reducible rfl)
  case hQ31 => exact fun _ _ _ h => h
  try simp only [Act.put, List.setIfInBounds_toArray, List.set_cons_zero, List.set_cons_succ]
  refine wpAnyH_take (i := 32) (oi := ?oi32) (v := ?v32) ?hi32 ?hs32 ?hf32 ?hr32 ?hQ32 (Or.inl ⟨?hw32, ?hy32⟩) (by assumption) ?h32
  case hi32 => (simp only [List.getElem?_toArray, List.getElem?_cons_succ, List.getElem?_cons_zero]; rfl)
  case hs32 => kernel_rfl
  case hf32 => kernel_rfl
  case hr32 => kernel_rfl
  case hw32 => rfl
  case hy32 => (intro w0 hSw; (try dsimp only at hSw); go_simp; first | done | with_reducible rfl)
  case hQ32 => exact fun _ _ _ h => h
  try simp only [Act.put, List.setIfInBounds_toArray, List.set_cons_zero, List.set_cons_succ]
  refine wpAnyH_take (i := 33) (oi := ?oi33) (v := ?v33) ?hi33 ?hs33 ?hf33 ?hr33 ?hQ33 (Or.inl ⟨?hw33, ?hy33⟩) (by assumption) ?h33
  case hi33 => (simp only [List.getElem?_toArray, List.getElem?_cons_succ, List.getElem?_cons_zero]; rfl)
  case hs33 => kernel_rfl
  case hf33 => kernel_rfl
  case hr33 => kernel_rfl
  case hw33 => rfl
  case hy33 => (intro w0 hSw; have z := (show ∀ i, w0.cell? ⟨w.heap.size, i, none⟩ = #[Value.int .i64 c.p, .int .i64 c.d, .int .i64 c.e.k, .int .i64 c.e.j, .int .i64 c.e.v, .int .i64 c.e.t, .int .i64 c.e.c, .int .i64 c.a, .int .i64 c.l, .int .i64 c.n, .slice a1 m1 k1, .slice a2 m2 k2][i]? from fun i => Joins.cell_of_block ((PB.out w0 hSw).at (.tail _ (.tail _ (.head _)))) i); clear hSw; go_simp; first | done | with_reducible rfl)
  case hQ33 => exact fun _ _ _ h => h
  try simp only [Act.put, List.setIfInBounds_toArray, List.set_cons_zero, List.set_cons_succ]
  refine wpAnyH_take (i := 34) (oi := ?oi34) (v := ?v34) ?hi34 ?hs34 ?hf34 ?hr34 ?hQ34 (Or.inl ⟨?hw34, ?hy34⟩) (by assumption) ?h34
  case hi34 => (simp only [List.getElem?_toArray, List.getElem?_cons_succ, List.getElem?_cons_zero]; rfl)
  case hs34 => kernel_rfl
  case hf34 => kernel_rfl
  case hr34 => kernel_rfl
  case hw34 => rfl
  case hy34 => (intro w0 hSw; (try dsimp only at hSw); go_simp; first | done | with_reducible rfl)
  case hQ34 => exact fun _ _ _ h => h
  try simp only [Act.put, List.setIfInBounds_toArray, List.set_cons_zero, List.set_cons_succ]
  refine wpAnyH_take (i := 35) (oi := ?oi35) (v := ?v35) ?hi35 ?hs35 ?hf35 ?hr35 ?hQ35 (Or.inl ⟨?hw35, ?hy35⟩) (by assumption) ?h35
  case hi35 => (simp only [List.getElem?_toArray, List.getElem?_cons_succ, List.getElem?_cons_zero]; rfl)
  case hs35 => kernel_rfl
  case hf35 => kernel_rfl
  case hr35 => kernel_rfl
  case hw35 => rfl
  case hy35 => (intro w0 hSw; have z := (show ∀ i, w0.cell? ⟨g1, i, none⟩ = #[Value.int .i64 (⟨c.p, 1, ⟨3, j, 0, z0.n, me⟩, 0, 0, c.n, c.js, c.rs⟩ : Cl).p, .int .i64 (⟨c.p, 1, ⟨3, j, 0, z0.n, me⟩, 0, 0, c.n, c.js, c.rs⟩ : Cl).d, .int .i64 (⟨c.p, 1, ⟨3, j, 0, z0.n, me⟩, 0, 0, c.n, c.js, c.rs⟩ : Cl).e.k, .int .i64 (⟨c.p, 1, ⟨3, j, 0, z0.n, me⟩, 0, 0, c.n, c.js, c.rs⟩ : Cl).e.j, .int .i64 (⟨c.p, 1, ⟨3, j, 0, z0.n, me⟩, 0, 0, c.n, c.js, c.rs⟩ : Cl).e.v, .int .i64 (⟨c.p, 1, ⟨3, j, 0, z0.n, me⟩, 0, 0, c.n, c.js, c.rs⟩ : Cl).e.t, .int .i64 (⟨c.p, 1, ⟨3, j, 0, z0.n, me⟩, 0, 0, c.n, c.js, c.rs⟩ : Cl).e.c, .int .i64 (⟨c.p, 1, ⟨3, j, 0, z0.n, me⟩, 0, 0, c.n, c.js, c.rs⟩ : Cl).a, .int .i64 (⟨c.p, 1, ⟨3, j, 0, z0.n, me⟩, 0, 0, c.n, c.js, c.rs⟩ : Cl).l, .int .i64 (⟨c.p, 1, ⟨3, j, 0, z0.n, me⟩, 0, 0, c.n, c.js, c.rs⟩ : Cl).n, .slice s1 j1 o1, .slice t1 q1 p1][i]? from fun i => Joins.cell_of_block ((PB.out w0 hSw).at (.head _)) i); clear hSw; go_simp; first | done | with_reducible rfl)
  case hQ35 => exact fun _ _ _ h => h
  try simp only [Act.put, List.setIfInBounds_toArray, List.set_cons_zero, List.set_cons_succ]
  refine wpAnyH_ready (rs := [36]) (by kernel_rfl) (by simp) ?_
  refine AllReadyH.cons (o := ?o36) ?hi36 ?step36 AllReadyH.nil
  case hi36 => (simp only [List.getElem?_toArray, List.getElem?_cons_succ, List.getElem?_cons_zero]; rfl)
  intro K hK
  go_simp
  refine (pS.out _ _ _ ((PB.out _ hHeld).books (.tail _ (.head _))) ((PB.out _ hHeld).books (.head _))).mono ?_
  rintro e wq ⟨rfl, hbq⟩
  refine hK.out _ _ (PS.out _ _ hHeld hbq) (fun hHeld => ?_)
  clear hK K
  try simp only [Act.put, List.setIfInBounds_toArray, List.set_cons_zero, List.set_cons_succ]
  clear hbq
  refine wpAnyH_take (i := 37) (oi := ?oi37) (v := ?v37) ?hi37 ?hs37 ?hf37 ?hr37 ?hQ37 (Or.inl ⟨?hw37, ?hy37⟩) (by assumption) ?h37
  case hi37 => (simp only [List.getElem?_toArray, List.getElem?_cons_succ, List.getElem?_cons_zero]; rfl)
  case hs37 => kernel_rfl
  case hf37 => kernel_rfl
  case hr37 => kernel_rfl
  case hw37 => rfl
  case hy37 => (intro w0 hSw; (try dsimp only at hSw); go_simp; first | done | with_reducible rfl)
  case hQ37 => exact fun _ _ _ h => h
  try simp only [Act.put, List.setIfInBounds_toArray, List.set_cons_zero, List.set_cons_succ]
  refine wpAnyH_take (i := 38) (oi := ?oi38) (v := ?v38) ?hi38 ?hs38 ?hf38 ?hr38 ?hQ38 (Or.inl ⟨?hw38, ?hy38⟩) (by assumption) ?h38
  case hi38 => (simp only [List.getElem?_toArray, List.getElem?_cons_succ, List.getElem?_cons_zero]; rfl)
  case hs38 => kernel_rfl
  case hf38 => kernel_rfl
  case hr38 => kernel_rfl
  case hw38 => rfl
  case hy38 => (intro w0 hSw; (try dsimp only at hSw); go_simp; first | done | with_reducible rfl)
  case hQ38 => exact fun _ _ _ h => h
  try simp only [Act.put, List.setIfInBounds_toArray, List.set_cons_zero, List.set_cons_succ]
  refine wpAnyH_done (by kernel_rfl) ?_ _
  have H6 : Aside _ := PB.out _ hHeld
  clear hHeld PS PH PB hne pS
  generalize wq = w6 at *
  have z : ∀ i, w6.cell? ⟨w.heap.size, i, none⟩ = #[Value.int .i64 c.p, .int .i64 c.d, .int .i64 c.e.k, .int .i64 c.e.j, .int .i64 c.e.v, .int .i64 c.e.t, .int .i64 c.e.c, .int .i64 c.a, .int .i64 c.l, .int .i64 c.n, .slice a1 m1 k1, .slice a2 m2 k2][i]? := fun i => Joins.cell_of_block (H6.out.at (.tail _ (.tail _ (.head _)))) i
  go_wp2_with fail
  refine (pN.out _ (H6.out.books (.tail _ (.head _)))).mono ?_
  rintro e w7 ⟨rfl, hb7⟩
  have H7 : Aside (HeldC w w7 [(g1, boxC (⟨c.p, 1, ⟨3, j, 0, z0.n, me⟩, 0, 0, c.n, c.js, c.rs⟩ : Cl) (.slice s1 j1 o1) (.slice t1 q1 p1)), (w.heap.size + 1, .cells #[.int .i64 j] 3), (w.heap.size, boxC c (.slice a1 m1 k1) (.slice a2 m2 k2))] [((.slice s1 j1 o1), (.slice t1 q1 p1), (⟨c.p, 1, ⟨3, j, 0, z0.n, me⟩, 0, 0, c.n, c.js, c.rs⟩ : Cl)), ((.slice a1 m1 k1), (.slice a2 m2 k2), c)]) := H6.out.later hb7
  clear hb7 H6 z pN
  have z : ∀ i, w7.cell? ⟨g1, i, none⟩ = #[Value.int .i64 (⟨c.p, 1, ⟨3, j, 0, z0.n, me⟩, 0, 0, c.n, c.js, c.rs⟩ : Cl).p, .int .i64 (⟨c.p, 1, ⟨3, j, 0, z0.n, me⟩, 0, 0, c.n, c.js, c.rs⟩ : Cl).d, .int .i64 (⟨c.p, 1, ⟨3, j, 0, z0.n, me⟩, 0, 0, c.n, c.js, c.rs⟩ : Cl).e.k, .int .i64 (⟨c.p, 1, ⟨3, j, 0, z0.n, me⟩, 0, 0, c.n, c.js, c.rs⟩ : Cl).e.j, .int .i64 (⟨c.p, 1, ⟨3, j, 0, z0.n, me⟩, 0, 0, c.n, c.js, c.rs⟩ : Cl).e.v, .int .i64 (⟨c.p, 1, ⟨3, j, 0, z0.n, me⟩, 0, 0, c.n, c.js, c.rs⟩ : Cl).e.t, .int .i64 (⟨c.p, 1, ⟨3, j, 0, z0.n, me⟩, 0, 0, c.n, c.js, c.rs⟩ : Cl).e.c, .int .i64 (⟨c.p, 1, ⟨3, j, 0, z0.n, me⟩, 0, 0, c.n, c.js, c.rs⟩ : Cl).a, .int .i64 (⟨c.p, 1, ⟨3, j, 0, z0.n, me⟩, 0, 0, c.n, c.js, c.rs⟩ : Cl).l, .int .i64 (⟨c.p, 1, ⟨3, j, 0, z0.n, me⟩, 0, 0, c.n, c.js, c.rs⟩ : Cl).n, .slice s1 j1 o1, .slice t1 q1 p1][i]? := fun i => Joins.cell_of_block (H7.out.at (.head _)) i
  go_wp2_with fail
  refine (pP.out _ _ _ (H7.out.books (.head _))).mono ?_
  rintro e w8 ⟨u1, u2, rfl, hT8, hb8⟩
  have hT8 : BkAt w8 u1 u2 (⟨c.p, 1, ⟨3, j, 0, z0.n, me⟩, 0, 0, (c.n + 1), J, Q⟩ : Cl) := by first | exact hT8 | exact hT8.1
  have H8 : Aside _ := (H7.out.later hb8).book hT8
  obtain ⟨s8, o8, t8, p8, rfl, rfl⟩ := bk_slices hT8.1 hT8.2
  clear hb8 H7 hT8 z pP
  obtain ⟨j8, hj8⟩ : ∃ n, Hid (J.length = n) := ⟨_, rfl⟩
  obtain ⟨q8, hq8⟩ : ∃ n, Hid (Q.length = n) := ⟨_, rfl⟩
  rw [hj8.out, hq8.out] at H8 ⊢
  go_upto_region 10 with fail
  have H9 : Aside _ := H8.out.boxed (boxC (⟨c.p, 1, ⟨3, j, 0, z0.n, me⟩, 0, 0, (c.n + 1), J, Q⟩ : Cl) (.slice s8 j8 o8) (.slice t8 q8 p8))
  clear H8
  generalize w8.alloc (boxC (⟨c.p, 1, ⟨3, j, 0, z0.n, me⟩, 0, 0, (c.n + 1), J, Q⟩ : Cl) (.slice s8 j8 o8) (.slice t8 q8 p8)) = w9 at *
  generalize w8.heap.size = g2 at *
  have z : ∀ i, w9.cell? ⟨g2, i, none⟩ = #[Value.int .i64 (⟨c.p, 1, ⟨3, j, 0, z0.n, me⟩, 0, 0, (c.n + 1), J, Q⟩ : Cl).p, .int .i64 (⟨c.p, 1, ⟨3, j, 0, z0.n, me⟩, 0, 0, (c.n + 1), J, Q⟩ : Cl).d, .int .i64 (⟨c.p, 1, ⟨3, j, 0, z0.n, me⟩, 0, 0, (c.n + 1), J, Q⟩ : Cl).e.k, .int .i64 (⟨c.p, 1, ⟨3, j, 0, z0.n, me⟩, 0, 0, (c.n + 1), J, Q⟩ : Cl).e.j, .int .i64 (⟨c.p, 1, ⟨3, j, 0, z0.n, me⟩, 0, 0, (c.n + 1), J, Q⟩ : Cl).e.v, .int .i64 (⟨c.p, 1, ⟨3, j, 0, z0.n, me⟩, 0, 0, (c.n + 1), J, Q⟩ : Cl).e.t, .int .i64 (⟨c.p, 1, ⟨3, j, 0, z0.n, me⟩, 0, 0, (c.n + 1), J, Q⟩ : Cl).e.c, .int .i64 (⟨c.p, 1, ⟨3, j, 0, z0.n, me⟩, 0, 0, (c.n + 1), J, Q⟩ : Cl).a, .int .i64 (⟨c.p, 1, ⟨3, j, 0, z0.n, me⟩, 0, 0, (c.n + 1), J, Q⟩ : Cl).l, .int .i64 (⟨c.p, 1, ⟨3, j, 0, z0.n, me⟩, 0, 0, (c.n + 1), J, Q⟩ : Cl).n, .slice s8 j8 o8, .slice t8 q8 p8][i]? := fun i => Joins.cell_of_block (H9.out.at (.head _)) i
  go_wp2_with fail
  refine (pM.out _ _ _ (H9.out.books (.head _))).mono ?_
  rintro e w10 ⟨rfl, hb10⟩
  have H10 : Aside (HeldC w w10 [(g2, boxC (⟨c.p, 1, ⟨3, j, 0, z0.n, me⟩, 0, 0, (c.n + 1), J, Q⟩ : Cl) (.slice s8 j8 o8) (.slice t8 q8 p8)), (g1, boxC (⟨c.p, 1, ⟨3, j, 0, z0.n, me⟩, 0, 0, c.n, c.js, c.rs⟩ : Cl) (.slice s1 j1 o1) (.slice t1 q1 p1)), (w.heap.size + 1, .cells #[.int .i64 j] 3), (w.heap.size, boxC c (.slice a1 m1 k1) (.slice a2 m2 k2))] [((.slice s8 j8 o8), (.slice t8 q8 p8), (⟨c.p, 1, ⟨3, j, 0, z0.n, me⟩, 0, 0, (c.n + 1), J, Q⟩ : Cl)), ((.slice s1 j1 o1), (.slice t1 q1 p1), (⟨c.p, 1, ⟨3, j, 0, z0.n, me⟩, 0, 0, c.n, c.js, c.rs⟩ : Cl)), ((.slice a1 m1 k1), (.slice a2 m2 k2), c)]) := H9.out.later hb10
  clear hb10 H9 z pM
  have z : ∀ i, w10.cell? ⟨w.heap.size, i, none⟩ = #[Value.int .i64 c.p, .int .i64 c.d, .int .i64 c.e.k, .int .i64 c.e.j, .int .i64 c.e.v, .int .i64 c.e.t, .int .i64 c.e.c, .int .i64 c.a, .int .i64 c.l, .int .i64 c.n, .slice a1 m1 k1, .slice a2 m2 k2][i]? := fun i => Joins.cell_of_block (H10.out.at (.tail _ (.tail _ (.tail _ (.head _))))) i
  obtain ⟨N, hN⟩ : ∃ n, Hid (countOf c.js tt = n) := ⟨_, rfl⟩
  obtain ⟨M, hM⟩ : ∃ n, Hid (countOf J tt = n) := ⟨_, rfl⟩
  rw [hN.out, hM.out] at hcm
  rw [hN.out] at hw
  rw [hN.out, hM.out]
  have HB := H10.out.below
  clear H10
  go_wp2
  go_ret
  exact ⟨rfl, HB⟩

set_option linter.unusedSimpArgs false in
set_option maxHeartbeats 8000000 in
set_option maxRecDepth 100000 in
theorem ri_same (c : Cl) (me j tt : Int) (a1 a2 : Option Addr) (m1 k1 m2 k2 : Nat) (w : World) (hb : BkAt w (.slice a1 m1 k1) (.slice a2 m2 k2) c) (z0 : Jb) (hR : ringOf c me j tt = ((⟨c.p, 1, ⟨3, j, 0, z0.n, me⟩, 0, 0, c.n, c.js, c.rs⟩ : Cl), 0)) (hs : Slim c) (k : Nat) (hm : (dueOf c.js tt).length ≤ most) (hi : idx (fun y => y.i == j) (dueOf c.js tt) = (k : Nat)) (hk : k < (dueOf c.js tt).length) (hz0 : (dueOf c.js tt)[k]? = some z0) (hle : decide (tt < z0.n) = false) (hde : dueErr c.js c.rs tt = 0) (J : List Jb) (Q : List Rg) (hP : playOf (⟨c.p, 1, ⟨3, j, 0, z0.n, me⟩, 0, 0, c.n, c.js, c.rs⟩ : Cl) (⟨3, j, 0, z0.n, me⟩ : En) = ((⟨c.p, 1, ⟨3, j, 0, z0.n, me⟩, 0, 0, (c.n + 1), J, Q⟩ : Cl), 0)) (hdj : dueErr J Q tt = 0) (hw : IntKind.i64.wrap (countOf c.js tt - 1) = countOf c.js tt - 1) (hcm : (countOf J tt == countOf c.js tt - 1) = false) (hcs : (countOf J tt == countOf c.js tt) = true) (h60 : ((m2 : Int) == 60) = true) :
    Calls Try.prog 7 #[c.val (.slice a1 m1 k1) (.slice a2 m2 k2), .int .i64 me, .int .i64 j, .int .i64 tt] w fun e w' => e = .returned (.bool true) ∧ Below w.heap.size w w' := by
  have pR : Aside (∀ W, BkAt W (.slice a1 m1 k1) (.slice a2 m2 k2) c → AnsT 16 #[c.val (.slice a1 m1 k1) (.slice a2 m2 k2), .int .i64 me, .int .i64 j, .int .i64 tt] W ((⟨c.p, 1, ⟨3, j, 0, z0.n, me⟩, 0, 0, c.n, c.js, c.rs⟩ : Cl), 0)) := fun W hB => by have := cl_ring c me j tt _ _ W hB; rw [hR] at this; exact this
  have pD : Aside (∀ W, BkAt W (.slice a1 m1 k1) (.slice a2 m2 k2) c → Calls Try.prog 35 #[.agg #[(.slice a1 m1 k1), (.slice a2 m2 k2)], .int .i64 tt] W fun e w' => ∃ ua n uc, e = .returned (.tuple #[.slice ua n uc, .int .i64 0]) ∧ Aside (JobSl w' (.slice ua n uc) (dueOf c.js tt)) ∧ Below W.heap.size W w') := fun W hB =>
    (due_any (.slice a1 m1 k1) (.slice a2 m2 k2) c.js c.rs tt W hB.1 hB.2).mono fun e w' ⟨u, g1, g2, g3, _⟩ => by
      rw [hde] at g1 g2
      rw [if_pos rfl] at g2
      obtain ⟨ua, uc, rfl⟩ : ∃ ua uc, u = .slice ua (dueOf c.js tt).length uc := by
        obtain ⟨ua, uc, e, _⟩ := g2
        exact ⟨ua, uc, e⟩
      exact ⟨ua, _, uc, g1, g2, g3⟩
  have pN : Aside (∀ W, BkAt W (.slice a1 m1 k1) (.slice a2 m2 k2) c → Calls Try.prog 38 #[.agg #[(.slice a1 m1 k1), (.slice a2 m2 k2)], .int .i64 tt] W fun e w' => e = .returned (.tuple #[.int .i64 (countOf c.js tt), .int .i64 0]) ∧ Below W.heap.size W w') := fun W hB => by
    have := count_any (.slice a1 m1 k1) (.slice a2 m2 k2) c.js c.rs tt W hB.1 hB.2
    rw [if_pos hde, hde] at this
    exact this
  have pS : Aside (∀ W u v, BkAt W (.slice a1 m1 k1) (.slice a2 m2 k2) c → BkAt W u v (⟨c.p, 1, ⟨3, j, 0, z0.n, me⟩, 0, 0, c.n, c.js, c.rs⟩ : Cl) → Calls Try.prog 34 #[.agg #[(.slice a1 m1 k1), (.slice a2 m2 k2)], .agg #[u, v]] W fun e w' => e = .returned (.bool true) ∧ Below W.heap.size W w') := fun W u v hB hC => by
    have := bk_same (.slice a1 m1 k1) (.slice a2 m2 k2) u v c.js c.js c.rs c.rs W hB.1 hB.2 hC.1 hC.2 hs.1 hs.2
    rw [decide_eq_true rfl, decide_eq_true rfl] at this
    exact this
  have pP : Aside (∀ W u v, BkAt W u v (⟨c.p, 1, ⟨3, j, 0, z0.n, me⟩, 0, 0, c.n, c.js, c.rs⟩ : Cl) → AnsT 29 #[(⟨c.p, 1, ⟨3, j, 0, z0.n, me⟩, 0, 0, c.n, c.js, c.rs⟩ : Cl).val u v, (⟨3, j, 0, z0.n, me⟩ : En).val] W ((⟨c.p, 1, ⟨3, j, 0, z0.n, me⟩, 0, 0, (c.n + 1), J, Q⟩ : Cl), 0)) := fun W u v hB => by have := cl_play (⟨c.p, 1, ⟨3, j, 0, z0.n, me⟩, 0, 0, c.n, c.js, c.rs⟩ : Cl) (⟨3, j, 0, z0.n, me⟩ : En) u v W hB; rw [hP] at this; exact this
  have eg : ∀ args w, (callFunc 37 args).run Try.prog w = .ok (.enter 37 args) w := enters_of Try.func37 (by kernel_rfl) rfl
  have pI : Aside (∀ W ua n uc, W.heap[w.heap.size + 1]? = some (.cells #[.int .i64 j] 3) → JobSl W (.slice ua n uc) (dueOf c.js tt) → Calls Try.prog 36 #[.slice ua n uc, .func (.func 37) #[] #[.pointer (some ⟨w.heap.size + 1, 0, none⟩)]] W fun e w' => e = .returned (.int .i64 (k : Nat)) ∧ Below W.heap.size W w') := fun W ua n uc hj hJ => by
    have := idxFJ (fun y => y.i == j) 37 #[.pointer (some ⟨w.heap.size + 1, 0, none⟩)] eg (.slice ua n uc) (dueOf c.js tt) W hJ hm (lring_pred j (w.heap.size + 1) W (heap_lt hj) (Joins.cell_of_block hj 0))
    rw [hi] at this
    exact this
  have HZ : Aside ((dueOf c.js tt)[k]? = some z0) := hz0
  have pM : Aside (∀ W u v, BkAt W u v (⟨c.p, 1, ⟨3, j, 0, z0.n, me⟩, 0, 0, (c.n + 1), J, Q⟩ : Cl) → Calls Try.prog 38 #[.agg #[u, v], .int .i64 tt] W fun e w' => e = .returned (.tuple #[.int .i64 (countOf J tt), .int .i64 0]) ∧ Below W.heap.size W w') := fun W u v hB => by
    have := count_any u v J Q tt W hB.1 hB.2
    rw [if_pos hdj, hdj] at this
    exact this
  have H0 : Aside (HeldC w ((w.alloc (boxC c (.slice a1 m1 k1) (.slice a2 m2 k2))).alloc (.cells #[.int .i64 j] 3)) [(w.heap.size + 1, .cells #[.int .i64 j] 3), (w.heap.size, boxC c (.slice a1 m1 k1) (.slice a2 m2 k2))] [((.slice a1 m1 k1), (.slice a2 m2 k2), c)]) := by
    have h0 : HeldC w w [] [((.slice a1 m1 k1), (.slice a2 m2 k2), c)] := ⟨Below.refl _ _, (fun p hp => by cases hp), fun p hp => by
      simp only [List.mem_cons, List.not_mem_nil, or_false] at hp
      subst hp
      exact hb⟩
    have h1 := (h0.boxed (boxC c (.slice a1 m1 k1) (.slice a2 m2 k2))).boxed (.cells #[.int .i64 j] 3)
    rw [World.size_alloc] at h1
    exact h1
  clear hb hR hm hi hz0 hs hde hP eg hdj
  go_enter Try.func7, Try.ntmps7
  go_upto_region 1 with fail
  generalize ((w.alloc (boxC c (.slice a1 m1 k1) (.slice a2 m2 k2))).alloc (.cells #[.int .i64 j] 3)) = w0 at *
  have z : ∀ i, w0.cell? ⟨w.heap.size, i, none⟩ = #[Value.int .i64 c.p, .int .i64 c.d, .int .i64 c.e.k, .int .i64 c.e.j, .int .i64 c.e.v, .int .i64 c.e.t, .int .i64 c.e.c, .int .i64 c.a, .int .i64 c.l, .int .i64 c.n, .slice a1 m1 k1, .slice a2 m2 k2][i]? := fun i => Joins.cell_of_block (H0.out.at (.tail _ (.head _))) i
  have zj : ∀ i, w0.cell? ⟨w.heap.size + 1, i, none⟩ = #[Value.int .i64 j][i]? := fun i => Joins.cell_of_block (H0.out.at (.head _)) i
  go_wp2_with fail
  refine (pR.out _ (H0.out.books (.head _))).mono ?_
  rintro e w1 ⟨u1, u2, rfl, hT1, hb1⟩
  have hT1 : BkAt w1 u1 u2 (⟨c.p, 1, ⟨3, j, 0, z0.n, me⟩, 0, 0, c.n, c.js, c.rs⟩ : Cl) := by first | exact hT1 | exact hT1.1
  have H1 : Aside _ := (H0.out.later hb1).book hT1
  obtain ⟨s1, o1, t1, p1, rfl, rfl⟩ := bk_slices hT1.1 hT1.2
  clear hb1 H0 hT1 z zj pR
  obtain ⟨j1, hj1⟩ : ∃ n, Hid (c.js.length = n) := ⟨_, rfl⟩
  obtain ⟨q1, hq1⟩ : ∃ n, Hid (c.rs.length = n) := ⟨_, rfl⟩
  rw [hj1.out, hq1.out] at H1 ⊢
  go_upto_region 2 with fail
  have H2 : Aside _ := H1.out.boxed (boxC (⟨c.p, 1, ⟨3, j, 0, z0.n, me⟩, 0, 0, c.n, c.js, c.rs⟩ : Cl) (.slice s1 j1 o1) (.slice t1 q1 p1))
  clear H1
  generalize w1.alloc (boxC (⟨c.p, 1, ⟨3, j, 0, z0.n, me⟩, 0, 0, c.n, c.js, c.rs⟩ : Cl) (.slice s1 j1 o1) (.slice t1 q1 p1)) = w2 at *
  generalize w1.heap.size = g1 at *
  go_wp2_with fail
  refine (lc_heard _).mono ?_
  rintro e w3 ⟨rfl, hb3⟩
  have H3 : Aside (HeldC w w3 [(g1, boxC (⟨c.p, 1, ⟨3, j, 0, z0.n, me⟩, 0, 0, c.n, c.js, c.rs⟩ : Cl) (.slice s1 j1 o1) (.slice t1 q1 p1)), (w.heap.size + 1, .cells #[.int .i64 j] 3), (w.heap.size, boxC c (.slice a1 m1 k1) (.slice a2 m2 k2))] [((.slice s1 j1 o1), (.slice t1 q1 p1), (⟨c.p, 1, ⟨3, j, 0, z0.n, me⟩, 0, 0, c.n, c.js, c.rs⟩ : Cl)), ((.slice a1 m1 k1), (.slice a2 m2 k2), c)]) := H2.out.later hb3
  clear hb3 H2 
  have z : ∀ i, w3.cell? ⟨w.heap.size, i, none⟩ = #[Value.int .i64 c.p, .int .i64 c.d, .int .i64 c.e.k, .int .i64 c.e.j, .int .i64 c.e.v, .int .i64 c.e.t, .int .i64 c.e.c, .int .i64 c.a, .int .i64 c.l, .int .i64 c.n, .slice a1 m1 k1, .slice a2 m2 k2][i]? := fun i => Joins.cell_of_block (H3.out.at (.tail _ (.tail _ (.head _)))) i
  go_wp2_with fail
  refine (pD.out _ (H3.out.books (.tail _ (.head _)))).mono ?_
  rintro e w4 ⟨ua, nn, uc, rfl, JL, hb4⟩
  have H4 : Aside _ := H3.out.later hb4
  have hlen : (dueOf c.js tt).length = nn := JL.out.len
  rw [hlen] at hk
  clear hb4 H3 z pD hlen
  go_wp2_with fail
  refine (pI.out _ _ _ _ (H4.out.at (.tail _ (.head _))) JL.out).mono ?_
  rintro e w5 ⟨rfl, hb5⟩
  have H5 : Aside _ := H4.out.later hb5
  have J5 : JobSl w5 (.slice ua nn uc) (dueOf c.js tt) := JL.out.later hb5
  obtain ⟨b, off, rfl, hE⟩ := SlOf.at (cs := Jb.cells) (k := 3) J5 (by omega)
  have hrow : w5.cell? ⟨b, off + k * 3 + 2, none⟩ = some (.int .i64 z0.n) := hE k z0 HZ.out 2 _ rfl
  have hkn : ¬ ((k : Int) < 0) := by omega
  obtain ⟨P, hP0, hPs, hPH⟩ := heldC_with (Q := fun W => W.cell? ⟨b, off + k * 3 + 2, none⟩ = some (.int .i64 z0.n)) (fun W W' h hb => cell_later hb h) H5.out hrow
  have PS : Aside _ := hPs
  have PH : Aside _ := hPH
  have PB : Aside (∀ W, P W → HeldC w W [(g1, boxC (⟨c.p, 1, ⟨3, j, 0, z0.n, me⟩, 0, 0, c.n, c.js, c.rs⟩ : Cl) (.slice s1 j1 o1) (.slice t1 q1 p1)), (w.heap.size + 1, .cells #[.int .i64 j] 3), (w.heap.size, boxC c (.slice a1 m1 k1) (.slice a2 m2 k2))] [((.slice s1 j1 o1), (.slice t1 q1 p1), (⟨c.p, 1, ⟨3, j, 0, z0.n, me⟩, 0, 0, c.n, c.js, c.rs⟩ : Cl)), ((.slice a1 m1 k1), (.slice a2 m2 k2), c)]) := fun W h => (hPH W h).1
  have hS0 : P w5.drew := hPs _ _ hP0 (Below.refl _ _).drew
  have hne := fun W => neq_entry 3 j 0 z0.n me 3 j 0 z0.n me W
  rw [show unlike 3 j 0 z0.n me 3 j 0 z0.n me = false from ne_self (⟨3, j, 0, z0.n, me⟩ : En)] at hne
  clear hb5 H4 H5 JL pI HZ J5 hE hrow hP0 hPs hPH
  go_upto_region 6 with fail
  refine wp_region_held_drew (S := P) (by kernel_rfl) (hS0) (fun hHeld => ?_)
  clear hS0
  generalize w5.drew = X at *
  refine wpAnyH_take (i := 0) (oi := ?oi0) (v := ?v0) ?hi0 ?hs0 ?hf0 ?hr0 ?hQ0 (Or.inl ⟨?hw0, ?hy0⟩) (by assumption) ?h0
  case hi0 => (simp only [List.getElem?_toArray, List.getElem?_cons_succ, List.getElem?_cons_zero]; rfl)
  case hs0 => kernel_rfl
  case hf0 => kernel_rfl
  case hr0 => kernel_rfl
  case hw0 => rfl
  case hy0 => (intro w0 hSw; (try dsimp only at hSw); go_simp; first | done | with_reducible rfl)
  case hQ0 => exact fun _ _ _ h => h
  try simp only [Act.put, List.setIfInBounds_toArray, List.set_cons_zero, List.set_cons_succ]
  refine wpAnyH_take (i := 1) (oi := ?oi1) (v := ?v1) ?hi1 ?hs1 ?hf1 ?hr1 ?hQ1 (Or.inl ⟨?hw1, ?hy1⟩) (by assumption) ?h1
  case hi1 => (simp only [List.getElem?_toArray, List.getElem?_cons_succ, List.getElem?_cons_zero]; rfl)
  case hs1 => kernel_rfl
  case hf1 => kernel_rfl
  case hr1 => kernel_rfl
  case hw1 => rfl
  case hy1 => (intro w0 hSw; (try dsimp only at hSw); go_simp; first | done | with_reducible rfl)
  case hQ1 => exact fun _ _ _ h => h
  try simp only [Act.put, List.setIfInBounds_toArray, List.set_cons_zero, List.set_cons_succ]
  refine wpAnyH_take (i := 2) (oi := ?oi2) (v := ?v2) ?hi2 ?hs2 ?hf2 ?hr2 ?hQ2 (Or.inl ⟨?hw2, ?hy2⟩) (by assumption) ?h2
  case hi2 => (simp only [List.getElem?_toArray, List.getElem?_cons_succ, List.getElem?_cons_zero]; rfl)
  case hs2 => kernel_rfl
  case hf2 => kernel_rfl
  case hr2 => kernel_rfl
  case hw2 => rfl
  case hy2 => (intro w0 hSw; (try dsimp only at hSw); go_simp; first | done | with_reducible rfl)
  case hQ2 => exact fun _ _ _ h => h
  try simp only [Act.put, List.setIfInBounds_toArray, List.set_cons_zero, List.set_cons_succ]
  refine wpAnyH_take (i := 3) (oi := ?oi3) (v := ?v3) ?hi3 ?hs3 ?hf3 ?hr3 ?hQ3 (Or.inl ⟨?hw3, ?hy3⟩) (by assumption) ?h3
  case hi3 => (simp only [List.getElem?_toArray, List.getElem?_cons_succ, List.getElem?_cons_zero]; rfl)
  case hs3 => kernel_rfl
  case hf3 => kernel_rfl
  case hr3 => kernel_rfl
  case hw3 => rfl
  case hy3 => (intro w0 hSw; (try dsimp only at hSw); go_simp; first | done | with_reducible rfl)
  case hQ3 => exact fun _ _ _ h => h
  try simp only [Act.put, List.setIfInBounds_toArray, List.set_cons_zero, List.set_cons_succ]
  refine wpAnyH_take (i := 4) (oi := ?oi4) (v := ?v4) ?hi4 ?hs4 ?hf4 ?hr4 ?hQ4 (Or.inl ⟨?hw4, ?hy4⟩) (by assumption) ?h4
  case hi4 => (simp only [List.getElem?_toArray, List.getElem?_cons_succ, List.getElem?_cons_zero]; rfl)
  case hs4 => kernel_rfl
  case hf4 => kernel_rfl
  case hr4 => kernel_rfl
  case hw4 => rfl
  case hy4 => (intro w0 hSw; (try dsimp only at hSw); go_simp; first | done | with_reducible rfl)
  case hQ4 => exact fun _ _ _ h => h
  try simp only [Act.put, List.setIfInBounds_toArray, List.set_cons_zero, List.set_cons_succ]
  refine wpAnyH_take (i := 5) (oi := ?oi5) (v := ?v5) ?hi5 ?hs5 ?hf5 ?hr5 ?hQ5 (Or.inl ⟨?hw5, ?hy5⟩) (by assumption) ?h5
  case hi5 => (simp only [List.getElem?_toArray, List.getElem?_cons_succ, List.getElem?_cons_zero]; rfl)
  case hs5 => kernel_rfl
  case hf5 => kernel_rfl
  case hr5 => kernel_rfl
  case hw5 => rfl
  case hy5 => (intro w0 hSw; (try dsimp only at hSw); go_simp; first | done | with_reducible rfl)
  case hQ5 => exact fun _ _ _ h => h
  try simp only [Act.put, List.setIfInBounds_toArray, List.set_cons_zero, List.set_cons_succ]
  refine wpAnyH_take (i := 6) (oi := ?oi6) (v := ?v6) ?hi6 ?hs6 ?hf6 ?hr6 ?hQ6 (Or.inl ⟨?hw6, ?hy6⟩) (by assumption) ?h6
  case hi6 => (simp only [List.getElem?_toArray, List.getElem?_cons_succ, List.getElem?_cons_zero]; rfl)
  case hs6 => kernel_rfl
  case hf6 => kernel_rfl
  case hr6 => kernel_rfl
  case hw6 => rfl
  case hy6 => (intro w0 hSw; (try dsimp only at hSw); go_simp; first | done | with_reducible rfl)
  case hQ6 => exact fun _ _ _ h => h
  try simp only [Act.put, List.setIfInBounds_toArray, List.set_cons_zero, List.set_cons_succ]
  refine wpAnyH_take (i := 7) (oi := ?oi7) (v := ?v7) ?hi7 ?hs7 ?hf7 ?hr7 ?hQ7 (Or.inl ⟨?hw7, ?hy7⟩) (by assumption) ?h7
  case hi7 => (simp only [List.getElem?_toArray, List.getElem?_cons_succ, List.getElem?_cons_zero]; rfl)
  case hs7 => kernel_rfl
  case hf7 => kernel_rfl
  case hr7 => kernel_rfl
  case hw7 => rfl
  case hy7 => (intro w0 hSw; (try dsimp only at hSw); go_simp; first | done | with_reducible rfl)
  case hQ7 => exact fun _ _ _ h => h
  try simp only [Act.put, List.setIfInBounds_toArray, List.set_cons_zero, List.set_cons_succ]
  refine wpAnyH_take (i := 8) (oi := ?oi8) (v := ?v8) ?hi8 ?hs8 ?hf8 ?hr8 ?hQ8 (Or.inl ⟨?hw8, ?hy8⟩) (by assumption) ?h8
  case hi8 => (simp only [List.getElem?_toArray, List.getElem?_cons_succ, List.getElem?_cons_zero]; rfl)
  case hs8 => kernel_rfl
  case hf8 => kernel_rfl
  case hr8 => kernel_rfl
  case hw8 => rfl
  case hy8 => (intro w0 hSw; have z := (show ∀ i, w0.cell? ⟨g1, i, none⟩ = #[Value.int .i64 (⟨c.p, 1, ⟨3, j, 0, z0.n, me⟩, 0, 0, c.n, c.js, c.rs⟩ : Cl).p, .int .i64 (⟨c.p, 1, ⟨3, j, 0, z0.n, me⟩, 0, 0, c.n, c.js, c.rs⟩ : Cl).d, .int .i64 (⟨c.p, 1, ⟨3, j, 0, z0.n, me⟩, 0, 0, c.n, c.js, c.rs⟩ : Cl).e.k, .int .i64 (⟨c.p, 1, ⟨3, j, 0, z0.n, me⟩, 0, 0, c.n, c.js, c.rs⟩ : Cl).e.j, .int .i64 (⟨c.p, 1, ⟨3, j, 0, z0.n, me⟩, 0, 0, c.n, c.js, c.rs⟩ : Cl).e.v, .int .i64 (⟨c.p, 1, ⟨3, j, 0, z0.n, me⟩, 0, 0, c.n, c.js, c.rs⟩ : Cl).e.t, .int .i64 (⟨c.p, 1, ⟨3, j, 0, z0.n, me⟩, 0, 0, c.n, c.js, c.rs⟩ : Cl).e.c, .int .i64 (⟨c.p, 1, ⟨3, j, 0, z0.n, me⟩, 0, 0, c.n, c.js, c.rs⟩ : Cl).a, .int .i64 (⟨c.p, 1, ⟨3, j, 0, z0.n, me⟩, 0, 0, c.n, c.js, c.rs⟩ : Cl).l, .int .i64 (⟨c.p, 1, ⟨3, j, 0, z0.n, me⟩, 0, 0, c.n, c.js, c.rs⟩ : Cl).n, .slice s1 j1 o1, .slice t1 q1 p1][i]? from fun i => Joins.cell_of_block ((PB.out w0 hSw).at (.head _)) i); clear hSw; go_simp; first | done | with_reducible rfl)
  case hQ8 => exact fun _ _ _ h => h
  try simp only [Act.put, List.setIfInBounds_toArray, List.set_cons_zero, List.set_cons_succ]
  refine wpAnyH_take (i := 9) (oi := ?oi9) (v := ?v9) ?hi9 ?hs9 ?hf9 ?hr9 ?hQ9 (Or.inl ⟨?hw9, ?hy9⟩) (by assumption) ?h9
  case hi9 => (simp only [List.getElem?_toArray, List.getElem?_cons_succ, List.getElem?_cons_zero]; rfl)
  case hs9 => kernel_rfl
  case hf9 => kernel_rfl
  case hr9 => kernel_rfl
  case hw9 => rfl
  case hy9 => (intro w0 hSw; (try dsimp only at hSw); go_simp; first | done | with_reducible rfl)
  case hQ9 => exact fun _ _ _ h => h
  try simp only [Act.put, List.setIfInBounds_toArray, List.set_cons_zero, List.set_cons_succ]
  refine wpAnyH_take (i := 10) (oi := ?oi10) (v := ?v10) ?hi10 ?hs10 ?hf10 ?hr10 ?hQ10 (Or.inl ⟨?hw10, ?hy10⟩) (by assumption) ?h10
  case hi10 => (simp only [List.getElem?_toArray, List.getElem?_cons_succ, List.getElem?_cons_zero]; rfl)
  case hs10 => kernel_rfl
  case hf10 => kernel_rfl
  case hr10 => kernel_rfl
  case hw10 => rfl
  case hy10 => (intro w0 hSw; (try dsimp only at hSw); go_simp; first | done | with_reducible rfl)
  case hQ10 => exact fun _ _ _ h => h
  try simp only [Act.put, List.setIfInBounds_toArray, List.set_cons_zero, List.set_cons_succ]
  refine wpAnyH_take (i := 11) (oi := ?oi11) (v := ?v11) ?hi11 ?hs11 ?hf11 ?hr11 ?hQ11 (Or.inl ⟨?hw11, ?hy11⟩) (by assumption) ?h11
  case hi11 => (simp only [List.getElem?_toArray, List.getElem?_cons_succ, List.getElem?_cons_zero]; rfl)
  case hs11 => kernel_rfl
  case hf11 => kernel_rfl
  case hr11 => kernel_rfl
  case hw11 => rfl
  case hy11 => (intro w0 hSw; (try dsimp only at hSw); go_simp; first | done | with_reducible rfl)
  case hQ11 => exact fun _ _ _ h => h
  try simp only [Act.put, List.setIfInBounds_toArray, List.set_cons_zero, List.set_cons_succ]
  refine wpAnyH_take (i := 12) (oi := ?oi12) (v := ?v12) ?hi12 ?hs12 ?hf12 ?hr12 ?hQ12 (Or.inl ⟨?hw12, ?hy12⟩) (by assumption) ?h12
  case hi12 => (simp only [List.getElem?_toArray, List.getElem?_cons_succ, List.getElem?_cons_zero]; rfl)
  case hs12 => kernel_rfl
  case hf12 => kernel_rfl
  case hr12 => kernel_rfl
  case hw12 => rfl
  case hy12 => (intro w0 hSw; (try dsimp only at hSw); go_simp; first | done | with_reducible rfl)
  case hQ12 => exact fun _ _ _ h => h
  try simp only [Act.put, List.setIfInBounds_toArray, List.set_cons_zero, List.set_cons_succ]
  refine wpAnyH_take (i := 13) (oi := ?oi13) (v := ?v13) ?hi13 ?hs13 ?hf13 ?hr13 ?hQ13 (Or.inl ⟨?hw13, ?hy13⟩) (by assumption) ?h13
  case hi13 => (simp only [List.getElem?_toArray, List.getElem?_cons_succ, List.getElem?_cons_zero]; rfl)
  case hs13 => kernel_rfl
  case hf13 => kernel_rfl
  case hr13 => kernel_rfl
  case hw13 => rfl
  case hy13 => (intro w0 hSw; have z := (show ∀ i, w0.cell? ⟨g1, i, none⟩ = #[Value.int .i64 (⟨c.p, 1, ⟨3, j, 0, z0.n, me⟩, 0, 0, c.n, c.js, c.rs⟩ : Cl).p, .int .i64 (⟨c.p, 1, ⟨3, j, 0, z0.n, me⟩, 0, 0, c.n, c.js, c.rs⟩ : Cl).d, .int .i64 (⟨c.p, 1, ⟨3, j, 0, z0.n, me⟩, 0, 0, c.n, c.js, c.rs⟩ : Cl).e.k, .int .i64 (⟨c.p, 1, ⟨3, j, 0, z0.n, me⟩, 0, 0, c.n, c.js, c.rs⟩ : Cl).e.j, .int .i64 (⟨c.p, 1, ⟨3, j, 0, z0.n, me⟩, 0, 0, c.n, c.js, c.rs⟩ : Cl).e.v, .int .i64 (⟨c.p, 1, ⟨3, j, 0, z0.n, me⟩, 0, 0, c.n, c.js, c.rs⟩ : Cl).e.t, .int .i64 (⟨c.p, 1, ⟨3, j, 0, z0.n, me⟩, 0, 0, c.n, c.js, c.rs⟩ : Cl).e.c, .int .i64 (⟨c.p, 1, ⟨3, j, 0, z0.n, me⟩, 0, 0, c.n, c.js, c.rs⟩ : Cl).a, .int .i64 (⟨c.p, 1, ⟨3, j, 0, z0.n, me⟩, 0, 0, c.n, c.js, c.rs⟩ : Cl).l, .int .i64 (⟨c.p, 1, ⟨3, j, 0, z0.n, me⟩, 0, 0, c.n, c.js, c.rs⟩ : Cl).n, .slice s1 j1 o1, .slice t1 q1 p1][i]? from fun i => Joins.cell_of_block ((PB.out w0 hSw).at (.head _)) i); clear hSw; go_simp; first | done | with_reducible rfl)
  case hQ13 => exact fun _ _ _ h => h
  try simp only [Act.put, List.setIfInBounds_toArray, List.set_cons_zero, List.set_cons_succ]
  refine wpAnyH_take (i := 14) (oi := ?oi14) (v := ?v14) ?hi14 ?hs14 ?hf14 ?hr14 ?hQ14 (Or.inl ⟨?hw14, ?hy14⟩) (by assumption) ?h14
  case hi14 => (simp only [List.getElem?_toArray, List.getElem?_cons_succ, List.getElem?_cons_zero]; rfl)
  case hs14 => kernel_rfl
  case hf14 => kernel_rfl
  case hr14 => kernel_rfl
  case hw14 => rfl
  case hy14 => (intro w0 hSw; have z := (show ∀ i, w0.cell? ⟨w.heap.size + 1, i, none⟩ = #[Value.int .i64 j][i]? from fun i => Joins.cell_of_block ((PB.out w0 hSw).at (.tail _ (.head _))) i); clear hSw; go_simp; first | done | with_reducible rfl)
  case hQ14 => exact fun _ _ _ h => h
  try simp only [Act.put, List.setIfInBounds_toArray, List.set_cons_zero, List.set_cons_succ]
  refine wpAnyH_take (i := 15) (oi := ?oi15) (v := ?v15) ?hi15 ?hs15 ?hf15 ?hr15 ?hQ15 (Or.inl ⟨?hw15, ?hy15⟩) (by assumption) ?h15
  case hi15 => (simp only [List.getElem?_toArray, List.getElem?_cons_succ, List.getElem?_cons_zero]; rfl)
  case hs15 => kernel_rfl
  case hf15 => kernel_rfl
  case hr15 => kernel_rfl
  case hw15 => rfl
  case hy15 => (intro w0 hSw; (try dsimp only at hSw); go_simp; first | done | with_reducible rfl)
  case hQ15 => exact fun _ _ _ h => h
  try simp only [Act.put, List.setIfInBounds_toArray, List.set_cons_zero, List.set_cons_succ]
  refine wpAnyH_take (i := 16) (oi := ?oi16) (v := ?v16) ?hi16 ?hs16 ?hf16 ?hr16 ?hQ16 (Or.inl ⟨?hw16, ?hy16⟩) (by assumption) ?h16
  case hi16 => (simp only [List.getElem?_toArray, List.getElem?_cons_succ, List.getElem?_cons_zero]; rfl)
  case hs16 => kernel_rfl
  case hf16 => kernel_rfl
  case hr16 => kernel_rfl
  case hw16 => rfl
  case hy16 => (intro w0 hSw; (try dsimp only at hSw); go_simp; first | done | with_reducible rfl)
  case hQ16 => exact fun _ _ _ h => h
  try simp only [Act.put, List.setIfInBounds_toArray, List.set_cons_zero, List.set_cons_succ]
  refine wpAnyH_take (i := 17) (oi := ?oi17) (v := ?v17) ?hi17 ?hs17 ?hf17 ?hr17 ?hQ17 (Or.inl ⟨?hw17, ?hy17⟩) (by assumption) ?h17
  case hi17 => (simp only [List.getElem?_toArray, List.getElem?_cons_succ, List.getElem?_cons_zero]; rfl)
  case hs17 => kernel_rfl
  case hf17 => kernel_rfl
  case hr17 => kernel_rfl
  case hw17 => rfl
  case hy17 => (intro w0 hSw; (try dsimp only at hSw); go_simp; first | done | with_reducible rfl)
  case hQ17 => exact fun _ _ _ h => h
  try simp only [Act.put, List.setIfInBounds_toArray, List.set_cons_zero, List.set_cons_succ]
  refine wpAnyH_take (i := 18) (oi := ?oi18) (v := ?v18) ?hi18 ?hs18 ?hf18 ?hr18 ?hQ18 (Or.inl ⟨?hw18, ?hy18⟩) (by assumption) ?h18
  case hi18 => (simp only [List.getElem?_toArray, List.getElem?_cons_succ, List.getElem?_cons_zero]; rfl)
  case hs18 => kernel_rfl
  case hf18 => kernel_rfl
  case hr18 => kernel_rfl
  case hw18 => rfl
  case hy18 => (intro w0 hSw; (try dsimp only at hSw); go_simp; first | done | with_reducible rfl)
  case hQ18 => exact fun _ _ _ h => h
  try simp only [Act.put, List.setIfInBounds_toArray, List.set_cons_zero, List.set_cons_succ]
  refine wpAnyH_take (i := 19) (oi := ?oi19) (v := ?v19) ?hi19 ?hs19 ?hf19 ?hr19 ?hQ19 (Or.inl ⟨?hw19, ?hy19⟩) (by assumption) ?h19
  case hi19 => (simp only [List.getElem?_toArray, List.getElem?_cons_succ, List.getElem?_cons_zero]; rfl)
  case hs19 => kernel_rfl
  case hf19 => kernel_rfl
  case hr19 => kernel_rfl
  case hw19 => rfl
  case hy19 => (intro w0 hSw; have z := (PH.out w0 hSw).2; clear hSw; go_simp; first | done | with_reducible rfl)
  case hQ19 => exact fun _ _ _ h => h
  try simp only [Act.put, List.setIfInBounds_toArray, List.set_cons_zero, List.set_cons_succ]
  refine wpAnyH_take (i := 20) (oi := ?oi20) (v := ?v20) ?hi20 ?hs20 ?hf20 ?hr20 ?hQ20 (Or.inl ⟨?hw20, ?hy20⟩) (by assumption) ?h20
  case hi20 => (simp only [List.getElem?_toArray, List.getElem?_cons_succ, List.getElem?_cons_zero]; rfl)
  case hs20 => kernel_rfl
  case hf20 => kernel_rfl
  case hr20 => kernel_rfl
  case hw20 => rfl
  case hy20 => (intro w0 hSw; (try dsimp only at hSw); go_simp; first | done | with_reducible rfl)
  case hQ20 => exact fun _ _ _ h => h
  try simp only [Act.put, List.setIfInBounds_toArray, List.set_cons_zero, List.set_cons_succ]
  refine wpAnyH_take (i := 21) (oi := ?oi21) (v := ?v21) ?hi21 ?hs21 ?hf21 ?hr21 ?hQ21 (Or.inl ⟨?hw21, ?hy21⟩) (by assumption) ?h21
  case hi21 => (simp only [List.getElem?_toArray, List.getElem?_cons_succ, List.getElem?_cons_zero]; rfl)
  case hs21 => kernel_rfl
  case hf21 => kernel_rfl
  case hr21 => kernel_rfl
  case hw21 => rfl
  case hy21 => (intro w0 hSw; (try dsimp only at hSw); go_simp; first | done | with_reducible rfl)
  case hQ21 => exact fun _ _ _ h => h
  try simp only [Act.put, List.setIfInBounds_toArray, List.set_cons_zero, List.set_cons_succ]
  refine wpAnyH_take (i := 22) (oi := ?oi22) (v := ?v22) ?hi22 ?hs22 ?hf22 ?hr22 ?hQ22 (Or.inl ⟨?hw22, ?hy22⟩) (by assumption) ?h22
  case hi22 => (simp only [List.getElem?_toArray, List.getElem?_cons_succ, List.getElem?_cons_zero]; rfl)
  case hs22 => kernel_rfl
  case hf22 => kernel_rfl
  case hr22 => kernel_rfl
  case hw22 => rfl
  case hy22 => (intro w0 hSw; (try dsimp only at hSw); go_simp; first | done | with_reducible rfl)
  case hQ22 => exact fun _ _ _ h => h
  try simp only [Act.put, List.setIfInBounds_toArray, List.set_cons_zero, List.set_cons_succ]
  refine wpAnyH_take (i := 23) (oi := ?oi23) (v := ?v23) ?hi23 ?hs23 ?hf23 ?hr23 ?hQ23 (Or.inl ⟨?hw23, ?hy23⟩) (by assumption) ?h23
  case hi23 => (simp only [List.getElem?_toArray, List.getElem?_cons_succ, List.getElem?_cons_zero]; rfl)
  case hs23 => kernel_rfl
  case hf23 => kernel_rfl
  case hr23 => kernel_rfl
  case hw23 => rfl
  case hy23 => (intro w0 hSw; (try dsimp only at hSw); go_simp; first | done | with_reducible rfl)
  case hQ23 => exact fun _ _ _ h => h
  try simp only [Act.put, List.setIfInBounds_toArray, List.set_cons_zero, List.set_cons_succ]
  refine wpAnyH_take (i := 24) (oi := ?oi24) (v := ?v24) ?hi24 ?hs24 ?hf24 ?hr24 ?hQ24 (Or.inl ⟨?hw24, ?hy24⟩) (by assumption) ?h24
  case hi24 => (simp only [List.getElem?_toArray, List.getElem?_cons_succ, List.getElem?_cons_zero]; rfl)
  case hs24 => kernel_rfl
  case hf24 => kernel_rfl
  case hr24 => kernel_rfl
  case hw24 => rfl
  case hy24 => (intro w0 hSw; (try dsimp only at hSw); go_simp; first | done | with_reducible rfl)
  case hQ24 => exact fun _ _ _ h => h
  try simp only [Act.put, List.setIfInBounds_toArray, List.set_cons_zero, List.set_cons_succ]
  refine wpAnyH_take (i := 25) (oi := ?oi25) (v := ?v25) ?hi25 ?hs25 ?hf25 ?hr25 ?hQ25 (Or.inl ⟨?hw25, ?hy25⟩) (by assumption) ?h25
  case hi25 => (simp only [List.getElem?_toArray, List.getElem?_cons_succ, List.getElem?_cons_zero]; rfl)
  case hs25 => kernel_rfl
  case hf25 => kernel_rfl
  case hr25 => kernel_rfl
  case hw25 => rfl
  case hy25 => (intro w0 hSw; (try dsimp only at hSw); go_simp; first | done | with_reducible rfl)
  case hQ25 => exact fun _ _ _ h => h
  try simp only [Act.put, List.setIfInBounds_toArray, List.set_cons_zero, List.set_cons_succ]
  refine wpAnyH_take (i := 26) (oi := ?oi26) (v := ?v26) ?hi26 ?hs26 ?hf26 ?hr26 ?hQ26 (Or.inl ⟨?hw26, ?hy26⟩) (by assumption) ?h26
  case hi26 => (simp only [List.getElem?_toArray, List.getElem?_cons_succ, List.getElem?_cons_zero]; rfl)
  case hs26 => kernel_rfl
  case hf26 => kernel_rfl
  case hr26 => kernel_rfl
  case hw26 => rfl
  case hy26 => (intro w0 hSw; (try dsimp only at hSw); go_simp; first | done | with_reducible rfl)
  case hQ26 => exact fun _ _ _ h => h
  try simp only [Act.put, List.setIfInBounds_toArray, List.set_cons_zero, List.set_cons_succ]
  refine wpAnyH_take (i := 27) (oi := ?oi27) (v := ?v27) ?hi27 ?hs27 ?hf27 ?hr27 ?hQ27 (Or.inl ⟨?hw27, ?hy27⟩) (by assumption) ?h27
  case hi27 => (simp only [List.getElem?_toArray, List.getElem?_cons_succ, List.getElem?_cons_zero]; rfl)
  case hs27 => kernel_rfl
  case hf27 => kernel_rfl
  case hr27 => kernel_rfl
  case hw27 => rfl
  case hy27 => (intro w0 hSw; have z := (show ∀ i, w0.cell? ⟨g1, i, none⟩ = #[Value.int .i64 (⟨c.p, 1, ⟨3, j, 0, z0.n, me⟩, 0, 0, c.n, c.js, c.rs⟩ : Cl).p, .int .i64 (⟨c.p, 1, ⟨3, j, 0, z0.n, me⟩, 0, 0, c.n, c.js, c.rs⟩ : Cl).d, .int .i64 (⟨c.p, 1, ⟨3, j, 0, z0.n, me⟩, 0, 0, c.n, c.js, c.rs⟩ : Cl).e.k, .int .i64 (⟨c.p, 1, ⟨3, j, 0, z0.n, me⟩, 0, 0, c.n, c.js, c.rs⟩ : Cl).e.j, .int .i64 (⟨c.p, 1, ⟨3, j, 0, z0.n, me⟩, 0, 0, c.n, c.js, c.rs⟩ : Cl).e.v, .int .i64 (⟨c.p, 1, ⟨3, j, 0, z0.n, me⟩, 0, 0, c.n, c.js, c.rs⟩ : Cl).e.t, .int .i64 (⟨c.p, 1, ⟨3, j, 0, z0.n, me⟩, 0, 0, c.n, c.js, c.rs⟩ : Cl).e.c, .int .i64 (⟨c.p, 1, ⟨3, j, 0, z0.n, me⟩, 0, 0, c.n, c.js, c.rs⟩ : Cl).a, .int .i64 (⟨c.p, 1, ⟨3, j, 0, z0.n, me⟩, 0, 0, c.n, c.js, c.rs⟩ : Cl).l, .int .i64 (⟨c.p, 1, ⟨3, j, 0, z0.n, me⟩, 0, 0, c.n, c.js, c.rs⟩ : Cl).n, .slice s1 j1 o1, .slice t1 q1 p1][i]? from fun i => Joins.cell_of_block ((PB.out w0 hSw).at (.head _)) i); clear hSw; go_simp; first | done | with_reducible rfl)
  case hQ27 => exact fun _ _ _ h => h
  try simp only [Act.put, List.setIfInBounds_toArray, List.set_cons_zero, List.set_cons_succ]
  refine wpAnyH_take (i := 28) (oi := ?oi28) (v := ?v28) ?hi28 ?hs28 ?hf28 ?hr28 ?hQ28 (Or.inl ⟨?hw28, ?hy28⟩) (by assumption) ?h28
  case hi28 => (simp only [List.getElem?_toArray, List.getElem?_cons_succ, List.getElem?_cons_zero]; rfl)
  case hs28 => kernel_rfl
  case hf28 => kernel_rfl
  case hr28 => kernel_rfl
  case hw28 => rfl
  case hy28 => (intro w0 hSw; (try dsimp only at hSw); go_simp; first | done | with_reducible rfl)
  case hQ28 => exact fun _ _ _ h => h
  try simp only [Act.put, List.setIfInBounds_toArray, List.set_cons_zero, List.set_cons_succ]
  refine wpAnyH_take (i := 29) (oi := ?oi29) (v := ?v29) ?hi29 ?hs29 ?hf29 ?hr29 ?hQ29 (Or.inl ⟨?hw29, ?hy29⟩) (by assumption) ?h29
  case hi29 => (simp only [List.getElem?_toArray, List.getElem?_cons_succ, List.getElem?_cons_zero]; rfl)
  case hs29 => kernel_rfl
  case hf29 => kernel_rfl
  case hr29 => kernel_rfl
  case hw29 => rfl
  case hy29 => (intro w0 hSw; (try dsimp only at hSw); go_simp; first | done | with_reducible rfl)
  case hQ29 => exact fun _ _ _ h => h
  try simp only [Act.put, List.setIfInBounds_toArray, List.set_cons_zero, List.set_cons_succ]
  refine wpAnyH_take (i := 30) (oi := ?oi30) (v := ?v30) ?hi30 ?hs30 ?hf30 ?hr30 ?hQ30 (Or.inl ⟨?hw30, ?hy30⟩) (by assumption) ?h30
  case hi30 => (simp only [List.getElem?_toArray, List.getElem?_cons_succ, List.getElem?_cons_zero]; rfl)
  case hs30 => kernel_rfl
  case hf30 => kernel_rfl
  case hr30 => kernel_rfl
  case hw30 => rfl
  case hy30 => (intro w0 hSw; (try dsimp only at hSw); go_simp; first | done | with_reducible rfl)
  case hQ30 => exact fun _ _ _ h => h
  try simp only [Act.put, List.setIfInBounds_toArray, List.set_cons_zero, List.set_cons_succ]
  refine wpAnyH_take (i := 31) (oi := ?oi31) (v := ?v31) ?hi31 ?hs31 ?hf31 ?hr31 ?hQ31 (Or.inl ⟨?hw31, ?hy31⟩) (by assumption) ?h31
  case hi31 => (simp only [List.getElem?_toArray, List.getElem?_cons_succ, List.getElem?_cons_zero]; rfl)
  case hs31 => kernel_rfl
  case hf31 => kernel_rfl
  case hr31 => kernel_rfl
  case hw31 => rfl
  case hy31 => (intro w0 hSw; (try dsimp only at hSw); go_simp; first | done | with_reducible rfl)
  case hQ31 => exact fun _ _ _ h => h
  try simp only [Act.put, List.setIfInBounds_toArray, List.set_cons_zero, List.set_cons_succ]
  refine wpAnyH_take (i := 32) (oi := ?oi32) (v := ?v32) ?hi32 ?hs32 ?hf32 ?hr32 ?hQ32 (Or.inl ⟨?hw32, ?hy32⟩) (by assumption) ?h32
  case hi32 => (simp only [List.getElem?_toArray, List.getElem?_cons_succ, List.getElem?_cons_zero]; rfl)
  case hs32 => kernel_rfl
  case hf32 => kernel_rfl
  case hr32 => kernel_rfl
  case hw32 => rfl
  case hy32 => (intro w0 hSw; (try dsimp only at hSw); go_simp; first | done | with_reducible rfl)
  case hQ32 => exact fun _ _ _ h => h
  try simp only [Act.put, List.setIfInBounds_toArray, List.set_cons_zero, List.set_cons_succ]
  refine wpAnyH_take (i := 33) (oi := ?oi33) (v := ?v33) ?hi33 ?hs33 ?hf33 ?hr33 ?hQ33 (Or.inl ⟨?hw33, ?hy33⟩) (by assumption) ?h33
  case hi33 => (simp only [List.getElem?_toArray, List.getElem?_cons_succ, List.getElem?_cons_zero]; rfl)
  case hs33 => kernel_rfl
  case hf33 => kernel_rfl
  case hr33 => kernel_rfl
  case hw33 => rfl
  case hy33 => (intro w0 hSw; have z := (show ∀ i, w0.cell? ⟨w.heap.size, i, none⟩ = #[Value.int .i64 c.p, .int .i64 c.d, .int .i64 c.e.k, .int .i64 c.e.j, .int .i64 c.e.v, .int .i64 c.e.t, .int .i64 c.e.c, .int .i64 c.a, .int .i64 c.l, .int .i64 c.n, .slice a1 m1 k1, .slice a2 m2 k2][i]? from fun i => Joins.cell_of_block ((PB.out w0 hSw).at (.tail _ (.tail _ (.head _)))) i); clear hSw; go_simp; first | done | with_reducible rfl)
  case hQ33 => exact fun _ _ _ h => h
  try simp only [Act.put, List.setIfInBounds_toArray, List.set_cons_zero, List.set_cons_succ]
  refine wpAnyH_take (i := 34) (oi := ?oi34) (v := ?v34) ?hi34 ?hs34 ?hf34 ?hr34 ?hQ34 (Or.inl ⟨?hw34, ?hy34⟩) (by assumption) ?h34
  case hi34 => (simp only [List.getElem?_toArray, List.getElem?_cons_succ, List.getElem?_cons_zero]; rfl)
  case hs34 => kernel_rfl
  case hf34 => kernel_rfl
  case hr34 => kernel_rfl
  case hw34 => rfl
  case hy34 => (intro w0 hSw; (try dsimp only at hSw); go_simp; first | done | with_reducible rfl)
  case hQ34 => exact fun _ _ _ h => h
  try simp only [Act.put, List.setIfInBounds_toArray, List.set_cons_zero, List.set_cons_succ]
  refine wpAnyH_take (i := 35) (oi := ?oi35) (v := ?v35) ?hi35 ?hs35 ?hf35 ?hr35 ?hQ35 (Or.inl ⟨?hw35, ?hy35⟩) (by assumption) ?h35
  case hi35 => (simp only [List.getElem?_toArray, List.getElem?_cons_succ, List.getElem?_cons_zero]; rfl)
  case hs35 => kernel_rfl
  case hf35 => kernel_rfl
  case hr35 => kernel_rfl
  case hw35 => rfl
  case hy35 => (intro w0 hSw; have z := (show ∀ i, w0.cell? ⟨g1, i, none⟩ = #[Value.int .i64 (⟨c.p, 1, ⟨3, j, 0, z0.n, me⟩, 0, 0, c.n, c.js, c.rs⟩ : Cl).p, .int .i64 (⟨c.p, 1, ⟨3, j, 0, z0.n, me⟩, 0, 0, c.n, c.js, c.rs⟩ : Cl).d, .int .i64 (⟨c.p, 1, ⟨3, j, 0, z0.n, me⟩, 0, 0, c.n, c.js, c.rs⟩ : Cl).e.k, .int .i64 (⟨c.p, 1, ⟨3, j, 0, z0.n, me⟩, 0, 0, c.n, c.js, c.rs⟩ : Cl).e.j, .int .i64 (⟨c.p, 1, ⟨3, j, 0, z0.n, me⟩, 0, 0, c.n, c.js, c.rs⟩ : Cl).e.v, .int .i64 (⟨c.p, 1, ⟨3, j, 0, z0.n, me⟩, 0, 0, c.n, c.js, c.rs⟩ : Cl).e.t, .int .i64 (⟨c.p, 1, ⟨3, j, 0, z0.n, me⟩, 0, 0, c.n, c.js, c.rs⟩ : Cl).e.c, .int .i64 (⟨c.p, 1, ⟨3, j, 0, z0.n, me⟩, 0, 0, c.n, c.js, c.rs⟩ : Cl).a, .int .i64 (⟨c.p, 1, ⟨3, j, 0, z0.n, me⟩, 0, 0, c.n, c.js, c.rs⟩ : Cl).l, .int .i64 (⟨c.p, 1, ⟨3, j, 0, z0.n, me⟩, 0, 0, c.n, c.js, c.rs⟩ : Cl).n, .slice s1 j1 o1, .slice t1 q1 p1][i]? from fun i => Joins.cell_of_block ((PB.out w0 hSw).at (.head _)) i); clear hSw; go_simp; first | done | with_reducible rfl)
  case hQ35 => exact fun _ _ _ h => h
  try simp only [Act.put, List.setIfInBounds_toArray, List.set_cons_zero, List.set_cons_succ]
  refine wpAnyH_ready (rs := [36]) (by kernel_rfl) (by simp) ?_
  refine AllReadyH.cons (o := ?o36) ?hi36 ?step36 AllReadyH.nil
  case hi36 => (simp only [List.getElem?_toArray, List.getElem?_cons_succ, List.getElem?_cons_zero]; rfl)
  intro K hK
  go_simp
  refine (pS.out _ _ _ ((PB.out _ hHeld).books (.tail _ (.head _))) ((PB.out _ hHeld).books (.head _))).mono ?_
  rintro e wq ⟨rfl, hbq⟩
  refine hK.out _ _ (PS.out _ _ hHeld hbq) (fun hHeld => ?_)
  clear hK K
  try simp only [Act.put, List.setIfInBounds_toArray, List.set_cons_zero, List.set_cons_succ]
  clear hbq
  refine wpAnyH_take (i := 37) (oi := ?oi37) (v := ?v37) ?hi37 ?hs37 ?hf37 ?hr37 ?hQ37 (Or.inl ⟨?hw37, ?hy37⟩) (by assumption) ?h37
  case hi37 => (simp only [List.getElem?_toArray, List.getElem?_cons_succ, List.getElem?_cons_zero]; rfl)
  case hs37 => kernel_rfl
  case hf37 => kernel_rfl
  case hr37 => kernel_rfl
  case hw37 => rfl
  case hy37 => (intro w0 hSw; (try dsimp only at hSw); go_simp; first | done | with_reducible rfl)
  case hQ37 => exact fun _ _ _ h => h
  try simp only [Act.put, List.setIfInBounds_toArray, List.set_cons_zero, List.set_cons_succ]
  refine wpAnyH_take (i := 38) (oi := ?oi38) (v := ?v38) ?hi38 ?hs38 ?hf38 ?hr38 ?hQ38 (Or.inl ⟨?hw38, ?hy38⟩) (by assumption) ?h38
  case hi38 => (simp only [List.getElem?_toArray, List.getElem?_cons_succ, List.getElem?_cons_zero]; rfl)
  case hs38 => kernel_rfl
  case hf38 => kernel_rfl
  case hr38 => kernel_rfl
  case hw38 => rfl
  case hy38 => (intro w0 hSw; (try dsimp only at hSw); go_simp; first | done | with_reducible rfl)
  case hQ38 => exact fun _ _ _ h => h
  try simp only [Act.put, List.setIfInBounds_toArray, List.set_cons_zero, List.set_cons_succ]
  refine wpAnyH_done (by kernel_rfl) ?_ _
  have H6 : Aside _ := PB.out _ hHeld
  clear hHeld PS PH PB hne pS
  generalize wq = w6 at *
  have z : ∀ i, w6.cell? ⟨w.heap.size, i, none⟩ = #[Value.int .i64 c.p, .int .i64 c.d, .int .i64 c.e.k, .int .i64 c.e.j, .int .i64 c.e.v, .int .i64 c.e.t, .int .i64 c.e.c, .int .i64 c.a, .int .i64 c.l, .int .i64 c.n, .slice a1 m1 k1, .slice a2 m2 k2][i]? := fun i => Joins.cell_of_block (H6.out.at (.tail _ (.tail _ (.head _)))) i
  go_wp2_with fail
  refine (pN.out _ (H6.out.books (.tail _ (.head _)))).mono ?_
  rintro e w7 ⟨rfl, hb7⟩
  have H7 : Aside (HeldC w w7 [(g1, boxC (⟨c.p, 1, ⟨3, j, 0, z0.n, me⟩, 0, 0, c.n, c.js, c.rs⟩ : Cl) (.slice s1 j1 o1) (.slice t1 q1 p1)), (w.heap.size + 1, .cells #[.int .i64 j] 3), (w.heap.size, boxC c (.slice a1 m1 k1) (.slice a2 m2 k2))] [((.slice s1 j1 o1), (.slice t1 q1 p1), (⟨c.p, 1, ⟨3, j, 0, z0.n, me⟩, 0, 0, c.n, c.js, c.rs⟩ : Cl)), ((.slice a1 m1 k1), (.slice a2 m2 k2), c)]) := H6.out.later hb7
  clear hb7 H6 z pN
  have z : ∀ i, w7.cell? ⟨g1, i, none⟩ = #[Value.int .i64 (⟨c.p, 1, ⟨3, j, 0, z0.n, me⟩, 0, 0, c.n, c.js, c.rs⟩ : Cl).p, .int .i64 (⟨c.p, 1, ⟨3, j, 0, z0.n, me⟩, 0, 0, c.n, c.js, c.rs⟩ : Cl).d, .int .i64 (⟨c.p, 1, ⟨3, j, 0, z0.n, me⟩, 0, 0, c.n, c.js, c.rs⟩ : Cl).e.k, .int .i64 (⟨c.p, 1, ⟨3, j, 0, z0.n, me⟩, 0, 0, c.n, c.js, c.rs⟩ : Cl).e.j, .int .i64 (⟨c.p, 1, ⟨3, j, 0, z0.n, me⟩, 0, 0, c.n, c.js, c.rs⟩ : Cl).e.v, .int .i64 (⟨c.p, 1, ⟨3, j, 0, z0.n, me⟩, 0, 0, c.n, c.js, c.rs⟩ : Cl).e.t, .int .i64 (⟨c.p, 1, ⟨3, j, 0, z0.n, me⟩, 0, 0, c.n, c.js, c.rs⟩ : Cl).e.c, .int .i64 (⟨c.p, 1, ⟨3, j, 0, z0.n, me⟩, 0, 0, c.n, c.js, c.rs⟩ : Cl).a, .int .i64 (⟨c.p, 1, ⟨3, j, 0, z0.n, me⟩, 0, 0, c.n, c.js, c.rs⟩ : Cl).l, .int .i64 (⟨c.p, 1, ⟨3, j, 0, z0.n, me⟩, 0, 0, c.n, c.js, c.rs⟩ : Cl).n, .slice s1 j1 o1, .slice t1 q1 p1][i]? := fun i => Joins.cell_of_block (H7.out.at (.head _)) i
  go_wp2_with fail
  refine (pP.out _ _ _ (H7.out.books (.head _))).mono ?_
  rintro e w8 ⟨u1, u2, rfl, hT8, hb8⟩
  have hT8 : BkAt w8 u1 u2 (⟨c.p, 1, ⟨3, j, 0, z0.n, me⟩, 0, 0, (c.n + 1), J, Q⟩ : Cl) := by first | exact hT8 | exact hT8.1
  have H8 : Aside _ := (H7.out.later hb8).book hT8
  obtain ⟨s8, o8, t8, p8, rfl, rfl⟩ := bk_slices hT8.1 hT8.2
  clear hb8 H7 hT8 z pP
  obtain ⟨j8, hj8⟩ : ∃ n, Hid (J.length = n) := ⟨_, rfl⟩
  obtain ⟨q8, hq8⟩ : ∃ n, Hid (Q.length = n) := ⟨_, rfl⟩
  rw [hj8.out, hq8.out] at H8 ⊢
  go_upto_region 10 with fail
  have H9 : Aside _ := H8.out.boxed (boxC (⟨c.p, 1, ⟨3, j, 0, z0.n, me⟩, 0, 0, (c.n + 1), J, Q⟩ : Cl) (.slice s8 j8 o8) (.slice t8 q8 p8))
  clear H8
  generalize w8.alloc (boxC (⟨c.p, 1, ⟨3, j, 0, z0.n, me⟩, 0, 0, (c.n + 1), J, Q⟩ : Cl) (.slice s8 j8 o8) (.slice t8 q8 p8)) = w9 at *
  generalize w8.heap.size = g2 at *
  have z : ∀ i, w9.cell? ⟨g2, i, none⟩ = #[Value.int .i64 (⟨c.p, 1, ⟨3, j, 0, z0.n, me⟩, 0, 0, (c.n + 1), J, Q⟩ : Cl).p, .int .i64 (⟨c.p, 1, ⟨3, j, 0, z0.n, me⟩, 0, 0, (c.n + 1), J, Q⟩ : Cl).d, .int .i64 (⟨c.p, 1, ⟨3, j, 0, z0.n, me⟩, 0, 0, (c.n + 1), J, Q⟩ : Cl).e.k, .int .i64 (⟨c.p, 1, ⟨3, j, 0, z0.n, me⟩, 0, 0, (c.n + 1), J, Q⟩ : Cl).e.j, .int .i64 (⟨c.p, 1, ⟨3, j, 0, z0.n, me⟩, 0, 0, (c.n + 1), J, Q⟩ : Cl).e.v, .int .i64 (⟨c.p, 1, ⟨3, j, 0, z0.n, me⟩, 0, 0, (c.n + 1), J, Q⟩ : Cl).e.t, .int .i64 (⟨c.p, 1, ⟨3, j, 0, z0.n, me⟩, 0, 0, (c.n + 1), J, Q⟩ : Cl).e.c, .int .i64 (⟨c.p, 1, ⟨3, j, 0, z0.n, me⟩, 0, 0, (c.n + 1), J, Q⟩ : Cl).a, .int .i64 (⟨c.p, 1, ⟨3, j, 0, z0.n, me⟩, 0, 0, (c.n + 1), J, Q⟩ : Cl).l, .int .i64 (⟨c.p, 1, ⟨3, j, 0, z0.n, me⟩, 0, 0, (c.n + 1), J, Q⟩ : Cl).n, .slice s8 j8 o8, .slice t8 q8 p8][i]? := fun i => Joins.cell_of_block (H9.out.at (.head _)) i
  go_wp2_with fail
  refine (pM.out _ _ _ (H9.out.books (.head _))).mono ?_
  rintro e w10 ⟨rfl, hb10⟩
  have H10 : Aside (HeldC w w10 [(g2, boxC (⟨c.p, 1, ⟨3, j, 0, z0.n, me⟩, 0, 0, (c.n + 1), J, Q⟩ : Cl) (.slice s8 j8 o8) (.slice t8 q8 p8)), (g1, boxC (⟨c.p, 1, ⟨3, j, 0, z0.n, me⟩, 0, 0, c.n, c.js, c.rs⟩ : Cl) (.slice s1 j1 o1) (.slice t1 q1 p1)), (w.heap.size + 1, .cells #[.int .i64 j] 3), (w.heap.size, boxC c (.slice a1 m1 k1) (.slice a2 m2 k2))] [((.slice s8 j8 o8), (.slice t8 q8 p8), (⟨c.p, 1, ⟨3, j, 0, z0.n, me⟩, 0, 0, (c.n + 1), J, Q⟩ : Cl)), ((.slice s1 j1 o1), (.slice t1 q1 p1), (⟨c.p, 1, ⟨3, j, 0, z0.n, me⟩, 0, 0, c.n, c.js, c.rs⟩ : Cl)), ((.slice a1 m1 k1), (.slice a2 m2 k2), c)]) := H9.out.later hb10
  clear hb10 H9 z pM
  have z : ∀ i, w10.cell? ⟨w.heap.size, i, none⟩ = #[Value.int .i64 c.p, .int .i64 c.d, .int .i64 c.e.k, .int .i64 c.e.j, .int .i64 c.e.v, .int .i64 c.e.t, .int .i64 c.e.c, .int .i64 c.a, .int .i64 c.l, .int .i64 c.n, .slice a1 m1 k1, .slice a2 m2 k2][i]? := fun i => Joins.cell_of_block (H10.out.at (.tail _ (.tail _ (.tail _ (.head _))))) i
  obtain ⟨N, hN⟩ : ∃ n, Hid (countOf c.js tt = n) := ⟨_, rfl⟩
  obtain ⟨M, hM⟩ : ∃ n, Hid (countOf J tt = n) := ⟨_, rfl⟩
  rw [hN.out, hM.out] at hcm hcs
  rw [hN.out] at hw
  rw [hN.out, hM.out]
  have HB := H10.out.below
  clear H10
  go_wp2
  go_ret
  exact ⟨rfl, HB⟩

/-- ClientRings. -/
theorem clRings_any (c : Cl) (me j tt : Int) (a1 a2 : Option Addr) (m1 k1 m2 k2 : Nat) (w : World) (hb : BkAt w (.slice a1 m1 k1) (.slice a2 m2 k2) c) (hs : Slim c) :
    Calls Try.prog 7 #[c.val (.slice a1 m1 k1) (.slice a2 m2 k2), .int .i64 me, .int .i64 j, .int .i64 tt] w fun e w' => e = .returned (.bool true) ∧ Below w.heap.size w w' := by
  obtain ⟨RR, eR, hR⟩ : ∃ R n, ringOf c me j tt = (R, n) := ⟨_, _, rfl⟩
  by_cases he : eR = 0
  · obtain ⟨hck, hd, htt, hme, z, htab, hn, hx, hR'⟩ := ring_ok (c := c) (me := me) (j := j) (t := tt) (by rw [hR]; exact he)
    have hok := (Cl.ck_zero.1 hck).2.2.2
    have hm : (dueOf c.js tt).length ≤ most := by have := dueOf_few tt c.js; have := hok.few; unfold most; omega
    have hde : dueErr c.js c.rs tt = 0 := by rw [due_ok_err hck, if_neg (by omega)]
    have hle : decide (tt < z.n) = false := decide_eq_false (by omega)
    rcases due_find hok tt j with ⟨_, hno⟩ | ⟨k, z', hi, hk, hz, htab', _, _, _⟩
    · exact absurd (hno z htab) (by omega)
    · rw [htab] at htab'
      obtain rfl := Option.some.inj htab'
      obtain ⟨hful, hnot⟩ := rung_play (me := me) hck htab hn hx
      by_cases h60 : c.n = 60
      · exact ri_full c me j tt a1 a2 m1 k1 m2 k2 w hb z hR' hs k hm hi hk hz hle hde (hful h60)
      · obtain ⟨J, Q, hP, hJ, hcnt⟩ := hnot h60
        have hdj : dueErr J Q tt = 0 := by rw [dueErr, if_neg (by simpa using ckBook_zero.2 hJ), if_neg (by omega)]
        have hc := count_bounds hok htt.2
        have hw : IntKind.i64.wrap (countOf c.js tt - 1) = countOf c.js tt - 1 := by rw [IntKind.wrap_i64]; omega
        rcases hcnt with h1 | ⟨h1, h2⟩
        · exact ri_one c me j tt a1 a2 m1 k1 m2 k2 w hb z hR' hs k hm hi hk hz hle hde J Q hP hdj hw (by rw [beq_iff_eq]; omega)
        · have hl : c.rs.length = m2 := hb.2.len
          exact ri_same c me j tt a1 a2 m1 k1 m2 k2 w hb z hR' hs k hm hi hk hz hle hde J Q hP hdj hw (by rw [beq_eq_false_iff_ne]; omega) (by rw [beq_iff_eq]; omega) (by rw [beq_iff_eq]; omega)
  · exact ri_err c me j tt a1 a2 m1 k1 m2 k2 w hb RR eR hR (by rw [bne_iff_ne]; exact he)

end Go.Proofs.Ytbokdcdnandgbae
