/- For the law. -/
import Derived.Test.YtmoaobfmopimlafGreatDoorM65
set_option linter.unusedSimpArgs false
set_option linter.unusedVariables false
namespace Go.Proofs.YtmoaobfmopimlafGreatDoor
open Go.RowKit
section
open scoped Classical
set_option maxHeartbeats 4000000 in
set_option maxRecDepth 100000 in
theorem eqfC (v v' : Value) (xs ys : List Cb) (w : World) (h : SlOf Cb.cells 12 w v xs) (h' : SlOf Cb.cells 12 w v' ys) (hX : ∀ x, x ∈ xs → ClientT w x ∧ x.c.js.length ≤ most ∧ x.c.rs.length ≤ most) (hY : ∀ x, x ∈ ys → ClientT w x) (hn : xs.length ≤ most) :
  Calls Tryz.prog 39 #[v, v', .func (.func 12) #[] #[]] w fun e w' => e = .returned (.bool (decide (clientsOf xs = clientsOf ys))) ∧ Below w.heap.size w w' := by
 have eg : ∀ args w, (callFunc 12 args).run Tryz.prog w = .ok (.enter 12 args) w := fun _ _ => rfl
 have H1 : Hid (SlOf Cb.cells 12 w v xs) := h
 have H2 : Hid (SlOf Cb.cells 12 w v' ys) := h'
 have HXY : Aside ((∀ x, x ∈ xs → ClientT w x ∧ x.c.js.length ≤ most ∧ x.c.rs.length ≤ most) ∧ ∀ x, x ∈ ys → ClientT w x) := ⟨hX, hY⟩
 obtain ⟨a, n, c, rfl⟩ := slOf_sl h
 obtain ⟨a', n', c', rfl⟩ := slOf_sl h'
 have L1 : Hid (xs.length = n) := SlOf.len h
 have L2 : Hid (ys.length = n') := SlOf.len h'
 rw [L1.out] at hn
 replace hn : n ≤ 9223372036854775807 := hn
 obtain ⟨bb, HBB⟩ : ∃ bb, Hid (decide (clientsOf xs = clientsOf ys) = bb) := ⟨_, rfl⟩
 rw [HBB.out]
 clear h h' hX hY
 by_cases hnn : n = n'
 ·subst hnn
  go_enter Tryz.func39, Tryz.ntmps39
  go_wp2
  go_loopw [17] (fun i wr => ∃ k : Nat, k ≤ n ∧ i = .int .i64 k ∧ Below w.heap.size w wr ∧ Hid ((clientsOf xs).take k = (clientsOf ys).take k)) (fun i _ => n - (intOf i).toNat)
  case atStart => exact ⟨0, Nat.zero_le _, rfl, Below.refl _ _, rfl⟩
  case round =>
   obtain ⟨k, hk, rfl, hB, hst⟩ := hrel
   by_cases hlt : k < n
   ·obtain ⟨x, hx⟩ : ∃ x, xs[k]? = some x := ⟨xs[k]'(by have := L1.out; omega), List.getElem?_eq_getElem _⟩
    obtain ⟨y, hy⟩ : ∃ y, ys[k]? = some y := ⟨ys[k]'(by have := L2.out; omega), List.getElem?_eq_getElem _⟩
    obtain ⟨b, off, rfl, hE0⟩ := H1.out.at (by omega)
    obtain ⟨b', off_, rfl, hE0'⟩ := H2.out.at (by omega)
    have hTx := HXY.out.1 x (List.mem_of_getElem? hx)
    have hTy := HXY.out.2 y (List.mem_of_getElem? hy)
    have hEx : Hid ((clientsOf xs)[k]? = some x.c) := clients_at hx
    have hEy : Hid ((clientsOf ys)[k]? = some y.c) := clients_at hy
    obtain ⟨N, v1, v2⟩ := x
    obtain ⟨M, u1, u2⟩ := y
    obtain ⟨a1, m1, k1, e1⟩ := slOf_sl hTx.1.1
    obtain ⟨a2, m2, k2, e2⟩ := slOf_sl hTx.1.2
    obtain ⟨d1, o1, l1, f1⟩ := slOf_sl hTy.1
    obtain ⟨d2, o2, l2, f2⟩ := slOf_sl hTy.2
    dsimp only at e1 e2 f1 f2 hEx hEy
    subst e1 e2 f1 f2
    have hE := hE0.later hB
    have c0 : wr.cell? ⟨b, off + k * 12, none⟩ = some (.int .i64 N.p) := hE k _ hx 0 _ rfl
    have c1 : wr.cell? ⟨b, off + k * 12 + 1, none⟩ = some (.int .i64 N.d) := hE k _ hx 1 _ rfl
    have c2 : wr.cell? ⟨b, off + k * 12 + 2, none⟩ = some (.int .i64 N.e.k) := hE k _ hx 2 _ rfl
    have c3 : wr.cell? ⟨b, off + k * 12 + 3, none⟩ = some (.int .i64 N.e.j) := hE k _ hx 3 _ rfl
    have c4 : wr.cell? ⟨b, off + k * 12 + 4, none⟩ = some (.int .i64 N.e.v) := hE k _ hx 4 _ rfl
    have c5 : wr.cell? ⟨b, off + k * 12 + 5, none⟩ = some (.int .i64 N.e.t) := hE k _ hx 5 _ rfl
    have c6 : wr.cell? ⟨b, off + k * 12 + 6, none⟩ = some (.int .i64 N.e.c) := hE k _ hx 6 _ rfl
    have c7 : wr.cell? ⟨b, off + k * 12 + 7, none⟩ = some (.int .i64 N.a) := hE k _ hx 7 _ rfl
    have c8 : wr.cell? ⟨b, off + k * 12 + 8, none⟩ = some (.int .i64 N.l) := hE k _ hx 8 _ rfl
    have c9 : wr.cell? ⟨b, off + k * 12 + 9, none⟩ = some (.int .i64 N.n) := hE k _ hx 9 _ rfl
    have c10 : wr.cell? ⟨b, off + k * 12 + 10, none⟩ = some (.slice a1 m1 k1) := hE k _ hx 10 _ rfl
    have c11 : wr.cell? ⟨b, off + k * 12 + 11, none⟩ = some (.slice a2 m2 k2) := hE k _ hx 11 _ rfl
    have hB1 := grew hB (boxC N (.slice a1 m1 k1) (.slice a2 m2 k2))
    have HB1 : Aside (Below w.heap.size w (wr.alloc (boxC N (.slice a1 m1 k1) (.slice a2 m2 k2)))) := hB1
    have HZ1 : Aside ((wr.alloc (boxC N (.slice a1 m1 k1) (.slice a2 m2 k2))).heap[wr.heap.size]? = some (boxC N (.slice a1 m1 k1) (.slice a2 m2 k2))) := heap_new _ _
    have hE' := hE0'.later hB1
    have hki : (k : Int) < n := by omega
    have hk0 : (0 : Int) ≤ (k : Int) := by omega
    obtain ⟨sb, HSB⟩ : ∃ sb, Hid (sameC N M = sb) := ⟨_, rfl⟩
    have kf := fun W (hb : Below w.heap.size w W) => cl_same N M (.slice a1 m1 k1) (.slice a2 m2 k2) (.slice d1 o1 l1) (.slice d2 o2 l2) W (bkAt_later hTx.1 hb) (bkAt_later hTy hb) hTx.2.1 hTx.2.2
    rw [HSB.out] at kf
    have KF : Aside _ := kf
    have HST : Hid _ := hst.out
    clear hE hB hB1 hE0 hE0' kf hst hTx hTy hx
    go_upto_region 6 with fail
    clear c0 c1 c2 c3 c4 c5 c6 c7 c8 c9 c10 c11
    generalize wr.alloc (boxC N (.slice a1 m1 k1) (.slice a2 m2 k2)) = Z at *
    generalize wr.heap.size = cb at *
    have e0 : Z.cell? ⟨b', off_ + k * 12, none⟩ = some (.int .i64 M.p) := hE' k _ hy 0 _ rfl
    have e1 : Z.cell? ⟨b', off_ + k * 12 + 1, none⟩ = some (.int .i64 M.d) := hE' k _ hy 1 _ rfl
    have e2 : Z.cell? ⟨b', off_ + k * 12 + 2, none⟩ = some (.int .i64 M.e.k) := hE' k _ hy 2 _ rfl
    have e3 : Z.cell? ⟨b', off_ + k * 12 + 3, none⟩ = some (.int .i64 M.e.j) := hE' k _ hy 3 _ rfl
    have e4 : Z.cell? ⟨b', off_ + k * 12 + 4, none⟩ = some (.int .i64 M.e.v) := hE' k _ hy 4 _ rfl
    have e5 : Z.cell? ⟨b', off_ + k * 12 + 5, none⟩ = some (.int .i64 M.e.t) := hE' k _ hy 5 _ rfl
    have e6 : Z.cell? ⟨b', off_ + k * 12 + 6, none⟩ = some (.int .i64 M.e.c) := hE' k _ hy 6 _ rfl
    have e7 : Z.cell? ⟨b', off_ + k * 12 + 7, none⟩ = some (.int .i64 M.a) := hE' k _ hy 7 _ rfl
    have e8 : Z.cell? ⟨b', off_ + k * 12 + 8, none⟩ = some (.int .i64 M.l) := hE' k _ hy 8 _ rfl
    have e9 : Z.cell? ⟨b', off_ + k * 12 + 9, none⟩ = some (.int .i64 M.n) := hE' k _ hy 9 _ rfl
    have e10 : Z.cell? ⟨b', off_ + k * 12 + 10, none⟩ = some (.slice d1 o1 l1) := hE' k _ hy 10 _ rfl
    have e11 : Z.cell? ⟨b', off_ + k * 12 + 11, none⟩ = some (.slice d2 o2 l2) := hE' k _ hy 11 _ rfl
    have HB2 : Aside (Below w.heap.size w (Z.alloc (boxC M (.slice d1 o1 l1) (.slice d2 o2 l2)))) := grew HB1.out _
    have HX2 : Aside ((Z.alloc (boxC M (.slice d1 o1 l1) (.slice d2 o2 l2))).heap[cb]? = some (boxC N (.slice a1 m1 k1) (.slice a2 m2 k2))) := heap_old HZ1.out _
    have HY2 : Aside ((Z.alloc (boxC M (.slice d1 o1 l1) (.slice d2 o2 l2))).heap[Z.heap.size]? = some (boxC M (.slice d1 o1 l1) (.slice d2 o2 l2))) := heap_new _ _
    clear hE' hy
    go_upto_region 7 with fail
    clear e0 e1 e2 e3 e4 e5 e6 e7 e8 e9 e10 e11 HZ1 HB1
    generalize Z.alloc (boxC M (.slice d1 o1 l1) (.slice d2 o2 l2)) = Z2 at *
    generalize Z.heap.size = db at *
    have kf := KF.out Z2 HB2.out
    have z1 := cb HX2
    have z2 := cb HY2
    cases sb with
    | true =>
     have HN : Hid ((clientsOf xs).take (k + 1) = (clientsOf ys).take (k + 1)) := by
      rw [Hid, List.take_add_one, List.take_add_one, hEx.out, hEy.out, HST.out, sameC_eq HSB.out]
     clear KF
     go_wp2_with (go_at_fn 12; refine kf.mono ?_; rintro e w3 ⟨rfl, hb3⟩)
     have HB3 := sb HB2 hb3
     go_roundw
     case rel => exact ⟨k + 1, by omega, by go_num, HB3.out, HN⟩
     case measure => simp [intOf]; omega
    | false =>
     have HR : Hid (bb = false) := by
      rw [Hid, ← HBB.out, decide_eq_false]
      intro hc
      have h1 := hEx.out
      rw [hc, hEy.out] at h1
      exact absurd (show sameC N M = true by rw [show N = M from (Option.some.inj h1).symm]; exact sameC_self _) (by rw [HSB.out]; simp)
     clear KF HBB
     go_wp2_with (go_at_fn 12; refine kf.mono ?_; rintro e w3 ⟨rfl, hb3⟩)
     go_ret
     exact ⟨by rw [HR.out]; rfl, step_below1 HB2.out hb3⟩
   ·have HR : Hid (bb = true) := by
     rw [Hid, ← HBB.out, decide_eq_true]
     have h := hst.out
     rwa [List.take_of_length_le (by rw [List.length_map, L1.out]; omega), List.take_of_length_le (by rw [List.length_map, L2.out]; omega)] at h
    have HB2 : Aside (Below w.heap.size w wr) := hB
    clear hst HBB hB
    go_wp2
    go_ret
    exact ⟨by rw [HR.out]; rfl, HB2.out⟩
 ·have HR : Hid (bb = false) := by
   rw [Hid, ← HBB.out, decide_eq_false]
   intro hc
   have := congrArg List.length hc
   rw [List.length_map, List.length_map, L1.out, L2.out] at this
   exact hnn this
  have hnb : ((n : Int) != (n' : Int)) = true := by rw [bne_iff_ne]; omega
  clear HBB
  go_enter Tryz.func39, Tryz.ntmps39
  go_wp2
  go_ret
  exact ⟨by rw [HR.out]; rfl, Below.refl _ _⟩
end
section
open scoped Classical
set_option maxHeartbeats 4000000 in
set_option maxRecDepth 100000 in
theorem same_at (a1 a2 d1 d2 : Option Addr) (n1 c1 n2 c2 m1 k1 m2 k2 : Nat) (tip t tip' t' : Int) (p q : Bool) (w : World)
  (kn : ∀ W, Below w.heap.size w W → Calls Tryz.prog 37 #[.slice a1 n1 c1, .slice d1 m1 k1, .func (.func 38) #[] #[]] W fun e w' => e = .returned (.bool p) ∧ Below W.heap.size W w')
  (kc : ∀ W, Below w.heap.size w W → Calls Tryz.prog 39 #[.slice a2 n2 c2, .slice d2 m2 k2, .func (.func 12) #[] #[]] W fun e w' => e = .returned (.bool q) ∧ Below W.heap.size W w') :
  Calls Tryz.prog 16 #[wval (.slice a1 n1 c1) tip (.slice a2 n2 c2) t, wval (.slice d1 m1 k1) tip' (.slice d2 m2 k2) t'] w fun e w' => e = .returned (.bool ((tip == tip') && ((t == t') && (p && q)))) ∧ Below w.heap.size w w' := by
 have HB0 : Aside (Below w.heap.size w ((w.alloc (boxW (.slice a1 n1 c1) tip (.slice a2 n2 c2) t)).alloc (boxW (.slice d1 m1 k1) tip' (.slice d2 m2 k2) t'))) := grew (grew (Below.refl _ _) _) _
 have HX0 : Aside (((w.alloc (boxW (.slice a1 n1 c1) tip (.slice a2 n2 c2) t)).alloc (boxW (.slice d1 m1 k1) tip' (.slice d2 m2 k2) t')).heap[w.heap.size]? = some (boxW (.slice a1 n1 c1) tip (.slice a2 n2 c2) t)) := heap_old (heap_new _ _) _
 have HY0 : Aside (((w.alloc (boxW (.slice a1 n1 c1) tip (.slice a2 n2 c2) t)).alloc (boxW (.slice d1 m1 k1) tip' (.slice d2 m2 k2) t')).heap[w.heap.size + 1]? = some (boxW (.slice d1 m1 k1) tip' (.slice d2 m2 k2) t')) := by
  have := heap_new (w.alloc (boxW (.slice a1 n1 c1) tip (.slice a2 n2 c2) t)) (boxW (.slice d1 m1 k1) tip' (.slice d2 m2 k2) t')
  rwa [World.size_alloc] at this
 have KN : Aside _ := kn
 have KC : Aside _ := kc
 clear kn kc
 cases hti : (tip == tip') with
 | false =>
  go_enter Tryz.func16, Tryz.ntmps16
  go_upto_region 1 with fail
  generalize (w.alloc (boxW (.slice a1 n1 c1) tip (.slice a2 n2 c2) t)).alloc (boxW (.slice d1 m1 k1) tip' (.slice d2 m2 k2) t') = W0 at *
  have z0 := cb HX0
  have y0 := cb HY0
  go_wp2
  go_ret
  exact ⟨rfl, HB0.out⟩
 | true =>
  cases htt : (t == t') with
  | false =>
   go_enter Tryz.func16, Tryz.ntmps16
   go_upto_region 1 with fail
   generalize (w.alloc (boxW (.slice a1 n1 c1) tip (.slice a2 n2 c2) t)).alloc (boxW (.slice d1 m1 k1) tip' (.slice d2 m2 k2) t') = W0 at *
   have z0 := cb HX0
   have y0 := cb HY0
   go_wp2
   go_ret
   exact ⟨rfl, HB0.out⟩
  | true =>
   go_enter Tryz.func16, Tryz.ntmps16
   go_upto_region 1 with fail
   generalize (w.alloc (boxW (.slice a1 n1 c1) tip (.slice a2 n2 c2) t)).alloc (boxW (.slice d1 m1 k1) tip' (.slice d2 m2 k2) t') = W0 at *
   have z0 := cb HX0
   have y0 := cb HY0
   have kn := KN.out W0 HB0.out
   go_wp2_with fail
   refine kn.mono ?_
   rintro e w1 ⟨rfl, hb1⟩
   have HB1 := sb HB0 hb1
   have HX1 := hv HX0 hb1
   have HY1 := hv HY0 hb1
   clear kn z0 y0 HX0 HY0 HB0 hb1
   have z1 := cb HX1
   have y1 := cb HY1
   cases p with
   | false =>
    go_wp2
    go_ret
    exact ⟨rfl, HB1.out⟩
   | true =>
    have kc := KC.out w1 HB1.out
    go_wp2_with fail
    refine kc.mono ?_
    rintro e w2 ⟨rfl, hb2⟩
    have HB2 := sb HB1 hb2
    clear kc z1 y1 HX1 HY1 HB1 hb2
    go_wp2
    go_ret
    exact ⟨by simp, HB2.out⟩
theorem w_same (vn vc un uc : Value) (xs ys : List Nb) (cs ds : List Cb) (tip t tip' t' : Int) (w : World) (h : WdAt w vn vc xs cs) (h' : WdAt w un uc ys ds) (hf : WdFits xs cs) :
  Calls Tryz.prog 16 #[wval vn tip vc t, wval un tip' uc t'] w fun e w' => e = .returned (.bool (decide (wdOf xs tip cs t = wdOf ys tip' ds t'))) ∧ Below w.heap.size w w' := by
 have kn := fun W (hb : Below w.heap.size w W) => eqfN vn un xs ys W (h.rowN.later hb) (h'.rowN.later hb) (fun x hx => ⟨(h.node x hx).later hb, hf.cells x hx⟩) (fun x hx => (h'.node x hx).later hb) hf.nsl
 have kc := fun W (hb : Below w.heap.size w W) => eqfC vc uc cs ds W (h.rowC.later hb) (h'.rowC.later hb) (fun x hx => ⟨bkAt_later (h.client x hx) hb, hf.jobs x hx, hf.rung x hx⟩) (fun x hx => bkAt_later (h'.client x hx) hb) hf.csl
 obtain ⟨a1, n1, c1, rfl⟩ := slOf_sl h.rowN
 obtain ⟨a2, n2, c2, rfl⟩ := slOf_sl h.rowC
 obtain ⟨d1, m1, k1, rfl⟩ := slOf_sl h'.rowN
 obtain ⟨d2, m2, k2, rfl⟩ := slOf_sl h'.rowC
 have := same_at a1 a2 d1 d2 n1 c1 n2 c2 m1 k1 m2 k2 tip t tip' t' _ _ w kn kc
 have e : decide (wdOf xs tip cs t = wdOf ys tip' ds t') = ((tip == tip') && ((t == t') && (decide (nodesOf xs = nodesOf ys) && decide (clientsOf cs = clientsOf ds)))) := by
  rw [Bool.eq_iff_iff, decide_eq_true_iff]
  simp only [Wd.mk.injEq, Bool.and_eq_true, decide_eq_true_eq, beq_iff_eq]
  constructor
  ·rintro ⟨h1, h2, h3, h4⟩; exact ⟨h2, h4, h1, h3⟩
  ·rintro ⟨h1, h2, h3, h4⟩; exact ⟨h3, h1, h4, h2⟩
 rw [e]
 exact this
end
section
open scoped Classical
def WV (w : World) (vn vc : Value) (W : Wd) : Prop := ∃ xs cs, WdAt w vn vc xs cs ∧ WdFits xs cs ∧ nodesOf xs = W.ns ∧ clientsOf cs = W.cs
theorem WV.later {w w' : World} {vn vc : Value} {W : Wd} (h : WV w vn vc W) (hb : Below w.heap.size w w') : WV w' vn vc W := by
 obtain ⟨xs, cs, h1, h2, h3⟩ := h
 exact ⟨xs, cs, h1.later hb, h2, h3⟩
theorem wd_eq {xs : List Nb} {cs : List Cb} {W : Wd} (h1 : nodesOf xs = W.ns) (h2 : clientsOf cs = W.cs) : wdOf xs W.tip cs W.t = W := by
 show (⟨nodesOf xs, W.tip, clientsOf cs, W.t⟩ : Wd) = W
 rw [h1, h2]
abbrev Good (W : Wd) : Prop := W = Wd.zero ∨ RW W
theorem wd_fits {xs : List Nb} {cs : List Cb} {W : Wd} (h : Good W) (e1 : nodesOf xs = W.ns) (e2 : clientsOf cs = W.cs) : WdFits xs cs := by
 have l1 : xs.length = W.ns.length := by rw [← e1]; exact (List.length_map ..).symm
 have l2 : cs.length = W.cs.length := by rw [← e2]; exact (List.length_map ..).symm
 have hn : ∀ x, x ∈ xs → x.n ∈ W.ns := fun x hx => by rw [← e1]; exact List.mem_map_of_mem hx
 have hc : ∀ x, x ∈ cs → x.c ∈ W.cs := fun x hx => by rw [← e2]; exact List.mem_map_of_mem hx
 rcases h with rfl | hR
 ·exact ⟨by rw [l1]; exact Nat.zero_le _, by rw [l2]; exact Nat.zero_le _, fun x hx => (by cases hn x hx), fun x hx => (by cases hn x hx), fun x hx => (by cases hn x hx), fun x hx => (by cases hc x hx), fun x hx => (by cases hc x hx)⟩
 ·have hk : ∀ x, x ∈ xs → x.n.ck = 0 := fun x hx => by
   obtain ⟨k, h⟩ := List.getElem?_of_mem (hn x hx)
   exact hR.node k x.n h
  have hq : ∀ x, x ∈ cs → x.c.ck = 0 := fun x hx => hR.client x.c (hc x hx)
  exact ⟨by rw [l1, hR.ns3]; decide, by rw [l2, hR.cs3]; decide, fun x hx => Nat.le_trans (Nat.le_of_eq (ckN_ok (hk x hx)).2.2) (by decide), fun x hx => Nat.le_trans (ck_short (hk x hx)).1 (by decide), fun x hx => Nat.le_trans (ck_short (hk x hx)).2 (by decide), fun x hx => Nat.le_trans (ckC_short (hq x hx)).1 (by decide), fun x hx => Nat.le_trans (ckC_short (hq x hx)).2 (by decide)⟩
theorem WRow.at {X w : World} {g1 g2 : Nat} {xs : List Nb} {cs : List Cb} (h : WRow X w g1 g2 xs cs) : WdAt w (.slice (some ⟨g1, 0, none⟩) 3 3) (.slice (some ⟨g2, 0, none⟩) 3 3) xs cs :=
 ⟨by have := slOf_lit (c := 3) Nb.five h.nrow rfl; rwa [h.three] at this, by have := slOf_lit (c := 3) Cb.twelve h.crow rfl; rwa [h.three'] at this, ⟨_, _, _, rfl, Nat.le_refl _⟩, ⟨_, _, _, rfl, Nat.le_refl _⟩, fun x hx => (h.nodes x hx).1, fun x hx => (h.clients x hx).1⟩
theorem WOut.wv {X w : World} {vn vc : Value} {W : Wd} (h : WOut X w vn vc W) (hg : Good W) : WV w vn vc W := by
 rcases h with ⟨rfl, rfl, rfl⟩ | ⟨g1, g2, ys, ds, rfl, rfl, hR, e1, e2⟩
 ·exact ⟨[], [], ⟨SlOf.nil _ _, SlOf.nil _ _, ⟨_, _, _, rfl, Nat.le_refl _⟩, ⟨_, _, _, rfl, Nat.le_refl _⟩, fun x hx => (by cases hx), fun x hx => (by cases hx)⟩, wd_fits (W := Wd.zero) (Or.inl rfl) rfl rfl, rfl, rfl⟩
 ·exact ⟨ys, ds, hR.at, wd_fits hg e1 e2, e1, e2⟩
theorem wnew_right : RW wnew := rw_iff.1 (by kernel_rfl)
theorem doOf_good (W : Wd) (x : Hp) : Good (doOf W x).1 := by
 rw [doOf]
 by_cases h1 : W.ck = 0
 ·rw [if_neg (not_not_intro h1)]
  by_cases h2 : (happened W x).2 = 0
  ·rw [if_neg (not_not_intro h2)]
   exact Or.inr (happened_right (rw_iff.1 h1) x)
  ·rw [if_pos h2]; exact Or.inl rfl
 ·rw [if_pos h1]; exact Or.inl rfl
theorem runOf_good (W : Wd) (l : List Hp) : Good (runOf W l).1 := by
 rw [runOf]
 by_cases h1 : W.ck = 0
 ·rw [if_neg (not_not_intro h1)]
  by_cases h2 : 150 < l.length
  ·rw [if_pos h2]; exact Or.inl rfl
  ·rw [if_neg h2]
   exact Or.inr (runL_right l (rw_iff.1 h1))
 ·rw [if_pos h1]; exact Or.inl rfl
theorem k_check {w : World} {vn vc : Value} {W : Wd} (hL : Laid w) (h : WV w vn vc W) :
  Calls Tryz.prog 11 #[wval vn W.tip vc W.t] w fun e w' => e = .returned (.int .i64 W.ck) ∧ Below w.heap.size w w' := by
 obtain ⟨xs, cs, h1, hf, e1, e2⟩ := h
 have := w_check vn vc xs cs W.tip W.t w hL h1 hf
 rwa [wd_eq e1 e2] at this
abbrev AnsK (f : FuncId) (args : Array Value) (w : World) (r : Wd × Int) : Prop :=
 Calls Tryz.prog f args w fun e w' => ∃ vn vc, e = .returned (.tuple #[wval vn r.1.tip vc r.1.t, .int .i64 r.2]) ∧ WV w' vn vc r.1 ∧ Below w.heap.size w w'
theorem k_do {w : World} {vn vc : Value} {W : Wd} (hL : Laid w) (h : WV w vn vc W) (x : Hp) : AnsK 9 #[wval vn W.tip vc W.t, x.val] w (doOf W x) := by
 obtain ⟨xs, cs, h1, hf, e1, e2⟩ := h
 have := w_do vn vc xs cs W.tip W.t x w hL h1 hf
 rw [wd_eq e1 e2] at this
 exact this.mono fun _ _ ⟨un, uc, he, hO, hb⟩ => ⟨un, uc, he, hO.wv (doOf_good W x), hb⟩
theorem k_run {w : World} {vn vc : Value} {W : Wd} (hL : Laid w) (h : WV w vn vc W) {v : Value} {l : List Hp} (hl : HpSl w v l) :
  Calls Tryz.prog 17 #[wval vn W.tip vc W.t, v] w fun e w' => ∃ un uc sv, e = .returned (.tuple #[wval un (runOf W l).1.tip uc (runOf W l).1.t, sv, .int .i64 (runOf W l).2.2]) ∧ WV w' un uc (runOf W l).1 ∧ ErSl w' sv (runOf W l).2.1 ∧ Below w.heap.size w w' := by
 obtain ⟨xs, cs, h1, hf, e1, e2⟩ := h
 have := w_run vn vc xs cs W.tip W.t v l w hL h1 hf hl
 rw [wd_eq e1 e2] at this
 exact this.mono fun _ _ ⟨un, uc, sv, he, hO, hs, hb⟩ => ⟨un, uc, sv, he, hO.wv (runOf_good W l), hs.sl, hb⟩
theorem k_same {w : World} {vn vc un uc : Value} {A B : Wd} (h : WV w vn vc A) (h' : WV w un uc B) :
  Calls Tryz.prog 16 #[wval vn A.tip vc A.t, wval un B.tip uc B.t] w fun e w' => e = .returned (.bool (decide (A = B))) ∧ Below w.heap.size w w' := by
 obtain ⟨xs, cs, h1, hf, e1, e2⟩ := h
 obtain ⟨ys, ds, h2, _, e3, e4⟩ := h'
 have := w_same vn vc un uc xs ys cs ds A.tip A.t B.tip B.t w h1 h2 hf
 rwa [wd_eq e1 e2, wd_eq e3 e4] at this
theorem k_new (w : World) : Calls Tryz.prog 26 #[] w fun e w' => ∃ vn vc, e = .returned (wval vn 0 vc 0) ∧ WV w' vn vc wnew ∧ Below w.heap.size w w' :=
 (w_new w).mono fun _ _ ⟨un, uc, he, hO, hb⟩ => ⟨un, uc, he, hO.wv (Or.inr wnew_right), hb⟩
structure WF (w : World) (b o b' o' : Nat) (xs : List Nb) (cs : List Cb) (W : Wd) : Prop where
 rowN : RowAt Nb.cells 5 w b o xs
 rowC : RowAt Cb.cells 12 w b' o' cs
 node : ∀ x, x ∈ xs → NodeT w x
 client : ∀ x, x ∈ cs → ClientT w x
 fits : WdFits xs cs
 ns : nodesOf xs = W.ns
 cs : clientsOf cs = W.cs
theorem WF.later {w w' : World} {b o b' o' : Nat} {xs : List Nb} {cs : List Cb} {W : Wd} (h : WF w b o b' o' xs cs W) (hb : Below w.heap.size w w') : WF w' b o b' o' xs cs W :=
 ⟨h.rowN.later hb, h.rowC.later hb, fun x hx => (h.node x hx).later hb, fun x hx => bkAt_later (h.client x hx) hb, h.fits, h.ns, h.cs⟩
theorem roomy_le {a : Option Addr} {n c : Nat} (h : Roomy (.slice a n c)) : n ≤ c := by
 obtain ⟨_, _, _, e, hle⟩ := h
 injection e with _ e1 e2
 omega
theorem WV.form {w : World} {vn vc : Value} {W : Wd} (h : WV w vn vc W) (hR : RW W) : ∃ b o c b' o' c' xs cs, vn = .slice (some ⟨b, o, none⟩) 3 c ∧ vc = .slice (some ⟨b', o', none⟩) 3 c' ∧ 3 ≤ c ∧ 3 ≤ c' ∧ WF w b o b' o' xs cs W := by
 obtain ⟨xs, cs, h1, hf, e1, e2⟩ := h
 have l1 : xs.length = 3 := by rw [← hR.ns3, ← e1]; exact (List.length_map ..).symm
 have l2 : cs.length = 3 := by rw [← hR.cs3, ← e2]; exact (List.length_map ..).symm
 have r1 := h1.roomN
 have r2 := h1.roomC
 obtain ⟨b, o, c, rfl, hE⟩ := h1.rowN.form (by omega)
 obtain ⟨b', o', c', rfl, hE'⟩ := h1.rowC.form (by omega)
 exact ⟨b, o, c, b', o', c', xs, cs, by rw [l1], by rw [l2], by have := roomy_le r1; omega, by have := roomy_le r2; omega, hE, hE', h1.node, h1.client, hf, e1, e2⟩
theorem WF.back {w : World} {b o c b' o' c' : Nat} {xs : List Nb} {cs : List Cb} {W : Wd} (h : WF w b o b' o' xs cs W) (hR : RW W) (hc : 3 ≤ c) (hc' : 3 ≤ c') : WV w (.slice (some ⟨b, o, none⟩) 3 c) (.slice (some ⟨b', o', none⟩) 3 c') W := by
 have l1 : xs.length = 3 := by rw [← hR.ns3, ← h.ns]; exact (List.length_map ..).symm
 have l2 : cs.length = 3 := by rw [← hR.cs3, ← h.cs]; exact (List.length_map ..).symm
 exact ⟨xs, cs, ⟨⟨_, c, by rw [l1], Or.inr ⟨b, o, rfl, h.rowN⟩⟩, ⟨_, c', by rw [l2], Or.inr ⟨b', o', rfl, h.rowC⟩⟩, ⟨_, _, _, rfl, hc⟩, ⟨_, _, _, rfl, hc'⟩, h.node, h.client⟩, h.fits, h.ns, h.cs⟩
theorem WF.nodeAt {w : World} {b o b' o' : Nat} {xs : List Nb} {cs : List Cb} {W : Wd} (h : WF w b o b' o' xs cs W) {k : Nat} {n : Nd} (hn : W.ns[k]? = some n) : ∃ x : Nb, x ∈ xs ∧ x.n = n ∧ NodeT w x ∧ ∀ i v, x.cells[i]? = some v → w.cell? ⟨b, o + k * 5 + i, none⟩ = some v := by
 rw [← h.ns] at hn
 obtain ⟨x, hx, rfl⟩ : ∃ x, xs[k]? = some x ∧ x.n = n := by
  have : (xs.map Nb.n)[k]? = some n := hn
  rw [List.getElem?_map] at this
  cases hx : xs[k]? with
  | none => rw [hx] at this; cases this
  | some x => rw [hx] at this; exact ⟨x, rfl, Option.some.inj this⟩
 exact ⟨x, List.mem_of_getElem? hx, rfl, h.node x (List.mem_of_getElem? hx), fun i v hv => h.rowN k x hx i v hv⟩
theorem WF.clientAt {w : World} {b o b' o' : Nat} {xs : List Nb} {cs : List Cb} {W : Wd} (h : WF w b o b' o' xs cs W) {k : Nat} {c : Cl} (hc : W.cs[k]? = some c) : ∃ x : Cb, x ∈ cs ∧ x.c = c ∧ ClientT w x ∧ ∀ i v, x.cells[i]? = some v → w.cell? ⟨b', o' + k * 12 + i, none⟩ = some v := by
 rw [← h.cs] at hc
 obtain ⟨x, hx, rfl⟩ : ∃ x, cs[k]? = some x ∧ x.c = c := by
  have : (cs.map Cb.c)[k]? = some c := hc
  rw [List.getElem?_map] at this
  cases hx : cs[k]? with
  | none => rw [hx] at this; cases this
  | some x => rw [hx] at this; exact ⟨x, rfl, Option.some.inj this⟩
 exact ⟨x, List.mem_of_getElem? hx, rfl, h.client x (List.mem_of_getElem? hx), fun i v hv => h.rowC k x hx i v hv⟩
end
end Go.Proofs.YtmoaobfmopimlafGreatDoor
