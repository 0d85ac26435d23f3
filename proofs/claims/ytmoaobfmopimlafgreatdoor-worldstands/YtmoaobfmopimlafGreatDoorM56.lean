/- For the law. -/
import Derived.Test.YtmoaobfmopimlafGreatDoorM55
set_option linter.unusedSimpArgs false
set_option linter.unusedVariables false
namespace Go.Proofs.YtmoaobfmopimlafGreatDoor
open Go.RowKit
theorem WIn.cat {X w : World} {B g1 g2 : Nat} {xs : List Nb} {cs : List Cb} {tip t : Int} (h : WIn X w B g1 g2 xs tip cs t) {k : Nat} {y : Cb} (hy : cs[k]? = some y) {i : Nat} {v : Value} (hv : y.cells[i]? = some v) : w.cell? ⟨g2, k * 12 + i, none⟩ = some v := by
 rw [Joins.cell_of_block h.st.crow]
 have := row_flat Cb.twelve cs k y hy i v hv
 simpa using this
theorem WIn.cfz {X w : World} {B g1 g2 : Nat} {xs : List Nb} {cs : List Cb} {tip t : Int} (h : WIn X w B g1 g2 xs tip cs t) (i : Nat) : w.frozen? ⟨g2, i, none⟩ = false := Joins.unfrozen_of_block h.st.crow i
theorem WIn.boxz {X w : World} {B g1 g2 : Nat} {xs : List Nb} {cs : List Cb} {tip t : Int} (h : WIn X w B g1 g2 xs tip cs t) : ∀ i, w.cell? ⟨B, i, none⟩ = #[Value.slice (some ⟨g1, 0, none⟩) 3 3, .int .i64 tip, .slice (some ⟨g2, 0, none⟩) 3 3, .int .i64 t][i]? := fun i => Joins.cell_of_block h.st.box i
theorem wd_cl {W : Wd} {cs : List Cb} (hc : clientsOf cs = W.cs) {k : Nat} {y : Cb} (hy : cs[k]? = some y) : W.cl (k : Int) = y.c := by
 rw [Wd.cl, ← hc, List.getD_eq_getElem?_getD, Int.toNat_natCast, clients_at hy]; rfl
theorem wd_nd {W : Wd} {xs : List Nb} (hn : nodesOf xs = W.ns) {k : Nat} {x : Nb} (hx : xs[k]? = some x) : W.nd (k : Int) = x.n := by
 rw [Wd.nd, ← hn, List.getD_eq_getElem?_getD, Int.toNat_natCast, nodes_at hx]; rfl
theorem has_putC {X w : World} {B g1 g2 : Nat} {W : Wd} {xs : List Nb} {cs : List Cb} (hI : WIn X w B g1 g2 xs W.tip cs W.t) (hn : nodesOf xs = W.ns) (hc : clientsOf cs = W.cs) {k : Nat} {y : Cb} (hy : cs[k]? = some y) {z : Cb} (hz : ClientR w z) : WHas X (stC w g2 (k * 12) z) B g1 g2 (W.putC (k : Int) z.c) := by
 obtain ⟨ds, h1, h2⟩ := liftC hI hy hz
 refine ⟨xs, ds, h1, hn, ?_⟩
 rw [h2, hc]
 show W.cs.set k z.c = W.cs.set (k : Int).toNat z.c
 rw [Int.toNat_natCast]
set_option maxHeartbeats 8000000 in
set_option maxRecDepth 100000 in
theorem w_learn_at {X w : World} {B g1 g2 : Nat} {W : Wd} {xs : List Nb} {cs : List Cb} (hI : WIn X w B g1 g2 xs W.tip cs W.t) (hn : nodesOf xs = W.ns) (hc : clientsOf cs = W.cs) (k : Nat) (hk : k < 3) (c : Cl) (a1 a2 : Option Addr) (m1 k1 m2 k2 : Nat) (hy : cs[k]? = some ⟨c, .slice a1 m1 k1, .slice a2 m2 k2⟩) (p : Int) :
  AnsW 103 #[.pointer (some ⟨B, 0, none⟩), .int .i64 (k : Int), .int .i64 p] X w B g1 g2 (W.onC (k : Int) (learnOf c p)) := by
 obtain ⟨⟨R, d⟩, hq⟩ : ∃ q, learnOf c p = q := ⟨_, rfl⟩
 have hcl : Aside (∀ V, Below w.heap.size w V → Calls Tryz.prog 104 #[.pointer (some ⟨B, 0, none⟩), .int .i64 (k : Int)] V fun e w' => e = .returned (.bool true) ∧ w' = V) := fun V hV => by
  have := w_isClient (hI.later hV).st (k : Int)
  rwa [decide_eq_true (show 0 ≤ (k : Int) ∧ (k : Int) ≤ 2 by omega)] at this
 have kc := cl_learn c p (.slice a1 m1 k1) (.slice a2 m2 k2) w (hI.st.clients _ (List.mem_of_getElem? hy)).1
 rw [hq] at kc
 have HI : Aside (WIn X w B g1 g2 xs W.tip cs W.t) := hI
 have HE : Aside (nodesOf xs = W.ns ∧ clientsOf cs = W.cs) := ⟨hn, hc⟩
 have HY : Aside (cs[k]? = some ⟨c, .slice a1 m1 k1, .slice a2 m2 k2⟩) := hy
 have hki : (k : Int) < 3 := by omega
 have hk0 : (0 : Int) ≤ (k : Int) := by omega
 obtain ⟨rr, HRR⟩ : ∃ rr, Hid (W.onC (k : Int) (learnOf c p) = rr) := ⟨_, rfl⟩
 rw [HRR.out]
 have HC : Hid ((d ≠ 0 ∧ rr = (W, d)) ∨ (d = 0 ∧ rr = (W.putC (k : Int) R, 0))) := by
  have := HRR.out
  rw [hq, Wd.onC] at this
  by_cases h0 : d = 0
  ·rw [if_neg (not_not_intro h0)] at this; exact Or.inr ⟨h0, this.symm⟩
  ·rw [if_pos h0] at this; exact Or.inl ⟨h0, this.symm⟩
 have y0 := hI.cat hy (i := 0) rfl
 have y1 := hI.cat hy (i := 1) rfl
 have y2 := hI.cat hy (i := 2) rfl
 have y3 := hI.cat hy (i := 3) rfl
 have y4 := hI.cat hy (i := 4) rfl
 have y5 := hI.cat hy (i := 5) rfl
 have y6 := hI.cat hy (i := 6) rfl
 have y7 := hI.cat hy (i := 7) rfl
 have y8 := hI.cat hy (i := 8) rfl
 have y9 := hI.cat hy (i := 9) rfl
 have y10 := hI.cat hy (i := 10) rfl
 have y11 := hI.cat hy (i := 11) rfl
 simp only [Nat.add_zero] at y0
 have zb := hI.boxz
 clear hq hI hn hc hy HRR
 go_enter Tryz.func103, Tryz.ntmps103
 go_wp2_with fail
 refine (hcl.out w (Below.refl _ _)).mono ?_
 rintro e wx ⟨rfl, hwx⟩
 obtain rfl : w = wx := hwx.symm
 clear hcl
 go_wp2_with fail
 refine kc.mono ?_
 rintro e w1 ⟨u1, u2, rfl, hT, hb1⟩
 have HI1 : Aside _ := HI.out.later hb1
 have HT : Aside (BkT w1 u1 u2 R) := hT
 obtain ⟨s1, o1, s2, o2, rfl, rfl⟩ := bk_slices hT.1.1 hT.1.2
 clear hb1 hT HI kc zb y0 y1 y2 y3 y4 y5 y6 y7 y8 y9 y10 y11
 obtain ⟨n1, hn1⟩ : ∃ n, Hid (R.js.length = n) := ⟨_, rfl⟩
 obtain ⟨n2, hn2⟩ : ∃ n, Hid (R.rs.length = n) := ⟨_, rfl⟩
 rw [hn1.out, hn2.out] at HT ⊢
 have hbA : Below w1.heap.size w1 (w1.alloc (boxC R (.slice s1 n1 o1) (.slice s2 n2 o2))) := grew (Below.refl _ _) _
 have HI2 : Aside _ := HI1.out.later hbA
 have HT2 : Aside (ClientR (w1.alloc (boxC R (.slice s1 n1 o1) (.slice s2 n2 o2))) ⟨R, .slice s1 n1 o1, .slice s2 n2 o2⟩) := bkT_later HT.out hbA
 have HX2 : Aside ((w1.alloc (boxC R (.slice s1 n1 o1) (.slice s2 n2 o2))).heap[w1.heap.size]? = some (boxC R (.slice s1 n1 o1) (.slice s2 n2 o2))) := heap_new _ _
 clear HI1 HT hbA
 go_upto_region 4 with fail
 generalize w1.alloc (boxC R (.slice s1 n1 o1) (.slice s2 n2 o2)) = w2 at *
 generalize w1.heap.size = b at *
 rcases HC.out with ⟨h0, h1⟩ | ⟨h0, h1⟩
 ·have hz : (d != 0) = true := by rw [bne_iff_ne]; exact h0
  subst h1
  clear h0 HC HT2 HX2
  go_wp2
  go_ret
  exact ⟨rfl, xs, cs, HI2.out, HE.out.1, HE.out.2⟩
 ·have hz : (d != 0) = false := by rw [h0]; rfl
  subst h1
  clear h0 HC
  have zb := HI2.out.boxz
  have zx := cb HX2
  have y0 := HI2.out.cat HY.out (i := 0) rfl
  have y1 := HI2.out.cat HY.out (i := 1) rfl
  have y2 := HI2.out.cat HY.out (i := 2) rfl
  have y3 := HI2.out.cat HY.out (i := 3) rfl
  have y4 := HI2.out.cat HY.out (i := 4) rfl
  have y5 := HI2.out.cat HY.out (i := 5) rfl
  have y6 := HI2.out.cat HY.out (i := 6) rfl
  have y7 := HI2.out.cat HY.out (i := 7) rfl
  have y8 := HI2.out.cat HY.out (i := 8) rfl
  have y9 := HI2.out.cat HY.out (i := 9) rfl
  have y10 := HI2.out.cat HY.out (i := 10) rfl
  have y11 := HI2.out.cat HY.out (i := 11) rfl
  simp only [Nat.add_zero] at y0
  have fy := HI2.out.cfz
  go_upto_region 6 with fail
  go_region
  go_wp2
  go_ret
  have := (has_putC HI2.out HE.out.1 HE.out.2 HY.out HT2.out).later (Below.refl _ _).drew
  exact ⟨rfl, this⟩
theorem w_learn {X w : World} {B g1 g2 : Nat} {W : Wd} (h : WHas X w B g1 g2 W) (who p : Int) : AnsW 103 #[.pointer (some ⟨B, 0, none⟩), .int .i64 who, .int .i64 p] X w B g1 g2 (learnAt W who p) := by
 have H := h
 obtain ⟨xs, cs, hI, hn, hc⟩ := h
 unfold learnAt
 by_cases g : 0 ≤ who ∧ who ≤ 2
 ·rw [if_neg (not_not_intro g)]
  obtain ⟨k, rfl⟩ : ∃ k : Nat, who = k := ⟨who.toNat, by omega⟩
  obtain ⟨y, hy⟩ : ∃ y, cs[k]? = some y := ⟨cs[k]'(by have := hI.three'; omega), List.getElem?_eq_getElem _⟩
  rw [wd_cl hc hy]
  obtain ⟨c, v1, v2⟩ := y
  obtain ⟨a1, k1, a2, k2, e1, e2⟩ := bk_slices (hI.st.clients _ (List.mem_of_getElem? hy)).1.1 (hI.st.clients _ (List.mem_of_getElem? hy)).1.2
  simp only at e1 e2
  subst e1 e2
  exact w_learn_at hI hn hc k (by omega) c a1 a2 _ k1 _ k2 hy p
 ·rw [if_pos g]
  have hcl := w_isClient hI.st who
  rw [decide_eq_false g] at hcl
  clear hI hn hc g
  go_enter Tryz.func103, Tryz.ntmps103
  go_wp2_with fail
  refine hcl.mono ?_
  rintro e wx ⟨rfl, hwx⟩
  obtain rfl : w = wx := hwx.symm
  go_wp2
  go_ret
  exact ⟨rfl, H⟩
structure CBx (W0 wx : World) (b : Nat) (R : Cl) (v1 v2 : Value) : Prop where
 box : wx.heap[b]? = some (boxC R v1 v2)
 bk : BkT wx v1 v2 R
 base : W0.heap.size ≤ b
 below : Below W0.heap.size W0 wx
theorem cbx_A {W0 w1 : World} {R : Cl} {v1 v2 : Value} (hA : Below W0.heap.size W0 w1) (hT : BkT w1 v1 v2 R) : CBx W0 (w1.alloc (boxC R v1 v2)) w1.heap.size R v1 v2 := ⟨heap_new _ _, bkT_later hT (grew (Below.refl _ _) _), hA.size, grew hA _⟩
theorem cbx_B {W0 w1 : World} {b : Nat} {R : Cl} {v1 v2 : Value} (hx : w1.heap[b]? = some (boxZ)) (hB : Below W0.heap.size W0 w1) (hT : BkT w1 v1 v2 R) (hb : W0.heap.size ≤ b) : CBx W0 (st12 w1 b R v1 v2) b R v1 v2 :=
 ⟨st12_box (show w1.heap[b]? = some (boxC Cl.zero nil0 nil0) from hx) R v1 v2, bkT_st12 ⟨_, hx⟩ hT _ _ _, hb, st12_below hB hb _ _ _⟩
theorem stC_other {w : World} {g q : Nat} {ob : Obj} (h : w.heap[q]? = some ob) (hne : q ≠ g) (o : Nat) (y : Cb) : (stC w g o y).heap[q]? = some ob := by
 unfold stC
 exact other_block (other_block (other_block (other_block (other_block (other_block (other_block (other_block (other_block (other_block (other_block (other_block h hne _ _) hne _ _) hne _ _) hne _ _) hne _ _) hne _ _) hne _ _) hne _ _) hne _ _) hne _ _) hne _ _) hne _ _
theorem heap_drew {w : World} {q : Nat} {ob : Obj} (h : w.heap[q]? = some ob) : w.drew.heap[q]? = some ob := h
theorem has_tip {X w : World} {B g1 g2 : Nat} {W : Wd} (h : WHas X w B g1 g2 W) (q : Int) : WHas X (w.setCell ⟨B, 1, none⟩ (.int .i64 q)) B g1 g2 ⟨W.ns, q, W.cs, W.t⟩ := by
 obtain ⟨xs, cs, h1, h2, h3⟩ := h
 exact ⟨xs, cs, ⟨h1.st.setTip q, h1.three, h1.three'⟩, h2, h3⟩
set_option maxHeartbeats 8000000 in
set_option maxRecDepth 100000 in
theorem w_atClient_at {X w : World} {B g1 g2 : Nat} {W : Wd} (hW : RW W) {xs : List Nb} {cs : List Cb} (hI : WIn X w B g1 g2 xs W.tip cs W.t) (hn : nodesOf xs = W.ns) (hc : clientsOf cs = W.cs) (k : Nat) (hk : k < 3) (c : Cl) (a1 a2 : Option Addr) (m1 k1 m2 k2 : Nat) (hy : cs[k]? = some ⟨c, .slice a1 m1 k1, .slice a2 m2 k2⟩)
  (xk xn xj xp : Int) (xe : En) :
  AnsW 75 #[.pointer (some ⟨B, 0, none⟩), Hp.val ⟨xk, (k : Int), xn, xj, xp, xe⟩] X w B g1 g2 (if (doesAt W c ⟨xk, (k : Int), xn, xj, xp, xe⟩).2 ≠ 0 then (W, (doesAt W c ⟨xk, (k : Int), xn, xj, xp, xe⟩).2) else (⟨W.ns, if xk = 3 then W.tip + 1 else W.tip, W.cs.set k (doesAt W c ⟨xk, (k : Int), xn, xj, xp, xe⟩).1, W.t⟩, 0)) := by
 obtain ⟨⟨R, d⟩, hq⟩ : ∃ q, doesAt W c ⟨xk, (k : Int), xn, xj, xp, xe⟩ = q := ⟨_, rfl⟩
 rw [hq]
 simp only
 obtain ⟨tp, HTP⟩ : ∃ tp, Hid ((if xk = 3 then W.tip + 1 else W.tip) = tp) := ⟨_, rfl⟩
 rw [HTP.out]
 have hbA : Below w.heap.size w (w.alloc (boxH ⟨xk, (k : Int), xn, xj, xp, xe⟩)) := grew (Below.refl _ _) _
 have hcl := w_isClient (hI.later hbA).st (k : Int)
 rw [decide_eq_true (show 0 ≤ (k : Int) ∧ (k : Int) ≤ 2 by omega)] at hcl
 have kc : Aside (∀ V, Below w.heap.size w V → AnsT 110 #[.pointer (some ⟨B, 0, none⟩), c.val (.slice a1 m1 k1) (.slice a2 m2 k2), Hp.val ⟨xk, (k : Int), xn, xj, xp, xe⟩] V (R, d)) := fun V hV => by
  have := w_does hW (hI.later hV) hn c (.slice a1 m1 k1) (.slice a2 m2 k2) (bkAt_later (hI.st.clients _ (List.mem_of_getElem? hy)).1 hV) ⟨xk, (k : Int), xn, xj, xp, xe⟩
  rwa [hq] at this
 have HI0 : Aside (WIn X (w.alloc (boxH ⟨xk, (k : Int), xn, xj, xp, xe⟩)) B g1 g2 xs W.tip cs W.t) := hI.later hbA
 have HX0 : Aside ((w.alloc (boxH ⟨xk, (k : Int), xn, xj, xp, xe⟩)).heap[w.heap.size]? = some (boxH ⟨xk, (k : Int), xn, xj, xp, xe⟩)) := heap_new _ _
 have HB0 : Aside (Below w.heap.size w (w.alloc (boxH ⟨xk, (k : Int), xn, xj, xp, xe⟩))) := hbA
 have HE : Aside (nodesOf xs = W.ns ∧ clientsOf cs = W.cs) := ⟨hn, hc⟩
 have HY : Aside (cs[k]? = some ⟨c, .slice a1 m1 k1, .slice a2 m2 k2⟩) := hy
 have HG : Aside (g2 < w.heap.size ∧ B < w.heap.size) := ⟨heap_lt hI.st.crow, heap_lt hI.st.box⟩
 have HT3 : Aside (W.tip ≤ 60) := hW.tip.2
 have HT0 : Aside (0 ≤ W.tip) := hW.tip.1
 have hki : (k : Int) < 3 := by omega
 have hk0 : (0 : Int) ≤ (k : Int) := by omega
 obtain ⟨rr, HRR⟩ : ∃ rr, Hid ((if d ≠ 0 then (W, d) else ((⟨W.ns, tp, W.cs.set k R, W.t⟩ : Wd), 0)) = rr) := ⟨_, rfl⟩
 rw [HRR.out]
 have HC : Hid ((d ≠ 0 ∧ rr = (W, d)) ∨ (d = 0 ∧ rr = (⟨W.ns, tp, W.cs.set k R, W.t⟩, 0))) := by
  have := HRR.out
  by_cases h0 : d = 0
  ·rw [if_neg (not_not_intro h0)] at this; exact Or.inr ⟨h0, this.symm⟩
  ·rw [if_pos h0] at this; exact Or.inl ⟨h0, this.symm⟩
 clear hq hI hn hc hy HRR hW hbA
 go_enter Tryz.func75, Tryz.ntmps75
 go_upto_region 1 with fail
 generalize w.alloc (boxH ⟨xk, (k : Int), xn, xj, xp, xe⟩) = w1 at *
 have HI1 : Aside (WIn X w1 B g1 g2 xs W.tip cs W.t) := HI0.out
 have HX1 : Aside (w1.heap[w.heap.size]? = some (boxH ⟨xk, (k : Int), xn, xj, xp, xe⟩)) := HX0.out
 have zh := cb HX1
 clear HI0 HX0
 go_wp2_with fail
 refine hcl.mono ?_
 rintro e wx ⟨rfl, hwx⟩
 obtain rfl : w1 = wx := hwx.symm
 clear hcl
 go_upto_region 3 with fail
 clear zh
 have HK1 : Aside (∀ V, Below w1.heap.size w1 V → AnsT 110 #[.pointer (some ⟨B, 0, none⟩), c.val (.slice a1 m1 k1) (.slice a2 m2 k2), Hp.val ⟨xk, (k : Int), xn, xj, xp, xe⟩] V (R, d)) := fun V hV => kc.out V (HB0.out.trans (hV.mono HB0.out.size))
 clear kc
 go_cut [5, 6] from 12 to 25 (fun s5 s6 wx => ∃ (b : Nat) (v1 v2 : Value), s5 = .pointer (some ⟨b, 0, none⟩) ∧ s6 = .int .i64 d ∧ CBx w1 wx b R v1 v2)
 case first =>
  refine wp_region_held_drew (S := fun W' => Below w1.heap.size w1 W') (by kernel_rfl) ((Below.refl _ _).drew) (fun hHeld => ?_)
  refine tk 0 (v := ?_) rfl (by kernel_rfl) (by rfl) (by assumption) (fun _ _ _ h => h) ?_ ?_
  rotate_left
  ·intro w0 hSw; clear hSw; go_simp; first | done | with_reducible rfl
  try simp only [Act.put, qa, qb, qc]
  refine tk 1 (v := ?_) rfl (by kernel_rfl) (by rfl) (by assumption) (fun _ _ _ h => h) ?_ ?_
  rotate_left
  ·intro w0 hSw; clear hSw; go_simp; first | done | with_reducible rfl
  try simp only [Act.put, qa, qb, qc]
  refine tk 2 (v := ?_) rfl (by kernel_rfl) (by rfl) (by assumption) (fun _ _ _ h => h) ?_ ?_
  rotate_left
  ·intro w0 hSw; clear hSw; go_simp; first | done | with_reducible rfl
  try simp only [Act.put, qa, qb, qc]
  refine tk 3 (v := ?_) rfl (by kernel_rfl) (by rfl) (by assumption) (fun _ _ _ h => h) ?_ ?_
  rotate_left
  ·intro w0 hSw; clear hSw; go_simp; first | done | with_reducible rfl
  try simp only [Act.put, qa, qb, qc]
  refine tk 4 (v := ?_) rfl (by kernel_rfl) (by rfl) (by assumption) (fun _ _ _ h => h) ?_ ?_
  rotate_left
  ·intro w0 hSw; have z := (HI1.out.later hSw).boxz; clear hSw; go_simp; first | done | with_reducible rfl
  try simp only [Act.put, qa, qb, qc]
  refine tk 5 (v := ?_) rfl (by kernel_rfl) (by rfl) (by assumption) (fun _ _ _ h => h) ?_ ?_
  rotate_left
  ·intro w0 hSw; clear hSw; go_simp; first | done | with_reducible rfl
  try simp only [Act.put, qa, qb, qc]
  refine tk 6 (v := ?_) rfl (by kernel_rfl) (by rfl) (by assumption) (fun _ _ _ h => h) ?_ ?_
  rotate_left
  ·intro w0 hSw; have z := (show ∀ i, w0.cell? ⟨w.heap.size, i, none⟩ = #[Value.int .i64 xk, .int .i64 (k : Int), .int .i64 xn, .int .i64 xj, .int .i64 xp, .int .i64 xe.k, .int .i64 xe.j, .int .i64 xe.v, .int .i64 xe.t, .int .i64 xe.c][i]? from fun i => Joins.cell_of_block (heap_below HX1.out hSw (heap_lt HX1.out)) i); clear hSw; go_simp; first | done | with_reducible rfl
  try simp only [Act.put, qa, qb, qc]
  refine tk 7 (v := ?_) rfl (by kernel_rfl) (by rfl) (by assumption) (fun _ _ _ h => h) ?_ ?_
  rotate_left
  ·intro w0 hSw; clear hSw; go_simp; first | done | with_reducible rfl
  try simp only [Act.put, qa, qb, qc]
  refine tk 8 (v := ?_) rfl (by kernel_rfl) (by rfl) (by assumption) (fun _ _ _ h => h) ?_ ?_
  rotate_left
  ·intro w0 hSw; have y0 := (HI1.out.later hSw).cat HY.out (i := 0) rfl; have y1 := (HI1.out.later hSw).cat HY.out (i := 1) rfl; have y2 := (HI1.out.later hSw).cat HY.out (i := 2) rfl; have y3 := (HI1.out.later hSw).cat HY.out (i := 3) rfl; have y4 := (HI1.out.later hSw).cat HY.out (i := 4) rfl; have y5 := (HI1.out.later hSw).cat HY.out (i := 5) rfl; have y6 := (HI1.out.later hSw).cat HY.out (i := 6) rfl; have y7 := (HI1.out.later hSw).cat HY.out (i := 7) rfl; have y8 := (HI1.out.later hSw).cat HY.out (i := 8) rfl; have y9 := (HI1.out.later hSw).cat HY.out (i := 9) rfl; have y10 := (HI1.out.later hSw).cat HY.out (i := 10) rfl; have y11 := (HI1.out.later hSw).cat HY.out (i := 11) rfl; simp only [Nat.add_zero] at y0; clear hSw; go_simp; first | done | with_reducible rfl
  try simp only [Act.put, qa, qb, qc]
  refine tk 9 (v := ?_) rfl (by kernel_rfl) (by rfl) (by assumption) (fun _ _ _ h => h) ?_ ?_
  rotate_left
  ·intro w0 hSw; have z := (show ∀ i, w0.cell? ⟨w.heap.size, i, none⟩ = #[Value.int .i64 xk, .int .i64 (k : Int), .int .i64 xn, .int .i64 xj, .int .i64 xp, .int .i64 xe.k, .int .i64 xe.j, .int .i64 xe.v, .int .i64 xe.t, .int .i64 xe.c][i]? from fun i => Joins.cell_of_block (heap_below HX1.out hSw (heap_lt HX1.out)) i); clear hSw; go_simp; first | done | with_reducible rfl
  try simp only [Act.put, qa, qb, qc]
  refine wpAnyH_ready (rs := [10, 14]) (by kernel_rfl) (by simp) ?_
  refine AllReadyH.cons (o := ?o10p) ?hi10p ?step10p (AllReadyH.cons (o := ?o14p) ?hi14p ?step14p AllReadyH.nil)
  case hi10p => (simp only [List.getElem?_toArray, List.getElem?_cons_succ, List.getElem?_cons_zero]; rfl)
  case hi14p => (simp only [List.getElem?_toArray, List.getElem?_cons_succ, List.getElem?_cons_zero]; rfl)
  case step10p =>
   intro K hK
   go_simp
   refine (HK1.out _ hHeld).mono ?_
   rintro e wv ⟨u1, u2, rfl, hT, hb1⟩
   obtain ⟨s1, o1, s2, o2, rfl, rfl⟩ := bk_slices hT.1.1 hT.1.2
   obtain ⟨n1, hn1⟩ : ∃ n, Hid (R.js.length = n) := ⟨_, rfl⟩
   obtain ⟨n2, hn2⟩ : ∃ n, Hid (R.rs.length = n) := ⟨_, rfl⟩
   rw [hn1.out, hn2.out] at hT ⊢
   have hA1 : Below w1.heap.size w1 wv := step_below1 hHeld hb1
   refine hK.out _ _ hA1 (fun hHeld => ?_)
   clear hK K
   try simp only [Act.put, qa, qb, qc]
   refine tk 11 (v := ?_) rfl (by kernel_rfl) (by rfl) (by assumption) (fun _ _ _ h => h) ?_ ?_
   rotate_left
   ·intro w0 hSw; clear hSw; go_simp; first | done | with_reducible rfl
   try simp only [Act.put, qa, qb, qc]
   refine tk 12 (v := ?_) rfl (by kernel_rfl) (by rfl) (by assumption) (fun _ _ _ h => h) ?_ ?_
   rotate_left
   ·intro w0 hSw; clear hSw; go_simp; first | done | with_reducible rfl
   try simp only [Act.put, qa, qb, qc]
   refine tk 13 (v := ?_) rfl (by kernel_rfl) (by rfl) (by assumption) (fun _ _ _ h => h) ?_ ?_
   rotate_left
   ·intro w0 hSw; clear hSw; go_simp; first | done | with_reducible rfl
   try simp only [Act.put, qa, qb, qc]
   refine rdy 14 (by kernel_rfl) rfl (fun K hK => ?_)
   go_simp
   refine hK.out _ _ (grew hHeld _) (fun hHeld => ?_)
   clear hK K
   try simp only [Act.put, qa, qb, qc]
   refine rdy 15 (by kernel_rfl) rfl (fun K hK => ?_)
   go_simp
   refine hK.out _ _ (grew hA1 _) (fun hHeld => ?_)
   clear hK K
   try simp only [Act.put, qa, qb, qc]
   refine rdy 16 (by kernel_rfl) rfl (fun K hK => ?_)
   go_simp
   refine hK.out _ _ (hHeld) (fun hHeld => ?_)
   clear hK K
   try simp only [Act.put, qa, qb, qc]
   refine wpAnyH_done (by kernel_rfl) ?_ _
   go_wp2_with fail
   go_meet
   case rel => exact ⟨_, _, _, rfl, rfl, cbx_A hA1 hT⟩
  case step14p =>
   intro K hK
   go_simp
   refine hK.out _ _ (grew hHeld _) (fun hHeld => ?_)
   clear hK K
   try simp only [Act.put, qa, qb, qc]
   have hx1 : ((w1.alloc (boxZ)).drew).heap[w1.heap.size]? = some (boxZ) := heap_new w1 _
   refine rdy 10 (by kernel_rfl) rfl (fun K hK => ?_)
   go_simp
   refine (HK1.out _ hHeld).mono ?_
   rintro e wv ⟨u1, u2, rfl, hT, hb1⟩
   obtain ⟨s1, o1, s2, o2, rfl, rfl⟩ := bk_slices hT.1.1 hT.1.2
   obtain ⟨n1, hn1⟩ : ∃ n, Hid (R.js.length = n) := ⟨_, rfl⟩
   obtain ⟨n2, hn2⟩ : ∃ n, Hid (R.rs.length = n) := ⟨_, rfl⟩
   rw [hn1.out, hn2.out] at hT ⊢
   have hB1 : Below w1.heap.size w1 wv := step_below1 hHeld hb1
   have hx2 := heap_below hx1 hb1 (heap_lt hx1)
   have c7 := fun i => Joins.cell_of_block hx2 i
   have f7 := fun i => Joins.unfrozen_of_block hx2 i
   refine hK.out _ _ hB1 (fun hHeld => ?_)
   clear hK K
   try simp only [Act.put, qa, qb, qc]
   refine tk 11 (v := ?_) rfl (by kernel_rfl) (by rfl) (by assumption) (fun _ _ _ h => h) ?_ ?_
   rotate_left
   ·intro w0 hSw; clear hSw; go_simp; first | done | with_reducible rfl
   try simp only [Act.put, qa, qb, qc]
   refine tk 12 (v := ?_) rfl (by kernel_rfl) (by rfl) (by assumption) (fun _ _ _ h => h) ?_ ?_
   rotate_left
   ·intro w0 hSw; clear hSw; go_simp; first | done | with_reducible rfl
   try simp only [Act.put, qa, qb, qc]
   refine tk 13 (v := ?_) rfl (by kernel_rfl) (by rfl) (by assumption) (fun _ _ _ h => h) ?_ ?_
   rotate_left
   ·intro w0 hSw; clear hSw; go_simp; first | done | with_reducible rfl
   try simp only [Act.put, qa, qb, qc]
   refine rdy 15 (by kernel_rfl) rfl (fun K hK => ?_)
   go_simp
   refine hK.out _ _ (st12_below hHeld (Nat.le_refl _) _ _ _) (fun hHeld => ?_)
   clear hK K
   try simp only [Act.put, qa, qb, qc]
   refine rdy 16 (by kernel_rfl) rfl (fun K hK => ?_)
   go_simp
   refine hK.out _ _ (hHeld) (fun hHeld => ?_)
   clear hK K
   try simp only [Act.put, qa, qb, qc]
   refine wpAnyH_done (by kernel_rfl) ?_ _
   go_wp2_with fail
   go_meet
   case rel => exact ⟨_, _, _, rfl, rfl, cbx_B hx2 hB1 hT (Nat.le_refl _)⟩
 case rest =>
  obtain ⟨b, v1, v2, rfl, rfl, hR⟩ := hcut
  obtain ⟨s1, o1, s2, o2, rfl, rfl⟩ := bk_slices hR.bk.1.1 hR.bk.1.2
  obtain ⟨n1, hn1⟩ : ∃ n, Hid (R.js.length = n) := ⟨_, rfl⟩
  obtain ⟨n2, hn2⟩ : ∃ n, Hid (R.rs.length = n) := ⟨_, rfl⟩
  rw [hn1.out, hn2.out] at hR
  have HR : Aside (CBx w1 wc b R (.slice s1 n1 o1) (.slice s2 n2 o2)) := hR
  have HI2 : Aside _ := HI1.out.later hR.below
  have HX2 : Aside _ := heap_below HX1.out hR.below (heap_lt HX1.out)
  clear hR HI1 HX1 HB0 HK1
  generalize wc = w2 at *
  rcases HC.out with ⟨h0, h1⟩ | ⟨h0, h1⟩
  ·have hz : (d != 0) = true := by rw [bne_iff_ne]; exact h0
   subst h1
   clear h0 HC HR HX2
   go_wp2
   go_ret
   exact ⟨rfl, xs, cs, HI2.out, HE.out.1, HE.out.2⟩
  ·have hz : (d != 0) = false := by rw [h0]; rfl
   subst h1
   clear h0 HC
   have zb := HI2.out.boxz
   have zh := cb HX2
   have zx := fun i => Joins.cell_of_block HR.out.box i
   have y0 := HI2.out.cat HY.out (i := 0) rfl
   have y1 := HI2.out.cat HY.out (i := 1) rfl
   have y2 := HI2.out.cat HY.out (i := 2) rfl
   have y3 := HI2.out.cat HY.out (i := 3) rfl
   have y4 := HI2.out.cat HY.out (i := 4) rfl
   have y5 := HI2.out.cat HY.out (i := 5) rfl
   have y6 := HI2.out.cat HY.out (i := 6) rfl
   have y7 := HI2.out.cat HY.out (i := 7) rfl
   have y8 := HI2.out.cat HY.out (i := 8) rfl
   have y9 := HI2.out.cat HY.out (i := 9) rfl
   have y10 := HI2.out.cat HY.out (i := 10) rfl
   have y11 := HI2.out.cat HY.out (i := 11) rfl
   simp only [Nat.add_zero] at y0
   have fy := HI2.out.cfz
   have HS : Aside (WHas X (stC w2 g2 (k * 12) ⟨R, .slice s1 n1 o1, .slice s2 n2 o2⟩).drew B g1 g2 ⟨W.ns, W.tip, W.cs.set k R, W.t⟩) := by
    have := (has_putC (z := ⟨R, .slice s1 n1 o1, .slice s2 n2 o2⟩) HI2.out HE.out.1 HE.out.2 HY.out HR.out.bk).later (Below.refl _ _).drew
    rw [Wd.putC, Int.toNat_natCast] at this
    exact this
   have HX3 : Aside ((stC w2 g2 (k * 12) ⟨R, .slice s1 n1 o1, .slice s2 n2 o2⟩).drew.heap[w.heap.size]? = some (boxH ⟨xk, (k : Int), xn, xj, xp, xe⟩)) := heap_drew (stC_other HX2.out (by have := HG.out.1; omega) _ _)
   clear HR HI2 HX2 HY HE
   go_upto_region 6 with fail
   go_region
   go_upto_region 7 with fail
   clear zb zh zx y0 y1 y2 y3 y4 y5 y6 y7 y8 y9 y10 y11 fy
   change Aside (WHas X ((((((((((((w2.setCell ⟨g2, k * 12, none⟩ (.int .i64 R.p)).setCell ⟨g2, k * 12 + 1, none⟩ (.int .i64 R.d)).setCell ⟨g2, k * 12 + 2, none⟩ (.int .i64 R.e.k)).setCell ⟨g2, k * 12 + 3, none⟩ (.int .i64 R.e.j)).setCell ⟨g2, k * 12 + 4, none⟩ (.int .i64 R.e.v)).setCell ⟨g2, k * 12 + 5, none⟩ (.int .i64 R.e.t)).setCell ⟨g2, k * 12 + 6, none⟩ (.int .i64 R.e.c)).setCell ⟨g2, k * 12 + 7, none⟩ (.int .i64 R.a)).setCell ⟨g2, k * 12 + 8, none⟩ (.int .i64 R.l)).setCell ⟨g2, k * 12 + 9, none⟩ (.int .i64 R.n)).setCell ⟨g2, k * 12 + 10, none⟩ (.slice s1 n1 o1)).setCell ⟨g2, k * 12 + 11, none⟩ (.slice s2 n2 o2)).drew B g1 g2 ⟨W.ns, W.tip, W.cs.set k R, W.t⟩) at HS
   change Aside (((((((((((((w2.setCell ⟨g2, k * 12, none⟩ (.int .i64 R.p)).setCell ⟨g2, k * 12 + 1, none⟩ (.int .i64 R.d)).setCell ⟨g2, k * 12 + 2, none⟩ (.int .i64 R.e.k)).setCell ⟨g2, k * 12 + 3, none⟩ (.int .i64 R.e.j)).setCell ⟨g2, k * 12 + 4, none⟩ (.int .i64 R.e.v)).setCell ⟨g2, k * 12 + 5, none⟩ (.int .i64 R.e.t)).setCell ⟨g2, k * 12 + 6, none⟩ (.int .i64 R.e.c)).setCell ⟨g2, k * 12 + 7, none⟩ (.int .i64 R.a)).setCell ⟨g2, k * 12 + 8, none⟩ (.int .i64 R.l)).setCell ⟨g2, k * 12 + 9, none⟩ (.int .i64 R.n)).setCell ⟨g2, k * 12 + 10, none⟩ (.slice s1 n1 o1)).setCell ⟨g2, k * 12 + 11, none⟩ (.slice s2 n2 o2)).drew.heap[w.heap.size]? = some (boxH ⟨xk, (k : Int), xn, xj, xp, xe⟩)) at HX3
   generalize ((((((((((((w2.setCell ⟨g2, k * 12, none⟩ (.int .i64 R.p)).setCell ⟨g2, k * 12 + 1, none⟩ (.int .i64 R.d)).setCell ⟨g2, k * 12 + 2, none⟩ (.int .i64 R.e.k)).setCell ⟨g2, k * 12 + 3, none⟩ (.int .i64 R.e.j)).setCell ⟨g2, k * 12 + 4, none⟩ (.int .i64 R.e.v)).setCell ⟨g2, k * 12 + 5, none⟩ (.int .i64 R.e.t)).setCell ⟨g2, k * 12 + 6, none⟩ (.int .i64 R.e.c)).setCell ⟨g2, k * 12 + 7, none⟩ (.int .i64 R.a)).setCell ⟨g2, k * 12 + 8, none⟩ (.int .i64 R.l)).setCell ⟨g2, k * 12 + 9, none⟩ (.int .i64 R.n)).setCell ⟨g2, k * 12 + 10, none⟩ (.slice s1 n1 o1)).setCell ⟨g2, k * 12 + 11, none⟩ (.slice s2 n2 o2)).drew = w3 at *
   have zh := cb HX3
   by_cases h3 : xk = 3
   ·have htp : Hid (tp = W.tip + 1) := by rw [Hid, ← HTP.out, if_pos h3]
    have hb3 : (xk == 3) = true := by rw [h3]; rfl
    have hw1 : IntKind.i64.wrap (W.tip + 1) = W.tip + 1 := by rw [IntKind.wrap_i64]; have := HT3.out; have := HT0.out; omega
    obtain ⟨ys, ds, hJ, hJn, hJc⟩ := HS.out
    have zb := hJ.boxz
    have fb := fun i => Joins.unfrozen_of_block hJ.st.box i
    clear h3 hJ hJn hJc HTP
    go_wp2
    go_ret
    exact ⟨rfl, by rw [htp.out]; exact has_tip HS.out _⟩
   ·have htp : Hid (tp = W.tip) := by rw [Hid, ← HTP.out, if_neg h3]
    have hb3 : (xk == 3) = false := by rw [beq_eq_false_iff_ne]; exact h3
    clear h3 HTP
    go_wp2
    go_ret
    exact ⟨rfl, by rw [htp.out]; exact HS.out⟩
theorem w_atClient {X w : World} {B g1 g2 : Nat} {W : Wd} (hW : RW W) (h : WHas X w B g1 g2 W) (x : Hp) : AnsW 75 #[.pointer (some ⟨B, 0, none⟩), x.val] X w B g1 g2 (atClient W x) := by
 have H := h
 obtain ⟨xs, cs, hI, hn, hc⟩ := h
 unfold atClient
 by_cases g : 0 ≤ x.c ∧ x.c ≤ 2
 ·rw [if_neg (not_not_intro g)]
  obtain ⟨xk, xc, xn, xj, xp, xe⟩ := x
  simp only at g ⊢
  obtain ⟨k, rfl⟩ : ∃ k : Nat, xc = k := ⟨xc.toNat, by omega⟩
  obtain ⟨y, hy⟩ : ∃ y, cs[k]? = some y := ⟨cs[k]'(by have := hI.three'; omega), List.getElem?_eq_getElem _⟩
  rw [wd_cl hc hy, Int.toNat_natCast]
  obtain ⟨c, v1, v2⟩ := y
  obtain ⟨a1, k1, a2, k2, e1, e2⟩ := bk_slices (hI.st.clients _ (List.mem_of_getElem? hy)).1.1 (hI.st.clients _ (List.mem_of_getElem? hy)).1.2
  simp only at e1 e2
  subst e1 e2
  exact w_atClient_at hW hI hn hc k (by omega) c a1 a2 _ k1 _ k2 hy xk xn xj xp xe
 ·rw [if_pos g]
  have hbA : Below w.heap.size w (w.alloc (boxH x)) := grew (Below.refl _ _) _
  have hcl := w_isClient (hI.later hbA).st x.c
  rw [decide_eq_false g] at hcl
  have HX0 : Aside ((w.alloc (boxH x)).heap[w.heap.size]? = some (boxH x)) := heap_new _ _
  have HH : Aside (WHas X (w.alloc (boxH x)) B g1 g2 W) := H.later hbA
  clear hI hn hc g hbA H hW
  go_enter Tryz.func75, Tryz.ntmps75
  go_upto_region 1 with fail
  generalize w.alloc (boxH x) = w1 at *
  have zh := cb HX0
  go_wp2_with fail
  refine hcl.mono ?_
  rintro e wx ⟨rfl, hwx⟩
  obtain rfl : w1 = wx := hwx.symm
  clear hcl zh
  go_wp2
  go_ret
  exact ⟨rfl, HH.out⟩
end Go.Proofs.YtmoaobfmopimlafGreatDoor
