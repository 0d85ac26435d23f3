/- For the law. -/
import Derived.Test.YtmoaobfmopimlafGreatDoorM58
set_option linter.unusedSimpArgs false
set_option linter.unusedVariables false
namespace Go.Proofs.YtmoaobfmopimlafGreatDoor
open Go.RowKit
theorem has_down {X w : World} {B g1 g2 : Nat} {W : Wd} {xs : List Nb} {cs : List Cb} (hI : WIn X w B g1 g2 xs W.tip cs W.t) (hn : nodesOf xs = W.ns) (hc : clientsOf cs = W.cs) {j : Nat} {x : Nb} (hx : xs[j]? = some x) :
  WHas X (w.setCell ⟨g1, j * 5 + 4, none⟩ (.bool false)) B g1 g2 (W.putN (j : Int) ⟨x.n.u, x.n.s, x.n.w, false⟩) := by
 obtain ⟨ys, h1, h2⟩ := lift1 hI hx false
 refine ⟨ys, cs, h1, ?_, hc⟩
 rw [h2, hn]
 show W.ns.set j _ = W.ns.set (j : Int).toNat _
 rw [Int.toNat_natCast]
def inNode (W : Wd) (x : Hp) (n : Nd) : Wd × Int :=
 if x.k = 13 then W.onN x.n n.boot else if n.up = false then (W, 7) else if x.k = 8 then W.onN x.n (n.write ⟨2, 0, x.p, En.zero⟩) else if x.k = 9 then learnAt W x.c n.u.p
 else (W.putN x.n ⟨n.u, n.s, n.w, false⟩, 0)
set_option maxHeartbeats 8000000 in
set_option maxRecDepth 100000 in
theorem w_atNode_in {X w : World} {B g1 g2 : Nat} {W : Wd} (hL : Laid w) (hW : RW W) {xs : List Nb} {cs : List Cb} (hI : WIn X w B g1 g2 xs W.tip cs W.t) (hn : nodesOf xs = W.ns) (hc : clientsOf cs = W.cs) (j : Nat) (hj : j < 3) (u : Un) (sf wt : List UInt8) (up : Bool) (vc vs vw : Value)
  (xk xc xj xp : Int) (xe : En) (hx : xs[j]? = some ⟨⟨u, sf, wt, up⟩, vc, vs, vw⟩) :
  AnsW 73 #[.pointer (some ⟨B, 0, none⟩), Hp.val ⟨xk, xc, (j : Int), xj, xp, xe⟩] X w B g1 g2 (inNode W ⟨xk, xc, (j : Int), xj, xp, xe⟩ (⟨u, sf, wt, up⟩ : Nd)) := by
 have hnck : (⟨u, sf, wt, up⟩ : Nd).ck = 0 := hW.node j (⟨u, sf, wt, up⟩ : Nd) (by rw [← hn]; exact nodes_at hx)
 have HBS : Aside ((⟨u, sf, wt, up⟩ : Nd).boot.1.u.cells.length = 60) := boot_sixty hnck
 have HWS : Aside (up = true → ((⟨u, sf, wt, up⟩ : Nd).write ⟨2, 0, xp, En.zero⟩).1.u.cells.length = 60 ∧ ((⟨u, sf, wt, up⟩ : Nd).write ⟨2, 0, xp, En.zero⟩).1.up = up) := fun h => write_sixty hnck h
 have HFT : Aside (sf.length ≤ topLen ∧ wt.length ≤ topLen) := right_fits hnck
 have HLd : Aside (Laid w) := hL
 obtain ⟨rr, HRR⟩ : ∃ rr, Hid (inNode W ⟨xk, xc, (j : Int), xj, xp, xe⟩ (⟨u, sf, wt, up⟩ : Nd) = rr) := ⟨_, rfl⟩
 rw [HRR.out]
 have HC : Hid ((xk = 13 ∧ rr = W.onN (j : Int) (⟨u, sf, wt, up⟩ : Nd).boot) ∨ (¬ xk = 13 ∧ ((up = false ∧ rr = (W, 7)) ∨ (up = true ∧ ((xk = 8 ∧ rr = W.onN (j : Int) ((⟨u, sf, wt, up⟩ : Nd).write ⟨2, 0, xp, En.zero⟩)) ∨ (¬ xk = 8 ∧ ((xk = 9 ∧ rr = learnAt W xc u.p) ∨ (¬ xk = 9 ∧ rr = (W.putN (j : Int) ⟨u, sf, wt, false⟩, 0))))))))) := by
  have := HRR.out
  unfold inNode at this
  simp only at this
  by_cases h1 : xk = 13
  ·rw [if_pos h1] at this; exact Or.inl ⟨h1, this.symm⟩
  ·rw [if_neg h1] at this
   refine Or.inr ⟨h1, ?_⟩
   cases up with
   | false => rw [if_pos rfl] at this; exact Or.inl ⟨rfl, this.symm⟩
   | true =>
    rw [if_neg (by simp)] at this
    refine Or.inr ⟨rfl, ?_⟩
    by_cases h2 : xk = 8
    ·rw [if_pos h2] at this; exact Or.inl ⟨h2, this.symm⟩
    ·rw [if_neg h2] at this
     refine Or.inr ⟨h2, ?_⟩
     by_cases h3 : xk = 9
     ·rw [if_pos h3] at this; exact Or.inl ⟨h3, this.symm⟩
     ·rw [if_neg h3] at this; exact Or.inr ⟨h3, this.symm⟩
 have hbA : Below w.heap.size w (w.alloc (boxH ⟨xk, xc, (j : Int), xj, xp, xe⟩)) := grew (Below.refl _ _) _
 have HI0 : Aside (WIn X (w.alloc (boxH ⟨xk, xc, (j : Int), xj, xp, xe⟩)) B g1 g2 xs W.tip cs W.t) := hI.later hbA
 have HX0 : Aside ((w.alloc (boxH ⟨xk, xc, (j : Int), xj, xp, xe⟩)).heap[w.heap.size]? = some (boxH ⟨xk, xc, (j : Int), xj, xp, xe⟩)) := heap_new _ _
 have HB0 : Aside (Below w.heap.size w (w.alloc (boxH ⟨xk, xc, (j : Int), xj, xp, xe⟩))) := hbA
 have HE : Aside (nodesOf xs = W.ns ∧ clientsOf cs = W.cs) := ⟨hn, hc⟩
 have HX : Aside (xs[j]? = some ⟨⟨u, sf, wt, up⟩, vc, vs, vw⟩) := hx
 have hji : (j : Int) < 3 := by omega
 have hj0 : (0 : Int) ≤ (j : Int) := by omega
 clear hbA HRR hnck hL hW hI hn hc hx
 go_enter Tryz.func73, Tryz.ntmps73
 go_upto_region 1 with fail
 generalize w.alloc (boxH ⟨xk, xc, (j : Int), xj, xp, xe⟩) = w1 at *
 have zh := cb HX0
 have zb := HI0.out.boxz
 have hb1 : decide ((j : Int) < 0) = false := decide_eq_false (by omega)
 have hb2 : decide ((3 : Int) ≤ (j : Int)) = false := decide_eq_false (by omega)
 go_region
 have HI2 : Aside (WIn X w1.drew B g1 g2 xs W.tip cs W.t) := HI0.out.later (Below.refl _ _).drew
 have HX2 : Aside (w1.drew.heap[w.heap.size]? = some (boxH ⟨xk, xc, (j : Int), xj, xp, xe⟩)) := HX0.out
 have HB2 : Aside (Below w.heap.size w w1.drew) := HB0.out.drew
 clear zb zh HI0 HX0 HB0
 go_upto_region 3 with fail
 generalize w1.drew = w2 at *
 have zh := cb HX2
 have zb := HI2.out.boxz
 go_region
 have HI3 : Aside (WIn X w2.drew B g1 g2 xs W.tip cs W.t) := HI2.out.later (Below.refl _ _).drew
 have HX3 : Aside (w2.drew.heap[w.heap.size]? = some (boxH ⟨xk, xc, (j : Int), xj, xp, xe⟩)) := HX2.out
 have HB3 : Aside (Below w.heap.size w w2.drew) := HB2.out.drew
 clear zb zh HI2 HX2 HB2
 go_upto_region 4 with fail
 generalize w2.drew = w3 at *
 have zh := cb HX3
 have x4 := (HI3.out.nat HX.out).cell (i := 4) rfl
 have hLd := HLd.out.later HB3.out
 rcases HC.out with ⟨h13, h1⟩ | ⟨h13, HC1⟩
 ·have hb13 : (xk == 13) = true := by rw [h13]; rfl
  subst h1
  have kt := w_boot hLd (HI3.out.nat HX.out) HFT.out.1 HFT.out.2
  clear h13 HC hLd x4
  go_wp2_with fail
  refine kt.mono ?_
  rintro e w6 ⟨rfl, hp⟩
  have HF : Aside _ := has_on5 HI3.out HE.out.1 HE.out.2 HX.out hp HBS.out boot_err
  clear hp kt zh
  go_wp2
  go_ret
  exact ⟨by rw [onN_snd]; rfl, HF.out⟩
 ·have hb13 : (xk == 13) = false := by rw [beq_eq_false_iff_ne]; exact h13
  clear h13 HC
  rcases HC1 with ⟨hup, h1⟩ | ⟨hup, HC2⟩
  ·subst h1
   subst hup
   clear hLd
   go_wp2
   go_ret
   exact ⟨rfl, xs, cs, HI3.out, HE.out.1, HE.out.2⟩
  ·subst hup
   rcases HC2 with ⟨h8, h1⟩ | ⟨h8, HC3⟩
   ·have hb8 : (xk == 8) = true := by rw [h8]; rfl
    subst h1
    have kt := w_write hLd (HI3.out.nat HX.out) HFT.out.1 HFT.out.2 ⟨2, 0, xp, En.zero⟩
    have kt : Calls Tryz.prog 102 #[.pointer (some ⟨g1, j * 5, none⟩), .agg #[.int .i64 2, .int .i64 0, .int .i64 xp, .int .i64 0, .int .i64 0, .int .i64 0, .int .i64 0, .int .i64 0]] w3 _ := kt
    clear h8 hLd
    go_wp2_with fail
    refine kt.mono ?_
    rintro e w6 ⟨rfl, hp⟩
    have HF : Aside _ := has_on4 HI3.out HE.out.1 HE.out.2 HX.out hp (HWS.out trivial).1 (HWS.out trivial).2 write_err
    clear hp kt zh x4
    go_wp2
    go_ret
    exact ⟨by rw [onN_snd]; rfl, HF.out⟩
   ·have hb8 : (xk == 8) = false := by rw [beq_eq_false_iff_ne]; exact h8
    rcases HC3 with ⟨h9, h1⟩ | ⟨h9, h1⟩
    ·have hb9 : (xk == 9) = true := by rw [h9]; rfl
     subst h1
     clear h8 h9 hLd
     have HH : Aside (WHas X w3.drew B g1 g2 W) := ⟨xs, cs, HI3.out.later (Below.refl _ _).drew, HE.out.1, HE.out.2⟩
     have kl := w_learn HH.out xc u.p
     have HI4 : Aside (WIn X w3.drew B g1 g2 xs W.tip cs W.t) := HI3.out.later (Below.refl _ _).drew
     have HX4 : Aside (w3.drew.heap[w.heap.size]? = some (boxH ⟨xk, xc, (j : Int), xj, xp, xe⟩)) := HX3.out
     go_upto_region 12 with fail
     clear x4 zh HI3 HX3 HB3 HH
     refine wp_region_noPanic ?_
     refine region_L (fun w' => Below w3.drew.heap.size w3.drew w') 8 (by kernel_rfl) (Below.refl _ _) (fun hHeld => ?_)
     generalize w3.drew = w4 at *
     refine tl 0 (v := ?_) rfl (by kernel_rfl) (by rfl) (by assumption) (fun _ _ _ h => h) ?_ ?_
     rotate_left
     ·(intro w0 hSw; clear hSw; go_simp; first | done | with_reducible rfl)
     try simp only [Act.put, qa, qb, qc]
     refine anyL_free (i := 1) (v := ?_) rfl (by kernel_rfl) (by kernel_rfl) (by kernel_rfl) (by kernel_rfl) (fun _ _ _ h => h) (Or.inl ⟨by rfl, ?_⟩) (by assumption) ?_
     rotate_left
     ·(intro w0 _; go_simp; first | done | with_reducible rfl)
     try simp only [Act.put, qa, qb, qc]
     refine tl 2 (v := ?_) rfl (by kernel_rfl) (by rfl) (by assumption) (fun _ _ _ h => h) ?_ ?_
     rotate_left
     ·(intro w0 hSw; have z := (show ∀ i, w0.cell? ⟨w.heap.size, i, none⟩ = #[Value.int .i64 xk, .int .i64 xc, .int .i64 (j : Int), .int .i64 xj, .int .i64 xp, .int .i64 xe.k, .int .i64 xe.j, .int .i64 xe.v, .int .i64 xe.t, .int .i64 xe.c][i]? from fun i => Joins.cell_of_block (heap_below HX4.out hSw (heap_lt HX4.out)) i); clear hSw; go_simp; first | done | with_reducible rfl)
     try simp only [Act.put, qa, qb, qc]
     refine anyL_free (i := 3) (v := ?_) rfl (by kernel_rfl) (by kernel_rfl) (by kernel_rfl) (by kernel_rfl) (fun _ _ _ h => h) (Or.inl ⟨by rfl, ?_⟩) (by assumption) ?_
     rotate_left
     ·(intro w0 _; go_simp; first | done | with_reducible rfl)
     try simp only [Act.put, qa, qb, qc]
     refine anyL_free (i := 4) (v := ?_) rfl (by kernel_rfl) (by kernel_rfl) (by kernel_rfl) (by kernel_rfl) (fun _ _ _ h => h) (Or.inl ⟨by rfl, ?_⟩) (by assumption) ?_
     rotate_left
     ·(intro w0 _; go_simp; first | done | with_reducible rfl)
     try simp only [Act.put, qa, qb, qc]
     refine anyL_free (i := 5) (v := ?_) rfl (by kernel_rfl) (by kernel_rfl) (by kernel_rfl) (by kernel_rfl) (fun _ _ _ h => h) (Or.inl ⟨by rfl, ?_⟩) (by assumption) ?_
     rotate_left
     ·(intro w0 _; go_simp; first | done | with_reducible rfl)
     try simp only [Act.put, qa, qb, qc]
     refine anyL_free (i := 6) (v := ?_) rfl (by kernel_rfl) (by kernel_rfl) (by kernel_rfl) (by kernel_rfl) (fun _ _ _ h => h) (Or.inl ⟨by rfl, ?_⟩) (by assumption) ?_
     rotate_left
     ·(intro w0 _; go_simp; first | done | with_reducible rfl)
     try simp only [Act.put, qa, qb, qc]
     refine tl 7 (v := ?_) rfl (by kernel_rfl) (by rfl) (by assumption) (fun _ _ _ h => h) ?_ ?_
     rotate_left
     ·(intro w0 hSw; have y0 := ((HI4.out.later hSw).nat HX.out).cell (i := 0) rfl; simp only [Nat.add_zero] at y0; clear hSw; go_simp; first | done | with_reducible rfl)
     try simp only [Act.put, qa, qb, qc]
     refine anyL_one (i := 8) (by kernel_rfl) rfl (fun K hK => ?_)
     go_simp
     refine kl.mono ?_
     rintro e w6 ⟨rfl, hp⟩
     have HF : Aside _ := hp
     refine hK.out _ _ (fun h => absurd h (by decide +kernel)) (fun _ => ?_)
     clear hK K hp kl hHeld
     try simp only [Act.put, qa, qb, qc]
     refine anyL_one (i := 9) (by kernel_rfl) rfl (fun K hK => ?_)
     go_simp
     refine hK.out _ _ (fun h => absurd h (by decide +kernel)) (fun _ => ?_)
     clear hK K
     try simp only [Act.put, qa, qb, qc]
     refine anyL_done (by kernel_rfl) ?_ _
     refine NoPanic.normal ?_
     try simp only [Act.put, qa, qb, qc]
     go_wp2
     go_ret
     exact ⟨rfl, HF.out⟩
    ·have hb9 : (xk == 9) = false := by rw [beq_eq_false_iff_ne]; exact h9
     subst h1
     clear h8 h9 hLd
     have fx := (HI3.out.nat HX.out).fz
     have HF : Aside _ := has_down HI3.out HE.out.1 HE.out.2 HX.out
     go_wp2
     go_ret
     exact ⟨rfl, HF.out⟩
theorem w_atNode_who {X w : World} {B g1 g2 : Nat} {W : Wd} (h : WHas X w B g1 g2 W) (x : Hp) (g : ¬ (0 ≤ x.n ∧ x.n ≤ 2)) : AnsW 73 #[.pointer (some ⟨B, 0, none⟩), x.val] X w B g1 g2 (W, 5) := by
 have hbA : Below w.heap.size w (w.alloc (boxH x)) := grew (Below.refl _ _) _
 have HH : Aside (WHas X (w.alloc (boxH x)) B g1 g2 W) := h.later hbA
 have HX0 : Aside ((w.alloc (boxH x)).heap[w.heap.size]? = some (boxH x)) := heap_new _ _
 obtain ⟨xs, cs, hI, _, _⟩ := h
 have zb := (hI.later hbA).boxz
 have hcase : decide (x.n < 0) = true ∨ (decide (x.n < 0) = false ∧ decide ((3 : Int) ≤ x.n) = true) := by
  by_cases h0 : x.n < 0
  ·exact Or.inl (decide_eq_true h0)
  ·exact Or.inr ⟨decide_eq_false h0, decide_eq_true (by omega)⟩
 clear hI hbA g
 rcases hcase with hb1 | ⟨hb1, hb2⟩
 all_goals
  go_enter Tryz.func73, Tryz.ntmps73
  go_upto_region 1 with fail
  generalize w.alloc (boxH x) = w1 at *
  have zh := cb HX0
  go_region
  go_wp2
  go_ret
  exact ⟨rfl, HH.out.later (Below.refl _ _).drew⟩
theorem w_atNode {X w : World} {B g1 g2 : Nat} {W : Wd} (hL : Laid w) (hW : RW W) (h : WHas X w B g1 g2 W) (x : Hp) : AnsW 73 #[.pointer (some ⟨B, 0, none⟩), x.val] X w B g1 g2 (atNode W x) := by
 by_cases g : 0 ≤ x.n ∧ x.n ≤ 2
 ·obtain ⟨xs, cs, hI, hn, hc⟩ := h
  obtain ⟨xk, xc, xn, xj, xp, xe⟩ := x
  simp only at g
  obtain ⟨j, rfl⟩ : ∃ j : Nat, xn = j := ⟨xn.toNat, by omega⟩
  obtain ⟨x, hx⟩ : ∃ x, xs[j]? = some x := ⟨xs[j]'(by have := hI.three; omega), List.getElem?_eq_getElem _⟩
  have e : atNode W ⟨xk, xc, (j : Int), xj, xp, xe⟩ = inNode W ⟨xk, xc, (j : Int), xj, xp, xe⟩ x.n := by
   unfold atNode inNode
   simp only
   rw [if_neg (not_not_intro g), wd_nd hn hx]
  rw [e]
  obtain ⟨⟨u, sf, wt, up⟩, vc, vs, vw⟩ := x
  exact w_atNode_in hL hW hI hn hc j (by omega) u sf wt up vc vs vw xk xc xj xp xe hx
 ·rw [atNode, if_pos g]
  exact w_atNode_who h x g
end Go.Proofs.YtmoaobfmopimlafGreatDoor
