/- For the law. -/
import Derived.Test.YtmoaobfmopimlafGreatDoorM57
set_option linter.unusedSimpArgs false
set_option linter.unusedVariables false
namespace Go.Proofs.YtmoaobfmopimlafGreatDoor
open Go.RowKit
abbrev stR (w : World) (b : Nat) (r : Rc) : World := ((((((((w.setCell ⟨b, 0, none⟩ (.int .i64 r.k)).setCell ⟨b, 1, none⟩ (.int .i64 r.a)).setCell ⟨b, 2, none⟩ (.int .i64 r.p)).setCell ⟨b, 3, none⟩ (.int .i64 r.e.k)).setCell ⟨b, 4, none⟩ (.int .i64 r.e.j)).setCell ⟨b, 5, none⟩ (.int .i64 r.e.v)).setCell ⟨b, 6, none⟩ (.int .i64 r.e.t)).setCell ⟨b, 7, none⟩ (.int .i64 r.e.c))
abbrev st7 (w : World) (b : Nat) (r : Rc) : World := (((((((w.setCell ⟨b, 0, none⟩ (.int .i64 r.k)).setCell ⟨b, 1, none⟩ (.int .i64 r.a)).setCell ⟨b, 2, none⟩ (.int .i64 r.p)).setCell ⟨b, 3, none⟩ (.int .i64 r.e.k)).setCell ⟨b, 4, none⟩ (.int .i64 r.e.j)).setCell ⟨b, 5, none⟩ (.int .i64 r.e.v)).setCell ⟨b, 6, none⟩ (.int .i64 r.e.t))
theorem stR_below {W0 w : World} {b : Nat} (h : Below W0.heap.size W0 w) (hb : W0.heap.size ≤ b) (r : Rc) : Below W0.heap.size W0 (stR w b r) :=
 ((((((((h.setCell (p := ⟨b, 0, none⟩) hb _).setCell (p := ⟨b, 1, none⟩) hb _).setCell (p := ⟨b, 2, none⟩) hb _).setCell (p := ⟨b, 3, none⟩) hb _).setCell (p := ⟨b, 4, none⟩) hb _).setCell (p := ⟨b, 5, none⟩) hb _).setCell (p := ⟨b, 6, none⟩) hb _).setCell (p := ⟨b, 7, none⟩) hb _)
theorem stR_box {w : World} {b : Nat} {v0 v1 v2 v3 v4 v5 v6 v7 : Value} (h : w.heap[b]? = some (.cells #[v0, v1, v2, v3, v4, v5, v6, v7] 94)) (r : Rc) : (stR w b r).heap[b]? = some (boxRc r) := by
 have g0 := Joins.block_setCell h (i := 0) (.int .i64 r.k)
 have g1 := Joins.block_setCell g0 (i := 1) (.int .i64 r.a)
 have g2 := Joins.block_setCell g1 (i := 2) (.int .i64 r.p)
 have g3 := Joins.block_setCell g2 (i := 3) (.int .i64 r.e.k)
 have g4 := Joins.block_setCell g3 (i := 4) (.int .i64 r.e.j)
 have g5 := Joins.block_setCell g4 (i := 5) (.int .i64 r.e.v)
 have g6 := Joins.block_setCell g5 (i := 6) (.int .i64 r.e.t)
 have g7 := Joins.block_setCell g6 (i := 7) (.int .i64 r.e.c)
 simp only [List.setIfInBounds_toArray, List.set_cons_zero, List.set_cons_succ] at g7
 exact g7
theorem stR_other {w : World} {b q : Nat} {o : Obj} (h : w.heap[q]? = some o) (hne : q ≠ b) (r : Rc) : (stR w b r).heap[q]? = some o :=
 other_block (other_block (other_block (other_block (other_block (other_block (other_block (other_block h hne _ _) hne _ _) hne _ _) hne _ _) hne _ _) hne _ _) hne _ _) hne _ _
abbrev boxR0 : Obj := .cells #[Value.int .i64 0, .int .i64 0, .int .i64 0, .int .i64 0, .int .i64 0, .int .i64 0, .int .i64 0, .int .i64 0] 94
structure LkB (W0 wx : World) (rb sb : Nat) (r : Rc) (s : En) : Prop where
 rbox : wx.heap[rb]? = some (boxRc r)
 sbox : wx.heap[sb]? = some (boxE s.k s.j s.v s.t s.c)
 below : Below W0.heap.size W0 wx
set_option maxHeartbeats 8000000 in
set_option maxRecDepth 100000 in
theorem w_atLink_idle {X w : World} {B g1 g2 : Nat} {W : Wd} {xs : List Nb} {cs : List Cb} (hI : WIn X w B g1 g2 xs W.tip cs W.t) (hn : nodesOf xs = W.ns) (hc : clientsOf cs = W.cs) (k j : Nat) (hk : k < 3) (hj : j < 3) (cp cd : Int) (ce : En) (ca cn : Int) (js : List Jb) (rs : List Rg) (a1 a2 : Option Addr) (m1 k1 m2 k2 : Nat)
  (hy : cs[k]? = some ⟨⟨cp, cd, ce, ca, (j : Int), cn, js, rs⟩, .slice a1 m1 k1, .slice a2 m2 k2⟩) (xk xn xj xp : Int) (xe : En) {x : Nb} (hx : xs[j]? = some x) (hd : (cd != 2) = true) :
  AnsW 74 #[.pointer (some ⟨B, 0, none⟩), Hp.val ⟨xk, (k : Int), xn, xj, xp, xe⟩] X w B g1 g2 (W, 7) := by
 have hbA : Below w.heap.size w (w.alloc (boxH ⟨xk, (k : Int), xn, xj, xp, xe⟩)) := grew (Below.refl _ _) _
 have hcl := w_isClient (hI.later hbA).st (k : Int)
 rw [decide_eq_true (show 0 ≤ (k : Int) ∧ (k : Int) ≤ 2 by omega)] at hcl
 have HI0 : Aside (WIn X (w.alloc (boxH ⟨xk, (k : Int), xn, xj, xp, xe⟩)) B g1 g2 xs W.tip cs W.t) := hI.later hbA
 have HX0 : Aside ((w.alloc (boxH ⟨xk, (k : Int), xn, xj, xp, xe⟩)).heap[w.heap.size]? = some (boxH ⟨xk, (k : Int), xn, xj, xp, xe⟩)) := heap_new _ _
 have HB0 : Aside (Below w.heap.size w (w.alloc (boxH ⟨xk, (k : Int), xn, xj, xp, xe⟩))) := hbA
 have HE : Aside (nodesOf xs = W.ns ∧ clientsOf cs = W.cs) := ⟨hn, hc⟩
 have HY : Aside (cs[k]? = some ⟨⟨cp, cd, ce, ca, (j : Int), cn, js, rs⟩, .slice a1 m1 k1, .slice a2 m2 k2⟩) := hy
 have HX : Aside (xs[j]? = some x) := hx
 have hki : (k : Int) < 3 := by omega
 have hk0 : (0 : Int) ≤ (k : Int) := by omega
 have hji : (j : Int) < 3 := by omega
 have hj0 : (0 : Int) ≤ (j : Int) := by omega
 clear hI hn hc hy hx hbA
 go_enter Tryz.func74, Tryz.ntmps74
 go_upto_region 1 with fail
 generalize w.alloc (boxH ⟨xk, (k : Int), xn, xj, xp, xe⟩) = w1 at *
 have zh := cb HX0
 go_wp2_with fail
 refine hcl.mono ?_
 rintro e wx ⟨rfl, hwx⟩
 obtain rfl : w1 = wx := hwx.symm
 clear hcl
 have zb := HI0.out.boxz
 go_upto_region 3 with fail
 go_region
 have HI1 : Aside (WIn X w1.drew B g1 g2 xs W.tip cs W.t) := HI0.out.later (Below.refl _ _).drew
 clear zb zh HI0 HX0 HB0
 go_upto_region 4 with fail
 generalize w1.drew = w2 at *
 have zb := HI1.out.boxz
 have y1 := HI1.out.cat HY.out (i := 1) rfl
 have y8 := HI1.out.cat HY.out (i := 8) rfl
 clear y8 zb
 go_region
 go_wp2
 go_ret
 exact ⟨rfl, xs, cs, HI1.out.later (Below.refl _ _).drew, HE.out.1, HE.out.2⟩
set_option maxHeartbeats 8000000 in
set_option maxRecDepth 100000 in
theorem w_atLink_down {X w : World} {B g1 g2 : Nat} {W : Wd} {xs : List Nb} {cs : List Cb} (hI : WIn X w B g1 g2 xs W.tip cs W.t) (hn : nodesOf xs = W.ns) (hc : clientsOf cs = W.cs) (k j : Nat) (hk : k < 3) (hj : j < 3) (cp cd : Int) (ce : En) (ca cn : Int) (js : List Jb) (rs : List Rg) (a1 a2 : Option Addr) (m1 k1 m2 k2 : Nat)
  (hy : cs[k]? = some ⟨⟨cp, cd, ce, ca, (j : Int), cn, js, rs⟩, .slice a1 m1 k1, .slice a2 m2 k2⟩) (xk xn xj xp : Int) (xe : En) {x : Nb} (hx : xs[j]? = some x) (hd : (cd != 2) = false) (hup : x.n.up = false) :
  AnsW 74 #[.pointer (some ⟨B, 0, none⟩), Hp.val ⟨xk, (k : Int), xn, xj, xp, xe⟩] X w B g1 g2 (W, 7) := by
 have hbA : Below w.heap.size w (w.alloc (boxH ⟨xk, (k : Int), xn, xj, xp, xe⟩)) := grew (Below.refl _ _) _
 have hcl := w_isClient (hI.later hbA).st (k : Int)
 rw [decide_eq_true (show 0 ≤ (k : Int) ∧ (k : Int) ≤ 2 by omega)] at hcl
 have HI0 : Aside (WIn X (w.alloc (boxH ⟨xk, (k : Int), xn, xj, xp, xe⟩)) B g1 g2 xs W.tip cs W.t) := hI.later hbA
 have HX0 : Aside ((w.alloc (boxH ⟨xk, (k : Int), xn, xj, xp, xe⟩)).heap[w.heap.size]? = some (boxH ⟨xk, (k : Int), xn, xj, xp, xe⟩)) := heap_new _ _
 have HB0 : Aside (Below w.heap.size w (w.alloc (boxH ⟨xk, (k : Int), xn, xj, xp, xe⟩))) := hbA
 have HE : Aside (nodesOf xs = W.ns ∧ clientsOf cs = W.cs) := ⟨hn, hc⟩
 have HY : Aside (cs[k]? = some ⟨⟨cp, cd, ce, ca, (j : Int), cn, js, rs⟩, .slice a1 m1 k1, .slice a2 m2 k2⟩) := hy
 have HX : Aside (xs[j]? = some x) := hx
 have hki : (k : Int) < 3 := by omega
 have hk0 : (0 : Int) ≤ (k : Int) := by omega
 have hji : (j : Int) < 3 := by omega
 have hj0 : (0 : Int) ≤ (j : Int) := by omega
 clear hI hn hc hy hx hbA
 go_enter Tryz.func74, Tryz.ntmps74
 go_upto_region 1 with fail
 generalize w.alloc (boxH ⟨xk, (k : Int), xn, xj, xp, xe⟩) = w1 at *
 have zh := cb HX0
 go_wp2_with fail
 refine hcl.mono ?_
 rintro e wx ⟨rfl, hwx⟩
 obtain rfl : w1 = wx := hwx.symm
 clear hcl
 have zb := HI0.out.boxz
 go_upto_region 3 with fail
 go_region
 have HI1 : Aside (WIn X w1.drew B g1 g2 xs W.tip cs W.t) := HI0.out.later (Below.refl _ _).drew
 clear zb zh HI0 HX0 HB0
 go_upto_region 4 with fail
 generalize w1.drew = w2 at *
 have zb := HI1.out.boxz
 have y1 := HI1.out.cat HY.out (i := 1) rfl
 have y8 := HI1.out.cat HY.out (i := 8) rfl
 have x4 := (HI1.out.nat HX.out).cell (i := 4) rfl
 rw [hup] at x4
 go_region
 go_wp2
 go_ret
 exact ⟨rfl, xs, cs, HI1.out.later (Below.refl _ _).drew, HE.out.1, HE.out.2⟩
set_option maxHeartbeats 16000000 in
set_option maxRecDepth 100000 in
theorem w_atLink_go {X w : World} {B g1 g2 : Nat} {W : Wd} {xs : List Nb} {cs : List Cb} (hI : WIn X w B g1 g2 xs W.tip cs W.t) (hn : nodesOf xs = W.ns) (hc : clientsOf cs = W.cs) (k j : Nat) (hk : k < 3) (hj : j < 3) (cp cd : Int) (ce : En) (ca cn : Int) (js : List Jb) (rs : List Rg) (a1 a2 : Option Addr) (m1 k1 m2 k2 : Nat)
  (hy : cs[k]? = some ⟨⟨cp, cd, ce, ca, (j : Int), cn, js, rs⟩, .slice a1 m1 k1, .slice a2 m2 k2⟩) (xk xn xj xp : Int) (xe : En) {x : Nb} (hx : xs[j]? = some x) (hL : Laid w) (hW : RW W) (hd : (cd != 2) = false) (hup : x.n.up = true) :
  AnsW 74 #[.pointer (some ⟨B, 0, none⟩), Hp.val ⟨xk, (k : Int), xn, xj, xp, xe⟩] X w B g1 g2 (goAt W ⟨xk, (k : Int), xn, xj, xp, xe⟩ (⟨cp, cd, ce, ca, (j : Int), cn, js, rs⟩ : Cl) x.n (linkIn W.us (j : Int) ca ce cp)) := by
 obtain ⟨⟨r, s, d⟩, hq⟩ : ∃ q, linkIn W.us (j : Int) ca ce cp = q := ⟨_, rfl⟩
 have hrk := link_kind hq
 rw [hq]
 have hus : W.us = (nodesOf xs).map Nd.u := by rw [Wd.us, hn]
 have hnck : x.n.ck = 0 := hW.node j x.n (by rw [← hn]; exact nodes_at hx)
 have hsub := any_sixty (r := r) hnck hup
 have htear := fun kk => tear_sixty (r := r) (k := kk) hnck
 have hfit := right_fits hnck
 have ku0 : ∀ V, Below w.heap.size w V → Calls Tryz.prog 106 #[.slice (some ⟨g1, 0, none⟩) 3 3] V fun e w' => ∃ u, e = .returned u ∧ ChAt w' u (ubsOf xs) ∧ Below V.heap.size V w' := fun V hV => by
  have hJ := hI.later hV
  exact w_units _ xs V (by have := slOf_lit (c := 3) Nb.five hJ.st.nrow rfl; rwa [hJ.three] at this) (by rw [hI.three]; omega) (fun y hy => (hJ.st.nodes y hy).1)
 have kl : Aside (∀ V u, ChAt V u (ubsOf xs) → Calls Tryz.prog 105 #[u, .int .i64 (j : Int), .int .i64 ca, ce.val, .int .i64 cp] V fun e w' => e = .returned (.tuple #[r.val, s.val, .int .i64 d]) ∧ Below V.heap.size V w') := fun V u hu =>
  klink (fits_right hW hn) (by rw [← hus]; exact hW.chain) (j : Int) ca cp ce (by rw [← hus]; exact hq) V u hu
 have KU : Aside _ := ku0
 have HLd : Aside (Laid w) := hL
 have HRK : Aside (r = Rc.zero ∨ r.k = 1) := hrk
 have HFT : Aside (x.n.s.length ≤ topLen ∧ x.n.w.length ≤ topLen) := hfit
 have HSX : Aside ((x.n.writeAny r).1.u.cells.length = 60 ∧ (x.n.writeAny r).1.up = x.n.up) := hsub
 have HTR : Aside (∀ kk, (x.n.tear r kk).1.u.cells.length = 60 ∧ (x.n.tear r kk).1.u = x.n.u) := htear
 obtain ⟨rr, HRR⟩ : ∃ rr, Hid (goAt W ⟨xk, (k : Int), xn, xj, xp, xe⟩ (⟨cp, cd, ce, ca, (j : Int), cn, js, rs⟩ : Cl) x.n (r, s, d) = rr) := ⟨_, rfl⟩
 rw [HRR.out]
 have HC : Hid ((d ≠ 0 ∧ rr = (W, d)) ∨ (d = 0 ∧ ((xk = 15 ∧ rr = W.onN (j : Int) (x.n.tear r xn)) ∨ (¬ xk = 15 ∧ ((xk = 5 ∧ rr = W.onN (j : Int) (x.n.writeAny r)) ∨ (¬ xk = 5 ∧ rr = hearAt W (k : Int) (⟨cp, cd, ce, ca, (j : Int), cn, js, rs⟩ : Cl) x.n r s)))))) := by
  have := HRR.out
  rw [goAt] at this
  simp only at this
  by_cases h0 : d = 0
  ·rw [if_neg (not_not_intro h0)] at this
   refine Or.inr ⟨h0, ?_⟩
   by_cases h1 : xk = 15
   ·rw [if_pos h1] at this; exact Or.inl ⟨h1, this.symm⟩
   ·rw [if_neg h1] at this
    refine Or.inr ⟨h1, ?_⟩
    by_cases h2 : xk = 5
    ·rw [if_pos h2] at this; exact Or.inl ⟨h2, this.symm⟩
    ·rw [if_neg h2] at this; exact Or.inr ⟨h2, this.symm⟩
  ·rw [if_pos h0] at this; exact Or.inl ⟨h0, this.symm⟩
 have hbA : Below w.heap.size w (w.alloc (boxH ⟨xk, (k : Int), xn, xj, xp, xe⟩)) := grew (Below.refl _ _) _
 have hcl := w_isClient (hI.later hbA).st (k : Int)
 rw [decide_eq_true (show 0 ≤ (k : Int) ∧ (k : Int) ≤ 2 by omega)] at hcl
 have HI0 : Aside (WIn X (w.alloc (boxH ⟨xk, (k : Int), xn, xj, xp, xe⟩)) B g1 g2 xs W.tip cs W.t) := hI.later hbA
 have HX0 : Aside ((w.alloc (boxH ⟨xk, (k : Int), xn, xj, xp, xe⟩)).heap[w.heap.size]? = some (boxH ⟨xk, (k : Int), xn, xj, xp, xe⟩)) := heap_new _ _
 have HB0 : Aside (Below w.heap.size w (w.alloc (boxH ⟨xk, (k : Int), xn, xj, xp, xe⟩))) := hbA
 have HE : Aside (nodesOf xs = W.ns ∧ clientsOf cs = W.cs) := ⟨hn, hc⟩
 have HY : Aside (cs[k]? = some ⟨⟨cp, cd, ce, ca, (j : Int), cn, js, rs⟩, .slice a1 m1 k1, .slice a2 m2 k2⟩) := hy
 have HX : Aside (xs[j]? = some x) := hx
 have hki : (k : Int) < 3 := by omega
 have hk0 : (0 : Int) ≤ (k : Int) := by omega
 have hji : (j : Int) < 3 := by omega
 have hj0 : (0 : Int) ≤ (j : Int) := by omega
 clear hbA HRR ku0 hL hrk hfit hsub htear hus hnck hq hI hn hc hW hx hy
 go_enter Tryz.func74, Tryz.ntmps74
 go_upto_region 1 with fail
 generalize w.alloc (boxH ⟨xk, (k : Int), xn, xj, xp, xe⟩) = w1 at *
 have zh := cb HX0
 go_wp2_with fail
 refine hcl.mono ?_
 rintro e wx ⟨rfl, hwx⟩
 obtain rfl : w1 = wx := hwx.symm
 clear hcl
 have zb := HI0.out.boxz
 go_upto_region 3 with fail
 go_region
 have HI2 : Aside (WIn X w1.drew B g1 g2 xs W.tip cs W.t) := HI0.out.later (Below.refl _ _).drew
 have HX2 : Aside (w1.drew.heap[w.heap.size]? = some (boxH ⟨xk, (k : Int), xn, xj, xp, xe⟩)) := HX0.out
 have HB2 : Aside (Below w.heap.size w w1.drew) := HB0.out.drew
 clear zb zh HI0 HX0 HB0
 go_upto_region 4 with fail
 generalize w1.drew = w2 at *
 have zb := HI2.out.boxz
 have y1 := HI2.out.cat HY.out (i := 1) rfl
 have y8 := HI2.out.cat HY.out (i := 8) rfl
 have x4 := (HI2.out.nat HX.out).cell (i := 4) rfl
 rw [hup] at x4
 go_region
 have HI3 : Aside (WIn X w2.drew B g1 g2 xs W.tip cs W.t) := HI2.out.later (Below.refl _ _).drew
 have HX3 : Aside (w2.drew.heap[w.heap.size]? = some (boxH ⟨xk, (k : Int), xn, xj, xp, xe⟩)) := HX2.out
 have HB3 : Aside (Below w.heap.size w w2.drew) := HB2.out.drew
 clear zb y1 y8 x4 HI2 HX2 HB2
 go_upto_region 6 with fail
 generalize w2.drew = w3 at *
 have zb := HI3.out.boxz
 have y8 := HI3.out.cat HY.out (i := 8) rfl
 go_region
 have HI4 : Aside (WIn X w3.drew B g1 g2 xs W.tip cs W.t) := HI3.out.later (Below.refl _ _).drew
 have HX4 : Aside (w3.drew.heap[w.heap.size]? = some (boxH ⟨xk, (k : Int), xn, xj, xp, xe⟩)) := HX3.out
 have HB4 : Aside (Below w.heap.size w w3.drew) := HB3.out.drew
 clear zb y8 HI3 HX3 HB3
 go_upto_region 7 with fail
 generalize w3.drew = V4 at *
 have ku : Aside (∀ V, Below V4.heap.size V4 V → Calls Tryz.prog 106 #[.slice (some ⟨g1, 0, none⟩) 3 3] V fun e w' => ∃ u, e = .returned u ∧ ChAt w' u (ubsOf xs) ∧ Below V.heap.size V w') := fun V hV => KU.out V (HB4.out.trans (hV.mono HB4.out.size))
 clear KU
 go_cut [7, 8, 9] from 50 to 75 (fun s7 s8 s9 wx => ∃ rb sb : Nat, s7 = .pointer (some ⟨rb, 0, none⟩) ∧ s8 = .pointer (some ⟨sb, 0, none⟩) ∧ s9 = .int .i64 d ∧ LkB V4 wx rb sb r s)
 case first =>
  refine wp_region_held_drew (S := fun W' => Below V4.heap.size V4 W') (by kernel_rfl) ((Below.refl _ _).drew) (fun hHeld => ?_)
  refine tk 0 (v := ?_) rfl (by kernel_rfl) (by rfl) (by assumption) (fun _ _ _ h => h) ?_ ?_
  rotate_left
  ·intro w0 hSw; clear hSw; go_simp; first | done | with_reducible rfl
  try simp only [Act.put, qa, qb, qc]
  refine tk 1 (v := ?_) rfl (by kernel_rfl) (by rfl) (by assumption) (fun _ _ _ h => h) ?_ ?_
  rotate_left
  ·intro w0 hSw; clear hSw; go_simp; first | done | with_reducible rfl
  try simp only [Act.put, qa, qb, qc]
  refine tk 2 (v := ?_) rfl (by kernel_rfl) (by rfl) (by assumption) (fun _ _ _ h => h) ?_ ?_
  rotate_left
  ·intro w0 hSw; clear hSw; go_simp; first | done | with_reducible rfl
  try simp only [Act.put, qa, qb, qc]
  refine tk 3 (v := ?_) rfl (by kernel_rfl) (by rfl) (by assumption) (fun _ _ _ h => h) ?_ ?_
  rotate_left
  ·intro w0 hSw; have z := (HI4.out.later hSw).boxz; clear hSw; go_simp; first | done | with_reducible rfl
  try simp only [Act.put, qa, qb, qc]
  refine tk 5 (v := ?_) rfl (by kernel_rfl) (by rfl) (by assumption) (fun _ _ _ h => h) ?_ ?_
  rotate_left
  ·intro w0 hSw; clear hSw; go_simp; first | done | with_reducible rfl
  try simp only [Act.put, qa, qb, qc]
  refine tk 6 (v := ?_) rfl (by kernel_rfl) (by rfl) (by assumption) (fun _ _ _ h => h) ?_ ?_
  rotate_left
  ·intro w0 hSw; clear hSw; go_simp; first | done | with_reducible rfl
  try simp only [Act.put, qa, qb, qc]
  refine tk 7 (v := ?_) rfl (by kernel_rfl) (by rfl) (by assumption) (fun _ _ _ h => h) ?_ ?_
  rotate_left
  ·intro w0 hSw; clear hSw; go_simp; first | done | with_reducible rfl
  try simp only [Act.put, qa, qb, qc]
  refine tk 8 (v := ?_) rfl (by kernel_rfl) (by rfl) (by assumption) (fun _ _ _ h => h) ?_ ?_
  rotate_left
  ·intro w0 hSw; have y8 := (HI4.out.later hSw).cat HY.out (i := 8) rfl; clear hSw; go_simp; first | done | with_reducible rfl
  try simp only [Act.put, qa, qb, qc]
  refine tk 9 (v := ?_) rfl (by kernel_rfl) (by rfl) (by assumption) (fun _ _ _ h => h) ?_ ?_
  rotate_left
  ·intro w0 hSw; clear hSw; go_simp; first | done | with_reducible rfl
  try simp only [Act.put, qa, qb, qc]
  refine tk 10 (v := ?_) rfl (by kernel_rfl) (by rfl) (by assumption) (fun _ _ _ h => h) ?_ ?_
  rotate_left
  ·intro w0 hSw; clear hSw; go_simp; first | done | with_reducible rfl
  try simp only [Act.put, qa, qb, qc]
  refine tk 11 (v := ?_) rfl (by kernel_rfl) (by rfl) (by assumption) (fun _ _ _ h => h) ?_ ?_
  rotate_left
  ·intro w0 hSw; clear hSw; go_simp; first | done | with_reducible rfl
  try simp only [Act.put, qa, qb, qc]
  refine tk 12 (v := ?_) rfl (by kernel_rfl) (by rfl) (by assumption) (fun _ _ _ h => h) ?_ ?_
  rotate_left
  ·intro w0 hSw; have y7 := (HI4.out.later hSw).cat HY.out (i := 7) rfl; clear hSw; go_simp; first | done | with_reducible rfl
  try simp only [Act.put, qa, qb, qc]
  refine tk 13 (v := ?_) rfl (by kernel_rfl) (by rfl) (by assumption) (fun _ _ _ h => h) ?_ ?_
  rotate_left
  ·intro w0 hSw; clear hSw; go_simp; first | done | with_reducible rfl
  try simp only [Act.put, qa, qb, qc]
  refine tk 14 (v := ?_) rfl (by kernel_rfl) (by rfl) (by assumption) (fun _ _ _ h => h) ?_ ?_
  rotate_left
  ·intro w0 hSw; clear hSw; go_simp; first | done | with_reducible rfl
  try simp only [Act.put, qa, qb, qc]
  refine tk 15 (v := ?_) rfl (by kernel_rfl) (by rfl) (by assumption) (fun _ _ _ h => h) ?_ ?_
  rotate_left
  ·intro w0 hSw; clear hSw; go_simp; first | done | with_reducible rfl
  try simp only [Act.put, qa, qb, qc]
  refine tk 16 (v := ?_) rfl (by kernel_rfl) (by rfl) (by assumption) (fun _ _ _ h => h) ?_ ?_
  rotate_left
  ·intro w0 hSw; have y2 := (HI4.out.later hSw).cat HY.out (i := 2) rfl; have y3 := (HI4.out.later hSw).cat HY.out (i := 3) rfl; have y4 := (HI4.out.later hSw).cat HY.out (i := 4) rfl; have y5 := (HI4.out.later hSw).cat HY.out (i := 5) rfl; have y6 := (HI4.out.later hSw).cat HY.out (i := 6) rfl; clear hSw; go_simp; first | done | with_reducible rfl
  try simp only [Act.put, qa, qb, qc]
  refine tk 17 (v := ?_) rfl (by kernel_rfl) (by rfl) (by assumption) (fun _ _ _ h => h) ?_ ?_
  rotate_left
  ·intro w0 hSw; clear hSw; go_simp; first | done | with_reducible rfl
  try simp only [Act.put, qa, qb, qc]
  refine tk 18 (v := ?_) rfl (by kernel_rfl) (by rfl) (by assumption) (fun _ _ _ h => h) ?_ ?_
  rotate_left
  ·intro w0 hSw; clear hSw; go_simp; first | done | with_reducible rfl
  try simp only [Act.put, qa, qb, qc]
  refine tk 19 (v := ?_) rfl (by kernel_rfl) (by rfl) (by assumption) (fun _ _ _ h => h) ?_ ?_
  rotate_left
  ·intro w0 hSw; clear hSw; go_simp; first | done | with_reducible rfl
  try simp only [Act.put, qa, qb, qc]
  refine tk 20 (v := ?_) rfl (by kernel_rfl) (by rfl) (by assumption) (fun _ _ _ h => h) ?_ ?_
  rotate_left
  ·intro w0 hSw; have y0 := (HI4.out.later hSw).cat HY.out (i := 0) rfl; simp only [Nat.add_zero] at y0; clear hSw; go_simp; first | done | with_reducible rfl
  try simp only [Act.put, qa, qb, qc]
  refine wpAnyH_ready (rs := [4, 26, 27]) (by kernel_rfl) (by simp) ?_
  refine AllReadyH.cons (o := ?o4r) ?hi4r ?step4r (AllReadyH.cons (o := ?o26r) ?hi26r ?step26r (AllReadyH.cons (o := ?o27r) ?hi27r ?step27r AllReadyH.nil))
  case hi4r => (simp only [List.getElem?_toArray, List.getElem?_cons_succ, List.getElem?_cons_zero]; rfl)
  case hi26r => (simp only [List.getElem?_toArray, List.getElem?_cons_succ, List.getElem?_cons_zero]; rfl)
  case hi27r => (simp only [List.getElem?_toArray, List.getElem?_cons_succ, List.getElem?_cons_zero]; rfl)
  case step4r =>
   intro K hK
   go_simp
   refine (ku.out _ hHeld).mono ?_
   rintro e w1 ⟨u, rfl, hch, hb1⟩
   have hH1 : Below V4.heap.size V4 w1 := step_below1 hHeld hb1
   refine hK.out _ _ hH1 (fun hHeld => ?_)
   clear hK K
   try simp only [Act.put, qa, qb, qc]
   refine wpAnyH_ready (rs := [21, 26, 27]) (by kernel_rfl) (by simp) ?_
   refine AllReadyH.cons (o := ?o21ra) ?hi21ra ?step21ra (AllReadyH.cons (o := ?o26ra) ?hi26ra ?step26ra (AllReadyH.cons (o := ?o27ra) ?hi27ra ?step27ra AllReadyH.nil))
   case hi21ra => (simp only [List.getElem?_toArray, List.getElem?_cons_succ, List.getElem?_cons_zero]; rfl)
   case hi26ra => (simp only [List.getElem?_toArray, List.getElem?_cons_succ, List.getElem?_cons_zero]; rfl)
   case hi27ra => (simp only [List.getElem?_toArray, List.getElem?_cons_succ, List.getElem?_cons_zero]; rfl)
   case step21ra =>
    intro K hK
    go_simp
    refine (kl.out _ _ hch).mono ?_
    rintro e w2 ⟨rfl, hb2⟩
    have hH2 : Below V4.heap.size V4 w2 := step_below1 hHeld hb2
    have hch2 := ChAt.later hch hb2
    refine hK.out _ _ hH2 (fun hHeld => ?_)
    clear hK K
    try simp only [Act.put, qa, qb, qc]
    refine tk 22 (v := ?_) rfl (by kernel_rfl) (by rfl) (by assumption) (fun _ _ _ h => h) ?_ ?_
    rotate_left
    ·intro w0 hSw; clear hSw; go_simp; first | done | with_reducible rfl
    try simp only [Act.put, qa, qb, qc]
    refine tk 23 (v := ?_) rfl (by kernel_rfl) (by rfl) (by assumption) (fun _ _ _ h => h) ?_ ?_
    rotate_left
    ·intro w0 hSw; clear hSw; go_simp; first | done | with_reducible rfl
    try simp only [Act.put, qa, qb, qc]
    refine tk 24 (v := ?_) rfl (by kernel_rfl) (by rfl) (by assumption) (fun _ _ _ h => h) ?_ ?_
    rotate_left
    ·intro w0 hSw; clear hSw; go_simp; first | done | with_reducible rfl
    try simp only [Act.put, qa, qb, qc]
    refine tk 25 (v := ?_) rfl (by kernel_rfl) (by rfl) (by assumption) (fun _ _ _ h => h) ?_ ?_
    rotate_left
    ·intro w0 hSw; clear hSw; go_simp; first | done | with_reducible rfl
    try simp only [Act.put, qa, qb, qc]
    refine wpAnyH_ready (rs := [26, 27]) (by kernel_rfl) (by simp) ?_
    refine AllReadyH.cons (o := ?o26raa) ?hi26raa ?step26raa (AllReadyH.cons (o := ?o27raa) ?hi27raa ?step27raa AllReadyH.nil)
    case hi26raa => (simp only [List.getElem?_toArray, List.getElem?_cons_succ, List.getElem?_cons_zero]; rfl)
    case hi27raa => (simp only [List.getElem?_toArray, List.getElem?_cons_succ, List.getElem?_cons_zero]; rfl)
    case step26raa =>
     intro K hK
     go_simp
     have lqr : V4.heap.size ≤ w2.heap.size := hHeld.size
     refine hK.out _ _ (grew hHeld _) (fun hHeld => ?_)
     clear hK K
     try simp only [Act.put, qa, qb, qc]
     have qr3 : (w2.alloc (boxR0)).heap[w2.heap.size]? = some (boxR0) := heap_new _ _
     have hch3 : _ := ChAt.later hch2 (show Below w2.heap.size w2 (w2.alloc (boxR0)) from grew (Below.refl _ _) _)
     generalize w2.alloc (boxR0) = w3 at *
     generalize w2.heap.size = dqr at *
     refine rdy 27 (by kernel_rfl) rfl (fun K hK => ?_)
     go_simp
     have lqe : V4.heap.size ≤ w3.heap.size := hHeld.size
     refine hK.out _ _ (grew hHeld _) (fun hHeld => ?_)
     clear hK K
     try simp only [Act.put, qa, qb, qc]
     have qe4 : (w3.alloc (boxE 0 0 0 0 0)).heap[w3.heap.size]? = some (boxE 0 0 0 0 0) := heap_new _ _
     have nqrqe : dqr ≠ w3.heap.size := by have := heap_lt qr3; omega
     have hch4 : _ := ChAt.later hch3 (show Below w3.heap.size w3 (w3.alloc (boxE 0 0 0 0 0)) from grew (Below.refl _ _) _)
     have qr4 : _ := heap_below qr3 (show Below w3.heap.size w3 (w3.alloc (boxE 0 0 0 0 0)) from grew (Below.refl _ _) _) (heap_lt qr3)
     generalize w3.alloc (boxE 0 0 0 0 0) = w4 at *
     generalize w3.heap.size = dqe at *
     have c1 := fun i => Joins.cell_of_block qr4 i
     have f1 := fun i => Joins.unfrozen_of_block qr4 i
     have r2 : ((st7 w4 dqr r).setCell ⟨dqr, 7, none⟩ (.int .i64 r.e.c)).heap[dqr]? = some (boxRc r) := stR_box qr4 r
     have e2 : ((st7 w4 dqr r).setCell ⟨dqr, 7, none⟩ (.int .i64 r.e.c)).heap[dqe]? = some (boxE 0 0 0 0 0) := stR_other qe4 nqrqe.symm r
     refine rdy 28 (by kernel_rfl) rfl (fun K hK => ?_)
     go_simp
     refine hK.out _ _ (stR_below hHeld lqr r) (fun hHeld => ?_)
     clear hK K
     try simp only [Act.put, qa, qb, qc]
     have hHz : Below V4.heap.size V4 ((st7 w4 dqr r).setCell ⟨dqr, 7, none⟩ (.int .i64 r.e.c)) := hHeld
     clear hHeld
     generalize (st7 w4 dqr r).setCell ⟨dqr, 7, none⟩ (.int .i64 r.e.c) = wz at *
     have hHeld := hHz
     clear c1 f1
     have c2 := fun i => Joins.cell_of_block e2 i
     have f2 := fun i => Joins.unfrozen_of_block e2 i
     refine rdy 29 (by kernel_rfl) rfl (fun K hK => ?_)
     go_simp
     refine hK.out _ _ (stE_below hHeld lqe s) (fun hHeld => ?_)
     clear hK K
     try simp only [Act.put, qa, qb, qc]
     refine rdy 30 (by kernel_rfl) rfl (fun K hK => ?_)
     go_simp
     refine hK.out _ _ (hHeld) (fun hHeld => ?_)
     clear hK K
     try simp only [Act.put, qa, qb, qc]
     refine wpAnyH_done (by kernel_rfl) ?_ _
     go_wp2_with fail
     go_meet
     case rel => exact ⟨_, _, rfl, rfl, rfl, ⟨stE_other r2 nqrqe s, stE_box e2 s, hHeld⟩⟩
    case step27raa =>
     intro K hK
     go_simp
     have lqe : V4.heap.size ≤ w2.heap.size := hHeld.size
     refine hK.out _ _ (grew hHeld _) (fun hHeld => ?_)
     clear hK K
     try simp only [Act.put, qa, qb, qc]
     have qe3 : (w2.alloc (boxE 0 0 0 0 0)).heap[w2.heap.size]? = some (boxE 0 0 0 0 0) := heap_new _ _
     have hch3 : _ := ChAt.later hch2 (show Below w2.heap.size w2 (w2.alloc (boxE 0 0 0 0 0)) from grew (Below.refl _ _) _)
     generalize w2.alloc (boxE 0 0 0 0 0) = w3 at *
     generalize w2.heap.size = dqe at *
     refine rdy 26 (by kernel_rfl) rfl (fun K hK => ?_)
     go_simp
     have lqr : V4.heap.size ≤ w3.heap.size := hHeld.size
     refine hK.out _ _ (grew hHeld _) (fun hHeld => ?_)
     clear hK K
     try simp only [Act.put, qa, qb, qc]
     have qr4 : (w3.alloc (boxR0)).heap[w3.heap.size]? = some (boxR0) := heap_new _ _
     have nqeqr : dqe ≠ w3.heap.size := by have := heap_lt qe3; omega
     have hch4 : _ := ChAt.later hch3 (show Below w3.heap.size w3 (w3.alloc (boxR0)) from grew (Below.refl _ _) _)
     have qe4 : _ := heap_below qe3 (show Below w3.heap.size w3 (w3.alloc (boxR0)) from grew (Below.refl _ _) _) (heap_lt qe3)
     generalize w3.alloc (boxR0) = w4 at *
     generalize w3.heap.size = dqr at *
     have c1 := fun i => Joins.cell_of_block qr4 i
     have f1 := fun i => Joins.unfrozen_of_block qr4 i
     have r2 : ((st7 w4 dqr r).setCell ⟨dqr, 7, none⟩ (.int .i64 r.e.c)).heap[dqr]? = some (boxRc r) := stR_box qr4 r
     have e2 : ((st7 w4 dqr r).setCell ⟨dqr, 7, none⟩ (.int .i64 r.e.c)).heap[dqe]? = some (boxE 0 0 0 0 0) := stR_other qe4 nqeqr r
     refine rdy 28 (by kernel_rfl) rfl (fun K hK => ?_)
     go_simp
     refine hK.out _ _ (stR_below hHeld lqr r) (fun hHeld => ?_)
     clear hK K
     try simp only [Act.put, qa, qb, qc]
     have hHz : Below V4.heap.size V4 ((st7 w4 dqr r).setCell ⟨dqr, 7, none⟩ (.int .i64 r.e.c)) := hHeld
     clear hHeld
     generalize (st7 w4 dqr r).setCell ⟨dqr, 7, none⟩ (.int .i64 r.e.c) = wz at *
     have hHeld := hHz
     clear c1 f1
     have c2 := fun i => Joins.cell_of_block e2 i
     have f2 := fun i => Joins.unfrozen_of_block e2 i
     refine rdy 29 (by kernel_rfl) rfl (fun K hK => ?_)
     go_simp
     refine hK.out _ _ (stE_below hHeld lqe s) (fun hHeld => ?_)
     clear hK K
     try simp only [Act.put, qa, qb, qc]
     refine rdy 30 (by kernel_rfl) rfl (fun K hK => ?_)
     go_simp
     refine hK.out _ _ (hHeld) (fun hHeld => ?_)
     clear hK K
     try simp only [Act.put, qa, qb, qc]
     refine wpAnyH_done (by kernel_rfl) ?_ _
     go_wp2_with fail
     go_meet
     case rel => exact ⟨_, _, rfl, rfl, rfl, ⟨stE_other r2 nqeqr.symm s, stE_box e2 s, hHeld⟩⟩
   case step26ra =>
    intro K hK
    go_simp
    have lqr : V4.heap.size ≤ w1.heap.size := hHeld.size
    refine hK.out _ _ (grew hHeld _) (fun hHeld => ?_)
    clear hK K
    try simp only [Act.put, qa, qb, qc]
    have qr2 : (w1.alloc (boxR0)).heap[w1.heap.size]? = some (boxR0) := heap_new _ _
    have hch2 : _ := ChAt.later hch (show Below w1.heap.size w1 (w1.alloc (boxR0)) from grew (Below.refl _ _) _)
    generalize w1.alloc (boxR0) = w2 at *
    generalize w1.heap.size = dqr at *
    refine wpAnyH_ready (rs := [21, 27]) (by kernel_rfl) (by simp) ?_
    refine AllReadyH.cons (o := ?o21rab) ?hi21rab ?step21rab (AllReadyH.cons (o := ?o27rab) ?hi27rab ?step27rab AllReadyH.nil)
    case hi21rab => (simp only [List.getElem?_toArray, List.getElem?_cons_succ, List.getElem?_cons_zero]; rfl)
    case hi27rab => (simp only [List.getElem?_toArray, List.getElem?_cons_succ, List.getElem?_cons_zero]; rfl)
    case step21rab =>
     intro K hK
     go_simp
     refine (kl.out _ _ hch2).mono ?_
     rintro e w3 ⟨rfl, hb3⟩
     have hH3 : Below V4.heap.size V4 w3 := step_below1 hHeld hb3
     have hch3 := ChAt.later hch2 hb3
     have qr3 := heap_below qr2 hb3 (heap_lt qr2)
     refine hK.out _ _ hH3 (fun hHeld => ?_)
     clear hK K
     try simp only [Act.put, qa, qb, qc]
     refine tk 22 (v := ?_) rfl (by kernel_rfl) (by rfl) (by assumption) (fun _ _ _ h => h) ?_ ?_
     rotate_left
     ·intro w0 hSw; clear hSw; go_simp; first | done | with_reducible rfl
     try simp only [Act.put, qa, qb, qc]
     refine tk 23 (v := ?_) rfl (by kernel_rfl) (by rfl) (by assumption) (fun _ _ _ h => h) ?_ ?_
     rotate_left
     ·intro w0 hSw; clear hSw; go_simp; first | done | with_reducible rfl
     try simp only [Act.put, qa, qb, qc]
     refine tk 24 (v := ?_) rfl (by kernel_rfl) (by rfl) (by assumption) (fun _ _ _ h => h) ?_ ?_
     rotate_left
     ·intro w0 hSw; clear hSw; go_simp; first | done | with_reducible rfl
     try simp only [Act.put, qa, qb, qc]
     refine tk 25 (v := ?_) rfl (by kernel_rfl) (by rfl) (by assumption) (fun _ _ _ h => h) ?_ ?_
     rotate_left
     ·intro w0 hSw; clear hSw; go_simp; first | done | with_reducible rfl
     try simp only [Act.put, qa, qb, qc]
     refine rdy 27 (by kernel_rfl) rfl (fun K hK => ?_)
     go_simp
     have lqe : V4.heap.size ≤ w3.heap.size := hHeld.size
     refine hK.out _ _ (grew hHeld _) (fun hHeld => ?_)
     clear hK K
     try simp only [Act.put, qa, qb, qc]
     have qe4 : (w3.alloc (boxE 0 0 0 0 0)).heap[w3.heap.size]? = some (boxE 0 0 0 0 0) := heap_new _ _
     have nqrqe : dqr ≠ w3.heap.size := by have := heap_lt qr3; omega
     have hch4 : _ := ChAt.later hch3 (show Below w3.heap.size w3 (w3.alloc (boxE 0 0 0 0 0)) from grew (Below.refl _ _) _)
     have qr4 : _ := heap_below qr3 (show Below w3.heap.size w3 (w3.alloc (boxE 0 0 0 0 0)) from grew (Below.refl _ _) _) (heap_lt qr3)
     generalize w3.alloc (boxE 0 0 0 0 0) = w4 at *
     generalize w3.heap.size = dqe at *
     have c1 := fun i => Joins.cell_of_block qr4 i
     have f1 := fun i => Joins.unfrozen_of_block qr4 i
     have r2 : ((st7 w4 dqr r).setCell ⟨dqr, 7, none⟩ (.int .i64 r.e.c)).heap[dqr]? = some (boxRc r) := stR_box qr4 r
     have e2 : ((st7 w4 dqr r).setCell ⟨dqr, 7, none⟩ (.int .i64 r.e.c)).heap[dqe]? = some (boxE 0 0 0 0 0) := stR_other qe4 nqrqe.symm r
     refine rdy 28 (by kernel_rfl) rfl (fun K hK => ?_)
     go_simp
     refine hK.out _ _ (stR_below hHeld lqr r) (fun hHeld => ?_)
     clear hK K
     try simp only [Act.put, qa, qb, qc]
     have hHz : Below V4.heap.size V4 ((st7 w4 dqr r).setCell ⟨dqr, 7, none⟩ (.int .i64 r.e.c)) := hHeld
     clear hHeld
     generalize (st7 w4 dqr r).setCell ⟨dqr, 7, none⟩ (.int .i64 r.e.c) = wz at *
     have hHeld := hHz
     clear c1 f1
     have c2 := fun i => Joins.cell_of_block e2 i
     have f2 := fun i => Joins.unfrozen_of_block e2 i
     refine rdy 29 (by kernel_rfl) rfl (fun K hK => ?_)
     go_simp
     refine hK.out _ _ (stE_below hHeld lqe s) (fun hHeld => ?_)
     clear hK K
     try simp only [Act.put, qa, qb, qc]
     refine rdy 30 (by kernel_rfl) rfl (fun K hK => ?_)
     go_simp
     refine hK.out _ _ (hHeld) (fun hHeld => ?_)
     clear hK K
     try simp only [Act.put, qa, qb, qc]
     refine wpAnyH_done (by kernel_rfl) ?_ _
     go_wp2_with fail
     go_meet
     case rel => exact ⟨_, _, rfl, rfl, rfl, ⟨stE_other r2 nqrqe s, stE_box e2 s, hHeld⟩⟩
    case step27rab =>
     intro K hK
     go_simp
     have lqe : V4.heap.size ≤ w2.heap.size := hHeld.size
     refine hK.out _ _ (grew hHeld _) (fun hHeld => ?_)
     clear hK K
     try simp only [Act.put, qa, qb, qc]
     have qe3 : (w2.alloc (boxE 0 0 0 0 0)).heap[w2.heap.size]? = some (boxE 0 0 0 0 0) := heap_new _ _
     have nqrqe : dqr ≠ w2.heap.size := by have := heap_lt qr2; omega
     have hch3 : _ := ChAt.later hch2 (show Below w2.heap.size w2 (w2.alloc (boxE 0 0 0 0 0)) from grew (Below.refl _ _) _)
     have qr3 : _ := heap_below qr2 (show Below w2.heap.size w2 (w2.alloc (boxE 0 0 0 0 0)) from grew (Below.refl _ _) _) (heap_lt qr2)
     generalize w2.alloc (boxE 0 0 0 0 0) = w3 at *
     generalize w2.heap.size = dqe at *
     refine rdy 21 (by kernel_rfl) rfl (fun K hK => ?_)
     go_simp
     refine (kl.out _ _ hch3).mono ?_
     rintro e w4 ⟨rfl, hb4⟩
     have hH4 : Below V4.heap.size V4 w4 := step_below1 hHeld hb4
     have hch4 := ChAt.later hch3 hb4
     have qr4 := heap_below qr3 hb4 (heap_lt qr3)
     have qe4 := heap_below qe3 hb4 (heap_lt qe3)
     refine hK.out _ _ hH4 (fun hHeld => ?_)
     clear hK K
     try simp only [Act.put, qa, qb, qc]
     refine tk 22 (v := ?_) rfl (by kernel_rfl) (by rfl) (by assumption) (fun _ _ _ h => h) ?_ ?_
     rotate_left
     ·intro w0 hSw; clear hSw; go_simp; first | done | with_reducible rfl
     try simp only [Act.put, qa, qb, qc]
     refine tk 23 (v := ?_) rfl (by kernel_rfl) (by rfl) (by assumption) (fun _ _ _ h => h) ?_ ?_
     rotate_left
     ·intro w0 hSw; clear hSw; go_simp; first | done | with_reducible rfl
     try simp only [Act.put, qa, qb, qc]
     refine tk 24 (v := ?_) rfl (by kernel_rfl) (by rfl) (by assumption) (fun _ _ _ h => h) ?_ ?_
     rotate_left
     ·intro w0 hSw; clear hSw; go_simp; first | done | with_reducible rfl
     try simp only [Act.put, qa, qb, qc]
     refine tk 25 (v := ?_) rfl (by kernel_rfl) (by rfl) (by assumption) (fun _ _ _ h => h) ?_ ?_
     rotate_left
     ·intro w0 hSw; clear hSw; go_simp; first | done | with_reducible rfl
     try simp only [Act.put, qa, qb, qc]
     have c1 := fun i => Joins.cell_of_block qr4 i
     have f1 := fun i => Joins.unfrozen_of_block qr4 i
     have r2 : ((st7 w4 dqr r).setCell ⟨dqr, 7, none⟩ (.int .i64 r.e.c)).heap[dqr]? = some (boxRc r) := stR_box qr4 r
     have e2 : ((st7 w4 dqr r).setCell ⟨dqr, 7, none⟩ (.int .i64 r.e.c)).heap[dqe]? = some (boxE 0 0 0 0 0) := stR_other qe4 nqrqe.symm r
     refine rdy 28 (by kernel_rfl) rfl (fun K hK => ?_)
     go_simp
     refine hK.out _ _ (stR_below hHeld lqr r) (fun hHeld => ?_)
     clear hK K
     try simp only [Act.put, qa, qb, qc]
     have hHz : Below V4.heap.size V4 ((st7 w4 dqr r).setCell ⟨dqr, 7, none⟩ (.int .i64 r.e.c)) := hHeld
     clear hHeld
     generalize (st7 w4 dqr r).setCell ⟨dqr, 7, none⟩ (.int .i64 r.e.c) = wz at *
     have hHeld := hHz
     clear c1 f1
     have c2 := fun i => Joins.cell_of_block e2 i
     have f2 := fun i => Joins.unfrozen_of_block e2 i
     refine rdy 29 (by kernel_rfl) rfl (fun K hK => ?_)
     go_simp
     refine hK.out _ _ (stE_below hHeld lqe s) (fun hHeld => ?_)
     clear hK K
     try simp only [Act.put, qa, qb, qc]
     refine rdy 30 (by kernel_rfl) rfl (fun K hK => ?_)
     go_simp
     refine hK.out _ _ (hHeld) (fun hHeld => ?_)
     clear hK K
     try simp only [Act.put, qa, qb, qc]
     refine wpAnyH_done (by kernel_rfl) ?_ _
     go_wp2_with fail
     go_meet
     case rel => exact ⟨_, _, rfl, rfl, rfl, ⟨stE_other r2 nqrqe s, stE_box e2 s, hHeld⟩⟩
   case step27ra =>
    intro K hK
    go_simp
    have lqe : V4.heap.size ≤ w1.heap.size := hHeld.size
    refine hK.out _ _ (grew hHeld _) (fun hHeld => ?_)
    clear hK K
    try simp only [Act.put, qa, qb, qc]
    have qe2 : (w1.alloc (boxE 0 0 0 0 0)).heap[w1.heap.size]? = some (boxE 0 0 0 0 0) := heap_new _ _
    have hch2 : _ := ChAt.later hch (show Below w1.heap.size w1 (w1.alloc (boxE 0 0 0 0 0)) from grew (Below.refl _ _) _)
    generalize w1.alloc (boxE 0 0 0 0 0) = w2 at *
    generalize w1.heap.size = dqe at *
    refine wpAnyH_ready (rs := [21, 26]) (by kernel_rfl) (by simp) ?_
    refine AllReadyH.cons (o := ?o21rac) ?hi21rac ?step21rac (AllReadyH.cons (o := ?o26rac) ?hi26rac ?step26rac AllReadyH.nil)
    case hi21rac => (simp only [List.getElem?_toArray, List.getElem?_cons_succ, List.getElem?_cons_zero]; rfl)
    case hi26rac => (simp only [List.getElem?_toArray, List.getElem?_cons_succ, List.getElem?_cons_zero]; rfl)
    case step21rac =>
     intro K hK
     go_simp
     refine (kl.out _ _ hch2).mono ?_
     rintro e w3 ⟨rfl, hb3⟩
     have hH3 : Below V4.heap.size V4 w3 := step_below1 hHeld hb3
     have hch3 := ChAt.later hch2 hb3
     have qe3 := heap_below qe2 hb3 (heap_lt qe2)
     refine hK.out _ _ hH3 (fun hHeld => ?_)
     clear hK K
     try simp only [Act.put, qa, qb, qc]
     refine tk 22 (v := ?_) rfl (by kernel_rfl) (by rfl) (by assumption) (fun _ _ _ h => h) ?_ ?_
     rotate_left
     ·intro w0 hSw; clear hSw; go_simp; first | done | with_reducible rfl
     try simp only [Act.put, qa, qb, qc]
     refine tk 23 (v := ?_) rfl (by kernel_rfl) (by rfl) (by assumption) (fun _ _ _ h => h) ?_ ?_
     rotate_left
     ·intro w0 hSw; clear hSw; go_simp; first | done | with_reducible rfl
     try simp only [Act.put, qa, qb, qc]
     refine tk 24 (v := ?_) rfl (by kernel_rfl) (by rfl) (by assumption) (fun _ _ _ h => h) ?_ ?_
     rotate_left
     ·intro w0 hSw; clear hSw; go_simp; first | done | with_reducible rfl
     try simp only [Act.put, qa, qb, qc]
     refine tk 25 (v := ?_) rfl (by kernel_rfl) (by rfl) (by assumption) (fun _ _ _ h => h) ?_ ?_
     rotate_left
     ·intro w0 hSw; clear hSw; go_simp; first | done | with_reducible rfl
     try simp only [Act.put, qa, qb, qc]
     refine rdy 26 (by kernel_rfl) rfl (fun K hK => ?_)
     go_simp
     have lqr : V4.heap.size ≤ w3.heap.size := hHeld.size
     refine hK.out _ _ (grew hHeld _) (fun hHeld => ?_)
     clear hK K
     try simp only [Act.put, qa, qb, qc]
     have qr4 : (w3.alloc (boxR0)).heap[w3.heap.size]? = some (boxR0) := heap_new _ _
     have nqeqr : dqe ≠ w3.heap.size := by have := heap_lt qe3; omega
     have hch4 : _ := ChAt.later hch3 (show Below w3.heap.size w3 (w3.alloc (boxR0)) from grew (Below.refl _ _) _)
     have qe4 : _ := heap_below qe3 (show Below w3.heap.size w3 (w3.alloc (boxR0)) from grew (Below.refl _ _) _) (heap_lt qe3)
     generalize w3.alloc (boxR0) = w4 at *
     generalize w3.heap.size = dqr at *
     have c1 := fun i => Joins.cell_of_block qr4 i
     have f1 := fun i => Joins.unfrozen_of_block qr4 i
     have r2 : ((st7 w4 dqr r).setCell ⟨dqr, 7, none⟩ (.int .i64 r.e.c)).heap[dqr]? = some (boxRc r) := stR_box qr4 r
     have e2 : ((st7 w4 dqr r).setCell ⟨dqr, 7, none⟩ (.int .i64 r.e.c)).heap[dqe]? = some (boxE 0 0 0 0 0) := stR_other qe4 nqeqr r
     refine rdy 28 (by kernel_rfl) rfl (fun K hK => ?_)
     go_simp
     refine hK.out _ _ (stR_below hHeld lqr r) (fun hHeld => ?_)
     clear hK K
     try simp only [Act.put, qa, qb, qc]
     have hHz : Below V4.heap.size V4 ((st7 w4 dqr r).setCell ⟨dqr, 7, none⟩ (.int .i64 r.e.c)) := hHeld
     clear hHeld
     generalize (st7 w4 dqr r).setCell ⟨dqr, 7, none⟩ (.int .i64 r.e.c) = wz at *
     have hHeld := hHz
     clear c1 f1
     have c2 := fun i => Joins.cell_of_block e2 i
     have f2 := fun i => Joins.unfrozen_of_block e2 i
     refine rdy 29 (by kernel_rfl) rfl (fun K hK => ?_)
     go_simp
     refine hK.out _ _ (stE_below hHeld lqe s) (fun hHeld => ?_)
     clear hK K
     try simp only [Act.put, qa, qb, qc]
     refine rdy 30 (by kernel_rfl) rfl (fun K hK => ?_)
     go_simp
     refine hK.out _ _ (hHeld) (fun hHeld => ?_)
     clear hK K
     try simp only [Act.put, qa, qb, qc]
     refine wpAnyH_done (by kernel_rfl) ?_ _
     go_wp2_with fail
     go_meet
     case rel => exact ⟨_, _, rfl, rfl, rfl, ⟨stE_other r2 nqeqr.symm s, stE_box e2 s, hHeld⟩⟩
    case step26rac =>
     intro K hK
     go_simp
     have lqr : V4.heap.size ≤ w2.heap.size := hHeld.size
     refine hK.out _ _ (grew hHeld _) (fun hHeld => ?_)
     clear hK K
     try simp only [Act.put, qa, qb, qc]
     have qr3 : (w2.alloc (boxR0)).heap[w2.heap.size]? = some (boxR0) := heap_new _ _
     have nqeqr : dqe ≠ w2.heap.size := by have := heap_lt qe2; omega
     have hch3 : _ := ChAt.later hch2 (show Below w2.heap.size w2 (w2.alloc (boxR0)) from grew (Below.refl _ _) _)
     have qe3 : _ := heap_below qe2 (show Below w2.heap.size w2 (w2.alloc (boxR0)) from grew (Below.refl _ _) _) (heap_lt qe2)
     generalize w2.alloc (boxR0) = w3 at *
     generalize w2.heap.size = dqr at *
     refine rdy 21 (by kernel_rfl) rfl (fun K hK => ?_)
     go_simp
     refine (kl.out _ _ hch3).mono ?_
     rintro e w4 ⟨rfl, hb4⟩
     have hH4 : Below V4.heap.size V4 w4 := step_below1 hHeld hb4
     have hch4 := ChAt.later hch3 hb4
     have qe4 := heap_below qe3 hb4 (heap_lt qe3)
     have qr4 := heap_below qr3 hb4 (heap_lt qr3)
     refine hK.out _ _ hH4 (fun hHeld => ?_)
     clear hK K
     try simp only [Act.put, qa, qb, qc]
     refine tk 22 (v := ?_) rfl (by kernel_rfl) (by rfl) (by assumption) (fun _ _ _ h => h) ?_ ?_
     rotate_left
     ·intro w0 hSw; clear hSw; go_simp; first | done | with_reducible rfl
     try simp only [Act.put, qa, qb, qc]
     refine tk 23 (v := ?_) rfl (by kernel_rfl) (by rfl) (by assumption) (fun _ _ _ h => h) ?_ ?_
     rotate_left
     ·intro w0 hSw; clear hSw; go_simp; first | done | with_reducible rfl
     try simp only [Act.put, qa, qb, qc]
     refine tk 24 (v := ?_) rfl (by kernel_rfl) (by rfl) (by assumption) (fun _ _ _ h => h) ?_ ?_
     rotate_left
     ·intro w0 hSw; clear hSw; go_simp; first | done | with_reducible rfl
     try simp only [Act.put, qa, qb, qc]
     refine tk 25 (v := ?_) rfl (by kernel_rfl) (by rfl) (by assumption) (fun _ _ _ h => h) ?_ ?_
     rotate_left
     ·intro w0 hSw; clear hSw; go_simp; first | done | with_reducible rfl
     try simp only [Act.put, qa, qb, qc]
     have c1 := fun i => Joins.cell_of_block qr4 i
     have f1 := fun i => Joins.unfrozen_of_block qr4 i
     have r2 : ((st7 w4 dqr r).setCell ⟨dqr, 7, none⟩ (.int .i64 r.e.c)).heap[dqr]? = some (boxRc r) := stR_box qr4 r
     have e2 : ((st7 w4 dqr r).setCell ⟨dqr, 7, none⟩ (.int .i64 r.e.c)).heap[dqe]? = some (boxE 0 0 0 0 0) := stR_other qe4 nqeqr r
     refine rdy 28 (by kernel_rfl) rfl (fun K hK => ?_)
     go_simp
     refine hK.out _ _ (stR_below hHeld lqr r) (fun hHeld => ?_)
     clear hK K
     try simp only [Act.put, qa, qb, qc]
     have hHz : Below V4.heap.size V4 ((st7 w4 dqr r).setCell ⟨dqr, 7, none⟩ (.int .i64 r.e.c)) := hHeld
     clear hHeld
     generalize (st7 w4 dqr r).setCell ⟨dqr, 7, none⟩ (.int .i64 r.e.c) = wz at *
     have hHeld := hHz
     clear c1 f1
     have c2 := fun i => Joins.cell_of_block e2 i
     have f2 := fun i => Joins.unfrozen_of_block e2 i
     refine rdy 29 (by kernel_rfl) rfl (fun K hK => ?_)
     go_simp
     refine hK.out _ _ (stE_below hHeld lqe s) (fun hHeld => ?_)
     clear hK K
     try simp only [Act.put, qa, qb, qc]
     refine rdy 30 (by kernel_rfl) rfl (fun K hK => ?_)
     go_simp
     refine hK.out _ _ (hHeld) (fun hHeld => ?_)
     clear hK K
     try simp only [Act.put, qa, qb, qc]
     refine wpAnyH_done (by kernel_rfl) ?_ _
     go_wp2_with fail
     go_meet
     case rel => exact ⟨_, _, rfl, rfl, rfl, ⟨stE_other r2 nqeqr.symm s, stE_box e2 s, hHeld⟩⟩
  case step26r =>
   intro K hK
   go_simp
   have lqr : V4.heap.size ≤ V4.heap.size := Nat.le_refl _
   refine hK.out _ _ (grew hHeld _) (fun hHeld => ?_)
   clear hK K
   try simp only [Act.put, qa, qb, qc]
   have qr1 : ((V4.alloc (boxR0)).drew).heap[V4.heap.size]? = some (boxR0) := heap_new _ _
   generalize (V4.alloc (boxR0)).drew = w1 at *
   refine wpAnyH_ready (rs := [4, 27]) (by kernel_rfl) (by simp) ?_
   refine AllReadyH.cons (o := ?o4rb) ?hi4rb ?step4rb (AllReadyH.cons (o := ?o27rb) ?hi27rb ?step27rb AllReadyH.nil)
   case hi4rb => (simp only [List.getElem?_toArray, List.getElem?_cons_succ, List.getElem?_cons_zero]; rfl)
   case hi27rb => (simp only [List.getElem?_toArray, List.getElem?_cons_succ, List.getElem?_cons_zero]; rfl)
   case step4rb =>
    intro K hK
    go_simp
    refine (ku.out _ hHeld).mono ?_
    rintro e w2 ⟨u, rfl, hch, hb2⟩
    have hH2 : Below V4.heap.size V4 w2 := step_below1 hHeld hb2
    have qr2 := heap_below qr1 hb2 (heap_lt qr1)
    refine hK.out _ _ hH2 (fun hHeld => ?_)
    clear hK K
    try simp only [Act.put, qa, qb, qc]
    refine wpAnyH_ready (rs := [21, 27]) (by kernel_rfl) (by simp) ?_
    refine AllReadyH.cons (o := ?o21rba) ?hi21rba ?step21rba (AllReadyH.cons (o := ?o27rba) ?hi27rba ?step27rba AllReadyH.nil)
    case hi21rba => (simp only [List.getElem?_toArray, List.getElem?_cons_succ, List.getElem?_cons_zero]; rfl)
    case hi27rba => (simp only [List.getElem?_toArray, List.getElem?_cons_succ, List.getElem?_cons_zero]; rfl)
    case step21rba =>
     intro K hK
     go_simp
     refine (kl.out _ _ hch).mono ?_
     rintro e w3 ⟨rfl, hb3⟩
     have hH3 : Below V4.heap.size V4 w3 := step_below1 hHeld hb3
     have qr3 := heap_below qr2 hb3 (heap_lt qr2)
     have hch3 := ChAt.later hch hb3
     refine hK.out _ _ hH3 (fun hHeld => ?_)
     clear hK K
     try simp only [Act.put, qa, qb, qc]
     refine tk 22 (v := ?_) rfl (by kernel_rfl) (by rfl) (by assumption) (fun _ _ _ h => h) ?_ ?_
     rotate_left
     ·intro w0 hSw; clear hSw; go_simp; first | done | with_reducible rfl
     try simp only [Act.put, qa, qb, qc]
     refine tk 23 (v := ?_) rfl (by kernel_rfl) (by rfl) (by assumption) (fun _ _ _ h => h) ?_ ?_
     rotate_left
     ·intro w0 hSw; clear hSw; go_simp; first | done | with_reducible rfl
     try simp only [Act.put, qa, qb, qc]
     refine tk 24 (v := ?_) rfl (by kernel_rfl) (by rfl) (by assumption) (fun _ _ _ h => h) ?_ ?_
     rotate_left
     ·intro w0 hSw; clear hSw; go_simp; first | done | with_reducible rfl
     try simp only [Act.put, qa, qb, qc]
     refine tk 25 (v := ?_) rfl (by kernel_rfl) (by rfl) (by assumption) (fun _ _ _ h => h) ?_ ?_
     rotate_left
     ·intro w0 hSw; clear hSw; go_simp; first | done | with_reducible rfl
     try simp only [Act.put, qa, qb, qc]
     refine rdy 27 (by kernel_rfl) rfl (fun K hK => ?_)
     go_simp
     have lqe : V4.heap.size ≤ w3.heap.size := hHeld.size
     refine hK.out _ _ (grew hHeld _) (fun hHeld => ?_)
     clear hK K
     try simp only [Act.put, qa, qb, qc]
     have qe4 : (w3.alloc (boxE 0 0 0 0 0)).heap[w3.heap.size]? = some (boxE 0 0 0 0 0) := heap_new _ _
     have nqrqe : V4.heap.size ≠ w3.heap.size := by have := heap_lt qr3; omega
     have qr4 : _ := heap_below qr3 (show Below w3.heap.size w3 (w3.alloc (boxE 0 0 0 0 0)) from grew (Below.refl _ _) _) (heap_lt qr3)
     have hch4 : _ := ChAt.later hch3 (show Below w3.heap.size w3 (w3.alloc (boxE 0 0 0 0 0)) from grew (Below.refl _ _) _)
     generalize w3.alloc (boxE 0 0 0 0 0) = w4 at *
     generalize w3.heap.size = dqe at *
     have c1 := fun i => Joins.cell_of_block qr4 i
     have f1 := fun i => Joins.unfrozen_of_block qr4 i
     have r2 : ((st7 w4 V4.heap.size r).setCell ⟨V4.heap.size, 7, none⟩ (.int .i64 r.e.c)).heap[V4.heap.size]? = some (boxRc r) := stR_box qr4 r
     have e2 : ((st7 w4 V4.heap.size r).setCell ⟨V4.heap.size, 7, none⟩ (.int .i64 r.e.c)).heap[dqe]? = some (boxE 0 0 0 0 0) := stR_other qe4 nqrqe.symm r
     refine rdy 28 (by kernel_rfl) rfl (fun K hK => ?_)
     go_simp
     refine hK.out _ _ (stR_below hHeld lqr r) (fun hHeld => ?_)
     clear hK K
     try simp only [Act.put, qa, qb, qc]
     have hHz : Below V4.heap.size V4 ((st7 w4 V4.heap.size r).setCell ⟨V4.heap.size, 7, none⟩ (.int .i64 r.e.c)) := hHeld
     clear hHeld
     generalize (st7 w4 V4.heap.size r).setCell ⟨V4.heap.size, 7, none⟩ (.int .i64 r.e.c) = wz at *
     have hHeld := hHz
     clear c1 f1
     have c2 := fun i => Joins.cell_of_block e2 i
     have f2 := fun i => Joins.unfrozen_of_block e2 i
     refine rdy 29 (by kernel_rfl) rfl (fun K hK => ?_)
     go_simp
     refine hK.out _ _ (stE_below hHeld lqe s) (fun hHeld => ?_)
     clear hK K
     try simp only [Act.put, qa, qb, qc]
     refine rdy 30 (by kernel_rfl) rfl (fun K hK => ?_)
     go_simp
     refine hK.out _ _ (hHeld) (fun hHeld => ?_)
     clear hK K
     try simp only [Act.put, qa, qb, qc]
     refine wpAnyH_done (by kernel_rfl) ?_ _
     go_wp2_with fail
     go_meet
     case rel => exact ⟨_, _, rfl, rfl, rfl, ⟨stE_other r2 nqrqe s, stE_box e2 s, hHeld⟩⟩
    case step27rba =>
     intro K hK
     go_simp
     have lqe : V4.heap.size ≤ w2.heap.size := hHeld.size
     refine hK.out _ _ (grew hHeld _) (fun hHeld => ?_)
     clear hK K
     try simp only [Act.put, qa, qb, qc]
     have qe3 : (w2.alloc (boxE 0 0 0 0 0)).heap[w2.heap.size]? = some (boxE 0 0 0 0 0) := heap_new _ _
     have nqrqe : V4.heap.size ≠ w2.heap.size := by have := heap_lt qr2; omega
     have qr3 : _ := heap_below qr2 (show Below w2.heap.size w2 (w2.alloc (boxE 0 0 0 0 0)) from grew (Below.refl _ _) _) (heap_lt qr2)
     have hch3 : _ := ChAt.later hch (show Below w2.heap.size w2 (w2.alloc (boxE 0 0 0 0 0)) from grew (Below.refl _ _) _)
     generalize w2.alloc (boxE 0 0 0 0 0) = w3 at *
     generalize w2.heap.size = dqe at *
     refine rdy 21 (by kernel_rfl) rfl (fun K hK => ?_)
     go_simp
     refine (kl.out _ _ hch3).mono ?_
     rintro e w4 ⟨rfl, hb4⟩
     have hH4 : Below V4.heap.size V4 w4 := step_below1 hHeld hb4
     have qr4 := heap_below qr3 hb4 (heap_lt qr3)
     have hch4 := ChAt.later hch3 hb4
     have qe4 := heap_below qe3 hb4 (heap_lt qe3)
     refine hK.out _ _ hH4 (fun hHeld => ?_)
     clear hK K
     try simp only [Act.put, qa, qb, qc]
     refine tk 22 (v := ?_) rfl (by kernel_rfl) (by rfl) (by assumption) (fun _ _ _ h => h) ?_ ?_
     rotate_left
     ·intro w0 hSw; clear hSw; go_simp; first | done | with_reducible rfl
     try simp only [Act.put, qa, qb, qc]
     refine tk 23 (v := ?_) rfl (by kernel_rfl) (by rfl) (by assumption) (fun _ _ _ h => h) ?_ ?_
     rotate_left
     ·intro w0 hSw; clear hSw; go_simp; first | done | with_reducible rfl
     try simp only [Act.put, qa, qb, qc]
     refine tk 24 (v := ?_) rfl (by kernel_rfl) (by rfl) (by assumption) (fun _ _ _ h => h) ?_ ?_
     rotate_left
     ·intro w0 hSw; clear hSw; go_simp; first | done | with_reducible rfl
     try simp only [Act.put, qa, qb, qc]
     refine tk 25 (v := ?_) rfl (by kernel_rfl) (by rfl) (by assumption) (fun _ _ _ h => h) ?_ ?_
     rotate_left
     ·intro w0 hSw; clear hSw; go_simp; first | done | with_reducible rfl
     try simp only [Act.put, qa, qb, qc]
     have c1 := fun i => Joins.cell_of_block qr4 i
     have f1 := fun i => Joins.unfrozen_of_block qr4 i
     have r2 : ((st7 w4 V4.heap.size r).setCell ⟨V4.heap.size, 7, none⟩ (.int .i64 r.e.c)).heap[V4.heap.size]? = some (boxRc r) := stR_box qr4 r
     have e2 : ((st7 w4 V4.heap.size r).setCell ⟨V4.heap.size, 7, none⟩ (.int .i64 r.e.c)).heap[dqe]? = some (boxE 0 0 0 0 0) := stR_other qe4 nqrqe.symm r
     refine rdy 28 (by kernel_rfl) rfl (fun K hK => ?_)
     go_simp
     refine hK.out _ _ (stR_below hHeld lqr r) (fun hHeld => ?_)
     clear hK K
     try simp only [Act.put, qa, qb, qc]
     have hHz : Below V4.heap.size V4 ((st7 w4 V4.heap.size r).setCell ⟨V4.heap.size, 7, none⟩ (.int .i64 r.e.c)) := hHeld
     clear hHeld
     generalize (st7 w4 V4.heap.size r).setCell ⟨V4.heap.size, 7, none⟩ (.int .i64 r.e.c) = wz at *
     have hHeld := hHz
     clear c1 f1
     have c2 := fun i => Joins.cell_of_block e2 i
     have f2 := fun i => Joins.unfrozen_of_block e2 i
     refine rdy 29 (by kernel_rfl) rfl (fun K hK => ?_)
     go_simp
     refine hK.out _ _ (stE_below hHeld lqe s) (fun hHeld => ?_)
     clear hK K
     try simp only [Act.put, qa, qb, qc]
     refine rdy 30 (by kernel_rfl) rfl (fun K hK => ?_)
     go_simp
     refine hK.out _ _ (hHeld) (fun hHeld => ?_)
     clear hK K
     try simp only [Act.put, qa, qb, qc]
     refine wpAnyH_done (by kernel_rfl) ?_ _
     go_wp2_with fail
     go_meet
     case rel => exact ⟨_, _, rfl, rfl, rfl, ⟨stE_other r2 nqrqe s, stE_box e2 s, hHeld⟩⟩
   case step27rb =>
    intro K hK
    go_simp
    have lqe : V4.heap.size ≤ w1.heap.size := hHeld.size
    refine hK.out _ _ (grew hHeld _) (fun hHeld => ?_)
    clear hK K
    try simp only [Act.put, qa, qb, qc]
    have qe2 : (w1.alloc (boxE 0 0 0 0 0)).heap[w1.heap.size]? = some (boxE 0 0 0 0 0) := heap_new _ _
    have nqrqe : V4.heap.size ≠ w1.heap.size := by have := heap_lt qr1; omega
    have qr2 : _ := heap_below qr1 (show Below w1.heap.size w1 (w1.alloc (boxE 0 0 0 0 0)) from grew (Below.refl _ _) _) (heap_lt qr1)
    generalize w1.alloc (boxE 0 0 0 0 0) = w2 at *
    generalize w1.heap.size = dqe at *
    refine rdy 4 (by kernel_rfl) rfl (fun K hK => ?_)
    go_simp
    refine (ku.out _ hHeld).mono ?_
    rintro e w3 ⟨u, rfl, hch, hb3⟩
    have hH3 : Below V4.heap.size V4 w3 := step_below1 hHeld hb3
    have qr3 := heap_below qr2 hb3 (heap_lt qr2)
    have qe3 := heap_below qe2 hb3 (heap_lt qe2)
    refine hK.out _ _ hH3 (fun hHeld => ?_)
    clear hK K
    try simp only [Act.put, qa, qb, qc]
    refine rdy 21 (by kernel_rfl) rfl (fun K hK => ?_)
    go_simp
    refine (kl.out _ _ hch).mono ?_
    rintro e w4 ⟨rfl, hb4⟩
    have hH4 : Below V4.heap.size V4 w4 := step_below1 hHeld hb4
    have qr4 := heap_below qr3 hb4 (heap_lt qr3)
    have qe4 := heap_below qe3 hb4 (heap_lt qe3)
    have hch4 := ChAt.later hch hb4
    refine hK.out _ _ hH4 (fun hHeld => ?_)
    clear hK K
    try simp only [Act.put, qa, qb, qc]
    refine tk 22 (v := ?_) rfl (by kernel_rfl) (by rfl) (by assumption) (fun _ _ _ h => h) ?_ ?_
    rotate_left
    ·intro w0 hSw; clear hSw; go_simp; first | done | with_reducible rfl
    try simp only [Act.put, qa, qb, qc]
    refine tk 23 (v := ?_) rfl (by kernel_rfl) (by rfl) (by assumption) (fun _ _ _ h => h) ?_ ?_
    rotate_left
    ·intro w0 hSw; clear hSw; go_simp; first | done | with_reducible rfl
    try simp only [Act.put, qa, qb, qc]
    refine tk 24 (v := ?_) rfl (by kernel_rfl) (by rfl) (by assumption) (fun _ _ _ h => h) ?_ ?_
    rotate_left
    ·intro w0 hSw; clear hSw; go_simp; first | done | with_reducible rfl
    try simp only [Act.put, qa, qb, qc]
    refine tk 25 (v := ?_) rfl (by kernel_rfl) (by rfl) (by assumption) (fun _ _ _ h => h) ?_ ?_
    rotate_left
    ·intro w0 hSw; clear hSw; go_simp; first | done | with_reducible rfl
    try simp only [Act.put, qa, qb, qc]
    have c1 := fun i => Joins.cell_of_block qr4 i
    have f1 := fun i => Joins.unfrozen_of_block qr4 i
    have r2 : ((st7 w4 V4.heap.size r).setCell ⟨V4.heap.size, 7, none⟩ (.int .i64 r.e.c)).heap[V4.heap.size]? = some (boxRc r) := stR_box qr4 r
    have e2 : ((st7 w4 V4.heap.size r).setCell ⟨V4.heap.size, 7, none⟩ (.int .i64 r.e.c)).heap[dqe]? = some (boxE 0 0 0 0 0) := stR_other qe4 nqrqe.symm r
    refine rdy 28 (by kernel_rfl) rfl (fun K hK => ?_)
    go_simp
    refine hK.out _ _ (stR_below hHeld lqr r) (fun hHeld => ?_)
    clear hK K
    try simp only [Act.put, qa, qb, qc]
    have hHz : Below V4.heap.size V4 ((st7 w4 V4.heap.size r).setCell ⟨V4.heap.size, 7, none⟩ (.int .i64 r.e.c)) := hHeld
    clear hHeld
    generalize (st7 w4 V4.heap.size r).setCell ⟨V4.heap.size, 7, none⟩ (.int .i64 r.e.c) = wz at *
    have hHeld := hHz
    clear c1 f1
    have c2 := fun i => Joins.cell_of_block e2 i
    have f2 := fun i => Joins.unfrozen_of_block e2 i
    refine rdy 29 (by kernel_rfl) rfl (fun K hK => ?_)
    go_simp
    refine hK.out _ _ (stE_below hHeld lqe s) (fun hHeld => ?_)
    clear hK K
    try simp only [Act.put, qa, qb, qc]
    refine rdy 30 (by kernel_rfl) rfl (fun K hK => ?_)
    go_simp
    refine hK.out _ _ (hHeld) (fun hHeld => ?_)
    clear hK K
    try simp only [Act.put, qa, qb, qc]
    refine wpAnyH_done (by kernel_rfl) ?_ _
    go_wp2_with fail
    go_meet
    case rel => exact ⟨_, _, rfl, rfl, rfl, ⟨stE_other r2 nqrqe s, stE_box e2 s, hHeld⟩⟩
  case step27r =>
   intro K hK
   go_simp
   have lqe : V4.heap.size ≤ V4.heap.size := Nat.le_refl _
   refine hK.out _ _ (grew hHeld _) (fun hHeld => ?_)
   clear hK K
   try simp only [Act.put, qa, qb, qc]
   have qe1 : ((V4.alloc (boxE 0 0 0 0 0)).drew).heap[V4.heap.size]? = some (boxE 0 0 0 0 0) := heap_new _ _
   generalize (V4.alloc (boxE 0 0 0 0 0)).drew = w1 at *
   refine wpAnyH_ready (rs := [4, 26]) (by kernel_rfl) (by simp) ?_
   refine AllReadyH.cons (o := ?o4rc) ?hi4rc ?step4rc (AllReadyH.cons (o := ?o26rc) ?hi26rc ?step26rc AllReadyH.nil)
   case hi4rc => (simp only [List.getElem?_toArray, List.getElem?_cons_succ, List.getElem?_cons_zero]; rfl)
   case hi26rc => (simp only [List.getElem?_toArray, List.getElem?_cons_succ, List.getElem?_cons_zero]; rfl)
   case step4rc =>
    intro K hK
    go_simp
    refine (ku.out _ hHeld).mono ?_
    rintro e w2 ⟨u, rfl, hch, hb2⟩
    have hH2 : Below V4.heap.size V4 w2 := step_below1 hHeld hb2
    have qe2 := heap_below qe1 hb2 (heap_lt qe1)
    refine hK.out _ _ hH2 (fun hHeld => ?_)
    clear hK K
    try simp only [Act.put, qa, qb, qc]
    refine wpAnyH_ready (rs := [21, 26]) (by kernel_rfl) (by simp) ?_
    refine AllReadyH.cons (o := ?o21rca) ?hi21rca ?step21rca (AllReadyH.cons (o := ?o26rca) ?hi26rca ?step26rca AllReadyH.nil)
    case hi21rca => (simp only [List.getElem?_toArray, List.getElem?_cons_succ, List.getElem?_cons_zero]; rfl)
    case hi26rca => (simp only [List.getElem?_toArray, List.getElem?_cons_succ, List.getElem?_cons_zero]; rfl)
    case step21rca =>
     intro K hK
     go_simp
     refine (kl.out _ _ hch).mono ?_
     rintro e w3 ⟨rfl, hb3⟩
     have hH3 : Below V4.heap.size V4 w3 := step_below1 hHeld hb3
     have qe3 := heap_below qe2 hb3 (heap_lt qe2)
     have hch3 := ChAt.later hch hb3
     refine hK.out _ _ hH3 (fun hHeld => ?_)
     clear hK K
     try simp only [Act.put, qa, qb, qc]
     refine tk 22 (v := ?_) rfl (by kernel_rfl) (by rfl) (by assumption) (fun _ _ _ h => h) ?_ ?_
     rotate_left
     ·intro w0 hSw; clear hSw; go_simp; first | done | with_reducible rfl
     try simp only [Act.put, qa, qb, qc]
     refine tk 23 (v := ?_) rfl (by kernel_rfl) (by rfl) (by assumption) (fun _ _ _ h => h) ?_ ?_
     rotate_left
     ·intro w0 hSw; clear hSw; go_simp; first | done | with_reducible rfl
     try simp only [Act.put, qa, qb, qc]
     refine tk 24 (v := ?_) rfl (by kernel_rfl) (by rfl) (by assumption) (fun _ _ _ h => h) ?_ ?_
     rotate_left
     ·intro w0 hSw; clear hSw; go_simp; first | done | with_reducible rfl
     try simp only [Act.put, qa, qb, qc]
     refine tk 25 (v := ?_) rfl (by kernel_rfl) (by rfl) (by assumption) (fun _ _ _ h => h) ?_ ?_
     rotate_left
     ·intro w0 hSw; clear hSw; go_simp; first | done | with_reducible rfl
     try simp only [Act.put, qa, qb, qc]
     refine rdy 26 (by kernel_rfl) rfl (fun K hK => ?_)
     go_simp
     have lqr : V4.heap.size ≤ w3.heap.size := hHeld.size
     refine hK.out _ _ (grew hHeld _) (fun hHeld => ?_)
     clear hK K
     try simp only [Act.put, qa, qb, qc]
     have qr4 : (w3.alloc (boxR0)).heap[w3.heap.size]? = some (boxR0) := heap_new _ _
     have nqeqr : V4.heap.size ≠ w3.heap.size := by have := heap_lt qe3; omega
     have qe4 : _ := heap_below qe3 (show Below w3.heap.size w3 (w3.alloc (boxR0)) from grew (Below.refl _ _) _) (heap_lt qe3)
     have hch4 : _ := ChAt.later hch3 (show Below w3.heap.size w3 (w3.alloc (boxR0)) from grew (Below.refl _ _) _)
     generalize w3.alloc (boxR0) = w4 at *
     generalize w3.heap.size = dqr at *
     have c1 := fun i => Joins.cell_of_block qr4 i
     have f1 := fun i => Joins.unfrozen_of_block qr4 i
     have r2 : ((st7 w4 dqr r).setCell ⟨dqr, 7, none⟩ (.int .i64 r.e.c)).heap[dqr]? = some (boxRc r) := stR_box qr4 r
     have e2 : ((st7 w4 dqr r).setCell ⟨dqr, 7, none⟩ (.int .i64 r.e.c)).heap[V4.heap.size]? = some (boxE 0 0 0 0 0) := stR_other qe4 nqeqr r
     refine rdy 28 (by kernel_rfl) rfl (fun K hK => ?_)
     go_simp
     refine hK.out _ _ (stR_below hHeld lqr r) (fun hHeld => ?_)
     clear hK K
     try simp only [Act.put, qa, qb, qc]
     have hHz : Below V4.heap.size V4 ((st7 w4 dqr r).setCell ⟨dqr, 7, none⟩ (.int .i64 r.e.c)) := hHeld
     clear hHeld
     generalize (st7 w4 dqr r).setCell ⟨dqr, 7, none⟩ (.int .i64 r.e.c) = wz at *
     have hHeld := hHz
     clear c1 f1
     have c2 := fun i => Joins.cell_of_block e2 i
     have f2 := fun i => Joins.unfrozen_of_block e2 i
     refine rdy 29 (by kernel_rfl) rfl (fun K hK => ?_)
     go_simp
     refine hK.out _ _ (stE_below hHeld lqe s) (fun hHeld => ?_)
     clear hK K
     try simp only [Act.put, qa, qb, qc]
     refine rdy 30 (by kernel_rfl) rfl (fun K hK => ?_)
     go_simp
     refine hK.out _ _ (hHeld) (fun hHeld => ?_)
     clear hK K
     try simp only [Act.put, qa, qb, qc]
     refine wpAnyH_done (by kernel_rfl) ?_ _
     go_wp2_with fail
     go_meet
     case rel => exact ⟨_, _, rfl, rfl, rfl, ⟨stE_other r2 nqeqr.symm s, stE_box e2 s, hHeld⟩⟩
    case step26rca =>
     intro K hK
     go_simp
     have lqr : V4.heap.size ≤ w2.heap.size := hHeld.size
     refine hK.out _ _ (grew hHeld _) (fun hHeld => ?_)
     clear hK K
     try simp only [Act.put, qa, qb, qc]
     have qr3 : (w2.alloc (boxR0)).heap[w2.heap.size]? = some (boxR0) := heap_new _ _
     have nqeqr : V4.heap.size ≠ w2.heap.size := by have := heap_lt qe2; omega
     have qe3 : _ := heap_below qe2 (show Below w2.heap.size w2 (w2.alloc (boxR0)) from grew (Below.refl _ _) _) (heap_lt qe2)
     have hch3 : _ := ChAt.later hch (show Below w2.heap.size w2 (w2.alloc (boxR0)) from grew (Below.refl _ _) _)
     generalize w2.alloc (boxR0) = w3 at *
     generalize w2.heap.size = dqr at *
     refine rdy 21 (by kernel_rfl) rfl (fun K hK => ?_)
     go_simp
     refine (kl.out _ _ hch3).mono ?_
     rintro e w4 ⟨rfl, hb4⟩
     have hH4 : Below V4.heap.size V4 w4 := step_below1 hHeld hb4
     have qe4 := heap_below qe3 hb4 (heap_lt qe3)
     have hch4 := ChAt.later hch3 hb4
     have qr4 := heap_below qr3 hb4 (heap_lt qr3)
     refine hK.out _ _ hH4 (fun hHeld => ?_)
     clear hK K
     try simp only [Act.put, qa, qb, qc]
     refine tk 22 (v := ?_) rfl (by kernel_rfl) (by rfl) (by assumption) (fun _ _ _ h => h) ?_ ?_
     rotate_left
     ·intro w0 hSw; clear hSw; go_simp; first | done | with_reducible rfl
     try simp only [Act.put, qa, qb, qc]
     refine tk 23 (v := ?_) rfl (by kernel_rfl) (by rfl) (by assumption) (fun _ _ _ h => h) ?_ ?_
     rotate_left
     ·intro w0 hSw; clear hSw; go_simp; first | done | with_reducible rfl
     try simp only [Act.put, qa, qb, qc]
     refine tk 24 (v := ?_) rfl (by kernel_rfl) (by rfl) (by assumption) (fun _ _ _ h => h) ?_ ?_
     rotate_left
     ·intro w0 hSw; clear hSw; go_simp; first | done | with_reducible rfl
     try simp only [Act.put, qa, qb, qc]
     refine tk 25 (v := ?_) rfl (by kernel_rfl) (by rfl) (by assumption) (fun _ _ _ h => h) ?_ ?_
     rotate_left
     ·intro w0 hSw; clear hSw; go_simp; first | done | with_reducible rfl
     try simp only [Act.put, qa, qb, qc]
     have c1 := fun i => Joins.cell_of_block qr4 i
     have f1 := fun i => Joins.unfrozen_of_block qr4 i
     have r2 : ((st7 w4 dqr r).setCell ⟨dqr, 7, none⟩ (.int .i64 r.e.c)).heap[dqr]? = some (boxRc r) := stR_box qr4 r
     have e2 : ((st7 w4 dqr r).setCell ⟨dqr, 7, none⟩ (.int .i64 r.e.c)).heap[V4.heap.size]? = some (boxE 0 0 0 0 0) := stR_other qe4 nqeqr r
     refine rdy 28 (by kernel_rfl) rfl (fun K hK => ?_)
     go_simp
     refine hK.out _ _ (stR_below hHeld lqr r) (fun hHeld => ?_)
     clear hK K
     try simp only [Act.put, qa, qb, qc]
     have hHz : Below V4.heap.size V4 ((st7 w4 dqr r).setCell ⟨dqr, 7, none⟩ (.int .i64 r.e.c)) := hHeld
     clear hHeld
     generalize (st7 w4 dqr r).setCell ⟨dqr, 7, none⟩ (.int .i64 r.e.c) = wz at *
     have hHeld := hHz
     clear c1 f1
     have c2 := fun i => Joins.cell_of_block e2 i
     have f2 := fun i => Joins.unfrozen_of_block e2 i
     refine rdy 29 (by kernel_rfl) rfl (fun K hK => ?_)
     go_simp
     refine hK.out _ _ (stE_below hHeld lqe s) (fun hHeld => ?_)
     clear hK K
     try simp only [Act.put, qa, qb, qc]
     refine rdy 30 (by kernel_rfl) rfl (fun K hK => ?_)
     go_simp
     refine hK.out _ _ (hHeld) (fun hHeld => ?_)
     clear hK K
     try simp only [Act.put, qa, qb, qc]
     refine wpAnyH_done (by kernel_rfl) ?_ _
     go_wp2_with fail
     go_meet
     case rel => exact ⟨_, _, rfl, rfl, rfl, ⟨stE_other r2 nqeqr.symm s, stE_box e2 s, hHeld⟩⟩
   case step26rc =>
    intro K hK
    go_simp
    have lqr : V4.heap.size ≤ w1.heap.size := hHeld.size
    refine hK.out _ _ (grew hHeld _) (fun hHeld => ?_)
    clear hK K
    try simp only [Act.put, qa, qb, qc]
    have qr2 : (w1.alloc (boxR0)).heap[w1.heap.size]? = some (boxR0) := heap_new _ _
    have nqeqr : V4.heap.size ≠ w1.heap.size := by have := heap_lt qe1; omega
    have qe2 : _ := heap_below qe1 (show Below w1.heap.size w1 (w1.alloc (boxR0)) from grew (Below.refl _ _) _) (heap_lt qe1)
    generalize w1.alloc (boxR0) = w2 at *
    generalize w1.heap.size = dqr at *
    refine rdy 4 (by kernel_rfl) rfl (fun K hK => ?_)
    go_simp
    refine (ku.out _ hHeld).mono ?_
    rintro e w3 ⟨u, rfl, hch, hb3⟩
    have hH3 : Below V4.heap.size V4 w3 := step_below1 hHeld hb3
    have qe3 := heap_below qe2 hb3 (heap_lt qe2)
    have qr3 := heap_below qr2 hb3 (heap_lt qr2)
    refine hK.out _ _ hH3 (fun hHeld => ?_)
    clear hK K
    try simp only [Act.put, qa, qb, qc]
    refine rdy 21 (by kernel_rfl) rfl (fun K hK => ?_)
    go_simp
    refine (kl.out _ _ hch).mono ?_
    rintro e w4 ⟨rfl, hb4⟩
    have hH4 : Below V4.heap.size V4 w4 := step_below1 hHeld hb4
    have qe4 := heap_below qe3 hb4 (heap_lt qe3)
    have qr4 := heap_below qr3 hb4 (heap_lt qr3)
    have hch4 := ChAt.later hch hb4
    refine hK.out _ _ hH4 (fun hHeld => ?_)
    clear hK K
    try simp only [Act.put, qa, qb, qc]
    refine tk 22 (v := ?_) rfl (by kernel_rfl) (by rfl) (by assumption) (fun _ _ _ h => h) ?_ ?_
    rotate_left
    ·intro w0 hSw; clear hSw; go_simp; first | done | with_reducible rfl
    try simp only [Act.put, qa, qb, qc]
    refine tk 23 (v := ?_) rfl (by kernel_rfl) (by rfl) (by assumption) (fun _ _ _ h => h) ?_ ?_
    rotate_left
    ·intro w0 hSw; clear hSw; go_simp; first | done | with_reducible rfl
    try simp only [Act.put, qa, qb, qc]
    refine tk 24 (v := ?_) rfl (by kernel_rfl) (by rfl) (by assumption) (fun _ _ _ h => h) ?_ ?_
    rotate_left
    ·intro w0 hSw; clear hSw; go_simp; first | done | with_reducible rfl
    try simp only [Act.put, qa, qb, qc]
    refine tk 25 (v := ?_) rfl (by kernel_rfl) (by rfl) (by assumption) (fun _ _ _ h => h) ?_ ?_
    rotate_left
    ·intro w0 hSw; clear hSw; go_simp; first | done | with_reducible rfl
    try simp only [Act.put, qa, qb, qc]
    have c1 := fun i => Joins.cell_of_block qr4 i
    have f1 := fun i => Joins.unfrozen_of_block qr4 i
    have r2 : ((st7 w4 dqr r).setCell ⟨dqr, 7, none⟩ (.int .i64 r.e.c)).heap[dqr]? = some (boxRc r) := stR_box qr4 r
    have e2 : ((st7 w4 dqr r).setCell ⟨dqr, 7, none⟩ (.int .i64 r.e.c)).heap[V4.heap.size]? = some (boxE 0 0 0 0 0) := stR_other qe4 nqeqr r
    refine rdy 28 (by kernel_rfl) rfl (fun K hK => ?_)
    go_simp
    refine hK.out _ _ (stR_below hHeld lqr r) (fun hHeld => ?_)
    clear hK K
    try simp only [Act.put, qa, qb, qc]
    have hHz : Below V4.heap.size V4 ((st7 w4 dqr r).setCell ⟨dqr, 7, none⟩ (.int .i64 r.e.c)) := hHeld
    clear hHeld
    generalize (st7 w4 dqr r).setCell ⟨dqr, 7, none⟩ (.int .i64 r.e.c) = wz at *
    have hHeld := hHz
    clear c1 f1
    have c2 := fun i => Joins.cell_of_block e2 i
    have f2 := fun i => Joins.unfrozen_of_block e2 i
    refine rdy 29 (by kernel_rfl) rfl (fun K hK => ?_)
    go_simp
    refine hK.out _ _ (stE_below hHeld lqe s) (fun hHeld => ?_)
    clear hK K
    try simp only [Act.put, qa, qb, qc]
    refine rdy 30 (by kernel_rfl) rfl (fun K hK => ?_)
    go_simp
    refine hK.out _ _ (hHeld) (fun hHeld => ?_)
    clear hK K
    try simp only [Act.put, qa, qb, qc]
    refine wpAnyH_done (by kernel_rfl) ?_ _
    go_wp2_with fail
    go_meet
    case rel => exact ⟨_, _, rfl, rfl, rfl, ⟨stE_other r2 nqeqr.symm s, stE_box e2 s, hHeld⟩⟩
 case rest =>
  obtain ⟨rb, sb, rfl, rfl, rfl, hK⟩ := hcut
  have HI5 : Aside _ := HI4.out.later hK.below
  have HX5 : Aside _ := heap_below HX4.out hK.below (heap_lt HX4.out)
  have HB5 : Aside (Below w.heap.size w wc) := HB4.out.trans (hK.below.mono HB4.out.size)
  have HR5 : Aside (wc.heap[rb]? = some (boxRc r)) := hK.rbox
  have HS5 : Aside (wc.heap[sb]? = some (boxE s.k s.j s.v s.t s.c)) := hK.sbox
  clear hK HI4 HX4 HB4 ku kl
  generalize wc = w5 at *
  have zh := cb HX5
  have zr := cb HR5
  have hLd := HLd.out.later HB5.out
  rcases HC.out with ⟨h0, h1⟩ | ⟨h0, HC1⟩
  ·have hz : (d != 0) = true := by rw [bne_iff_ne]; exact h0
   subst h1
   clear h0 HC zh zr hLd
   go_wp2
   go_ret
   exact ⟨rfl, xs, cs, HI5.out, HE.out.1, HE.out.2⟩
  ·have hz : (d != 0) = false := by rw [h0]; rfl
   clear h0 HC
   rcases HC1 with ⟨h15, h1⟩ | ⟨h15, HC2⟩
   ·have hb15 : (xk == 15) = true := by rw [h15]; rfl
    subst h1
    have kt := w_tear hLd (HI5.out.nat HX.out) HFT.out.1 HFT.out.2 HRK.out xn
    clear h15 hLd
    go_wp2_with fail
    refine kt.mono ?_
    rintro e w6 ⟨rfl, hp⟩
    have HF : Aside _ := has_on3 HI5.out HE.out.1 HE.out.2 HX.out hp (HTR.out xn).1 (HTR.out xn).2 tear_err
    clear hp kt zh zr
    go_wp2
    go_ret
    exact ⟨by rw [onN_snd]; rfl, HF.out⟩
   ·have hb15 : (xk == 15) = false := by rw [beq_eq_false_iff_ne]; exact h15
    rcases HC2 with ⟨h5, h1⟩ | ⟨h5, h1⟩
    ·have hb5 : (xk == 5) = true := by rw [h5]; rfl
     subst h1
     have kt := w_writeAny hLd (HI5.out.nat HX.out) HFT.out.1 HFT.out.2 HRK.out
     clear h15 h5 hLd
     go_wp2_with fail
     refine kt.mono ?_
     rintro e w6 ⟨rfl, hp⟩
     have HF : Aside _ := has_on4 HI5.out HE.out.1 HE.out.2 HX.out hp HSX.out.1 HSX.out.2 writeAny_err
     clear hp kt zh zr
     go_wp2
     go_ret
     exact ⟨by rw [onN_snd]; rfl, HF.out⟩
    ·have hb5 : (xk == 5) = false := by rw [beq_eq_false_iff_ne]; exact h5
     have kt := w_hear hLd HI5.out HE.out.1 HE.out.2 k j (⟨cp, cd, ce, ca, (j : Int), cn, js, rs⟩ : Cl) a1 a2 m1 k1 m2 k2 HY.out HX.out rfl HFT.out.1 HFT.out.2 r HRK.out s HSX.out
     rw [← h1] at kt
     have zs := cb HS5
     clear h15 h5 hLd h1
     go_wp2_with fail
     refine kt.mono ?_
     rintro e w6 ⟨rfl, hp⟩
     have HF : Aside _ := hp
     clear hp kt zh zr zs
     go_wp2
     go_ret
     exact ⟨rfl, HF.out⟩
set_option maxHeartbeats 4000000 in
set_option maxRecDepth 100000 in
theorem w_atLink_who {X w : World} {B g1 g2 : Nat} {W : Wd} (h : WHas X w B g1 g2 W) (x : Hp) (g : ¬ (0 ≤ x.c ∧ x.c ≤ 2)) : AnsW 74 #[.pointer (some ⟨B, 0, none⟩), x.val] X w B g1 g2 (W, 5) := by
 have H := h
 obtain ⟨xs, cs, hI, hn, hc⟩ := h
 have hbA : Below w.heap.size w (w.alloc (boxH x)) := grew (Below.refl _ _) _
 have hcl := w_isClient (hI.later hbA).st x.c
 rw [decide_eq_false g] at hcl
 have HX0 : Aside ((w.alloc (boxH x)).heap[w.heap.size]? = some (boxH x)) := heap_new _ _
 have HH : Aside (WHas X (w.alloc (boxH x)) B g1 g2 W) := H.later hbA
 clear hI hn hc g hbA H
 go_enter Tryz.func74, Tryz.ntmps74
 go_upto_region 1 with fail
 generalize w.alloc (boxH x) = w1 at *
 have zh := cb HX0
 go_wp2_with fail
 refine hcl.mono ?_
 rintro e wx ⟨rfl, hwx⟩
 obtain rfl : w1 = wx := hwx.symm
 clear hcl zh
 go_wp2
 go_ret
 exact ⟨rfl, HH.out⟩
theorem w_atLink {X w : World} {B g1 g2 : Nat} {W : Wd} (hL : Laid w) (hW : RW W) (h : WHas X w B g1 g2 W) (x : Hp) : AnsW 74 #[.pointer (some ⟨B, 0, none⟩), x.val] X w B g1 g2 (atLink W x) := by
 unfold atLink
 by_cases g : 0 ≤ x.c ∧ x.c ≤ 2
 ·rw [if_neg (not_not_intro g)]
  obtain ⟨xs, cs, hI, hn, hc⟩ := h
  obtain ⟨xk, xc, xn, xj, xp, xe⟩ := x
  simp only at g ⊢
  obtain ⟨k, rfl⟩ : ∃ k : Nat, xc = k := ⟨xc.toNat, by omega⟩
  obtain ⟨y, hy⟩ : ∃ y, cs[k]? = some y := ⟨cs[k]'(by have := hI.three'; omega), List.getElem?_eq_getElem _⟩
  have hck := hW.cck g
  rw [wd_cl hc hy] at hck ⊢
  obtain ⟨⟨cp, cd, ce, ca, cl, cn, js, rs⟩, v1, v2⟩ := y
  obtain ⟨a1, k1, a2, k2, e1, e2⟩ := bk_slices (hI.st.clients _ (List.mem_of_getElem? hy)).1.1 (hI.st.clients _ (List.mem_of_getElem? hy)).1.2
  simp only at e1 e2 hck ⊢
  subst e1 e2
  have hl := (Cl.good (Cl.ck_zero.1 hck).1).2.2.2.1
  simp only at hl
  obtain ⟨j, rfl⟩ : ∃ j : Nat, cl = j := ⟨cl.toNat, by omega⟩
  obtain ⟨x, hx⟩ : ∃ x, xs[j]? = some x := ⟨xs[j]'(by have := hI.three; omega), List.getElem?_eq_getElem _⟩
  rw [wd_nd hn hx]
  by_cases hd : cd = 2
  ·have hdb : (cd != 2) = false := by rw [hd]; rfl
   cases hup : x.n.up with
   | false =>
    rw [if_pos (Or.inr rfl)]
    exact w_atLink_down hI hn hc k j (by omega) (by omega) cp cd ce ca cn js rs a1 a2 _ k1 _ k2 hy xk xn xj xp xe hx hdb hup
   | true =>
    rw [if_neg (by rw [hd]; simp)]
    exact w_atLink_go hI hn hc k j (by omega) (by omega) cp cd ce ca cn js rs a1 a2 _ k1 _ k2 hy xk xn xj xp xe hx hL hW hdb hup
  ·rw [if_pos (Or.inl hd)]
   exact w_atLink_idle hI hn hc k j (by omega) (by omega) cp cd ce ca cn js rs a1 a2 _ k1 _ k2 hy xk xn xj xp xe hx (by rw [bne_iff_ne]; exact hd)
 ·rw [if_pos g]
  exact w_atLink_who h x g
end Go.Proofs.YtmoaobfmopimlafGreatDoor
