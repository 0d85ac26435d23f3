/- For the law: Package world: atLink. -/
import Derived.Test.YtmoaobfmopimlafGreatDoorM13
namespace Go.Proofs.YtmoaobfmopimlafGreatDoor
open Go.RowKit
/-- A record's cells stored. -/
abbrev stR (w : World) (b : Nat) (r : Rc) : World := ((((((((w.setCell ⟨b, 0, none⟩ (.int .i64 r.k)).setCell ⟨b, 1, none⟩ (.int .i64 r.a)).setCell ⟨b, 2, none⟩ (.int .i64 r.p)).setCell ⟨b, 3, none⟩ (.int .i64 r.e.k)).setCell ⟨b, 4, none⟩ (.int .i64 r.e.j)).setCell ⟨b, 5, none⟩ (.int .i64 r.e.v)).setCell ⟨b, 6, none⟩ (.int .i64 r.e.t)).setCell ⟨b, 7, none⟩ (.int .i64 r.e.c))
theorem stR_below {W0 w : World} {b : Nat} (h : Below W0.heap.size W0 w) (hb : W0.heap.size ≤ b) (r : Rc) : Below W0.heap.size W0 (stR w b r) :=
  ((((((((h.setCell (p := ⟨b, 0, none⟩) hb _).setCell (p := ⟨b, 1, none⟩) hb _).setCell (p := ⟨b, 2, none⟩) hb _).setCell (p := ⟨b, 3, none⟩) hb _).setCell (p := ⟨b, 4, none⟩) hb _).setCell (p := ⟨b, 5, none⟩) hb _).setCell (p := ⟨b, 6, none⟩) hb _).setCell (p := ⟨b, 7, none⟩) hb _)
theorem stR_box {w : World} {b : Nat} {v0 v1 v2 v3 v4 v5 v6 v7 : Value} (h : w.heap[b]? = some (.cells #[v0, v1, v2, v3, v4, v5, v6, v7] 94)) (r : Rc) : (stR w b r).heap[b]? = some (boxRc r) := by
  have g0 := Joins.block_setCell h (i := 0) (.int .i64 r.k)
  have g1 := Joins.block_setCell g0 (i := 1) (.int .i64 r.a)
  have g2 := Joins.block_setCell g1 (i := 2) (.int .i64 r.p)
  have g3 := Joins.block_setCell g2 (i := 3) (.int .i64 r.e.k)
  have g4 := Joins.block_setCell g3 (i := 4) (.int .i64 r.e.j)
  have g5 := Joins.block_setCell g4 (i := 5) (.int .i64 r.e.v)
  have g6 := Joins.block_setCell g5 (i := 6) (.int .i64 r.e.t)
  have g7 := Joins.block_setCell g6 (i := 7) (.int .i64 r.e.c)
  simp only [List.setIfInBounds_toArray, List.set_cons_zero, List.set_cons_succ] at g7
  exact g7
theorem stR_other {w : World} {b q : Nat} {o : Obj} (h : w.heap[q]? = some o) (hne : q ≠ b) (r : Rc) : (stR w b r).heap[q]? = some o :=
  other_block (other_block (other_block (other_block (other_block (other_block (other_block (other_block h hne _ _) hne _ _) hne _ _) hne _ _) hne _ _) hne _ _) hne _ _) hne _ _
/-- A record and an entry in boxes that were made. -/
structure LkB (W0 wx : World) (rb sb : Nat) (r : Rc) (s : En) : Prop where
  rbox : wx.heap[rb]? = some (boxRc r)
  sbox : wx.heap[sb]? = some (boxE s.k s.j s.v s.t s.c)
  below : Below W0.heap.size W0 wx
set_option linter.unusedSimpArgs false in
set_option maxHeartbeats 8000000 in
set_option maxRecDepth 100000 in
theorem w_atLink_idle {X w : World} {B g1 g2 : Nat} {W : Wd} {xs : List Nb} {cs : List Cb} (hI : WIn X w B g1 g2 xs W.tip cs W.t) (hn : nodesOf xs = W.ns) (hc : clientsOf cs = W.cs) (k j : Nat) (hk : k < 3) (hj : j < 3) (cp cd : Int) (ce : En) (ca cn : Int) (js : List Jb) (rs : List Rg) (a1 a2 : Option Addr) (m1 k1 m2 k2 : Nat)
    (hy : cs[k]? = some ⟨⟨cp, cd, ce, ca, (j : Int), cn, js, rs⟩, .slice a1 m1 k1, .slice a2 m2 k2⟩) (xk xn xj xp : Int) (xe : En) {x : Nb} (hx : xs[j]? = some x) (hd : (cd != 2) = true) :
    AnsW 74 #[.pointer (some ⟨B, 0, none⟩), Hp.val ⟨xk, (k : Int), xn, xj, xp, xe⟩] X w B g1 g2 (W, 7) := by
  have hbA : Below w.heap.size w (w.alloc (boxH ⟨xk, (k : Int), xn, xj, xp, xe⟩)) := grew (Below.refl _ _) _
  have hcl := w_isClient (hI.later hbA).st (k : Int)
  rw [decide_eq_true (show 0 ≤ (k : Int) ∧ (k : Int) ≤ 2 by omega)] at hcl
  have HI0 : Aside (WIn X (w.alloc (boxH ⟨xk, (k : Int), xn, xj, xp, xe⟩)) B g1 g2 xs W.tip cs W.t) := hI.later hbA
  have HX0 : Aside ((w.alloc (boxH ⟨xk, (k : Int), xn, xj, xp, xe⟩)).heap[w.heap.size]? = some (boxH ⟨xk, (k : Int), xn, xj, xp, xe⟩)) := heap_new _ _
  have HB0 : Aside (Below w.heap.size w (w.alloc (boxH ⟨xk, (k : Int), xn, xj, xp, xe⟩))) := hbA
  have HE : Aside (nodesOf xs = W.ns ∧ clientsOf cs = W.cs) := ⟨hn, hc⟩
  have HY : Aside (cs[k]? = some ⟨⟨cp, cd, ce, ca, (j : Int), cn, js, rs⟩, .slice a1 m1 k1, .slice a2 m2 k2⟩) := hy
  have HX : Aside (xs[j]? = some x) := hx
  have hki : (k : Int) < 3 := by omega
  have hk0 : (0 : Int) ≤ (k : Int) := by omega
  have hji : (j : Int) < 3 := by omega
  have hj0 : (0 : Int) ≤ (j : Int) := by omega
  clear hI hn hc hy hx hbA
  go_enter Tryz.func74, Tryz.ntmps74
  go_upto_region 1 with fail
  generalize w.alloc (boxH ⟨xk, (k : Int), xn, xj, xp, xe⟩) = w1 at *
  have zh : ∀ i, w1.cell? ⟨w.heap.size, i, none⟩ = #[Value.int .i64 xk, .int .i64 (k : Int), .int .i64 xn, .int .i64 xj, .int .i64 xp, .int .i64 xe.k, .int .i64 xe.j, .int .i64 xe.v, .int .i64 xe.t, .int .i64 xe.c][i]? := fun i => Joins.cell_of_block HX0.out i
  go_wp2_with fail
  refine hcl.mono ?_
  rintro e wx ⟨rfl, hwx⟩
  obtain rfl : w1 = wx := hwx.symm
  clear hcl
  have zb := HI0.out.boxz
  go_upto_region 3 with fail
  go_region
  have HI1 : Aside (WIn X w1.drew B g1 g2 xs W.tip cs W.t) := HI0.out.later (Below.refl _ _).drew
  clear zb zh HI0 HX0 HB0
  go_upto_region 4 with fail
  generalize w1.drew = w2 at *
  have zb := HI1.out.boxz
  have y1 := HI1.out.cat HY.out (i := 1) rfl
  have y8 := HI1.out.cat HY.out (i := 8) rfl
  clear y8 zb
  go_region
  go_wp2
  go_ret
  exact ⟨rfl, xs, cs, HI1.out.later (Below.refl _ _).drew, HE.out.1, HE.out.2⟩
set_option linter.unusedSimpArgs false in
set_option maxHeartbeats 8000000 in
set_option maxRecDepth 100000 in
theorem w_atLink_down {X w : World} {B g1 g2 : Nat} {W : Wd} {xs : List Nb} {cs : List Cb} (hI : WIn X w B g1 g2 xs W.tip cs W.t) (hn : nodesOf xs = W.ns) (hc : clientsOf cs = W.cs) (k j : Nat) (hk : k < 3) (hj : j < 3) (cp cd : Int) (ce : En) (ca cn : Int) (js : List Jb) (rs : List Rg) (a1 a2 : Option Addr) (m1 k1 m2 k2 : Nat)
    (hy : cs[k]? = some ⟨⟨cp, cd, ce, ca, (j : Int), cn, js, rs⟩, .slice a1 m1 k1, .slice a2 m2 k2⟩) (xk xn xj xp : Int) (xe : En) {x : Nb} (hx : xs[j]? = some x) (hd : (cd != 2) = false) (hup : x.n.up = false) :
    AnsW 74 #[.pointer (some ⟨B, 0, none⟩), Hp.val ⟨xk, (k : Int), xn, xj, xp, xe⟩] X w B g1 g2 (W, 7) := by
  have hbA : Below w.heap.size w (w.alloc (boxH ⟨xk, (k : Int), xn, xj, xp, xe⟩)) := grew (Below.refl _ _) _
  have hcl := w_isClient (hI.later hbA).st (k : Int)
  rw [decide_eq_true (show 0 ≤ (k : Int) ∧ (k : Int) ≤ 2 by omega)] at hcl
  have HI0 : Aside (WIn X (w.alloc (boxH ⟨xk, (k : Int), xn, xj, xp, xe⟩)) B g1 g2 xs W.tip cs W.t) := hI.later hbA
  have HX0 : Aside ((w.alloc (boxH ⟨xk, (k : Int), xn, xj, xp, xe⟩)).heap[w.heap.size]? = some (boxH ⟨xk, (k : Int), xn, xj, xp, xe⟩)) := heap_new _ _
  have HB0 : Aside (Below w.heap.size w (w.alloc (boxH ⟨xk, (k : Int), xn, xj, xp, xe⟩))) := hbA
  have HE : Aside (nodesOf xs = W.ns ∧ clientsOf cs = W.cs) := ⟨hn, hc⟩
  have HY : Aside (cs[k]? = some ⟨⟨cp, cd, ce, ca, (j : Int), cn, js, rs⟩, .slice a1 m1 k1, .slice a2 m2 k2⟩) := hy
  have HX : Aside (xs[j]? = some x) := hx
  have hki : (k : Int) < 3 := by omega
  have hk0 : (0 : Int) ≤ (k : Int) := by omega
  have hji : (j : Int) < 3 := by omega
  have hj0 : (0 : Int) ≤ (j : Int) := by omega
  clear hI hn hc hy hx hbA
  go_enter Tryz.func74, Tryz.ntmps74
  go_upto_region 1 with fail
  generalize w.alloc (boxH ⟨xk, (k : Int), xn, xj, xp, xe⟩) = w1 at *
  have zh : ∀ i, w1.cell? ⟨w.heap.size, i, none⟩ = #[Value.int .i64 xk, .int .i64 (k : Int), .int .i64 xn, .int .i64 xj, .int .i64 xp, .int .i64 xe.k, .int .i64 xe.j, .int .i64 xe.v, .int .i64 xe.t, .int .i64 xe.c][i]? := fun i => Joins.cell_of_block HX0.out i
  go_wp2_with fail
  refine hcl.mono ?_
  rintro e wx ⟨rfl, hwx⟩
  obtain rfl : w1 = wx := hwx.symm
  clear hcl
  have zb := HI0.out.boxz
  go_upto_region 3 with fail
  go_region
  have HI1 : Aside (WIn X w1.drew B g1 g2 xs W.tip cs W.t) := HI0.out.later (Below.refl _ _).drew
  clear zb zh HI0 HX0 HB0
  go_upto_region 4 with fail
  generalize w1.drew = w2 at *
  have zb := HI1.out.boxz
  have y1 := HI1.out.cat HY.out (i := 1) rfl
  have y8 := HI1.out.cat HY.out (i := 8) rfl
  have x4 := (HI1.out.nat HX.out).cell (i := 4) rfl
  rw [hup] at x4
  go_region
  go_wp2
  go_ret
  exact ⟨rfl, xs, cs, HI1.out.later (Below.refl _ _).drew, HE.out.1, HE.out.2⟩
set_option linter.unusedSimpArgs false in
set_option maxHeartbeats 16000000 in
set_option maxRecDepth 100000 in
theorem w_atLink_go {X w : World} {B g1 g2 : Nat} {W : Wd} {xs : List Nb} {cs : List Cb} (hI : WIn X w B g1 g2 xs W.tip cs W.t) (hn : nodesOf xs = W.ns) (hc : clientsOf cs = W.cs) (k j : Nat) (hk : k < 3) (hj : j < 3) (cp cd : Int) (ce : En) (ca cn : Int) (js : List Jb) (rs : List Rg) (a1 a2 : Option Addr) (m1 k1 m2 k2 : Nat)
    (hy : cs[k]? = some ⟨⟨cp, cd, ce, ca, (j : Int), cn, js, rs⟩, .slice a1 m1 k1, .slice a2 m2 k2⟩) (xk xn xj xp : Int) (xe : En) {x : Nb} (hx : xs[j]? = some x) (hL : Laid w) (hW : RW W) (hd : (cd != 2) = false) (hup : x.n.up = true) :
    AnsW 74 #[.pointer (some ⟨B, 0, none⟩), Hp.val ⟨xk, (k : Int), xn, xj, xp, xe⟩] X w B g1 g2 (goAt W ⟨xk, (k : Int), xn, xj, xp, xe⟩ (⟨cp, cd, ce, ca, (j : Int), cn, js, rs⟩ : Cl) x.n (linkIn W.us (j : Int) ca ce cp)) := by
  obtain ⟨⟨r, s, d⟩, hq⟩ : ∃ q, linkIn W.us (j : Int) ca ce cp = q := ⟨_, rfl⟩
  have hrk := link_kind hq
  rw [hq]
  have hus : W.us = (nodesOf xs).map Nd.u := by rw [Wd.us, hn]
  have hnck : x.n.ck = 0 := hW.node j x.n (by rw [← hn]; exact nodes_at hx)
  have hsub := any_sixty (r := r) hnck hup
  have htear := fun kk => tear_sixty (r := r) (k := kk) hnck
  have hfit := right_fits hnck
  have ku0 : ∀ V, Below w.heap.size w V → Calls Tryz.prog 106 #[.slice (some ⟨g1, 0, none⟩) 3 3] V fun e w' => ∃ u, e = .returned u ∧ ChAt w' u (ubsOf xs) ∧ Below V.heap.size V w' := fun V hV => by
    have hJ := hI.later hV
    exact w_units _ xs V (by have := slOf_lit (c := 3) Nb.five hJ.st.nrow rfl; rwa [hJ.three] at this) (by rw [hI.three]; omega) (fun y hy => (hJ.st.nodes y hy).1)
  have kl : Aside (∀ V u, ChAt V u (ubsOf xs) → Calls Tryz.prog 105 #[u, .int .i64 (j : Int), .int .i64 ca, ce.val, .int .i64 cp] V fun e w' => e = .returned (.tuple #[r.val, s.val, .int .i64 d]) ∧ Below V.heap.size V w') := fun V u hu =>
    klink (fits_right hW hn) (by rw [← hus]; exact hW.chain) (j : Int) ca cp ce (by rw [← hus]; exact hq) V u hu
  have KU : Aside _ := ku0
  have HLd : Aside (Laid w) := hL
  have HRK : Aside (r = Rc.zero ∨ r.k = 1) := hrk
  have HFT : Aside (x.n.s.length ≤ topLen ∧ x.n.w.length ≤ topLen) := hfit
  have HSX : Aside ((x.n.writeAny r).1.u.cells.length = 60 ∧ (x.n.writeAny r).1.up = x.n.up) := hsub
  have HTR : Aside (∀ kk, (x.n.tear r kk).1.u.cells.length = 60 ∧ (x.n.tear r kk).1.u = x.n.u) := htear
  obtain ⟨rr, HRR⟩ : ∃ rr, Hid (goAt W ⟨xk, (k : Int), xn, xj, xp, xe⟩ (⟨cp, cd, ce, ca, (j : Int), cn, js, rs⟩ : Cl) x.n (r, s, d) = rr) := ⟨_, rfl⟩
  rw [HRR.out]
  have HC : Hid ((d ≠ 0 ∧ rr = (W, d)) ∨ (d = 0 ∧ ((xk = 15 ∧ rr = W.onN (j : Int) (x.n.tear r xn)) ∨ (¬ xk = 15 ∧ ((xk = 5 ∧ rr = W.onN (j : Int) (x.n.writeAny r)) ∨ (¬ xk = 5 ∧ rr = hearAt W (k : Int) (⟨cp, cd, ce, ca, (j : Int), cn, js, rs⟩ : Cl) x.n r s)))))) := by
    have := HRR.out
    rw [goAt] at this
    simp only at this
    by_cases h0 : d = 0
    · rw [if_neg (not_not_intro h0)] at this
      refine Or.inr ⟨h0, ?_⟩
      by_cases h1 : xk = 15
      · rw [if_pos h1] at this; exact Or.inl ⟨h1, this.symm⟩
      · rw [if_neg h1] at this
        refine Or.inr ⟨h1, ?_⟩
        by_cases h2 : xk = 5
        · rw [if_pos h2] at this; exact Or.inl ⟨h2, this.symm⟩
        · rw [if_neg h2] at this; exact Or.inr ⟨h2, this.symm⟩
    · rw [if_pos h0] at this; exact Or.inl ⟨h0, this.symm⟩
  have hbA : Below w.heap.size w (w.alloc (boxH ⟨xk, (k : Int), xn, xj, xp, xe⟩)) := grew (Below.refl _ _) _
  have hcl := w_isClient (hI.later hbA).st (k : Int)
  rw [decide_eq_true (show 0 ≤ (k : Int) ∧ (k : Int) ≤ 2 by omega)] at hcl
  have HI0 : Aside (WIn X (w.alloc (boxH ⟨xk, (k : Int), xn, xj, xp, xe⟩)) B g1 g2 xs W.tip cs W.t) := hI.later hbA
  have HX0 : Aside ((w.alloc (boxH ⟨xk, (k : Int), xn, xj, xp, xe⟩)).heap[w.heap.size]? = some (boxH ⟨xk, (k : Int), xn, xj, xp, xe⟩)) := heap_new _ _
  have HB0 : Aside (Below w.heap.size w (w.alloc (boxH ⟨xk, (k : Int), xn, xj, xp, xe⟩))) := hbA
  have HE : Aside (nodesOf xs = W.ns ∧ clientsOf cs = W.cs) := ⟨hn, hc⟩
  have HY : Aside (cs[k]? = some ⟨⟨cp, cd, ce, ca, (j : Int), cn, js, rs⟩, .slice a1 m1 k1, .slice a2 m2 k2⟩) := hy
  have HX : Aside (xs[j]? = some x) := hx
  have hki : (k : Int) < 3 := by omega
  have hk0 : (0 : Int) ≤ (k : Int) := by omega
  have hji : (j : Int) < 3 := by omega
  have hj0 : (0 : Int) ≤ (j : Int) := by omega
  clear hbA HRR ku0 hL hrk hfit hsub htear hus hnck hq hI hn hc hW hx hy
  go_enter Tryz.func74, Tryz.ntmps74
  go_upto_region 1 with fail
  generalize w.alloc (boxH ⟨xk, (k : Int), xn, xj, xp, xe⟩) = w1 at *
  have zh : ∀ i, w1.cell? ⟨w.heap.size, i, none⟩ = #[Value.int .i64 xk, .int .i64 (k : Int), .int .i64 xn, .int .i64 xj, .int .i64 xp, .int .i64 xe.k, .int .i64 xe.j, .int .i64 xe.v, .int .i64 xe.t, .int .i64 xe.c][i]? := fun i => Joins.cell_of_block HX0.out i
  go_wp2_with fail
  refine hcl.mono ?_
  rintro e wx ⟨rfl, hwx⟩
  obtain rfl : w1 = wx := hwx.symm
  clear hcl
  have zb := HI0.out.boxz
  go_upto_region 3 with fail
  go_region
  have HI2 : Aside (WIn X w1.drew B g1 g2 xs W.tip cs W.t) := HI0.out.later (Below.refl _ _).drew
  have HX2 : Aside (w1.drew.heap[w.heap.size]? = some (boxH ⟨xk, (k : Int), xn, xj, xp, xe⟩)) := HX0.out
  have HB2 : Aside (Below w.heap.size w w1.drew) := HB0.out.drew
  clear zb zh HI0 HX0 HB0
  go_upto_region 4 with fail
  generalize w1.drew = w2 at *
  have zb := HI2.out.boxz
  have y1 := HI2.out.cat HY.out (i := 1) rfl
  have y8 := HI2.out.cat HY.out (i := 8) rfl
  have x4 := (HI2.out.nat HX.out).cell (i := 4) rfl
  rw [hup] at x4
  go_region
  have HI3 : Aside (WIn X w2.drew B g1 g2 xs W.tip cs W.t) := HI2.out.later (Below.refl _ _).drew
  have HX3 : Aside (w2.drew.heap[w.heap.size]? = some (boxH ⟨xk, (k : Int), xn, xj, xp, xe⟩)) := HX2.out
  have HB3 : Aside (Below w.heap.size w w2.drew) := HB2.out.drew
  clear zb y1 y8 x4 HI2 HX2 HB2
  go_upto_region 6 with fail
  generalize w2.drew = w3 at *
  have zb := HI3.out.boxz
  have y8 := HI3.out.cat HY.out (i := 8) rfl
  go_region
  have HI4 : Aside (WIn X w3.drew B g1 g2 xs W.tip cs W.t) := HI3.out.later (Below.refl _ _).drew
  have HX4 : Aside (w3.drew.heap[w.heap.size]? = some (boxH ⟨xk, (k : Int), xn, xj, xp, xe⟩)) := HX3.out
  have HB4 : Aside (Below w.heap.size w w3.drew) := HB3.out.drew
  clear zb y8 HI3 HX3 HB3
  go_upto_region 7 with fail
  generalize w3.drew = V4 at *
  have ku : Aside (∀ V, Below V4.heap.size V4 V → Calls Tryz.prog 106 #[.slice (some ⟨g1, 0, none⟩) 3 3] V fun e w' => ∃ u, e = .returned u ∧ ChAt w' u (ubsOf xs) ∧ Below V.heap.size V w') := fun V hV => KU.out V (HB4.out.trans (hV.mono HB4.out.size))
  clear KU
  go_cut [7, 8, 9] from 50 to 75 (fun s7 s8 s9 wx => ∃ rb sb : Nat, s7 = .pointer (some ⟨rb, 0, none⟩) ∧ s8 = .pointer (some ⟨sb, 0, none⟩) ∧ s9 = .int .i64 d ∧ LkB V4 wx rb sb r s)
  case first =>
    refine wp_region_held_drew (S := fun W' => Below V4.heap.size V4 W') (by kernel_rfl) ((Below.refl _ _).drew) (fun hHeld => ?_)
    refine wpAnyH_take (i := 0) (oi := ?oi0r) (v := ?v0r) ?hi0r ?hs0r ?hf0r ?hr0r ?hQ0r (Or.inl ⟨?hw0r, ?hy0r⟩) (by assumption) ?h0r
    case hi0r => (simp only [List.getElem?_toArray, List.getElem?_cons_succ, List.getElem?_cons_zero]; rfl)
    case hs0r => kernel_rfl
    case hf0r => kernel_rfl
    case hr0r => kernel_rfl
    case hw0r => rfl
    case hy0r => (intro w0 hSw; clear hSw; go_simp; first | done | with_reducible rfl)
    case hQ0r => exact fun _ _ _ h => h
    try simp only [Act.put, List.setIfInBounds_toArray, List.set_cons_zero, List.set_cons_succ]
    refine wpAnyH_take (i := 1) (oi := ?oi1r) (v := ?v1r) ?hi1r ?hs1r ?hf1r ?hr1r ?hQ1r (Or.inl ⟨?hw1r, ?hy1r⟩) (by assumption) ?h1r
    case hi1r => (simp only [List.getElem?_toArray, List.getElem?_cons_succ, List.getElem?_cons_zero]; rfl)
    case hs1r => kernel_rfl
    case hf1r => kernel_rfl
    case hr1r => kernel_rfl
    case hw1r => rfl
    case hy1r => (intro w0 hSw; clear hSw; go_simp; first | done | with_reducible rfl)
    case hQ1r => exact fun _ _ _ h => h
    try simp only [Act.put, List.setIfInBounds_toArray, List.set_cons_zero, List.set_cons_succ]
    refine wpAnyH_take (i := 2) (oi := ?oi2r) (v := ?v2r) ?hi2r ?hs2r ?hf2r ?hr2r ?hQ2r (Or.inl ⟨?hw2r, ?hy2r⟩) (by assumption) ?h2r
    case hi2r => (simp only [List.getElem?_toArray, List.getElem?_cons_succ, List.getElem?_cons_zero]; rfl)
    case hs2r => kernel_rfl
    case hf2r => kernel_rfl
    case hr2r => kernel_rfl
    case hw2r => rfl
    case hy2r => (intro w0 hSw; clear hSw; go_simp; first | done | with_reducible rfl)
    case hQ2r => exact fun _ _ _ h => h
    try simp only [Act.put, List.setIfInBounds_toArray, List.set_cons_zero, List.set_cons_succ]
    refine wpAnyH_take (i := 3) (oi := ?oi3r) (v := ?v3r) ?hi3r ?hs3r ?hf3r ?hr3r ?hQ3r (Or.inl ⟨?hw3r, ?hy3r⟩) (by assumption) ?h3r
    case hi3r => (simp only [List.getElem?_toArray, List.getElem?_cons_succ, List.getElem?_cons_zero]; rfl)
    case hs3r => kernel_rfl
    case hf3r => kernel_rfl
    case hr3r => kernel_rfl
    case hw3r => rfl
    case hy3r => (intro w0 hSw; have z := (HI4.out.later hSw).boxz; clear hSw; go_simp; first | done | with_reducible rfl)
    case hQ3r => exact fun _ _ _ h => h
    try simp only [Act.put, List.setIfInBounds_toArray, List.set_cons_zero, List.set_cons_succ]
    refine wpAnyH_take (i := 5) (oi := ?oi5r) (v := ?v5r) ?hi5r ?hs5r ?hf5r ?hr5r ?hQ5r (Or.inl ⟨?hw5r, ?hy5r⟩) (by assumption) ?h5r
    case hi5r => (simp only [List.getElem?_toArray, List.getElem?_cons_succ, List.getElem?_cons_zero]; rfl)
    case hs5r => kernel_rfl
    case hf5r => kernel_rfl
    case hr5r => kernel_rfl
    case hw5r => rfl
    case hy5r => (intro w0 hSw; clear hSw; go_simp; first | done | with_reducible rfl)
    case hQ5r => exact fun _ _ _ h => h
    try simp only [Act.put, List.setIfInBounds_toArray, List.set_cons_zero, List.set_cons_succ]
    refine wpAnyH_take (i := 6) (oi := ?oi6r) (v := ?v6r) ?hi6r ?hs6r ?hf6r ?hr6r ?hQ6r (Or.inl ⟨?hw6r, ?hy6r⟩) (by assumption) ?h6r
    case hi6r => (simp only [List.getElem?_toArray, List.getElem?_cons_succ, List.getElem?_cons_zero]; rfl)
    case hs6r => kernel_rfl
    case hf6r => kernel_rfl
    case hr6r => kernel_rfl
    case hw6r => rfl
    case hy6r => (intro w0 hSw; clear hSw; go_simp; first | done | with_reducible rfl)
    case hQ6r => exact fun _ _ _ h => h
    try simp only [Act.put, List.setIfInBounds_toArray, List.set_cons_zero, List.set_cons_succ]
    refine wpAnyH_take (i := 7) (oi := ?oi7r) (v := ?v7r) ?hi7r ?hs7r ?hf7r ?hr7r ?hQ7r (Or.inl ⟨?hw7r, ?hy7r⟩) (by assumption) ?h7r
    case hi7r => (simp only [List.getElem?_toArray, List.getElem?_cons_succ, List.getElem?_cons_zero]; rfl)
    case hs7r => kernel_rfl
    case hf7r => kernel_rfl
    case hr7r => kernel_rfl
    case hw7r => rfl
    case hy7r => (intro w0 hSw; clear hSw; go_simp; first | done | with_reducible rfl)
    case hQ7r => exact fun _ _ _ h => h
    try simp only [Act.put, List.setIfInBounds_toArray, List.set_cons_zero, List.set_cons_succ]
    refine wpAnyH_take (i := 8) (oi := ?oi8r) (v := ?v8r) ?hi8r ?hs8r ?hf8r ?hr8r ?hQ8r (Or.inl ⟨?hw8r, ?hy8r⟩) (by assumption) ?h8r
    case hi8r => (simp only [List.getElem?_toArray, List.getElem?_cons_succ, List.getElem?_cons_zero]; rfl)
    case hs8r => kernel_rfl
    case hf8r => kernel_rfl
    case hr8r => kernel_rfl
    case hw8r => rfl
    case hy8r => (intro w0 hSw; have y8 := (HI4.out.later hSw).cat HY.out (i := 8) rfl; clear hSw; go_simp; first | done | with_reducible rfl)
    case hQ8r => exact fun _ _ _ h => h
    try simp only [Act.put, List.setIfInBounds_toArray, List.set_cons_zero, List.set_cons_succ]
    refine wpAnyH_take (i := 9) (oi := ?oi9r) (v := ?v9r) ?hi9r ?hs9r ?hf9r ?hr9r ?hQ9r (Or.inl ⟨?hw9r, ?hy9r⟩) (by assumption) ?h9r
    case hi9r => (simp only [List.getElem?_toArray, List.getElem?_cons_succ, List.getElem?_cons_zero]; rfl)
    case hs9r => kernel_rfl
    case hf9r => kernel_rfl
    case hr9r => kernel_rfl
    case hw9r => rfl
    case hy9r => (intro w0 hSw; clear hSw; go_simp; first | done | with_reducible rfl)
    case hQ9r => exact fun _ _ _ h => h
    try simp only [Act.put, List.setIfInBounds_toArray, List.set_cons_zero, List.set_cons_succ]
    refine wpAnyH_take (i := 10) (oi := ?oi10r) (v := ?v10r) ?hi10r ?hs10r ?hf10r ?hr10r ?hQ10r (Or.inl ⟨?hw10r, ?hy10r⟩) (by assumption) ?h10r
    case hi10r => (simp only [List.getElem?_toArray, List.getElem?_cons_succ, List.getElem?_cons_zero]; rfl)
    case hs10r => kernel_rfl
    case hf10r => kernel_rfl
    case hr10r => kernel_rfl
    case hw10r => rfl
    case hy10r => (intro w0 hSw; clear hSw; go_simp; first | done | with_reducible rfl)
    case hQ10r => exact fun _ _ _ h => h
    try simp only [Act.put, List.setIfInBounds_toArray, List.set_cons_zero, List.set_cons_succ]
    refine wpAnyH_take (i := 11) (oi := ?oi11r) (v := ?v11r) ?hi11r ?hs11r ?hf11r ?hr11r ?hQ11r (Or.inl ⟨?hw11r, ?hy11r⟩) (by assumption) ?h11r
    case hi11r => (simp only [List.getElem?_toArray, List.getElem?_cons_succ, List.getElem?_cons_zero]; rfl)
    case hs11r => kernel_rfl
    case hf11r => kernel_rfl
    case hr11r => kernel_rfl
    case hw11r => rfl
    case hy11r => (intro w0 hSw; clear hSw; go_simp; first | done | with_reducible rfl)
    case hQ11r => exact fun _ _ _ h => h
    try simp only [Act.put, List.setIfInBounds_toArray, List.set_cons_zero, List.set_cons_succ]
    refine wpAnyH_take (i := 12) (oi := ?oi12r) (v := ?v12r) ?hi12r ?hs12r ?hf12r ?hr12r ?hQ12r (Or.inl ⟨?hw12r, ?hy12r⟩) (by assumption) ?h12r
    case hi12r => (simp only [List.getElem?_toArray, List.getElem?_cons_succ, List.getElem?_cons_zero]; rfl)
    case hs12r => kernel_rfl
    case hf12r => kernel_rfl
    case hr12r => kernel_rfl
    case hw12r => rfl
    case hy12r => (intro w0 hSw; have y7 := (HI4.out.later hSw).cat HY.out (i := 7) rfl; clear hSw; go_simp; first | done | with_reducible rfl)
    case hQ12r => exact fun _ _ _ h => h
    try simp only [Act.put, List.setIfInBounds_toArray, List.set_cons_zero, List.set_cons_succ]
    refine wpAnyH_take (i := 13) (oi := ?oi13r) (v := ?v13r) ?hi13r ?hs13r ?hf13r ?hr13r ?hQ13r (Or.inl ⟨?hw13r, ?hy13r⟩) (by assumption) ?h13r
    case hi13r => (simp only [List.getElem?_toArray, List.getElem?_cons_succ, List.getElem?_cons_zero]; rfl)
    case hs13r => kernel_rfl
    case hf13r => kernel_rfl
    case hr13r => kernel_rfl
    case hw13r => rfl
    case hy13r => (intro w0 hSw; clear hSw; go_simp; first | done | with_reducible rfl)
    case hQ13r => exact fun _ _ _ h => h
    try simp only [Act.put, List.setIfInBounds_toArray, List.set_cons_zero, List.set_cons_succ]
    refine wpAnyH_take (i := 14) (oi := ?oi14r) (v := ?v14r) ?hi14r ?hs14r ?hf14r ?hr14r ?hQ14r (Or.inl ⟨?hw14r, ?hy14r⟩) (by assumption) ?h14r
    case hi14r => (simp only [List.getElem?_toArray, List.getElem?_cons_succ, List.getElem?_cons_zero]; rfl)
    case hs14r => kernel_rfl
    case hf14r => kernel_rfl
    case hr14r => kernel_rfl
    case hw14r => rfl
    case hy14r => (intro w0 hSw; clear hSw; go_simp; first | done | with_reducible rfl)
    case hQ14r => exact fun _ _ _ h => h
    try simp only [Act.put, List.setIfInBounds_toArray, List.set_cons_zero, List.set_cons_succ]
    refine wpAnyH_take (i := 15) (oi := ?oi15r) (v := ?v15r) ?hi15r ?hs15r ?hf15r ?hr15r ?hQ15r (Or.inl ⟨?hw15r, ?hy15r⟩) (by assumption) ?h15r
    case hi15r => (simp only [List.getElem?_toArray, List.getElem?_cons_succ, List.getElem?_cons_zero]; rfl)
    case hs15r => kernel_rfl
    case hf15r => kernel_rfl
    case hr15r => kernel_rfl
    case hw15r => rfl
    case hy15r => (intro w0 hSw; clear hSw; go_simp; first | done | with_reducible rfl)
    case hQ15r => exact fun _ _ _ h => h
    try simp only [Act.put, List.setIfInBounds_toArray, List.set_cons_zero, List.set_cons_succ]
    refine wpAnyH_take (i := 16) (oi := ?oi16r) (v := ?v16r) ?hi16r ?hs16r ?hf16r ?hr16r ?hQ16r (Or.inl ⟨?hw16r, ?hy16r⟩) (by assumption) ?h16r
    case hi16r => (simp only [List.getElem?_toArray, List.getElem?_cons_succ, List.getElem?_cons_zero]; rfl)
    case hs16r => kernel_rfl
    case hf16r => kernel_rfl
    case hr16r => kernel_rfl
    case hw16r => rfl
    case hy16r => (intro w0 hSw; have y2 := (HI4.out.later hSw).cat HY.out (i := 2) rfl; have y3 := (HI4.out.later hSw).cat HY.out (i := 3) rfl; have y4 := (HI4.out.later hSw).cat HY.out (i := 4) rfl; have y5 := (HI4.out.later hSw).cat HY.out (i := 5) rfl; have y6 := (HI4.out.later hSw).cat HY.out (i := 6) rfl; clear hSw; go_simp; first | done | with_reducible rfl)
    case hQ16r => exact fun _ _ _ h => h
    try simp only [Act.put, List.setIfInBounds_toArray, List.set_cons_zero, List.set_cons_succ]
    refine wpAnyH_take (i := 17) (oi := ?oi17r) (v := ?v17r) ?hi17r ?hs17r ?hf17r ?hr17r ?hQ17r (Or.inl ⟨?hw17r, ?hy17r⟩) (by assumption) ?h17r
    case hi17r => (simp only [List.getElem?_toArray, List.getElem?_cons_succ, List.getElem?_cons_zero]; rfl)
    case hs17r => kernel_rfl
    case hf17r => kernel_rfl
    case hr17r => kernel_rfl
    case hw17r => rfl
    case hy17r => (intro w0 hSw; clear hSw; go_simp; first | done | with_reducible rfl)
    case hQ17r => exact fun _ _ _ h => h
    try simp only [Act.put, List.setIfInBounds_toArray, List.set_cons_zero, List.set_cons_succ]
    refine wpAnyH_take (i := 18) (oi := ?oi18r) (v := ?v18r) ?hi18r ?hs18r ?hf18r ?hr18r ?hQ18r (Or.inl ⟨?hw18r, ?hy18r⟩) (by assumption) ?h18r
    case hi18r => (simp only [List.getElem?_toArray, List.getElem?_cons_succ, List.getElem?_cons_zero]; rfl)
    case hs18r => kernel_rfl
    case hf18r => kernel_rfl
    case hr18r => kernel_rfl
    case hw18r => rfl
    case hy18r => (intro w0 hSw; clear hSw; go_simp; first | done | with_reducible rfl)
    case hQ18r => exact fun _ _ _ h => h
    try simp only [Act.put, List.setIfInBounds_toArray, List.set_cons_zero, List.set_cons_succ]
    refine wpAnyH_take (i := 19) (oi := ?oi19r) (v := ?v19r) ?hi19r ?hs19r ?hf19r ?hr19r ?hQ19r (Or.inl ⟨?hw19r, ?hy19r⟩) (by assumption) ?h19r
    case hi19r => (simp only [List.getElem?_toArray, List.getElem?_cons_succ, List.getElem?_cons_zero]; rfl)
    case hs19r => kernel_rfl
    case hf19r => kernel_rfl
    case hr19r => kernel_rfl
    case hw19r => rfl
    case hy19r => (intro w0 hSw; clear hSw; go_simp; first | done | with_reducible rfl)
    case hQ19r => exact fun _ _ _ h => h
    try simp only [Act.put, List.setIfInBounds_toArray, List.set_cons_zero, List.set_cons_succ]
    refine wpAnyH_take (i := 20) (oi := ?oi20r) (v := ?v20r) ?hi20r ?hs20r ?hf20r ?hr20r ?hQ20r (Or.inl ⟨?hw20r, ?hy20r⟩) (by assumption) ?h20r
    case hi20r => (simp only [List.getElem?_toArray, List.getElem?_cons_succ, List.getElem?_cons_zero]; rfl)
    case hs20r => kernel_rfl
    case hf20r => kernel_rfl
    case hr20r => kernel_rfl
    case hw20r => rfl
    case hy20r => (intro w0 hSw; have y0 := (HI4.out.later hSw).cat HY.out (i := 0) rfl; simp only [Nat.add_zero] at y0; clear hSw; go_simp; first | done | with_reducible rfl)
    case hQ20r => exact fun _ _ _ h => h
    try simp only [Act.put, List.setIfInBounds_toArray, List.set_cons_zero, List.set_cons_succ]
    refine wpAnyH_ready (rs := [4, 26, 27]) (by kernel_rfl) (by simp) ?_
    refine AllReadyH.cons (o := ?o4r) ?hi4r ?step4r (AllReadyH.cons (o := ?o26r) ?hi26r ?step26r (AllReadyH.cons (o := ?o27r) ?hi27r ?step27r AllReadyH.nil))
    case hi4r => (simp only [List.getElem?_toArray, List.getElem?_cons_succ, List.getElem?_cons_zero]; rfl)
    case hi26r => (simp only [List.getElem?_toArray, List.getElem?_cons_succ, List.getElem?_cons_zero]; rfl)
    case hi27r => (simp only [List.getElem?_toArray, List.getElem?_cons_succ, List.getElem?_cons_zero]; rfl)
    case step4r =>
      intro K hK
      go_simp
      refine (ku.out _ hHeld).mono ?_
      rintro e w1 ⟨u, rfl, hch, hb1⟩
      have hH1 : Below V4.heap.size V4 w1 := step_below1 hHeld hb1
      refine hK.out _ _ hH1 (fun hHeld => ?_)
      clear hK K
      try simp only [Act.put, List.setIfInBounds_toArray, List.set_cons_zero, List.set_cons_succ]
      refine wpAnyH_ready (rs := [21, 26, 27]) (by kernel_rfl) (by simp) ?_
      refine AllReadyH.cons (o := ?o21ra) ?hi21ra ?step21ra (AllReadyH.cons (o := ?o26ra) ?hi26ra ?step26ra (AllReadyH.cons (o := ?o27ra) ?hi27ra ?step27ra AllReadyH.nil))
      case hi21ra => (simp only [List.getElem?_toArray, List.getElem?_cons_succ, List.getElem?_cons_zero]; rfl)
      case hi26ra => (simp only [List.getElem?_toArray, List.getElem?_cons_succ, List.getElem?_cons_zero]; rfl)
      case hi27ra => (simp only [List.getElem?_toArray, List.getElem?_cons_succ, List.getElem?_cons_zero]; rfl)
      case step21ra =>
        intro K hK
        go_simp
        refine (kl.out _ _ hch).mono ?_
        rintro e w2 ⟨rfl, hb2⟩
        have hH2 : Below V4.heap.size V4 w2 := step_below1 hHeld hb2
        have hch2 := ChAt.later hch hb2
        refine hK.out _ _ hH2 (fun hHeld => ?_)
        clear hK K
        try simp only [Act.put, List.setIfInBounds_toArray, List.set_cons_zero, List.set_cons_succ]
        refine wpAnyH_take (i := 22) (oi := ?oi22raa) (v := ?v22raa) ?hi22raa ?hs22raa ?hf22raa ?hr22raa ?hQ22raa (Or.inl ⟨?hw22raa, ?hy22raa⟩) (by assumption) ?h22raa
        case hi22raa => (simp only [List.getElem?_toArray, List.getElem?_cons_succ, List.getElem?_cons_zero]; rfl)
        case hs22raa => kernel_rfl
        case hf22raa => kernel_rfl
        case hr22raa => kernel_rfl
        case hw22raa => rfl
        case hy22raa => (intro w0 hSw; clear hSw; go_simp; first | done | with_reducible rfl)
        case hQ22raa => exact fun _ _ _ h => h
        try simp only [Act.put, List.setIfInBounds_toArray, List.set_cons_zero, List.set_cons_succ]
        refine wpAnyH_take (i := 23) (oi := ?oi23raa) (v := ?v23raa) ?hi23raa ?hs23raa ?hf23raa ?hr23raa ?hQ23raa (Or.inl ⟨?hw23raa, ?hy23raa⟩) (by assumption) ?h23raa
        case hi23raa => (simp only [List.getElem?_toArray, List.getElem?_cons_succ, List.getElem?_cons_zero]; rfl)
        case hs23raa => kernel_rfl
        case hf23raa => kernel_rfl
        case hr23raa => kernel_rfl
        case hw23raa => rfl
        case hy23raa => (intro w0 hSw; clear hSw; go_simp; first | done | with_reducible rfl)
        case hQ23raa => exact fun _ _ _ h => h
        try simp only [Act.put, List.setIfInBounds_toArray, List.set_cons_zero, List.set_cons_succ]
        refine wpAnyH_take (i := 24) (oi := ?oi24raa) (v := ?v24raa) ?hi24raa ?hs24raa ?hf24raa ?hr24raa ?hQ24raa (Or.inl ⟨?hw24raa, ?hy24raa⟩) (by assumption) ?h24raa
        case hi24raa => (simp only [List.getElem?_toArray, List.getElem?_cons_succ, List.getElem?_cons_zero]; rfl)
        case hs24raa => kernel_rfl
        case hf24raa => kernel_rfl
        case hr24raa => kernel_rfl
        case hw24raa => rfl
        case hy24raa => (intro w0 hSw; clear hSw; go_simp; first | done | with_reducible rfl)
        case hQ24raa => exact fun _ _ _ h => h
        try simp only [Act.put, List.setIfInBounds_toArray, List.set_cons_zero, List.set_cons_succ]
        refine wpAnyH_take (i := 25) (oi := ?oi25raa) (v := ?v25raa) ?hi25raa ?hs25raa ?hf25raa ?hr25raa ?hQ25raa (Or.inl ⟨?hw25raa, ?hy25raa⟩) (by assumption) ?h25raa
        case hi25raa => (simp only [List.getElem?_toArray, List.getElem?_cons_succ, List.getElem?_cons_zero]; rfl)
        case hs25raa => kernel_rfl
        case hf25raa => kernel_rfl
        case hr25raa => kernel_rfl
        case hw25raa => rfl
        case hy25raa => (intro w0 hSw; clear hSw; go_simp; first | done | with_reducible rfl)
        case hQ25raa => exact fun _ _ _ h => h
        try simp only [Act.put, List.setIfInBounds_toArray, List.set_cons_zero, List.set_cons_succ]
        refine wpAnyH_ready (rs := [26, 27]) (by kernel_rfl) (by simp) ?_
        refine AllReadyH.cons (o := ?o26raa) ?hi26raa ?step26raa (AllReadyH.cons (o := ?o27raa) ?hi27raa ?step27raa AllReadyH.nil)
        case hi26raa => (simp only [List.getElem?_toArray, List.getElem?_cons_succ, List.getElem?_cons_zero]; rfl)
        case hi27raa => (simp only [List.getElem?_toArray, List.getElem?_cons_succ, List.getElem?_cons_zero]; rfl)
        case step26raa =>
          intro K hK
          go_simp
          have lqr : V4.heap.size ≤ w2.heap.size := hHeld.size
          refine hK.out _ _ (grew hHeld _) (fun hHeld => ?_)
          clear hK K
          try simp only [Act.put, List.setIfInBounds_toArray, List.set_cons_zero, List.set_cons_succ]
          have qr3 : (w2.alloc (.cells #[Value.int .i64 0, .int .i64 0, .int .i64 0, .int .i64 0, .int .i64 0, .int .i64 0, .int .i64 0, .int .i64 0] 94)).heap[w2.heap.size]? = some (.cells #[Value.int .i64 0, .int .i64 0, .int .i64 0, .int .i64 0, .int .i64 0, .int .i64 0, .int .i64 0, .int .i64 0] 94) := heap_new _ _
          have hch3 : _ := ChAt.later hch2 (show Below w2.heap.size w2 (w2.alloc (.cells #[Value.int .i64 0, .int .i64 0, .int .i64 0, .int .i64 0, .int .i64 0, .int .i64 0, .int .i64 0, .int .i64 0] 94)) from grew (Below.refl _ _) _)
          generalize w2.alloc (.cells #[Value.int .i64 0, .int .i64 0, .int .i64 0, .int .i64 0, .int .i64 0, .int .i64 0, .int .i64 0, .int .i64 0] 94) = w3 at *
          generalize w2.heap.size = dqr at *
          refine wpAnyH_ready (rs := [27]) (by kernel_rfl) (by simp) ?_
          refine AllReadyH.cons (o := ?o27raaa) ?hi27raaa ?step27raaa AllReadyH.nil
          case hi27raaa => (simp only [List.getElem?_toArray, List.getElem?_cons_succ, List.getElem?_cons_zero]; rfl)
          intro K hK
          go_simp
          have lqe : V4.heap.size ≤ w3.heap.size := hHeld.size
          refine hK.out _ _ (grew hHeld _) (fun hHeld => ?_)
          clear hK K
          try simp only [Act.put, List.setIfInBounds_toArray, List.set_cons_zero, List.set_cons_succ]
          have qe4 : (w3.alloc (boxE 0 0 0 0 0)).heap[w3.heap.size]? = some (boxE 0 0 0 0 0) := heap_new _ _
          have nqrqe : dqr ≠ w3.heap.size := by have := heap_lt qr3; omega
          have hch4 : _ := ChAt.later hch3 (show Below w3.heap.size w3 (w3.alloc (boxE 0 0 0 0 0)) from grew (Below.refl _ _) _)
          have qr4 : _ := heap_below qr3 (show Below w3.heap.size w3 (w3.alloc (boxE 0 0 0 0 0)) from grew (Below.refl _ _) _) (heap_lt qr3)
          generalize w3.alloc (boxE 0 0 0 0 0) = w4 at *
          generalize w3.heap.size = dqe at *
          have c1 := fun i => Joins.cell_of_block qr4 i
          have f1 := fun i => Joins.unfrozen_of_block qr4 i
          have r2 : (((((((((w4.setCell ⟨dqr, 0, none⟩ (.int .i64 r.k)).setCell ⟨dqr, 1, none⟩ (.int .i64 r.a)).setCell ⟨dqr, 2, none⟩ (.int .i64 r.p)).setCell ⟨dqr, 3, none⟩ (.int .i64 r.e.k)).setCell ⟨dqr, 4, none⟩ (.int .i64 r.e.j)).setCell ⟨dqr, 5, none⟩ (.int .i64 r.e.v)).setCell ⟨dqr, 6, none⟩ (.int .i64 r.e.t)).setCell ⟨dqr, 7, none⟩ (.int .i64 r.e.c))).heap[dqr]? = some (boxRc r) := stR_box qr4 r
          have e2 : (((((((((w4.setCell ⟨dqr, 0, none⟩ (.int .i64 r.k)).setCell ⟨dqr, 1, none⟩ (.int .i64 r.a)).setCell ⟨dqr, 2, none⟩ (.int .i64 r.p)).setCell ⟨dqr, 3, none⟩ (.int .i64 r.e.k)).setCell ⟨dqr, 4, none⟩ (.int .i64 r.e.j)).setCell ⟨dqr, 5, none⟩ (.int .i64 r.e.v)).setCell ⟨dqr, 6, none⟩ (.int .i64 r.e.t)).setCell ⟨dqr, 7, none⟩ (.int .i64 r.e.c))).heap[dqe]? = some (boxE 0 0 0 0 0) := stR_other qe4 nqrqe.symm r
          refine wpAnyH_ready (rs := [28]) (by kernel_rfl) (by simp) ?_
          refine AllReadyH.cons (o := ?o28raaax) ?hi28raaax ?step28raaax AllReadyH.nil
          case hi28raaax => (simp only [List.getElem?_toArray, List.getElem?_cons_succ, List.getElem?_cons_zero]; rfl)
          intro K hK
          go_simp
          refine hK.out _ _ (stR_below hHeld lqr r) (fun hHeld => ?_)
          clear hK K
          try simp only [Act.put, List.setIfInBounds_toArray, List.set_cons_zero, List.set_cons_succ]
          have hHz : Below V4.heap.size V4 (((((((((w4.setCell ⟨dqr, 0, none⟩ (.int .i64 r.k)).setCell ⟨dqr, 1, none⟩ (.int .i64 r.a)).setCell ⟨dqr, 2, none⟩ (.int .i64 r.p)).setCell ⟨dqr, 3, none⟩ (.int .i64 r.e.k)).setCell ⟨dqr, 4, none⟩ (.int .i64 r.e.j)).setCell ⟨dqr, 5, none⟩ (.int .i64 r.e.v)).setCell ⟨dqr, 6, none⟩ (.int .i64 r.e.t)).setCell ⟨dqr, 7, none⟩ (.int .i64 r.e.c))) := hHeld
          clear hHeld
          generalize ((((((((w4.setCell ⟨dqr, 0, none⟩ (.int .i64 r.k)).setCell ⟨dqr, 1, none⟩ (.int .i64 r.a)).setCell ⟨dqr, 2, none⟩ (.int .i64 r.p)).setCell ⟨dqr, 3, none⟩ (.int .i64 r.e.k)).setCell ⟨dqr, 4, none⟩ (.int .i64 r.e.j)).setCell ⟨dqr, 5, none⟩ (.int .i64 r.e.v)).setCell ⟨dqr, 6, none⟩ (.int .i64 r.e.t)).setCell ⟨dqr, 7, none⟩ (.int .i64 r.e.c)) = wz at *
          have hHeld := hHz
          clear c1 f1
          have c2 := fun i => Joins.cell_of_block e2 i
          have f2 := fun i => Joins.unfrozen_of_block e2 i
          refine wpAnyH_ready (rs := [29]) (by kernel_rfl) (by simp) ?_
          refine AllReadyH.cons (o := ?o29raaax) ?hi29raaax ?step29raaax AllReadyH.nil
          case hi29raaax => (simp only [List.getElem?_toArray, List.getElem?_cons_succ, List.getElem?_cons_zero]; rfl)
          intro K hK
          go_simp
          refine hK.out _ _ (stE_below hHeld lqe s) (fun hHeld => ?_)
          clear hK K
          try simp only [Act.put, List.setIfInBounds_toArray, List.set_cons_zero, List.set_cons_succ]
          refine wpAnyH_ready (rs := [30]) (by kernel_rfl) (by simp) ?_
          refine AllReadyH.cons (o := ?o30raaax) ?hi30raaax ?step30raaax AllReadyH.nil
          case hi30raaax => (simp only [List.getElem?_toArray, List.getElem?_cons_succ, List.getElem?_cons_zero]; rfl)
          intro K hK
          go_simp
          refine hK.out _ _ (hHeld) (fun hHeld => ?_)
          clear hK K
          try simp only [Act.put, List.setIfInBounds_toArray, List.set_cons_zero, List.set_cons_succ]
          refine wpAnyH_done (by kernel_rfl) ?_ _
          go_wp2_with fail
          go_meet
          case rel => exact ⟨_, _, rfl, rfl, rfl, ⟨stE_other r2 nqrqe s, stE_box e2 s, hHeld⟩⟩
        case step27raa =>
          intro K hK
          go_simp
          have lqe : V4.heap.size ≤ w2.heap.size := hHeld.size
          refine hK.out _ _ (grew hHeld _) (fun hHeld => ?_)
          clear hK K
          try simp only [Act.put, List.setIfInBounds_toArray, List.set_cons_zero, List.set_cons_succ]
          have qe3 : (w2.alloc (boxE 0 0 0 0 0)).heap[w2.heap.size]? = some (boxE 0 0 0 0 0) := heap_new _ _
          have hch3 : _ := ChAt.later hch2 (show Below w2.heap.size w2 (w2.alloc (boxE 0 0 0 0 0)) from grew (Below.refl _ _) _)
          generalize w2.alloc (boxE 0 0 0 0 0) = w3 at *
          generalize w2.heap.size = dqe at *
          refine wpAnyH_ready (rs := [26]) (by kernel_rfl) (by simp) ?_
          refine AllReadyH.cons (o := ?o26raab) ?hi26raab ?step26raab AllReadyH.nil
          case hi26raab => (simp only [List.getElem?_toArray, List.getElem?_cons_succ, List.getElem?_cons_zero]; rfl)
          intro K hK
          go_simp
          have lqr : V4.heap.size ≤ w3.heap.size := hHeld.size
          refine hK.out _ _ (grew hHeld _) (fun hHeld => ?_)
          clear hK K
          try simp only [Act.put, List.setIfInBounds_toArray, List.set_cons_zero, List.set_cons_succ]
          have qr4 : (w3.alloc (.cells #[Value.int .i64 0, .int .i64 0, .int .i64 0, .int .i64 0, .int .i64 0, .int .i64 0, .int .i64 0, .int .i64 0] 94)).heap[w3.heap.size]? = some (.cells #[Value.int .i64 0, .int .i64 0, .int .i64 0, .int .i64 0, .int .i64 0, .int .i64 0, .int .i64 0, .int .i64 0] 94) := heap_new _ _
          have nqeqr : dqe ≠ w3.heap.size := by have := heap_lt qe3; omega
          have hch4 : _ := ChAt.later hch3 (show Below w3.heap.size w3 (w3.alloc (.cells #[Value.int .i64 0, .int .i64 0, .int .i64 0, .int .i64 0, .int .i64 0, .int .i64 0, .int .i64 0, .int .i64 0] 94)) from grew (Below.refl _ _) _)
          have qe4 : _ := heap_below qe3 (show Below w3.heap.size w3 (w3.alloc (.cells #[Value.int .i64 0, .int .i64 0, .int .i64 0, .int .i64 0, .int .i64 0, .int .i64 0, .int .i64 0, .int .i64 0] 94)) from grew (Below.refl _ _) _) (heap_lt qe3)
          generalize w3.alloc (.cells #[Value.int .i64 0, .int .i64 0, .int .i64 0, .int .i64 0, .int .i64 0, .int .i64 0, .int .i64 0, .int .i64 0] 94) = w4 at *
          generalize w3.heap.size = dqr at *
          have c1 := fun i => Joins.cell_of_block qr4 i
          have f1 := fun i => Joins.unfrozen_of_block qr4 i
          have r2 : (((((((((w4.setCell ⟨dqr, 0, none⟩ (.int .i64 r.k)).setCell ⟨dqr, 1, none⟩ (.int .i64 r.a)).setCell ⟨dqr, 2, none⟩ (.int .i64 r.p)).setCell ⟨dqr, 3, none⟩ (.int .i64 r.e.k)).setCell ⟨dqr, 4, none⟩ (.int .i64 r.e.j)).setCell ⟨dqr, 5, none⟩ (.int .i64 r.e.v)).setCell ⟨dqr, 6, none⟩ (.int .i64 r.e.t)).setCell ⟨dqr, 7, none⟩ (.int .i64 r.e.c))).heap[dqr]? = some (boxRc r) := stR_box qr4 r
          have e2 : (((((((((w4.setCell ⟨dqr, 0, none⟩ (.int .i64 r.k)).setCell ⟨dqr, 1, none⟩ (.int .i64 r.a)).setCell ⟨dqr, 2, none⟩ (.int .i64 r.p)).setCell ⟨dqr, 3, none⟩ (.int .i64 r.e.k)).setCell ⟨dqr, 4, none⟩ (.int .i64 r.e.j)).setCell ⟨dqr, 5, none⟩ (.int .i64 r.e.v)).setCell ⟨dqr, 6, none⟩ (.int .i64 r.e.t)).setCell ⟨dqr, 7, none⟩ (.int .i64 r.e.c))).heap[dqe]? = some (boxE 0 0 0 0 0) := stR_other qe4 nqeqr r
          refine wpAnyH_ready (rs := [28]) (by kernel_rfl) (by simp) ?_
          refine AllReadyH.cons (o := ?o28raabx) ?hi28raabx ?step28raabx AllReadyH.nil
          case hi28raabx => (simp only [List.getElem?_toArray, List.getElem?_cons_succ, List.getElem?_cons_zero]; rfl)
          intro K hK
          go_simp
          refine hK.out _ _ (stR_below hHeld lqr r) (fun hHeld => ?_)
          clear hK K
          try simp only [Act.put, List.setIfInBounds_toArray, List.set_cons_zero, List.set_cons_succ]
          have hHz : Below V4.heap.size V4 (((((((((w4.setCell ⟨dqr, 0, none⟩ (.int .i64 r.k)).setCell ⟨dqr, 1, none⟩ (.int .i64 r.a)).setCell ⟨dqr, 2, none⟩ (.int .i64 r.p)).setCell ⟨dqr, 3, none⟩ (.int .i64 r.e.k)).setCell ⟨dqr, 4, none⟩ (.int .i64 r.e.j)).setCell ⟨dqr, 5, none⟩ (.int .i64 r.e.v)).setCell ⟨dqr, 6, none⟩ (.int .i64 r.e.t)).setCell ⟨dqr, 7, none⟩ (.int .i64 r.e.c))) := hHeld
          clear hHeld
          generalize ((((((((w4.setCell ⟨dqr, 0, none⟩ (.int .i64 r.k)).setCell ⟨dqr, 1, none⟩ (.int .i64 r.a)).setCell ⟨dqr, 2, none⟩ (.int .i64 r.p)).setCell ⟨dqr, 3, none⟩ (.int .i64 r.e.k)).setCell ⟨dqr, 4, none⟩ (.int .i64 r.e.j)).setCell ⟨dqr, 5, none⟩ (.int .i64 r.e.v)).setCell ⟨dqr, 6, none⟩ (.int .i64 r.e.t)).setCell ⟨dqr, 7, none⟩ (.int .i64 r.e.c)) = wz at *
          have hHeld := hHz
          clear c1 f1
          have c2 := fun i => Joins.cell_of_block e2 i
          have f2 := fun i => Joins.unfrozen_of_block e2 i
          refine wpAnyH_ready (rs := [29]) (by kernel_rfl) (by simp) ?_
          refine AllReadyH.cons (o := ?o29raabx) ?hi29raabx ?step29raabx AllReadyH.nil
          case hi29raabx => (simp only [List.getElem?_toArray, List.getElem?_cons_succ, List.getElem?_cons_zero]; rfl)
          intro K hK
          go_simp
          refine hK.out _ _ (stE_below hHeld lqe s) (fun hHeld => ?_)
          clear hK K
          try simp only [Act.put, List.setIfInBounds_toArray, List.set_cons_zero, List.set_cons_succ]
          refine wpAnyH_ready (rs := [30]) (by kernel_rfl) (by simp) ?_
          refine AllReadyH.cons (o := ?o30raabx) ?hi30raabx ?step30raabx AllReadyH.nil
          case hi30raabx => (simp only [List.getElem?_toArray, List.getElem?_cons_succ, List.getElem?_cons_zero]; rfl)
          intro K hK
          go_simp
          refine hK.out _ _ (hHeld) (fun hHeld => ?_)
          clear hK K
          try simp only [Act.put, List.setIfInBounds_toArray, List.set_cons_zero, List.set_cons_succ]
          refine wpAnyH_done (by kernel_rfl) ?_ _
          go_wp2_with fail
          go_meet
          case rel => exact ⟨_, _, rfl, rfl, rfl, ⟨stE_other r2 nqeqr.symm s, stE_box e2 s, hHeld⟩⟩
      case step26ra =>
        intro K hK
        go_simp
        have lqr : V4.heap.size ≤ w1.heap.size := hHeld.size
        refine hK.out _ _ (grew hHeld _) (fun hHeld => ?_)
        clear hK K
        try simp only [Act.put, List.setIfInBounds_toArray, List.set_cons_zero, List.set_cons_succ]
        have qr2 : (w1.alloc (.cells #[Value.int .i64 0, .int .i64 0, .int .i64 0, .int .i64 0, .int .i64 0, .int .i64 0, .int .i64 0, .int .i64 0] 94)).heap[w1.heap.size]? = some (.cells #[Value.int .i64 0, .int .i64 0, .int .i64 0, .int .i64 0, .int .i64 0, .int .i64 0, .int .i64 0, .int .i64 0] 94) := heap_new _ _
        have hch2 : _ := ChAt.later hch (show Below w1.heap.size w1 (w1.alloc (.cells #[Value.int .i64 0, .int .i64 0, .int .i64 0, .int .i64 0, .int .i64 0, .int .i64 0, .int .i64 0, .int .i64 0] 94)) from grew (Below.refl _ _) _)
        generalize w1.alloc (.cells #[Value.int .i64 0, .int .i64 0, .int .i64 0, .int .i64 0, .int .i64 0, .int .i64 0, .int .i64 0, .int .i64 0] 94) = w2 at *
        generalize w1.heap.size = dqr at *
        refine wpAnyH_ready (rs := [21, 27]) (by kernel_rfl) (by simp) ?_
        refine AllReadyH.cons (o := ?o21rab) ?hi21rab ?step21rab (AllReadyH.cons (o := ?o27rab) ?hi27rab ?step27rab AllReadyH.nil)
        case hi21rab => (simp only [List.getElem?_toArray, List.getElem?_cons_succ, List.getElem?_cons_zero]; rfl)
        case hi27rab => (simp only [List.getElem?_toArray, List.getElem?_cons_succ, List.getElem?_cons_zero]; rfl)
        case step21rab =>
          intro K hK
          go_simp
          refine (kl.out _ _ hch2).mono ?_
          rintro e w3 ⟨rfl, hb3⟩
          have hH3 : Below V4.heap.size V4 w3 := step_below1 hHeld hb3
          have hch3 := ChAt.later hch2 hb3
          have qr3 := heap_below qr2 hb3 (heap_lt qr2)
          refine hK.out _ _ hH3 (fun hHeld => ?_)
          clear hK K
          try simp only [Act.put, List.setIfInBounds_toArray, List.set_cons_zero, List.set_cons_succ]
          refine wpAnyH_take (i := 22) (oi := ?oi22raba) (v := ?v22raba) ?hi22raba ?hs22raba ?hf22raba ?hr22raba ?hQ22raba (Or.inl ⟨?hw22raba, ?hy22raba⟩) (by assumption) ?h22raba
          case hi22raba => (simp only [List.getElem?_toArray, List.getElem?_cons_succ, List.getElem?_cons_zero]; rfl)
          case hs22raba => kernel_rfl
          case hf22raba => kernel_rfl
          case hr22raba => kernel_rfl
          case hw22raba => rfl
          case hy22raba => (intro w0 hSw; clear hSw; go_simp; first | done | with_reducible rfl)
          case hQ22raba => exact fun _ _ _ h => h
          try simp only [Act.put, List.setIfInBounds_toArray, List.set_cons_zero, List.set_cons_succ]
          refine wpAnyH_take (i := 23) (oi := ?oi23raba) (v := ?v23raba) ?hi23raba ?hs23raba ?hf23raba ?hr23raba ?hQ23raba (Or.inl ⟨?hw23raba, ?hy23raba⟩) (by assumption) ?h23raba
          case hi23raba => (simp only [List.getElem?_toArray, List.getElem?_cons_succ, List.getElem?_cons_zero]; rfl)
          case hs23raba => kernel_rfl
          case hf23raba => kernel_rfl
          case hr23raba => kernel_rfl
          case hw23raba => rfl
          case hy23raba => (intro w0 hSw; clear hSw; go_simp; first | done | with_reducible rfl)
          case hQ23raba => exact fun _ _ _ h => h
          try simp only [Act.put, List.setIfInBounds_toArray, List.set_cons_zero, List.set_cons_succ]
          refine wpAnyH_take (i := 24) (oi := ?oi24raba) (v := ?v24raba) ?hi24raba ?hs24raba ?hf24raba ?hr24raba ?hQ24raba (Or.inl ⟨?hw24raba, ?hy24raba⟩) (by assumption) ?h24raba
          case hi24raba => (simp only [List.getElem?_toArray, List.getElem?_cons_succ, List.getElem?_cons_zero]; rfl)
          case hs24raba => kernel_rfl
          case hf24raba => kernel_rfl
          case hr24raba => kernel_rfl
          case hw24raba => rfl
          case hy24raba => (intro w0 hSw; clear hSw; go_simp; first | done | with_reducible rfl)
          case hQ24raba => exact fun _ _ _ h => h
          try simp only [Act.put, List.setIfInBounds_toArray, List.set_cons_zero, List.set_cons_succ]
          refine wpAnyH_take (i := 25) (oi := ?oi25raba) (v := ?v25raba) ?hi25raba ?hs25raba ?hf25raba ?hr25raba ?hQ25raba (Or.inl ⟨?hw25raba, ?hy25raba⟩) (by assumption) ?h25raba
          case hi25raba => (simp only [List.getElem?_toArray, List.getElem?_cons_succ, List.getElem?_cons_zero]; rfl)
          case hs25raba => kernel_rfl
          case hf25raba => kernel_rfl
          case hr25raba => kernel_rfl
          case hw25raba => rfl
          case hy25raba => (intro w0 hSw; clear hSw; go_simp; first | done | with_reducible rfl)
          case hQ25raba => exact fun _ _ _ h => h
          try simp only [Act.put, List.setIfInBounds_toArray, List.set_cons_zero, List.set_cons_succ]
          refine wpAnyH_ready (rs := [27]) (by kernel_rfl) (by simp) ?_
          refine AllReadyH.cons (o := ?o27raba) ?hi27raba ?step27raba AllReadyH.nil
          case hi27raba => (simp only [List.getElem?_toArray, List.getElem?_cons_succ, List.getElem?_cons_zero]; rfl)
          intro K hK
          go_simp
          have lqe : V4.heap.size ≤ w3.heap.size := hHeld.size
          refine hK.out _ _ (grew hHeld _) (fun hHeld => ?_)
          clear hK K
          try simp only [Act.put, List.setIfInBounds_toArray, List.set_cons_zero, List.set_cons_succ]
          have qe4 : (w3.alloc (boxE 0 0 0 0 0)).heap[w3.heap.size]? = some (boxE 0 0 0 0 0) := heap_new _ _
          have nqrqe : dqr ≠ w3.heap.size := by have := heap_lt qr3; omega
          have hch4 : _ := ChAt.later hch3 (show Below w3.heap.size w3 (w3.alloc (boxE 0 0 0 0 0)) from grew (Below.refl _ _) _)
          have qr4 : _ := heap_below qr3 (show Below w3.heap.size w3 (w3.alloc (boxE 0 0 0 0 0)) from grew (Below.refl _ _) _) (heap_lt qr3)
          generalize w3.alloc (boxE 0 0 0 0 0) = w4 at *
          generalize w3.heap.size = dqe at *
          have c1 := fun i => Joins.cell_of_block qr4 i
          have f1 := fun i => Joins.unfrozen_of_block qr4 i
          have r2 : (((((((((w4.setCell ⟨dqr, 0, none⟩ (.int .i64 r.k)).setCell ⟨dqr, 1, none⟩ (.int .i64 r.a)).setCell ⟨dqr, 2, none⟩ (.int .i64 r.p)).setCell ⟨dqr, 3, none⟩ (.int .i64 r.e.k)).setCell ⟨dqr, 4, none⟩ (.int .i64 r.e.j)).setCell ⟨dqr, 5, none⟩ (.int .i64 r.e.v)).setCell ⟨dqr, 6, none⟩ (.int .i64 r.e.t)).setCell ⟨dqr, 7, none⟩ (.int .i64 r.e.c))).heap[dqr]? = some (boxRc r) := stR_box qr4 r
          have e2 : (((((((((w4.setCell ⟨dqr, 0, none⟩ (.int .i64 r.k)).setCell ⟨dqr, 1, none⟩ (.int .i64 r.a)).setCell ⟨dqr, 2, none⟩ (.int .i64 r.p)).setCell ⟨dqr, 3, none⟩ (.int .i64 r.e.k)).setCell ⟨dqr, 4, none⟩ (.int .i64 r.e.j)).setCell ⟨dqr, 5, none⟩ (.int .i64 r.e.v)).setCell ⟨dqr, 6, none⟩ (.int .i64 r.e.t)).setCell ⟨dqr, 7, none⟩ (.int .i64 r.e.c))).heap[dqe]? = some (boxE 0 0 0 0 0) := stR_other qe4 nqrqe.symm r
          refine wpAnyH_ready (rs := [28]) (by kernel_rfl) (by simp) ?_
          refine AllReadyH.cons (o := ?o28rabax) ?hi28rabax ?step28rabax AllReadyH.nil
          case hi28rabax => (simp only [List.getElem?_toArray, List.getElem?_cons_succ, List.getElem?_cons_zero]; rfl)
          intro K hK
          go_simp
          refine hK.out _ _ (stR_below hHeld lqr r) (fun hHeld => ?_)
          clear hK K
          try simp only [Act.put, List.setIfInBounds_toArray, List.set_cons_zero, List.set_cons_succ]
          have hHz : Below V4.heap.size V4 (((((((((w4.setCell ⟨dqr, 0, none⟩ (.int .i64 r.k)).setCell ⟨dqr, 1, none⟩ (.int .i64 r.a)).setCell ⟨dqr, 2, none⟩ (.int .i64 r.p)).setCell ⟨dqr, 3, none⟩ (.int .i64 r.e.k)).setCell ⟨dqr, 4, none⟩ (.int .i64 r.e.j)).setCell ⟨dqr, 5, none⟩ (.int .i64 r.e.v)).setCell ⟨dqr, 6, none⟩ (.int .i64 r.e.t)).setCell ⟨dqr, 7, none⟩ (.int .i64 r.e.c))) := hHeld
          clear hHeld
          generalize ((((((((w4.setCell ⟨dqr, 0, none⟩ (.int .i64 r.k)).setCell ⟨dqr, 1, none⟩ (.int .i64 r.a)).setCell ⟨dqr, 2, none⟩ (.int .i64 r.p)).setCell ⟨dqr, 3, none⟩ (.int .i64 r.e.k)).setCell ⟨dqr, 4, none⟩ (.int .i64 r.e.j)).setCell ⟨dqr, 5, none⟩ (.int .i64 r.e.v)).setCell ⟨dqr, 6, none⟩ (.int .i64 r.e.t)).setCell ⟨dqr, 7, none⟩ (.int .i64 r.e.c)) = wz at *
          have hHeld := hHz
          clear c1 f1
          have c2 := fun i => Joins.cell_of_block e2 i
          have f2 := fun i => Joins.unfrozen_of_block e2 i
          refine wpAnyH_ready (rs := [29]) (by kernel_rfl) (by simp) ?_
          refine AllReadyH.cons (o := ?o29rabax) ?hi29rabax ?step29rabax AllReadyH.nil
          case hi29rabax => (simp only [List.getElem?_toArray, List.getElem?_cons_succ, List.getElem?_cons_zero]; rfl)
          intro K hK
          go_simp
          refine hK.out _ _ (stE_below hHeld lqe s) (fun hHeld => ?_)
          clear hK K
          try simp only [Act.put, List.setIfInBounds_toArray, List.set_cons_zero, List.set_cons_succ]
          refine wpAnyH_ready (rs := [30]) (by kernel_rfl) (by simp) ?_
          refine AllReadyH.cons (o := ?o30rabax) ?hi30rabax ?step30rabax AllReadyH.nil
          case hi30rabax => (simp only [List.getElem?_toArray, List.getElem?_cons_succ, List.getElem?_cons_zero]; rfl)
          intro K hK
          go_simp
          refine hK.out _ _ (hHeld) (fun hHeld => ?_)
          clear hK K
          try simp only [Act.put, List.setIfInBounds_toArray, List.set_cons_zero, List.set_cons_succ]
          refine wpAnyH_done (by kernel_rfl) ?_ _
          go_wp2_with fail
          go_meet
          case rel => exact ⟨_, _, rfl, rfl, rfl, ⟨stE_other r2 nqrqe s, stE_box e2 s, hHeld⟩⟩
        case step27rab =>
          intro K hK
          go_simp
          have lqe : V4.heap.size ≤ w2.heap.size := hHeld.size
          refine hK.out _ _ (grew hHeld _) (fun hHeld => ?_)
          clear hK K
          try simp only [Act.put, List.setIfInBounds_toArray, List.set_cons_zero, List.set_cons_succ]
          have qe3 : (w2.alloc (boxE 0 0 0 0 0)).heap[w2.heap.size]? = some (boxE 0 0 0 0 0) := heap_new _ _
          have nqrqe : dqr ≠ w2.heap.size := by have := heap_lt qr2; omega
          have hch3 : _ := ChAt.later hch2 (show Below w2.heap.size w2 (w2.alloc (boxE 0 0 0 0 0)) from grew (Below.refl _ _) _)
          have qr3 : _ := heap_below qr2 (show Below w2.heap.size w2 (w2.alloc (boxE 0 0 0 0 0)) from grew (Below.refl _ _) _) (heap_lt qr2)
          generalize w2.alloc (boxE 0 0 0 0 0) = w3 at *
          generalize w2.heap.size = dqe at *
          refine wpAnyH_ready (rs := [21]) (by kernel_rfl) (by simp) ?_
          refine AllReadyH.cons (o := ?o21rabb) ?hi21rabb ?step21rabb AllReadyH.nil
          case hi21rabb => (simp only [List.getElem?_toArray, List.getElem?_cons_succ, List.getElem?_cons_zero]; rfl)
          intro K hK
          go_simp
          refine (kl.out _ _ hch3).mono ?_
          rintro e w4 ⟨rfl, hb4⟩
          have hH4 : Below V4.heap.size V4 w4 := step_below1 hHeld hb4
          have hch4 := ChAt.later hch3 hb4
          have qr4 := heap_below qr3 hb4 (heap_lt qr3)
          have qe4 := heap_below qe3 hb4 (heap_lt qe3)
          refine hK.out _ _ hH4 (fun hHeld => ?_)
          clear hK K
          try simp only [Act.put, List.setIfInBounds_toArray, List.set_cons_zero, List.set_cons_succ]
          refine wpAnyH_take (i := 22) (oi := ?oi22rabbx) (v := ?v22rabbx) ?hi22rabbx ?hs22rabbx ?hf22rabbx ?hr22rabbx ?hQ22rabbx (Or.inl ⟨?hw22rabbx, ?hy22rabbx⟩) (by assumption) ?h22rabbx
          case hi22rabbx => (simp only [List.getElem?_toArray, List.getElem?_cons_succ, List.getElem?_cons_zero]; rfl)
          case hs22rabbx => kernel_rfl
          case hf22rabbx => kernel_rfl
          case hr22rabbx => kernel_rfl
          case hw22rabbx => rfl
          case hy22rabbx => (intro w0 hSw; clear hSw; go_simp; first | done | with_reducible rfl)
          case hQ22rabbx => exact fun _ _ _ h => h
          try simp only [Act.put, List.setIfInBounds_toArray, List.set_cons_zero, List.set_cons_succ]
          refine wpAnyH_take (i := 23) (oi := ?oi23rabbx) (v := ?v23rabbx) ?hi23rabbx ?hs23rabbx ?hf23rabbx ?hr23rabbx ?hQ23rabbx (Or.inl ⟨?hw23rabbx, ?hy23rabbx⟩) (by assumption) ?h23rabbx
          case hi23rabbx => (simp only [List.getElem?_toArray, List.getElem?_cons_succ, List.getElem?_cons_zero]; rfl)
          case hs23rabbx => kernel_rfl
          case hf23rabbx => kernel_rfl
          case hr23rabbx => kernel_rfl
          case hw23rabbx => rfl
          case hy23rabbx => (intro w0 hSw; clear hSw; go_simp; first | done | with_reducible rfl)
          case hQ23rabbx => exact fun _ _ _ h => h
          try simp only [Act.put, List.setIfInBounds_toArray, List.set_cons_zero, List.set_cons_succ]
          refine wpAnyH_take (i := 24) (oi := ?oi24rabbx) (v := ?v24rabbx) ?hi24rabbx ?hs24rabbx ?hf24rabbx ?hr24rabbx ?hQ24rabbx (Or.inl ⟨?hw24rabbx, ?hy24rabbx⟩) (by assumption) ?h24rabbx
          case hi24rabbx => (simp only [List.getElem?_toArray, List.getElem?_cons_succ, List.getElem?_cons_zero]; rfl)
          case hs24rabbx => kernel_rfl
          case hf24rabbx => kernel_rfl
          case hr24rabbx => kernel_rfl
          case hw24rabbx => rfl
          case hy24rabbx => (intro w0 hSw; clear hSw; go_simp; first | done | with_reducible rfl)
          case hQ24rabbx => exact fun _ _ _ h => h
          try simp only [Act.put, List.setIfInBounds_toArray, List.set_cons_zero, List.set_cons_succ]
          refine wpAnyH_take (i := 25) (oi := ?oi25rabbx) (v := ?v25rabbx) ?hi25rabbx ?hs25rabbx ?hf25rabbx ?hr25rabbx ?hQ25rabbx (Or.inl ⟨?hw25rabbx, ?hy25rabbx⟩) (by assumption) ?h25rabbx
          case hi25rabbx => (simp only [List.getElem?_toArray, List.getElem?_cons_succ, List.getElem?_cons_zero]; rfl)
          case hs25rabbx => kernel_rfl
          case hf25rabbx => kernel_rfl
          case hr25rabbx => kernel_rfl
          case hw25rabbx => rfl
          case hy25rabbx => (intro w0 hSw; clear hSw; go_simp; first | done | with_reducible rfl)
          case hQ25rabbx => exact fun _ _ _ h => h
          try simp only [Act.put, List.setIfInBounds_toArray, List.set_cons_zero, List.set_cons_succ]
          have c1 := fun i => Joins.cell_of_block qr4 i
          have f1 := fun i => Joins.unfrozen_of_block qr4 i
          have r2 : (((((((((w4.setCell ⟨dqr, 0, none⟩ (.int .i64 r.k)).setCell ⟨dqr, 1, none⟩ (.int .i64 r.a)).setCell ⟨dqr, 2, none⟩ (.int .i64 r.p)).setCell ⟨dqr, 3, none⟩ (.int .i64 r.e.k)).setCell ⟨dqr, 4, none⟩ (.int .i64 r.e.j)).setCell ⟨dqr, 5, none⟩ (.int .i64 r.e.v)).setCell ⟨dqr, 6, none⟩ (.int .i64 r.e.t)).setCell ⟨dqr, 7, none⟩ (.int .i64 r.e.c))).heap[dqr]? = some (boxRc r) := stR_box qr4 r
          have e2 : (((((((((w4.setCell ⟨dqr, 0, none⟩ (.int .i64 r.k)).setCell ⟨dqr, 1, none⟩ (.int .i64 r.a)).setCell ⟨dqr, 2, none⟩ (.int .i64 r.p)).setCell ⟨dqr, 3, none⟩ (.int .i64 r.e.k)).setCell ⟨dqr, 4, none⟩ (.int .i64 r.e.j)).setCell ⟨dqr, 5, none⟩ (.int .i64 r.e.v)).setCell ⟨dqr, 6, none⟩ (.int .i64 r.e.t)).setCell ⟨dqr, 7, none⟩ (.int .i64 r.e.c))).heap[dqe]? = some (boxE 0 0 0 0 0) := stR_other qe4 nqrqe.symm r
          refine wpAnyH_ready (rs := [28]) (by kernel_rfl) (by simp) ?_
          refine AllReadyH.cons (o := ?o28rabbx) ?hi28rabbx ?step28rabbx AllReadyH.nil
          case hi28rabbx => (simp only [List.getElem?_toArray, List.getElem?_cons_succ, List.getElem?_cons_zero]; rfl)
          intro K hK
          go_simp
          refine hK.out _ _ (stR_below hHeld lqr r) (fun hHeld => ?_)
          clear hK K
          try simp only [Act.put, List.setIfInBounds_toArray, List.set_cons_zero, List.set_cons_succ]
          have hHz : Below V4.heap.size V4 (((((((((w4.setCell ⟨dqr, 0, none⟩ (.int .i64 r.k)).setCell ⟨dqr, 1, none⟩ (.int .i64 r.a)).setCell ⟨dqr, 2, none⟩ (.int .i64 r.p)).setCell ⟨dqr, 3, none⟩ (.int .i64 r.e.k)).setCell ⟨dqr, 4, none⟩ (.int .i64 r.e.j)).setCell ⟨dqr, 5, none⟩ (.int .i64 r.e.v)).setCell ⟨dqr, 6, none⟩ (.int .i64 r.e.t)).setCell ⟨dqr, 7, none⟩ (.int .i64 r.e.c))) := hHeld
          clear hHeld
          generalize ((((((((w4.setCell ⟨dqr, 0, none⟩ (.int .i64 r.k)).setCell ⟨dqr, 1, none⟩ (.int .i64 r.a)).setCell ⟨dqr, 2, none⟩ (.int .i64 r.p)).setCell ⟨dqr, 3, none⟩ (.int .i64 r.e.k)).setCell ⟨dqr, 4, none⟩ (.int .i64 r.e.j)).setCell ⟨dqr, 5, none⟩ (.int .i64 r.e.v)).setCell ⟨dqr, 6, none⟩ (.int .i64 r.e.t)).setCell ⟨dqr, 7, none⟩ (.int .i64 r.e.c)) = wz at *
          have hHeld := hHz
          clear c1 f1
          have c2 := fun i => Joins.cell_of_block e2 i
          have f2 := fun i => Joins.unfrozen_of_block e2 i
          refine wpAnyH_ready (rs := [29]) (by kernel_rfl) (by simp) ?_
          refine AllReadyH.cons (o := ?o29rabbx) ?hi29rabbx ?step29rabbx AllReadyH.nil
          case hi29rabbx => (simp only [List.getElem?_toArray, List.getElem?_cons_succ, List.getElem?_cons_zero]; rfl)
          intro K hK
          go_simp
          refine hK.out _ _ (stE_below hHeld lqe s) (fun hHeld => ?_)
          clear hK K
          try simp only [Act.put, List.setIfInBounds_toArray, List.set_cons_zero, List.set_cons_succ]
          refine wpAnyH_ready (rs := [30]) (by kernel_rfl) (by simp) ?_
          refine AllReadyH.cons (o := ?o30rabbx) ?hi30rabbx ?step30rabbx AllReadyH.nil
          case hi30rabbx => (simp only [List.getElem?_toArray, List.getElem?_cons_succ, List.getElem?_cons_zero]; rfl)
          intro K hK
          go_simp
          refine hK.out _ _ (hHeld) (fun hHeld => ?_)
          clear hK K
          try simp only [Act.put, List.setIfInBounds_toArray, List.set_cons_zero, List.set_cons_succ]
          refine wpAnyH_done (by kernel_rfl) ?_ _
          go_wp2_with fail
          go_meet
          case rel => exact ⟨_, _, rfl, rfl, rfl, ⟨stE_other r2 nqrqe s, stE_box e2 s, hHeld⟩⟩
      case step27ra =>
        intro K hK
        go_simp
        have lqe : V4.heap.size ≤ w1.heap.size := hHeld.size
        refine hK.out _ _ (grew hHeld _) (fun hHeld => ?_)
        clear hK K
        try simp only [Act.put, List.setIfInBounds_toArray, List.set_cons_zero, List.set_cons_succ]
        have qe2 : (w1.alloc (boxE 0 0 0 0 0)).heap[w1.heap.size]? = some (boxE 0 0 0 0 0) := heap_new _ _
        have hch2 : _ := ChAt.later hch (show Below w1.heap.size w1 (w1.alloc (boxE 0 0 0 0 0)) from grew (Below.refl _ _) _)
        generalize w1.alloc (boxE 0 0 0 0 0) = w2 at *
        generalize w1.heap.size = dqe at *
        refine wpAnyH_ready (rs := [21, 26]) (by kernel_rfl) (by simp) ?_
        refine AllReadyH.cons (o := ?o21rac) ?hi21rac ?step21rac (AllReadyH.cons (o := ?o26rac) ?hi26rac ?step26rac AllReadyH.nil)
        case hi21rac => (simp only [List.getElem?_toArray, List.getElem?_cons_succ, List.getElem?_cons_zero]; rfl)
        case hi26rac => (simp only [List.getElem?_toArray, List.getElem?_cons_succ, List.getElem?_cons_zero]; rfl)
        case step21rac =>
          intro K hK
          go_simp
          refine (kl.out _ _ hch2).mono ?_
          rintro e w3 ⟨rfl, hb3⟩
          have hH3 : Below V4.heap.size V4 w3 := step_below1 hHeld hb3
          have hch3 := ChAt.later hch2 hb3
          have qe3 := heap_below qe2 hb3 (heap_lt qe2)
          refine hK.out _ _ hH3 (fun hHeld => ?_)
          clear hK K
          try simp only [Act.put, List.setIfInBounds_toArray, List.set_cons_zero, List.set_cons_succ]
          refine wpAnyH_take (i := 22) (oi := ?oi22raca) (v := ?v22raca) ?hi22raca ?hs22raca ?hf22raca ?hr22raca ?hQ22raca (Or.inl ⟨?hw22raca, ?hy22raca⟩) (by assumption) ?h22raca
          case hi22raca => (simp only [List.getElem?_toArray, List.getElem?_cons_succ, List.getElem?_cons_zero]; rfl)
          case hs22raca => kernel_rfl
          case hf22raca => kernel_rfl
          case hr22raca => kernel_rfl
          case hw22raca => rfl
          case hy22raca => (intro w0 hSw; clear hSw; go_simp; first | done | with_reducible rfl)
          case hQ22raca => exact fun _ _ _ h => h
          try simp only [Act.put, List.setIfInBounds_toArray, List.set_cons_zero, List.set_cons_succ]
          refine wpAnyH_take (i := 23) (oi := ?oi23raca) (v := ?v23raca) ?hi23raca ?hs23raca ?hf23raca ?hr23raca ?hQ23raca (Or.inl ⟨?hw23raca, ?hy23raca⟩) (by assumption) ?h23raca
          case hi23raca => (simp only [List.getElem?_toArray, List.getElem?_cons_succ, List.getElem?_cons_zero]; rfl)
          case hs23raca => kernel_rfl
          case hf23raca => kernel_rfl
          case hr23raca => kernel_rfl
          case hw23raca => rfl
          case hy23raca => (intro w0 hSw; clear hSw; go_simp; first | done | with_reducible rfl)
          case hQ23raca => exact fun _ _ _ h => h
          try simp only [Act.put, List.setIfInBounds_toArray, List.set_cons_zero, List.set_cons_succ]
          refine wpAnyH_take (i := 24) (oi := ?oi24raca) (v := ?v24raca) ?hi24raca ?hs24raca ?hf24raca ?hr24raca ?hQ24raca (Or.inl ⟨?hw24raca, ?hy24raca⟩) (by assumption) ?h24raca
          case hi24raca => (simp only [List.getElem?_toArray, List.getElem?_cons_succ, List.getElem?_cons_zero]; rfl)
          case hs24raca => kernel_rfl
          case hf24raca => kernel_rfl
          case hr24raca => kernel_rfl
          case hw24raca => rfl
          case hy24raca => (intro w0 hSw; clear hSw; go_simp; first | done | with_reducible rfl)
          case hQ24raca => exact fun _ _ _ h => h
          try simp only [Act.put, List.setIfInBounds_toArray, List.set_cons_zero, List.set_cons_succ]
          refine wpAnyH_take (i := 25) (oi := ?oi25raca) (v := ?v25raca) ?hi25raca ?hs25raca ?hf25raca ?hr25raca ?hQ25raca (Or.inl ⟨?hw25raca, ?hy25raca⟩) (by assumption) ?h25raca
          case hi25raca => (simp only [List.getElem?_toArray, List.getElem?_cons_succ, List.getElem?_cons_zero]; rfl)
          case hs25raca => kernel_rfl
          case hf25raca => kernel_rfl
          case hr25raca => kernel_rfl
          case hw25raca => rfl
          case hy25raca => (intro w0 hSw; clear hSw; go_simp; first | done | with_reducible rfl)
          case hQ25raca => exact fun _ _ _ h => h
          try simp only [Act.put, List.setIfInBounds_toArray, List.set_cons_zero, List.set_cons_succ]
          refine wpAnyH_ready (rs := [26]) (by kernel_rfl) (by simp) ?_
          refine AllReadyH.cons (o := ?o26raca) ?hi26raca ?step26raca AllReadyH.nil
          case hi26raca => (simp only [List.getElem?_toArray, List.getElem?_cons_succ, List.getElem?_cons_zero]; rfl)
          intro K hK
          go_simp
          have lqr : V4.heap.size ≤ w3.heap.size := hHeld.size
          refine hK.out _ _ (grew hHeld _) (fun hHeld => ?_)
          clear hK K
          try simp only [Act.put, List.setIfInBounds_toArray, List.set_cons_zero, List.set_cons_succ]
          have qr4 : (w3.alloc (.cells #[Value.int .i64 0, .int .i64 0, .int .i64 0, .int .i64 0, .int .i64 0, .int .i64 0, .int .i64 0, .int .i64 0] 94)).heap[w3.heap.size]? = some (.cells #[Value.int .i64 0, .int .i64 0, .int .i64 0, .int .i64 0, .int .i64 0, .int .i64 0, .int .i64 0, .int .i64 0] 94) := heap_new _ _
          have nqeqr : dqe ≠ w3.heap.size := by have := heap_lt qe3; omega
          have hch4 : _ := ChAt.later hch3 (show Below w3.heap.size w3 (w3.alloc (.cells #[Value.int .i64 0, .int .i64 0, .int .i64 0, .int .i64 0, .int .i64 0, .int .i64 0, .int .i64 0, .int .i64 0] 94)) from grew (Below.refl _ _) _)
          have qe4 : _ := heap_below qe3 (show Below w3.heap.size w3 (w3.alloc (.cells #[Value.int .i64 0, .int .i64 0, .int .i64 0, .int .i64 0, .int .i64 0, .int .i64 0, .int .i64 0, .int .i64 0] 94)) from grew (Below.refl _ _) _) (heap_lt qe3)
          generalize w3.alloc (.cells #[Value.int .i64 0, .int .i64 0, .int .i64 0, .int .i64 0, .int .i64 0, .int .i64 0, .int .i64 0, .int .i64 0] 94) = w4 at *
          generalize w3.heap.size = dqr at *
          have c1 := fun i => Joins.cell_of_block qr4 i
          have f1 := fun i => Joins.unfrozen_of_block qr4 i
          have r2 : (((((((((w4.setCell ⟨dqr, 0, none⟩ (.int .i64 r.k)).setCell ⟨dqr, 1, none⟩ (.int .i64 r.a)).setCell ⟨dqr, 2, none⟩ (.int .i64 r.p)).setCell ⟨dqr, 3, none⟩ (.int .i64 r.e.k)).setCell ⟨dqr, 4, none⟩ (.int .i64 r.e.j)).setCell ⟨dqr, 5, none⟩ (.int .i64 r.e.v)).setCell ⟨dqr, 6, none⟩ (.int .i64 r.e.t)).setCell ⟨dqr, 7, none⟩ (.int .i64 r.e.c))).heap[dqr]? = some (boxRc r) := stR_box qr4 r
          have e2 : (((((((((w4.setCell ⟨dqr, 0, none⟩ (.int .i64 r.k)).setCell ⟨dqr, 1, none⟩ (.int .i64 r.a)).setCell ⟨dqr, 2, none⟩ (.int .i64 r.p)).setCell ⟨dqr, 3, none⟩ (.int .i64 r.e.k)).setCell ⟨dqr, 4, none⟩ (.int .i64 r.e.j)).setCell ⟨dqr, 5, none⟩ (.int .i64 r.e.v)).setCell ⟨dqr, 6, none⟩ (.int .i64 r.e.t)).setCell ⟨dqr, 7, none⟩ (.int .i64 r.e.c))).heap[dqe]? = some (boxE 0 0 0 0 0) := stR_other qe4 nqeqr r
          refine wpAnyH_ready (rs := [28]) (by kernel_rfl) (by simp) ?_
          refine AllReadyH.cons (o := ?o28racax) ?hi28racax ?step28racax AllReadyH.nil
          case hi28racax => (simp only [List.getElem?_toArray, List.getElem?_cons_succ, List.getElem?_cons_zero]; rfl)
          intro K hK
          go_simp
          refine hK.out _ _ (stR_below hHeld lqr r) (fun hHeld => ?_)
          clear hK K
          try simp only [Act.put, List.setIfInBounds_toArray, List.set_cons_zero, List.set_cons_succ]
          have hHz : Below V4.heap.size V4 (((((((((w4.setCell ⟨dqr, 0, none⟩ (.int .i64 r.k)).setCell ⟨dqr, 1, none⟩ (.int .i64 r.a)).setCell ⟨dqr, 2, none⟩ (.int .i64 r.p)).setCell ⟨dqr, 3, none⟩ (.int .i64 r.e.k)).setCell ⟨dqr, 4, none⟩ (.int .i64 r.e.j)).setCell ⟨dqr, 5, none⟩ (.int .i64 r.e.v)).setCell ⟨dqr, 6, none⟩ (.int .i64 r.e.t)).setCell ⟨dqr, 7, none⟩ (.int .i64 r.e.c))) := hHeld
          clear hHeld
          generalize ((((((((w4.setCell ⟨dqr, 0, none⟩ (.int .i64 r.k)).setCell ⟨dqr, 1, none⟩ (.int .i64 r.a)).setCell ⟨dqr, 2, none⟩ (.int .i64 r.p)).setCell ⟨dqr, 3, none⟩ (.int .i64 r.e.k)).setCell ⟨dqr, 4, none⟩ (.int .i64 r.e.j)).setCell ⟨dqr, 5, none⟩ (.int .i64 r.e.v)).setCell ⟨dqr, 6, none⟩ (.int .i64 r.e.t)).setCell ⟨dqr, 7, none⟩ (.int .i64 r.e.c)) = wz at *
          have hHeld := hHz
          clear c1 f1
          have c2 := fun i => Joins.cell_of_block e2 i
          have f2 := fun i => Joins.unfrozen_of_block e2 i
          refine wpAnyH_ready (rs := [29]) (by kernel_rfl) (by simp) ?_
          refine AllReadyH.cons (o := ?o29racax) ?hi29racax ?step29racax AllReadyH.nil
          case hi29racax => (simp only [List.getElem?_toArray, List.getElem?_cons_succ, List.getElem?_cons_zero]; rfl)
          intro K hK
          go_simp
          refine hK.out _ _ (stE_below hHeld lqe s) (fun hHeld => ?_)
          clear hK K
          try simp only [Act.put, List.setIfInBounds_toArray, List.set_cons_zero, List.set_cons_succ]
          refine wpAnyH_ready (rs := [30]) (by kernel_rfl) (by simp) ?_
          refine AllReadyH.cons (o := ?o30racax) ?hi30racax ?step30racax AllReadyH.nil
          case hi30racax => (simp only [List.getElem?_toArray, List.getElem?_cons_succ, List.getElem?_cons_zero]; rfl)
          intro K hK
          go_simp
          refine hK.out _ _ (hHeld) (fun hHeld => ?_)
          clear hK K
          try simp only [Act.put, List.setIfInBounds_toArray, List.set_cons_zero, List.set_cons_succ]
          refine wpAnyH_done (by kernel_rfl) ?_ _
          go_wp2_with fail
          go_meet
          case rel => exact ⟨_, _, rfl, rfl, rfl, ⟨stE_other r2 nqeqr.symm s, stE_box e2 s, hHeld⟩⟩
        case step26rac =>
          intro K hK
          go_simp
          have lqr : V4.heap.size ≤ w2.heap.size := hHeld.size
          refine hK.out _ _ (grew hHeld _) (fun hHeld => ?_)
          clear hK K
          try simp only [Act.put, List.setIfInBounds_toArray, List.set_cons_zero, List.set_cons_succ]
          have qr3 : (w2.alloc (.cells #[Value.int .i64 0, .int .i64 0, .int .i64 0, .int .i64 0, .int .i64 0, .int .i64 0, .int .i64 0, .int .i64 0] 94)).heap[w2.heap.size]? = some (.cells #[Value.int .i64 0, .int .i64 0, .int .i64 0, .int .i64 0, .int .i64 0, .int .i64 0, .int .i64 0, .int .i64 0] 94) := heap_new _ _
          have nqeqr : dqe ≠ w2.heap.size := by have := heap_lt qe2; omega
          have hch3 : _ := ChAt.later hch2 (show Below w2.heap.size w2 (w2.alloc (.cells #[Value.int .i64 0, .int .i64 0, .int .i64 0, .int .i64 0, .int .i64 0, .int .i64 0, .int .i64 0, .int .i64 0] 94)) from grew (Below.refl _ _) _)
          have qe3 : _ := heap_below qe2 (show Below w2.heap.size w2 (w2.alloc (.cells #[Value.int .i64 0, .int .i64 0, .int .i64 0, .int .i64 0, .int .i64 0, .int .i64 0, .int .i64 0, .int .i64 0] 94)) from grew (Below.refl _ _) _) (heap_lt qe2)
          generalize w2.alloc (.cells #[Value.int .i64 0, .int .i64 0, .int .i64 0, .int .i64 0, .int .i64 0, .int .i64 0, .int .i64 0, .int .i64 0] 94) = w3 at *
          generalize w2.heap.size = dqr at *
          refine wpAnyH_ready (rs := [21]) (by kernel_rfl) (by simp) ?_
          refine AllReadyH.cons (o := ?o21racb) ?hi21racb ?step21racb AllReadyH.nil
          case hi21racb => (simp only [List.getElem?_toArray, List.getElem?_cons_succ, List.getElem?_cons_zero]; rfl)
          intro K hK
          go_simp
          refine (kl.out _ _ hch3).mono ?_
          rintro e w4 ⟨rfl, hb4⟩
          have hH4 : Below V4.heap.size V4 w4 := step_below1 hHeld hb4
          have hch4 := ChAt.later hch3 hb4
          have qe4 := heap_below qe3 hb4 (heap_lt qe3)
          have qr4 := heap_below qr3 hb4 (heap_lt qr3)
          refine hK.out _ _ hH4 (fun hHeld => ?_)
          clear hK K
          try simp only [Act.put, List.setIfInBounds_toArray, List.set_cons_zero, List.set_cons_succ]
          refine wpAnyH_take (i := 22) (oi := ?oi22racbx) (v := ?v22racbx) ?hi22racbx ?hs22racbx ?hf22racbx ?hr22racbx ?hQ22racbx (Or.inl ⟨?hw22racbx, ?hy22racbx⟩) (by assumption) ?h22racbx
          case hi22racbx => (simp only [List.getElem?_toArray, List.getElem?_cons_succ, List.getElem?_cons_zero]; rfl)
          case hs22racbx => kernel_rfl
          case hf22racbx => kernel_rfl
          case hr22racbx => kernel_rfl
          case hw22racbx => rfl
          case hy22racbx => (intro w0 hSw; clear hSw; go_simp; first | done | with_reducible rfl)
          case hQ22racbx => exact fun _ _ _ h => h
          try simp only [Act.put, List.setIfInBounds_toArray, List.set_cons_zero, List.set_cons_succ]
          refine wpAnyH_take (i := 23) (oi := ?oi23racbx) (v := ?v23racbx) ?hi23racbx ?hs23racbx ?hf23racbx ?hr23racbx ?hQ23racbx (Or.inl ⟨?hw23racbx, ?hy23racbx⟩) (by assumption) ?h23racbx
          case hi23racbx => (simp only [List.getElem?_toArray, List.getElem?_cons_succ, List.getElem?_cons_zero]; rfl)
          case hs23racbx => kernel_rfl
          case hf23racbx => kernel_rfl
          case hr23racbx => kernel_rfl
          case hw23racbx => rfl
          case hy23racbx => (intro w0 hSw; clear hSw; go_simp; first | done | with_reducible rfl)
          case hQ23racbx => exact fun _ _ _ h => h
          try simp only [Act.put, List.setIfInBounds_toArray, List.set_cons_zero, List.set_cons_succ]
          refine wpAnyH_take (i := 24) (oi := ?oi24racbx) (v := ?v24racbx) ?hi24racbx ?hs24racbx ?hf24racbx ?hr24racbx ?hQ24racbx (Or.inl ⟨?hw24racbx, ?hy24racbx⟩) (by assumption) ?h24racbx
          case hi24racbx => (simp only [List.getElem?_toArray, List.getElem?_cons_succ, List.getElem?_cons_zero]; rfl)
          case hs24racbx => kernel_rfl
          case hf24racbx => kernel_rfl
          case hr24racbx => kernel_rfl
          case hw24racbx => rfl
          case hy24racbx => (intro w0 hSw; clear hSw; go_simp; first | done | with_reducible rfl)
          case hQ24racbx => exact fun _ _ _ h => h
          try simp only [Act.put, List.setIfInBounds_toArray, List.set_cons_zero, List.set_cons_succ]
          refine wpAnyH_take (i := 25) (oi := ?oi25racbx) (v := ?v25racbx) ?hi25racbx ?hs25racbx ?hf25racbx ?hr25racbx ?hQ25racbx (Or.inl ⟨?hw25racbx, ?hy25racbx⟩) (by assumption) ?h25racbx
          case hi25racbx => (simp only [List.getElem?_toArray, List.getElem?_cons_succ, List.getElem?_cons_zero]; rfl)
          case hs25racbx => kernel_rfl
          case hf25racbx => kernel_rfl
          case hr25racbx => kernel_rfl
          case hw25racbx => rfl
          case hy25racbx => (intro w0 hSw; clear hSw; go_simp; first | done | with_reducible rfl)
          case hQ25racbx => exact fun _ _ _ h => h
          try simp only [Act.put, List.setIfInBounds_toArray, List.set_cons_zero, List.set_cons_succ]
          have c1 := fun i => Joins.cell_of_block qr4 i
          have f1 := fun i => Joins.unfrozen_of_block qr4 i
          have r2 : (((((((((w4.setCell ⟨dqr, 0, none⟩ (.int .i64 r.k)).setCell ⟨dqr, 1, none⟩ (.int .i64 r.a)).setCell ⟨dqr, 2, none⟩ (.int .i64 r.p)).setCell ⟨dqr, 3, none⟩ (.int .i64 r.e.k)).setCell ⟨dqr, 4, none⟩ (.int .i64 r.e.j)).setCell ⟨dqr, 5, none⟩ (.int .i64 r.e.v)).setCell ⟨dqr, 6, none⟩ (.int .i64 r.e.t)).setCell ⟨dqr, 7, none⟩ (.int .i64 r.e.c))).heap[dqr]? = some (boxRc r) := stR_box qr4 r
          have e2 : (((((((((w4.setCell ⟨dqr, 0, none⟩ (.int .i64 r.k)).setCell ⟨dqr, 1, none⟩ (.int .i64 r.a)).setCell ⟨dqr, 2, none⟩ (.int .i64 r.p)).setCell ⟨dqr, 3, none⟩ (.int .i64 r.e.k)).setCell ⟨dqr, 4, none⟩ (.int .i64 r.e.j)).setCell ⟨dqr, 5, none⟩ (.int .i64 r.e.v)).setCell ⟨dqr, 6, none⟩ (.int .i64 r.e.t)).setCell ⟨dqr, 7, none⟩ (.int .i64 r.e.c))).heap[dqe]? = some (boxE 0 0 0 0 0) := stR_other qe4 nqeqr r
          refine wpAnyH_ready (rs := [28]) (by kernel_rfl) (by simp) ?_
          refine AllReadyH.cons (o := ?o28racbx) ?hi28racbx ?step28racbx AllReadyH.nil
          case hi28racbx => (simp only [List.getElem?_toArray, List.getElem?_cons_succ, List.getElem?_cons_zero]; rfl)
          intro K hK
          go_simp
          refine hK.out _ _ (stR_below hHeld lqr r) (fun hHeld => ?_)
          clear hK K
          try simp only [Act.put, List.setIfInBounds_toArray, List.set_cons_zero, List.set_cons_succ]
          have hHz : Below V4.heap.size V4 (((((((((w4.setCell ⟨dqr, 0, none⟩ (.int .i64 r.k)).setCell ⟨dqr, 1, none⟩ (.int .i64 r.a)).setCell ⟨dqr, 2, none⟩ (.int .i64 r.p)).setCell ⟨dqr, 3, none⟩ (.int .i64 r.e.k)).setCell ⟨dqr, 4, none⟩ (.int .i64 r.e.j)).setCell ⟨dqr, 5, none⟩ (.int .i64 r.e.v)).setCell ⟨dqr, 6, none⟩ (.int .i64 r.e.t)).setCell ⟨dqr, 7, none⟩ (.int .i64 r.e.c))) := hHeld
          clear hHeld
          generalize ((((((((w4.setCell ⟨dqr, 0, none⟩ (.int .i64 r.k)).setCell ⟨dqr, 1, none⟩ (.int .i64 r.a)).setCell ⟨dqr, 2, none⟩ (.int .i64 r.p)).setCell ⟨dqr, 3, none⟩ (.int .i64 r.e.k)).setCell ⟨dqr, 4, none⟩ (.int .i64 r.e.j)).setCell ⟨dqr, 5, none⟩ (.int .i64 r.e.v)).setCell ⟨dqr, 6, none⟩ (.int .i64 r.e.t)).setCell ⟨dqr, 7, none⟩ (.int .i64 r.e.c)) = wz at *
          have hHeld := hHz
          clear c1 f1
          have c2 := fun i => Joins.cell_of_block e2 i
          have f2 := fun i => Joins.unfrozen_of_block e2 i
          refine wpAnyH_ready (rs := [29]) (by kernel_rfl) (by simp) ?_
          refine AllReadyH.cons (o := ?o29racbx) ?hi29racbx ?step29racbx AllReadyH.nil
          case hi29racbx => (simp only [List.getElem?_toArray, List.getElem?_cons_succ, List.getElem?_cons_zero]; rfl)
          intro K hK
          go_simp
          refine hK.out _ _ (stE_below hHeld lqe s) (fun hHeld => ?_)
          clear hK K
          try simp only [Act.put, List.setIfInBounds_toArray, List.set_cons_zero, List.set_cons_succ]
          refine wpAnyH_ready (rs := [30]) (by kernel_rfl) (by simp) ?_
          refine AllReadyH.cons (o := ?o30racbx) ?hi30racbx ?step30racbx AllReadyH.nil
          case hi30racbx => (simp only [List.getElem?_toArray, List.getElem?_cons_succ, List.getElem?_cons_zero]; rfl)
          intro K hK
          go_simp
          refine hK.out _ _ (hHeld) (fun hHeld => ?_)
          clear hK K
          try simp only [Act.put, List.setIfInBounds_toArray, List.set_cons_zero, List.set_cons_succ]
          refine wpAnyH_done (by kernel_rfl) ?_ _
          go_wp2_with fail
          go_meet
          case rel => exact ⟨_, _, rfl, rfl, rfl, ⟨stE_other r2 nqeqr.symm s, stE_box e2 s, hHeld⟩⟩
    case step26r =>
      intro K hK
      go_simp
      have lqr : V4.heap.size ≤ V4.heap.size := Nat.le_refl _
      refine hK.out _ _ (grew hHeld _) (fun hHeld => ?_)
      clear hK K
      try simp only [Act.put, List.setIfInBounds_toArray, List.set_cons_zero, List.set_cons_succ]
      have qr1 : ((V4.alloc (.cells #[Value.int .i64 0, .int .i64 0, .int .i64 0, .int .i64 0, .int .i64 0, .int .i64 0, .int .i64 0, .int .i64 0] 94)).drew).heap[V4.heap.size]? = some (.cells #[Value.int .i64 0, .int .i64 0, .int .i64 0, .int .i64 0, .int .i64 0, .int .i64 0, .int .i64 0, .int .i64 0] 94) := heap_new _ _
      generalize (V4.alloc (.cells #[Value.int .i64 0, .int .i64 0, .int .i64 0, .int .i64 0, .int .i64 0, .int .i64 0, .int .i64 0, .int .i64 0] 94)).drew = w1 at *
      refine wpAnyH_ready (rs := [4, 27]) (by kernel_rfl) (by simp) ?_
      refine AllReadyH.cons (o := ?o4rb) ?hi4rb ?step4rb (AllReadyH.cons (o := ?o27rb) ?hi27rb ?step27rb AllReadyH.nil)
      case hi4rb => (simp only [List.getElem?_toArray, List.getElem?_cons_succ, List.getElem?_cons_zero]; rfl)
      case hi27rb => (simp only [List.getElem?_toArray, List.getElem?_cons_succ, List.getElem?_cons_zero]; rfl)
      case step4rb =>
        intro K hK
        go_simp
        refine (ku.out _ hHeld).mono ?_
        rintro e w2 ⟨u, rfl, hch, hb2⟩
        have hH2 : Below V4.heap.size V4 w2 := step_below1 hHeld hb2
        have qr2 := heap_below qr1 hb2 (heap_lt qr1)
        refine hK.out _ _ hH2 (fun hHeld => ?_)
        clear hK K
        try simp only [Act.put, List.setIfInBounds_toArray, List.set_cons_zero, List.set_cons_succ]
        refine wpAnyH_ready (rs := [21, 27]) (by kernel_rfl) (by simp) ?_
        refine AllReadyH.cons (o := ?o21rba) ?hi21rba ?step21rba (AllReadyH.cons (o := ?o27rba) ?hi27rba ?step27rba AllReadyH.nil)
        case hi21rba => (simp only [List.getElem?_toArray, List.getElem?_cons_succ, List.getElem?_cons_zero]; rfl)
        case hi27rba => (simp only [List.getElem?_toArray, List.getElem?_cons_succ, List.getElem?_cons_zero]; rfl)
        case step21rba =>
          intro K hK
          go_simp
          refine (kl.out _ _ hch).mono ?_
          rintro e w3 ⟨rfl, hb3⟩
          have hH3 : Below V4.heap.size V4 w3 := step_below1 hHeld hb3
          have qr3 := heap_below qr2 hb3 (heap_lt qr2)
          have hch3 := ChAt.later hch hb3
          refine hK.out _ _ hH3 (fun hHeld => ?_)
          clear hK K
          try simp only [Act.put, List.setIfInBounds_toArray, List.set_cons_zero, List.set_cons_succ]
          refine wpAnyH_take (i := 22) (oi := ?oi22rbaa) (v := ?v22rbaa) ?hi22rbaa ?hs22rbaa ?hf22rbaa ?hr22rbaa ?hQ22rbaa (Or.inl ⟨?hw22rbaa, ?hy22rbaa⟩) (by assumption) ?h22rbaa
          case hi22rbaa => (simp only [List.getElem?_toArray, List.getElem?_cons_succ, List.getElem?_cons_zero]; rfl)
          case hs22rbaa => kernel_rfl
          case hf22rbaa => kernel_rfl
          case hr22rbaa => kernel_rfl
          case hw22rbaa => rfl
          case hy22rbaa => (intro w0 hSw; clear hSw; go_simp; first | done | with_reducible rfl)
          case hQ22rbaa => exact fun _ _ _ h => h
          try simp only [Act.put, List.setIfInBounds_toArray, List.set_cons_zero, List.set_cons_succ]
          refine wpAnyH_take (i := 23) (oi := ?oi23rbaa) (v := ?v23rbaa) ?hi23rbaa ?hs23rbaa ?hf23rbaa ?hr23rbaa ?hQ23rbaa (Or.inl ⟨?hw23rbaa, ?hy23rbaa⟩) (by assumption) ?h23rbaa
          case hi23rbaa => (simp only [List.getElem?_toArray, List.getElem?_cons_succ, List.getElem?_cons_zero]; rfl)
          case hs23rbaa => kernel_rfl
          case hf23rbaa => kernel_rfl
          case hr23rbaa => kernel_rfl
          case hw23rbaa => rfl
          case hy23rbaa => (intro w0 hSw; clear hSw; go_simp; first | done | with_reducible rfl)
          case hQ23rbaa => exact fun _ _ _ h => h
          try simp only [Act.put, List.setIfInBounds_toArray, List.set_cons_zero, List.set_cons_succ]
          refine wpAnyH_take (i := 24) (oi := ?oi24rbaa) (v := ?v24rbaa) ?hi24rbaa ?hs24rbaa ?hf24rbaa ?hr24rbaa ?hQ24rbaa (Or.inl ⟨?hw24rbaa, ?hy24rbaa⟩) (by assumption) ?h24rbaa
          case hi24rbaa => (simp only [List.getElem?_toArray, List.getElem?_cons_succ, List.getElem?_cons_zero]; rfl)
          case hs24rbaa => kernel_rfl
          case hf24rbaa => kernel_rfl
          case hr24rbaa => kernel_rfl
          case hw24rbaa => rfl
          case hy24rbaa => (intro w0 hSw; clear hSw; go_simp; first | done | with_reducible rfl)
          case hQ24rbaa => exact fun _ _ _ h => h
          try simp only [Act.put, List.setIfInBounds_toArray, List.set_cons_zero, List.set_cons_succ]
          refine wpAnyH_take (i := 25) (oi := ?oi25rbaa) (v := ?v25rbaa) ?hi25rbaa ?hs25rbaa ?hf25rbaa ?hr25rbaa ?hQ25rbaa (Or.inl ⟨?hw25rbaa, ?hy25rbaa⟩) (by assumption) ?h25rbaa
          case hi25rbaa => (simp only [List.getElem?_toArray, List.getElem?_cons_succ, List.getElem?_cons_zero]; rfl)
          case hs25rbaa => kernel_rfl
          case hf25rbaa => kernel_rfl
          case hr25rbaa => kernel_rfl
          case hw25rbaa => rfl
          case hy25rbaa => (intro w0 hSw; clear hSw; go_simp; first | done | with_reducible rfl)
          case hQ25rbaa => exact fun _ _ _ h => h
          try simp only [Act.put, List.setIfInBounds_toArray, List.set_cons_zero, List.set_cons_succ]
          refine wpAnyH_ready (rs := [27]) (by kernel_rfl) (by simp) ?_
          refine AllReadyH.cons (o := ?o27rbaa) ?hi27rbaa ?step27rbaa AllReadyH.nil
          case hi27rbaa => (simp only [List.getElem?_toArray, List.getElem?_cons_succ, List.getElem?_cons_zero]; rfl)
          intro K hK
          go_simp
          have lqe : V4.heap.size ≤ w3.heap.size := hHeld.size
          refine hK.out _ _ (grew hHeld _) (fun hHeld => ?_)
          clear hK K
          try simp only [Act.put, List.setIfInBounds_toArray, List.set_cons_zero, List.set_cons_succ]
          have qe4 : (w3.alloc (boxE 0 0 0 0 0)).heap[w3.heap.size]? = some (boxE 0 0 0 0 0) := heap_new _ _
          have nqrqe : V4.heap.size ≠ w3.heap.size := by have := heap_lt qr3; omega
          have qr4 : _ := heap_below qr3 (show Below w3.heap.size w3 (w3.alloc (boxE 0 0 0 0 0)) from grew (Below.refl _ _) _) (heap_lt qr3)
          have hch4 : _ := ChAt.later hch3 (show Below w3.heap.size w3 (w3.alloc (boxE 0 0 0 0 0)) from grew (Below.refl _ _) _)
          generalize w3.alloc (boxE 0 0 0 0 0) = w4 at *
          generalize w3.heap.size = dqe at *
          have c1 := fun i => Joins.cell_of_block qr4 i
          have f1 := fun i => Joins.unfrozen_of_block qr4 i
          have r2 : (((((((((w4.setCell ⟨V4.heap.size, 0, none⟩ (.int .i64 r.k)).setCell ⟨V4.heap.size, 1, none⟩ (.int .i64 r.a)).setCell ⟨V4.heap.size, 2, none⟩ (.int .i64 r.p)).setCell ⟨V4.heap.size, 3, none⟩ (.int .i64 r.e.k)).setCell ⟨V4.heap.size, 4, none⟩ (.int .i64 r.e.j)).setCell ⟨V4.heap.size, 5, none⟩ (.int .i64 r.e.v)).setCell ⟨V4.heap.size, 6, none⟩ (.int .i64 r.e.t)).setCell ⟨V4.heap.size, 7, none⟩ (.int .i64 r.e.c))).heap[V4.heap.size]? = some (boxRc r) := stR_box qr4 r
          have e2 : (((((((((w4.setCell ⟨V4.heap.size, 0, none⟩ (.int .i64 r.k)).setCell ⟨V4.heap.size, 1, none⟩ (.int .i64 r.a)).setCell ⟨V4.heap.size, 2, none⟩ (.int .i64 r.p)).setCell ⟨V4.heap.size, 3, none⟩ (.int .i64 r.e.k)).setCell ⟨V4.heap.size, 4, none⟩ (.int .i64 r.e.j)).setCell ⟨V4.heap.size, 5, none⟩ (.int .i64 r.e.v)).setCell ⟨V4.heap.size, 6, none⟩ (.int .i64 r.e.t)).setCell ⟨V4.heap.size, 7, none⟩ (.int .i64 r.e.c))).heap[dqe]? = some (boxE 0 0 0 0 0) := stR_other qe4 nqrqe.symm r
          refine wpAnyH_ready (rs := [28]) (by kernel_rfl) (by simp) ?_
          refine AllReadyH.cons (o := ?o28rbaax) ?hi28rbaax ?step28rbaax AllReadyH.nil
          case hi28rbaax => (simp only [List.getElem?_toArray, List.getElem?_cons_succ, List.getElem?_cons_zero]; rfl)
          intro K hK
          go_simp
          refine hK.out _ _ (stR_below hHeld lqr r) (fun hHeld => ?_)
          clear hK K
          try simp only [Act.put, List.setIfInBounds_toArray, List.set_cons_zero, List.set_cons_succ]
          have hHz : Below V4.heap.size V4 (((((((((w4.setCell ⟨V4.heap.size, 0, none⟩ (.int .i64 r.k)).setCell ⟨V4.heap.size, 1, none⟩ (.int .i64 r.a)).setCell ⟨V4.heap.size, 2, none⟩ (.int .i64 r.p)).setCell ⟨V4.heap.size, 3, none⟩ (.int .i64 r.e.k)).setCell ⟨V4.heap.size, 4, none⟩ (.int .i64 r.e.j)).setCell ⟨V4.heap.size, 5, none⟩ (.int .i64 r.e.v)).setCell ⟨V4.heap.size, 6, none⟩ (.int .i64 r.e.t)).setCell ⟨V4.heap.size, 7, none⟩ (.int .i64 r.e.c))) := hHeld
          clear hHeld
          generalize ((((((((w4.setCell ⟨V4.heap.size, 0, none⟩ (.int .i64 r.k)).setCell ⟨V4.heap.size, 1, none⟩ (.int .i64 r.a)).setCell ⟨V4.heap.size, 2, none⟩ (.int .i64 r.p)).setCell ⟨V4.heap.size, 3, none⟩ (.int .i64 r.e.k)).setCell ⟨V4.heap.size, 4, none⟩ (.int .i64 r.e.j)).setCell ⟨V4.heap.size, 5, none⟩ (.int .i64 r.e.v)).setCell ⟨V4.heap.size, 6, none⟩ (.int .i64 r.e.t)).setCell ⟨V4.heap.size, 7, none⟩ (.int .i64 r.e.c)) = wz at *
          have hHeld := hHz
          clear c1 f1
          have c2 := fun i => Joins.cell_of_block e2 i
          have f2 := fun i => Joins.unfrozen_of_block e2 i
          refine wpAnyH_ready (rs := [29]) (by kernel_rfl) (by simp) ?_
          refine AllReadyH.cons (o := ?o29rbaax) ?hi29rbaax ?step29rbaax AllReadyH.nil
          case hi29rbaax => (simp only [List.getElem?_toArray, List.getElem?_cons_succ, List.getElem?_cons_zero]; rfl)
          intro K hK
          go_simp
          refine hK.out _ _ (stE_below hHeld lqe s) (fun hHeld => ?_)
          clear hK K
          try simp only [Act.put, List.setIfInBounds_toArray, List.set_cons_zero, List.set_cons_succ]
          refine wpAnyH_ready (rs := [30]) (by kernel_rfl) (by simp) ?_
          refine AllReadyH.cons (o := ?o30rbaax) ?hi30rbaax ?step30rbaax AllReadyH.nil
          case hi30rbaax => (simp only [List.getElem?_toArray, List.getElem?_cons_succ, List.getElem?_cons_zero]; rfl)
          intro K hK
          go_simp
          refine hK.out _ _ (hHeld) (fun hHeld => ?_)
          clear hK K
          try simp only [Act.put, List.setIfInBounds_toArray, List.set_cons_zero, List.set_cons_succ]
          refine wpAnyH_done (by kernel_rfl) ?_ _
          go_wp2_with fail
          go_meet
          case rel => exact ⟨_, _, rfl, rfl, rfl, ⟨stE_other r2 nqrqe s, stE_box e2 s, hHeld⟩⟩
        case step27rba =>
          intro K hK
          go_simp
          have lqe : V4.heap.size ≤ w2.heap.size := hHeld.size
          refine hK.out _ _ (grew hHeld _) (fun hHeld => ?_)
          clear hK K
          try simp only [Act.put, List.setIfInBounds_toArray, List.set_cons_zero, List.set_cons_succ]
          have qe3 : (w2.alloc (boxE 0 0 0 0 0)).heap[w2.heap.size]? = some (boxE 0 0 0 0 0) := heap_new _ _
          have nqrqe : V4.heap.size ≠ w2.heap.size := by have := heap_lt qr2; omega
          have qr3 : _ := heap_below qr2 (show Below w2.heap.size w2 (w2.alloc (boxE 0 0 0 0 0)) from grew (Below.refl _ _) _) (heap_lt qr2)
          have hch3 : _ := ChAt.later hch (show Below w2.heap.size w2 (w2.alloc (boxE 0 0 0 0 0)) from grew (Below.refl _ _) _)
          generalize w2.alloc (boxE 0 0 0 0 0) = w3 at *
          generalize w2.heap.size = dqe at *
          refine wpAnyH_ready (rs := [21]) (by kernel_rfl) (by simp) ?_
          refine AllReadyH.cons (o := ?o21rbab) ?hi21rbab ?step21rbab AllReadyH.nil
          case hi21rbab => (simp only [List.getElem?_toArray, List.getElem?_cons_succ, List.getElem?_cons_zero]; rfl)
          intro K hK
          go_simp
          refine (kl.out _ _ hch3).mono ?_
          rintro e w4 ⟨rfl, hb4⟩
          have hH4 : Below V4.heap.size V4 w4 := step_below1 hHeld hb4
          have qr4 := heap_below qr3 hb4 (heap_lt qr3)
          have hch4 := ChAt.later hch3 hb4
          have qe4 := heap_below qe3 hb4 (heap_lt qe3)
          refine hK.out _ _ hH4 (fun hHeld => ?_)
          clear hK K
          try simp only [Act.put, List.setIfInBounds_toArray, List.set_cons_zero, List.set_cons_succ]
          refine wpAnyH_take (i := 22) (oi := ?oi22rbabx) (v := ?v22rbabx) ?hi22rbabx ?hs22rbabx ?hf22rbabx ?hr22rbabx ?hQ22rbabx (Or.inl ⟨?hw22rbabx, ?hy22rbabx⟩) (by assumption) ?h22rbabx
          case hi22rbabx => (simp only [List.getElem?_toArray, List.getElem?_cons_succ, List.getElem?_cons_zero]; rfl)
          case hs22rbabx => kernel_rfl
          case hf22rbabx => kernel_rfl
          case hr22rbabx => kernel_rfl
          case hw22rbabx => rfl
          case hy22rbabx => (intro w0 hSw; clear hSw; go_simp; first | done | with_reducible rfl)
          case hQ22rbabx => exact fun _ _ _ h => h
          try simp only [Act.put, List.setIfInBounds_toArray, List.set_cons_zero, List.set_cons_succ]
          refine wpAnyH_take (i := 23) (oi := ?oi23rbabx) (v := ?v23rbabx) ?hi23rbabx ?hs23rbabx ?hf23rbabx ?hr23rbabx ?hQ23rbabx (Or.inl ⟨?hw23rbabx, ?hy23rbabx⟩) (by assumption) ?h23rbabx
          case hi23rbabx => (simp only [List.getElem?_toArray, List.getElem?_cons_succ, List.getElem?_cons_zero]; rfl)
          case hs23rbabx => kernel_rfl
          case hf23rbabx => kernel_rfl
          case hr23rbabx => kernel_rfl
          case hw23rbabx => rfl
          case hy23rbabx => (intro w0 hSw; clear hSw; go_simp; first | done | with_reducible rfl)
          case hQ23rbabx => exact fun _ _ _ h => h
          try simp only [Act.put, List.setIfInBounds_toArray, List.set_cons_zero, List.set_cons_succ]
          refine wpAnyH_take (i := 24) (oi := ?oi24rbabx) (v := ?v24rbabx) ?hi24rbabx ?hs24rbabx ?hf24rbabx ?hr24rbabx ?hQ24rbabx (Or.inl ⟨?hw24rbabx, ?hy24rbabx⟩) (by assumption) ?h24rbabx
          case hi24rbabx => (simp only [List.getElem?_toArray, List.getElem?_cons_succ, List.getElem?_cons_zero]; rfl)
          case hs24rbabx => kernel_rfl
          case hf24rbabx => kernel_rfl
          case hr24rbabx => kernel_rfl
          case hw24rbabx => rfl
          case hy24rbabx => (intro w0 hSw; clear hSw; go_simp; first | done | with_reducible rfl)
          case hQ24rbabx => exact fun _ _ _ h => h
          try simp only [Act.put, List.setIfInBounds_toArray, List.set_cons_zero, List.set_cons_succ]
          refine wpAnyH_take (i := 25) (oi := ?oi25rbabx) (v := ?v25rbabx) ?hi25rbabx ?hs25rbabx ?hf25rbabx ?hr25rbabx ?hQ25rbabx (Or.inl ⟨?hw25rbabx, ?hy25rbabx⟩) (by assumption) ?h25rbabx
          case hi25rbabx => (simp only [List.getElem?_toArray, List.getElem?_cons_succ, List.getElem?_cons_zero]; rfl)
          case hs25rbabx => kernel_rfl
          case hf25rbabx => kernel_rfl
          case hr25rbabx => kernel_rfl
          case hw25rbabx => rfl
          case hy25rbabx => (intro w0 hSw; clear hSw; go_simp; first | done | with_reducible rfl)
          case hQ25rbabx => exact fun _ _ _ h => h
          try simp only [Act.put, List.setIfInBounds_toArray, List.set_cons_zero, List.set_cons_succ]
          have c1 := fun i => Joins.cell_of_block qr4 i
          have f1 := fun i => Joins.unfrozen_of_block qr4 i
          have r2 : (((((((((w4.setCell ⟨V4.heap.size, 0, none⟩ (.int .i64 r.k)).setCell ⟨V4.heap.size, 1, none⟩ (.int .i64 r.a)).setCell ⟨V4.heap.size, 2, none⟩ (.int .i64 r.p)).setCell ⟨V4.heap.size, 3, none⟩ (.int .i64 r.e.k)).setCell ⟨V4.heap.size, 4, none⟩ (.int .i64 r.e.j)).setCell ⟨V4.heap.size, 5, none⟩ (.int .i64 r.e.v)).setCell ⟨V4.heap.size, 6, none⟩ (.int .i64 r.e.t)).setCell ⟨V4.heap.size, 7, none⟩ (.int .i64 r.e.c))).heap[V4.heap.size]? = some (boxRc r) := stR_box qr4 r
          have e2 : (((((((((w4.setCell ⟨V4.heap.size, 0, none⟩ (.int .i64 r.k)).setCell ⟨V4.heap.size, 1, none⟩ (.int .i64 r.a)).setCell ⟨V4.heap.size, 2, none⟩ (.int .i64 r.p)).setCell ⟨V4.heap.size, 3, none⟩ (.int .i64 r.e.k)).setCell ⟨V4.heap.size, 4, none⟩ (.int .i64 r.e.j)).setCell ⟨V4.heap.size, 5, none⟩ (.int .i64 r.e.v)).setCell ⟨V4.heap.size, 6, none⟩ (.int .i64 r.e.t)).setCell ⟨V4.heap.size, 7, none⟩ (.int .i64 r.e.c))).heap[dqe]? = some (boxE 0 0 0 0 0) := stR_other qe4 nqrqe.symm r
          refine wpAnyH_ready (rs := [28]) (by kernel_rfl) (by simp) ?_
          refine AllReadyH.cons (o := ?o28rbabx) ?hi28rbabx ?step28rbabx AllReadyH.nil
          case hi28rbabx => (simp only [List.getElem?_toArray, List.getElem?_cons_succ, List.getElem?_cons_zero]; rfl)
          intro K hK
          go_simp
          refine hK.out _ _ (stR_below hHeld lqr r) (fun hHeld => ?_)
          clear hK K
          try simp only [Act.put, List.setIfInBounds_toArray, List.set_cons_zero, List.set_cons_succ]
          have hHz : Below V4.heap.size V4 (((((((((w4.setCell ⟨V4.heap.size, 0, none⟩ (.int .i64 r.k)).setCell ⟨V4.heap.size, 1, none⟩ (.int .i64 r.a)).setCell ⟨V4.heap.size, 2, none⟩ (.int .i64 r.p)).setCell ⟨V4.heap.size, 3, none⟩ (.int .i64 r.e.k)).setCell ⟨V4.heap.size, 4, none⟩ (.int .i64 r.e.j)).setCell ⟨V4.heap.size, 5, none⟩ (.int .i64 r.e.v)).setCell ⟨V4.heap.size, 6, none⟩ (.int .i64 r.e.t)).setCell ⟨V4.heap.size, 7, none⟩ (.int .i64 r.e.c))) := hHeld
          clear hHeld
          generalize ((((((((w4.setCell ⟨V4.heap.size, 0, none⟩ (.int .i64 r.k)).setCell ⟨V4.heap.size, 1, none⟩ (.int .i64 r.a)).setCell ⟨V4.heap.size, 2, none⟩ (.int .i64 r.p)).setCell ⟨V4.heap.size, 3, none⟩ (.int .i64 r.e.k)).setCell ⟨V4.heap.size, 4, none⟩ (.int .i64 r.e.j)).setCell ⟨V4.heap.size, 5, none⟩ (.int .i64 r.e.v)).setCell ⟨V4.heap.size, 6, none⟩ (.int .i64 r.e.t)).setCell ⟨V4.heap.size, 7, none⟩ (.int .i64 r.e.c)) = wz at *
          have hHeld := hHz
          clear c1 f1
          have c2 := fun i => Joins.cell_of_block e2 i
          have f2 := fun i => Joins.unfrozen_of_block e2 i
          refine wpAnyH_ready (rs := [29]) (by kernel_rfl) (by simp) ?_
          refine AllReadyH.cons (o := ?o29rbabx) ?hi29rbabx ?step29rbabx AllReadyH.nil
          case hi29rbabx => (simp only [List.getElem?_toArray, List.getElem?_cons_succ, List.getElem?_cons_zero]; rfl)
          intro K hK
          go_simp
          refine hK.out _ _ (stE_below hHeld lqe s) (fun hHeld => ?_)
          clear hK K
          try simp only [Act.put, List.setIfInBounds_toArray, List.set_cons_zero, List.set_cons_succ]
          refine wpAnyH_ready (rs := [30]) (by kernel_rfl) (by simp) ?_
          refine AllReadyH.cons (o := ?o30rbabx) ?hi30rbabx ?step30rbabx AllReadyH.nil
          case hi30rbabx => (simp only [List.getElem?_toArray, List.getElem?_cons_succ, List.getElem?_cons_zero]; rfl)
          intro K hK
          go_simp
          refine hK.out _ _ (hHeld) (fun hHeld => ?_)
          clear hK K
          try simp only [Act.put, List.setIfInBounds_toArray, List.set_cons_zero, List.set_cons_succ]
          refine wpAnyH_done (by kernel_rfl) ?_ _
          go_wp2_with fail
          go_meet
          case rel => exact ⟨_, _, rfl, rfl, rfl, ⟨stE_other r2 nqrqe s, stE_box e2 s, hHeld⟩⟩
      case step27rb =>
        intro K hK
        go_simp
        have lqe : V4.heap.size ≤ w1.heap.size := hHeld.size
        refine hK.out _ _ (grew hHeld _) (fun hHeld => ?_)
        clear hK K
        try simp only [Act.put, List.setIfInBounds_toArray, List.set_cons_zero, List.set_cons_succ]
        have qe2 : (w1.alloc (boxE 0 0 0 0 0)).heap[w1.heap.size]? = some (boxE 0 0 0 0 0) := heap_new _ _
        have nqrqe : V4.heap.size ≠ w1.heap.size := by have := heap_lt qr1; omega
        have qr2 : _ := heap_below qr1 (show Below w1.heap.size w1 (w1.alloc (boxE 0 0 0 0 0)) from grew (Below.refl _ _) _) (heap_lt qr1)
        generalize w1.alloc (boxE 0 0 0 0 0) = w2 at *
        generalize w1.heap.size = dqe at *
        refine wpAnyH_ready (rs := [4]) (by kernel_rfl) (by simp) ?_
        refine AllReadyH.cons (o := ?o4rbb) ?hi4rbb ?step4rbb AllReadyH.nil
        case hi4rbb => (simp only [List.getElem?_toArray, List.getElem?_cons_succ, List.getElem?_cons_zero]; rfl)
        intro K hK
        go_simp
        refine (ku.out _ hHeld).mono ?_
        rintro e w3 ⟨u, rfl, hch, hb3⟩
        have hH3 : Below V4.heap.size V4 w3 := step_below1 hHeld hb3
        have qr3 := heap_below qr2 hb3 (heap_lt qr2)
        have qe3 := heap_below qe2 hb3 (heap_lt qe2)
        refine hK.out _ _ hH3 (fun hHeld => ?_)
        clear hK K
        try simp only [Act.put, List.setIfInBounds_toArray, List.set_cons_zero, List.set_cons_succ]
        refine wpAnyH_ready (rs := [21]) (by kernel_rfl) (by simp) ?_
        refine AllReadyH.cons (o := ?o21rbbx) ?hi21rbbx ?step21rbbx AllReadyH.nil
        case hi21rbbx => (simp only [List.getElem?_toArray, List.getElem?_cons_succ, List.getElem?_cons_zero]; rfl)
        intro K hK
        go_simp
        refine (kl.out _ _ hch).mono ?_
        rintro e w4 ⟨rfl, hb4⟩
        have hH4 : Below V4.heap.size V4 w4 := step_below1 hHeld hb4
        have qr4 := heap_below qr3 hb4 (heap_lt qr3)
        have qe4 := heap_below qe3 hb4 (heap_lt qe3)
        have hch4 := ChAt.later hch hb4
        refine hK.out _ _ hH4 (fun hHeld => ?_)
        clear hK K
        try simp only [Act.put, List.setIfInBounds_toArray, List.set_cons_zero, List.set_cons_succ]
        refine wpAnyH_take (i := 22) (oi := ?oi22rbbxx) (v := ?v22rbbxx) ?hi22rbbxx ?hs22rbbxx ?hf22rbbxx ?hr22rbbxx ?hQ22rbbxx (Or.inl ⟨?hw22rbbxx, ?hy22rbbxx⟩) (by assumption) ?h22rbbxx
        case hi22rbbxx => (simp only [List.getElem?_toArray, List.getElem?_cons_succ, List.getElem?_cons_zero]; rfl)
        case hs22rbbxx => kernel_rfl
        case hf22rbbxx => kernel_rfl
        case hr22rbbxx => kernel_rfl
        case hw22rbbxx => rfl
        case hy22rbbxx => (intro w0 hSw; clear hSw; go_simp; first | done | with_reducible rfl)
        case hQ22rbbxx => exact fun _ _ _ h => h
        try simp only [Act.put, List.setIfInBounds_toArray, List.set_cons_zero, List.set_cons_succ]
        refine wpAnyH_take (i := 23) (oi := ?oi23rbbxx) (v := ?v23rbbxx) ?hi23rbbxx ?hs23rbbxx ?hf23rbbxx ?hr23rbbxx ?hQ23rbbxx (Or.inl ⟨?hw23rbbxx, ?hy23rbbxx⟩) (by assumption) ?h23rbbxx
        case hi23rbbxx => (simp only [List.getElem?_toArray, List.getElem?_cons_succ, List.getElem?_cons_zero]; rfl)
        case hs23rbbxx => kernel_rfl
        case hf23rbbxx => kernel_rfl
        case hr23rbbxx => kernel_rfl
        case hw23rbbxx => rfl
        case hy23rbbxx => (intro w0 hSw; clear hSw; go_simp; first | done | with_reducible rfl)
        case hQ23rbbxx => exact fun _ _ _ h => h
        try simp only [Act.put, List.setIfInBounds_toArray, List.set_cons_zero, List.set_cons_succ]
        refine wpAnyH_take (i := 24) (oi := ?oi24rbbxx) (v := ?v24rbbxx) ?hi24rbbxx ?hs24rbbxx ?hf24rbbxx ?hr24rbbxx ?hQ24rbbxx (Or.inl ⟨?hw24rbbxx, ?hy24rbbxx⟩) (by assumption) ?h24rbbxx
        case hi24rbbxx => (simp only [List.getElem?_toArray, List.getElem?_cons_succ, List.getElem?_cons_zero]; rfl)
        case hs24rbbxx => kernel_rfl
        case hf24rbbxx => kernel_rfl
        case hr24rbbxx => kernel_rfl
        case hw24rbbxx => rfl
        case hy24rbbxx => (intro w0 hSw; clear hSw; go_simp; first | done | with_reducible rfl)
        case hQ24rbbxx => exact fun _ _ _ h => h
        try simp only [Act.put, List.setIfInBounds_toArray, List.set_cons_zero, List.set_cons_succ]
        refine wpAnyH_take (i := 25) (oi := ?oi25rbbxx) (v := ?v25rbbxx) ?hi25rbbxx ?hs25rbbxx ?hf25rbbxx ?hr25rbbxx ?hQ25rbbxx (Or.inl ⟨?hw25rbbxx, ?hy25rbbxx⟩) (by assumption) ?h25rbbxx
        case hi25rbbxx => (simp only [List.getElem?_toArray, List.getElem?_cons_succ, List.getElem?_cons_zero]; rfl)
        case hs25rbbxx => kernel_rfl
        case hf25rbbxx => kernel_rfl
        case hr25rbbxx => kernel_rfl
        case hw25rbbxx => rfl
        case hy25rbbxx => (intro w0 hSw; clear hSw; go_simp; first | done | with_reducible rfl)
        case hQ25rbbxx => exact fun _ _ _ h => h
        try simp only [Act.put, List.setIfInBounds_toArray, List.set_cons_zero, List.set_cons_succ]
        have c1 := fun i => Joins.cell_of_block qr4 i
        have f1 := fun i => Joins.unfrozen_of_block qr4 i
        have r2 : (((((((((w4.setCell ⟨V4.heap.size, 0, none⟩ (.int .i64 r.k)).setCell ⟨V4.heap.size, 1, none⟩ (.int .i64 r.a)).setCell ⟨V4.heap.size, 2, none⟩ (.int .i64 r.p)).setCell ⟨V4.heap.size, 3, none⟩ (.int .i64 r.e.k)).setCell ⟨V4.heap.size, 4, none⟩ (.int .i64 r.e.j)).setCell ⟨V4.heap.size, 5, none⟩ (.int .i64 r.e.v)).setCell ⟨V4.heap.size, 6, none⟩ (.int .i64 r.e.t)).setCell ⟨V4.heap.size, 7, none⟩ (.int .i64 r.e.c))).heap[V4.heap.size]? = some (boxRc r) := stR_box qr4 r
        have e2 : (((((((((w4.setCell ⟨V4.heap.size, 0, none⟩ (.int .i64 r.k)).setCell ⟨V4.heap.size, 1, none⟩ (.int .i64 r.a)).setCell ⟨V4.heap.size, 2, none⟩ (.int .i64 r.p)).setCell ⟨V4.heap.size, 3, none⟩ (.int .i64 r.e.k)).setCell ⟨V4.heap.size, 4, none⟩ (.int .i64 r.e.j)).setCell ⟨V4.heap.size, 5, none⟩ (.int .i64 r.e.v)).setCell ⟨V4.heap.size, 6, none⟩ (.int .i64 r.e.t)).setCell ⟨V4.heap.size, 7, none⟩ (.int .i64 r.e.c))).heap[dqe]? = some (boxE 0 0 0 0 0) := stR_other qe4 nqrqe.symm r
        refine wpAnyH_ready (rs := [28]) (by kernel_rfl) (by simp) ?_
        refine AllReadyH.cons (o := ?o28rbbxx) ?hi28rbbxx ?step28rbbxx AllReadyH.nil
        case hi28rbbxx => (simp only [List.getElem?_toArray, List.getElem?_cons_succ, List.getElem?_cons_zero]; rfl)
        intro K hK
        go_simp
        refine hK.out _ _ (stR_below hHeld lqr r) (fun hHeld => ?_)
        clear hK K
        try simp only [Act.put, List.setIfInBounds_toArray, List.set_cons_zero, List.set_cons_succ]
        have hHz : Below V4.heap.size V4 (((((((((w4.setCell ⟨V4.heap.size, 0, none⟩ (.int .i64 r.k)).setCell ⟨V4.heap.size, 1, none⟩ (.int .i64 r.a)).setCell ⟨V4.heap.size, 2, none⟩ (.int .i64 r.p)).setCell ⟨V4.heap.size, 3, none⟩ (.int .i64 r.e.k)).setCell ⟨V4.heap.size, 4, none⟩ (.int .i64 r.e.j)).setCell ⟨V4.heap.size, 5, none⟩ (.int .i64 r.e.v)).setCell ⟨V4.heap.size, 6, none⟩ (.int .i64 r.e.t)).setCell ⟨V4.heap.size, 7, none⟩ (.int .i64 r.e.c))) := hHeld
        clear hHeld
        generalize ((((((((w4.setCell ⟨V4.heap.size, 0, none⟩ (.int .i64 r.k)).setCell ⟨V4.heap.size, 1, none⟩ (.int .i64 r.a)).setCell ⟨V4.heap.size, 2, none⟩ (.int .i64 r.p)).setCell ⟨V4.heap.size, 3, none⟩ (.int .i64 r.e.k)).setCell ⟨V4.heap.size, 4, none⟩ (.int .i64 r.e.j)).setCell ⟨V4.heap.size, 5, none⟩ (.int .i64 r.e.v)).setCell ⟨V4.heap.size, 6, none⟩ (.int .i64 r.e.t)).setCell ⟨V4.heap.size, 7, none⟩ (.int .i64 r.e.c)) = wz at *
        have hHeld := hHz
        clear c1 f1
        have c2 := fun i => Joins.cell_of_block e2 i
        have f2 := fun i => Joins.unfrozen_of_block e2 i
        refine wpAnyH_ready (rs := [29]) (by kernel_rfl) (by simp) ?_
        refine AllReadyH.cons (o := ?o29rbbxx) ?hi29rbbxx ?step29rbbxx AllReadyH.nil
        case hi29rbbxx => (simp only [List.getElem?_toArray, List.getElem?_cons_succ, List.getElem?_cons_zero]; rfl)
        intro K hK
        go_simp
        refine hK.out _ _ (stE_below hHeld lqe s) (fun hHeld => ?_)
        clear hK K
        try simp only [Act.put, List.setIfInBounds_toArray, List.set_cons_zero, List.set_cons_succ]
        refine wpAnyH_ready (rs := [30]) (by kernel_rfl) (by simp) ?_
        refine AllReadyH.cons (o := ?o30rbbxx) ?hi30rbbxx ?step30rbbxx AllReadyH.nil
        case hi30rbbxx => (simp only [List.getElem?_toArray, List.getElem?_cons_succ, List.getElem?_cons_zero]; rfl)
        intro K hK
        go_simp
        refine hK.out _ _ (hHeld) (fun hHeld => ?_)
        clear hK K
        try simp only [Act.put, List.setIfInBounds_toArray, List.set_cons_zero, List.set_cons_succ]
        refine wpAnyH_done (by kernel_rfl) ?_ _
        go_wp2_with fail
        go_meet
        case rel => exact ⟨_, _, rfl, rfl, rfl, ⟨stE_other r2 nqrqe s, stE_box e2 s, hHeld⟩⟩
    case step27r =>
      intro K hK
      go_simp
      have lqe : V4.heap.size ≤ V4.heap.size := Nat.le_refl _
      refine hK.out _ _ (grew hHeld _) (fun hHeld => ?_)
      clear hK K
      try simp only [Act.put, List.setIfInBounds_toArray, List.set_cons_zero, List.set_cons_succ]
      have qe1 : ((V4.alloc (boxE 0 0 0 0 0)).drew).heap[V4.heap.size]? = some (boxE 0 0 0 0 0) := heap_new _ _
      generalize (V4.alloc (boxE 0 0 0 0 0)).drew = w1 at *
      refine wpAnyH_ready (rs := [4, 26]) (by kernel_rfl) (by simp) ?_
      refine AllReadyH.cons (o := ?o4rc) ?hi4rc ?step4rc (AllReadyH.cons (o := ?o26rc) ?hi26rc ?step26rc AllReadyH.nil)
      case hi4rc => (simp only [List.getElem?_toArray, List.getElem?_cons_succ, List.getElem?_cons_zero]; rfl)
      case hi26rc => (simp only [List.getElem?_toArray, List.getElem?_cons_succ, List.getElem?_cons_zero]; rfl)
      case step4rc =>
        intro K hK
        go_simp
        refine (ku.out _ hHeld).mono ?_
        rintro e w2 ⟨u, rfl, hch, hb2⟩
        have hH2 : Below V4.heap.size V4 w2 := step_below1 hHeld hb2
        have qe2 := heap_below qe1 hb2 (heap_lt qe1)
        refine hK.out _ _ hH2 (fun hHeld => ?_)
        clear hK K
        try simp only [Act.put, List.setIfInBounds_toArray, List.set_cons_zero, List.set_cons_succ]
        refine wpAnyH_ready (rs := [21, 26]) (by kernel_rfl) (by simp) ?_
        refine AllReadyH.cons (o := ?o21rca) ?hi21rca ?step21rca (AllReadyH.cons (o := ?o26rca) ?hi26rca ?step26rca AllReadyH.nil)
        case hi21rca => (simp only [List.getElem?_toArray, List.getElem?_cons_succ, List.getElem?_cons_zero]; rfl)
        case hi26rca => (simp only [List.getElem?_toArray, List.getElem?_cons_succ, List.getElem?_cons_zero]; rfl)
        case step21rca =>
          intro K hK
          go_simp
          refine (kl.out _ _ hch).mono ?_
          rintro e w3 ⟨rfl, hb3⟩
          have hH3 : Below V4.heap.size V4 w3 := step_below1 hHeld hb3
          have qe3 := heap_below qe2 hb3 (heap_lt qe2)
          have hch3 := ChAt.later hch hb3
          refine hK.out _ _ hH3 (fun hHeld => ?_)
          clear hK K
          try simp only [Act.put, List.setIfInBounds_toArray, List.set_cons_zero, List.set_cons_succ]
          refine wpAnyH_take (i := 22) (oi := ?oi22rcaa) (v := ?v22rcaa) ?hi22rcaa ?hs22rcaa ?hf22rcaa ?hr22rcaa ?hQ22rcaa (Or.inl ⟨?hw22rcaa, ?hy22rcaa⟩) (by assumption) ?h22rcaa
          case hi22rcaa => (simp only [List.getElem?_toArray, List.getElem?_cons_succ, List.getElem?_cons_zero]; rfl)
          case hs22rcaa => kernel_rfl
          case hf22rcaa => kernel_rfl
          case hr22rcaa => kernel_rfl
          case hw22rcaa => rfl
          case hy22rcaa => (intro w0 hSw; clear hSw; go_simp; first | done | with_reducible rfl)
          case hQ22rcaa => exact fun _ _ _ h => h
          try simp only [Act.put, List.setIfInBounds_toArray, List.set_cons_zero, List.set_cons_succ]
          refine wpAnyH_take (i := 23) (oi := ?oi23rcaa) (v := ?v23rcaa) ?hi23rcaa ?hs23rcaa ?hf23rcaa ?hr23rcaa ?hQ23rcaa (Or.inl ⟨?hw23rcaa, ?hy23rcaa⟩) (by assumption) ?h23rcaa
          case hi23rcaa => (simp only [List.getElem?_toArray, List.getElem?_cons_succ, List.getElem?_cons_zero]; rfl)
          case hs23rcaa => kernel_rfl
          case hf23rcaa => kernel_rfl
          case hr23rcaa => kernel_rfl
          case hw23rcaa => rfl
          case hy23rcaa => (intro w0 hSw; clear hSw; go_simp; first | done | with_reducible rfl)
          case hQ23rcaa => exact fun _ _ _ h => h
          try simp only [Act.put, List.setIfInBounds_toArray, List.set_cons_zero, List.set_cons_succ]
          refine wpAnyH_take (i := 24) (oi := ?oi24rcaa) (v := ?v24rcaa) ?hi24rcaa ?hs24rcaa ?hf24rcaa ?hr24rcaa ?hQ24rcaa (Or.inl ⟨?hw24rcaa, ?hy24rcaa⟩) (by assumption) ?h24rcaa
          case hi24rcaa => (simp only [List.getElem?_toArray, List.getElem?_cons_succ, List.getElem?_cons_zero]; rfl)
          case hs24rcaa => kernel_rfl
          case hf24rcaa => kernel_rfl
          case hr24rcaa => kernel_rfl
          case hw24rcaa => rfl
          case hy24rcaa => (intro w0 hSw; clear hSw; go_simp; first | done | with_reducible rfl)
          case hQ24rcaa => exact fun _ _ _ h => h
          try simp only [Act.put, List.setIfInBounds_toArray, List.set_cons_zero, List.set_cons_succ]
          refine wpAnyH_take (i := 25) (oi := ?oi25rcaa) (v := ?v25rcaa) ?hi25rcaa ?hs25rcaa ?hf25rcaa ?hr25rcaa ?hQ25rcaa (Or.inl ⟨?hw25rcaa, ?hy25rcaa⟩) (by assumption) ?h25rcaa
          case hi25rcaa => (simp only [List.getElem?_toArray, List.getElem?_cons_succ, List.getElem?_cons_zero]; rfl)
          case hs25rcaa => kernel_rfl
          case hf25rcaa => kernel_rfl
          case hr25rcaa => kernel_rfl
          case hw25rcaa => rfl
          case hy25rcaa => (intro w0 hSw; clear hSw; go_simp; first | done | with_reducible rfl)
          case hQ25rcaa => exact fun _ _ _ h => h
          try simp only [Act.put, List.setIfInBounds_toArray, List.set_cons_zero, List.set_cons_succ]
          refine wpAnyH_ready (rs := [26]) (by kernel_rfl) (by simp) ?_
          refine AllReadyH.cons (o := ?o26rcaa) ?hi26rcaa ?step26rcaa AllReadyH.nil
          case hi26rcaa => (simp only [List.getElem?_toArray, List.getElem?_cons_succ, List.getElem?_cons_zero]; rfl)
          intro K hK
          go_simp
          have lqr : V4.heap.size ≤ w3.heap.size := hHeld.size
          refine hK.out _ _ (grew hHeld _) (fun hHeld => ?_)
          clear hK K
          try simp only [Act.put, List.setIfInBounds_toArray, List.set_cons_zero, List.set_cons_succ]
          have qr4 : (w3.alloc (.cells #[Value.int .i64 0, .int .i64 0, .int .i64 0, .int .i64 0, .int .i64 0, .int .i64 0, .int .i64 0, .int .i64 0] 94)).heap[w3.heap.size]? = some (.cells #[Value.int .i64 0, .int .i64 0, .int .i64 0, .int .i64 0, .int .i64 0, .int .i64 0, .int .i64 0, .int .i64 0] 94) := heap_new _ _
          have nqeqr : V4.heap.size ≠ w3.heap.size := by have := heap_lt qe3; omega
          have qe4 : _ := heap_below qe3 (show Below w3.heap.size w3 (w3.alloc (.cells #[Value.int .i64 0, .int .i64 0, .int .i64 0, .int .i64 0, .int .i64 0, .int .i64 0, .int .i64 0, .int .i64 0] 94)) from grew (Below.refl _ _) _) (heap_lt qe3)
          have hch4 : _ := ChAt.later hch3 (show Below w3.heap.size w3 (w3.alloc (.cells #[Value.int .i64 0, .int .i64 0, .int .i64 0, .int .i64 0, .int .i64 0, .int .i64 0, .int .i64 0, .int .i64 0] 94)) from grew (Below.refl _ _) _)
          generalize w3.alloc (.cells #[Value.int .i64 0, .int .i64 0, .int .i64 0, .int .i64 0, .int .i64 0, .int .i64 0, .int .i64 0, .int .i64 0] 94) = w4 at *
          generalize w3.heap.size = dqr at *
          have c1 := fun i => Joins.cell_of_block qr4 i
          have f1 := fun i => Joins.unfrozen_of_block qr4 i
          have r2 : (((((((((w4.setCell ⟨dqr, 0, none⟩ (.int .i64 r.k)).setCell ⟨dqr, 1, none⟩ (.int .i64 r.a)).setCell ⟨dqr, 2, none⟩ (.int .i64 r.p)).setCell ⟨dqr, 3, none⟩ (.int .i64 r.e.k)).setCell ⟨dqr, 4, none⟩ (.int .i64 r.e.j)).setCell ⟨dqr, 5, none⟩ (.int .i64 r.e.v)).setCell ⟨dqr, 6, none⟩ (.int .i64 r.e.t)).setCell ⟨dqr, 7, none⟩ (.int .i64 r.e.c))).heap[dqr]? = some (boxRc r) := stR_box qr4 r
          have e2 : (((((((((w4.setCell ⟨dqr, 0, none⟩ (.int .i64 r.k)).setCell ⟨dqr, 1, none⟩ (.int .i64 r.a)).setCell ⟨dqr, 2, none⟩ (.int .i64 r.p)).setCell ⟨dqr, 3, none⟩ (.int .i64 r.e.k)).setCell ⟨dqr, 4, none⟩ (.int .i64 r.e.j)).setCell ⟨dqr, 5, none⟩ (.int .i64 r.e.v)).setCell ⟨dqr, 6, none⟩ (.int .i64 r.e.t)).setCell ⟨dqr, 7, none⟩ (.int .i64 r.e.c))).heap[V4.heap.size]? = some (boxE 0 0 0 0 0) := stR_other qe4 nqeqr r
          refine wpAnyH_ready (rs := [28]) (by kernel_rfl) (by simp) ?_
          refine AllReadyH.cons (o := ?o28rcaax) ?hi28rcaax ?step28rcaax AllReadyH.nil
          case hi28rcaax => (simp only [List.getElem?_toArray, List.getElem?_cons_succ, List.getElem?_cons_zero]; rfl)
          intro K hK
          go_simp
          refine hK.out _ _ (stR_below hHeld lqr r) (fun hHeld => ?_)
          clear hK K
          try simp only [Act.put, List.setIfInBounds_toArray, List.set_cons_zero, List.set_cons_succ]
          have hHz : Below V4.heap.size V4 (((((((((w4.setCell ⟨dqr, 0, none⟩ (.int .i64 r.k)).setCell ⟨dqr, 1, none⟩ (.int .i64 r.a)).setCell ⟨dqr, 2, none⟩ (.int .i64 r.p)).setCell ⟨dqr, 3, none⟩ (.int .i64 r.e.k)).setCell ⟨dqr, 4, none⟩ (.int .i64 r.e.j)).setCell ⟨dqr, 5, none⟩ (.int .i64 r.e.v)).setCell ⟨dqr, 6, none⟩ (.int .i64 r.e.t)).setCell ⟨dqr, 7, none⟩ (.int .i64 r.e.c))) := hHeld
          clear hHeld
          generalize ((((((((w4.setCell ⟨dqr, 0, none⟩ (.int .i64 r.k)).setCell ⟨dqr, 1, none⟩ (.int .i64 r.a)).setCell ⟨dqr, 2, none⟩ (.int .i64 r.p)).setCell ⟨dqr, 3, none⟩ (.int .i64 r.e.k)).setCell ⟨dqr, 4, none⟩ (.int .i64 r.e.j)).setCell ⟨dqr, 5, none⟩ (.int .i64 r.e.v)).setCell ⟨dqr, 6, none⟩ (.int .i64 r.e.t)).setCell ⟨dqr, 7, none⟩ (.int .i64 r.e.c)) = wz at *
          have hHeld := hHz
          clear c1 f1
          have c2 := fun i => Joins.cell_of_block e2 i
          have f2 := fun i => Joins.unfrozen_of_block e2 i
          refine wpAnyH_ready (rs := [29]) (by kernel_rfl) (by simp) ?_
          refine AllReadyH.cons (o := ?o29rcaax) ?hi29rcaax ?step29rcaax AllReadyH.nil
          case hi29rcaax => (simp only [List.getElem?_toArray, List.getElem?_cons_succ, List.getElem?_cons_zero]; rfl)
          intro K hK
          go_simp
          refine hK.out _ _ (stE_below hHeld lqe s) (fun hHeld => ?_)
          clear hK K
          try simp only [Act.put, List.setIfInBounds_toArray, List.set_cons_zero, List.set_cons_succ]
          refine wpAnyH_ready (rs := [30]) (by kernel_rfl) (by simp) ?_
          refine AllReadyH.cons (o := ?o30rcaax) ?hi30rcaax ?step30rcaax AllReadyH.nil
          case hi30rcaax => (simp only [List.getElem?_toArray, List.getElem?_cons_succ, List.getElem?_cons_zero]; rfl)
          intro K hK
          go_simp
          refine hK.out _ _ (hHeld) (fun hHeld => ?_)
          clear hK K
          try simp only [Act.put, List.setIfInBounds_toArray, List.set_cons_zero, List.set_cons_succ]
          refine wpAnyH_done (by kernel_rfl) ?_ _
          go_wp2_with fail
          go_meet
          case rel => exact ⟨_, _, rfl, rfl, rfl, ⟨stE_other r2 nqeqr.symm s, stE_box e2 s, hHeld⟩⟩
        case step26rca =>
          intro K hK
          go_simp
          have lqr : V4.heap.size ≤ w2.heap.size := hHeld.size
          refine hK.out _ _ (grew hHeld _) (fun hHeld => ?_)
          clear hK K
          try simp only [Act.put, List.setIfInBounds_toArray, List.set_cons_zero, List.set_cons_succ]
          have qr3 : (w2.alloc (.cells #[Value.int .i64 0, .int .i64 0, .int .i64 0, .int .i64 0, .int .i64 0, .int .i64 0, .int .i64 0, .int .i64 0] 94)).heap[w2.heap.size]? = some (.cells #[Value.int .i64 0, .int .i64 0, .int .i64 0, .int .i64 0, .int .i64 0, .int .i64 0, .int .i64 0, .int .i64 0] 94) := heap_new _ _
          have nqeqr : V4.heap.size ≠ w2.heap.size := by have := heap_lt qe2; omega
          have qe3 : _ := heap_below qe2 (show Below w2.heap.size w2 (w2.alloc (.cells #[Value.int .i64 0, .int .i64 0, .int .i64 0, .int .i64 0, .int .i64 0, .int .i64 0, .int .i64 0, .int .i64 0] 94)) from grew (Below.refl _ _) _) (heap_lt qe2)
          have hch3 : _ := ChAt.later hch (show Below w2.heap.size w2 (w2.alloc (.cells #[Value.int .i64 0, .int .i64 0, .int .i64 0, .int .i64 0, .int .i64 0, .int .i64 0, .int .i64 0, .int .i64 0] 94)) from grew (Below.refl _ _) _)
          generalize w2.alloc (.cells #[Value.int .i64 0, .int .i64 0, .int .i64 0, .int .i64 0, .int .i64 0, .int .i64 0, .int .i64 0, .int .i64 0] 94) = w3 at *
          generalize w2.heap.size = dqr at *
          refine wpAnyH_ready (rs := [21]) (by kernel_rfl) (by simp) ?_
          refine AllReadyH.cons (o := ?o21rcab) ?hi21rcab ?step21rcab AllReadyH.nil
          case hi21rcab => (simp only [List.getElem?_toArray, List.getElem?_cons_succ, List.getElem?_cons_zero]; rfl)
          intro K hK
          go_simp
          refine (kl.out _ _ hch3).mono ?_
          rintro e w4 ⟨rfl, hb4⟩
          have hH4 : Below V4.heap.size V4 w4 := step_below1 hHeld hb4
          have qe4 := heap_below qe3 hb4 (heap_lt qe3)
          have hch4 := ChAt.later hch3 hb4
          have qr4 := heap_below qr3 hb4 (heap_lt qr3)
          refine hK.out _ _ hH4 (fun hHeld => ?_)
          clear hK K
          try simp only [Act.put, List.setIfInBounds_toArray, List.set_cons_zero, List.set_cons_succ]
          refine wpAnyH_take (i := 22) (oi := ?oi22rcabx) (v := ?v22rcabx) ?hi22rcabx ?hs22rcabx ?hf22rcabx ?hr22rcabx ?hQ22rcabx (Or.inl ⟨?hw22rcabx, ?hy22rcabx⟩) (by assumption) ?h22rcabx
          case hi22rcabx => (simp only [List.getElem?_toArray, List.getElem?_cons_succ, List.getElem?_cons_zero]; rfl)
          case hs22rcabx => kernel_rfl
          case hf22rcabx => kernel_rfl
          case hr22rcabx => kernel_rfl
          case hw22rcabx => rfl
          case hy22rcabx => (intro w0 hSw; clear hSw; go_simp; first | done | with_reducible rfl)
          case hQ22rcabx => exact fun _ _ _ h => h
          try simp only [Act.put, List.setIfInBounds_toArray, List.set_cons_zero, List.set_cons_succ]
          refine wpAnyH_take (i := 23) (oi := ?oi23rcabx) (v := ?v23rcabx) ?hi23rcabx ?hs23rcabx ?hf23rcabx ?hr23rcabx ?hQ23rcabx (Or.inl ⟨?hw23rcabx, ?hy23rcabx⟩) (by assumption) ?h23rcabx
          case hi23rcabx => (simp only [List.getElem?_toArray, List.getElem?_cons_succ, List.getElem?_cons_zero]; rfl)
          case hs23rcabx => kernel_rfl
          case hf23rcabx => kernel_rfl
          case hr23rcabx => kernel_rfl
          case hw23rcabx => rfl
          case hy23rcabx => (intro w0 hSw; clear hSw; go_simp; first | done | with_reducible rfl)
          case hQ23rcabx => exact fun _ _ _ h => h
          try simp only [Act.put, List.setIfInBounds_toArray, List.set_cons_zero, List.set_cons_succ]
          refine wpAnyH_take (i := 24) (oi := ?oi24rcabx) (v := ?v24rcabx) ?hi24rcabx ?hs24rcabx ?hf24rcabx ?hr24rcabx ?hQ24rcabx (Or.inl ⟨?hw24rcabx, ?hy24rcabx⟩) (by assumption) ?h24rcabx
          case hi24rcabx => (simp only [List.getElem?_toArray, List.getElem?_cons_succ, List.getElem?_cons_zero]; rfl)
          case hs24rcabx => kernel_rfl
          case hf24rcabx => kernel_rfl
          case hr24rcabx => kernel_rfl
          case hw24rcabx => rfl
          case hy24rcabx => (intro w0 hSw; clear hSw; go_simp; first | done | with_reducible rfl)
          case hQ24rcabx => exact fun _ _ _ h => h
          try simp only [Act.put, List.setIfInBounds_toArray, List.set_cons_zero, List.set_cons_succ]
          refine wpAnyH_take (i := 25) (oi := ?oi25rcabx) (v := ?v25rcabx) ?hi25rcabx ?hs25rcabx ?hf25rcabx ?hr25rcabx ?hQ25rcabx (Or.inl ⟨?hw25rcabx, ?hy25rcabx⟩) (by assumption) ?h25rcabx
          case hi25rcabx => (simp only [List.getElem?_toArray, List.getElem?_cons_succ, List.getElem?_cons_zero]; rfl)
          case hs25rcabx => kernel_rfl
          case hf25rcabx => kernel_rfl
          case hr25rcabx => kernel_rfl
          case hw25rcabx => rfl
          case hy25rcabx => (intro w0 hSw; clear hSw; go_simp; first | done | with_reducible rfl)
          case hQ25rcabx => exact fun _ _ _ h => h
          try simp only [Act.put, List.setIfInBounds_toArray, List.set_cons_zero, List.set_cons_succ]
          have c1 := fun i => Joins.cell_of_block qr4 i
          have f1 := fun i => Joins.unfrozen_of_block qr4 i
          have r2 : (((((((((w4.setCell ⟨dqr, 0, none⟩ (.int .i64 r.k)).setCell ⟨dqr, 1, none⟩ (.int .i64 r.a)).setCell ⟨dqr, 2, none⟩ (.int .i64 r.p)).setCell ⟨dqr, 3, none⟩ (.int .i64 r.e.k)).setCell ⟨dqr, 4, none⟩ (.int .i64 r.e.j)).setCell ⟨dqr, 5, none⟩ (.int .i64 r.e.v)).setCell ⟨dqr, 6, none⟩ (.int .i64 r.e.t)).setCell ⟨dqr, 7, none⟩ (.int .i64 r.e.c))).heap[dqr]? = some (boxRc r) := stR_box qr4 r
          have e2 : (((((((((w4.setCell ⟨dqr, 0, none⟩ (.int .i64 r.k)).setCell ⟨dqr, 1, none⟩ (.int .i64 r.a)).setCell ⟨dqr, 2, none⟩ (.int .i64 r.p)).setCell ⟨dqr, 3, none⟩ (.int .i64 r.e.k)).setCell ⟨dqr, 4, none⟩ (.int .i64 r.e.j)).setCell ⟨dqr, 5, none⟩ (.int .i64 r.e.v)).setCell ⟨dqr, 6, none⟩ (.int .i64 r.e.t)).setCell ⟨dqr, 7, none⟩ (.int .i64 r.e.c))).heap[V4.heap.size]? = some (boxE 0 0 0 0 0) := stR_other qe4 nqeqr r
          refine wpAnyH_ready (rs := [28]) (by kernel_rfl) (by simp) ?_
          refine AllReadyH.cons (o := ?o28rcabx) ?hi28rcabx ?step28rcabx AllReadyH.nil
          case hi28rcabx => (simp only [List.getElem?_toArray, List.getElem?_cons_succ, List.getElem?_cons_zero]; rfl)
          intro K hK
          go_simp
          refine hK.out _ _ (stR_below hHeld lqr r) (fun hHeld => ?_)
          clear hK K
          try simp only [Act.put, List.setIfInBounds_toArray, List.set_cons_zero, List.set_cons_succ]
          have hHz : Below V4.heap.size V4 (((((((((w4.setCell ⟨dqr, 0, none⟩ (.int .i64 r.k)).setCell ⟨dqr, 1, none⟩ (.int .i64 r.a)).setCell ⟨dqr, 2, none⟩ (.int .i64 r.p)).setCell ⟨dqr, 3, none⟩ (.int .i64 r.e.k)).setCell ⟨dqr, 4, none⟩ (.int .i64 r.e.j)).setCell ⟨dqr, 5, none⟩ (.int .i64 r.e.v)).setCell ⟨dqr, 6, none⟩ (.int .i64 r.e.t)).setCell ⟨dqr, 7, none⟩ (.int .i64 r.e.c))) := hHeld
          clear hHeld
          generalize ((((((((w4.setCell ⟨dqr, 0, none⟩ (.int .i64 r.k)).setCell ⟨dqr, 1, none⟩ (.int .i64 r.a)).setCell ⟨dqr, 2, none⟩ (.int .i64 r.p)).setCell ⟨dqr, 3, none⟩ (.int .i64 r.e.k)).setCell ⟨dqr, 4, none⟩ (.int .i64 r.e.j)).setCell ⟨dqr, 5, none⟩ (.int .i64 r.e.v)).setCell ⟨dqr, 6, none⟩ (.int .i64 r.e.t)).setCell ⟨dqr, 7, none⟩ (.int .i64 r.e.c)) = wz at *
          have hHeld := hHz
          clear c1 f1
          have c2 := fun i => Joins.cell_of_block e2 i
          have f2 := fun i => Joins.unfrozen_of_block e2 i
          refine wpAnyH_ready (rs := [29]) (by kernel_rfl) (by simp) ?_
          refine AllReadyH.cons (o := ?o29rcabx) ?hi29rcabx ?step29rcabx AllReadyH.nil
          case hi29rcabx => (simp only [List.getElem?_toArray, List.getElem?_cons_succ, List.getElem?_cons_zero]; rfl)
          intro K hK
          go_simp
          refine hK.out _ _ (stE_below hHeld lqe s) (fun hHeld => ?_)
          clear hK K
          try simp only [Act.put, List.setIfInBounds_toArray, List.set_cons_zero, List.set_cons_succ]
          refine wpAnyH_ready (rs := [30]) (by kernel_rfl) (by simp) ?_
          refine AllReadyH.cons (o := ?o30rcabx) ?hi30rcabx ?step30rcabx AllReadyH.nil
          case hi30rcabx => (simp only [List.getElem?_toArray, List.getElem?_cons_succ, List.getElem?_cons_zero]; rfl)
          intro K hK
          go_simp
          refine hK.out _ _ (hHeld) (fun hHeld => ?_)
          clear hK K
          try simp only [Act.put, List.setIfInBounds_toArray, List.set_cons_zero, List.set_cons_succ]
          refine wpAnyH_done (by kernel_rfl) ?_ _
          go_wp2_with fail
          go_meet
          case rel => exact ⟨_, _, rfl, rfl, rfl, ⟨stE_other r2 nqeqr.symm s, stE_box e2 s, hHeld⟩⟩
      case step26rc =>
        intro K hK
        go_simp
        have lqr : V4.heap.size ≤ w1.heap.size := hHeld.size
        refine hK.out _ _ (grew hHeld _) (fun hHeld => ?_)
        clear hK K
        try simp only [Act.put, List.setIfInBounds_toArray, List.set_cons_zero, List.set_cons_succ]
        have qr2 : (w1.alloc (.cells #[Value.int .i64 0, .int .i64 0, .int .i64 0, .int .i64 0, .int .i64 0, .int .i64 0, .int .i64 0, .int .i64 0] 94)).heap[w1.heap.size]? = some (.cells #[Value.int .i64 0, .int .i64 0, .int .i64 0, .int .i64 0, .int .i64 0, .int .i64 0, .int .i64 0, .int .i64 0] 94) := heap_new _ _
        have nqeqr : V4.heap.size ≠ w1.heap.size := by have := heap_lt qe1; omega
        have qe2 : _ := heap_below qe1 (show Below w1.heap.size w1 (w1.alloc (.cells #[Value.int .i64 0, .int .i64 0, .int .i64 0, .int .i64 0, .int .i64 0, .int .i64 0, .int .i64 0, .int .i64 0] 94)) from grew (Below.refl _ _) _) (heap_lt qe1)
        generalize w1.alloc (.cells #[Value.int .i64 0, .int .i64 0, .int .i64 0, .int .i64 0, .int .i64 0, .int .i64 0, .int .i64 0, .int .i64 0] 94) = w2 at *
        generalize w1.heap.size = dqr at *
        refine wpAnyH_ready (rs := [4]) (by kernel_rfl) (by simp) ?_
        refine AllReadyH.cons (o := ?o4rcb) ?hi4rcb ?step4rcb AllReadyH.nil
        case hi4rcb => (simp only [List.getElem?_toArray, List.getElem?_cons_succ, List.getElem?_cons_zero]; rfl)
        intro K hK
        go_simp
        refine (ku.out _ hHeld).mono ?_
        rintro e w3 ⟨u, rfl, hch, hb3⟩
        have hH3 : Below V4.heap.size V4 w3 := step_below1 hHeld hb3
        have qe3 := heap_below qe2 hb3 (heap_lt qe2)
        have qr3 := heap_below qr2 hb3 (heap_lt qr2)
        refine hK.out _ _ hH3 (fun hHeld => ?_)
        clear hK K
        try simp only [Act.put, List.setIfInBounds_toArray, List.set_cons_zero, List.set_cons_succ]
        refine wpAnyH_ready (rs := [21]) (by kernel_rfl) (by simp) ?_
        refine AllReadyH.cons (o := ?o21rcbx) ?hi21rcbx ?step21rcbx AllReadyH.nil
        case hi21rcbx => (simp only [List.getElem?_toArray, List.getElem?_cons_succ, List.getElem?_cons_zero]; rfl)
        intro K hK
        go_simp
        refine (kl.out _ _ hch).mono ?_
        rintro e w4 ⟨rfl, hb4⟩
        have hH4 : Below V4.heap.size V4 w4 := step_below1 hHeld hb4
        have qe4 := heap_below qe3 hb4 (heap_lt qe3)
        have qr4 := heap_below qr3 hb4 (heap_lt qr3)
        have hch4 := ChAt.later hch hb4
        refine hK.out _ _ hH4 (fun hHeld => ?_)
        clear hK K
        try simp only [Act.put, List.setIfInBounds_toArray, List.set_cons_zero, List.set_cons_succ]
        refine wpAnyH_take (i := 22) (oi := ?oi22rcbxx) (v := ?v22rcbxx) ?hi22rcbxx ?hs22rcbxx ?hf22rcbxx ?hr22rcbxx ?hQ22rcbxx (Or.inl ⟨?hw22rcbxx, ?hy22rcbxx⟩) (by assumption) ?h22rcbxx
        case hi22rcbxx => (simp only [List.getElem?_toArray, List.getElem?_cons_succ, List.getElem?_cons_zero]; rfl)
        case hs22rcbxx => kernel_rfl
        case hf22rcbxx => kernel_rfl
        case hr22rcbxx => kernel_rfl
        case hw22rcbxx => rfl
        case hy22rcbxx => (intro w0 hSw; clear hSw; go_simp; first | done | with_reducible rfl)
        case hQ22rcbxx => exact fun _ _ _ h => h
        try simp only [Act.put, List.setIfInBounds_toArray, List.set_cons_zero, List.set_cons_succ]
        refine wpAnyH_take (i := 23) (oi := ?oi23rcbxx) (v := ?v23rcbxx) ?hi23rcbxx ?hs23rcbxx ?hf23rcbxx ?hr23rcbxx ?hQ23rcbxx (Or.inl ⟨?hw23rcbxx, ?hy23rcbxx⟩) (by assumption) ?h23rcbxx
        case hi23rcbxx => (simp only [List.getElem?_toArray, List.getElem?_cons_succ, List.getElem?_cons_zero]; rfl)
        case hs23rcbxx => kernel_rfl
        case hf23rcbxx => kernel_rfl
        case hr23rcbxx => kernel_rfl
        case hw23rcbxx => rfl
        case hy23rcbxx => (intro w0 hSw; clear hSw; go_simp; first | done | with_reducible rfl)
        case hQ23rcbxx => exact fun _ _ _ h => h
        try simp only [Act.put, List.setIfInBounds_toArray, List.set_cons_zero, List.set_cons_succ]
        refine wpAnyH_take (i := 24) (oi := ?oi24rcbxx) (v := ?v24rcbxx) ?hi24rcbxx ?hs24rcbxx ?hf24rcbxx ?hr24rcbxx ?hQ24rcbxx (Or.inl ⟨?hw24rcbxx, ?hy24rcbxx⟩) (by assumption) ?h24rcbxx
        case hi24rcbxx => (simp only [List.getElem?_toArray, List.getElem?_cons_succ, List.getElem?_cons_zero]; rfl)
        case hs24rcbxx => kernel_rfl
        case hf24rcbxx => kernel_rfl
        case hr24rcbxx => kernel_rfl
        case hw24rcbxx => rfl
        case hy24rcbxx => (intro w0 hSw; clear hSw; go_simp; first | done | with_reducible rfl)
        case hQ24rcbxx => exact fun _ _ _ h => h
        try simp only [Act.put, List.setIfInBounds_toArray, List.set_cons_zero, List.set_cons_succ]
        refine wpAnyH_take (i := 25) (oi := ?oi25rcbxx) (v := ?v25rcbxx) ?hi25rcbxx ?hs25rcbxx ?hf25rcbxx ?hr25rcbxx ?hQ25rcbxx (Or.inl ⟨?hw25rcbxx, ?hy25rcbxx⟩) (by assumption) ?h25rcbxx
        case hi25rcbxx => (simp only [List.getElem?_toArray, List.getElem?_cons_succ, List.getElem?_cons_zero]; rfl)
        case hs25rcbxx => kernel_rfl
        case hf25rcbxx => kernel_rfl
        case hr25rcbxx => kernel_rfl
        case hw25rcbxx => rfl
        case hy25rcbxx => (intro w0 hSw; clear hSw; go_simp; first | done | with_reducible rfl)
        case hQ25rcbxx => exact fun _ _ _ h => h
        try simp only [Act.put, List.setIfInBounds_toArray, List.set_cons_zero, List.set_cons_succ]
        have c1 := fun i => Joins.cell_of_block qr4 i
        have f1 := fun i => Joins.unfrozen_of_block qr4 i
        have r2 : (((((((((w4.setCell ⟨dqr, 0, none⟩ (.int .i64 r.k)).setCell ⟨dqr, 1, none⟩ (.int .i64 r.a)).setCell ⟨dqr, 2, none⟩ (.int .i64 r.p)).setCell ⟨dqr, 3, none⟩ (.int .i64 r.e.k)).setCell ⟨dqr, 4, none⟩ (.int .i64 r.e.j)).setCell ⟨dqr, 5, none⟩ (.int .i64 r.e.v)).setCell ⟨dqr, 6, none⟩ (.int .i64 r.e.t)).setCell ⟨dqr, 7, none⟩ (.int .i64 r.e.c))).heap[dqr]? = some (boxRc r) := stR_box qr4 r
        have e2 : (((((((((w4.setCell ⟨dqr, 0, none⟩ (.int .i64 r.k)).setCell ⟨dqr, 1, none⟩ (.int .i64 r.a)).setCell ⟨dqr, 2, none⟩ (.int .i64 r.p)).setCell ⟨dqr, 3, none⟩ (.int .i64 r.e.k)).setCell ⟨dqr, 4, none⟩ (.int .i64 r.e.j)).setCell ⟨dqr, 5, none⟩ (.int .i64 r.e.v)).setCell ⟨dqr, 6, none⟩ (.int .i64 r.e.t)).setCell ⟨dqr, 7, none⟩ (.int .i64 r.e.c))).heap[V4.heap.size]? = some (boxE 0 0 0 0 0) := stR_other qe4 nqeqr r
        refine wpAnyH_ready (rs := [28]) (by kernel_rfl) (by simp) ?_
        refine AllReadyH.cons (o := ?o28rcbxx) ?hi28rcbxx ?step28rcbxx AllReadyH.nil
        case hi28rcbxx => (simp only [List.getElem?_toArray, List.getElem?_cons_succ, List.getElem?_cons_zero]; rfl)
        intro K hK
        go_simp
        refine hK.out _ _ (stR_below hHeld lqr r) (fun hHeld => ?_)
        clear hK K
        try simp only [Act.put, List.setIfInBounds_toArray, List.set_cons_zero, List.set_cons_succ]
        have hHz : Below V4.heap.size V4 (((((((((w4.setCell ⟨dqr, 0, none⟩ (.int .i64 r.k)).setCell ⟨dqr, 1, none⟩ (.int .i64 r.a)).setCell ⟨dqr, 2, none⟩ (.int .i64 r.p)).setCell ⟨dqr, 3, none⟩ (.int .i64 r.e.k)).setCell ⟨dqr, 4, none⟩ (.int .i64 r.e.j)).setCell ⟨dqr, 5, none⟩ (.int .i64 r.e.v)).setCell ⟨dqr, 6, none⟩ (.int .i64 r.e.t)).setCell ⟨dqr, 7, none⟩ (.int .i64 r.e.c))) := hHeld
        clear hHeld
        generalize ((((((((w4.setCell ⟨dqr, 0, none⟩ (.int .i64 r.k)).setCell ⟨dqr, 1, none⟩ (.int .i64 r.a)).setCell ⟨dqr, 2, none⟩ (.int .i64 r.p)).setCell ⟨dqr, 3, none⟩ (.int .i64 r.e.k)).setCell ⟨dqr, 4, none⟩ (.int .i64 r.e.j)).setCell ⟨dqr, 5, none⟩ (.int .i64 r.e.v)).setCell ⟨dqr, 6, none⟩ (.int .i64 r.e.t)).setCell ⟨dqr, 7, none⟩ (.int .i64 r.e.c)) = wz at *
        have hHeld := hHz
        clear c1 f1
        have c2 := fun i => Joins.cell_of_block e2 i
        have f2 := fun i => Joins.unfrozen_of_block e2 i
        refine wpAnyH_ready (rs := [29]) (by kernel_rfl) (by simp) ?_
        refine AllReadyH.cons (o := ?o29rcbxx) ?hi29rcbxx ?step29rcbxx AllReadyH.nil
        case hi29rcbxx => (simp only [List.getElem?_toArray, List.getElem?_cons_succ, List.getElem?_cons_zero]; rfl)
        intro K hK
        go_simp
        refine hK.out _ _ (stE_below hHeld lqe s) (fun hHeld => ?_)
        clear hK K
        try simp only [Act.put, List.setIfInBounds_toArray, List.set_cons_zero, List.set_cons_succ]
        refine wpAnyH_ready (rs := [30]) (by kernel_rfl) (by simp) ?_
        refine AllReadyH.cons (o := ?o30rcbxx) ?hi30rcbxx ?step30rcbxx AllReadyH.nil
        case hi30rcbxx => (simp only [List.getElem?_toArray, List.getElem?_cons_succ, List.getElem?_cons_zero]; rfl)
        intro K hK
        go_simp
        refine hK.out _ _ (hHeld) (fun hHeld => ?_)
        clear hK K
        try simp only [Act.put, List.setIfInBounds_toArray, List.set_cons_zero, List.set_cons_succ]
        refine wpAnyH_done (by kernel_rfl) ?_ _
        go_wp2_with fail
        go_meet
        case rel => exact ⟨_, _, rfl, rfl, rfl, ⟨stE_other r2 nqeqr.symm s, stE_box e2 s, hHeld⟩⟩
  case rest =>
    obtain ⟨rb, sb, rfl, rfl, rfl, hK⟩ := hcut
    have HI5 : Aside (WIn X wc B g1 g2 xs W.tip cs W.t) := HI4.out.later hK.below
    have HX5 : Aside (wc.heap[w.heap.size]? = some (boxH ⟨xk, (k : Int), xn, xj, xp, xe⟩)) := heap_below HX4.out hK.below (heap_lt HX4.out)
    have HB5 : Aside (Below w.heap.size w wc) := HB4.out.trans (hK.below.mono HB4.out.size)
    have HR5 : Aside (wc.heap[rb]? = some (boxRc r)) := hK.rbox
    have HS5 : Aside (wc.heap[sb]? = some (boxE s.k s.j s.v s.t s.c)) := hK.sbox
    clear hK HI4 HX4 HB4 ku kl
    generalize wc = w5 at *
    have zh : ∀ i, w5.cell? ⟨w.heap.size, i, none⟩ = #[Value.int .i64 xk, .int .i64 (k : Int), .int .i64 xn, .int .i64 xj, .int .i64 xp, .int .i64 xe.k, .int .i64 xe.j, .int .i64 xe.v, .int .i64 xe.t, .int .i64 xe.c][i]? := fun i => Joins.cell_of_block HX5.out i
    have zr : ∀ i, w5.cell? ⟨rb, i, none⟩ = #[Value.int .i64 r.k, .int .i64 r.a, .int .i64 r.p, .int .i64 r.e.k, .int .i64 r.e.j, .int .i64 r.e.v, .int .i64 r.e.t, .int .i64 r.e.c][i]? := fun i => Joins.cell_of_block HR5.out i
    have hLd := HLd.out.later HB5.out
    rcases HC.out with ⟨h0, h1⟩ | ⟨h0, HC1⟩
    · have hz : (d != 0) = true := by rw [bne_iff_ne]; exact h0
      subst h1
      clear h0 HC zh zr hLd
      go_wp2
      go_ret
      exact ⟨rfl, xs, cs, HI5.out, HE.out.1, HE.out.2⟩
    · have hz : (d != 0) = false := by rw [h0]; rfl
      clear h0 HC
      rcases HC1 with ⟨h15, h1⟩ | ⟨h15, HC2⟩
      · have hb15 : (xk == 15) = true := by rw [h15]; rfl
        subst h1
        have kt := w_tear hLd (HI5.out.nat HX.out) HFT.out.1 HFT.out.2 HRK.out xn
        clear h15 hLd
        go_wp2_with fail
        refine kt.mono ?_
        rintro e w6 ⟨rfl, hp⟩
        have HF : Aside _ := has_on3 HI5.out HE.out.1 HE.out.2 HX.out hp (HTR.out xn).1 (HTR.out xn).2 tear_err
        clear hp kt zh zr
        go_wp2
        go_ret
        exact ⟨by rw [onN_snd]; rfl, HF.out⟩
      · have hb15 : (xk == 15) = false := by rw [beq_eq_false_iff_ne]; exact h15
        rcases HC2 with ⟨h5, h1⟩ | ⟨h5, h1⟩
        · have hb5 : (xk == 5) = true := by rw [h5]; rfl
          subst h1
          have kt := w_writeAny hLd (HI5.out.nat HX.out) HFT.out.1 HFT.out.2 HRK.out
          clear h15 h5 hLd
          go_wp2_with fail
          refine kt.mono ?_
          rintro e w6 ⟨rfl, hp⟩
          have HF : Aside _ := has_on4 HI5.out HE.out.1 HE.out.2 HX.out hp HSX.out.1 HSX.out.2 writeAny_err
          clear hp kt zh zr
          go_wp2
          go_ret
          exact ⟨by rw [onN_snd]; rfl, HF.out⟩
        · have hb5 : (xk == 5) = false := by rw [beq_eq_false_iff_ne]; exact h5
          have kt := w_hear hLd HI5.out HE.out.1 HE.out.2 k j (⟨cp, cd, ce, ca, (j : Int), cn, js, rs⟩ : Cl) a1 a2 m1 k1 m2 k2 HY.out HX.out rfl HFT.out.1 HFT.out.2 r HRK.out s HSX.out
          rw [← h1] at kt
          have zs : ∀ i, w5.cell? ⟨sb, i, none⟩ = #[Value.int .i64 s.k, .int .i64 s.j, .int .i64 s.v, .int .i64 s.t, .int .i64 s.c][i]? := fun i => Joins.cell_of_block HS5.out i
          clear h15 h5 hLd h1
          go_wp2_with fail
          refine kt.mono ?_
          rintro e w6 ⟨rfl, hp⟩
          have HF : Aside _ := hp
          clear hp kt zh zr zs
          go_wp2
          go_ret
          exact ⟨rfl, HF.out⟩
set_option linter.unusedSimpArgs false in
set_option maxHeartbeats 4000000 in
set_option maxRecDepth 100000 in
theorem w_atLink_who {X w : World} {B g1 g2 : Nat} {W : Wd} (h : WHas X w B g1 g2 W) (x : Hp) (g : ¬ (0 ≤ x.c ∧ x.c ≤ 2)) : AnsW 74 #[.pointer (some ⟨B, 0, none⟩), x.val] X w B g1 g2 (W, 5) := by
  have H := h
  obtain ⟨xs, cs, hI, hn, hc⟩ := h
  have hbA : Below w.heap.size w (w.alloc (boxH x)) := grew (Below.refl _ _) _
  have hcl := w_isClient (hI.later hbA).st x.c
  rw [decide_eq_false g] at hcl
  have HX0 : Aside ((w.alloc (boxH x)).heap[w.heap.size]? = some (boxH x)) := heap_new _ _
  have HH : Aside (WHas X (w.alloc (boxH x)) B g1 g2 W) := H.later hbA
  clear hI hn hc g hbA H
  go_enter Tryz.func74, Tryz.ntmps74
  go_upto_region 1 with fail
  generalize w.alloc (boxH x) = w1 at *
  have zh : ∀ i, w1.cell? ⟨w.heap.size, i, none⟩ = #[Value.int .i64 x.k, .int .i64 x.c, .int .i64 x.n, .int .i64 x.j, .int .i64 x.p, .int .i64 x.e.k, .int .i64 x.e.j, .int .i64 x.e.v, .int .i64 x.e.t, .int .i64 x.e.c][i]? := fun i => Joins.cell_of_block HX0.out i
  go_wp2_with fail
  refine hcl.mono ?_
  rintro e wx ⟨rfl, hwx⟩
  obtain rfl : w1 = wx := hwx.symm
  clear hcl zh
  go_wp2
  go_ret
  exact ⟨rfl, HH.out⟩
/-- Package world's atLink. -/
theorem w_atLink {X w : World} {B g1 g2 : Nat} {W : Wd} (hL : Laid w) (hW : RW W) (h : WHas X w B g1 g2 W) (x : Hp) : AnsW 74 #[.pointer (some ⟨B, 0, none⟩), x.val] X w B g1 g2 (atLink W x) := by
  unfold atLink
  by_cases g : 0 ≤ x.c ∧ x.c ≤ 2
  · rw [if_neg (not_not_intro g)]
    obtain ⟨xs, cs, hI, hn, hc⟩ := h
    obtain ⟨xk, xc, xn, xj, xp, xe⟩ := x
    simp only at g ⊢
    obtain ⟨k, rfl⟩ : ∃ k : Nat, xc = k := ⟨xc.toNat, by omega⟩
    obtain ⟨y, hy⟩ : ∃ y, cs[k]? = some y := ⟨cs[k]'(by have := hI.three'; omega), List.getElem?_eq_getElem _⟩
    have hck := hW.cck g
    rw [wd_cl hc hy] at hck ⊢
    obtain ⟨⟨cp, cd, ce, ca, cl, cn, js, rs⟩, v1, v2⟩ := y
    obtain ⟨a1, k1, a2, k2, e1, e2⟩ := bk_slices (hI.st.clients _ (List.mem_of_getElem? hy)).1.1 (hI.st.clients _ (List.mem_of_getElem? hy)).1.2
    simp only at e1 e2 hck ⊢
    subst e1 e2
    have hl := (Cl.good (Cl.ck_zero.1 hck).1).2.2.2.1
    simp only at hl
    obtain ⟨j, rfl⟩ : ∃ j : Nat, cl = j := ⟨cl.toNat, by omega⟩
    obtain ⟨x, hx⟩ : ∃ x, xs[j]? = some x := ⟨xs[j]'(by have := hI.three; omega), List.getElem?_eq_getElem _⟩
    rw [wd_nd hn hx]
    by_cases hd : cd = 2
    · have hdb : (cd != 2) = false := by rw [hd]; rfl
      cases hup : x.n.up with
      | false =>
        rw [if_pos (Or.inr rfl)]
        exact w_atLink_down hI hn hc k j (by omega) (by omega) cp cd ce ca cn js rs a1 a2 _ k1 _ k2 hy xk xn xj xp xe hx hdb hup
      | true =>
        rw [if_neg (by rw [hd]; simp)]
        exact w_atLink_go hI hn hc k j (by omega) (by omega) cp cd ce ca cn js rs a1 a2 _ k1 _ k2 hy xk xn xj xp xe hx hL hW hdb hup
    · rw [if_pos (Or.inl hd)]
      exact w_atLink_idle hI hn hc k j (by omega) (by omega) cp cd ce ca cn js rs a1 a2 _ k1 _ k2 hy xk xn xj xp xe hx (by rw [bne_iff_ne]; exact hd)
  · rw [if_pos g]
    exact w_atLink_who h x g
end Go.Proofs.YtmoaobfmopimlafGreatDoor
