/- For the law. -/
import Derived.Test.YtmoaobfmopimlafGreatDoorM56
set_option linter.unusedSimpArgs false
set_option linter.unusedVariables false
namespace Go.Proofs.YtmoaobfmopimlafGreatDoor
open Go.RowKit
theorem local_post {w w1 w2 : World} {d : Nat} {x : Nb} {n' : Nd} (hp : Post st4 w1 w2 d 0 x n') (hx : w1.heap[d]? = some (boxNb x)) (hxt : NodeT w1 x) (hB : Below w.heap.size w w1) (hd : w.heap.size ≤ d) (h60 : n'.u.cells.length = 60) (hup : n'.up = x.n.up) :
  ∃ y : Nb, y.n = n' ∧ w2.heap[d]? = some (boxNb y) ∧ NodeT w2 y ∧ Below w.heap.size w w2 := by
 obtain ⟨wq, hb, hc⟩ := hp
 rcases hc with ⟨rfl, rfl⟩ | ⟨y, hy, rfl, rfl⟩
 ·exact ⟨x, rfl, heap_below hx hb (heap_lt hx), hxt.later hb, step_below1 hB hb⟩
 ·have h0 : wq.heap[d]? = some (boxNb x) := heap_below hx hb (heap_lt hx)
  obtain ⟨a1, m1, k1, e1⟩ := roomy_sl hy.unit.room
  obtain ⟨a2, m2, k2, e2⟩ := roomy_sl hy.disk.room1
  obtain ⟨a3, m3, k3, e3⟩ := roomy_sl hy.disk.room2
  obtain ⟨b1, p1, q1, f1⟩ := roomy_sl hxt.unit.room
  obtain ⟨b2, p2, q2, f2⟩ := roomy_sl hxt.disk.room1
  obtain ⟨b3, p3, q3, f3⟩ := roomy_sl hxt.disk.room2
  have g0 := Joins.block_setCell h0 (i := 0) (.int .i64 y.n.u.p)
  have g1 := Joins.block_setCell g0 (i := 1) y.vc
  have g2 := Joins.block_setCell g1 (i := 2) y.vs
  have g3 := Joins.block_setCell g2 (i := 3) y.vw
  simp only [List.setIfInBounds_toArray, List.set_cons_zero, List.set_cons_succ] at g0 g1 g2 g3
  have nb : ∀ (A : List Value), (∀ v, v ∈ A → (∃ a n c, v = .slice a n c) ∨ (∃ q, v = .int .i64 q) ∨ ∃ b, v = .bool b) → ∀ q : Int, Value.int .u8 q ∉ A.toArray.toList := fun A hA q hq => by
   rcases hA _ (by simpa using hq) with ⟨_, _, _, h⟩ | ⟨_, h⟩ | ⟨_, h⟩ <;> cases h
  have R0 : NodeR wq y := ⟨hy, h60⟩
  have R1 := node_off R0 h0 (by simp) (nb _ (by simp [f1, f2, f3])) 0 (.int .i64 y.n.u.p)
  have R2 := node_off R1 g0 (by simp) (nb _ (by simp [f1, f2, f3])) 1 y.vc
  have R3 := node_off R2 g1 (by simp) (nb _ (by simp [e1, f2, f3])) 2 y.vs
  have R4 := node_off R3 g2 (by simp) (nb _ (by simp [e1, e2, f3])) 3 y.vw
  refine ⟨y, rfl, ?_, R4.1, ?_⟩
  ·have : (boxNb y) = .cells #[.int .i64 y.n.u.p, y.vc, y.vs, y.vw, .bool x.n.up] 49 := by rw [← hup]
   rw [this]
   exact g3
  ·exact ((((step_below1 hB hb).setCell (p := ⟨d, 0, none⟩) hd _).setCell (p := ⟨d, 0 + 1, none⟩) hd _).setCell (p := ⟨d, 0 + 2, none⟩) hd _).setCell (p := ⟨d, 0 + 3, none⟩) hd _
theorem post_below {w w1 w2 : World} {d : Nat} {x : Nb} {n' : Nd} (hp : Post st4 w1 w2 d 0 x n') (hB : Below w.heap.size w w1) (hd : w.heap.size ≤ d) : Below w.heap.size w w2 := by
 obtain ⟨wq, hb, hc⟩ := hp
 rcases hc with ⟨rfl, _⟩ | ⟨y, _, _, rfl⟩
 ·exact step_below1 hB hb
 ·exact ((((step_below1 hB hb).setCell (p := ⟨d, 0, none⟩) hd _).setCell (p := ⟨d, 0 + 1, none⟩) hd _).setCell (p := ⟨d, 0 + 2, none⟩) hd _).setCell (p := ⟨d, 0 + 3, none⟩) hd _
theorem post_other {w1 w2 : World} {d q : Nat} {x : Nb} {n' : Nd} {ob : Obj} (hp : Post st4 w1 w2 d 0 x n') (h : w1.heap[q]? = some ob) (hne : q ≠ d) : w2.heap[q]? = some ob := by
 obtain ⟨wq, hb, hc⟩ := hp
 have h0 := heap_below h hb (heap_lt h)
 rcases hc with ⟨rfl, _⟩ | ⟨y, _, _, rfl⟩
 ·exact h0
 ·exact other_block (other_block (other_block (other_block h0 hne _ _) hne _ _) hne _ _) hne _ _
theorem has_both {X w : World} {B g1 g2 : Nat} {W : Wd} {xs : List Nb} {cs : List Cb} (hI : WIn X w B g1 g2 xs W.tip cs W.t) (hn : nodesOf xs = W.ns) (hc : clientsOf cs = W.cs) {j k : Nat} {x : Nb} (hx : xs[j]? = some x) {c : Cb} (hy : cs[k]? = some c) {y : Nb} (hyn : NodeT w y) (h60 : y.n.u.cells.length = 60) {z : Cb} (hz : ClientR w z) :
  WHas X (stC (st5 w g1 (j * 5) y) g2 (k * 12) z) B g1 g2 ((W.putN (j : Int) y.n).putC (k : Int) z.c) := by
 obtain ⟨s1, s2, s3⟩ := (⟨roomy_sl hyn.unit.room, roomy_sl hyn.disk.room1, roomy_sl hyn.disk.room2⟩ : _ ∧ _ ∧ _)
 have h0 := (hI.st.with ⟨hyn, h60⟩).more (L' := y :: xs) (M' := z :: cs) (fun q hq => (List.mem_cons.1 hq).elim (fun e => e ▸ ⟨hyn, h60⟩) (hI.st.nodes q)) (fun q hq => (List.mem_cons.1 hq).elim (fun e => e ▸ hz) (hI.st.clients q))
 have Hs := ((((h0.setN (j * 5 + 0) (int_nob y.n.u.p)).setN (j * 5 + 1) (slice_nob s1)).setN (j * 5 + 2) (slice_nob s2)).setN (j * 5 + 3) (slice_nob s3)).setN (j * 5 + 4) (bool_nob y.n.up)
 rw [nput5 hx y] at Hs
 have hz2 : ClientR (st5 w g1 (j * 5) y) z := Hs.clients z (List.mem_cons_self ..)
 have hI2 : WIn X (st5 w g1 (j * 5) y) B g1 g2 (xs.set j y) W.tip cs W.t := ⟨Hs.more (fun q hq => Hs.nodes q (mem_set hq)) (fun q hq => Hs.clients q (List.mem_cons_of_mem _ hq)), by rw [List.length_set]; exact hI.three, hI.three'⟩
 refine has_putC (W := W.putN (j : Int) y.n) hI2 ?_ hc hy hz2
 rw [nodes_set, hn]
 show W.ns.set j y.n = W.ns.set (j : Int).toNat y.n
 rw [Int.toNat_natCast]
set_option maxHeartbeats 8000000 in
set_option maxRecDepth 100000 in
theorem w_hear_at {X w : World} {B g1 g2 : Nat} {W : Wd} {xs : List Nb} {cs : List Cb} (hL : Laid w) (hI : WIn X w B g1 g2 xs W.tip cs W.t) (hn : nodesOf xs = W.ns) (hc : clientsOf cs = W.cs) (k j : Nat) (c : Cl) (u : Un) (sf wt : List UInt8) (up : Bool)
  (a1 a2 a3 a4 a5 : Option Addr) (m1 k1 m2 k2 m3 k3 m4 k4 m5 k5 : Nat) (hy : cs[k]? = some ⟨c, .slice a1 m1 k1, .slice a2 m2 k2⟩) (hx : xs[j]? = some ⟨⟨u, sf, wt, up⟩, .slice a3 m3 k3, .slice a4 m4 k4, .slice a5 m5 k5⟩) (hcl : c.l = (j : Int)) (hn1 : sf.length ≤ topLen) (hn2 : wt.length ≤ topLen) (r : Rc) (hr : r = Rc.zero ∨ r.k = 1) (s : En)
  (hok : ((⟨u, sf, wt, up⟩ : Nd).writeAny r).2 = 0 → ((⟨u, sf, wt, up⟩ : Nd).writeAny r).1.u.cells.length = 60 ∧ ((⟨u, sf, wt, up⟩ : Nd).writeAny r).1.up = up) :
  AnsW 109 #[.pointer (some ⟨g2, k * 12, none⟩), .pointer (some ⟨g1, j * 5, none⟩), r.val, s.val] X w B g1 g2 (hearAt W (k : Int) c (⟨u, sf, wt, up⟩ : Nd) r s) := by
 obtain ⟨⟨n', d1⟩, q1⟩ : ∃ q, (⟨u, sf, wt, up⟩ : Nd).writeAny r = q := ⟨_, rfl⟩
 obtain ⟨⟨R, d2⟩, q2⟩ : ∃ q, hearOf c s = q := ⟨_, rfl⟩
 rw [q1] at hok
 simp only at hok
 have hb3 : Below w.heap.size w (((w.alloc (boxRc r)).alloc (boxE s.k s.j s.v s.t s.c)).alloc (boxNb ⟨⟨u, sf, wt, up⟩, .slice a3 m3 k3, .slice a4 m4 k4, .slice a5 m5 k5⟩)) := grew (grew (grew (Below.refl _ _) _) _) _
 have hxt := hI.st.nodes _ (List.mem_of_getElem? hx)
 have HD : Aside ((((w.alloc (boxRc r)).alloc (boxE s.k s.j s.v s.t s.c)).alloc (boxNb ⟨⟨u, sf, wt, up⟩, .slice a3 m3 k3, .slice a4 m4 k4, .slice a5 m5 k5⟩)).heap[w.heap.size + 1 + 1]? = some (boxNb ⟨⟨u, sf, wt, up⟩, .slice a3 m3 k3, .slice a4 m4 k4, .slice a5 m5 k5⟩)) := by
  have := heap_new ((w.alloc (boxRc r)).alloc (boxE s.k s.j s.v s.t s.c)) (boxNb ⟨⟨u, sf, wt, up⟩, .slice a3 m3 k3, .slice a4 m4 k4, .slice a5 m5 k5⟩)
  rwa [World.size_alloc, World.size_alloc] at this
 have HR0 : Aside ((((w.alloc (boxRc r)).alloc (boxE s.k s.j s.v s.t s.c)).alloc (boxNb ⟨⟨u, sf, wt, up⟩, .slice a3 m3 k3, .slice a4 m4 k4, .slice a5 m5 k5⟩)).heap[w.heap.size]? = some (boxRc r)) := heap_old (heap_old (heap_new _ _) _) _
 have HS0 : Aside ((((w.alloc (boxRc r)).alloc (boxE s.k s.j s.v s.t s.c)).alloc (boxNb ⟨⟨u, sf, wt, up⟩, .slice a3 m3 k3, .slice a4 m4 k4, .slice a5 m5 k5⟩)).heap[w.heap.size + 1]? = some (boxE s.k s.j s.v s.t s.c)) := by
  have := heap_new (w.alloc (boxRc r)) (boxE s.k s.j s.v s.t s.c)
  rw [World.size_alloc] at this
  exact heap_old this _
 have hxw : NodeT (((w.alloc (boxRc r)).alloc (boxE s.k s.j s.v s.t s.c)).alloc (boxNb ⟨⟨u, sf, wt, up⟩, .slice a3 m3 k3, .slice a4 m4 k4, .slice a5 m5 k5⟩)) ⟨⟨u, sf, wt, up⟩, .slice a3 m3 k3, .slice a4 m4 k4, .slice a5 m5 k5⟩ := hxt.1.later hb3
 have kw := w_writeAny (w := (((w.alloc (boxRc r)).alloc (boxE s.k s.j s.v s.t s.c)).alloc (boxNb ⟨⟨u, sf, wt, up⟩, .slice a3 m3 k3, .slice a4 m4 k4, .slice a5 m5 k5⟩))) (g := w.heap.size + 1 + 1) (o := 0) (NC := Nb.cells ⟨⟨u, sf, wt, up⟩, .slice a3 m3 k3, .slice a4 m4 k4, .slice a5 m5 k5⟩) (x := ⟨⟨u, sf, wt, up⟩, .slice a3 m3 k3, .slice a4 m4 k4, .slice a5 m5 k5⟩) (hL.later hb3) ⟨HD.out, fun i v hv => by rw [Nat.zero_add]; exact hv, hxw⟩ hn1 hn2 hr
 simp only at kw
 rw [q1] at kw
 have KH : Aside (∀ V, Below w.heap.size w V → AnsT 136 #[c.val (.slice a1 m1 k1) (.slice a2 m2 k2), s.val] V (R, d2)) := fun V hV => by
  have := cl_heard c s (.slice a1 m1 k1) (.slice a2 m2 k2) V (bkAt_later (hI.st.clients _ (List.mem_of_getElem? hy)).1 hV)
  rwa [q2] at this
 have HXW : Aside (NodeT (((w.alloc (boxRc r)).alloc (boxE s.k s.j s.v s.t s.c)).alloc (boxNb ⟨⟨u, sf, wt, up⟩, .slice a3 m3 k3, .slice a4 m4 k4, .slice a5 m5 k5⟩)) ⟨⟨u, sf, wt, up⟩, .slice a3 m3 k3, .slice a4 m4 k4, .slice a5 m5 k5⟩) := hxw
 have HI0 : Aside (WIn X w B g1 g2 xs W.tip cs W.t) := hI
 have HE : Aside (nodesOf xs = W.ns ∧ clientsOf cs = W.cs) := ⟨hn, hc⟩
 have HY : Aside (cs[k]? = some ⟨c, .slice a1 m1 k1, .slice a2 m2 k2⟩) := hy
 have HX : Aside (xs[j]? = some ⟨⟨u, sf, wt, up⟩, .slice a3 m3 k3, .slice a4 m4 k4, .slice a5 m5 k5⟩) := hx
 have HB3 : Aside (Below w.heap.size w (((w.alloc (boxRc r)).alloc (boxE s.k s.j s.v s.t s.c)).alloc (boxNb ⟨⟨u, sf, wt, up⟩, .slice a3 m3 k3, .slice a4 m4 k4, .slice a5 m5 k5⟩))) := hb3
 have HOK : Aside (d1 = 0 → n'.u.cells.length = 60 ∧ n'.up = up) := hok
 obtain ⟨rr, HRR⟩ : ∃ rr, Hid (hearAt W (k : Int) c (⟨u, sf, wt, up⟩ : Nd) r s = rr) := ⟨_, rfl⟩
 rw [HRR.out]
 have HC : Hid ((d1 ≠ 0 ∧ rr = (W, d1)) ∨ (d1 = 0 ∧ ((d2 ≠ 0 ∧ rr = (W, d2)) ∨ (d2 = 0 ∧ rr = ((W.putN (j : Int) n').putC (k : Int) R, 0))))) := by
  have := HRR.out
  rw [hearAt, q1, q2, hcl] at this
  by_cases h0 : d1 = 0
  ·rw [if_neg (not_not_intro h0)] at this
   refine Or.inr ⟨h0, ?_⟩
   by_cases h1 : d2 = 0
   ·rw [if_neg (not_not_intro h1)] at this; exact Or.inr ⟨h1, this.symm⟩
   ·rw [if_pos h1] at this; exact Or.inl ⟨h1, this.symm⟩
  ·rw [if_pos h0] at this; exact Or.inl ⟨h0, this.symm⟩
 have x0 := (hI.nat hx).cell (i := 0) rfl
 have x1 := (hI.nat hx).cell (i := 1) rfl
 have x2 := (hI.nat hx).cell (i := 2) rfl
 have x3 := (hI.nat hx).cell (i := 3) rfl
 have x4 := (hI.nat hx).cell (i := 4) rfl
 simp only [Nat.add_zero] at x0
 have hbx : ∀ {g i : Nat} {v : Value}, w.cell? ⟨g, i, none⟩ = some v → ((w.alloc (boxRc r)).alloc (boxE s.k s.j s.v s.t s.c)).cell? ⟨g, i, none⟩ = some v := fun h => cell_later (grew (grew (Below.refl _ _) _) _) h
 have x0 := hbx x0
 have x1 := hbx x1
 have x2 := hbx x2
 have x3 := hbx x3
 have x4 := hbx x4
 clear hbx q1 q2 hI hn hc hy hx HRR hb3 hxt hxw hok hr hn1 hn2 hL hcl
 go_enter Tryz.func109, Tryz.ntmps109
 go_upto_region 2 with fail
 generalize (((w.alloc (boxRc r)).alloc (boxE s.k s.j s.v s.t s.c)).alloc (boxNb ⟨⟨u, sf, wt, up⟩, .slice a3 m3 k3, .slice a4 m4 k4, .slice a5 m5 k5⟩)) = w1 at *
 clear x0 x1 x2 x3 x4
 have zr := cb HR0
 go_wp2_with fail
 refine kw.mono ?_
 rintro e w2 ⟨rfl, hp⟩
 clear kw zr
 rcases HC.out with ⟨h0, h1⟩ | ⟨h0, HC1⟩
 ·have hz : (d1 != 0) = true := by rw [bne_iff_ne]; exact h0
  subst h1
  have HI2 : Aside (WHas X w2 B g1 g2 W) := ⟨xs, cs, HI0.out.later (post_below hp HB3.out (by omega)), HE.out.1, HE.out.2⟩
  clear h0 HC hp
  go_wp2
  go_ret
  exact ⟨rfl, HI2.out⟩
 ·have hz : (d1 != 0) = false := by rw [h0]; rfl
  have HC2 : Hid _ := HC1
  obtain ⟨yb, hyn, hyb, hyt, hB2⟩ := local_post hp HD.out HXW.out HB3.out (by omega) (HOK.out h0).1 (HOK.out h0).2
  have H60 : Aside (yb.n.u.cells.length = 60) := by rw [hyn]; exact (HOK.out h0).1
  have HYN : Aside (yb.n = n') := hyn
  have HYB : Aside (w2.heap[w.heap.size + 1 + 1]? = some (boxNb yb)) := hyb
  have HYT : Aside (NodeT w2 yb) := hyt
  have HB2 : Aside (Below w.heap.size w w2) := hB2
  have HI2 : Aside _ := HI0.out.later hB2
  have HS2 : Aside (w2.heap[w.heap.size + 1]? = some (boxE s.k s.j s.v s.t s.c)) := post_other hp HS0.out (by omega)
  clear h0 HC HC1 hp hyn hyb hyt hB2 HOK HD HXW HB3 HI0 HR0 HS0
  have HK2 : Aside (∀ V, Below w2.heap.size w2 V → AnsT 136 #[c.val (.slice a1 m1 k1) (.slice a2 m2 k2), s.val] V (R, d2)) := fun V hV => KH.out V (HB2.out.trans (hV.mono HB2.out.size))
  clear KH
  go_upto_region 5 with fail
  go_cut [11, 12] from 21 to 28 (fun s5 s6 wx => ∃ (b : Nat) (v1 v2 : Value), s5 = .pointer (some ⟨b, 0, none⟩) ∧ s6 = .int .i64 d2 ∧ CBx w2 wx b R v1 v2)
  case first =>
   refine wp_region_held_drew (S := fun W' => Below w2.heap.size w2 W') (by kernel_rfl) ((Below.refl _ _).drew) (fun hHeld => ?_)
   refine tk 0 (v := ?_) rfl (by kernel_rfl) (by rfl) (by assumption) (fun _ _ _ h => h) ?_ ?_
   rotate_left
   ·intro w0 hSw; clear hSw; go_simp; first | done | with_reducible rfl
   try simp only [Act.put, qa, qb, qc]
   refine tk 1 (v := ?_) rfl (by kernel_rfl) (by rfl) (by assumption) (fun _ _ _ h => h) ?_ ?_
   rotate_left
   ·intro w0 hSw; clear hSw; go_simp; first | done | with_reducible rfl
   try simp only [Act.put, qa, qb, qc]
   refine tk 2 (v := ?_) rfl (by kernel_rfl) (by rfl) (by assumption) (fun _ _ _ h => h) ?_ ?_
   rotate_left
   ·intro w0 hSw; have y0 := (HI2.out.later hSw).cat HY.out (i := 0) rfl; have y1 := (HI2.out.later hSw).cat HY.out (i := 1) rfl; have y2 := (HI2.out.later hSw).cat HY.out (i := 2) rfl; have y3 := (HI2.out.later hSw).cat HY.out (i := 3) rfl; have y4 := (HI2.out.later hSw).cat HY.out (i := 4) rfl; have y5 := (HI2.out.later hSw).cat HY.out (i := 5) rfl; have y6 := (HI2.out.later hSw).cat HY.out (i := 6) rfl; have y7 := (HI2.out.later hSw).cat HY.out (i := 7) rfl; have y8 := (HI2.out.later hSw).cat HY.out (i := 8) rfl; have y9 := (HI2.out.later hSw).cat HY.out (i := 9) rfl; have y10 := (HI2.out.later hSw).cat HY.out (i := 10) rfl; have y11 := (HI2.out.later hSw).cat HY.out (i := 11) rfl; simp only [Nat.add_zero] at y0; clear hSw; go_simp; first | done | with_reducible rfl
   try simp only [Act.put, qa, qb, qc]
   refine tk 3 (v := ?_) rfl (by kernel_rfl) (by rfl) (by assumption) (fun _ _ _ h => h) ?_ ?_
   rotate_left
   ·intro w0 hSw; have z := (show ∀ i, w0.cell? ⟨w.heap.size + 1, i, none⟩ = #[Value.int .i64 s.k, .int .i64 s.j, .int .i64 s.v, .int .i64 s.t, .int .i64 s.c][i]? from fun i => Joins.cell_of_block (heap_below HS2.out hSw (heap_lt HS2.out)) i); clear hSw; go_simp; first | done | with_reducible rfl
   try simp only [Act.put, qa, qb, qc]
   refine wpAnyH_ready (rs := [4, 8]) (by kernel_rfl) (by simp) ?_
   refine AllReadyH.cons (o := ?o4p) ?hi4p ?step4p (AllReadyH.cons (o := ?o8p) ?hi8p ?step8p AllReadyH.nil)
   case hi4p => (simp only [List.getElem?_toArray, List.getElem?_cons_succ, List.getElem?_cons_zero]; rfl)
   case hi8p => (simp only [List.getElem?_toArray, List.getElem?_cons_succ, List.getElem?_cons_zero]; rfl)
   case step4p =>
    intro K hK
    go_simp
    refine (HK2.out _ hHeld).mono ?_
    rintro e w1 ⟨u1, u2, rfl, hT, hb1⟩
    obtain ⟨s1, o1, s2, o2, rfl, rfl⟩ := bk_slices hT.1.1 hT.1.2
    obtain ⟨n1, hn1⟩ : ∃ n, Hid (R.js.length = n) := ⟨_, rfl⟩
    obtain ⟨n2, hn2⟩ : ∃ n, Hid (R.rs.length = n) := ⟨_, rfl⟩
    rw [hn1.out, hn2.out] at hT ⊢
    have hA1 : Below w2.heap.size w2 w1 := step_below1 hHeld hb1
    refine hK.out _ _ hA1 (fun hHeld => ?_)
    clear hK K
    try simp only [Act.put, qa, qb, qc]
    refine tk 5 (v := ?_) rfl (by kernel_rfl) (by rfl) (by assumption) (fun _ _ _ h => h) ?_ ?_
    rotate_left
    ·intro w0 hSw; clear hSw; go_simp; first | done | with_reducible rfl
    try simp only [Act.put, qa, qb, qc]
    refine tk 6 (v := ?_) rfl (by kernel_rfl) (by rfl) (by assumption) (fun _ _ _ h => h) ?_ ?_
    rotate_left
    ·intro w0 hSw; clear hSw; go_simp; first | done | with_reducible rfl
    try simp only [Act.put, qa, qb, qc]
    refine tk 7 (v := ?_) rfl (by kernel_rfl) (by rfl) (by assumption) (fun _ _ _ h => h) ?_ ?_
    rotate_left
    ·intro w0 hSw; clear hSw; go_simp; first | done | with_reducible rfl
    try simp only [Act.put, qa, qb, qc]
    refine rdy 8 (by kernel_rfl) rfl (fun K hK => ?_)
    go_simp
    refine hK.out _ _ (grew hHeld _) (fun hHeld => ?_)
    clear hK K
    try simp only [Act.put, qa, qb, qc]
    refine rdy 9 (by kernel_rfl) rfl (fun K hK => ?_)
    go_simp
    refine hK.out _ _ (grew hA1 _) (fun hHeld => ?_)
    clear hK K
    try simp only [Act.put, qa, qb, qc]
    refine rdy 10 (by kernel_rfl) rfl (fun K hK => ?_)
    go_simp
    refine hK.out _ _ (hHeld) (fun hHeld => ?_)
    clear hK K
    try simp only [Act.put, qa, qb, qc]
    refine wpAnyH_done (by kernel_rfl) ?_ _
    go_wp2_with fail
    go_meet
    case rel => exact ⟨_, _, _, rfl, rfl, cbx_A hA1 hT⟩
   case step8p =>
    intro K hK
    go_simp
    refine hK.out _ _ (grew hHeld _) (fun hHeld => ?_)
    clear hK K
    try simp only [Act.put, qa, qb, qc]
    have hx1 : ((w2.alloc (boxZ)).drew).heap[w2.heap.size]? = some (boxZ) := heap_new w2 _
    refine rdy 4 (by kernel_rfl) rfl (fun K hK => ?_)
    go_simp
    refine (HK2.out _ hHeld).mono ?_
    rintro e w1 ⟨u1, u2, rfl, hT, hb1⟩
    obtain ⟨s1, o1, s2, o2, rfl, rfl⟩ := bk_slices hT.1.1 hT.1.2
    obtain ⟨n1, hn1⟩ : ∃ n, Hid (R.js.length = n) := ⟨_, rfl⟩
    obtain ⟨n2, hn2⟩ : ∃ n, Hid (R.rs.length = n) := ⟨_, rfl⟩
    rw [hn1.out, hn2.out] at hT ⊢
    have hB1 : Below w2.heap.size w2 w1 := step_below1 hHeld hb1
    have hx2 := heap_below hx1 hb1 (heap_lt hx1)
    have c7 := fun i => Joins.cell_of_block hx2 i
    have f7 := fun i => Joins.unfrozen_of_block hx2 i
    refine hK.out _ _ hB1 (fun hHeld => ?_)
    clear hK K
    try simp only [Act.put, qa, qb, qc]
    refine tk 5 (v := ?_) rfl (by kernel_rfl) (by rfl) (by assumption) (fun _ _ _ h => h) ?_ ?_
    rotate_left
    ·intro w0 hSw; clear hSw; go_simp; first | done | with_reducible rfl
    try simp only [Act.put, qa, qb, qc]
    refine tk 6 (v := ?_) rfl (by kernel_rfl) (by rfl) (by assumption) (fun _ _ _ h => h) ?_ ?_
    rotate_left
    ·intro w0 hSw; clear hSw; go_simp; first | done | with_reducible rfl
    try simp only [Act.put, qa, qb, qc]
    refine tk 7 (v := ?_) rfl (by kernel_rfl) (by rfl) (by assumption) (fun _ _ _ h => h) ?_ ?_
    rotate_left
    ·intro w0 hSw; clear hSw; go_simp; first | done | with_reducible rfl
    try simp only [Act.put, qa, qb, qc]
    refine rdy 9 (by kernel_rfl) rfl (fun K hK => ?_)
    go_simp
    refine hK.out _ _ (st12_below hHeld (Nat.le_refl _) _ _ _) (fun hHeld => ?_)
    clear hK K
    try simp only [Act.put, qa, qb, qc]
    refine rdy 10 (by kernel_rfl) rfl (fun K hK => ?_)
    go_simp
    refine hK.out _ _ (hHeld) (fun hHeld => ?_)
    clear hK K
    try simp only [Act.put, qa, qb, qc]
    refine wpAnyH_done (by kernel_rfl) ?_ _
    go_wp2_with fail
    go_meet
    case rel => exact ⟨_, _, _, rfl, rfl, cbx_B hx2 hB1 hT (Nat.le_refl _)⟩
  case rest =>
   obtain ⟨b, v1, v2, rfl, rfl, hR⟩ := hcut
   obtain ⟨s1, o1, s2, o2, rfl, rfl⟩ := bk_slices hR.bk.1.1 hR.bk.1.2
   obtain ⟨n1, hn1⟩ : ∃ n, Hid (R.js.length = n) := ⟨_, rfl⟩
   obtain ⟨n2, hn2⟩ : ∃ n, Hid (R.rs.length = n) := ⟨_, rfl⟩
   rw [hn1.out, hn2.out] at hR
   have HR : Aside (CBx w2 wc b R (.slice s1 n1 o1) (.slice s2 n2 o2)) := hR
   have HI3 : Aside _ := HI2.out.later hR.below
   have HYB3 : Aside _ := heap_below HYB.out hR.below (heap_lt HYB.out)
   have HYT3 : Aside _ := HYT.out.later hR.below
   clear hR HI2 HYB HYT HB2 HK2 HS2
   generalize wc = w3 at *
   rcases HC2.out with ⟨h0, h1⟩ | ⟨h0, h1⟩
   ·have hz : (d2 != 0) = true := by rw [bne_iff_ne]; exact h0
    subst h1
    clear h0 HC2 HR HYB3 HYT3
    go_wp2
    go_ret
    exact ⟨rfl, xs, cs, HI3.out, HE.out.1, HE.out.2⟩
   ·have hz : (d2 != 0) = false := by rw [h0]; rfl
    subst h1
    clear h0 HC2
    have HF : Aside (WHas X (stC (st5 w3 g1 (j * 5) yb) g2 (k * 12) ⟨R, .slice s1 n1 o1, .slice s2 n2 o2⟩).drew B g1 g2 ((W.putN (j : Int) n').putC (k : Int) R)) := by
     have := (has_both (z := ⟨R, .slice s1 n1 o1, .slice s2 n2 o2⟩) HI3.out HE.out.1 HE.out.2 HX.out HY.out HYT3.out H60.out HR.out.bk).later (Below.refl _ _).drew
     rw [HYN.out] at this
     exact this
    obtain ⟨yn, yc, ys, yw⟩ := yb
    obtain ⟨p3, l3, q3, rfl⟩ := roomy_sl HYT3.out.unit.room
    obtain ⟨p4, l4, q4, rfl⟩ := roomy_sl HYT3.out.disk.room1
    obtain ⟨p5, l5, q5, rfl⟩ := roomy_sl HYT3.out.disk.room2
    have zx := fun i => Joins.cell_of_block HR.out.box i
    have zy := cb HYB3
    have y0 := HI3.out.cat HY.out (i := 0) rfl
    have y1 := HI3.out.cat HY.out (i := 1) rfl
    have y2 := HI3.out.cat HY.out (i := 2) rfl
    have y3 := HI3.out.cat HY.out (i := 3) rfl
    have y4 := HI3.out.cat HY.out (i := 4) rfl
    have y5 := HI3.out.cat HY.out (i := 5) rfl
    have y6 := HI3.out.cat HY.out (i := 6) rfl
    have y7 := HI3.out.cat HY.out (i := 7) rfl
    have y8 := HI3.out.cat HY.out (i := 8) rfl
    have y9 := HI3.out.cat HY.out (i := 9) rfl
    have y10 := HI3.out.cat HY.out (i := 10) rfl
    have y11 := HI3.out.cat HY.out (i := 11) rfl
    have x0 := (HI3.out.nat HX.out).cell (i := 0) rfl
    have x1 := (HI3.out.nat HX.out).cell (i := 1) rfl
    have x2 := (HI3.out.nat HX.out).cell (i := 2) rfl
    have x3 := (HI3.out.nat HX.out).cell (i := 3) rfl
    have x4 := (HI3.out.nat HX.out).cell (i := 4) rfl
    simp only [Nat.add_zero] at y0 x0
    have fy := HI3.out.cfz
    have fx := (HI3.out.nat HX.out).fz
    have hg12 : g1 ≠ g2 := HI3.out.st.ne12
    have hgb : b ≠ g1 := fun e => by have h1 := HR.out.box; have h2 := HI3.out.st.nrow; rw [e, h2] at h1; injection h1 with h1; injection h1 with _ h3; cases h3
    clear HI3 HYB3 HYT3 HR HYN H60 HY HX HE
    go_upto_region 8 with fail
    go_region
    go_wp2
    go_ret
    exact ⟨rfl, HF.out⟩
theorem write_err {n : Nd} {r : Rc} (h : (n.write r).2 ≠ 0) : (n.write r).1 = n := by
 revert h
 unfold Nd.write
 split
 ·exact fun _ => rfl
 ·split
  ·exact fun _ => rfl
  ·split
   ·exact fun _ => rfl
   ·exact fun h => absurd rfl h
theorem writeAny_err {n : Nd} {r : Rc} (h : (n.writeAny r).2 ≠ 0) : (n.writeAny r).1 = n := by
 revert h
 unfold Nd.writeAny
 split
 ·exact fun _ => rfl
 ·exact write_err
theorem boot_err {n : Nd} (h : n.boot.2 ≠ 0) : n.boot.1 = n := by
 revert h
 unfold Nd.boot
 split
 ·exact fun _ => rfl
 ·split
  ·exact fun _ => rfl
  ·exact fun h => absurd rfl h
theorem tear_err {n : Nd} {r : Rc} {k : Int} (h : (n.tear r k).2 ≠ 0) : (n.tear r k).1 = n := by
 revert h
 unfold Nd.tear
 split
 ·exact fun _ => rfl
 ·split
  ·exact fun _ => rfl
  ·exact fun h => absurd rfl h
theorem has_set {X w : World} {B g1 g2 : Nat} {W : Wd} {ys : List Nb} {cs : List Cb} {j : Nat} {R : Nd × Int} (hI : WIn X w B g1 g2 ys W.tip cs W.t) (hn : nodesOf ys = W.ns.set j R.1) (hc : clientsOf cs = W.cs) (herr : R.2 ≠ 0 → W.ns.set j R.1 = W.ns) : WHas X w B g1 g2 (W.onN (j : Int) R).1 := by
 unfold Wd.onN
 by_cases h : R.2 = 0
 ·rw [if_neg (not_not_intro h)]
  refine ⟨ys, cs, hI, ?_, hc⟩
  rw [hn]
  show W.ns.set j R.1 = W.ns.set (j : Int).toNat R.1
  rw [Int.toNat_natCast]
 ·rw [if_pos h]
  exact ⟨ys, cs, hI, by rw [hn, herr h], hc⟩
theorem set_same {W : Wd} {xs : List Nb} (hn : nodesOf xs = W.ns) {j : Nat} {x : Nb} (hx : xs[j]? = some x) : W.ns.set j x.n = W.ns := by rw [← hn]; exact set_self _ _ _ (nodes_at hx)
theorem has_on4 {X w w' : World} {B g1 g2 : Nat} {W : Wd} {xs : List Nb} {cs : List Cb} (hI : WIn X w B g1 g2 xs W.tip cs W.t) (hn : nodesOf xs = W.ns) (hc : clientsOf cs = W.cs) {j : Nat} {x : Nb} (hx : xs[j]? = some x) {R : Nd × Int} (hp : Post st4 w w' g1 (j * 5) x R.1) (h60 : R.1.u.cells.length = 60) (hup : R.1.up = x.n.up) (herr : R.2 ≠ 0 → R.1 = x.n) :
  WHas X w' B g1 g2 (W.onN (j : Int) R).1 := by
 obtain ⟨ys, h1, h2⟩ := lift4 hI hx hp h60 hup
 exact has_set h1 (by rw [h2, hn]) hc (fun h => by rw [herr h]; exact set_same hn hx)
theorem has_on5 {X w w' : World} {B g1 g2 : Nat} {W : Wd} {xs : List Nb} {cs : List Cb} (hI : WIn X w B g1 g2 xs W.tip cs W.t) (hn : nodesOf xs = W.ns) (hc : clientsOf cs = W.cs) {j : Nat} {x : Nb} (hx : xs[j]? = some x) {R : Nd × Int} (hp : Post st5 w w' g1 (j * 5) x R.1) (h60 : R.1.u.cells.length = 60) (herr : R.2 ≠ 0 → R.1 = x.n) :
  WHas X w' B g1 g2 (W.onN (j : Int) R).1 := by
 obtain ⟨ys, h1, h2⟩ := lift5 hI hx hp h60
 exact has_set h1 (by rw [h2, hn]) hc (fun h => by rw [herr h]; exact set_same hn hx)
theorem has_on3 {X w w' : World} {B g1 g2 : Nat} {W : Wd} {xs : List Nb} {cs : List Cb} (hI : WIn X w B g1 g2 xs W.tip cs W.t) (hn : nodesOf xs = W.ns) (hc : clientsOf cs = W.cs) {j : Nat} {x : Nb} (hx : xs[j]? = some x) {R : Nd × Int} (hp : Post3 w w' g1 (j * 5) x R.1) (h60 : R.1.u.cells.length = 60) (hu : R.1.u = x.n.u) (herr : R.2 ≠ 0 → R.1 = x.n) :
  WHas X w' B g1 g2 (W.onN (j : Int) R).1 := by
 obtain ⟨ys, h1, h2⟩ := lift3 hI hx hp h60 hu
 exact has_set h1 (by rw [h2, hn]) hc (fun h => by rw [herr h]; exact set_same hn hx)
theorem right_sixty {n : Nd} (h : n.ck = 0) : n.u.cells.length = 60 := by
 obtain ⟨_, _, R⟩ := rn_of h
 exact (Un.ck_zero.1 R.uck).2.1
theorem right_fits {n : Nd} (h : n.ck = 0) : n.s.length ≤ topLen ∧ n.w.length ≤ topLen := by
 obtain ⟨_, _, R⟩ := rn_of h
 have := R.fits
 unfold topLen
 constructor <;> omega
theorem boot_sixty {n : Nd} (h : n.ck = 0) : n.boot.1.u.cells.length = 60 := by
 by_cases h0 : n.boot.2 = 0
 ·cases hu : n.up with
  | true => rw [Nd.boot, hu, if_pos rfl] at h0; cases h0
  | false => exact right_sixty (boot_ok h hu).2.1
 ·rw [boot_err h0]; exact right_sixty h
theorem write_sixty {n : Nd} {r : Rc} (h : n.ck = 0) (hu : n.up = true) : (n.write r).1.u.cells.length = 60 ∧ (n.write r).1.up = n.up := by
 by_cases h0 : (n.write r).2 = 0
 ·obtain ⟨_, _, e, h4, _⟩ := write_ok h hu h0
  exact ⟨right_sixty h4, by rw [e, hu]⟩
 ·rw [write_err h0]; exact ⟨right_sixty h, rfl⟩
theorem any_sixty {n : Nd} {r : Rc} (h : n.ck = 0) (hu : n.up = true) : (n.writeAny r).1.u.cells.length = 60 ∧ (n.writeAny r).1.up = n.up := by
 unfold Nd.writeAny
 split
 ·exact ⟨right_sixty h, rfl⟩
 ·exact write_sixty h hu
theorem tear_sixty {n : Nd} {r : Rc} {k : Int} (h : n.ck = 0) : (n.tear r k).1.u.cells.length = 60 ∧ (n.tear r k).1.u = n.u := by
 have e : (n.tear r k).1.u = n.u := by
  unfold Nd.tear
  split
  ·rfl
  ·split
   ·rfl
   ·rfl
 exact ⟨by rw [e]; exact right_sixty h, e⟩
theorem klink {xs : List Nb} (hf : Fits (ubsOf xs)) (hc : ckChain ((nodesOf xs).map Nd.u) = 0) (k a ep : Int) (x : En) {r : Rc} {s : En} {d : Int} (hq : linkIn ((nodesOf xs).map Nd.u) k a x ep = (r, s, d)) (W : World) (u : Value) (h : ChAt W u (ubsOf xs)) :
  Calls Tryz.prog 105 #[u, .int .i64 k, .int .i64 a, x.val, .int .i64 ep] W fun e w' => e = .returned (.tuple #[r.val, s.val, .int .i64 d]) ∧ Below W.heap.size W w' := by
 have := chains_any.link u (ubsOf xs) k a ep x W h hf
 rw [ubs_units, linkOf_in hc, hq] at this
 exact this
theorem link_kind {us : List Un} {k a : Int} {x : En} {ep : Int} {r : Rc} {s : En} {d : Int} (h : linkIn us k a x ep = (r, s, d)) : r = Rc.zero ∨ r.k = 1 := by
 have e : (linkIn us k a x ep).1 = r := by rw [h]
 rw [← e]
 unfold linkIn
 split
 ·exact Or.inl rfl
 ·split
  ·exact Or.inl rfl
  ·split
   ·exact Or.inl rfl
   ·split
    ·exact Or.inl rfl
    ·split
     ·exact Or.inl rfl
     ·exact Or.inr rfl
theorem fits_right {W : Wd} (hW : RW W) {xs : List Nb} (hn : nodesOf xs = W.ns) : Fits (ubsOf xs) := by
 refine ⟨?_, fun y hy => ?_⟩
 ·have h3 := hW.ns3
  rw [← hn, List.length_map] at h3
  rw [List.length_map, h3]; decide
 ·obtain ⟨z, hz, rfl⟩ := List.mem_map.1 hy
  have hzn : z.n ∈ W.ns := by rw [← hn]; exact List.mem_map.2 ⟨z, hz, rfl⟩
  obtain ⟨k, hk⟩ := List.getElem?_of_mem hzn
  have := right_sixty (hW.node k _ hk)
  show z.n.u.cells.length ≤ topN
  rw [this]; decide
theorem onN_snd (W : Wd) (k : Int) (R : Nd × Int) : (W.onN k R).2 = R.2 := by
 unfold Wd.onN
 split
 ·rfl
 ·rename_i h
  have : R.2 = 0 := Classical.byContradiction h
  rw [this]
theorem w_hear {X w : World} {B g1 g2 : Nat} {W : Wd} {xs : List Nb} {cs : List Cb} (hL : Laid w) (hI : WIn X w B g1 g2 xs W.tip cs W.t) (hn : nodesOf xs = W.ns) (hc : clientsOf cs = W.cs) (k j : Nat) (c : Cl) (a1 a2 : Option Addr) (m1 k1 m2 k2 : Nat) (hy : cs[k]? = some ⟨c, .slice a1 m1 k1, .slice a2 m2 k2⟩) {x : Nb} (hx : xs[j]? = some x) (hcl : c.l = (j : Int))
  (hn1 : x.n.s.length ≤ topLen) (hn2 : x.n.w.length ≤ topLen) (r : Rc) (hr : r = Rc.zero ∨ r.k = 1) (s : En) (hok : (x.n.writeAny r).1.u.cells.length = 60 ∧ (x.n.writeAny r).1.up = x.n.up) :
  AnsW 109 #[.pointer (some ⟨g2, k * 12, none⟩), .pointer (some ⟨g1, j * 5, none⟩), r.val, s.val] X w B g1 g2 (hearAt W (k : Int) c x.n r s) := by
 have ht := (hI.st.nodes _ (List.mem_of_getElem? hx)).1
 obtain ⟨⟨u, sf, wt, up⟩, vc, vs, vw⟩ := x
 obtain ⟨a3, m3, k3, rfl⟩ := roomy_sl ht.unit.room
 obtain ⟨a4, m4, k4, rfl⟩ := roomy_sl ht.disk.room1
 obtain ⟨a5, m5, k5, rfl⟩ := roomy_sl ht.disk.room2
 exact w_hear_at hL hI hn hc k j c u sf wt up a1 a2 a3 a4 a5 m1 k1 m2 k2 m3 k3 m4 k4 m5 k5 hy hx hcl hn1 hn2 r hr s (fun _ => hok)
end Go.Proofs.YtmoaobfmopimlafGreatDoor
