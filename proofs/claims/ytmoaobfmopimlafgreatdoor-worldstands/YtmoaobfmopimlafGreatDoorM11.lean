/- For the law. -/
import Derived.Test.YtmoaobfmopimlafGreatDoorM10
set_option linter.unusedSimpArgs false
set_option linter.unusedVariables false
set_option maxHeartbeats 16000000
set_option maxRecDepth 100000
namespace Go.Proofs.YtmoaobfmopimlafGreatDoor
open Go Go.ChangeShapes Go.WideShapes Go.ChangeAt Go.RowKit
theorem local_post {w w1 w2 : World} {d : Nat} {x : Nb} {n' : Nd} (hp : Post st4 w1 w2 d 0 x n') (hx : w1.heap[d]? = some (boxNb x)) (hxt : NodeT w1 x) (hB : Below w.heap.size w w1) (hd : w.heap.size ≤ d) (h60 : n'.u.cells.length = 60) (hup : n'.up = x.n.up) :
  ∃ y : Nb, y.n = n' ∧ w2.heap[d]? = some (boxNb y) ∧ NodeT w2 y ∧ Below w.heap.size w w2 := by
 obtain ⟨wq, hb, hc⟩ := hp
 rcases hc with ⟨rfl, rfl⟩ | ⟨y, hy, rfl, rfl⟩
 · exact ⟨x, rfl, heap_below hx hb (heap_lt hx), hxt.later hb, step_below1 hB hb⟩
 · have h0 : wq.heap[d]? = some (boxNb x) := heap_below hx hb (heap_lt hx)
  obtain ⟨a1, m1, k1, e1⟩ := roomy_sl hy.unit.room
  obtain ⟨a2, m2, k2, e2⟩ := roomy_sl hy.disk.room1
  obtain ⟨a3, m3, k3, e3⟩ := roomy_sl hy.disk.room2
  obtain ⟨b1, p1, q1, f1⟩ := roomy_sl hxt.unit.room
  obtain ⟨b2, p2, q2, f2⟩ := roomy_sl hxt.disk.room1
  obtain ⟨b3, p3, q3, f3⟩ := roomy_sl hxt.disk.room2
  have g0 := Joins.block_setCell h0 (i := 0) (.int .i64 y.n.u.p)
  have g1 := Joins.block_setCell g0 (i := 1) y.vc
  have g2 := Joins.block_setCell g1 (i := 2) y.vs
  have g3 := Joins.block_setCell g2 (i := 3) y.vw
  simp only [List.setIfInBounds_toArray, List.set_cons_zero, List.set_cons_succ] at g0 g1 g2 g3
  have nb : ∀ (A : List Value), (∀ v, v ∈ A → (∃ a n c, v = .slice a n c) ∨ (∃ q, v = .int .i64 q) ∨ ∃ b, v = .bool b) → ∀ q : Int, Value.int .u8 q ∉ A.toArray.toList := fun A hA q hq => by
   rcases hA _ (by simpa using hq) with ⟨_, _, _, h⟩ | ⟨_, h⟩ | ⟨_, h⟩ <;> cases h
  have R0 : NodeR wq y := ⟨hy, h60⟩
  have R1 := node_off R0 h0 (by simp) (nb _ (by simp [f1, f2, f3])) 0 (.int .i64 y.n.u.p)
  have R2 := node_off R1 g0 (by simp) (nb _ (by simp [f1, f2, f3])) 1 y.vc
  have R3 := node_off R2 g1 (by simp) (nb _ (by simp [e1, f2, f3])) 2 y.vs
  have R4 := node_off R3 g2 (by simp) (nb _ (by simp [e1, e2, f3])) 3 y.vw
  refine ⟨y, rfl, ?_, R4.1, ?_⟩
  · have : (boxNb y) = .cells #[.int .i64 y.n.u.p, y.vc, y.vs, y.vw, .bool x.n.up] 49 := by rw [← hup]
   rw [this]
   exact g3
  · exact ((((step_below1 hB hb).setCell (p := ⟨d, 0, none⟩) hd _).setCell (p := ⟨d, 0 + 1, none⟩) hd _).setCell (p := ⟨d, 0 + 2, none⟩) hd _).setCell (p := ⟨d, 0 + 3, none⟩) hd _
theorem post_below {w w1 w2 : World} {d : Nat} {x : Nb} {n' : Nd} (hp : Post st4 w1 w2 d 0 x n') (hB : Below w.heap.size w w1) (hd : w.heap.size ≤ d) : Below w.heap.size w w2 := by
 obtain ⟨wq, hb, hc⟩ := hp
 rcases hc with ⟨rfl, _⟩ | ⟨y, _, _, rfl⟩
 · exact step_below1 hB hb
 · exact ((((step_below1 hB hb).setCell (p := ⟨d, 0, none⟩) hd _).setCell (p := ⟨d, 0 + 1, none⟩) hd _).setCell (p := ⟨d, 0 + 2, none⟩) hd _).setCell (p := ⟨d, 0 + 3, none⟩) hd _
theorem post_other {w1 w2 : World} {d q : Nat} {x : Nb} {n' : Nd} {ob : Obj} (hp : Post st4 w1 w2 d 0 x n') (h : w1.heap[q]? = some ob) (hne : q ≠ d) : w2.heap[q]? = some ob := by
 obtain ⟨wq, hb, hc⟩ := hp
 have h0 := heap_below h hb (heap_lt h)
 rcases hc with ⟨rfl, _⟩ | ⟨y, _, _, rfl⟩
 · exact h0
 · exact other_block (other_block (other_block (other_block h0 hne _ _) hne _ _) hne _ _) hne _ _
theorem has_both {X w : World} {B g1 g2 : Nat} {W : Wd} {xs : List Nb} {cs : List Cb} (hI : WIn X w B g1 g2 xs W.tip cs W.t) (hn : nodesOf xs = W.ns) (hc : clientsOf cs = W.cs) {j k : Nat} {x : Nb} (hx : xs[j]? = some x) {c : Cb} (hy : cs[k]? = some c) {y : Nb} (hyn : NodeT w y) (h60 : y.n.u.cells.length = 60) {z : Cb} (hz : ClientR w z) :
  WHas X (stC (st5 w g1 (j * 5) y) g2 (k * 12) z) B g1 g2 ((W.putN (j : Int) y.n).putC (k : Int) z.c) := by
 obtain ⟨s1, s2, s3⟩ := (⟨roomy_sl hyn.unit.room, roomy_sl hyn.disk.room1, roomy_sl hyn.disk.room2⟩ : _ ∧ _ ∧ _)
 have h0 := (hI.st.with ⟨hyn, h60⟩).more (L' := y :: xs) (M' := z :: cs) (fun q hq => (List.mem_cons.1 hq).elim (fun e => e ▸ ⟨hyn, h60⟩) (hI.st.nodes q)) (fun q hq => (List.mem_cons.1 hq).elim (fun e => e ▸ hz) (hI.st.clients q))
 have Hs := ((((h0.setN (j * 5 + 0) (int_nob y.n.u.p)).setN (j * 5 + 1) (slice_nob s1)).setN (j * 5 + 2) (slice_nob s2)).setN (j * 5 + 3) (slice_nob s3)).setN (j * 5 + 4) (bool_nob y.n.up)
 rw [nput5 hx y] at Hs
 have hz2 : ClientR (st5 w g1 (j * 5) y) z := Hs.clients z (List.mem_cons_self ..)
 have hI2 : WIn X (st5 w g1 (j * 5) y) B g1 g2 (xs.set j y) W.tip cs W.t := ⟨Hs.more (fun q hq => Hs.nodes q (mem_set hq)) (fun q hq => Hs.clients q (List.mem_cons_of_mem _ hq)), by rw [List.length_set]; exact hI.three, hI.three'⟩
 refine has_putC (W := W.putN (j : Int) y.n) hI2 ?_ hc hy hz2
 rw [nodes_set, hn]
 show W.ns.set j y.n = W.ns.set (j : Int).toNat y.n
 rw [Int.toNat_natCast]
theorem w_hear_at {X w : World} {B g1 g2 : Nat} {W : Wd} {xs : List Nb} {cs : List Cb} (hL : Laid w) (hI : WIn X w B g1 g2 xs W.tip cs W.t) (hn : nodesOf xs = W.ns) (hc : clientsOf cs = W.cs) (k j : Nat) (c : Cl) (u : Un) (sf wt : List UInt8) (up : Bool)
  (a1 a2 a3 a4 a5 : Option Addr) (m1 k1 m2 k2 m3 k3 m4 k4 m5 k5 : Nat) (hy : cs[k]? = some ⟨c, .slice a1 m1 k1, .slice a2 m2 k2⟩) (hx : xs[j]? = some ⟨⟨u, sf, wt, up⟩, .slice a3 m3 k3, .slice a4 m4 k4, .slice a5 m5 k5⟩) (hcl : c.l = (j : Int)) (hn1 : sf.length ≤ topLen) (hn2 : wt.length ≤ topLen) (r : Rc) (hr : r = Rc.zero ∨ r.k = 1) (s : En)
  (hok : ((⟨u, sf, wt, up⟩ : Nd).writeAny r).2 = 0 → ((⟨u, sf, wt, up⟩ : Nd).writeAny r).1.u.cells.length = 60 ∧ ((⟨u, sf, wt, up⟩ : Nd).writeAny r).1.up = up) :
  AnsW 109 #[.pointer (some ⟨g2, k * 12, none⟩), .pointer (some ⟨g1, j * 5, none⟩), r.val, s.val] X w B g1 g2 (hearAt W (k : Int) c (⟨u, sf, wt, up⟩ : Nd) r s) := by
 obtain ⟨⟨n', d1⟩, q1⟩ : ∃ q, (⟨u, sf, wt, up⟩ : Nd).writeAny r = q := ⟨_, rfl⟩
 obtain ⟨⟨R, d2⟩, q2⟩ : ∃ q, hearOf c s = q := ⟨_, rfl⟩
 rw [q1] at hok
 simp only at hok
 have hb3 : Below w.heap.size w (((w.alloc (boxRc r)).alloc (boxE s.k s.j s.v s.t s.c)).alloc (boxNb ⟨⟨u, sf, wt, up⟩, .slice a3 m3 k3, .slice a4 m4 k4, .slice a5 m5 k5⟩)) := grew (grew (grew (Below.refl _ _) _) _) _
 have hxt := hI.st.nodes _ (List.mem_of_getElem? hx)
 have HD : Aside ((((w.alloc (boxRc r)).alloc (boxE s.k s.j s.v s.t s.c)).alloc (boxNb ⟨⟨u, sf, wt, up⟩, .slice a3 m3 k3, .slice a4 m4 k4, .slice a5 m5 k5⟩)).heap[w.heap.size + 1 + 1]? = some (boxNb ⟨⟨u, sf, wt, up⟩, .slice a3 m3 k3, .slice a4 m4 k4, .slice a5 m5 k5⟩)) := by
  have := heap_new ((w.alloc (boxRc r)).alloc (boxE s.k s.j s.v s.t s.c)) (boxNb ⟨⟨u, sf, wt, up⟩, .slice a3 m3 k3, .slice a4 m4 k4, .slice a5 m5 k5⟩)
  rwa [World.size_alloc, World.size_alloc] at this
 have HR0 : Aside ((((w.alloc (boxRc r)).alloc (boxE s.k s.j s.v s.t s.c)).alloc (boxNb ⟨⟨u, sf, wt, up⟩, .slice a3 m3 k3, .slice a4 m4 k4, .slice a5 m5 k5⟩)).heap[w.heap.size]? = some (boxRc r)) := heap_old (heap_old (heap_new _ _) _) _
 have HS0 : Aside ((((w.alloc (boxRc r)).alloc (boxE s.k s.j s.v s.t s.c)).alloc (boxNb ⟨⟨u, sf, wt, up⟩, .slice a3 m3 k3, .slice a4 m4 k4, .slice a5 m5 k5⟩)).heap[w.heap.size + 1]? = some (boxE s.k s.j s.v s.t s.c)) := by
  have := heap_new (w.alloc (boxRc r)) (boxE s.k s.j s.v s.t s.c)
  rw [World.size_alloc] at this
  exact heap_old this _
 have hxw : NodeT (((w.alloc (boxRc r)).alloc (boxE s.k s.j s.v s.t s.c)).alloc (boxNb ⟨⟨u, sf, wt, up⟩, .slice a3 m3 k3, .slice a4 m4 k4, .slice a5 m5 k5⟩)) ⟨⟨u, sf, wt, up⟩, .slice a3 m3 k3, .slice a4 m4 k4, .slice a5 m5 k5⟩ := hxt.1.later hb3
 have kw := w_writeAny (w := (((w.alloc (boxRc r)).alloc (boxE s.k s.j s.v s.t s.c)).alloc (boxNb ⟨⟨u, sf, wt, up⟩, .slice a3 m3 k3, .slice a4 m4 k4, .slice a5 m5 k5⟩))) (g := w.heap.size + 1 + 1) (o := 0) (NC := Nb.cells ⟨⟨u, sf, wt, up⟩, .slice a3 m3 k3, .slice a4 m4 k4, .slice a5 m5 k5⟩) (x := ⟨⟨u, sf, wt, up⟩, .slice a3 m3 k3, .slice a4 m4 k4, .slice a5 m5 k5⟩) (hL.later hb3) ⟨HD.out, fun i v hv => by rw [Nat.zero_add]; exact hv, hxw⟩ hn1 hn2 hr
 simp only at kw
 rw [q1] at kw
 have KH : Aside (∀ V, Below w.heap.size w V → AnsT 136 #[c.val (.slice a1 m1 k1) (.slice a2 m2 k2), s.val] V (R, d2)) := fun V hV => by
  have := cl_heard c s (.slice a1 m1 k1) (.slice a2 m2 k2) V (bkAt_later (hI.st.clients _ (List.mem_of_getElem? hy)).1 hV)
  rwa [q2] at this
 have HXW : Aside (NodeT (((w.alloc (boxRc r)).alloc (boxE s.k s.j s.v s.t s.c)).alloc (boxNb ⟨⟨u, sf, wt, up⟩, .slice a3 m3 k3, .slice a4 m4 k4, .slice a5 m5 k5⟩)) ⟨⟨u, sf, wt, up⟩, .slice a3 m3 k3, .slice a4 m4 k4, .slice a5 m5 k5⟩) := hxw
 have HI0 : Aside (WIn X w B g1 g2 xs W.tip cs W.t) := hI
 have HE : Aside (nodesOf xs = W.ns ∧ clientsOf cs = W.cs) := ⟨hn, hc⟩
 have HY : Aside (cs[k]? = some ⟨c, .slice a1 m1 k1, .slice a2 m2 k2⟩) := hy
 have HX : Aside (xs[j]? = some ⟨⟨u, sf, wt, up⟩, .slice a3 m3 k3, .slice a4 m4 k4, .slice a5 m5 k5⟩) := hx
 have HB3 : Aside (Below w.heap.size w (((w.alloc (boxRc r)).alloc (boxE s.k s.j s.v s.t s.c)).alloc (boxNb ⟨⟨u, sf, wt, up⟩, .slice a3 m3 k3, .slice a4 m4 k4, .slice a5 m5 k5⟩))) := hb3
 have HOK : Aside (d1 = 0 → n'.u.cells.length = 60 ∧ n'.up = up) := hok
 obtain ⟨rr, HRR⟩ : ∃ rr, Hid (hearAt W (k : Int) c (⟨u, sf, wt, up⟩ : Nd) r s = rr) := ⟨_, rfl⟩
 rw [HRR.out]
 have HC : Hid ((d1 ≠ 0 ∧ rr = (W, d1)) ∨ (d1 = 0 ∧ ((d2 ≠ 0 ∧ rr = (W, d2)) ∨ (d2 = 0 ∧ rr = ((W.putN (j : Int) n').putC (k : Int) R, 0))))) := by
  have := HRR.out
  rw [hearAt, q1, q2, hcl] at this
  by_cases h0 : d1 = 0
  · rw [if_neg (not_not_intro h0)] at this
   refine Or.inr ⟨h0, ?_⟩
   by_cases h1 : d2 = 0
   · rw [if_neg (not_not_intro h1)] at this; exact Or.inr ⟨h1, this.symm⟩
   · rw [if_pos h1] at this; exact Or.inl ⟨h1, this.symm⟩
  · rw [if_pos h0] at this; exact Or.inl ⟨h0, this.symm⟩
 have x0 := (hI.nat hx).cell (i := 0) rfl
 have x1 := (hI.nat hx).cell (i := 1) rfl
 have x2 := (hI.nat hx).cell (i := 2) rfl
 have x3 := (hI.nat hx).cell (i := 3) rfl
 have x4 := (hI.nat hx).cell (i := 4) rfl
 simp only [Nat.add_zero] at x0
 have hbx : ∀ {g i : Nat} {v : Value}, w.cell? ⟨g, i, none⟩ = some v → ((w.alloc (boxRc r)).alloc (boxE s.k s.j s.v s.t s.c)).cell? ⟨g, i, none⟩ = some v := fun h => cell_later (grew (grew (Below.refl _ _) _) _) h
 have x0 := hbx x0
 have x1 := hbx x1
 have x2 := hbx x2
 have x3 := hbx x3
 have x4 := hbx x4
 clear hbx q1 q2 hI hn hc hy hx HRR hb3 hxt hxw hok hr hn1 hn2 hL hcl
 go_enter Tryz.func109, Tryz.ntmps109
 go_upto_region 2 with fail
 generalize (((w.alloc (boxRc r)).alloc (boxE s.k s.j s.v s.t s.c)).alloc (boxNb ⟨⟨u, sf, wt, up⟩, .slice a3 m3 k3, .slice a4 m4 k4, .slice a5 m5 k5⟩)) = w1 at *
 clear x0 x1 x2 x3 x4
 have zr := fun i => Joins.cell_of_block HR0.out i
 go_wp2_with fail
 refine kw.mono ?_
 rintro e w2 ⟨rfl, hp⟩
 clear kw zr
 rcases HC.out with ⟨h0, h1⟩ | ⟨h0, HC1⟩
 · have hz : (d1 != 0) = true := by rw [bne_iff_ne]; exact h0
  subst h1
  have HI2 : Aside (WHas X w2 B g1 g2 W) := ⟨xs, cs, HI0.out.later (post_below hp HB3.out (by omega)), HE.out.1, HE.out.2⟩
  clear h0 HC hp
  go_wp2
  go_ret
  exact ⟨rfl, HI2.out⟩
 · have hz : (d1 != 0) = false := by rw [h0]; rfl
  have HC2 : Hid _ := HC1
  obtain ⟨yb, hyn, hyb, hyt, hB2⟩ := local_post hp HD.out HXW.out HB3.out (by omega) (HOK.out h0).1 (HOK.out h0).2
  have H60 : Aside (yb.n.u.cells.length = 60) := by rw [hyn]; exact (HOK.out h0).1
  have HYN : Aside (yb.n = n') := hyn
  have HYB : Aside (w2.heap[w.heap.size + 1 + 1]? = some (boxNb yb)) := hyb
  have HYT : Aside (NodeT w2 yb) := hyt
  have HB2 : Aside (Below w.heap.size w w2) := hB2
  have HI2 : Aside _ := HI0.out.later hB2
  have HS2 : Aside (w2.heap[w.heap.size + 1]? = some (boxE s.k s.j s.v s.t s.c)) := post_other hp HS0.out (by omega)
  clear h0 HC HC1 hp hyn hyb hyt hB2 HOK HD HXW HB3 HI0 HR0 HS0
  have HK2 : Aside (∀ V, Below w2.heap.size w2 V → AnsT 136 #[c.val (.slice a1 m1 k1) (.slice a2 m2 k2), s.val] V (R, d2)) := fun V hV => KH.out V (HB2.out.trans (hV.mono HB2.out.size))
  clear KH
  go_upto_region 5 with fail
  go_cut [11, 12] from 21 to 28 (fun s5 s6 wx => ∃ (b : Nat) (v1 v2 : Value), s5 = .pointer (some ⟨b, 0, none⟩) ∧ s6 = .int .i64 d2 ∧ CBx w2 wx b R v1 v2)
  case first =>
   refine wp_region_held_drew (S := fun W' => Below w2.heap.size w2 W') (by kernel_rfl) ((Below.refl _ _).drew) (fun hHeld => ?_)
   refine tk 0 (v := ?_) rfl (by kernel_rfl) (by rfl) (by assumption) (fun _ _ _ h => h) ?_ ?_
   rotate_left
   · intro w0 hSw; clear hSw; go_simp; first | done | with_reducible rfl
   try simp only [Act.put, qa, qb, qc]
   refine tk 1 (v := ?_) rfl (by kernel_rfl) (by rfl) (by assumption) (fun _ _ _ h => h) ?_ ?_
   rotate_left
   · intro w0 hSw; clear hSw; go_simp; first | done | with_reducible rfl
   try simp only [Act.put, qa, qb, qc]
   refine tk 2 (v := ?_) rfl (by kernel_rfl) (by rfl) (by assumption) (fun _ _ _ h => h) ?_ ?_
   rotate_left
   · intro w0 hSw; have y0 := (HI2.out.later hSw).cat HY.out (i := 0) rfl; have y1 := (HI2.out.later hSw).cat HY.out (i := 1) rfl; have y2 := (HI2.out.later hSw).cat HY.out (i := 2) rfl; have y3 := (HI2.out.later hSw).cat HY.out (i := 3) rfl; have y4 := (HI2.out.later hSw).cat HY.out (i := 4) rfl; have y5 := (HI2.out.later hSw).cat HY.out (i := 5) rfl; have y6 := (HI2.out.later hSw).cat HY.out (i := 6) rfl; have y7 := (HI2.out.later hSw).cat HY.out (i := 7) rfl; have y8 := (HI2.out.later hSw).cat HY.out (i := 8) rfl; have y9 := (HI2.out.later hSw).cat HY.out (i := 9) rfl; have y10 := (HI2.out.later hSw).cat HY.out (i := 10) rfl; have y11 := (HI2.out.later hSw).cat HY.out (i := 11) rfl; simp only [Nat.add_zero] at y0; clear hSw; go_simp; first | done | with_reducible rfl
   try simp only [Act.put, qa, qb, qc]
   refine tk 3 (v := ?_) rfl (by kernel_rfl) (by rfl) (by assumption) (fun _ _ _ h => h) ?_ ?_
   rotate_left
   · intro w0 hSw; have z := (show ∀ i, w0.cell? ⟨w.heap.size + 1, i, none⟩ = #[Value.int .i64 s.k, .int .i64 s.j, .int .i64 s.v, .int .i64 s.t, .int .i64 s.c][i]? from fun i => Joins.cell_of_block (heap_below HS2.out hSw (heap_lt HS2.out)) i); clear hSw; go_simp; first | done | with_reducible rfl
   try simp only [Act.put, qa, qb, qc]
   refine wpAnyH_ready (rs := [4, 8]) (by kernel_rfl) (by simp) ?_
   refine AllReadyH.cons (o := ?o4p) ?hi4p ?step4p (AllReadyH.cons (o := ?o8p) ?hi8p ?step8p AllReadyH.nil)
   case hi4p => (simp only [List.getElem?_toArray, List.getElem?_cons_succ, List.getElem?_cons_zero]; rfl)
   case hi8p => (simp only [List.getElem?_toArray, List.getElem?_cons_succ, List.getElem?_cons_zero]; rfl)
   case step4p =>
    intro K hK
    go_simp
    refine (HK2.out _ hHeld).mono ?_
    rintro e w1 ⟨u1, u2, rfl, hT, hb1⟩
    obtain ⟨s1, o1, s2, o2, rfl, rfl⟩ := bk_slices hT.1.1 hT.1.2
    obtain ⟨n1, hn1⟩ : ∃ n, Hid (R.js.length = n) := ⟨_, rfl⟩
    obtain ⟨n2, hn2⟩ : ∃ n, Hid (R.rs.length = n) := ⟨_, rfl⟩
    rw [hn1.out, hn2.out] at hT ⊢
    have hA1 : Below w2.heap.size w2 w1 := step_below1 hHeld hb1
    refine hK.out _ _ hA1 (fun hHeld => ?_)
    clear hK K
    try simp only [Act.put, qa, qb, qc]
    refine tk 5 (v := ?_) rfl (by kernel_rfl) (by rfl) (by assumption) (fun _ _ _ h => h) ?_ ?_
    rotate_left
    · intro w0 hSw; clear hSw; go_simp; first | done | with_reducible rfl
    try simp only [Act.put, qa, qb, qc]
    refine tk 6 (v := ?_) rfl (by kernel_rfl) (by rfl) (by assumption) (fun _ _ _ h => h) ?_ ?_
    rotate_left
    · intro w0 hSw; clear hSw; go_simp; first | done | with_reducible rfl
    try simp only [Act.put, qa, qb, qc]
    refine tk 7 (v := ?_) rfl (by kernel_rfl) (by rfl) (by assumption) (fun _ _ _ h => h) ?_ ?_
    rotate_left
    · intro w0 hSw; clear hSw; go_simp; first | done | with_reducible rfl
    try simp only [Act.put, qa, qb, qc]
    refine rdy 8 (by kernel_rfl) rfl (fun K hK => ?_)
    go_simp
    refine hK.out _ _ (grew hHeld _) (fun hHeld => ?_)
    clear hK K
    try simp only [Act.put, qa, qb, qc]
    refine rdy 9 (by kernel_rfl) rfl (fun K hK => ?_)
    go_simp
    refine hK.out _ _ (grew hA1 _) (fun hHeld => ?_)
    clear hK K
    try simp only [Act.put, qa, qb, qc]
    refine rdy 10 (by kernel_rfl) rfl (fun K hK => ?_)
    go_simp
    refine hK.out _ _ (hHeld) (fun hHeld => ?_)
    clear hK K
    try simp only [Act.put, qa, qb, qc]
    refine wpAnyH_done (by kernel_rfl) ?_ _
    go_wp2_with fail
    go_meet
    case rel => exact ⟨_, _, _, rfl, rfl, cbx_A hA1 hT⟩
   case step8p =>
    intro K hK
    go_simp
    refine hK.out _ _ (grew hHeld _) (fun hHeld => ?_)
    clear hK K
    try simp only [Act.put, qa, qb, qc]
    have hx1 : ((w2.alloc (boxZ)).drew).heap[w2.heap.size]? = some (boxZ) := heap_new w2 _
    refine rdy 4 (by kernel_rfl) rfl (fun K hK => ?_)
    go_simp
    refine (HK2.out _ hHeld).mono ?_
    rintro e w1 ⟨u1, u2, rfl, hT, hb1⟩
    obtain ⟨s1, o1, s2, o2, rfl, rfl⟩ := bk_slices hT.1.1 hT.1.2
    obtain ⟨n1, hn1⟩ : ∃ n, Hid (R.js.length = n) := ⟨_, rfl⟩
    obtain ⟨n2, hn2⟩ : ∃ n, Hid (R.rs.length = n) := ⟨_, rfl⟩
    rw [hn1.out, hn2.out] at hT ⊢
    have hB1 : Below w2.heap.size w2 w1 := step_below1 hHeld hb1
    have hx2 := heap_below hx1 hb1 (heap_lt hx1)
    have c7 := fun i => Joins.cell_of_block hx2 i
    have f7 := fun i => Joins.unfrozen_of_block hx2 i
    refine hK.out _ _ hB1 (fun hHeld => ?_)
    clear hK K
    try simp only [Act.put, qa, qb, qc]
    refine tk 5 (v := ?_) rfl (by kernel_rfl) (by rfl) (by assumption) (fun _ _ _ h => h) ?_ ?_
    rotate_left
    · intro w0 hSw; clear hSw; go_simp; first | done | with_reducible rfl
    try simp only [Act.put, qa, qb, qc]
    refine tk 6 (v := ?_) rfl (by kernel_rfl) (by rfl) (by assumption) (fun _ _ _ h => h) ?_ ?_
    rotate_left
    · intro w0 hSw; clear hSw; go_simp; first | done | with_reducible rfl
    try simp only [Act.put, qa, qb, qc]
    refine tk 7 (v := ?_) rfl (by kernel_rfl) (by rfl) (by assumption) (fun _ _ _ h => h) ?_ ?_
    rotate_left
    · intro w0 hSw; clear hSw; go_simp; first | done | with_reducible rfl
    try simp only [Act.put, qa, qb, qc]
    refine rdy 9 (by kernel_rfl) rfl (fun K hK => ?_)
    go_simp
    refine hK.out _ _ (st12_below hHeld (Nat.le_refl _) _ _ _) (fun hHeld => ?_)
    clear hK K
    try simp only [Act.put, qa, qb, qc]
    refine rdy 10 (by kernel_rfl) rfl (fun K hK => ?_)
    go_simp
    refine hK.out _ _ (hHeld) (fun hHeld => ?_)
    clear hK K
    try simp only [Act.put, qa, qb, qc]
    refine wpAnyH_done (by kernel_rfl) ?_ _
    go_wp2_with fail
    go_meet
    case rel => exact ⟨_, _, _, rfl, rfl, cbx_B hx2 hB1 hT (Nat.le_refl _)⟩
  case rest =>
   obtain ⟨b, v1, v2, rfl, rfl, hR⟩ := hcut
   obtain ⟨s1, o1, s2, o2, rfl, rfl⟩ := bk_slices hR.bk.1.1 hR.bk.1.2
   obtain ⟨n1, hn1⟩ : ∃ n, Hid (R.js.length = n) := ⟨_, rfl⟩
   obtain ⟨n2, hn2⟩ : ∃ n, Hid (R.rs.length = n) := ⟨_, rfl⟩
   rw [hn1.out, hn2.out] at hR
   have HR : Aside (CBx w2 wc b R (.slice s1 n1 o1) (.slice s2 n2 o2)) := hR
   have HI3 : Aside _ := HI2.out.later hR.below
   have HYB3 : Aside _ := heap_below HYB.out hR.below (heap_lt HYB.out)
   have HYT3 : Aside _ := HYT.out.later hR.below
   clear hR HI2 HYB HYT HB2 HK2 HS2
   generalize wc = w3 at *
   rcases HC2.out with ⟨h0, h1⟩ | ⟨h0, h1⟩
   · have hz : (d2 != 0) = true := by rw [bne_iff_ne]; exact h0
    subst h1
    clear h0 HC2 HR HYB3 HYT3
    go_wp2
    go_ret
    exact ⟨rfl, xs, cs, HI3.out, HE.out.1, HE.out.2⟩
   · have hz : (d2 != 0) = false := by rw [h0]; rfl
    subst h1
    clear h0 HC2
    have HF : Aside (WHas X (stC (st5 w3 g1 (j * 5) yb) g2 (k * 12) ⟨R, .slice s1 n1 o1, .slice s2 n2 o2⟩).drew B g1 g2 ((W.putN (j : Int) n').putC (k : Int) R)) := by
     have := (has_both (z := ⟨R, .slice s1 n1 o1, .slice s2 n2 o2⟩) HI3.out HE.out.1 HE.out.2 HX.out HY.out HYT3.out H60.out HR.out.bk).later (Below.refl _ _).drew
     rw [HYN.out] at this
     exact this
    obtain ⟨yn, yc, ys, yw⟩ := yb
    obtain ⟨p3, l3, q3, rfl⟩ := roomy_sl HYT3.out.unit.room
    obtain ⟨p4, l4, q4, rfl⟩ := roomy_sl HYT3.out.disk.room1
    obtain ⟨p5, l5, q5, rfl⟩ := roomy_sl HYT3.out.disk.room2
    have zx := fun i => Joins.cell_of_block HR.out.box i
    have zy := fun i => Joins.cell_of_block HYB3.out i
    have y0 := HI3.out.cat HY.out (i := 0) rfl
    have y1 := HI3.out.cat HY.out (i := 1) rfl
    have y2 := HI3.out.cat HY.out (i := 2) rfl
    have y3 := HI3.out.cat HY.out (i := 3) rfl
    have y4 := HI3.out.cat HY.out (i := 4) rfl
    have y5 := HI3.out.cat HY.out (i := 5) rfl
    have y6 := HI3.out.cat HY.out (i := 6) rfl
    have y7 := HI3.out.cat HY.out (i := 7) rfl
    have y8 := HI3.out.cat HY.out (i := 8) rfl
    have y9 := HI3.out.cat HY.out (i := 9) rfl
    have y10 := HI3.out.cat HY.out (i := 10) rfl
    have y11 := HI3.out.cat HY.out (i := 11) rfl
    have x0 := (HI3.out.nat HX.out).cell (i := 0) rfl
    have x1 := (HI3.out.nat HX.out).cell (i := 1) rfl
    have x2 := (HI3.out.nat HX.out).cell (i := 2) rfl
    have x3 := (HI3.out.nat HX.out).cell (i := 3) rfl
    have x4 := (HI3.out.nat HX.out).cell (i := 4) rfl
    simp only [Nat.add_zero] at y0 x0
    have fy := HI3.out.cfz
    have fx := (HI3.out.nat HX.out).fz
    have hg12 : g1 ≠ g2 := HI3.out.st.ne12
    have hgb : b ≠ g1 := fun e => by have h1 := HR.out.box; have h2 := HI3.out.st.nrow; rw [e, h2] at h1; injection h1 with h1; injection h1 with _ h3; cases h3
    clear HI3 HYB3 HYT3 HR HYN H60 HY HX HE
    go_upto_region 8 with fail
    go_region
    go_wp2
    go_ret
    exact ⟨rfl, HF.out⟩
theorem write_err {n : Nd} {r : Rc} (h : (n.write r).2 ≠ 0) : (n.write r).1 = n := by
 revert h
 unfold Nd.write
 split
 · exact fun _ => rfl
 · split
  · exact fun _ => rfl
  · split
   · exact fun _ => rfl
   · exact fun h => absurd rfl h
theorem writeAny_err {n : Nd} {r : Rc} (h : (n.writeAny r).2 ≠ 0) : (n.writeAny r).1 = n := by
 revert h
 unfold Nd.writeAny
 split
 · exact fun _ => rfl
 · exact write_err
theorem boot_err {n : Nd} (h : n.boot.2 ≠ 0) : n.boot.1 = n := by
 revert h
 unfold Nd.boot
 split
 · exact fun _ => rfl
 · split
  · exact fun _ => rfl
  · exact fun h => absurd rfl h
theorem tear_err {n : Nd} {r : Rc} {k : Int} (h : (n.tear r k).2 ≠ 0) : (n.tear r k).1 = n := by
 revert h
 unfold Nd.tear
 split
 · exact fun _ => rfl
 · split
  · exact fun _ => rfl
  · exact fun h => absurd rfl h
theorem has_set {X w : World} {B g1 g2 : Nat} {W : Wd} {ys : List Nb} {cs : List Cb} {j : Nat} {R : Nd × Int} (hI : WIn X w B g1 g2 ys W.tip cs W.t) (hn : nodesOf ys = W.ns.set j R.1) (hc : clientsOf cs = W.cs) (herr : R.2 ≠ 0 → W.ns.set j R.1 = W.ns) : WHas X w B g1 g2 (W.onN (j : Int) R).1 := by
 unfold Wd.onN
 by_cases h : R.2 = 0
 · rw [if_neg (not_not_intro h)]
  refine ⟨ys, cs, hI, ?_, hc⟩
  rw [hn]
  show W.ns.set j R.1 = W.ns.set (j : Int).toNat R.1
  rw [Int.toNat_natCast]
 · rw [if_pos h]
  exact ⟨ys, cs, hI, by rw [hn, herr h], hc⟩
theorem set_same {W : Wd} {xs : List Nb} (hn : nodesOf xs = W.ns) {j : Nat} {x : Nb} (hx : xs[j]? = some x) : W.ns.set j x.n = W.ns := by rw [← hn]; exact set_self _ _ _ (nodes_at hx)
theorem has_on4 {X w w' : World} {B g1 g2 : Nat} {W : Wd} {xs : List Nb} {cs : List Cb} (hI : WIn X w B g1 g2 xs W.tip cs W.t) (hn : nodesOf xs = W.ns) (hc : clientsOf cs = W.cs) {j : Nat} {x : Nb} (hx : xs[j]? = some x) {R : Nd × Int} (hp : Post st4 w w' g1 (j * 5) x R.1) (h60 : R.1.u.cells.length = 60) (hup : R.1.up = x.n.up) (herr : R.2 ≠ 0 → R.1 = x.n) :
  WHas X w' B g1 g2 (W.onN (j : Int) R).1 := by
 obtain ⟨ys, h1, h2⟩ := lift4 hI hx hp h60 hup
 exact has_set h1 (by rw [h2, hn]) hc (fun h => by rw [herr h]; exact set_same hn hx)
theorem has_on5 {X w w' : World} {B g1 g2 : Nat} {W : Wd} {xs : List Nb} {cs : List Cb} (hI : WIn X w B g1 g2 xs W.tip cs W.t) (hn : nodesOf xs = W.ns) (hc : clientsOf cs = W.cs) {j : Nat} {x : Nb} (hx : xs[j]? = some x) {R : Nd × Int} (hp : Post st5 w w' g1 (j * 5) x R.1) (h60 : R.1.u.cells.length = 60) (herr : R.2 ≠ 0 → R.1 = x.n) :
  WHas X w' B g1 g2 (W.onN (j : Int) R).1 := by
 obtain ⟨ys, h1, h2⟩ := lift5 hI hx hp h60
 exact has_set h1 (by rw [h2, hn]) hc (fun h => by rw [herr h]; exact set_same hn hx)
theorem has_on3 {X w w' : World} {B g1 g2 : Nat} {W : Wd} {xs : List Nb} {cs : List Cb} (hI : WIn X w B g1 g2 xs W.tip cs W.t) (hn : nodesOf xs = W.ns) (hc : clientsOf cs = W.cs) {j : Nat} {x : Nb} (hx : xs[j]? = some x) {R : Nd × Int} (hp : Post3 w w' g1 (j * 5) x R.1) (h60 : R.1.u.cells.length = 60) (hu : R.1.u = x.n.u) (herr : R.2 ≠ 0 → R.1 = x.n) :
  WHas X w' B g1 g2 (W.onN (j : Int) R).1 := by
 obtain ⟨ys, h1, h2⟩ := lift3 hI hx hp h60 hu
 exact has_set h1 (by rw [h2, hn]) hc (fun h => by rw [herr h]; exact set_same hn hx)
theorem right_sixty {n : Nd} (h : n.ck = 0) : n.u.cells.length = 60 := by
 obtain ⟨_, _, R⟩ := rn_of h
 exact (Un.ck_zero.1 R.uck).2.1
theorem right_fits {n : Nd} (h : n.ck = 0) : n.s.length ≤ topLen ∧ n.w.length ≤ topLen := by
 obtain ⟨_, _, R⟩ := rn_of h
 have := R.fits
 unfold topLen
 constructor <;> omega
theorem boot_sixty {n : Nd} (h : n.ck = 0) : n.boot.1.u.cells.length = 60 := by
 by_cases h0 : n.boot.2 = 0
 · cases hu : n.up with
  | true => rw [Nd.boot, hu, if_pos rfl] at h0; cases h0
  | false => exact right_sixty (boot_ok h hu).2.1
 · rw [boot_err h0]; exact right_sixty h
theorem write_sixty {n : Nd} {r : Rc} (h : n.ck = 0) (hu : n.up = true) : (n.write r).1.u.cells.length = 60 ∧ (n.write r).1.up = n.up := by
 by_cases h0 : (n.write r).2 = 0
 · obtain ⟨_, _, e, h4, _⟩ := write_ok h hu h0
  exact ⟨right_sixty h4, by rw [e, hu]⟩
 · rw [write_err h0]; exact ⟨right_sixty h, rfl⟩
theorem any_sixty {n : Nd} {r : Rc} (h : n.ck = 0) (hu : n.up = true) : (n.writeAny r).1.u.cells.length = 60 ∧ (n.writeAny r).1.up = n.up := by
 unfold Nd.writeAny
 split
 · exact ⟨right_sixty h, rfl⟩
 · exact write_sixty h hu
theorem tear_sixty {n : Nd} {r : Rc} {k : Int} (h : n.ck = 0) : (n.tear r k).1.u.cells.length = 60 ∧ (n.tear r k).1.u = n.u := by
 have e : (n.tear r k).1.u = n.u := by
  unfold Nd.tear
  split
  · rfl
  · split
   · rfl
   · rfl
 exact ⟨by rw [e]; exact right_sixty h, e⟩
theorem klink {xs : List Nb} (hf : Fits (ubsOf xs)) (hc : ckChain ((nodesOf xs).map Nd.u) = 0) (k a ep : Int) (x : En) {r : Rc} {s : En} {d : Int} (hq : linkIn ((nodesOf xs).map Nd.u) k a x ep = (r, s, d)) (W : World) (u : Value) (h : ChAt W u (ubsOf xs)) :
  Calls Tryz.prog 105 #[u, .int .i64 k, .int .i64 a, x.val, .int .i64 ep] W fun e w' => e = .returned (.tuple #[r.val, s.val, .int .i64 d]) ∧ Below W.heap.size W w' := by
 have := chains_any.link u (ubsOf xs) k a ep x W h hf
 rw [ubs_units, linkOf_in hc, hq] at this
 exact this
theorem link_kind {us : List Un} {k a : Int} {x : En} {ep : Int} {r : Rc} {s : En} {d : Int} (h : linkIn us k a x ep = (r, s, d)) : r = Rc.zero ∨ r.k = 1 := by
 have e : (linkIn us k a x ep).1 = r := by rw [h]
 rw [← e]
 unfold linkIn
 split
 · exact Or.inl rfl
 · split
  · exact Or.inl rfl
  · split
   · exact Or.inl rfl
   · split
    · exact Or.inl rfl
    · split
     · exact Or.inl rfl
     · exact Or.inr rfl
theorem fits_right {W : Wd} (hW : RW W) {xs : List Nb} (hn : nodesOf xs = W.ns) : Fits (ubsOf xs) := by
 refine ⟨?_, fun y hy => ?_⟩
 · have h3 := hW.ns3
  rw [← hn, List.length_map] at h3
  rw [List.length_map, h3]; decide
 · obtain ⟨z, hz, rfl⟩ := List.mem_map.1 hy
  have hzn : z.n ∈ W.ns := by rw [← hn]; exact List.mem_map.2 ⟨z, hz, rfl⟩
  obtain ⟨k, hk⟩ := List.getElem?_of_mem hzn
  have := right_sixty (hW.node k _ hk)
  show z.n.u.cells.length ≤ topN
  rw [this]; decide
theorem onN_snd (W : Wd) (k : Int) (R : Nd × Int) : (W.onN k R).2 = R.2 := by
 unfold Wd.onN
 split
 · rfl
 · rename_i h
  have : R.2 = 0 := Classical.byContradiction h
  rw [this]
theorem w_hear {X w : World} {B g1 g2 : Nat} {W : Wd} {xs : List Nb} {cs : List Cb} (hL : Laid w) (hI : WIn X w B g1 g2 xs W.tip cs W.t) (hn : nodesOf xs = W.ns) (hc : clientsOf cs = W.cs) (k j : Nat) (c : Cl) (a1 a2 : Option Addr) (m1 k1 m2 k2 : Nat) (hy : cs[k]? = some ⟨c, .slice a1 m1 k1, .slice a2 m2 k2⟩) {x : Nb} (hx : xs[j]? = some x) (hcl : c.l = (j : Int))
  (hn1 : x.n.s.length ≤ topLen) (hn2 : x.n.w.length ≤ topLen) (r : Rc) (hr : r = Rc.zero ∨ r.k = 1) (s : En) (hok : (x.n.writeAny r).1.u.cells.length = 60 ∧ (x.n.writeAny r).1.up = x.n.up) :
  AnsW 109 #[.pointer (some ⟨g2, k * 12, none⟩), .pointer (some ⟨g1, j * 5, none⟩), r.val, s.val] X w B g1 g2 (hearAt W (k : Int) c x.n r s) := by
 have ht := (hI.st.nodes _ (List.mem_of_getElem? hx)).1
 obtain ⟨⟨u, sf, wt, up⟩, vc, vs, vw⟩ := x
 obtain ⟨a3, m3, k3, rfl⟩ := roomy_sl ht.unit.room
 obtain ⟨a4, m4, k4, rfl⟩ := roomy_sl ht.disk.room1
 obtain ⟨a5, m5, k5, rfl⟩ := roomy_sl ht.disk.room2
 exact w_hear_at hL hI hn hc k j c u sf wt up a1 a2 a3 a4 a5 m1 k1 m2 k2 m3 k3 m4 k4 m5 k5 hy hx hcl hn1 hn2 r hr s (fun _ => hok)
abbrev stR (w : World) (b : Nat) (r : Rc) : World := ((((((((w.setCell ⟨b, 0, none⟩ (.int .i64 r.k)).setCell ⟨b, 1, none⟩ (.int .i64 r.a)).setCell ⟨b, 2, none⟩ (.int .i64 r.p)).setCell ⟨b, 3, none⟩ (.int .i64 r.e.k)).setCell ⟨b, 4, none⟩ (.int .i64 r.e.j)).setCell ⟨b, 5, none⟩ (.int .i64 r.e.v)).setCell ⟨b, 6, none⟩ (.int .i64 r.e.t)).setCell ⟨b, 7, none⟩ (.int .i64 r.e.c))
theorem stR_below {W0 w : World} {b : Nat} (h : Below W0.heap.size W0 w) (hb : W0.heap.size ≤ b) (r : Rc) : Below W0.heap.size W0 (stR w b r) :=
 ((((((((h.setCell (p := ⟨b, 0, none⟩) hb _).setCell (p := ⟨b, 1, none⟩) hb _).setCell (p := ⟨b, 2, none⟩) hb _).setCell (p := ⟨b, 3, none⟩) hb _).setCell (p := ⟨b, 4, none⟩) hb _).setCell (p := ⟨b, 5, none⟩) hb _).setCell (p := ⟨b, 6, none⟩) hb _).setCell (p := ⟨b, 7, none⟩) hb _)
theorem stR_box {w : World} {b : Nat} {v0 v1 v2 v3 v4 v5 v6 v7 : Value} (h : w.heap[b]? = some (.cells #[v0, v1, v2, v3, v4, v5, v6, v7] 94)) (r : Rc) : (stR w b r).heap[b]? = some (boxRc r) := by
 have g0 := Joins.block_setCell h (i := 0) (.int .i64 r.k)
 have g1 := Joins.block_setCell g0 (i := 1) (.int .i64 r.a)
 have g2 := Joins.block_setCell g1 (i := 2) (.int .i64 r.p)
 have g3 := Joins.block_setCell g2 (i := 3) (.int .i64 r.e.k)
 have g4 := Joins.block_setCell g3 (i := 4) (.int .i64 r.e.j)
 have g5 := Joins.block_setCell g4 (i := 5) (.int .i64 r.e.v)
 have g6 := Joins.block_setCell g5 (i := 6) (.int .i64 r.e.t)
 have g7 := Joins.block_setCell g6 (i := 7) (.int .i64 r.e.c)
 simp only [List.setIfInBounds_toArray, List.set_cons_zero, List.set_cons_succ] at g7
 exact g7
theorem stR_other {w : World} {b q : Nat} {o : Obj} (h : w.heap[q]? = some o) (hne : q ≠ b) (r : Rc) : (stR w b r).heap[q]? = some o :=
 other_block (other_block (other_block (other_block (other_block (other_block (other_block (other_block h hne _ _) hne _ _) hne _ _) hne _ _) hne _ _) hne _ _) hne _ _) hne _ _
structure LkB (W0 wx : World) (rb sb : Nat) (r : Rc) (s : En) : Prop where
 rbox : wx.heap[rb]? = some (boxRc r)
 sbox : wx.heap[sb]? = some (boxE s.k s.j s.v s.t s.c)
 below : Below W0.heap.size W0 wx
theorem w_atLink_idle {X w : World} {B g1 g2 : Nat} {W : Wd} {xs : List Nb} {cs : List Cb} (hI : WIn X w B g1 g2 xs W.tip cs W.t) (hn : nodesOf xs = W.ns) (hc : clientsOf cs = W.cs) (k j : Nat) (hk : k < 3) (hj : j < 3) (cp cd : Int) (ce : En) (ca cn : Int) (js : List Jb) (rs : List Rg) (a1 a2 : Option Addr) (m1 k1 m2 k2 : Nat)
  (hy : cs[k]? = some ⟨⟨cp, cd, ce, ca, (j : Int), cn, js, rs⟩, .slice a1 m1 k1, .slice a2 m2 k2⟩) (xk xn xj xp : Int) (xe : En) {x : Nb} (hx : xs[j]? = some x) (hd : (cd != 2) = true) :
  AnsW 74 #[.pointer (some ⟨B, 0, none⟩), Hp.val ⟨xk, (k : Int), xn, xj, xp, xe⟩] X w B g1 g2 (W, 7) := by
 have hbA : Below w.heap.size w (w.alloc (boxH ⟨xk, (k : Int), xn, xj, xp, xe⟩)) := grew (Below.refl _ _) _
 have hcl := w_isClient (hI.later hbA).st (k : Int)
 rw [decide_eq_true (show 0 ≤ (k : Int) ∧ (k : Int) ≤ 2 by omega)] at hcl
 have HI0 : Aside (WIn X (w.alloc (boxH ⟨xk, (k : Int), xn, xj, xp, xe⟩)) B g1 g2 xs W.tip cs W.t) := hI.later hbA
 have HX0 : Aside ((w.alloc (boxH ⟨xk, (k : Int), xn, xj, xp, xe⟩)).heap[w.heap.size]? = some (boxH ⟨xk, (k : Int), xn, xj, xp, xe⟩)) := heap_new _ _
 have HB0 : Aside (Below w.heap.size w (w.alloc (boxH ⟨xk, (k : Int), xn, xj, xp, xe⟩))) := hbA
 have HE : Aside (nodesOf xs = W.ns ∧ clientsOf cs = W.cs) := ⟨hn, hc⟩
 have HY : Aside (cs[k]? = some ⟨⟨cp, cd, ce, ca, (j : Int), cn, js, rs⟩, .slice a1 m1 k1, .slice a2 m2 k2⟩) := hy
 have HX : Aside (xs[j]? = some x) := hx
 have hki : (k : Int) < 3 := by omega
 have hk0 : (0 : Int) ≤ (k : Int) := by omega
 have hji : (j : Int) < 3 := by omega
 have hj0 : (0 : Int) ≤ (j : Int) := by omega
 clear hI hn hc hy hx hbA
 go_enter Tryz.func74, Tryz.ntmps74
 go_upto_region 1 with fail
 generalize w.alloc (boxH ⟨xk, (k : Int), xn, xj, xp, xe⟩) = w1 at *
 have zh := fun i => Joins.cell_of_block HX0.out i
 go_wp2_with fail
 refine hcl.mono ?_
 rintro e wx ⟨rfl, hwx⟩
 obtain rfl : w1 = wx := hwx.symm
 clear hcl
 have zb := HI0.out.boxz
 go_upto_region 3 with fail
 go_region
 have HI1 : Aside (WIn X w1.drew B g1 g2 xs W.tip cs W.t) := HI0.out.later (Below.refl _ _).drew
 clear zb zh HI0 HX0 HB0
 go_upto_region 4 with fail
 generalize w1.drew = w2 at *
 have zb := HI1.out.boxz
 have y1 := HI1.out.cat HY.out (i := 1) rfl
 have y8 := HI1.out.cat HY.out (i := 8) rfl
 clear y8 zb
 go_region
 go_wp2
 go_ret
 exact ⟨rfl, xs, cs, HI1.out.later (Below.refl _ _).drew, HE.out.1, HE.out.2⟩
theorem w_atLink_down {X w : World} {B g1 g2 : Nat} {W : Wd} {xs : List Nb} {cs : List Cb} (hI : WIn X w B g1 g2 xs W.tip cs W.t) (hn : nodesOf xs = W.ns) (hc : clientsOf cs = W.cs) (k j : Nat) (hk : k < 3) (hj : j < 3) (cp cd : Int) (ce : En) (ca cn : Int) (js : List Jb) (rs : List Rg) (a1 a2 : Option Addr) (m1 k1 m2 k2 : Nat)
  (hy : cs[k]? = some ⟨⟨cp, cd, ce, ca, (j : Int), cn, js, rs⟩, .slice a1 m1 k1, .slice a2 m2 k2⟩) (xk xn xj xp : Int) (xe : En) {x : Nb} (hx : xs[j]? = some x) (hd : (cd != 2) = false) (hup : x.n.up = false) :
  AnsW 74 #[.pointer (some ⟨B, 0, none⟩), Hp.val ⟨xk, (k : Int), xn, xj, xp, xe⟩] X w B g1 g2 (W, 7) := by
 have hbA : Below w.heap.size w (w.alloc (boxH ⟨xk, (k : Int), xn, xj, xp, xe⟩)) := grew (Below.refl _ _) _
 have hcl := w_isClient (hI.later hbA).st (k : Int)
 rw [decide_eq_true (show 0 ≤ (k : Int) ∧ (k : Int) ≤ 2 by omega)] at hcl
 have HI0 : Aside (WIn X (w.alloc (boxH ⟨xk, (k : Int), xn, xj, xp, xe⟩)) B g1 g2 xs W.tip cs W.t) := hI.later hbA
 have HX0 : Aside ((w.alloc (boxH ⟨xk, (k : Int), xn, xj, xp, xe⟩)).heap[w.heap.size]? = some (boxH ⟨xk, (k : Int), xn, xj, xp, xe⟩)) := heap_new _ _
 have HB0 : Aside (Below w.heap.size w (w.alloc (boxH ⟨xk, (k : Int), xn, xj, xp, xe⟩))) := hbA
 have HE : Aside (nodesOf xs = W.ns ∧ clientsOf cs = W.cs) := ⟨hn, hc⟩
 have HY : Aside (cs[k]? = some ⟨⟨cp, cd, ce, ca, (j : Int), cn, js, rs⟩, .slice a1 m1 k1, .slice a2 m2 k2⟩) := hy
 have HX : Aside (xs[j]? = some x) := hx
 have hki : (k : Int) < 3 := by omega
 have hk0 : (0 : Int) ≤ (k : Int) := by omega
 have hji : (j : Int) < 3 := by omega
 have hj0 : (0 : Int) ≤ (j : Int) := by omega
 clear hI hn hc hy hx hbA
 go_enter Tryz.func74, Tryz.ntmps74
 go_upto_region 1 with fail
 generalize w.alloc (boxH ⟨xk, (k : Int), xn, xj, xp, xe⟩) = w1 at *
 have zh := fun i => Joins.cell_of_block HX0.out i
 go_wp2_with fail
 refine hcl.mono ?_
 rintro e wx ⟨rfl, hwx⟩
 obtain rfl : w1 = wx := hwx.symm
 clear hcl
 have zb := HI0.out.boxz
 go_upto_region 3 with fail
 go_region
 have HI1 : Aside (WIn X w1.drew B g1 g2 xs W.tip cs W.t) := HI0.out.later (Below.refl _ _).drew
 clear zb zh HI0 HX0 HB0
 go_upto_region 4 with fail
 generalize w1.drew = w2 at *
 have zb := HI1.out.boxz
 have y1 := HI1.out.cat HY.out (i := 1) rfl
 have y8 := HI1.out.cat HY.out (i := 8) rfl
 have x4 := (HI1.out.nat HX.out).cell (i := 4) rfl
 rw [hup] at x4
 go_region
 go_wp2
 go_ret
 exact ⟨rfl, xs, cs, HI1.out.later (Below.refl _ _).drew, HE.out.1, HE.out.2⟩
theorem w_atLink_go {X w : World} {B g1 g2 : Nat} {W : Wd} {xs : List Nb} {cs : List Cb} (hI : WIn X w B g1 g2 xs W.tip cs W.t) (hn : nodesOf xs = W.ns) (hc : clientsOf cs = W.cs) (k j : Nat) (hk : k < 3) (hj : j < 3) (cp cd : Int) (ce : En) (ca cn : Int) (js : List Jb) (rs : List Rg) (a1 a2 : Option Addr) (m1 k1 m2 k2 : Nat)
  (hy : cs[k]? = some ⟨⟨cp, cd, ce, ca, (j : Int), cn, js, rs⟩, .slice a1 m1 k1, .slice a2 m2 k2⟩) (xk xn xj xp : Int) (xe : En) {x : Nb} (hx : xs[j]? = some x) (hL : Laid w) (hW : RW W) (hd : (cd != 2) = false) (hup : x.n.up = true) :
  AnsW 74 #[.pointer (some ⟨B, 0, none⟩), Hp.val ⟨xk, (k : Int), xn, xj, xp, xe⟩] X w B g1 g2 (goAt W ⟨xk, (k : Int), xn, xj, xp, xe⟩ (⟨cp, cd, ce, ca, (j : Int), cn, js, rs⟩ : Cl) x.n (linkIn W.us (j : Int) ca ce cp)) := by
 obtain ⟨⟨r, s, d⟩, hq⟩ : ∃ q, linkIn W.us (j : Int) ca ce cp = q := ⟨_, rfl⟩
 have hrk := link_kind hq
 rw [hq]
 have hus : W.us = (nodesOf xs).map Nd.u := by rw [Wd.us, hn]
 have hnck : x.n.ck = 0 := hW.node j x.n (by rw [← hn]; exact nodes_at hx)
 have hsub := any_sixty (r := r) hnck hup
 have htear := fun kk => tear_sixty (r := r) (k := kk) hnck
 have hfit := right_fits hnck
 have ku0 : ∀ V, Below w.heap.size w V → Calls Tryz.prog 106 #[.slice (some ⟨g1, 0, none⟩) 3 3] V fun e w' => ∃ u, e = .returned u ∧ ChAt w' u (ubsOf xs) ∧ Below V.heap.size V w' := fun V hV => by
  have hJ := hI.later hV
  exact w_units _ xs V (by have := slOf_lit (c := 3) Nb.five hJ.st.nrow rfl; rwa [hJ.three] at this) (by rw [hI.three]; omega) (fun y hy => (hJ.st.nodes y hy).1)
 have kl : Aside (∀ V u, ChAt V u (ubsOf xs) → Calls Tryz.prog 105 #[u, .int .i64 (j : Int), .int .i64 ca, ce.val, .int .i64 cp] V fun e w' => e = .returned (.tuple #[r.val, s.val, .int .i64 d]) ∧ Below V.heap.size V w') := fun V u hu =>
  klink (fits_right hW hn) (by rw [← hus]; exact hW.chain) (j : Int) ca cp ce (by rw [← hus]; exact hq) V u hu
 have KU : Aside _ := ku0
 have HLd : Aside (Laid w) := hL
 have HRK : Aside (r = Rc.zero ∨ r.k = 1) := hrk
 have HFT : Aside (x.n.s.length ≤ topLen ∧ x.n.w.length ≤ topLen) := hfit
 have HSX : Aside ((x.n.writeAny r).1.u.cells.length = 60 ∧ (x.n.writeAny r).1.up = x.n.up) := hsub
 have HTR : Aside (∀ kk, (x.n.tear r kk).1.u.cells.length = 60 ∧ (x.n.tear r kk).1.u = x.n.u) := htear
 obtain ⟨rr, HRR⟩ : ∃ rr, Hid (goAt W ⟨xk, (k : Int), xn, xj, xp, xe⟩ (⟨cp, cd, ce, ca, (j : Int), cn, js, rs⟩ : Cl) x.n (r, s, d) = rr) := ⟨_, rfl⟩
 rw [HRR.out]
 have HC : Hid ((d ≠ 0 ∧ rr = (W, d)) ∨ (d = 0 ∧ ((xk = 15 ∧ rr = W.onN (j : Int) (x.n.tear r xn)) ∨ (¬ xk = 15 ∧ ((xk = 5 ∧ rr = W.onN (j : Int) (x.n.writeAny r)) ∨ (¬ xk = 5 ∧ rr = hearAt W (k : Int) (⟨cp, cd, ce, ca, (j : Int), cn, js, rs⟩ : Cl) x.n r s)))))) := by
  have := HRR.out
  rw [goAt] at this
  simp only at this
  by_cases h0 : d = 0
  · rw [if_neg (not_not_intro h0)] at this
   refine Or.inr ⟨h0, ?_⟩
   by_cases h1 : xk = 15
   · rw [if_pos h1] at this; exact Or.inl ⟨h1, this.symm⟩
   · rw [if_neg h1] at this
    refine Or.inr ⟨h1, ?_⟩
    by_cases h2 : xk = 5
    · rw [if_pos h2] at this; exact Or.inl ⟨h2, this.symm⟩
    · rw [if_neg h2] at this; exact Or.inr ⟨h2, this.symm⟩
  · rw [if_pos h0] at this; exact Or.inl ⟨h0, this.symm⟩
 have hbA : Below w.heap.size w (w.alloc (boxH ⟨xk, (k : Int), xn, xj, xp, xe⟩)) := grew (Below.refl _ _) _
 have hcl := w_isClient (hI.later hbA).st (k : Int)
 rw [decide_eq_true (show 0 ≤ (k : Int) ∧ (k : Int) ≤ 2 by omega)] at hcl
 have HI0 : Aside (WIn X (w.alloc (boxH ⟨xk, (k : Int), xn, xj, xp, xe⟩)) B g1 g2 xs W.tip cs W.t) := hI.later hbA
 have HX0 : Aside ((w.alloc (boxH ⟨xk, (k : Int), xn, xj, xp, xe⟩)).heap[w.heap.size]? = some (boxH ⟨xk, (k : Int), xn, xj, xp, xe⟩)) := heap_new _ _
 have HB0 : Aside (Below w.heap.size w (w.alloc (boxH ⟨xk, (k : Int), xn, xj, xp, xe⟩))) := hbA
 have HE : Aside (nodesOf xs = W.ns ∧ clientsOf cs = W.cs) := ⟨hn, hc⟩
 have HY : Aside (cs[k]? = some ⟨⟨cp, cd, ce, ca, (j : Int), cn, js, rs⟩, .slice a1 m1 k1, .slice a2 m2 k2⟩) := hy
 have HX : Aside (xs[j]? = some x) := hx
 have hki : (k : Int) < 3 := by omega
 have hk0 : (0 : Int) ≤ (k : Int) := by omega
 have hji : (j : Int) < 3 := by omega
 have hj0 : (0 : Int) ≤ (j : Int) := by omega
 clear hbA HRR ku0 hL hrk hfit hsub htear hus hnck hq hI hn hc hW hx hy
 go_enter Tryz.func74, Tryz.ntmps74
 go_upto_region 1 with fail
 generalize w.alloc (boxH ⟨xk, (k : Int), xn, xj, xp, xe⟩) = w1 at *
 have zh := fun i => Joins.cell_of_block HX0.out i
 go_wp2_with fail
 refine hcl.mono ?_
 rintro e wx ⟨rfl, hwx⟩
 obtain rfl : w1 = wx := hwx.symm
 clear hcl
 have zb := HI0.out.boxz
 go_upto_region 3 with fail
 go_region
 have HI2 : Aside (WIn X w1.drew B g1 g2 xs W.tip cs W.t) := HI0.out.later (Below.refl _ _).drew
 have HX2 : Aside (w1.drew.heap[w.heap.size]? = some (boxH ⟨xk, (k : Int), xn, xj, xp, xe⟩)) := HX0.out
 have HB2 : Aside (Below w.heap.size w w1.drew) := HB0.out.drew
 clear zb zh HI0 HX0 HB0
 go_upto_region 4 with fail
 generalize w1.drew = w2 at *
 have zb := HI2.out.boxz
 have y1 := HI2.out.cat HY.out (i := 1) rfl
 have y8 := HI2.out.cat HY.out (i := 8) rfl
 have x4 := (HI2.out.nat HX.out).cell (i := 4) rfl
 rw [hup] at x4
 go_region
 have HI3 : Aside (WIn X w2.drew B g1 g2 xs W.tip cs W.t) := HI2.out.later (Below.refl _ _).drew
 have HX3 : Aside (w2.drew.heap[w.heap.size]? = some (boxH ⟨xk, (k : Int), xn, xj, xp, xe⟩)) := HX2.out
 have HB3 : Aside (Below w.heap.size w w2.drew) := HB2.out.drew
 clear zb y1 y8 x4 HI2 HX2 HB2
 go_upto_region 6 with fail
 generalize w2.drew = w3 at *
 have zb := HI3.out.boxz
 have y8 := HI3.out.cat HY.out (i := 8) rfl
 go_region
 have HI4 : Aside (WIn X w3.drew B g1 g2 xs W.tip cs W.t) := HI3.out.later (Below.refl _ _).drew
 have HX4 : Aside (w3.drew.heap[w.heap.size]? = some (boxH ⟨xk, (k : Int), xn, xj, xp, xe⟩)) := HX3.out
 have HB4 : Aside (Below w.heap.size w w3.drew) := HB3.out.drew
 clear zb y8 HI3 HX3 HB3
 go_upto_region 7 with fail
 generalize w3.drew = V4 at *
 have ku : Aside (∀ V, Below V4.heap.size V4 V → Calls Tryz.prog 106 #[.slice (some ⟨g1, 0, none⟩) 3 3] V fun e w' => ∃ u, e = .returned u ∧ ChAt w' u (ubsOf xs) ∧ Below V.heap.size V w') := fun V hV => KU.out V (HB4.out.trans (hV.mono HB4.out.size))
 clear KU
 go_cut [7, 8, 9] from 50 to 75 (fun s7 s8 s9 wx => ∃ rb sb : Nat, s7 = .pointer (some ⟨rb, 0, none⟩) ∧ s8 = .pointer (some ⟨sb, 0, none⟩) ∧ s9 = .int .i64 d ∧ LkB V4 wx rb sb r s)
 case first =>
  refine wp_region_held_drew (S := fun W' => Below V4.heap.size V4 W') (by kernel_rfl) ((Below.refl _ _).drew) (fun hHeld => ?_)
  refine tk 0 (v := ?_) rfl (by kernel_rfl) (by rfl) (by assumption) (fun _ _ _ h => h) ?_ ?_
  rotate_left
  · intro w0 hSw; clear hSw; go_simp; first | done | with_reducible rfl
  try simp only [Act.put, qa, qb, qc]
  refine tk 1 (v := ?_) rfl (by kernel_rfl) (by rfl) (by assumption) (fun _ _ _ h => h) ?_ ?_
  rotate_left
  · intro w0 hSw; clear hSw; go_simp; first | done | with_reducible rfl
  try simp only [Act.put, qa, qb, qc]
  refine tk 2 (v := ?_) rfl (by kernel_rfl) (by rfl) (by assumption) (fun _ _ _ h => h) ?_ ?_
  rotate_left
  · intro w0 hSw; clear hSw; go_simp; first | done | with_reducible rfl
  try simp only [Act.put, qa, qb, qc]
  refine tk 3 (v := ?_) rfl (by kernel_rfl) (by rfl) (by assumption) (fun _ _ _ h => h) ?_ ?_
  rotate_left
  · intro w0 hSw; have z := (HI4.out.later hSw).boxz; clear hSw; go_simp; first | done | with_reducible rfl
  try simp only [Act.put, qa, qb, qc]
  refine tk 5 (v := ?_) rfl (by kernel_rfl) (by rfl) (by assumption) (fun _ _ _ h => h) ?_ ?_
  rotate_left
  · intro w0 hSw; clear hSw; go_simp; first | done | with_reducible rfl
  try simp only [Act.put, qa, qb, qc]
  refine tk 6 (v := ?_) rfl (by kernel_rfl) (by rfl) (by assumption) (fun _ _ _ h => h) ?_ ?_
  rotate_left
  · intro w0 hSw; clear hSw; go_simp; first | done | with_reducible rfl
  try simp only [Act.put, qa, qb, qc]
  refine tk 7 (v := ?_) rfl (by kernel_rfl) (by rfl) (by assumption) (fun _ _ _ h => h) ?_ ?_
  rotate_left
  · intro w0 hSw; clear hSw; go_simp; first | done | with_reducible rfl
  try simp only [Act.put, qa, qb, qc]
  refine tk 8 (v := ?_) rfl (by kernel_rfl) (by rfl) (by assumption) (fun _ _ _ h => h) ?_ ?_
  rotate_left
  · intro w0 hSw; have y8 := (HI4.out.later hSw).cat HY.out (i := 8) rfl; clear hSw; go_simp; first | done | with_reducible rfl
  try simp only [Act.put, qa, qb, qc]
  refine tk 9 (v := ?_) rfl (by kernel_rfl) (by rfl) (by assumption) (fun _ _ _ h => h) ?_ ?_
  rotate_left
  · intro w0 hSw; clear hSw; go_simp; first | done | with_reducible rfl
  try simp only [Act.put, qa, qb, qc]
  refine tk 10 (v := ?_) rfl (by kernel_rfl) (by rfl) (by assumption) (fun _ _ _ h => h) ?_ ?_
  rotate_left
  · intro w0 hSw; clear hSw; go_simp; first | done | with_reducible rfl
  try simp only [Act.put, qa, qb, qc]
  refine tk 11 (v := ?_) rfl (by kernel_rfl) (by rfl) (by assumption) (fun _ _ _ h => h) ?_ ?_
  rotate_left
  · intro w0 hSw; clear hSw; go_simp; first | done | with_reducible rfl
  try simp only [Act.put, qa, qb, qc]
  refine tk 12 (v := ?_) rfl (by kernel_rfl) (by rfl) (by assumption) (fun _ _ _ h => h) ?_ ?_
  rotate_left
  · intro w0 hSw; have y7 := (HI4.out.later hSw).cat HY.out (i := 7) rfl; clear hSw; go_simp; first | done | with_reducible rfl
  try simp only [Act.put, qa, qb, qc]
  refine tk 13 (v := ?_) rfl (by kernel_rfl) (by rfl) (by assumption) (fun _ _ _ h => h) ?_ ?_
  rotate_left
  · intro w0 hSw; clear hSw; go_simp; first | done | with_reducible rfl
  try simp only [Act.put, qa, qb, qc]
  refine tk 14 (v := ?_) rfl (by kernel_rfl) (by rfl) (by assumption) (fun _ _ _ h => h) ?_ ?_
  rotate_left
  · intro w0 hSw; clear hSw; go_simp; first | done | with_reducible rfl
  try simp only [Act.put, qa, qb, qc]
  refine tk 15 (v := ?_) rfl (by kernel_rfl) (by rfl) (by assumption) (fun _ _ _ h => h) ?_ ?_
  rotate_left
  · intro w0 hSw; clear hSw; go_simp; first | done | with_reducible rfl
  try simp only [Act.put, qa, qb, qc]
  refine tk 16 (v := ?_) rfl (by kernel_rfl) (by rfl) (by assumption) (fun _ _ _ h => h) ?_ ?_
  rotate_left
  · intro w0 hSw; have y2 := (HI4.out.later hSw).cat HY.out (i := 2) rfl; have y3 := (HI4.out.later hSw).cat HY.out (i := 3) rfl; have y4 := (HI4.out.later hSw).cat HY.out (i := 4) rfl; have y5 := (HI4.out.later hSw).cat HY.out (i := 5) rfl; have y6 := (HI4.out.later hSw).cat HY.out (i := 6) rfl; clear hSw; go_simp; first | done | with_reducible rfl
  try simp only [Act.put, qa, qb, qc]
  refine tk 17 (v := ?_) rfl (by kernel_rfl) (by rfl) (by assumption) (fun _ _ _ h => h) ?_ ?_
  rotate_left
  · intro w0 hSw; clear hSw; go_simp; first | done | with_reducible rfl
  try simp only [Act.put, qa, qb, qc]
  refine tk 18 (v := ?_) rfl (by kernel_rfl) (by rfl) (by assumption) (fun _ _ _ h => h) ?_ ?_
  rotate_left
  · intro w0 hSw; clear hSw; go_simp; first | done | with_reducible rfl
  try simp only [Act.put, qa, qb, qc]
  refine tk 19 (v := ?_) rfl (by kernel_rfl) (by rfl) (by assumption) (fun _ _ _ h => h) ?_ ?_
  rotate_left
  · intro w0 hSw; clear hSw; go_simp; first | done | with_reducible rfl
  try simp only [Act.put, qa, qb, qc]
  refine tk 20 (v := ?_) rfl (by kernel_rfl) (by rfl) (by assumption) (fun _ _ _ h => h) ?_ ?_
  rotate_left
  · intro w0 hSw; have y0 := (HI4.out.later hSw).cat HY.out (i := 0) rfl; simp only [Nat.add_zero] at y0; clear hSw; go_simp; first | done | with_reducible rfl
  try simp only [Act.put, qa, qb, qc]
  refine wpAnyH_ready (rs := [4, 26, 27]) (by kernel_rfl) (by simp) ?_
  refine AllReadyH.cons (o := ?o4r) ?hi4r ?step4r (AllReadyH.cons (o := ?o26r) ?hi26r ?step26r (AllReadyH.cons (o := ?o27r) ?hi27r ?step27r AllReadyH.nil))
  case hi4r => (simp only [List.getElem?_toArray, List.getElem?_cons_succ, List.getElem?_cons_zero]; rfl)
  case hi26r => (simp only [List.getElem?_toArray, List.getElem?_cons_succ, List.getElem?_cons_zero]; rfl)
  case hi27r => (simp only [List.getElem?_toArray, List.getElem?_cons_succ, List.getElem?_cons_zero]; rfl)
  case step4r =>
   intro K hK
   go_simp
   refine (ku.out _ hHeld).mono ?_
   rintro e w1 ⟨u, rfl, hch, hb1⟩
   have hH1 : Below V4.heap.size V4 w1 := step_below1 hHeld hb1
   refine hK.out _ _ hH1 (fun hHeld => ?_)
   clear hK K
   try simp only [Act.put, qa, qb, qc]
   refine wpAnyH_ready (rs := [21, 26, 27]) (by kernel_rfl) (by simp) ?_
   refine AllReadyH.cons (o := ?o21ra) ?hi21ra ?step21ra (AllReadyH.cons (o := ?o26ra) ?hi26ra ?step26ra (AllReadyH.cons (o := ?o27ra) ?hi27ra ?step27ra AllReadyH.nil))
   case hi21ra => (simp only [List.getElem?_toArray, List.getElem?_cons_succ, List.getElem?_cons_zero]; rfl)
   case hi26ra => (simp only [List.getElem?_toArray, List.getElem?_cons_succ, List.getElem?_cons_zero]; rfl)
   case hi27ra => (simp only [List.getElem?_toArray, List.getElem?_cons_succ, List.getElem?_cons_zero]; rfl)
   case step21ra =>
    intro K hK
    go_simp
    refine (kl.out _ _ hch).mono ?_
    rintro e w2 ⟨rfl, hb2⟩
    have hH2 : Below V4.heap.size V4 w2 := step_below1 hHeld hb2
    have hch2 := ChAt.later hch hb2
    refine hK.out _ _ hH2 (fun hHeld => ?_)
    clear hK K
    try simp only [Act.put, qa, qb, qc]
    refine tk 22 (v := ?_) rfl (by kernel_rfl) (by rfl) (by assumption) (fun _ _ _ h => h) ?_ ?_
    rotate_left
    · intro w0 hSw; clear hSw; go_simp; first | done | with_reducible rfl
    try simp only [Act.put, qa, qb, qc]
    refine tk 23 (v := ?_) rfl (by kernel_rfl) (by rfl) (by assumption) (fun _ _ _ h => h) ?_ ?_
    rotate_left
    · intro w0 hSw; clear hSw; go_simp; first | done | with_reducible rfl
    try simp only [Act.put, qa, qb, qc]
    refine tk 24 (v := ?_) rfl (by kernel_rfl) (by rfl) (by assumption) (fun _ _ _ h => h) ?_ ?_
    rotate_left
    · intro w0 hSw; clear hSw; go_simp; first | done | with_reducible rfl
    try simp only [Act.put, qa, qb, qc]
    refine tk 25 (v := ?_) rfl (by kernel_rfl) (by rfl) (by assumption) (fun _ _ _ h => h) ?_ ?_
    rotate_left
    · intro w0 hSw; clear hSw; go_simp; first | done | with_reducible rfl
    try simp only [Act.put, qa, qb, qc]
    refine wpAnyH_ready (rs := [26, 27]) (by kernel_rfl) (by simp) ?_
    refine AllReadyH.cons (o := ?o26raa) ?hi26raa ?step26raa (AllReadyH.cons (o := ?o27raa) ?hi27raa ?step27raa AllReadyH.nil)
    case hi26raa => (simp only [List.getElem?_toArray, List.getElem?_cons_succ, List.getElem?_cons_zero]; rfl)
    case hi27raa => (simp only [List.getElem?_toArray, List.getElem?_cons_succ, List.getElem?_cons_zero]; rfl)
    case step26raa =>
     intro K hK
     go_simp
     have lqr : V4.heap.size ≤ w2.heap.size := hHeld.size
     refine hK.out _ _ (grew hHeld _) (fun hHeld => ?_)
     clear hK K
     try simp only [Act.put, qa, qb, qc]
     have qr3 : (w2.alloc (.cells #[Value.int .i64 0, .int .i64 0, .int .i64 0, .int .i64 0, .int .i64 0, .int .i64 0, .int .i64 0, .int .i64 0] 94)).heap[w2.heap.size]? = some (.cells #[Value.int .i64 0, .int .i64 0, .int .i64 0, .int .i64 0, .int .i64 0, .int .i64 0, .int .i64 0, .int .i64 0] 94) := heap_new _ _
     have hch3 : _ := ChAt.later hch2 (show Below w2.heap.size w2 (w2.alloc (.cells #[Value.int .i64 0, .int .i64 0, .int .i64 0, .int .i64 0, .int .i64 0, .int .i64 0, .int .i64 0, .int .i64 0] 94)) from grew (Below.refl _ _) _)
     generalize w2.alloc (.cells #[Value.int .i64 0, .int .i64 0, .int .i64 0, .int .i64 0, .int .i64 0, .int .i64 0, .int .i64 0, .int .i64 0] 94) = w3 at *
     generalize w2.heap.size = dqr at *
     refine rdy 27 (by kernel_rfl) rfl (fun K hK => ?_)
     go_simp
     have lqe : V4.heap.size ≤ w3.heap.size := hHeld.size
     refine hK.out _ _ (grew hHeld _) (fun hHeld => ?_)
     clear hK K
     try simp only [Act.put, qa, qb, qc]
     have qe4 : (w3.alloc (boxE 0 0 0 0 0)).heap[w3.heap.size]? = some (boxE 0 0 0 0 0) := heap_new _ _
     have nqrqe : dqr ≠ w3.heap.size := by have := heap_lt qr3; omega
     have hch4 : _ := ChAt.later hch3 (show Below w3.heap.size w3 (w3.alloc (boxE 0 0 0 0 0)) from grew (Below.refl _ _) _)
     have qr4 : _ := heap_below qr3 (show Below w3.heap.size w3 (w3.alloc (boxE 0 0 0 0 0)) from grew (Below.refl _ _) _) (heap_lt qr3)
     generalize w3.alloc (boxE 0 0 0 0 0) = w4 at *
     generalize w3.heap.size = dqe at *
     have c1 := fun i => Joins.cell_of_block qr4 i
     have f1 := fun i => Joins.unfrozen_of_block qr4 i
     have r2 : (((((((((w4.setCell ⟨dqr, 0, none⟩ (.int .i64 r.k)).setCell ⟨dqr, 1, none⟩ (.int .i64 r.a)).setCell ⟨dqr, 2, none⟩ (.int .i64 r.p)).setCell ⟨dqr, 3, none⟩ (.int .i64 r.e.k)).setCell ⟨dqr, 4, none⟩ (.int .i64 r.e.j)).setCell ⟨dqr, 5, none⟩ (.int .i64 r.e.v)).setCell ⟨dqr, 6, none⟩ (.int .i64 r.e.t)).setCell ⟨dqr, 7, none⟩ (.int .i64 r.e.c))).heap[dqr]? = some (boxRc r) := stR_box qr4 r
     have e2 : (((((((((w4.setCell ⟨dqr, 0, none⟩ (.int .i64 r.k)).setCell ⟨dqr, 1, none⟩ (.int .i64 r.a)).setCell ⟨dqr, 2, none⟩ (.int .i64 r.p)).setCell ⟨dqr, 3, none⟩ (.int .i64 r.e.k)).setCell ⟨dqr, 4, none⟩ (.int .i64 r.e.j)).setCell ⟨dqr, 5, none⟩ (.int .i64 r.e.v)).setCell ⟨dqr, 6, none⟩ (.int .i64 r.e.t)).setCell ⟨dqr, 7, none⟩ (.int .i64 r.e.c))).heap[dqe]? = some (boxE 0 0 0 0 0) := stR_other qe4 nqrqe.symm r
     refine rdy 28 (by kernel_rfl) rfl (fun K hK => ?_)
     go_simp
     refine hK.out _ _ (stR_below hHeld lqr r) (fun hHeld => ?_)
     clear hK K
     try simp only [Act.put, qa, qb, qc]
     have hHz : Below V4.heap.size V4 (((((((((w4.setCell ⟨dqr, 0, none⟩ (.int .i64 r.k)).setCell ⟨dqr, 1, none⟩ (.int .i64 r.a)).setCell ⟨dqr, 2, none⟩ (.int .i64 r.p)).setCell ⟨dqr, 3, none⟩ (.int .i64 r.e.k)).setCell ⟨dqr, 4, none⟩ (.int .i64 r.e.j)).setCell ⟨dqr, 5, none⟩ (.int .i64 r.e.v)).setCell ⟨dqr, 6, none⟩ (.int .i64 r.e.t)).setCell ⟨dqr, 7, none⟩ (.int .i64 r.e.c))) := hHeld
     clear hHeld
     generalize ((((((((w4.setCell ⟨dqr, 0, none⟩ (.int .i64 r.k)).setCell ⟨dqr, 1, none⟩ (.int .i64 r.a)).setCell ⟨dqr, 2, none⟩ (.int .i64 r.p)).setCell ⟨dqr, 3, none⟩ (.int .i64 r.e.k)).setCell ⟨dqr, 4, none⟩ (.int .i64 r.e.j)).setCell ⟨dqr, 5, none⟩ (.int .i64 r.e.v)).setCell ⟨dqr, 6, none⟩ (.int .i64 r.e.t)).setCell ⟨dqr, 7, none⟩ (.int .i64 r.e.c)) = wz at *
     have hHeld := hHz
     clear c1 f1
     have c2 := fun i => Joins.cell_of_block e2 i
     have f2 := fun i => Joins.unfrozen_of_block e2 i
     refine rdy 29 (by kernel_rfl) rfl (fun K hK => ?_)
     go_simp
     refine hK.out _ _ (stE_below hHeld lqe s) (fun hHeld => ?_)
     clear hK K
     try simp only [Act.put, qa, qb, qc]
     refine rdy 30 (by kernel_rfl) rfl (fun K hK => ?_)
     go_simp
     refine hK.out _ _ (hHeld) (fun hHeld => ?_)
     clear hK K
     try simp only [Act.put, qa, qb, qc]
     refine wpAnyH_done (by kernel_rfl) ?_ _
     go_wp2_with fail
     go_meet
     case rel => exact ⟨_, _, rfl, rfl, rfl, ⟨stE_other r2 nqrqe s, stE_box e2 s, hHeld⟩⟩
    case step27raa =>
     intro K hK
     go_simp
     have lqe : V4.heap.size ≤ w2.heap.size := hHeld.size
     refine hK.out _ _ (grew hHeld _) (fun hHeld => ?_)
     clear hK K
     try simp only [Act.put, qa, qb, qc]
     have qe3 : (w2.alloc (boxE 0 0 0 0 0)).heap[w2.heap.size]? = some (boxE 0 0 0 0 0) := heap_new _ _
     have hch3 : _ := ChAt.later hch2 (show Below w2.heap.size w2 (w2.alloc (boxE 0 0 0 0 0)) from grew (Below.refl _ _) _)
     generalize w2.alloc (boxE 0 0 0 0 0) = w3 at *
     generalize w2.heap.size = dqe at *
     refine rdy 26 (by kernel_rfl) rfl (fun K hK => ?_)
     go_simp
     have lqr : V4.heap.size ≤ w3.heap.size := hHeld.size
     refine hK.out _ _ (grew hHeld _) (fun hHeld => ?_)
     clear hK K
     try simp only [Act.put, qa, qb, qc]
     have qr4 : (w3.alloc (.cells #[Value.int .i64 0, .int .i64 0, .int .i64 0, .int .i64 0, .int .i64 0, .int .i64 0, .int .i64 0, .int .i64 0] 94)).heap[w3.heap.size]? = some (.cells #[Value.int .i64 0, .int .i64 0, .int .i64 0, .int .i64 0, .int .i64 0, .int .i64 0, .int .i64 0, .int .i64 0] 94) := heap_new _ _
     have nqeqr : dqe ≠ w3.heap.size := by have := heap_lt qe3; omega
     have hch4 : _ := ChAt.later hch3 (show Below w3.heap.size w3 (w3.alloc (.cells #[Value.int .i64 0, .int .i64 0, .int .i64 0, .int .i64 0, .int .i64 0, .int .i64 0, .int .i64 0, .int .i64 0] 94)) from grew (Below.refl _ _) _)
     have qe4 : _ := heap_below qe3 (show Below w3.heap.size w3 (w3.alloc (.cells #[Value.int .i64 0, .int .i64 0, .int .i64 0, .int .i64 0, .int .i64 0, .int .i64 0, .int .i64 0, .int .i64 0] 94)) from grew (Below.refl _ _) _) (heap_lt qe3)
     generalize w3.alloc (.cells #[Value.int .i64 0, .int .i64 0, .int .i64 0, .int .i64 0, .int .i64 0, .int .i64 0, .int .i64 0, .int .i64 0] 94) = w4 at *
     generalize w3.heap.size = dqr at *
     have c1 := fun i => Joins.cell_of_block qr4 i
     have f1 := fun i => Joins.unfrozen_of_block qr4 i
     have r2 : (((((((((w4.setCell ⟨dqr, 0, none⟩ (.int .i64 r.k)).setCell ⟨dqr, 1, none⟩ (.int .i64 r.a)).setCell ⟨dqr, 2, none⟩ (.int .i64 r.p)).setCell ⟨dqr, 3, none⟩ (.int .i64 r.e.k)).setCell ⟨dqr, 4, none⟩ (.int .i64 r.e.j)).setCell ⟨dqr, 5, none⟩ (.int .i64 r.e.v)).setCell ⟨dqr, 6, none⟩ (.int .i64 r.e.t)).setCell ⟨dqr, 7, none⟩ (.int .i64 r.e.c))).heap[dqr]? = some (boxRc r) := stR_box qr4 r
     have e2 : (((((((((w4.setCell ⟨dqr, 0, none⟩ (.int .i64 r.k)).setCell ⟨dqr, 1, none⟩ (.int .i64 r.a)).setCell ⟨dqr, 2, none⟩ (.int .i64 r.p)).setCell ⟨dqr, 3, none⟩ (.int .i64 r.e.k)).setCell ⟨dqr, 4, none⟩ (.int .i64 r.e.j)).setCell ⟨dqr, 5, none⟩ (.int .i64 r.e.v)).setCell ⟨dqr, 6, none⟩ (.int .i64 r.e.t)).setCell ⟨dqr, 7, none⟩ (.int .i64 r.e.c))).heap[dqe]? = some (boxE 0 0 0 0 0) := stR_other qe4 nqeqr r
     refine rdy 28 (by kernel_rfl) rfl (fun K hK => ?_)
     go_simp
     refine hK.out _ _ (stR_below hHeld lqr r) (fun hHeld => ?_)
     clear hK K
     try simp only [Act.put, qa, qb, qc]
     have hHz : Below V4.heap.size V4 (((((((((w4.setCell ⟨dqr, 0, none⟩ (.int .i64 r.k)).setCell ⟨dqr, 1, none⟩ (.int .i64 r.a)).setCell ⟨dqr, 2, none⟩ (.int .i64 r.p)).setCell ⟨dqr, 3, none⟩ (.int .i64 r.e.k)).setCell ⟨dqr, 4, none⟩ (.int .i64 r.e.j)).setCell ⟨dqr, 5, none⟩ (.int .i64 r.e.v)).setCell ⟨dqr, 6, none⟩ (.int .i64 r.e.t)).setCell ⟨dqr, 7, none⟩ (.int .i64 r.e.c))) := hHeld
     clear hHeld
     generalize ((((((((w4.setCell ⟨dqr, 0, none⟩ (.int .i64 r.k)).setCell ⟨dqr, 1, none⟩ (.int .i64 r.a)).setCell ⟨dqr, 2, none⟩ (.int .i64 r.p)).setCell ⟨dqr, 3, none⟩ (.int .i64 r.e.k)).setCell ⟨dqr, 4, none⟩ (.int .i64 r.e.j)).setCell ⟨dqr, 5, none⟩ (.int .i64 r.e.v)).setCell ⟨dqr, 6, none⟩ (.int .i64 r.e.t)).setCell ⟨dqr, 7, none⟩ (.int .i64 r.e.c)) = wz at *
     have hHeld := hHz
     clear c1 f1
     have c2 := fun i => Joins.cell_of_block e2 i
     have f2 := fun i => Joins.unfrozen_of_block e2 i
     refine rdy 29 (by kernel_rfl) rfl (fun K hK => ?_)
     go_simp
     refine hK.out _ _ (stE_below hHeld lqe s) (fun hHeld => ?_)
     clear hK K
     try simp only [Act.put, qa, qb, qc]
     refine rdy 30 (by kernel_rfl) rfl (fun K hK => ?_)
     go_simp
     refine hK.out _ _ (hHeld) (fun hHeld => ?_)
     clear hK K
     try simp only [Act.put, qa, qb, qc]
     refine wpAnyH_done (by kernel_rfl) ?_ _
     go_wp2_with fail
     go_meet
     case rel => exact ⟨_, _, rfl, rfl, rfl, ⟨stE_other r2 nqeqr.symm s, stE_box e2 s, hHeld⟩⟩
   case step26ra =>
    intro K hK
    go_simp
    have lqr : V4.heap.size ≤ w1.heap.size := hHeld.size
    refine hK.out _ _ (grew hHeld _) (fun hHeld => ?_)
    clear hK K
    try simp only [Act.put, qa, qb, qc]
    have qr2 : (w1.alloc (.cells #[Value.int .i64 0, .int .i64 0, .int .i64 0, .int .i64 0, .int .i64 0, .int .i64 0, .int .i64 0, .int .i64 0] 94)).heap[w1.heap.size]? = some (.cells #[Value.int .i64 0, .int .i64 0, .int .i64 0, .int .i64 0, .int .i64 0, .int .i64 0, .int .i64 0, .int .i64 0] 94) := heap_new _ _
    have hch2 : _ := ChAt.later hch (show Below w1.heap.size w1 (w1.alloc (.cells #[Value.int .i64 0, .int .i64 0, .int .i64 0, .int .i64 0, .int .i64 0, .int .i64 0, .int .i64 0, .int .i64 0] 94)) from grew (Below.refl _ _) _)
    generalize w1.alloc (.cells #[Value.int .i64 0, .int .i64 0, .int .i64 0, .int .i64 0, .int .i64 0, .int .i64 0, .int .i64 0, .int .i64 0] 94) = w2 at *
    generalize w1.heap.size = dqr at *
    refine wpAnyH_ready (rs := [21, 27]) (by kernel_rfl) (by simp) ?_
    refine AllReadyH.cons (o := ?o21rab) ?hi21rab ?step21rab (AllReadyH.cons (o := ?o27rab) ?hi27rab ?step27rab AllReadyH.nil)
    case hi21rab => (simp only [List.getElem?_toArray, List.getElem?_cons_succ, List.getElem?_cons_zero]; rfl)
    case hi27rab => (simp only [List.getElem?_toArray, List.getElem?_cons_succ, List.getElem?_cons_zero]; rfl)
    case step21rab =>
     intro K hK
     go_simp
     refine (kl.out _ _ hch2).mono ?_
     rintro e w3 ⟨rfl, hb3⟩
     have hH3 : Below V4.heap.size V4 w3 := step_below1 hHeld hb3
     have hch3 := ChAt.later hch2 hb3
     have qr3 := heap_below qr2 hb3 (heap_lt qr2)
     refine hK.out _ _ hH3 (fun hHeld => ?_)
     clear hK K
     try simp only [Act.put, qa, qb, qc]
     refine tk 22 (v := ?_) rfl (by kernel_rfl) (by rfl) (by assumption) (fun _ _ _ h => h) ?_ ?_
     rotate_left
     · intro w0 hSw; clear hSw; go_simp; first | done | with_reducible rfl
     try simp only [Act.put, qa, qb, qc]
     refine tk 23 (v := ?_) rfl (by kernel_rfl) (by rfl) (by assumption) (fun _ _ _ h => h) ?_ ?_
     rotate_left
     · intro w0 hSw; clear hSw; go_simp; first | done | with_reducible rfl
     try simp only [Act.put, qa, qb, qc]
     refine tk 24 (v := ?_) rfl (by kernel_rfl) (by rfl) (by assumption) (fun _ _ _ h => h) ?_ ?_
     rotate_left
     · intro w0 hSw; clear hSw; go_simp; first | done | with_reducible rfl
     try simp only [Act.put, qa, qb, qc]
     refine tk 25 (v := ?_) rfl (by kernel_rfl) (by rfl) (by assumption) (fun _ _ _ h => h) ?_ ?_
     rotate_left
     · intro w0 hSw; clear hSw; go_simp; first | done | with_reducible rfl
     try simp only [Act.put, qa, qb, qc]
     refine rdy 27 (by kernel_rfl) rfl (fun K hK => ?_)
     go_simp
     have lqe : V4.heap.size ≤ w3.heap.size := hHeld.size
     refine hK.out _ _ (grew hHeld _) (fun hHeld => ?_)
     clear hK K
     try simp only [Act.put, qa, qb, qc]
     have qe4 : (w3.alloc (boxE 0 0 0 0 0)).heap[w3.heap.size]? = some (boxE 0 0 0 0 0) := heap_new _ _
     have nqrqe : dqr ≠ w3.heap.size := by have := heap_lt qr3; omega
     have hch4 : _ := ChAt.later hch3 (show Below w3.heap.size w3 (w3.alloc (boxE 0 0 0 0 0)) from grew (Below.refl _ _) _)
     have qr4 : _ := heap_below qr3 (show Below w3.heap.size w3 (w3.alloc (boxE 0 0 0 0 0)) from grew (Below.refl _ _) _) (heap_lt qr3)
     generalize w3.alloc (boxE 0 0 0 0 0) = w4 at *
     generalize w3.heap.size = dqe at *
     have c1 := fun i => Joins.cell_of_block qr4 i
     have f1 := fun i => Joins.unfrozen_of_block qr4 i
     have r2 : (((((((((w4.setCell ⟨dqr, 0, none⟩ (.int .i64 r.k)).setCell ⟨dqr, 1, none⟩ (.int .i64 r.a)).setCell ⟨dqr, 2, none⟩ (.int .i64 r.p)).setCell ⟨dqr, 3, none⟩ (.int .i64 r.e.k)).setCell ⟨dqr, 4, none⟩ (.int .i64 r.e.j)).setCell ⟨dqr, 5, none⟩ (.int .i64 r.e.v)).setCell ⟨dqr, 6, none⟩ (.int .i64 r.e.t)).setCell ⟨dqr, 7, none⟩ (.int .i64 r.e.c))).heap[dqr]? = some (boxRc r) := stR_box qr4 r
     have e2 : (((((((((w4.setCell ⟨dqr, 0, none⟩ (.int .i64 r.k)).setCell ⟨dqr, 1, none⟩ (.int .i64 r.a)).setCell ⟨dqr, 2, none⟩ (.int .i64 r.p)).setCell ⟨dqr, 3, none⟩ (.int .i64 r.e.k)).setCell ⟨dqr, 4, none⟩ (.int .i64 r.e.j)).setCell ⟨dqr, 5, none⟩ (.int .i64 r.e.v)).setCell ⟨dqr, 6, none⟩ (.int .i64 r.e.t)).setCell ⟨dqr, 7, none⟩ (.int .i64 r.e.c))).heap[dqe]? = some (boxE 0 0 0 0 0) := stR_other qe4 nqrqe.symm r
     refine rdy 28 (by kernel_rfl) rfl (fun K hK => ?_)
     go_simp
     refine hK.out _ _ (stR_below hHeld lqr r) (fun hHeld => ?_)
     clear hK K
     try simp only [Act.put, qa, qb, qc]
     have hHz : Below V4.heap.size V4 (((((((((w4.setCell ⟨dqr, 0, none⟩ (.int .i64 r.k)).setCell ⟨dqr, 1, none⟩ (.int .i64 r.a)).setCell ⟨dqr, 2, none⟩ (.int .i64 r.p)).setCell ⟨dqr, 3, none⟩ (.int .i64 r.e.k)).setCell ⟨dqr, 4, none⟩ (.int .i64 r.e.j)).setCell ⟨dqr, 5, none⟩ (.int .i64 r.e.v)).setCell ⟨dqr, 6, none⟩ (.int .i64 r.e.t)).setCell ⟨dqr, 7, none⟩ (.int .i64 r.e.c))) := hHeld
     clear hHeld
     generalize ((((((((w4.setCell ⟨dqr, 0, none⟩ (.int .i64 r.k)).setCell ⟨dqr, 1, none⟩ (.int .i64 r.a)).setCell ⟨dqr, 2, none⟩ (.int .i64 r.p)).setCell ⟨dqr, 3, none⟩ (.int .i64 r.e.k)).setCell ⟨dqr, 4, none⟩ (.int .i64 r.e.j)).setCell ⟨dqr, 5, none⟩ (.int .i64 r.e.v)).setCell ⟨dqr, 6, none⟩ (.int .i64 r.e.t)).setCell ⟨dqr, 7, none⟩ (.int .i64 r.e.c)) = wz at *
     have hHeld := hHz
     clear c1 f1
     have c2 := fun i => Joins.cell_of_block e2 i
     have f2 := fun i => Joins.unfrozen_of_block e2 i
     refine rdy 29 (by kernel_rfl) rfl (fun K hK => ?_)
     go_simp
     refine hK.out _ _ (stE_below hHeld lqe s) (fun hHeld => ?_)
     clear hK K
     try simp only [Act.put, qa, qb, qc]
     refine rdy 30 (by kernel_rfl) rfl (fun K hK => ?_)
     go_simp
     refine hK.out _ _ (hHeld) (fun hHeld => ?_)
     clear hK K
     try simp only [Act.put, qa, qb, qc]
     refine wpAnyH_done (by kernel_rfl) ?_ _
     go_wp2_with fail
     go_meet
     case rel => exact ⟨_, _, rfl, rfl, rfl, ⟨stE_other r2 nqrqe s, stE_box e2 s, hHeld⟩⟩
    case step27rab =>
     intro K hK
     go_simp
     have lqe : V4.heap.size ≤ w2.heap.size := hHeld.size
     refine hK.out _ _ (grew hHeld _) (fun hHeld => ?_)
     clear hK K
     try simp only [Act.put, qa, qb, qc]
     have qe3 : (w2.alloc (boxE 0 0 0 0 0)).heap[w2.heap.size]? = some (boxE 0 0 0 0 0) := heap_new _ _
     have nqrqe : dqr ≠ w2.heap.size := by have := heap_lt qr2; omega
     have hch3 : _ := ChAt.later hch2 (show Below w2.heap.size w2 (w2.alloc (boxE 0 0 0 0 0)) from grew (Below.refl _ _) _)
     have qr3 : _ := heap_below qr2 (show Below w2.heap.size w2 (w2.alloc (boxE 0 0 0 0 0)) from grew (Below.refl _ _) _) (heap_lt qr2)
     generalize w2.alloc (boxE 0 0 0 0 0) = w3 at *
     generalize w2.heap.size = dqe at *
     refine rdy 21 (by kernel_rfl) rfl (fun K hK => ?_)
     go_simp
     refine (kl.out _ _ hch3).mono ?_
     rintro e w4 ⟨rfl, hb4⟩
     have hH4 : Below V4.heap.size V4 w4 := step_below1 hHeld hb4
     have hch4 := ChAt.later hch3 hb4
     have qr4 := heap_below qr3 hb4 (heap_lt qr3)
     have qe4 := heap_below qe3 hb4 (heap_lt qe3)
     refine hK.out _ _ hH4 (fun hHeld => ?_)
     clear hK K
     try simp only [Act.put, qa, qb, qc]
     refine tk 22 (v := ?_) rfl (by kernel_rfl) (by rfl) (by assumption) (fun _ _ _ h => h) ?_ ?_
     rotate_left
     · intro w0 hSw; clear hSw; go_simp; first | done | with_reducible rfl
     try simp only [Act.put, qa, qb, qc]
     refine tk 23 (v := ?_) rfl (by kernel_rfl) (by rfl) (by assumption) (fun _ _ _ h => h) ?_ ?_
     rotate_left
     · intro w0 hSw; clear hSw; go_simp; first | done | with_reducible rfl
     try simp only [Act.put, qa, qb, qc]
     refine tk 24 (v := ?_) rfl (by kernel_rfl) (by rfl) (by assumption) (fun _ _ _ h => h) ?_ ?_
     rotate_left
     · intro w0 hSw; clear hSw; go_simp; first | done | with_reducible rfl
     try simp only [Act.put, qa, qb, qc]
     refine tk 25 (v := ?_) rfl (by kernel_rfl) (by rfl) (by assumption) (fun _ _ _ h => h) ?_ ?_
     rotate_left
     · intro w0 hSw; clear hSw; go_simp; first | done | with_reducible rfl
     try simp only [Act.put, qa, qb, qc]
     have c1 := fun i => Joins.cell_of_block qr4 i
     have f1 := fun i => Joins.unfrozen_of_block qr4 i
     have r2 : (((((((((w4.setCell ⟨dqr, 0, none⟩ (.int .i64 r.k)).setCell ⟨dqr, 1, none⟩ (.int .i64 r.a)).setCell ⟨dqr, 2, none⟩ (.int .i64 r.p)).setCell ⟨dqr, 3, none⟩ (.int .i64 r.e.k)).setCell ⟨dqr, 4, none⟩ (.int .i64 r.e.j)).setCell ⟨dqr, 5, none⟩ (.int .i64 r.e.v)).setCell ⟨dqr, 6, none⟩ (.int .i64 r.e.t)).setCell ⟨dqr, 7, none⟩ (.int .i64 r.e.c))).heap[dqr]? = some (boxRc r) := stR_box qr4 r
     have e2 : (((((((((w4.setCell ⟨dqr, 0, none⟩ (.int .i64 r.k)).setCell ⟨dqr, 1, none⟩ (.int .i64 r.a)).setCell ⟨dqr, 2, none⟩ (.int .i64 r.p)).setCell ⟨dqr, 3, none⟩ (.int .i64 r.e.k)).setCell ⟨dqr, 4, none⟩ (.int .i64 r.e.j)).setCell ⟨dqr, 5, none⟩ (.int .i64 r.e.v)).setCell ⟨dqr, 6, none⟩ (.int .i64 r.e.t)).setCell ⟨dqr, 7, none⟩ (.int .i64 r.e.c))).heap[dqe]? = some (boxE 0 0 0 0 0) := stR_other qe4 nqrqe.symm r
     refine rdy 28 (by kernel_rfl) rfl (fun K hK => ?_)
     go_simp
     refine hK.out _ _ (stR_below hHeld lqr r) (fun hHeld => ?_)
     clear hK K
     try simp only [Act.put, qa, qb, qc]
     have hHz : Below V4.heap.size V4 (((((((((w4.setCell ⟨dqr, 0, none⟩ (.int .i64 r.k)).setCell ⟨dqr, 1, none⟩ (.int .i64 r.a)).setCell ⟨dqr, 2, none⟩ (.int .i64 r.p)).setCell ⟨dqr, 3, none⟩ (.int .i64 r.e.k)).setCell ⟨dqr, 4, none⟩ (.int .i64 r.e.j)).setCell ⟨dqr, 5, none⟩ (.int .i64 r.e.v)).setCell ⟨dqr, 6, none⟩ (.int .i64 r.e.t)).setCell ⟨dqr, 7, none⟩ (.int .i64 r.e.c))) := hHeld
     clear hHeld
     generalize ((((((((w4.setCell ⟨dqr, 0, none⟩ (.int .i64 r.k)).setCell ⟨dqr, 1, none⟩ (.int .i64 r.a)).setCell ⟨dqr, 2, none⟩ (.int .i64 r.p)).setCell ⟨dqr, 3, none⟩ (.int .i64 r.e.k)).setCell ⟨dqr, 4, none⟩ (.int .i64 r.e.j)).setCell ⟨dqr, 5, none⟩ (.int .i64 r.e.v)).setCell ⟨dqr, 6, none⟩ (.int .i64 r.e.t)).setCell ⟨dqr, 7, none⟩ (.int .i64 r.e.c)) = wz at *
     have hHeld := hHz
     clear c1 f1
     have c2 := fun i => Joins.cell_of_block e2 i
     have f2 := fun i => Joins.unfrozen_of_block e2 i
     refine rdy 29 (by kernel_rfl) rfl (fun K hK => ?_)
     go_simp
     refine hK.out _ _ (stE_below hHeld lqe s) (fun hHeld => ?_)
     clear hK K
     try simp only [Act.put, qa, qb, qc]
     refine rdy 30 (by kernel_rfl) rfl (fun K hK => ?_)
     go_simp
     refine hK.out _ _ (hHeld) (fun hHeld => ?_)
     clear hK K
     try simp only [Act.put, qa, qb, qc]
     refine wpAnyH_done (by kernel_rfl) ?_ _
     go_wp2_with fail
     go_meet
     case rel => exact ⟨_, _, rfl, rfl, rfl, ⟨stE_other r2 nqrqe s, stE_box e2 s, hHeld⟩⟩
   case step27ra =>
    intro K hK
    go_simp
    have lqe : V4.heap.size ≤ w1.heap.size := hHeld.size
    refine hK.out _ _ (grew hHeld _) (fun hHeld => ?_)
    clear hK K
    try simp only [Act.put, qa, qb, qc]
    have qe2 : (w1.alloc (boxE 0 0 0 0 0)).heap[w1.heap.size]? = some (boxE 0 0 0 0 0) := heap_new _ _
    have hch2 : _ := ChAt.later hch (show Below w1.heap.size w1 (w1.alloc (boxE 0 0 0 0 0)) from grew (Below.refl _ _) _)
    generalize w1.alloc (boxE 0 0 0 0 0) = w2 at *
    generalize w1.heap.size = dqe at *
    refine wpAnyH_ready (rs := [21, 26]) (by kernel_rfl) (by simp) ?_
    refine AllReadyH.cons (o := ?o21rac) ?hi21rac ?step21rac (AllReadyH.cons (o := ?o26rac) ?hi26rac ?step26rac AllReadyH.nil)
    case hi21rac => (simp only [List.getElem?_toArray, List.getElem?_cons_succ, List.getElem?_cons_zero]; rfl)
    case hi26rac => (simp only [List.getElem?_toArray, List.getElem?_cons_succ, List.getElem?_cons_zero]; rfl)
    case step21rac =>
     intro K hK
     go_simp
     refine (kl.out _ _ hch2).mono ?_
     rintro e w3 ⟨rfl, hb3⟩
     have hH3 : Below V4.heap.size V4 w3 := step_below1 hHeld hb3
     have hch3 := ChAt.later hch2 hb3
     have qe3 := heap_below qe2 hb3 (heap_lt qe2)
     refine hK.out _ _ hH3 (fun hHeld => ?_)
     clear hK K
     try simp only [Act.put, qa, qb, qc]
     refine tk 22 (v := ?_) rfl (by kernel_rfl) (by rfl) (by assumption) (fun _ _ _ h => h) ?_ ?_
     rotate_left
     · intro w0 hSw; clear hSw; go_simp; first | done | with_reducible rfl
     try simp only [Act.put, qa, qb, qc]
     refine tk 23 (v := ?_) rfl (by kernel_rfl) (by rfl) (by assumption) (fun _ _ _ h => h) ?_ ?_
     rotate_left
     · intro w0 hSw; clear hSw; go_simp; first | done | with_reducible rfl
     try simp only [Act.put, qa, qb, qc]
     refine tk 24 (v := ?_) rfl (by kernel_rfl) (by rfl) (by assumption) (fun _ _ _ h => h) ?_ ?_
     rotate_left
     · intro w0 hSw; clear hSw; go_simp; first | done | with_reducible rfl
     try simp only [Act.put, qa, qb, qc]
     refine tk 25 (v := ?_) rfl (by kernel_rfl) (by rfl) (by assumption) (fun _ _ _ h => h) ?_ ?_
     rotate_left
     · intro w0 hSw; clear hSw; go_simp; first | done | with_reducible rfl
     try simp only [Act.put, qa, qb, qc]
     refine rdy 26 (by kernel_rfl) rfl (fun K hK => ?_)
     go_simp
     have lqr : V4.heap.size ≤ w3.heap.size := hHeld.size
     refine hK.out _ _ (grew hHeld _) (fun hHeld => ?_)
     clear hK K
     try simp only [Act.put, qa, qb, qc]
     have qr4 : (w3.alloc (.cells #[Value.int .i64 0, .int .i64 0, .int .i64 0, .int .i64 0, .int .i64 0, .int .i64 0, .int .i64 0, .int .i64 0] 94)).heap[w3.heap.size]? = some (.cells #[Value.int .i64 0, .int .i64 0, .int .i64 0, .int .i64 0, .int .i64 0, .int .i64 0, .int .i64 0, .int .i64 0] 94) := heap_new _ _
     have nqeqr : dqe ≠ w3.heap.size := by have := heap_lt qe3; omega
     have hch4 : _ := ChAt.later hch3 (show Below w3.heap.size w3 (w3.alloc (.cells #[Value.int .i64 0, .int .i64 0, .int .i64 0, .int .i64 0, .int .i64 0, .int .i64 0, .int .i64 0, .int .i64 0] 94)) from grew (Below.refl _ _) _)
     have qe4 : _ := heap_below qe3 (show Below w3.heap.size w3 (w3.alloc (.cells #[Value.int .i64 0, .int .i64 0, .int .i64 0, .int .i64 0, .int .i64 0, .int .i64 0, .int .i64 0, .int .i64 0] 94)) from grew (Below.refl _ _) _) (heap_lt qe3)
     generalize w3.alloc (.cells #[Value.int .i64 0, .int .i64 0, .int .i64 0, .int .i64 0, .int .i64 0, .int .i64 0, .int .i64 0, .int .i64 0] 94) = w4 at *
     generalize w3.heap.size = dqr at *
     have c1 := fun i => Joins.cell_of_block qr4 i
     have f1 := fun i => Joins.unfrozen_of_block qr4 i
     have r2 : (((((((((w4.setCell ⟨dqr, 0, none⟩ (.int .i64 r.k)).setCell ⟨dqr, 1, none⟩ (.int .i64 r.a)).setCell ⟨dqr, 2, none⟩ (.int .i64 r.p)).setCell ⟨dqr, 3, none⟩ (.int .i64 r.e.k)).setCell ⟨dqr, 4, none⟩ (.int .i64 r.e.j)).setCell ⟨dqr, 5, none⟩ (.int .i64 r.e.v)).setCell ⟨dqr, 6, none⟩ (.int .i64 r.e.t)).setCell ⟨dqr, 7, none⟩ (.int .i64 r.e.c))).heap[dqr]? = some (boxRc r) := stR_box qr4 r
     have e2 : (((((((((w4.setCell ⟨dqr, 0, none⟩ (.int .i64 r.k)).setCell ⟨dqr, 1, none⟩ (.int .i64 r.a)).setCell ⟨dqr, 2, none⟩ (.int .i64 r.p)).setCell ⟨dqr, 3, none⟩ (.int .i64 r.e.k)).setCell ⟨dqr, 4, none⟩ (.int .i64 r.e.j)).setCell ⟨dqr, 5, none⟩ (.int .i64 r.e.v)).setCell ⟨dqr, 6, none⟩ (.int .i64 r.e.t)).setCell ⟨dqr, 7, none⟩ (.int .i64 r.e.c))).heap[dqe]? = some (boxE 0 0 0 0 0) := stR_other qe4 nqeqr r
     refine rdy 28 (by kernel_rfl) rfl (fun K hK => ?_)
     go_simp
     refine hK.out _ _ (stR_below hHeld lqr r) (fun hHeld => ?_)
     clear hK K
     try simp only [Act.put, qa, qb, qc]
     have hHz : Below V4.heap.size V4 (((((((((w4.setCell ⟨dqr, 0, none⟩ (.int .i64 r.k)).setCell ⟨dqr, 1, none⟩ (.int .i64 r.a)).setCell ⟨dqr, 2, none⟩ (.int .i64 r.p)).setCell ⟨dqr, 3, none⟩ (.int .i64 r.e.k)).setCell ⟨dqr, 4, none⟩ (.int .i64 r.e.j)).setCell ⟨dqr, 5, none⟩ (.int .i64 r.e.v)).setCell ⟨dqr, 6, none⟩ (.int .i64 r.e.t)).setCell ⟨dqr, 7, none⟩ (.int .i64 r.e.c))) := hHeld
     clear hHeld
     generalize ((((((((w4.setCell ⟨dqr, 0, none⟩ (.int .i64 r.k)).setCell ⟨dqr, 1, none⟩ (.int .i64 r.a)).setCell ⟨dqr, 2, none⟩ (.int .i64 r.p)).setCell ⟨dqr, 3, none⟩ (.int .i64 r.e.k)).setCell ⟨dqr, 4, none⟩ (.int .i64 r.e.j)).setCell ⟨dqr, 5, none⟩ (.int .i64 r.e.v)).setCell ⟨dqr, 6, none⟩ (.int .i64 r.e.t)).setCell ⟨dqr, 7, none⟩ (.int .i64 r.e.c)) = wz at *
     have hHeld := hHz
     clear c1 f1
     have c2 := fun i => Joins.cell_of_block e2 i
     have f2 := fun i => Joins.unfrozen_of_block e2 i
     refine rdy 29 (by kernel_rfl) rfl (fun K hK => ?_)
     go_simp
     refine hK.out _ _ (stE_below hHeld lqe s) (fun hHeld => ?_)
     clear hK K
     try simp only [Act.put, qa, qb, qc]
     refine rdy 30 (by kernel_rfl) rfl (fun K hK => ?_)
     go_simp
     refine hK.out _ _ (hHeld) (fun hHeld => ?_)
     clear hK K
     try simp only [Act.put, qa, qb, qc]
     refine wpAnyH_done (by kernel_rfl) ?_ _
     go_wp2_with fail
     go_meet
     case rel => exact ⟨_, _, rfl, rfl, rfl, ⟨stE_other r2 nqeqr.symm s, stE_box e2 s, hHeld⟩⟩
    case step26rac =>
     intro K hK
     go_simp
     have lqr : V4.heap.size ≤ w2.heap.size := hHeld.size
     refine hK.out _ _ (grew hHeld _) (fun hHeld => ?_)
     clear hK K
     try simp only [Act.put, qa, qb, qc]
     have qr3 : (w2.alloc (.cells #[Value.int .i64 0, .int .i64 0, .int .i64 0, .int .i64 0, .int .i64 0, .int .i64 0, .int .i64 0, .int .i64 0] 94)).heap[w2.heap.size]? = some (.cells #[Value.int .i64 0, .int .i64 0, .int .i64 0, .int .i64 0, .int .i64 0, .int .i64 0, .int .i64 0, .int .i64 0] 94) := heap_new _ _
     have nqeqr : dqe ≠ w2.heap.size := by have := heap_lt qe2; omega
     have hch3 : _ := ChAt.later hch2 (show Below w2.heap.size w2 (w2.alloc (.cells #[Value.int .i64 0, .int .i64 0, .int .i64 0, .int .i64 0, .int .i64 0, .int .i64 0, .int .i64 0, .int .i64 0] 94)) from grew (Below.refl _ _) _)
     have qe3 : _ := heap_below qe2 (show Below w2.heap.size w2 (w2.alloc (.cells #[Value.int .i64 0, .int .i64 0, .int .i64 0, .int .i64 0, .int .i64 0, .int .i64 0, .int .i64 0, .int .i64 0] 94)) from grew (Below.refl _ _) _) (heap_lt qe2)
     generalize w2.alloc (.cells #[Value.int .i64 0, .int .i64 0, .int .i64 0, .int .i64 0, .int .i64 0, .int .i64 0, .int .i64 0, .int .i64 0] 94) = w3 at *
     generalize w2.heap.size = dqr at *
     refine rdy 21 (by kernel_rfl) rfl (fun K hK => ?_)
     go_simp
     refine (kl.out _ _ hch3).mono ?_
     rintro e w4 ⟨rfl, hb4⟩
     have hH4 : Below V4.heap.size V4 w4 := step_below1 hHeld hb4
     have hch4 := ChAt.later hch3 hb4
     have qe4 := heap_below qe3 hb4 (heap_lt qe3)
     have qr4 := heap_below qr3 hb4 (heap_lt qr3)
     refine hK.out _ _ hH4 (fun hHeld => ?_)
     clear hK K
     try simp only [Act.put, qa, qb, qc]
     refine tk 22 (v := ?_) rfl (by kernel_rfl) (by rfl) (by assumption) (fun _ _ _ h => h) ?_ ?_
     rotate_left
     · intro w0 hSw; clear hSw; go_simp; first | done | with_reducible rfl
     try simp only [Act.put, qa, qb, qc]
     refine tk 23 (v := ?_) rfl (by kernel_rfl) (by rfl) (by assumption) (fun _ _ _ h => h) ?_ ?_
     rotate_left
     · intro w0 hSw; clear hSw; go_simp; first | done | with_reducible rfl
     try simp only [Act.put, qa, qb, qc]
     refine tk 24 (v := ?_) rfl (by kernel_rfl) (by rfl) (by assumption) (fun _ _ _ h => h) ?_ ?_
     rotate_left
     · intro w0 hSw; clear hSw; go_simp; first | done | with_reducible rfl
     try simp only [Act.put, qa, qb, qc]
     refine tk 25 (v := ?_) rfl (by kernel_rfl) (by rfl) (by assumption) (fun _ _ _ h => h) ?_ ?_
     rotate_left
     · intro w0 hSw; clear hSw; go_simp; first | done | with_reducible rfl
     try simp only [Act.put, qa, qb, qc]
     have c1 := fun i => Joins.cell_of_block qr4 i
     have f1 := fun i => Joins.unfrozen_of_block qr4 i
     have r2 : (((((((((w4.setCell ⟨dqr, 0, none⟩ (.int .i64 r.k)).setCell ⟨dqr, 1, none⟩ (.int .i64 r.a)).setCell ⟨dqr, 2, none⟩ (.int .i64 r.p)).setCell ⟨dqr, 3, none⟩ (.int .i64 r.e.k)).setCell ⟨dqr, 4, none⟩ (.int .i64 r.e.j)).setCell ⟨dqr, 5, none⟩ (.int .i64 r.e.v)).setCell ⟨dqr, 6, none⟩ (.int .i64 r.e.t)).setCell ⟨dqr, 7, none⟩ (.int .i64 r.e.c))).heap[dqr]? = some (boxRc r) := stR_box qr4 r
     have e2 : (((((((((w4.setCell ⟨dqr, 0, none⟩ (.int .i64 r.k)).setCell ⟨dqr, 1, none⟩ (.int .i64 r.a)).setCell ⟨dqr, 2, none⟩ (.int .i64 r.p)).setCell ⟨dqr, 3, none⟩ (.int .i64 r.e.k)).setCell ⟨dqr, 4, none⟩ (.int .i64 r.e.j)).setCell ⟨dqr, 5, none⟩ (.int .i64 r.e.v)).setCell ⟨dqr, 6, none⟩ (.int .i64 r.e.t)).setCell ⟨dqr, 7, none⟩ (.int .i64 r.e.c))).heap[dqe]? = some (boxE 0 0 0 0 0) := stR_other qe4 nqeqr r
     refine rdy 28 (by kernel_rfl) rfl (fun K hK => ?_)
     go_simp
     refine hK.out _ _ (stR_below hHeld lqr r) (fun hHeld => ?_)
     clear hK K
     try simp only [Act.put, qa, qb, qc]
     have hHz : Below V4.heap.size V4 (((((((((w4.setCell ⟨dqr, 0, none⟩ (.int .i64 r.k)).setCell ⟨dqr, 1, none⟩ (.int .i64 r.a)).setCell ⟨dqr, 2, none⟩ (.int .i64 r.p)).setCell ⟨dqr, 3, none⟩ (.int .i64 r.e.k)).setCell ⟨dqr, 4, none⟩ (.int .i64 r.e.j)).setCell ⟨dqr, 5, none⟩ (.int .i64 r.e.v)).setCell ⟨dqr, 6, none⟩ (.int .i64 r.e.t)).setCell ⟨dqr, 7, none⟩ (.int .i64 r.e.c))) := hHeld
     clear hHeld
     generalize ((((((((w4.setCell ⟨dqr, 0, none⟩ (.int .i64 r.k)).setCell ⟨dqr, 1, none⟩ (.int .i64 r.a)).setCell ⟨dqr, 2, none⟩ (.int .i64 r.p)).setCell ⟨dqr, 3, none⟩ (.int .i64 r.e.k)).setCell ⟨dqr, 4, none⟩ (.int .i64 r.e.j)).setCell ⟨dqr, 5, none⟩ (.int .i64 r.e.v)).setCell ⟨dqr, 6, none⟩ (.int .i64 r.e.t)).setCell ⟨dqr, 7, none⟩ (.int .i64 r.e.c)) = wz at *
     have hHeld := hHz
     clear c1 f1
     have c2 := fun i => Joins.cell_of_block e2 i
     have f2 := fun i => Joins.unfrozen_of_block e2 i
     refine rdy 29 (by kernel_rfl) rfl (fun K hK => ?_)
     go_simp
     refine hK.out _ _ (stE_below hHeld lqe s) (fun hHeld => ?_)
     clear hK K
     try simp only [Act.put, qa, qb, qc]
     refine rdy 30 (by kernel_rfl) rfl (fun K hK => ?_)
     go_simp
     refine hK.out _ _ (hHeld) (fun hHeld => ?_)
     clear hK K
     try simp only [Act.put, qa, qb, qc]
     refine wpAnyH_done (by kernel_rfl) ?_ _
     go_wp2_with fail
     go_meet
     case rel => exact ⟨_, _, rfl, rfl, rfl, ⟨stE_other r2 nqeqr.symm s, stE_box e2 s, hHeld⟩⟩
  case step26r =>
   intro K hK
   go_simp
   have lqr : V4.heap.size ≤ V4.heap.size := Nat.le_refl _
   refine hK.out _ _ (grew hHeld _) (fun hHeld => ?_)
   clear hK K
   try simp only [Act.put, qa, qb, qc]
   have qr1 : ((V4.alloc (.cells #[Value.int .i64 0, .int .i64 0, .int .i64 0, .int .i64 0, .int .i64 0, .int .i64 0, .int .i64 0, .int .i64 0] 94)).drew).heap[V4.heap.size]? = some (.cells #[Value.int .i64 0, .int .i64 0, .int .i64 0, .int .i64 0, .int .i64 0, .int .i64 0, .int .i64 0, .int .i64 0] 94) := heap_new _ _
   generalize (V4.alloc (.cells #[Value.int .i64 0, .int .i64 0, .int .i64 0, .int .i64 0, .int .i64 0, .int .i64 0, .int .i64 0, .int .i64 0] 94)).drew = w1 at *
   refine wpAnyH_ready (rs := [4, 27]) (by kernel_rfl) (by simp) ?_
   refine AllReadyH.cons (o := ?o4rb) ?hi4rb ?step4rb (AllReadyH.cons (o := ?o27rb) ?hi27rb ?step27rb AllReadyH.nil)
   case hi4rb => (simp only [List.getElem?_toArray, List.getElem?_cons_succ, List.getElem?_cons_zero]; rfl)
   case hi27rb => (simp only [List.getElem?_toArray, List.getElem?_cons_succ, List.getElem?_cons_zero]; rfl)
   case step4rb =>
    intro K hK
    go_simp
    refine (ku.out _ hHeld).mono ?_
    rintro e w2 ⟨u, rfl, hch, hb2⟩
    have hH2 : Below V4.heap.size V4 w2 := step_below1 hHeld hb2
    have qr2 := heap_below qr1 hb2 (heap_lt qr1)
    refine hK.out _ _ hH2 (fun hHeld => ?_)
    clear hK K
    try simp only [Act.put, qa, qb, qc]
    refine wpAnyH_ready (rs := [21, 27]) (by kernel_rfl) (by simp) ?_
    refine AllReadyH.cons (o := ?o21rba) ?hi21rba ?step21rba (AllReadyH.cons (o := ?o27rba) ?hi27rba ?step27rba AllReadyH.nil)
    case hi21rba => (simp only [List.getElem?_toArray, List.getElem?_cons_succ, List.getElem?_cons_zero]; rfl)
    case hi27rba => (simp only [List.getElem?_toArray, List.getElem?_cons_succ, List.getElem?_cons_zero]; rfl)
    case step21rba =>
     intro K hK
     go_simp
     refine (kl.out _ _ hch).mono ?_
     rintro e w3 ⟨rfl, hb3⟩
     have hH3 : Below V4.heap.size V4 w3 := step_below1 hHeld hb3
     have qr3 := heap_below qr2 hb3 (heap_lt qr2)
     have hch3 := ChAt.later hch hb3
     refine hK.out _ _ hH3 (fun hHeld => ?_)
     clear hK K
     try simp only [Act.put, qa, qb, qc]
     refine tk 22 (v := ?_) rfl (by kernel_rfl) (by rfl) (by assumption) (fun _ _ _ h => h) ?_ ?_
     rotate_left
     · intro w0 hSw; clear hSw; go_simp; first | done | with_reducible rfl
     try simp only [Act.put, qa, qb, qc]
     refine tk 23 (v := ?_) rfl (by kernel_rfl) (by rfl) (by assumption) (fun _ _ _ h => h) ?_ ?_
     rotate_left
     · intro w0 hSw; clear hSw; go_simp; first | done | with_reducible rfl
     try simp only [Act.put, qa, qb, qc]
     refine tk 24 (v := ?_) rfl (by kernel_rfl) (by rfl) (by assumption) (fun _ _ _ h => h) ?_ ?_
     rotate_left
     · intro w0 hSw; clear hSw; go_simp; first | done | with_reducible rfl
     try simp only [Act.put, qa, qb, qc]
     refine tk 25 (v := ?_) rfl (by kernel_rfl) (by rfl) (by assumption) (fun _ _ _ h => h) ?_ ?_
     rotate_left
     · intro w0 hSw; clear hSw; go_simp; first | done | with_reducible rfl
     try simp only [Act.put, qa, qb, qc]
     refine rdy 27 (by kernel_rfl) rfl (fun K hK => ?_)
     go_simp
     have lqe : V4.heap.size ≤ w3.heap.size := hHeld.size
     refine hK.out _ _ (grew hHeld _) (fun hHeld => ?_)
     clear hK K
     try simp only [Act.put, qa, qb, qc]
     have qe4 : (w3.alloc (boxE 0 0 0 0 0)).heap[w3.heap.size]? = some (boxE 0 0 0 0 0) := heap_new _ _
     have nqrqe : V4.heap.size ≠ w3.heap.size := by have := heap_lt qr3; omega
     have qr4 : _ := heap_below qr3 (show Below w3.heap.size w3 (w3.alloc (boxE 0 0 0 0 0)) from grew (Below.refl _ _) _) (heap_lt qr3)
     have hch4 : _ := ChAt.later hch3 (show Below w3.heap.size w3 (w3.alloc (boxE 0 0 0 0 0)) from grew (Below.refl _ _) _)
     generalize w3.alloc (boxE 0 0 0 0 0) = w4 at *
     generalize w3.heap.size = dqe at *
     have c1 := fun i => Joins.cell_of_block qr4 i
     have f1 := fun i => Joins.unfrozen_of_block qr4 i
     have r2 : (((((((((w4.setCell ⟨V4.heap.size, 0, none⟩ (.int .i64 r.k)).setCell ⟨V4.heap.size, 1, none⟩ (.int .i64 r.a)).setCell ⟨V4.heap.size, 2, none⟩ (.int .i64 r.p)).setCell ⟨V4.heap.size, 3, none⟩ (.int .i64 r.e.k)).setCell ⟨V4.heap.size, 4, none⟩ (.int .i64 r.e.j)).setCell ⟨V4.heap.size, 5, none⟩ (.int .i64 r.e.v)).setCell ⟨V4.heap.size, 6, none⟩ (.int .i64 r.e.t)).setCell ⟨V4.heap.size, 7, none⟩ (.int .i64 r.e.c))).heap[V4.heap.size]? = some (boxRc r) := stR_box qr4 r
     have e2 : (((((((((w4.setCell ⟨V4.heap.size, 0, none⟩ (.int .i64 r.k)).setCell ⟨V4.heap.size, 1, none⟩ (.int .i64 r.a)).setCell ⟨V4.heap.size, 2, none⟩ (.int .i64 r.p)).setCell ⟨V4.heap.size, 3, none⟩ (.int .i64 r.e.k)).setCell ⟨V4.heap.size, 4, none⟩ (.int .i64 r.e.j)).setCell ⟨V4.heap.size, 5, none⟩ (.int .i64 r.e.v)).setCell ⟨V4.heap.size, 6, none⟩ (.int .i64 r.e.t)).setCell ⟨V4.heap.size, 7, none⟩ (.int .i64 r.e.c))).heap[dqe]? = some (boxE 0 0 0 0 0) := stR_other qe4 nqrqe.symm r
     refine rdy 28 (by kernel_rfl) rfl (fun K hK => ?_)
     go_simp
     refine hK.out _ _ (stR_below hHeld lqr r) (fun hHeld => ?_)
     clear hK K
     try simp only [Act.put, qa, qb, qc]
     have hHz : Below V4.heap.size V4 (((((((((w4.setCell ⟨V4.heap.size, 0, none⟩ (.int .i64 r.k)).setCell ⟨V4.heap.size, 1, none⟩ (.int .i64 r.a)).setCell ⟨V4.heap.size, 2, none⟩ (.int .i64 r.p)).setCell ⟨V4.heap.size, 3, none⟩ (.int .i64 r.e.k)).setCell ⟨V4.heap.size, 4, none⟩ (.int .i64 r.e.j)).setCell ⟨V4.heap.size, 5, none⟩ (.int .i64 r.e.v)).setCell ⟨V4.heap.size, 6, none⟩ (.int .i64 r.e.t)).setCell ⟨V4.heap.size, 7, none⟩ (.int .i64 r.e.c))) := hHeld
     clear hHeld
     generalize ((((((((w4.setCell ⟨V4.heap.size, 0, none⟩ (.int .i64 r.k)).setCell ⟨V4.heap.size, 1, none⟩ (.int .i64 r.a)).setCell ⟨V4.heap.size, 2, none⟩ (.int .i64 r.p)).setCell ⟨V4.heap.size, 3, none⟩ (.int .i64 r.e.k)).setCell ⟨V4.heap.size, 4, none⟩ (.int .i64 r.e.j)).setCell ⟨V4.heap.size, 5, none⟩ (.int .i64 r.e.v)).setCell ⟨V4.heap.size, 6, none⟩ (.int .i64 r.e.t)).setCell ⟨V4.heap.size, 7, none⟩ (.int .i64 r.e.c)) = wz at *
     have hHeld := hHz
     clear c1 f1
     have c2 := fun i => Joins.cell_of_block e2 i
     have f2 := fun i => Joins.unfrozen_of_block e2 i
     refine rdy 29 (by kernel_rfl) rfl (fun K hK => ?_)
     go_simp
     refine hK.out _ _ (stE_below hHeld lqe s) (fun hHeld => ?_)
     clear hK K
     try simp only [Act.put, qa, qb, qc]
     refine rdy 30 (by kernel_rfl) rfl (fun K hK => ?_)
     go_simp
     refine hK.out _ _ (hHeld) (fun hHeld => ?_)
     clear hK K
     try simp only [Act.put, qa, qb, qc]
     refine wpAnyH_done (by kernel_rfl) ?_ _
     go_wp2_with fail
     go_meet
     case rel => exact ⟨_, _, rfl, rfl, rfl, ⟨stE_other r2 nqrqe s, stE_box e2 s, hHeld⟩⟩
    case step27rba =>
     intro K hK
     go_simp
     have lqe : V4.heap.size ≤ w2.heap.size := hHeld.size
     refine hK.out _ _ (grew hHeld _) (fun hHeld => ?_)
     clear hK K
     try simp only [Act.put, qa, qb, qc]
     have qe3 : (w2.alloc (boxE 0 0 0 0 0)).heap[w2.heap.size]? = some (boxE 0 0 0 0 0) := heap_new _ _
     have nqrqe : V4.heap.size ≠ w2.heap.size := by have := heap_lt qr2; omega
     have qr3 : _ := heap_below qr2 (show Below w2.heap.size w2 (w2.alloc (boxE 0 0 0 0 0)) from grew (Below.refl _ _) _) (heap_lt qr2)
     have hch3 : _ := ChAt.later hch (show Below w2.heap.size w2 (w2.alloc (boxE 0 0 0 0 0)) from grew (Below.refl _ _) _)
     generalize w2.alloc (boxE 0 0 0 0 0) = w3 at *
     generalize w2.heap.size = dqe at *
     refine rdy 21 (by kernel_rfl) rfl (fun K hK => ?_)
     go_simp
     refine (kl.out _ _ hch3).mono ?_
     rintro e w4 ⟨rfl, hb4⟩
     have hH4 : Below V4.heap.size V4 w4 := step_below1 hHeld hb4
     have qr4 := heap_below qr3 hb4 (heap_lt qr3)
     have hch4 := ChAt.later hch3 hb4
     have qe4 := heap_below qe3 hb4 (heap_lt qe3)
     refine hK.out _ _ hH4 (fun hHeld => ?_)
     clear hK K
     try simp only [Act.put, qa, qb, qc]
     refine tk 22 (v := ?_) rfl (by kernel_rfl) (by rfl) (by assumption) (fun _ _ _ h => h) ?_ ?_
     rotate_left
     · intro w0 hSw; clear hSw; go_simp; first | done | with_reducible rfl
     try simp only [Act.put, qa, qb, qc]
     refine tk 23 (v := ?_) rfl (by kernel_rfl) (by rfl) (by assumption) (fun _ _ _ h => h) ?_ ?_
     rotate_left
     · intro w0 hSw; clear hSw; go_simp; first | done | with_reducible rfl
     try simp only [Act.put, qa, qb, qc]
     refine tk 24 (v := ?_) rfl (by kernel_rfl) (by rfl) (by assumption) (fun _ _ _ h => h) ?_ ?_
     rotate_left
     · intro w0 hSw; clear hSw; go_simp; first | done | with_reducible rfl
     try simp only [Act.put, qa, qb, qc]
     refine tk 25 (v := ?_) rfl (by kernel_rfl) (by rfl) (by assumption) (fun _ _ _ h => h) ?_ ?_
     rotate_left
     · intro w0 hSw; clear hSw; go_simp; first | done | with_reducible rfl
     try simp only [Act.put, qa, qb, qc]
     have c1 := fun i => Joins.cell_of_block qr4 i
     have f1 := fun i => Joins.unfrozen_of_block qr4 i
     have r2 : (((((((((w4.setCell ⟨V4.heap.size, 0, none⟩ (.int .i64 r.k)).setCell ⟨V4.heap.size, 1, none⟩ (.int .i64 r.a)).setCell ⟨V4.heap.size, 2, none⟩ (.int .i64 r.p)).setCell ⟨V4.heap.size, 3, none⟩ (.int .i64 r.e.k)).setCell ⟨V4.heap.size, 4, none⟩ (.int .i64 r.e.j)).setCell ⟨V4.heap.size, 5, none⟩ (.int .i64 r.e.v)).setCell ⟨V4.heap.size, 6, none⟩ (.int .i64 r.e.t)).setCell ⟨V4.heap.size, 7, none⟩ (.int .i64 r.e.c))).heap[V4.heap.size]? = some (boxRc r) := stR_box qr4 r
     have e2 : (((((((((w4.setCell ⟨V4.heap.size, 0, none⟩ (.int .i64 r.k)).setCell ⟨V4.heap.size, 1, none⟩ (.int .i64 r.a)).setCell ⟨V4.heap.size, 2, none⟩ (.int .i64 r.p)).setCell ⟨V4.heap.size, 3, none⟩ (.int .i64 r.e.k)).setCell ⟨V4.heap.size, 4, none⟩ (.int .i64 r.e.j)).setCell ⟨V4.heap.size, 5, none⟩ (.int .i64 r.e.v)).setCell ⟨V4.heap.size, 6, none⟩ (.int .i64 r.e.t)).setCell ⟨V4.heap.size, 7, none⟩ (.int .i64 r.e.c))).heap[dqe]? = some (boxE 0 0 0 0 0) := stR_other qe4 nqrqe.symm r
     refine rdy 28 (by kernel_rfl) rfl (fun K hK => ?_)
     go_simp
     refine hK.out _ _ (stR_below hHeld lqr r) (fun hHeld => ?_)
     clear hK K
     try simp only [Act.put, qa, qb, qc]
     have hHz : Below V4.heap.size V4 (((((((((w4.setCell ⟨V4.heap.size, 0, none⟩ (.int .i64 r.k)).setCell ⟨V4.heap.size, 1, none⟩ (.int .i64 r.a)).setCell ⟨V4.heap.size, 2, none⟩ (.int .i64 r.p)).setCell ⟨V4.heap.size, 3, none⟩ (.int .i64 r.e.k)).setCell ⟨V4.heap.size, 4, none⟩ (.int .i64 r.e.j)).setCell ⟨V4.heap.size, 5, none⟩ (.int .i64 r.e.v)).setCell ⟨V4.heap.size, 6, none⟩ (.int .i64 r.e.t)).setCell ⟨V4.heap.size, 7, none⟩ (.int .i64 r.e.c))) := hHeld
     clear hHeld
     generalize ((((((((w4.setCell ⟨V4.heap.size, 0, none⟩ (.int .i64 r.k)).setCell ⟨V4.heap.size, 1, none⟩ (.int .i64 r.a)).setCell ⟨V4.heap.size, 2, none⟩ (.int .i64 r.p)).setCell ⟨V4.heap.size, 3, none⟩ (.int .i64 r.e.k)).setCell ⟨V4.heap.size, 4, none⟩ (.int .i64 r.e.j)).setCell ⟨V4.heap.size, 5, none⟩ (.int .i64 r.e.v)).setCell ⟨V4.heap.size, 6, none⟩ (.int .i64 r.e.t)).setCell ⟨V4.heap.size, 7, none⟩ (.int .i64 r.e.c)) = wz at *
     have hHeld := hHz
     clear c1 f1
     have c2 := fun i => Joins.cell_of_block e2 i
     have f2 := fun i => Joins.unfrozen_of_block e2 i
     refine rdy 29 (by kernel_rfl) rfl (fun K hK => ?_)
     go_simp
     refine hK.out _ _ (stE_below hHeld lqe s) (fun hHeld => ?_)
     clear hK K
     try simp only [Act.put, qa, qb, qc]
     refine rdy 30 (by kernel_rfl) rfl (fun K hK => ?_)
     go_simp
     refine hK.out _ _ (hHeld) (fun hHeld => ?_)
     clear hK K
     try simp only [Act.put, qa, qb, qc]
     refine wpAnyH_done (by kernel_rfl) ?_ _
     go_wp2_with fail
     go_meet
     case rel => exact ⟨_, _, rfl, rfl, rfl, ⟨stE_other r2 nqrqe s, stE_box e2 s, hHeld⟩⟩
   case step27rb =>
    intro K hK
    go_simp
    have lqe : V4.heap.size ≤ w1.heap.size := hHeld.size
    refine hK.out _ _ (grew hHeld _) (fun hHeld => ?_)
    clear hK K
    try simp only [Act.put, qa, qb, qc]
    have qe2 : (w1.alloc (boxE 0 0 0 0 0)).heap[w1.heap.size]? = some (boxE 0 0 0 0 0) := heap_new _ _
    have nqrqe : V4.heap.size ≠ w1.heap.size := by have := heap_lt qr1; omega
    have qr2 : _ := heap_below qr1 (show Below w1.heap.size w1 (w1.alloc (boxE 0 0 0 0 0)) from grew (Below.refl _ _) _) (heap_lt qr1)
    generalize w1.alloc (boxE 0 0 0 0 0) = w2 at *
    generalize w1.heap.size = dqe at *
    refine rdy 4 (by kernel_rfl) rfl (fun K hK => ?_)
    go_simp
    refine (ku.out _ hHeld).mono ?_
    rintro e w3 ⟨u, rfl, hch, hb3⟩
    have hH3 : Below V4.heap.size V4 w3 := step_below1 hHeld hb3
    have qr3 := heap_below qr2 hb3 (heap_lt qr2)
    have qe3 := heap_below qe2 hb3 (heap_lt qe2)
    refine hK.out _ _ hH3 (fun hHeld => ?_)
    clear hK K
    try simp only [Act.put, qa, qb, qc]
    refine rdy 21 (by kernel_rfl) rfl (fun K hK => ?_)
    go_simp
    refine (kl.out _ _ hch).mono ?_
    rintro e w4 ⟨rfl, hb4⟩
    have hH4 : Below V4.heap.size V4 w4 := step_below1 hHeld hb4
    have qr4 := heap_below qr3 hb4 (heap_lt qr3)
    have qe4 := heap_below qe3 hb4 (heap_lt qe3)
    have hch4 := ChAt.later hch hb4
    refine hK.out _ _ hH4 (fun hHeld => ?_)
    clear hK K
    try simp only [Act.put, qa, qb, qc]
    refine tk 22 (v := ?_) rfl (by kernel_rfl) (by rfl) (by assumption) (fun _ _ _ h => h) ?_ ?_
    rotate_left
    · intro w0 hSw; clear hSw; go_simp; first | done | with_reducible rfl
    try simp only [Act.put, qa, qb, qc]
    refine tk 23 (v := ?_) rfl (by kernel_rfl) (by rfl) (by assumption) (fun _ _ _ h => h) ?_ ?_
    rotate_left
    · intro w0 hSw; clear hSw; go_simp; first | done | with_reducible rfl
    try simp only [Act.put, qa, qb, qc]
    refine tk 24 (v := ?_) rfl (by kernel_rfl) (by rfl) (by assumption) (fun _ _ _ h => h) ?_ ?_
    rotate_left
    · intro w0 hSw; clear hSw; go_simp; first | done | with_reducible rfl
    try simp only [Act.put, qa, qb, qc]
    refine tk 25 (v := ?_) rfl (by kernel_rfl) (by rfl) (by assumption) (fun _ _ _ h => h) ?_ ?_
    rotate_left
    · intro w0 hSw; clear hSw; go_simp; first | done | with_reducible rfl
    try simp only [Act.put, qa, qb, qc]
    have c1 := fun i => Joins.cell_of_block qr4 i
    have f1 := fun i => Joins.unfrozen_of_block qr4 i
    have r2 : (((((((((w4.setCell ⟨V4.heap.size, 0, none⟩ (.int .i64 r.k)).setCell ⟨V4.heap.size, 1, none⟩ (.int .i64 r.a)).setCell ⟨V4.heap.size, 2, none⟩ (.int .i64 r.p)).setCell ⟨V4.heap.size, 3, none⟩ (.int .i64 r.e.k)).setCell ⟨V4.heap.size, 4, none⟩ (.int .i64 r.e.j)).setCell ⟨V4.heap.size, 5, none⟩ (.int .i64 r.e.v)).setCell ⟨V4.heap.size, 6, none⟩ (.int .i64 r.e.t)).setCell ⟨V4.heap.size, 7, none⟩ (.int .i64 r.e.c))).heap[V4.heap.size]? = some (boxRc r) := stR_box qr4 r
    have e2 : (((((((((w4.setCell ⟨V4.heap.size, 0, none⟩ (.int .i64 r.k)).setCell ⟨V4.heap.size, 1, none⟩ (.int .i64 r.a)).setCell ⟨V4.heap.size, 2, none⟩ (.int .i64 r.p)).setCell ⟨V4.heap.size, 3, none⟩ (.int .i64 r.e.k)).setCell ⟨V4.heap.size, 4, none⟩ (.int .i64 r.e.j)).setCell ⟨V4.heap.size, 5, none⟩ (.int .i64 r.e.v)).setCell ⟨V4.heap.size, 6, none⟩ (.int .i64 r.e.t)).setCell ⟨V4.heap.size, 7, none⟩ (.int .i64 r.e.c))).heap[dqe]? = some (boxE 0 0 0 0 0) := stR_other qe4 nqrqe.symm r
    refine rdy 28 (by kernel_rfl) rfl (fun K hK => ?_)
    go_simp
    refine hK.out _ _ (stR_below hHeld lqr r) (fun hHeld => ?_)
    clear hK K
    try simp only [Act.put, qa, qb, qc]
    have hHz : Below V4.heap.size V4 (((((((((w4.setCell ⟨V4.heap.size, 0, none⟩ (.int .i64 r.k)).setCell ⟨V4.heap.size, 1, none⟩ (.int .i64 r.a)).setCell ⟨V4.heap.size, 2, none⟩ (.int .i64 r.p)).setCell ⟨V4.heap.size, 3, none⟩ (.int .i64 r.e.k)).setCell ⟨V4.heap.size, 4, none⟩ (.int .i64 r.e.j)).setCell ⟨V4.heap.size, 5, none⟩ (.int .i64 r.e.v)).setCell ⟨V4.heap.size, 6, none⟩ (.int .i64 r.e.t)).setCell ⟨V4.heap.size, 7, none⟩ (.int .i64 r.e.c))) := hHeld
    clear hHeld
    generalize ((((((((w4.setCell ⟨V4.heap.size, 0, none⟩ (.int .i64 r.k)).setCell ⟨V4.heap.size, 1, none⟩ (.int .i64 r.a)).setCell ⟨V4.heap.size, 2, none⟩ (.int .i64 r.p)).setCell ⟨V4.heap.size, 3, none⟩ (.int .i64 r.e.k)).setCell ⟨V4.heap.size, 4, none⟩ (.int .i64 r.e.j)).setCell ⟨V4.heap.size, 5, none⟩ (.int .i64 r.e.v)).setCell ⟨V4.heap.size, 6, none⟩ (.int .i64 r.e.t)).setCell ⟨V4.heap.size, 7, none⟩ (.int .i64 r.e.c)) = wz at *
    have hHeld := hHz
    clear c1 f1
    have c2 := fun i => Joins.cell_of_block e2 i
    have f2 := fun i => Joins.unfrozen_of_block e2 i
    refine rdy 29 (by kernel_rfl) rfl (fun K hK => ?_)
    go_simp
    refine hK.out _ _ (stE_below hHeld lqe s) (fun hHeld => ?_)
    clear hK K
    try simp only [Act.put, qa, qb, qc]
    refine rdy 30 (by kernel_rfl) rfl (fun K hK => ?_)
    go_simp
    refine hK.out _ _ (hHeld) (fun hHeld => ?_)
    clear hK K
    try simp only [Act.put, qa, qb, qc]
    refine wpAnyH_done (by kernel_rfl) ?_ _
    go_wp2_with fail
    go_meet
    case rel => exact ⟨_, _, rfl, rfl, rfl, ⟨stE_other r2 nqrqe s, stE_box e2 s, hHeld⟩⟩
  case step27r =>
   intro K hK
   go_simp
   have lqe : V4.heap.size ≤ V4.heap.size := Nat.le_refl _
   refine hK.out _ _ (grew hHeld _) (fun hHeld => ?_)
   clear hK K
   try simp only [Act.put, qa, qb, qc]
   have qe1 : ((V4.alloc (boxE 0 0 0 0 0)).drew).heap[V4.heap.size]? = some (boxE 0 0 0 0 0) := heap_new _ _
   generalize (V4.alloc (boxE 0 0 0 0 0)).drew = w1 at *
   refine wpAnyH_ready (rs := [4, 26]) (by kernel_rfl) (by simp) ?_
   refine AllReadyH.cons (o := ?o4rc) ?hi4rc ?step4rc (AllReadyH.cons (o := ?o26rc) ?hi26rc ?step26rc AllReadyH.nil)
   case hi4rc => (simp only [List.getElem?_toArray, List.getElem?_cons_succ, List.getElem?_cons_zero]; rfl)
   case hi26rc => (simp only [List.getElem?_toArray, List.getElem?_cons_succ, List.getElem?_cons_zero]; rfl)
   case step4rc =>
    intro K hK
    go_simp
    refine (ku.out _ hHeld).mono ?_
    rintro e w2 ⟨u, rfl, hch, hb2⟩
    have hH2 : Below V4.heap.size V4 w2 := step_below1 hHeld hb2
    have qe2 := heap_below qe1 hb2 (heap_lt qe1)
    refine hK.out _ _ hH2 (fun hHeld => ?_)
    clear hK K
    try simp only [Act.put, qa, qb, qc]
    refine wpAnyH_ready (rs := [21, 26]) (by kernel_rfl) (by simp) ?_
    refine AllReadyH.cons (o := ?o21rca) ?hi21rca ?step21rca (AllReadyH.cons (o := ?o26rca) ?hi26rca ?step26rca AllReadyH.nil)
    case hi21rca => (simp only [List.getElem?_toArray, List.getElem?_cons_succ, List.getElem?_cons_zero]; rfl)
    case hi26rca => (simp only [List.getElem?_toArray, List.getElem?_cons_succ, List.getElem?_cons_zero]; rfl)
    case step21rca =>
     intro K hK
     go_simp
     refine (kl.out _ _ hch).mono ?_
     rintro e w3 ⟨rfl, hb3⟩
     have hH3 : Below V4.heap.size V4 w3 := step_below1 hHeld hb3
     have qe3 := heap_below qe2 hb3 (heap_lt qe2)
     have hch3 := ChAt.later hch hb3
     refine hK.out _ _ hH3 (fun hHeld => ?_)
     clear hK K
     try simp only [Act.put, qa, qb, qc]
     refine tk 22 (v := ?_) rfl (by kernel_rfl) (by rfl) (by assumption) (fun _ _ _ h => h) ?_ ?_
     rotate_left
     · intro w0 hSw; clear hSw; go_simp; first | done | with_reducible rfl
     try simp only [Act.put, qa, qb, qc]
     refine tk 23 (v := ?_) rfl (by kernel_rfl) (by rfl) (by assumption) (fun _ _ _ h => h) ?_ ?_
     rotate_left
     · intro w0 hSw; clear hSw; go_simp; first | done | with_reducible rfl
     try simp only [Act.put, qa, qb, qc]
     refine tk 24 (v := ?_) rfl (by kernel_rfl) (by rfl) (by assumption) (fun _ _ _ h => h) ?_ ?_
     rotate_left
     · intro w0 hSw; clear hSw; go_simp; first | done | with_reducible rfl
     try simp only [Act.put, qa, qb, qc]
     refine tk 25 (v := ?_) rfl (by kernel_rfl) (by rfl) (by assumption) (fun _ _ _ h => h) ?_ ?_
     rotate_left
     · intro w0 hSw; clear hSw; go_simp; first | done | with_reducible rfl
     try simp only [Act.put, qa, qb, qc]
     refine rdy 26 (by kernel_rfl) rfl (fun K hK => ?_)
     go_simp
     have lqr : V4.heap.size ≤ w3.heap.size := hHeld.size
     refine hK.out _ _ (grew hHeld _) (fun hHeld => ?_)
     clear hK K
     try simp only [Act.put, qa, qb, qc]
     have qr4 : (w3.alloc (.cells #[Value.int .i64 0, .int .i64 0, .int .i64 0, .int .i64 0, .int .i64 0, .int .i64 0, .int .i64 0, .int .i64 0] 94)).heap[w3.heap.size]? = some (.cells #[Value.int .i64 0, .int .i64 0, .int .i64 0, .int .i64 0, .int .i64 0, .int .i64 0, .int .i64 0, .int .i64 0] 94) := heap_new _ _
     have nqeqr : V4.heap.size ≠ w3.heap.size := by have := heap_lt qe3; omega
     have qe4 : _ := heap_below qe3 (show Below w3.heap.size w3 (w3.alloc (.cells #[Value.int .i64 0, .int .i64 0, .int .i64 0, .int .i64 0, .int .i64 0, .int .i64 0, .int .i64 0, .int .i64 0] 94)) from grew (Below.refl _ _) _) (heap_lt qe3)
     have hch4 : _ := ChAt.later hch3 (show Below w3.heap.size w3 (w3.alloc (.cells #[Value.int .i64 0, .int .i64 0, .int .i64 0, .int .i64 0, .int .i64 0, .int .i64 0, .int .i64 0, .int .i64 0] 94)) from grew (Below.refl _ _) _)
     generalize w3.alloc (.cells #[Value.int .i64 0, .int .i64 0, .int .i64 0, .int .i64 0, .int .i64 0, .int .i64 0, .int .i64 0, .int .i64 0] 94) = w4 at *
     generalize w3.heap.size = dqr at *
     have c1 := fun i => Joins.cell_of_block qr4 i
     have f1 := fun i => Joins.unfrozen_of_block qr4 i
     have r2 : (((((((((w4.setCell ⟨dqr, 0, none⟩ (.int .i64 r.k)).setCell ⟨dqr, 1, none⟩ (.int .i64 r.a)).setCell ⟨dqr, 2, none⟩ (.int .i64 r.p)).setCell ⟨dqr, 3, none⟩ (.int .i64 r.e.k)).setCell ⟨dqr, 4, none⟩ (.int .i64 r.e.j)).setCell ⟨dqr, 5, none⟩ (.int .i64 r.e.v)).setCell ⟨dqr, 6, none⟩ (.int .i64 r.e.t)).setCell ⟨dqr, 7, none⟩ (.int .i64 r.e.c))).heap[dqr]? = some (boxRc r) := stR_box qr4 r
     have e2 : (((((((((w4.setCell ⟨dqr, 0, none⟩ (.int .i64 r.k)).setCell ⟨dqr, 1, none⟩ (.int .i64 r.a)).setCell ⟨dqr, 2, none⟩ (.int .i64 r.p)).setCell ⟨dqr, 3, none⟩ (.int .i64 r.e.k)).setCell ⟨dqr, 4, none⟩ (.int .i64 r.e.j)).setCell ⟨dqr, 5, none⟩ (.int .i64 r.e.v)).setCell ⟨dqr, 6, none⟩ (.int .i64 r.e.t)).setCell ⟨dqr, 7, none⟩ (.int .i64 r.e.c))).heap[V4.heap.size]? = some (boxE 0 0 0 0 0) := stR_other qe4 nqeqr r
     refine rdy 28 (by kernel_rfl) rfl (fun K hK => ?_)
     go_simp
     refine hK.out _ _ (stR_below hHeld lqr r) (fun hHeld => ?_)
     clear hK K
     try simp only [Act.put, qa, qb, qc]
     have hHz : Below V4.heap.size V4 (((((((((w4.setCell ⟨dqr, 0, none⟩ (.int .i64 r.k)).setCell ⟨dqr, 1, none⟩ (.int .i64 r.a)).setCell ⟨dqr, 2, none⟩ (.int .i64 r.p)).setCell ⟨dqr, 3, none⟩ (.int .i64 r.e.k)).setCell ⟨dqr, 4, none⟩ (.int .i64 r.e.j)).setCell ⟨dqr, 5, none⟩ (.int .i64 r.e.v)).setCell ⟨dqr, 6, none⟩ (.int .i64 r.e.t)).setCell ⟨dqr, 7, none⟩ (.int .i64 r.e.c))) := hHeld
     clear hHeld
     generalize ((((((((w4.setCell ⟨dqr, 0, none⟩ (.int .i64 r.k)).setCell ⟨dqr, 1, none⟩ (.int .i64 r.a)).setCell ⟨dqr, 2, none⟩ (.int .i64 r.p)).setCell ⟨dqr, 3, none⟩ (.int .i64 r.e.k)).setCell ⟨dqr, 4, none⟩ (.int .i64 r.e.j)).setCell ⟨dqr, 5, none⟩ (.int .i64 r.e.v)).setCell ⟨dqr, 6, none⟩ (.int .i64 r.e.t)).setCell ⟨dqr, 7, none⟩ (.int .i64 r.e.c)) = wz at *
     have hHeld := hHz
     clear c1 f1
     have c2 := fun i => Joins.cell_of_block e2 i
     have f2 := fun i => Joins.unfrozen_of_block e2 i
     refine rdy 29 (by kernel_rfl) rfl (fun K hK => ?_)
     go_simp
     refine hK.out _ _ (stE_below hHeld lqe s) (fun hHeld => ?_)
     clear hK K
     try simp only [Act.put, qa, qb, qc]
     refine rdy 30 (by kernel_rfl) rfl (fun K hK => ?_)
     go_simp
     refine hK.out _ _ (hHeld) (fun hHeld => ?_)
     clear hK K
     try simp only [Act.put, qa, qb, qc]
     refine wpAnyH_done (by kernel_rfl) ?_ _
     go_wp2_with fail
     go_meet
     case rel => exact ⟨_, _, rfl, rfl, rfl, ⟨stE_other r2 nqeqr.symm s, stE_box e2 s, hHeld⟩⟩
    case step26rca =>
     intro K hK
     go_simp
     have lqr : V4.heap.size ≤ w2.heap.size := hHeld.size
     refine hK.out _ _ (grew hHeld _) (fun hHeld => ?_)
     clear hK K
     try simp only [Act.put, qa, qb, qc]
     have qr3 : (w2.alloc (.cells #[Value.int .i64 0, .int .i64 0, .int .i64 0, .int .i64 0, .int .i64 0, .int .i64 0, .int .i64 0, .int .i64 0] 94)).heap[w2.heap.size]? = some (.cells #[Value.int .i64 0, .int .i64 0, .int .i64 0, .int .i64 0, .int .i64 0, .int .i64 0, .int .i64 0, .int .i64 0] 94) := heap_new _ _
     have nqeqr : V4.heap.size ≠ w2.heap.size := by have := heap_lt qe2; omega
     have qe3 : _ := heap_below qe2 (show Below w2.heap.size w2 (w2.alloc (.cells #[Value.int .i64 0, .int .i64 0, .int .i64 0, .int .i64 0, .int .i64 0, .int .i64 0, .int .i64 0, .int .i64 0] 94)) from grew (Below.refl _ _) _) (heap_lt qe2)
     have hch3 : _ := ChAt.later hch (show Below w2.heap.size w2 (w2.alloc (.cells #[Value.int .i64 0, .int .i64 0, .int .i64 0, .int .i64 0, .int .i64 0, .int .i64 0, .int .i64 0, .int .i64 0] 94)) from grew (Below.refl _ _) _)
     generalize w2.alloc (.cells #[Value.int .i64 0, .int .i64 0, .int .i64 0, .int .i64 0, .int .i64 0, .int .i64 0, .int .i64 0, .int .i64 0] 94) = w3 at *
     generalize w2.heap.size = dqr at *
     refine rdy 21 (by kernel_rfl) rfl (fun K hK => ?_)
     go_simp
     refine (kl.out _ _ hch3).mono ?_
     rintro e w4 ⟨rfl, hb4⟩
     have hH4 : Below V4.heap.size V4 w4 := step_below1 hHeld hb4
     have qe4 := heap_below qe3 hb4 (heap_lt qe3)
     have hch4 := ChAt.later hch3 hb4
     have qr4 := heap_below qr3 hb4 (heap_lt qr3)
     refine hK.out _ _ hH4 (fun hHeld => ?_)
     clear hK K
     try simp only [Act.put, qa, qb, qc]
     refine tk 22 (v := ?_) rfl (by kernel_rfl) (by rfl) (by assumption) (fun _ _ _ h => h) ?_ ?_
     rotate_left
     · intro w0 hSw; clear hSw; go_simp; first | done | with_reducible rfl
     try simp only [Act.put, qa, qb, qc]
     refine tk 23 (v := ?_) rfl (by kernel_rfl) (by rfl) (by assumption) (fun _ _ _ h => h) ?_ ?_
     rotate_left
     · intro w0 hSw; clear hSw; go_simp; first | done | with_reducible rfl
     try simp only [Act.put, qa, qb, qc]
     refine tk 24 (v := ?_) rfl (by kernel_rfl) (by rfl) (by assumption) (fun _ _ _ h => h) ?_ ?_
     rotate_left
     · intro w0 hSw; clear hSw; go_simp; first | done | with_reducible rfl
     try simp only [Act.put, qa, qb, qc]
     refine tk 25 (v := ?_) rfl (by kernel_rfl) (by rfl) (by assumption) (fun _ _ _ h => h) ?_ ?_
     rotate_left
     · intro w0 hSw; clear hSw; go_simp; first | done | with_reducible rfl
     try simp only [Act.put, qa, qb, qc]
     have c1 := fun i => Joins.cell_of_block qr4 i
     have f1 := fun i => Joins.unfrozen_of_block qr4 i
     have r2 : (((((((((w4.setCell ⟨dqr, 0, none⟩ (.int .i64 r.k)).setCell ⟨dqr, 1, none⟩ (.int .i64 r.a)).setCell ⟨dqr, 2, none⟩ (.int .i64 r.p)).setCell ⟨dqr, 3, none⟩ (.int .i64 r.e.k)).setCell ⟨dqr, 4, none⟩ (.int .i64 r.e.j)).setCell ⟨dqr, 5, none⟩ (.int .i64 r.e.v)).setCell ⟨dqr, 6, none⟩ (.int .i64 r.e.t)).setCell ⟨dqr, 7, none⟩ (.int .i64 r.e.c))).heap[dqr]? = some (boxRc r) := stR_box qr4 r
     have e2 : (((((((((w4.setCell ⟨dqr, 0, none⟩ (.int .i64 r.k)).setCell ⟨dqr, 1, none⟩ (.int .i64 r.a)).setCell ⟨dqr, 2, none⟩ (.int .i64 r.p)).setCell ⟨dqr, 3, none⟩ (.int .i64 r.e.k)).setCell ⟨dqr, 4, none⟩ (.int .i64 r.e.j)).setCell ⟨dqr, 5, none⟩ (.int .i64 r.e.v)).setCell ⟨dqr, 6, none⟩ (.int .i64 r.e.t)).setCell ⟨dqr, 7, none⟩ (.int .i64 r.e.c))).heap[V4.heap.size]? = some (boxE 0 0 0 0 0) := stR_other qe4 nqeqr r
     refine rdy 28 (by kernel_rfl) rfl (fun K hK => ?_)
     go_simp
     refine hK.out _ _ (stR_below hHeld lqr r) (fun hHeld => ?_)
     clear hK K
     try simp only [Act.put, qa, qb, qc]
     have hHz : Below V4.heap.size V4 (((((((((w4.setCell ⟨dqr, 0, none⟩ (.int .i64 r.k)).setCell ⟨dqr, 1, none⟩ (.int .i64 r.a)).setCell ⟨dqr, 2, none⟩ (.int .i64 r.p)).setCell ⟨dqr, 3, none⟩ (.int .i64 r.e.k)).setCell ⟨dqr, 4, none⟩ (.int .i64 r.e.j)).setCell ⟨dqr, 5, none⟩ (.int .i64 r.e.v)).setCell ⟨dqr, 6, none⟩ (.int .i64 r.e.t)).setCell ⟨dqr, 7, none⟩ (.int .i64 r.e.c))) := hHeld
     clear hHeld
     generalize ((((((((w4.setCell ⟨dqr, 0, none⟩ (.int .i64 r.k)).setCell ⟨dqr, 1, none⟩ (.int .i64 r.a)).setCell ⟨dqr, 2, none⟩ (.int .i64 r.p)).setCell ⟨dqr, 3, none⟩ (.int .i64 r.e.k)).setCell ⟨dqr, 4, none⟩ (.int .i64 r.e.j)).setCell ⟨dqr, 5, none⟩ (.int .i64 r.e.v)).setCell ⟨dqr, 6, none⟩ (.int .i64 r.e.t)).setCell ⟨dqr, 7, none⟩ (.int .i64 r.e.c)) = wz at *
     have hHeld := hHz
     clear c1 f1
     have c2 := fun i => Joins.cell_of_block e2 i
     have f2 := fun i => Joins.unfrozen_of_block e2 i
     refine rdy 29 (by kernel_rfl) rfl (fun K hK => ?_)
     go_simp
     refine hK.out _ _ (stE_below hHeld lqe s) (fun hHeld => ?_)
     clear hK K
     try simp only [Act.put, qa, qb, qc]
     refine rdy 30 (by kernel_rfl) rfl (fun K hK => ?_)
     go_simp
     refine hK.out _ _ (hHeld) (fun hHeld => ?_)
     clear hK K
     try simp only [Act.put, qa, qb, qc]
     refine wpAnyH_done (by kernel_rfl) ?_ _
     go_wp2_with fail
     go_meet
     case rel => exact ⟨_, _, rfl, rfl, rfl, ⟨stE_other r2 nqeqr.symm s, stE_box e2 s, hHeld⟩⟩
   case step26rc =>
    intro K hK
    go_simp
    have lqr : V4.heap.size ≤ w1.heap.size := hHeld.size
    refine hK.out _ _ (grew hHeld _) (fun hHeld => ?_)
    clear hK K
    try simp only [Act.put, qa, qb, qc]
    have qr2 : (w1.alloc (.cells #[Value.int .i64 0, .int .i64 0, .int .i64 0, .int .i64 0, .int .i64 0, .int .i64 0, .int .i64 0, .int .i64 0] 94)).heap[w1.heap.size]? = some (.cells #[Value.int .i64 0, .int .i64 0, .int .i64 0, .int .i64 0, .int .i64 0, .int .i64 0, .int .i64 0, .int .i64 0] 94) := heap_new _ _
    have nqeqr : V4.heap.size ≠ w1.heap.size := by have := heap_lt qe1; omega
    have qe2 : _ := heap_below qe1 (show Below w1.heap.size w1 (w1.alloc (.cells #[Value.int .i64 0, .int .i64 0, .int .i64 0, .int .i64 0, .int .i64 0, .int .i64 0, .int .i64 0, .int .i64 0] 94)) from grew (Below.refl _ _) _) (heap_lt qe1)
    generalize w1.alloc (.cells #[Value.int .i64 0, .int .i64 0, .int .i64 0, .int .i64 0, .int .i64 0, .int .i64 0, .int .i64 0, .int .i64 0] 94) = w2 at *
    generalize w1.heap.size = dqr at *
    refine rdy 4 (by kernel_rfl) rfl (fun K hK => ?_)
    go_simp
    refine (ku.out _ hHeld).mono ?_
    rintro e w3 ⟨u, rfl, hch, hb3⟩
    have hH3 : Below V4.heap.size V4 w3 := step_below1 hHeld hb3
    have qe3 := heap_below qe2 hb3 (heap_lt qe2)
    have qr3 := heap_below qr2 hb3 (heap_lt qr2)
    refine hK.out _ _ hH3 (fun hHeld => ?_)
    clear hK K
    try simp only [Act.put, qa, qb, qc]
    refine rdy 21 (by kernel_rfl) rfl (fun K hK => ?_)
    go_simp
    refine (kl.out _ _ hch).mono ?_
    rintro e w4 ⟨rfl, hb4⟩
    have hH4 : Below V4.heap.size V4 w4 := step_below1 hHeld hb4
    have qe4 := heap_below qe3 hb4 (heap_lt qe3)
    have qr4 := heap_below qr3 hb4 (heap_lt qr3)
    have hch4 := ChAt.later hch hb4
    refine hK.out _ _ hH4 (fun hHeld => ?_)
    clear hK K
    try simp only [Act.put, qa, qb, qc]
    refine tk 22 (v := ?_) rfl (by kernel_rfl) (by rfl) (by assumption) (fun _ _ _ h => h) ?_ ?_
    rotate_left
    · intro w0 hSw; clear hSw; go_simp; first | done | with_reducible rfl
    try simp only [Act.put, qa, qb, qc]
    refine tk 23 (v := ?_) rfl (by kernel_rfl) (by rfl) (by assumption) (fun _ _ _ h => h) ?_ ?_
    rotate_left
    · intro w0 hSw; clear hSw; go_simp; first | done | with_reducible rfl
    try simp only [Act.put, qa, qb, qc]
    refine tk 24 (v := ?_) rfl (by kernel_rfl) (by rfl) (by assumption) (fun _ _ _ h => h) ?_ ?_
    rotate_left
    · intro w0 hSw; clear hSw; go_simp; first | done | with_reducible rfl
    try simp only [Act.put, qa, qb, qc]
    refine tk 25 (v := ?_) rfl (by kernel_rfl) (by rfl) (by assumption) (fun _ _ _ h => h) ?_ ?_
    rotate_left
    · intro w0 hSw; clear hSw; go_simp; first | done | with_reducible rfl
    try simp only [Act.put, qa, qb, qc]
    have c1 := fun i => Joins.cell_of_block qr4 i
    have f1 := fun i => Joins.unfrozen_of_block qr4 i
    have r2 : (((((((((w4.setCell ⟨dqr, 0, none⟩ (.int .i64 r.k)).setCell ⟨dqr, 1, none⟩ (.int .i64 r.a)).setCell ⟨dqr, 2, none⟩ (.int .i64 r.p)).setCell ⟨dqr, 3, none⟩ (.int .i64 r.e.k)).setCell ⟨dqr, 4, none⟩ (.int .i64 r.e.j)).setCell ⟨dqr, 5, none⟩ (.int .i64 r.e.v)).setCell ⟨dqr, 6, none⟩ (.int .i64 r.e.t)).setCell ⟨dqr, 7, none⟩ (.int .i64 r.e.c))).heap[dqr]? = some (boxRc r) := stR_box qr4 r
    have e2 : (((((((((w4.setCell ⟨dqr, 0, none⟩ (.int .i64 r.k)).setCell ⟨dqr, 1, none⟩ (.int .i64 r.a)).setCell ⟨dqr, 2, none⟩ (.int .i64 r.p)).setCell ⟨dqr, 3, none⟩ (.int .i64 r.e.k)).setCell ⟨dqr, 4, none⟩ (.int .i64 r.e.j)).setCell ⟨dqr, 5, none⟩ (.int .i64 r.e.v)).setCell ⟨dqr, 6, none⟩ (.int .i64 r.e.t)).setCell ⟨dqr, 7, none⟩ (.int .i64 r.e.c))).heap[V4.heap.size]? = some (boxE 0 0 0 0 0) := stR_other qe4 nqeqr r
    refine rdy 28 (by kernel_rfl) rfl (fun K hK => ?_)
    go_simp
    refine hK.out _ _ (stR_below hHeld lqr r) (fun hHeld => ?_)
    clear hK K
    try simp only [Act.put, qa, qb, qc]
    have hHz : Below V4.heap.size V4 (((((((((w4.setCell ⟨dqr, 0, none⟩ (.int .i64 r.k)).setCell ⟨dqr, 1, none⟩ (.int .i64 r.a)).setCell ⟨dqr, 2, none⟩ (.int .i64 r.p)).setCell ⟨dqr, 3, none⟩ (.int .i64 r.e.k)).setCell ⟨dqr, 4, none⟩ (.int .i64 r.e.j)).setCell ⟨dqr, 5, none⟩ (.int .i64 r.e.v)).setCell ⟨dqr, 6, none⟩ (.int .i64 r.e.t)).setCell ⟨dqr, 7, none⟩ (.int .i64 r.e.c))) := hHeld
    clear hHeld
    generalize ((((((((w4.setCell ⟨dqr, 0, none⟩ (.int .i64 r.k)).setCell ⟨dqr, 1, none⟩ (.int .i64 r.a)).setCell ⟨dqr, 2, none⟩ (.int .i64 r.p)).setCell ⟨dqr, 3, none⟩ (.int .i64 r.e.k)).setCell ⟨dqr, 4, none⟩ (.int .i64 r.e.j)).setCell ⟨dqr, 5, none⟩ (.int .i64 r.e.v)).setCell ⟨dqr, 6, none⟩ (.int .i64 r.e.t)).setCell ⟨dqr, 7, none⟩ (.int .i64 r.e.c)) = wz at *
    have hHeld := hHz
    clear c1 f1
    have c2 := fun i => Joins.cell_of_block e2 i
    have f2 := fun i => Joins.unfrozen_of_block e2 i
    refine rdy 29 (by kernel_rfl) rfl (fun K hK => ?_)
    go_simp
    refine hK.out _ _ (stE_below hHeld lqe s) (fun hHeld => ?_)
    clear hK K
    try simp only [Act.put, qa, qb, qc]
    refine rdy 30 (by kernel_rfl) rfl (fun K hK => ?_)
    go_simp
    refine hK.out _ _ (hHeld) (fun hHeld => ?_)
    clear hK K
    try simp only [Act.put, qa, qb, qc]
    refine wpAnyH_done (by kernel_rfl) ?_ _
    go_wp2_with fail
    go_meet
    case rel => exact ⟨_, _, rfl, rfl, rfl, ⟨stE_other r2 nqeqr.symm s, stE_box e2 s, hHeld⟩⟩
 case rest =>
  obtain ⟨rb, sb, rfl, rfl, rfl, hK⟩ := hcut
  have HI5 : Aside _ := HI4.out.later hK.below
  have HX5 : Aside _ := heap_below HX4.out hK.below (heap_lt HX4.out)
  have HB5 : Aside (Below w.heap.size w wc) := HB4.out.trans (hK.below.mono HB4.out.size)
  have HR5 : Aside (wc.heap[rb]? = some (boxRc r)) := hK.rbox
  have HS5 : Aside (wc.heap[sb]? = some (boxE s.k s.j s.v s.t s.c)) := hK.sbox
  clear hK HI4 HX4 HB4 ku kl
  generalize wc = w5 at *
  have zh := fun i => Joins.cell_of_block HX5.out i
  have zr := fun i => Joins.cell_of_block HR5.out i
  have hLd := HLd.out.later HB5.out
  rcases HC.out with ⟨h0, h1⟩ | ⟨h0, HC1⟩
  · have hz : (d != 0) = true := by rw [bne_iff_ne]; exact h0
   subst h1
   clear h0 HC zh zr hLd
   go_wp2
   go_ret
   exact ⟨rfl, xs, cs, HI5.out, HE.out.1, HE.out.2⟩
  · have hz : (d != 0) = false := by rw [h0]; rfl
   clear h0 HC
   rcases HC1 with ⟨h15, h1⟩ | ⟨h15, HC2⟩
   · have hb15 : (xk == 15) = true := by rw [h15]; rfl
    subst h1
    have kt := w_tear hLd (HI5.out.nat HX.out) HFT.out.1 HFT.out.2 HRK.out xn
    clear h15 hLd
    go_wp2_with fail
    refine kt.mono ?_
    rintro e w6 ⟨rfl, hp⟩
    have HF : Aside _ := has_on3 HI5.out HE.out.1 HE.out.2 HX.out hp (HTR.out xn).1 (HTR.out xn).2 tear_err
    clear hp kt zh zr
    go_wp2
    go_ret
    exact ⟨by rw [onN_snd]; rfl, HF.out⟩
   · have hb15 : (xk == 15) = false := by rw [beq_eq_false_iff_ne]; exact h15
    rcases HC2 with ⟨h5, h1⟩ | ⟨h5, h1⟩
    · have hb5 : (xk == 5) = true := by rw [h5]; rfl
     subst h1
     have kt := w_writeAny hLd (HI5.out.nat HX.out) HFT.out.1 HFT.out.2 HRK.out
     clear h15 h5 hLd
     go_wp2_with fail
     refine kt.mono ?_
     rintro e w6 ⟨rfl, hp⟩
     have HF : Aside _ := has_on4 HI5.out HE.out.1 HE.out.2 HX.out hp HSX.out.1 HSX.out.2 writeAny_err
     clear hp kt zh zr
     go_wp2
     go_ret
     exact ⟨by rw [onN_snd]; rfl, HF.out⟩
    · have hb5 : (xk == 5) = false := by rw [beq_eq_false_iff_ne]; exact h5
     have kt := w_hear hLd HI5.out HE.out.1 HE.out.2 k j (⟨cp, cd, ce, ca, (j : Int), cn, js, rs⟩ : Cl) a1 a2 m1 k1 m2 k2 HY.out HX.out rfl HFT.out.1 HFT.out.2 r HRK.out s HSX.out
     rw [← h1] at kt
     have zs := fun i => Joins.cell_of_block HS5.out i
     clear h15 h5 hLd h1
     go_wp2_with fail
     refine kt.mono ?_
     rintro e w6 ⟨rfl, hp⟩
     have HF : Aside _ := hp
     clear hp kt zh zr zs
     go_wp2
     go_ret
     exact ⟨rfl, HF.out⟩
theorem w_atLink_who {X w : World} {B g1 g2 : Nat} {W : Wd} (h : WHas X w B g1 g2 W) (x : Hp) (g : ¬ (0 ≤ x.c ∧ x.c ≤ 2)) : AnsW 74 #[.pointer (some ⟨B, 0, none⟩), x.val] X w B g1 g2 (W, 5) := by
 have H := h
 obtain ⟨xs, cs, hI, hn, hc⟩ := h
 have hbA : Below w.heap.size w (w.alloc (boxH x)) := grew (Below.refl _ _) _
 have hcl := w_isClient (hI.later hbA).st x.c
 rw [decide_eq_false g] at hcl
 have HX0 : Aside ((w.alloc (boxH x)).heap[w.heap.size]? = some (boxH x)) := heap_new _ _
 have HH : Aside (WHas X (w.alloc (boxH x)) B g1 g2 W) := H.later hbA
 clear hI hn hc g hbA H
 go_enter Tryz.func74, Tryz.ntmps74
 go_upto_region 1 with fail
 generalize w.alloc (boxH x) = w1 at *
 have zh := fun i => Joins.cell_of_block HX0.out i
 go_wp2_with fail
 refine hcl.mono ?_
 rintro e wx ⟨rfl, hwx⟩
 obtain rfl : w1 = wx := hwx.symm
 clear hcl zh
 go_wp2
 go_ret
 exact ⟨rfl, HH.out⟩
theorem w_atLink {X w : World} {B g1 g2 : Nat} {W : Wd} (hL : Laid w) (hW : RW W) (h : WHas X w B g1 g2 W) (x : Hp) : AnsW 74 #[.pointer (some ⟨B, 0, none⟩), x.val] X w B g1 g2 (atLink W x) := by
 unfold atLink
 by_cases g : 0 ≤ x.c ∧ x.c ≤ 2
 · rw [if_neg (not_not_intro g)]
  obtain ⟨xs, cs, hI, hn, hc⟩ := h
  obtain ⟨xk, xc, xn, xj, xp, xe⟩ := x
  simp only at g ⊢
  obtain ⟨k, rfl⟩ : ∃ k : Nat, xc = k := ⟨xc.toNat, by omega⟩
  obtain ⟨y, hy⟩ : ∃ y, cs[k]? = some y := ⟨cs[k]'(by have := hI.three'; omega), List.getElem?_eq_getElem _⟩
  have hck := hW.cck g
  rw [wd_cl hc hy] at hck ⊢
  obtain ⟨⟨cp, cd, ce, ca, cl, cn, js, rs⟩, v1, v2⟩ := y
  obtain ⟨a1, k1, a2, k2, e1, e2⟩ := bk_slices (hI.st.clients _ (List.mem_of_getElem? hy)).1.1 (hI.st.clients _ (List.mem_of_getElem? hy)).1.2
  simp only at e1 e2 hck ⊢
  subst e1 e2
  have hl := (Cl.good (Cl.ck_zero.1 hck).1).2.2.2.1
  simp only at hl
  obtain ⟨j, rfl⟩ : ∃ j : Nat, cl = j := ⟨cl.toNat, by omega⟩
  obtain ⟨x, hx⟩ : ∃ x, xs[j]? = some x := ⟨xs[j]'(by have := hI.three; omega), List.getElem?_eq_getElem _⟩
  rw [wd_nd hn hx]
  by_cases hd : cd = 2
  · have hdb : (cd != 2) = false := by rw [hd]; rfl
   cases hup : x.n.up with
   | false =>
    rw [if_pos (Or.inr rfl)]
    exact w_atLink_down hI hn hc k j (by omega) (by omega) cp cd ce ca cn js rs a1 a2 _ k1 _ k2 hy xk xn xj xp xe hx hdb hup
   | true =>
    rw [if_neg (by rw [hd]; simp)]
    exact w_atLink_go hI hn hc k j (by omega) (by omega) cp cd ce ca cn js rs a1 a2 _ k1 _ k2 hy xk xn xj xp xe hx hL hW hdb hup
  · rw [if_pos (Or.inl hd)]
   exact w_atLink_idle hI hn hc k j (by omega) (by omega) cp cd ce ca cn js rs a1 a2 _ k1 _ k2 hy xk xn xj xp xe hx (by rw [bne_iff_ne]; exact hd)
 · rw [if_pos g]
  exact w_atLink_who h x g
theorem has_down {X w : World} {B g1 g2 : Nat} {W : Wd} {xs : List Nb} {cs : List Cb} (hI : WIn X w B g1 g2 xs W.tip cs W.t) (hn : nodesOf xs = W.ns) (hc : clientsOf cs = W.cs) {j : Nat} {x : Nb} (hx : xs[j]? = some x) :
  WHas X (w.setCell ⟨g1, j * 5 + 4, none⟩ (.bool false)) B g1 g2 (W.putN (j : Int) ⟨x.n.u, x.n.s, x.n.w, false⟩) := by
 obtain ⟨ys, h1, h2⟩ := lift1 hI hx false
 refine ⟨ys, cs, h1, ?_, hc⟩
 rw [h2, hn]
 show W.ns.set j _ = W.ns.set (j : Int).toNat _
 rw [Int.toNat_natCast]
def inNode (W : Wd) (x : Hp) (n : Nd) : Wd × Int :=
 if x.k = 13 then W.onN x.n n.boot else if n.up = false then (W, 7) else if x.k = 8 then W.onN x.n (n.write ⟨2, 0, x.p, En.zero⟩) else if x.k = 9 then learnAt W x.c n.u.p
 else (W.putN x.n ⟨n.u, n.s, n.w, false⟩, 0)
theorem w_atNode_in {X w : World} {B g1 g2 : Nat} {W : Wd} (hL : Laid w) (hW : RW W) {xs : List Nb} {cs : List Cb} (hI : WIn X w B g1 g2 xs W.tip cs W.t) (hn : nodesOf xs = W.ns) (hc : clientsOf cs = W.cs) (j : Nat) (hj : j < 3) (u : Un) (sf wt : List UInt8) (up : Bool) (vc vs vw : Value)
  (xk xc xj xp : Int) (xe : En) (hx : xs[j]? = some ⟨⟨u, sf, wt, up⟩, vc, vs, vw⟩) :
  AnsW 73 #[.pointer (some ⟨B, 0, none⟩), Hp.val ⟨xk, xc, (j : Int), xj, xp, xe⟩] X w B g1 g2 (inNode W ⟨xk, xc, (j : Int), xj, xp, xe⟩ (⟨u, sf, wt, up⟩ : Nd)) := by
 have hnck : (⟨u, sf, wt, up⟩ : Nd).ck = 0 := hW.node j (⟨u, sf, wt, up⟩ : Nd) (by rw [← hn]; exact nodes_at hx)
 have HBS : Aside ((⟨u, sf, wt, up⟩ : Nd).boot.1.u.cells.length = 60) := boot_sixty hnck
 have HWS : Aside (up = true → ((⟨u, sf, wt, up⟩ : Nd).write ⟨2, 0, xp, En.zero⟩).1.u.cells.length = 60 ∧ ((⟨u, sf, wt, up⟩ : Nd).write ⟨2, 0, xp, En.zero⟩).1.up = up) := fun h => write_sixty hnck h
 have HFT : Aside (sf.length ≤ topLen ∧ wt.length ≤ topLen) := right_fits hnck
 have HLd : Aside (Laid w) := hL
 obtain ⟨rr, HRR⟩ : ∃ rr, Hid (inNode W ⟨xk, xc, (j : Int), xj, xp, xe⟩ (⟨u, sf, wt, up⟩ : Nd) = rr) := ⟨_, rfl⟩
 rw [HRR.out]
 have HC : Hid ((xk = 13 ∧ rr = W.onN (j : Int) (⟨u, sf, wt, up⟩ : Nd).boot) ∨ (¬ xk = 13 ∧ ((up = false ∧ rr = (W, 7)) ∨ (up = true ∧ ((xk = 8 ∧ rr = W.onN (j : Int) ((⟨u, sf, wt, up⟩ : Nd).write ⟨2, 0, xp, En.zero⟩)) ∨ (¬ xk = 8 ∧ ((xk = 9 ∧ rr = learnAt W xc u.p) ∨ (¬ xk = 9 ∧ rr = (W.putN (j : Int) ⟨u, sf, wt, false⟩, 0))))))))) := by
  have := HRR.out
  unfold inNode at this
  simp only at this
  by_cases h1 : xk = 13
  · rw [if_pos h1] at this; exact Or.inl ⟨h1, this.symm⟩
  · rw [if_neg h1] at this
   refine Or.inr ⟨h1, ?_⟩
   cases up with
   | false => rw [if_pos rfl] at this; exact Or.inl ⟨rfl, this.symm⟩
   | true =>
    rw [if_neg (by simp)] at this
    refine Or.inr ⟨rfl, ?_⟩
    by_cases h2 : xk = 8
    · rw [if_pos h2] at this; exact Or.inl ⟨h2, this.symm⟩
    · rw [if_neg h2] at this
     refine Or.inr ⟨h2, ?_⟩
     by_cases h3 : xk = 9
     · rw [if_pos h3] at this; exact Or.inl ⟨h3, this.symm⟩
     · rw [if_neg h3] at this; exact Or.inr ⟨h3, this.symm⟩
 have hbA : Below w.heap.size w (w.alloc (boxH ⟨xk, xc, (j : Int), xj, xp, xe⟩)) := grew (Below.refl _ _) _
 have HI0 : Aside (WIn X (w.alloc (boxH ⟨xk, xc, (j : Int), xj, xp, xe⟩)) B g1 g2 xs W.tip cs W.t) := hI.later hbA
 have HX0 : Aside ((w.alloc (boxH ⟨xk, xc, (j : Int), xj, xp, xe⟩)).heap[w.heap.size]? = some (boxH ⟨xk, xc, (j : Int), xj, xp, xe⟩)) := heap_new _ _
 have HB0 : Aside (Below w.heap.size w (w.alloc (boxH ⟨xk, xc, (j : Int), xj, xp, xe⟩))) := hbA
 have HE : Aside (nodesOf xs = W.ns ∧ clientsOf cs = W.cs) := ⟨hn, hc⟩
 have HX : Aside (xs[j]? = some ⟨⟨u, sf, wt, up⟩, vc, vs, vw⟩) := hx
 have hji : (j : Int) < 3 := by omega
 have hj0 : (0 : Int) ≤ (j : Int) := by omega
 clear hbA HRR hnck hL hW hI hn hc hx
 go_enter Tryz.func73, Tryz.ntmps73
 go_upto_region 1 with fail
 generalize w.alloc (boxH ⟨xk, xc, (j : Int), xj, xp, xe⟩) = w1 at *
 have zh := fun i => Joins.cell_of_block HX0.out i
 have zb := HI0.out.boxz
 have hb1 : decide ((j : Int) < 0) = false := decide_eq_false (by omega)
 have hb2 : decide ((3 : Int) ≤ (j : Int)) = false := decide_eq_false (by omega)
 go_region
 have HI2 : Aside (WIn X w1.drew B g1 g2 xs W.tip cs W.t) := HI0.out.later (Below.refl _ _).drew
 have HX2 : Aside (w1.drew.heap[w.heap.size]? = some (boxH ⟨xk, xc, (j : Int), xj, xp, xe⟩)) := HX0.out
 have HB2 : Aside (Below w.heap.size w w1.drew) := HB0.out.drew
 clear zb zh HI0 HX0 HB0
 go_upto_region 3 with fail
 generalize w1.drew = w2 at *
 have zh := fun i => Joins.cell_of_block HX2.out i
 have zb := HI2.out.boxz
 go_region
 have HI3 : Aside (WIn X w2.drew B g1 g2 xs W.tip cs W.t) := HI2.out.later (Below.refl _ _).drew
 have HX3 : Aside (w2.drew.heap[w.heap.size]? = some (boxH ⟨xk, xc, (j : Int), xj, xp, xe⟩)) := HX2.out
 have HB3 : Aside (Below w.heap.size w w2.drew) := HB2.out.drew
 clear zb zh HI2 HX2 HB2
 go_upto_region 4 with fail
 generalize w2.drew = w3 at *
 have zh := fun i => Joins.cell_of_block HX3.out i
 have x4 := (HI3.out.nat HX.out).cell (i := 4) rfl
 have hLd := HLd.out.later HB3.out
 rcases HC.out with ⟨h13, h1⟩ | ⟨h13, HC1⟩
 · have hb13 : (xk == 13) = true := by rw [h13]; rfl
  subst h1
  have kt := w_boot hLd (HI3.out.nat HX.out) HFT.out.1 HFT.out.2
  clear h13 HC hLd x4
  go_wp2_with fail
  refine kt.mono ?_
  rintro e w6 ⟨rfl, hp⟩
  have HF : Aside _ := has_on5 HI3.out HE.out.1 HE.out.2 HX.out hp HBS.out boot_err
  clear hp kt zh
  go_wp2
  go_ret
  exact ⟨by rw [onN_snd]; rfl, HF.out⟩
 · have hb13 : (xk == 13) = false := by rw [beq_eq_false_iff_ne]; exact h13
  clear h13 HC
  rcases HC1 with ⟨hup, h1⟩ | ⟨hup, HC2⟩
  · subst h1
   subst hup
   clear hLd
   go_wp2
   go_ret
   exact ⟨rfl, xs, cs, HI3.out, HE.out.1, HE.out.2⟩
  · subst hup
   rcases HC2 with ⟨h8, h1⟩ | ⟨h8, HC3⟩
   · have hb8 : (xk == 8) = true := by rw [h8]; rfl
    subst h1
    have kt := w_write hLd (HI3.out.nat HX.out) HFT.out.1 HFT.out.2 ⟨2, 0, xp, En.zero⟩
    have kt : Calls Tryz.prog 102 #[.pointer (some ⟨g1, j * 5, none⟩), .agg #[.int .i64 2, .int .i64 0, .int .i64 xp, .int .i64 0, .int .i64 0, .int .i64 0, .int .i64 0, .int .i64 0]] w3 _ := kt
    clear h8 hLd
    go_wp2_with fail
    refine kt.mono ?_
    rintro e w6 ⟨rfl, hp⟩
    have HF : Aside _ := has_on4 HI3.out HE.out.1 HE.out.2 HX.out hp (HWS.out trivial).1 (HWS.out trivial).2 write_err
    clear hp kt zh x4
    go_wp2
    go_ret
    exact ⟨by rw [onN_snd]; rfl, HF.out⟩
   · have hb8 : (xk == 8) = false := by rw [beq_eq_false_iff_ne]; exact h8
    rcases HC3 with ⟨h9, h1⟩ | ⟨h9, h1⟩
    · have hb9 : (xk == 9) = true := by rw [h9]; rfl
     subst h1
     clear h8 h9 hLd
     have HH : Aside (WHas X w3.drew B g1 g2 W) := ⟨xs, cs, HI3.out.later (Below.refl _ _).drew, HE.out.1, HE.out.2⟩
     have kl := w_learn HH.out xc u.p
     have HI4 : Aside (WIn X w3.drew B g1 g2 xs W.tip cs W.t) := HI3.out.later (Below.refl _ _).drew
     have HX4 : Aside (w3.drew.heap[w.heap.size]? = some (boxH ⟨xk, xc, (j : Int), xj, xp, xe⟩)) := HX3.out
     go_upto_region 12 with fail
     clear x4 zh HI3 HX3 HB3 HH
     refine wp_region_noPanic ?_
     refine region_L (fun w' => Below w3.drew.heap.size w3.drew w') 8 (by kernel_rfl) (Below.refl _ _) (fun hHeld => ?_)
     generalize w3.drew = w4 at *
     refine tl 0 (v := ?_) rfl (by kernel_rfl) (by rfl) (by assumption) (fun _ _ _ h => h) ?_ ?_
     rotate_left
     · (intro w0 hSw; clear hSw; go_simp; first | done | with_reducible rfl)
     try simp only [Act.put, qa, qb, qc]
     refine anyL_free (i := 1) (v := ?_) rfl (by kernel_rfl) (by kernel_rfl) (by kernel_rfl) (by kernel_rfl) (fun _ _ _ h => h) (Or.inl ⟨by rfl, ?_⟩) (by assumption) ?_
     rotate_left
     · (intro w0 _; go_simp; first | done | with_reducible rfl)
     try simp only [Act.put, qa, qb, qc]
     refine tl 2 (v := ?_) rfl (by kernel_rfl) (by rfl) (by assumption) (fun _ _ _ h => h) ?_ ?_
     rotate_left
     · (intro w0 hSw; have z := (show ∀ i, w0.cell? ⟨w.heap.size, i, none⟩ = #[Value.int .i64 xk, .int .i64 xc, .int .i64 (j : Int), .int .i64 xj, .int .i64 xp, .int .i64 xe.k, .int .i64 xe.j, .int .i64 xe.v, .int .i64 xe.t, .int .i64 xe.c][i]? from fun i => Joins.cell_of_block (heap_below HX4.out hSw (heap_lt HX4.out)) i); clear hSw; go_simp; first | done | with_reducible rfl)
     try simp only [Act.put, qa, qb, qc]
     refine anyL_free (i := 3) (v := ?_) rfl (by kernel_rfl) (by kernel_rfl) (by kernel_rfl) (by kernel_rfl) (fun _ _ _ h => h) (Or.inl ⟨by rfl, ?_⟩) (by assumption) ?_
     rotate_left
     · (intro w0 _; go_simp; first | done | with_reducible rfl)
     try simp only [Act.put, qa, qb, qc]
     refine anyL_free (i := 4) (v := ?_) rfl (by kernel_rfl) (by kernel_rfl) (by kernel_rfl) (by kernel_rfl) (fun _ _ _ h => h) (Or.inl ⟨by rfl, ?_⟩) (by assumption) ?_
     rotate_left
     · (intro w0 _; go_simp; first | done | with_reducible rfl)
     try simp only [Act.put, qa, qb, qc]
     refine anyL_free (i := 5) (v := ?_) rfl (by kernel_rfl) (by kernel_rfl) (by kernel_rfl) (by kernel_rfl) (fun _ _ _ h => h) (Or.inl ⟨by rfl, ?_⟩) (by assumption) ?_
     rotate_left
     · (intro w0 _; go_simp; first | done | with_reducible rfl)
     try simp only [Act.put, qa, qb, qc]
     refine anyL_free (i := 6) (v := ?_) rfl (by kernel_rfl) (by kernel_rfl) (by kernel_rfl) (by kernel_rfl) (fun _ _ _ h => h) (Or.inl ⟨by rfl, ?_⟩) (by assumption) ?_
     rotate_left
     · (intro w0 _; go_simp; first | done | with_reducible rfl)
     try simp only [Act.put, qa, qb, qc]
     refine tl 7 (v := ?_) rfl (by kernel_rfl) (by rfl) (by assumption) (fun _ _ _ h => h) ?_ ?_
     rotate_left
     · (intro w0 hSw; have y0 := ((HI4.out.later hSw).nat HX.out).cell (i := 0) rfl; simp only [Nat.add_zero] at y0; clear hSw; go_simp; first | done | with_reducible rfl)
     try simp only [Act.put, qa, qb, qc]
     refine anyL_one (i := 8) (by kernel_rfl) rfl (fun K hK => ?_)
     go_simp
     refine kl.mono ?_
     rintro e w6 ⟨rfl, hp⟩
     have HF : Aside _ := hp
     refine hK.out _ _ (fun h => absurd h (by decide +kernel)) (fun _ => ?_)
     clear hK K hp kl hHeld
     try simp only [Act.put, qa, qb, qc]
     refine anyL_one (i := 9) (by kernel_rfl) rfl (fun K hK => ?_)
     go_simp
     refine hK.out _ _ (fun h => absurd h (by decide +kernel)) (fun _ => ?_)
     clear hK K
     try simp only [Act.put, qa, qb, qc]
     refine anyL_done (by kernel_rfl) ?_ _
     refine NoPanic.normal ?_
     try simp only [Act.put, qa, qb, qc]
     go_wp2
     go_ret
     exact ⟨rfl, HF.out⟩
    · have hb9 : (xk == 9) = false := by rw [beq_eq_false_iff_ne]; exact h9
     subst h1
     clear h8 h9 hLd
     have fx := (HI3.out.nat HX.out).fz
     have HF : Aside _ := has_down HI3.out HE.out.1 HE.out.2 HX.out
     go_wp2
     go_ret
     exact ⟨rfl, HF.out⟩
theorem w_atNode_who {X w : World} {B g1 g2 : Nat} {W : Wd} (h : WHas X w B g1 g2 W) (x : Hp) (g : ¬ (0 ≤ x.n ∧ x.n ≤ 2)) : AnsW 73 #[.pointer (some ⟨B, 0, none⟩), x.val] X w B g1 g2 (W, 5) := by
 have hbA : Below w.heap.size w (w.alloc (boxH x)) := grew (Below.refl _ _) _
 have HH : Aside (WHas X (w.alloc (boxH x)) B g1 g2 W) := h.later hbA
 have HX0 : Aside ((w.alloc (boxH x)).heap[w.heap.size]? = some (boxH x)) := heap_new _ _
 obtain ⟨xs, cs, hI, _, _⟩ := h
 have zb := (hI.later hbA).boxz
 have hcase : decide (x.n < 0) = true ∨ (decide (x.n < 0) = false ∧ decide ((3 : Int) ≤ x.n) = true) := by
  by_cases h0 : x.n < 0
  · exact Or.inl (decide_eq_true h0)
  · exact Or.inr ⟨decide_eq_false h0, decide_eq_true (by omega)⟩
 clear hI hbA g
 rcases hcase with hb1 | ⟨hb1, hb2⟩
 all_goals
  go_enter Tryz.func73, Tryz.ntmps73
  go_upto_region 1 with fail
  generalize w.alloc (boxH x) = w1 at *
  have zh := fun i => Joins.cell_of_block HX0.out i
  go_region
  go_wp2
  go_ret
  exact ⟨rfl, HH.out.later (Below.refl _ _).drew⟩
theorem w_atNode {X w : World} {B g1 g2 : Nat} {W : Wd} (hL : Laid w) (hW : RW W) (h : WHas X w B g1 g2 W) (x : Hp) : AnsW 73 #[.pointer (some ⟨B, 0, none⟩), x.val] X w B g1 g2 (atNode W x) := by
 by_cases g : 0 ≤ x.n ∧ x.n ≤ 2
 · obtain ⟨xs, cs, hI, hn, hc⟩ := h
  obtain ⟨xk, xc, xn, xj, xp, xe⟩ := x
  simp only at g
  obtain ⟨j, rfl⟩ : ∃ j : Nat, xn = j := ⟨xn.toNat, by omega⟩
  obtain ⟨x, hx⟩ : ∃ x, xs[j]? = some x := ⟨xs[j]'(by have := hI.three; omega), List.getElem?_eq_getElem _⟩
  have e : atNode W ⟨xk, xc, (j : Int), xj, xp, xe⟩ = inNode W ⟨xk, xc, (j : Int), xj, xp, xe⟩ x.n := by
   unfold atNode inNode
   simp only
   rw [if_neg (not_not_intro g), wd_nd hn hx]
  rw [e]
  obtain ⟨⟨u, sf, wt, up⟩, vc, vs, vw⟩ := x
  exact w_atNode_in hL hW hI hn hc j (by omega) u sf wt up vc vs vw xk xc xj xp xe hx
 · rw [atNode, if_pos g]
  exact w_atNode_who h x g
end Go.Proofs.YtmoaobfmopimlafGreatDoor
