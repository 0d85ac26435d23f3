/- For the law. -/
import Derived.Test.YtmoaobfmopimlafGreatDoorM60
set_option linter.unusedSimpArgs false
set_option linter.unusedVariables false
namespace Go.Proofs.YtmoaobfmopimlafGreatDoor
open Go.RowKit
abbrev boxWZ : Obj := .cells #[.slice none 0 0, .int .i64 0, .slice none 0 0, .int .i64 0] 25
abbrev stW (w : World) (b : Nat) (vn : Value) (tip : Int) (vc : Value) (t : Int) : World := (((w.setCell ⟨b, 0, none⟩ vn).setCell ⟨b, 1, none⟩ (.int .i64 tip)).setCell ⟨b, 2, none⟩ vc).setCell ⟨b, 3, none⟩ (.int .i64 t)
theorem stW_box {w : World} {b : Nat} {v0 v1 v2 v3 : Value} (h : w.heap[b]? = some (.cells #[v0, v1, v2, v3] 25)) (vn : Value) (tip : Int) (vc : Value) (t : Int) : (stW w b vn tip vc t).heap[b]? = some (boxW vn tip vc t) := by
 have g0 := Joins.block_setCell h (i := 0) vn
 have g1 := Joins.block_setCell g0 (i := 1) (.int .i64 tip)
 have g2 := Joins.block_setCell g1 (i := 2) vc
 have g3 := Joins.block_setCell g2 (i := 3) (.int .i64 t)
 simp only [List.setIfInBounds_toArray, List.set_cons_zero, List.set_cons_succ] at g3
 exact g3
theorem stW_below {B : Nat} {a w : World} {b : Nat} (h : Below B a w) (hb : B ≤ b) (vn : Value) (tip : Int) (vc : Value) (t : Int) : Below B a (stW w b vn tip vc t) :=
 (((h.setCell (p := ⟨b, 0, none⟩) hb _).setCell (p := ⟨b, 1, none⟩) hb _).setCell (p := ⟨b, 2, none⟩) hb _).setCell (p := ⟨b, 3, none⟩) hb _
theorem stW_other {w : World} {b q : Nat} {o : Obj} (h : w.heap[q]? = some o) (hne : q ≠ b) (vn : Value) (tip : Int) (vc : Value) (t : Int) : (stW w b vn tip vc t).heap[q]? = some o :=
 other_block (other_block (other_block (other_block h hne _ _) hne _ _) hne _ _) hne _ _
theorem ret1_world {fn : Func} {R : Ending → World → Prop} {a : Act} {W : World} {b p : Nat} {vn vc : Value} {tip t : Int} (hf : fn.results = #[.cell p 25]) (hd : a.defers = [])
  (h2 : a.tmps.getD p undef = .pointer (some ⟨b, 0, none⟩)) (hR : W.heap[b]? = some (boxW vn tip vc t)) (hp : R (.returned (wval vn tip vc t)) W) : bodyPost Tryz.prog fn R .ret a W := by
 have c0 := fun i => Joins.cell_of_block hR i
 refine bodyPost_ret (v := wval vn tip vc t) ?_ hd hp
 simp only [results, hf]
 simp at h2
 simp [go_sem, c0, h2]
structure WRow (X w : World) (g1 g2 : Nat) (xs : List Nb) (cs : List Cb) : Prop where
 nrow : w.heap[g1]? = some (.cells (xs.flatMap Nb.cells).toArray 49)
 crow : w.heap[g2]? = some (.cells (cs.flatMap Cb.cells).toArray 41)
 nodes : ∀ x, x ∈ xs → NodeR w x
 clients : ∀ x, x ∈ cs → ClientR w x
 three : xs.length = 3
 three' : cs.length = 3
 base1 : X.heap.size ≤ g1
 base2 : X.heap.size ≤ g2
 below : Below X.heap.size X w
def Ap1 (X wr : World) (B g1 g2 : Nat) (xs : List Nb) (CC : List Value) (tip t : Int) (k : Nat) : Prop :=
 ∃ ys : List Nb, ys.length = xs.length ∧ WSt X wr B g1 g2 (ys.flatMap Nb.cells) tip CC t (ys.take k) [] ∧ (∀ i x, k ≤ i → xs[i]? = some x → ys[i]? = some x) ∧ nodesOf ys = nodesOf xs
theorem Ap1.step {X wr : World} {B g1 g2 : Nat} {xs ys : List Nb} {CC NC : List Value} {tip t : Int} {k : Nat} {x : Nb} (hl : ys.length = xs.length) (hx : ys[k]? = some x) (hr : ∀ i x, k ≤ i → xs[i]? = some x → ys[i]? = some x) (hn : nodesOf ys = nodesOf xs) {y : Nb} (hy : NodeR wr y) (hyn : y.n = x.n)
  (hS : WSt X wr B g1 g2 NC tip CC t (ys.take k) []) (hNC : NC = (ys.set k y).flatMap Nb.cells) : Ap1 X wr B g1 g2 xs CC tip t (k + 1) := by
 have hlt := (List.getElem?_eq_some_iff.1 hx).1
 refine ⟨ys.set k y, by rw [List.length_set, hl], ?_, fun i z hi hz => ?_, ?_⟩
 ·rw [← hNC]
  refine hS.more (fun z hz => ?_) hS.clients
  rw [List.take_add_one, List.getElem?_set_self hlt] at hz
  rcases List.mem_append.1 hz with hz | hz
  ·rw [List.take_set_of_le (Nat.le_refl k)] at hz
   exact hS.nodes z hz
  ·obtain rfl : z = y := by simpa using hz
   exact hy
 ·rw [List.getElem?_set_ne (by omega)]
  exact hr i z (by omega) hz
 ·rw [nodes_set, hyn, set_self _ _ _ (nodes_at hx), hn]
def Ap2 (X wr : World) (B g1 g2 : Nat) (cs : List Cb) (ys : List Nb) (tip t : Int) (k : Nat) : Prop :=
 ∃ ds : List Cb, ds.length = cs.length ∧ WSt X wr B g1 g2 (ys.flatMap Nb.cells) tip (ds.flatMap Cb.cells) t ys (ds.take k) ∧ (∀ i x, k ≤ i → cs[i]? = some x → ds[i]? = some x) ∧ clientsOf ds = clientsOf cs
theorem Ap2.step {X wr : World} {B g1 g2 : Nat} {cs ds : List Cb} {ys : List Nb} {CC : List Value} {tip t : Int} {k : Nat} {x : Cb} (hl : ds.length = cs.length) (hx : ds[k]? = some x) (hr : ∀ i x, k ≤ i → cs[i]? = some x → ds[i]? = some x) (hn : clientsOf ds = clientsOf cs) {y : Cb} (hy : ClientR wr y) (hyn : y.c = x.c)
  (hS : WSt X wr B g1 g2 (ys.flatMap Nb.cells) tip CC t ys (ds.take k)) (hCC : CC = (ds.set k y).flatMap Cb.cells) : Ap2 X wr B g1 g2 cs ys tip t (k + 1) := by
 have hlt := (List.getElem?_eq_some_iff.1 hx).1
 refine ⟨ds.set k y, by rw [List.length_set, hl], ?_, fun i z hi hz => ?_, ?_⟩
 ·rw [← hCC]
  refine hS.more hS.nodes (fun z hz => ?_)
  rw [List.take_add_one, List.getElem?_set_self hlt] at hz
  rcases List.mem_append.1 hz with hz | hz
  ·rw [List.take_set_of_le (Nat.le_refl k)] at hz
   exact hS.clients z hz
  ·obtain rfl : z = y := by simpa using hz
   exact hy
 ·rw [List.getElem?_set_ne (by omega)]
  exact hr i z (by omega) hz
 ·rw [clients_set, hyn, set_self _ _ _ (clients_at hx), hn]
theorem nput123 {xs : List Nb} {k : Nat} {x : Nb} (hx : xs[k]? = some x) (y : Nb) (hy : y.n = x.n) :
  (((xs.flatMap Nb.cells).set (k * 5 + 1) y.vc).set (k * 5 + 2) y.vs).set (k * 5 + 3) y.vw = (xs.set k y).flatMap Nb.cells := by
 obtain ⟨h1, h2⟩ := flat_split Nb.cells xs k x hx
 have hA := front_len Nb.five hx
 rw [h1, h2 y, seg_set hA (by rw [Nb.five]; decide), seg_set hA (by simp [Nb.five]), seg_set hA (by simp [Nb.five])]
 unfold Nb.cells
 rw [hy]
 rfl
theorem cput2 {cs : List Cb} {k : Nat} {x : Cb} (hx : cs[k]? = some x) (y : Cb) (hy : y.c = x.c) :
  ((cs.flatMap Cb.cells).set (k * 12 + 10) y.v1).set (k * 12 + 11) y.v2 = (cs.set k y).flatMap Cb.cells := by
 obtain ⟨h1, h2⟩ := flat_split Cb.cells cs k x hx
 have hA := front_len Cb.twelve hx
 rw [h1, h2 y, seg_set hA (by rw [Cb.twelve]; decide), seg_set hA (by simp [Cb.twelve])]
 unfold Cb.cells
 rw [hy]
 rfl
theorem noByte_clientsA {w : World} {xs : List Cb} (h : ∀ x, x ∈ xs → ClientT w x) : NoByte (xs.flatMap Cb.cells) := fun y hm => by
 obtain ⟨x, hx, hm⟩ := List.mem_flatMap.1 hm
 obtain ⟨a1, n1, c1, e1⟩ := slOf_sl (h x hx).1
 obtain ⟨a2, n2, c2, e2⟩ := slOf_sl (h x hx).2
 simp [Cb.cells, e1, e2] at hm
theorem own_ents {w : World} {q : Nat} {es : List En} (h : w.heap[q]? = some (.cells (es.flatMap En.cells).toArray 27)) (u : Un) (hu : u.cells = es) : UnitAt w (.slice (some ⟨q, 0, none⟩) es.length es.length) u :=
 ⟨by rw [hu]; exact slOf_lit En.five h rfl, ⟨_, _, _, rfl, Nat.le_refl _⟩⟩
theorem own_bytes {w : World} {q : Nat} {l : List UInt8} (h : w.heap[q]? = some (.cells (l.flatMap bt).toArray 5)) : ByteSl w (.slice (some ⟨q, 0, none⟩) l.length l.length) l := slOf_lit bt_one h rfl
theorem wrow_st {X w : World} {B g1 g2 r : Nat} {ys : List Nb} {ds : List Cb} {tip0 t0 : Int} (hr : w.heap[r]? = some (boxWZ)) (h : WSt X w B g1 g2 (ys.flatMap Nb.cells) tip0 (ds.flatMap Cb.cells) t0 ys ds) (h1 : g1 ≠ r) (h2 : g2 ≠ r) (hb : X.heap.size ≤ r) (k1 : X.heap.size ≤ g1) (k2 : X.heap.size ≤ g2) (hX : Below X.heap.size X w) (hy : ys.length = 3) (hd : ds.length = 3) (tip t : Int) :
  WRow X (stW w r (.slice (some ⟨g1, 0, none⟩) 3 3) tip (.slice (some ⟨g2, 0, none⟩) 3 3) t) g1 g2 ys ds := by
 have c0 := hr
 have c1 := Joins.block_setCell c0 (i := 0) (.slice (some ⟨g1, 0, none⟩) 3 3)
 have c2 := Joins.block_setCell c1 (i := 1) (.int .i64 tip)
 have c3 := Joins.block_setCell c2 (i := 2) (.slice (some ⟨g2, 0, none⟩) 3 3)
 simp only [List.setIfInBounds_toArray, List.set_cons_zero, List.set_cons_succ] at c1 c2 c3
 have nb : ∀ (A : List Value), (∀ v, v ∈ A → (∃ a n c, v = .slice a n c) ∨ ∃ q, v = .int .i64 q) → ∀ q : Int, Value.int .u8 q ∉ A.toArray.toList := fun A hA q hq => by
  rcases hA _ (by simpa using hq) with ⟨_, _, _, h⟩ | ⟨_, h⟩ <;> cases h
 refine ⟨stW_other h.nrow h1 _ _ _ _, stW_other h.crow h2 _ _ _ _, fun x hx => ?_, fun x hx => ?_, hy, hd, k1, k2, stW_below hX hb _ _ _ _⟩
 ·exact node_off (node_off (node_off (node_off (h.nodes x hx) c0 (by simp) (nb _ (by simp)) 0 _) c1 (by simp) (nb _ (by simp)) 1 _) c2 (by simp) (nb _ (by simp)) 2 _) c3 (by simp) (nb _ (by simp)) 3 _
 ·exact client_off (client_off (client_off (client_off (h.clients x hx) c0 (by decide) (by decide) 0 _) c1 (by decide) (by decide) 1 _) c2 (by decide) (by decide) 2 _) c3 (by decide) (by decide) 3 _
set_option maxHeartbeats 16000000 in
set_option maxRecDepth 100000 in
theorem w_apart_at (a1 a2 : Option Addr) (c1 c2 : Nat) (xs : List Nb) (cs : List Cb) (tip t : Int) (w : World) (h : WdAt w (.slice a1 3 c1) (.slice a2 3 c2) xs cs) (h60 : ∀ x, x ∈ xs → x.n.u.cells.length = 60 ∧ x.n.s.length ≤ 1000000 ∧ x.n.w.length ≤ 1000000) (hjr : ∀ x, x ∈ cs → x.c.js.length ≤ 1000000 ∧ x.c.rs.length ≤ 1000000) :
  Calls Tryz.prog 23 #[wval (.slice a1 3 c1) tip (.slice a2 3 c2) t] w fun e w' => ∃ g1 g2 ys ds, e = .returned (wval (.slice (some ⟨g1, 0, none⟩) 3 3) tip (.slice (some ⟨g2, 0, none⟩) 3 3) t) ∧ WRow w w' g1 g2 ys ds ∧ nodesOf ys = nodesOf xs ∧ clientsOf ds = clientsOf cs := by
 have KN : Aside (∀ V, Below w.heap.size w V → Calls Tryz.prog 65 #[.slice a1 3 c1] V fun e w' => ∃ g, e = .returned (.slice (some ⟨g, 0, none⟩) 3 3) ∧ V.heap.size ≤ g ∧ w'.heap[g]? = some (.cells (xs.flatMap Nb.cells).toArray 49) ∧ Below V.heap.size V w') := fun V hV => by
  have := wcopyN (.slice a1 3 c1) xs V (h.rowN.later hV) (by rw [h.rowN.len]; omega) (fun y hy => (h.node y hy).sl)
  rwa [h.rowN.len] at this
 have KC : Aside (∀ V, Below w.heap.size w V → Calls Tryz.prog 66 #[.slice a2 3 c2] V fun e w' => ∃ g, e = .returned (.slice (some ⟨g, 0, none⟩) 3 3) ∧ V.heap.size ≤ g ∧ w'.heap[g]? = some (.cells (cs.flatMap Cb.cells).toArray 41) ∧ Below V.heap.size V w') := fun V hV => by
  have := wcopyC (.slice a2 3 c2) cs V (h.rowC.later hV) (by rw [h.rowC.len]; omega) (fun y hy => clientT_sl (h.client y hy))
  rwa [h.rowC.len] at this
 have HW : Aside (WdAt w (.slice a1 3 c1) (.slice a2 3 c2) xs cs) := h
 have H60 : Aside (∀ x, x ∈ xs → x.n.u.cells.length = 60 ∧ x.n.s.length ≤ 1000000 ∧ x.n.w.length ≤ 1000000) := h60
 have HJR : Aside (∀ x, x ∈ cs → x.c.js.length ≤ 1000000 ∧ x.c.rs.length ≤ 1000000) := hjr
 have HL3 : Aside (xs.length = 3 ∧ cs.length = 3) := ⟨h.rowN.len, h.rowC.len⟩
 clear h h60 hjr
 have B0 : Aside (Below w.heap.size w ((w.alloc (boxW (.slice a1 3 c1) tip (.slice a2 3 c2) t)).alloc (boxWZ))) := grew (grew (Below.refl _ _) _) _
 have h0_0 : Aside (((w.alloc (boxW (.slice a1 3 c1) tip (.slice a2 3 c2) t)).alloc (boxWZ)).heap[w.heap.size]? = some (boxW (.slice a1 3 c1) tip (.slice a2 3 c2) t)) := by
  have := heap_new w (boxW (.slice a1 3 c1) tip (.slice a2 3 c2) t)
  exact heap_old (this) _
 have h1_0 : Aside (((w.alloc (boxW (.slice a1 3 c1) tip (.slice a2 3 c2) t)).alloc (boxWZ)).heap[w.heap.size + 1]? = some (boxWZ)) := by
  have := heap_new (w.alloc (boxW (.slice a1 3 c1) tip (.slice a2 3 c2) t)) (boxWZ)
  rw [World.size_alloc] at this
  exact this
 go_enter Tryz.func23, Tryz.ntmps23
 go_upto_region 1 with fail
 generalize ((w.alloc (boxW (.slice a1 3 c1) tip (.slice a2 3 c2) t)).alloc (boxWZ)) = w0 at *
 have h0_1 : Aside (w0.drew.heap[w.heap.size]? = some (boxW (.slice a1 3 c1) tip (.slice a2 3 c2) t)) := h0_0.out
 have h1_1 : Aside (w0.drew.heap[w.heap.size + 1]? = some (boxWZ)) := h1_0.out
 have B1 : Aside (Below w.heap.size w w0.drew) := B0.out.drew
 clear h0_0 h1_0 B0
 refine wp_region_noPanic ?_
 refine region_L (fun w' => Below w0.drew.heap.size w0.drew w') 7 (by kernel_rfl) (Below.refl _ _) (fun hHeld => ?_)
 generalize w0.drew = w1 at *
 refine tl 0 (v := ?_) rfl (by kernel_rfl) (by rfl) (by assumption) (fun _ _ _ h => h) ?_ ?_
 rotate_left
 ·(intro w0 hSw; clear hSw; go_simp; first | done | with_reducible rfl)
 try simp only [Act.put, qa, qb, qc]
 refine tl 1 (v := ?_) rfl (by kernel_rfl) (by rfl) (by assumption) (fun _ _ _ h => h) ?_ ?_
 rotate_left
 ·(intro w0 hSw; have z := (show ∀ i, w0.cell? ⟨w.heap.size, i, none⟩ = #[Value.slice a1 3 c1, .int .i64 tip, .slice a2 3 c2, .int .i64 t][i]? from fun i => Joins.cell_of_block (heap_below h0_1.out hSw (heap_lt h0_1.out)) i); clear hSw; go_simp; first | done | with_reducible rfl)
 try simp only [Act.put, qa, qb, qc]
 refine tl 3 (v := ?_) rfl (by kernel_rfl) (by rfl) (by assumption) (fun _ _ _ h => h) ?_ ?_
 rotate_left
 ·(intro w0 hSw; clear hSw; go_simp; first | done | with_reducible rfl)
 try simp only [Act.put, qa, qb, qc]
 refine tl 4 (v := ?_) rfl (by kernel_rfl) (by rfl) (by assumption) (fun _ _ _ h => h) ?_ ?_
 rotate_left
 ·(intro w0 hSw; have z := (show ∀ i, w0.cell? ⟨w.heap.size, i, none⟩ = #[Value.slice a1 3 c1, .int .i64 tip, .slice a2 3 c2, .int .i64 t][i]? from fun i => Joins.cell_of_block (heap_below h0_1.out hSw (heap_lt h0_1.out)) i); clear hSw; go_simp; first | done | with_reducible rfl)
 try simp only [Act.put, qa, qb, qc]
 refine anyL_one (i := 2) (by kernel_rfl) rfl (fun K hK => ?_)
 go_simp
 refine (KN.out _ B1.out).mono ?_
 rintro e w2 ⟨g1, rfl, hg1, hrn, hb2⟩
 have B2 := sb B1 hb2
 have N2 : Aside (w2.heap[g1]? = some (.cells (xs.flatMap Nb.cells).toArray 49)) := hrn
 have l2 : w1.heap.size ≤ w2.heap.size := hb2.size
 refine hK.out _ _ (fun _ => step_below1 hHeld hb2) (fun hNext => ?_)
 replace hNext := hNext (by kernel_rfl)
 clear hK K hb2 hrn KN hHeld
 try simp only [Act.put, qa, qb, qc]
 refine tl 6 (v := ?_) rfl (by kernel_rfl) (by rfl) (by assumption) (fun _ _ _ h => h) ?_ ?_
 rotate_left
 ·(intro w0 hSw; clear hSw; go_simp; first | done | with_reducible rfl)
 try simp only [Act.put, qa, qb, qc]
 refine anyL_one (i := 5) (by kernel_rfl) rfl (fun K hK => ?_)
 go_simp
 refine (KC.out _ B2.out).mono ?_
 rintro e w3 ⟨g2, rfl, hg2, hrc, hb3⟩
 have B3 := sb B2 hb3
 have N3 := hv N2 hb3
 have C3 : Aside (w3.heap[g2]? = some (.cells (cs.flatMap Cb.cells).toArray 41)) := hrc
 have hHeld : Below w1.heap.size w1 w3 := step_below1 hNext hb3
 have h0_3 := hv h0_1 hHeld
 have h1_3 := hv h1_1 hHeld
 have l1 := heap_lt h1_1.out
 refine hK.out _ _ (fun _ => hHeld) (fun hNext => ?_)
 replace hNext := hNext (by kernel_rfl)
 clear hK K hb3 hrc KC hHeld N2 B2
 try simp only [Act.put, qa, qb, qc]
 have z := cb h0_3
 have fz := cf h0_3
 refine anyL_one (i := 7) (by kernel_rfl) rfl (fun K hK => ?_)
 go_simp
 refine hK.out _ _ (fun h => absurd h (by decide +kernel)) (fun _ => ?_)
 clear hK K
 try simp only [Act.put, qa, qb, qc]
 refine anyL_one (i := 8) (by kernel_rfl) rfl (fun K hK => ?_)
 go_simp
 refine hK.out _ _ (fun h => absurd h (by decide +kernel)) (fun _ => ?_)
 clear hK K
 try simp only [Act.put, qa, qb, qc]
 refine anyL_one (i := 9) (by kernel_rfl) rfl (fun K hK => ?_)
 go_simp
 refine hK.out _ _ (fun h => absurd h (by decide +kernel)) (fun _ => ?_)
 clear hK K
 try simp only [Act.put, qa, qb, qc]
 refine anyL_done (by kernel_rfl) ?_ _
 refine NoPanic.normal ?_
 try simp only [Act.put, qa, qb, qc]
 have N4 : Aside (WSt w ((w3.setCell ⟨w.heap.size, 0, none⟩ (.slice (some ⟨g1, 0, none⟩) 3 3)).setCell ⟨w.heap.size, 2, none⟩ (.slice (some ⟨g2, 0, none⟩) 3 3)) w.heap.size g1 g2 (xs.flatMap Nb.cells) tip (cs.flatMap Cb.cells) t [] []) := by
  have b0 := Joins.block_setCell h0_3.out (i := 0) (.slice (some ⟨g1, 0, none⟩) 3 3)
  have b1 := Joins.block_setCell b0 (i := 2) (.slice (some ⟨g2, 0, none⟩) 3 3)
  simp only [List.setIfInBounds_toArray, List.set_cons_zero, List.set_cons_succ] at b1
  have hB2 := B1.out.size
  have e1 : g1 ≠ w.heap.size := by omega
  have e2 : g2 ≠ w.heap.size := by omega
  refine ⟨b1, other_block (other_block N3.out e1 _ _) e1 _ _, other_block (other_block C3.out e2 _ _) e2 _ _, by rw [row_len Nb.five, HL3.out.1], by rw [row_len Cb.twelve, HL3.out.2], noByte_nodes (w := w) (fun y hy => ⟨HW.out.node y hy, (H60.out y hy).1⟩), noByte_clientsA (w := w) HW.out.client, fun y hy => by (cases hy), fun y hy => by (cases hy), BelowX.of ((B3.out.setCell (p := ⟨w.heap.size, 0, none⟩) (Nat.le_refl _) _).setCell (p := ⟨w.heap.size, 2, none⟩) (Nat.le_refl _) _) _ _ _⟩
 have HGW : Hid (w.heap.size ≤ g1 ∧ w.heap.size ≤ g2) := ⟨by have hB2 := B1.out.size; omega, by have hB2 := B1.out.size; omega⟩
 have R4 : Aside (((w3.setCell ⟨w.heap.size, 0, none⟩ (.slice (some ⟨g1, 0, none⟩) 3 3)).setCell ⟨w.heap.size, 2, none⟩ (.slice (some ⟨g2, 0, none⟩) 3 3)).heap[w.heap.size + 1]? = some (boxWZ)) := other_block (other_block h1_3.out (by omega) _ _) (by omega) _ _
 clear z fz h0_3 h1_3 h0_1 h1_1 B1 B3 N3 C3 hg1 hg2 l1 l2 hNext
 go_upto_region 2 with fail
 generalize (w3.setCell ⟨w.heap.size, 0, none⟩ (.slice (some ⟨g1, 0, none⟩) 3 3)).setCell ⟨w.heap.size, 2, none⟩ (.slice (some ⟨g2, 0, none⟩) 3 3) = w4 at *
 have z := fun i => Joins.cell_of_block N4.out.box i
 go_wp2
 clear z
 go_loopw [18] (fun i wr => ∃ k : Nat, k ≤ 3 ∧ i = .int .i64 k ∧ Ap1 w wr w.heap.size g1 g2 xs (cs.flatMap Cb.cells) tip t k ∧ wr.heap[w.heap.size + 1]? = some (boxWZ)) (fun i _ => 3 - (intOf i).toNat)
 case atStart => exact ⟨0, Nat.zero_le _, rfl, ⟨xs, rfl, N4.out, fun _ _ _ h => h, rfl⟩, R4.out⟩
 case round =>
  clear N4 R4
  obtain ⟨k, hk, rfl, ⟨ys, hyl, hS, hrest, hnod⟩, hR⟩ := hrel
  by_cases hlt : k < 3
  ·obtain ⟨x, hx0⟩ : ∃ x, xs[k]? = some x := ⟨xs[k]'(by have := HL3.out.1; omega), List.getElem?_eq_getElem _⟩
   have hx := hrest k x (Nat.le_refl k) hx0
   have hmem := List.mem_of_getElem? hx0
   have hxt := HW.out.node x hmem
   have hx60 := H60.out x hmem
   obtain ⟨⟨u, sf, wt, up⟩, vc, vs, vw⟩ := x
   obtain ⟨p0, m0, q0, rfl⟩ := roomy_sl hxt.unit.room
   obtain ⟨p1, m1, q1, rfl⟩ := roomy_sl hxt.disk.room1
   obtain ⟨p2, m2, q2, rfl⟩ := roomy_sl hxt.disk.room2
   have KE : Aside (∀ V, Below w.heap.size w V → Calls Tryz.prog 67 #[.slice p0 m0 q0] V fun e w' => ∃ g, e = .returned (.slice (some ⟨g, 0, none⟩) 60 60) ∧ V.heap.size ≤ g ∧ w'.heap[g]? = some (.cells (u.cells.flatMap En.cells).toArray 27) ∧ Below V.heap.size V w') := fun V hV => by
    have := wcopyE (.slice p0 m0 q0) u.cells V (hxt.unit.ents.later hV) (by rw [hx60.1]; omega)
    rwa [hx60.1] at this
   have KS : Aside (∀ V, Below w.heap.size w V → Calls Tryz.prog 68 #[.slice p1 m1 q1] V fun e w' => ∃ g, e = .returned (.slice (some ⟨g, 0, none⟩) sf.length sf.length) ∧ V.heap.size ≤ g ∧ w'.heap[g]? = some (.cells (sf.flatMap bt).toArray 5) ∧ Below V.heap.size V w') := fun V hV => wcopyY (.slice p1 m1 q1) sf V (hxt.disk.safe.later hV) hx60.2.1
   have KT : Aside (∀ V, Below w.heap.size w V → Calls Tryz.prog 68 #[.slice p2 m2 q2] V fun e w' => ∃ g, e = .returned (.slice (some ⟨g, 0, none⟩) wt.length wt.length) ∧ V.heap.size ≤ g ∧ w'.heap[g]? = some (.cells (wt.flatMap bt).toArray 5) ∧ Below V.heap.size V w') := fun V hV => wcopyY (.slice p2 m2 q2) wt V (hxt.disk.wait.later hV) hx60.2.2
   have HU60 : Aside (u.cells.length = 60) := hx60.1
   have HX : Aside (ys[k]? = some ⟨⟨u, sf, wt, up⟩, .slice p0 m0 q0, .slice p1 m1 q1, .slice p2 m2 q2⟩) := hx
   have HR : Aside (wr.heap[w.heap.size + 1]? = some (boxWZ)) := hR
   have HS : Aside (WSt w wr w.heap.size g1 g2 (ys.flatMap Nb.cells) tip (cs.flatMap Cb.cells) t (ys.take k) []) := hS
   have HY : Aside (ys.length = xs.length ∧ (∀ i x, k ≤ i → xs[i]? = some x → ys[i]? = some x) ∧ nodesOf ys = nodesOf xs) := ⟨hyl, hrest, hnod⟩
   have yc : ∀ {i : Nat} {v : Value}, (Nb.cells ⟨⟨u, sf, wt, up⟩, .slice p0 m0 q0, .slice p1 m1 q1, .slice p2 m2 q2⟩)[i]? = some v → wr.cell? ⟨g1, k * 5 + i, none⟩ = some v := fun {i v} hv => by
    rw [Joins.cell_of_block hS.nrow]
    have := row_flat Nb.five ys k _ hx i v hv
    simpa using this
   have y1 := yc (i := 1) rfl
   have fy := fun i => Joins.unfrozen_of_block hS.nrow i
   have zb := fun i => Joins.cell_of_block hS.box i
   have hki : (k : Int) < 3 := by omega
   have hk0 : (0 : Int) ≤ (k : Int) := by omega
   have hke := KE.out wr (hS.below.whole (Nat.le_refl _) HGW.out.1 HGW.out.2)
   clear KE hyl hrest hnod hS hR hx hx0 hmem hxt hx60 yc
   go_wp2_with fail
   refine hke.mono ?_
   rintro e w5 ⟨ge, rfl, _, he, hb5⟩
   have S5 : Aside _ := HS.out.later hb5
   have R5 := hv HR hb5
   have E5 : Aside (w5.heap[ge]? = some (.cells (u.cells.flatMap En.cells).toArray 27)) := he
   clear hke he hb5 HS HR y1 fy zb
   have yc : ∀ {i : Nat} {v : Value}, (Nb.cells ⟨⟨u, sf, wt, up⟩, .slice p0 m0 q0, .slice p1 m1 q1, .slice p2 m2 q2⟩)[i]? = some v → w5.cell? ⟨g1, k * 5 + i, none⟩ = some v := fun {i v} hv => by
    rw [Joins.cell_of_block S5.out.nrow]
    have := row_flat Nb.five ys k _ HX.out i v hv
    simpa using this
   have y1 := yc (i := 1) rfl
   have y2 := yc (i := 2) rfl
   have y3 := yc (i := 3) rfl
   have fy := fun i => Joins.unfrozen_of_block S5.out.nrow i
   have S6 : Aside (WSt w (w5.setCell ⟨g1, k * 5 + 1, none⟩ (.slice (some ⟨ge, 0, none⟩) 60 60)) w.heap.size g1 g2 ((ys.flatMap Nb.cells).set (k * 5 + 1) (.slice (some ⟨ge, 0, none⟩) 60 60)) tip (cs.flatMap Cb.cells) t (ys.take k) []) := S5.out.setN (k * 5 + 1) (slnob _ _ _)
   have hge : ge ≠ g1 := fun e => by
    have h1 := E5.out
    have h2 := S5.out.nrow
    rw [e, h2] at h1; injection h1 with h1; injection h1 with _ h3; cases h3
   have hrg : w.heap.size + 1 ≠ g1 := fun e => by
    have h1 := R5.out
    have h2 := S5.out.nrow
    rw [e, h2] at h1; injection h1 with h1; injection h1 with _ h3; cases h3
   have R6 : Aside ((w5.setCell ⟨g1, k * 5 + 1, none⟩ (.slice (some ⟨ge, 0, none⟩) 60 60)).heap[w.heap.size + 1]? = some (boxWZ)) := other_block R5.out hrg _ _
   have E6 : Aside ((w5.setCell ⟨g1, k * 5 + 1, none⟩ (.slice (some ⟨ge, 0, none⟩) 60 60)).heap[ge]? = some (.cells (u.cells.flatMap En.cells).toArray 27)) := other_block E5.out hge _ _
   have Y6 : Aside ((w5.setCell ⟨g1, k * 5 + 1, none⟩ (.slice (some ⟨ge, 0, none⟩) 60 60)).cell? ⟨g1, k * 5 + 2, none⟩ = some (.slice p1 m1 q1) ∧ (w5.setCell ⟨g1, k * 5 + 1, none⟩ (.slice (some ⟨ge, 0, none⟩) 60 60)).cell? ⟨g1, k * 5 + 3, none⟩ = some (.slice p2 m2 q2)) := by
    have h2 := row_flat Nb.five ys k _ HX.out 2 _ rfl
    have h3 := row_flat Nb.five ys k _ HX.out 3 _ rfl
    rw [Aside, Joins.cell_of_block S6.out.nrow, Joins.cell_of_block S6.out.nrow]
    simp only [List.getElem?_toArray]
    rw [List.getElem?_set_ne (by omega), List.getElem?_set_ne (by omega)]
    exact ⟨h2, h3⟩
   go_upto_region 7 with fail
   clear yc y1 y2 y3 fy S5 R5 E5
   generalize w5.setCell ⟨g1, k * 5 + 1, none⟩ (.slice (some ⟨ge, 0, none⟩) 60 60) = w6 at *
   have S7 : Aside (WSt w w6.drew w.heap.size g1 g2 ((ys.flatMap Nb.cells).set (k * 5 + 1) (.slice (some ⟨ge, 0, none⟩) 60 60)) tip (cs.flatMap Cb.cells) t (ys.take k) []) := S6.out.later (Below.refl _ _).drew
   have R7 : Aside (w6.drew.heap[w.heap.size + 1]? = some (boxWZ)) := R6.out
   have E7 : Aside (w6.drew.heap[ge]? = some (.cells (u.cells.flatMap En.cells).toArray 27)) := E6.out
   have Y7 : Aside (w6.drew.cell? ⟨g1, k * 5 + 2, none⟩ = some (.slice p1 m1 q1) ∧ w6.drew.cell? ⟨g1, k * 5 + 3, none⟩ = some (.slice p2 m2 q2)) := Y6.out
   clear S6 R6 E6 Y6
   refine wp_region_noPanic ?_
   refine region_L (fun w' => Below w6.drew.heap.size w6.drew w') 16 (by kernel_rfl) (Below.refl _ _) (fun hHeld => ?_)
   generalize w6.drew = w7 at *
   refine tl 0 (v := ?_) rfl (by kernel_rfl) (by rfl) (by assumption) (fun _ _ _ h => h) ?_ ?_
   rotate_left
   ·(intro w0 hSw; clear hSw; go_simp; first | done | with_reducible rfl)
   try simp only [Act.put, qa, qb, qc]
   refine tl 1 (v := ?_) rfl (by kernel_rfl) (by rfl) (by assumption) (fun _ _ _ h => h) ?_ ?_
   rotate_left
   ·(intro w0 hSw; clear hSw; go_simp; first | done | with_reducible rfl)
   try simp only [Act.put, qa, qb, qc]
   refine tl 2 (v := ?_) rfl (by kernel_rfl) (by rfl) (by assumption) (fun _ _ _ h => h) ?_ ?_
   rotate_left
   ·(intro w0 hSw; clear hSw; go_simp; first | done | with_reducible rfl)
   try simp only [Act.put, qa, qb, qc]
   refine tl 3 (v := ?_) rfl (by kernel_rfl) (by rfl) (by assumption) (fun _ _ _ h => h) ?_ ?_
   rotate_left
   ·(intro w0 hSw; clear hSw; go_simp; first | done | with_reducible rfl)
   try simp only [Act.put, qa, qb, qc]
   refine tl 4 (v := ?_) rfl (by kernel_rfl) (by rfl) (by assumption) (fun _ _ _ h => h) ?_ ?_
   rotate_left
   ·(intro w0 hSw; clear hSw; go_simp; first | done | with_reducible rfl)
   try simp only [Act.put, qa, qb, qc]
   refine tl 5 (v := ?_) rfl (by kernel_rfl) (by rfl) (by assumption) (fun _ _ _ h => h) ?_ ?_
   rotate_left
   ·(intro w0 hSw; have y2 := cell_later hSw Y7.out.1; clear hSw; go_simp; first | done | with_reducible rfl)
   try simp only [Act.put, qa, qb, qc]
   refine tl 7 (v := ?_) rfl (by kernel_rfl) (by rfl) (by assumption) (fun _ _ _ h => h) ?_ ?_
   rotate_left
   ·(intro w0 hSw; clear hSw; go_simp; first | done | with_reducible rfl)
   try simp only [Act.put, qa, qb, qc]
   refine tl 8 (v := ?_) rfl (by kernel_rfl) (by rfl) (by assumption) (fun _ _ _ h => h) ?_ ?_
   rotate_left
   ·(intro w0 hSw; clear hSw; go_simp; first | done | with_reducible rfl)
   try simp only [Act.put, qa, qb, qc]
   refine tl 9 (v := ?_) rfl (by kernel_rfl) (by rfl) (by assumption) (fun _ _ _ h => h) ?_ ?_
   rotate_left
   ·(intro w0 hSw; clear hSw; go_simp; first | done | with_reducible rfl)
   try simp only [Act.put, qa, qb, qc]
   refine tl 10 (v := ?_) rfl (by kernel_rfl) (by rfl) (by assumption) (fun _ _ _ h => h) ?_ ?_
   rotate_left
   ·(intro w0 hSw; clear hSw; go_simp; first | done | with_reducible rfl)
   try simp only [Act.put, qa, qb, qc]
   refine tl 11 (v := ?_) rfl (by kernel_rfl) (by rfl) (by assumption) (fun _ _ _ h => h) ?_ ?_
   rotate_left
   ·(intro w0 hSw; have y3 := cell_later hSw Y7.out.2; clear hSw; go_simp; first | done | with_reducible rfl)
   try simp only [Act.put, qa, qb, qc]
   refine anyL_one (i := 6) (by kernel_rfl) rfl (fun K hK => ?_)
   go_simp
   refine (KS.out _ (S7.out.below.whole (Nat.le_refl _) HGW.out.1 HGW.out.2)).mono ?_
   rintro e w8 ⟨gs, rfl, _, hs, hb8⟩
   have S8 : Aside _ := S7.out.later hb8
   have R8 := hv R7 hb8
   have E8 := hv E7 hb8
   have F8 : Aside (w8.heap[gs]? = some (.cells (sf.flatMap bt).toArray 5)) := hs
   have hH8 := step_below1 hHeld hb8
   refine hK.out _ _ (fun _ => hH8) (fun hNext => ?_)
   replace hNext := hNext (by kernel_rfl)
   clear hK K hs hb8 KS S7 R7 E7 hHeld
   try simp only [Act.put, qa, qb, qc]
   refine anyL_one (i := 12) (by kernel_rfl) rfl (fun K hK => ?_)
   go_simp
   refine (KT.out _ (S8.out.below.whole (Nat.le_refl _) HGW.out.1 HGW.out.2)).mono ?_
   rintro e w9 ⟨gt, rfl, _, ht, hb9⟩
   have S9 : Aside _ := S8.out.later hb9
   have R9 := hv R8 hb9
   have E9 := hv E8 hb9
   have F9 := hv F8 hb9
   have G9 : Aside (w9.heap[gt]? = some (.cells (wt.flatMap bt).toArray 5)) := ht
   have hH9 := step_below1 hH8 hb9
   refine hK.out _ _ (fun _ => hH9) (fun hNext => ?_)
   replace hNext := hNext (by kernel_rfl)
   clear hK K ht hb9 KT S8 R8 E8 F8 hH8 Y7
   try simp only [Act.put, qa, qb, qc]
   refine tl 13 (v := ?_) rfl (by kernel_rfl) (by rfl) (by assumption) (fun _ _ _ h => h) ?_ ?_
   rotate_left
   ·(intro w0 hSw; clear hSw; go_simp; first | done | with_reducible rfl)
   try simp only [Act.put, qa, qb, qc]
   refine anyL_free (i := 14) (v := ?_) rfl (by kernel_rfl) (by kernel_rfl) (by kernel_rfl) (by kernel_rfl) (fun _ _ _ h => h) (Or.inl ⟨by rfl, ?_⟩) (by assumption) ?_
   rotate_left
   ·(intro w0 _; go_simp; first | done | with_reducible rfl)
   try simp only [Act.put, qa, qb, qc]
   refine tl 15 (v := ?_) rfl (by kernel_rfl) (by rfl) (by assumption) (fun _ _ _ h => h) ?_ ?_
   rotate_left
   ·(intro w0 hSw; clear hSw; go_simp; first | done | with_reducible rfl)
   try simp only [Act.put, qa, qb, qc]
   have yc : ∃ v2 v3, w9.cell? ⟨g1, k * 5 + 2, none⟩ = some v2 ∧ w9.cell? ⟨g1, k * 5 + 3, none⟩ = some v3 := by
    have h2 := row_flat Nb.five ys k _ HX.out 2 _ rfl
    have h3 := row_flat Nb.five ys k _ HX.out 3 _ rfl
    rw [Joins.cell_of_block S9.out.nrow, Joins.cell_of_block S9.out.nrow]
    simp only [List.getElem?_toArray]
    rw [List.getElem?_set_ne (by omega), List.getElem?_set_ne (by omega)]
    exact ⟨_, _, h2, h3⟩
   obtain ⟨v2, v3, y2, y3⟩ := yc
   have fy := fun i => Joins.unfrozen_of_block S9.out.nrow i
   refine anyL_one (i := 16) (by kernel_rfl) rfl (fun K hK => ?_)
   go_simp
   refine hK.out _ _ (fun h => absurd h (by decide +kernel)) (fun _ => ?_)
   clear hK K y2 y3 fy
   try simp only [Act.put, qa, qb, qc]
   refine anyL_done (by kernel_rfl) ?_ _
   refine NoPanic.normal ?_
   try simp only [Act.put, qa, qb, qc]
   have hyT : NodeT w9 ⟨⟨u, sf, wt, up⟩, .slice (some ⟨ge, 0, none⟩) 60 60, .slice (some ⟨gs, 0, none⟩) sf.length sf.length, .slice (some ⟨gt, 0, none⟩) wt.length wt.length⟩ := by
    have hu := own_ents E9.out u rfl
    rw [HU60.out] at hu
    exact ⟨hu, ⟨own_bytes F9.out, own_bytes G9.out, ⟨_, _, _, rfl, Nat.le_refl _⟩, ⟨_, _, _, rfl, Nat.le_refl _⟩⟩⟩
   have HH := ((S9.out.with ⟨hyT, HU60.out⟩).setN (k * 5 + 2) (slnob (some ⟨gs, 0, none⟩) sf.length sf.length)).setN (k * 5 + 3) (slnob (some ⟨gt, 0, none⟩) wt.length wt.length)
   have hyR := HH.nodes _ (List.mem_cons_self ..)
   have HP : Aside (Ap1 w ((w9.setCell ⟨g1, k * 5 + 2, none⟩ (.slice (some ⟨gs, 0, none⟩) sf.length sf.length)).setCell ⟨g1, k * 5 + 3, none⟩ (.slice (some ⟨gt, 0, none⟩) wt.length wt.length)) w.heap.size g1 g2 xs (cs.flatMap Cb.cells) tip t (k + 1)) :=
    Ap1.step HY.out.1 HX.out HY.out.2.1 HY.out.2.2 hyR rfl (HH.more (fun z hz => HH.nodes z (List.mem_cons_of_mem _ hz)) HH.clients) (nput123 HX.out ⟨⟨u, sf, wt, up⟩, .slice (some ⟨ge, 0, none⟩) 60 60, .slice (some ⟨gs, 0, none⟩) sf.length sf.length, .slice (some ⟨gt, 0, none⟩) wt.length wt.length⟩ rfl)
   have hrg9 : w.heap.size + 1 ≠ g1 := hrg
   have RP : Aside (((w9.setCell ⟨g1, k * 5 + 2, none⟩ (.slice (some ⟨gs, 0, none⟩) sf.length sf.length)).setCell ⟨g1, k * 5 + 3, none⟩ (.slice (some ⟨gt, 0, none⟩) wt.length wt.length)).heap[w.heap.size + 1]? = some (boxWZ)) := other_block (other_block R9.out hrg9 _ _) hrg9 _ _
   clear hyT HH hyR S9 R9 E9 F9 G9
   go_wp2
   go_roundw
   case rel => exact ⟨k + 1, by omega, by go_num, HP.out, RP.out⟩
   case measure => simp [intOf]; omega
  ·obtain rfl : k = 3 := by omega
   have hl3 := HL3.out.1
   have hyt : ys.take 3 = ys := List.take_of_length_le (by omega)
   have S0 : Aside (WSt w wr w.heap.size g1 g2 (ys.flatMap Nb.cells) tip (cs.flatMap Cb.cells) t ys []) := by rw [hyt] at hS; exact hS
   have R0 : Aside (wr.heap[w.heap.size + 1]? = some (boxWZ)) := hR
   have HYL : Aside (ys.length = 3 ∧ nodesOf ys = nodesOf xs) := ⟨by omega, hnod⟩
   clear hyl hS hrest hnod hR hl3 hyt
   have zb := fun i => Joins.cell_of_block S0.out.box i
   go_wp2
   clear zb
   go_loopw [55] (fun i wq => ∃ k : Nat, k ≤ 3 ∧ i = .int .i64 k ∧ Ap2 w wq w.heap.size g1 g2 cs ys tip t k ∧ wq.heap[w.heap.size + 1]? = some (boxWZ)) (fun i _ => 3 - (intOf i).toNat)
   case atStart => exact ⟨0, Nat.zero_le _, rfl, ⟨cs, rfl, S0.out, fun _ _ _ h => h, rfl⟩, R0.out⟩
   case round =>
    clear S0 R0
    obtain ⟨k, hk, rfl, ⟨ds, hyl, hS, hrest, hnod⟩, hR⟩ := hrel
    by_cases hlt : k < 3
    ·obtain ⟨y, hy0⟩ : ∃ y, cs[k]? = some y := ⟨cs[k]'(by have := HL3.out.2; omega), List.getElem?_eq_getElem _⟩
     have hy := hrest k y (Nat.le_refl k) hy0
     have hmem := List.mem_of_getElem? hy0
     have hyt := HW.out.client y hmem
     have hyj := HJR.out y hmem
     obtain ⟨c, v1, v2⟩ := y
     obtain ⟨p1, q1, p2, q2, e1, e2⟩ := bk_slices hyt.1 hyt.2
     simp only at e1 e2
     subst e1 e2
     have KJ : Aside (∀ V, Below w.heap.size w V → Calls Tryz.prog 69 #[.slice p1 c.js.length q1] V fun e w' => ∃ g, e = .returned (.slice (some ⟨g, 0, none⟩) c.js.length c.js.length) ∧ V.heap.size ≤ g ∧ w'.heap[g]? = some (.cells (c.js.flatMap Jb.cells).toArray 120) ∧ Below V.heap.size V w') := fun V hV => wcopyJ _ c.js V (hyt.1.later hV) hyj.1
     have KG : Aside (∀ V, Below w.heap.size w V → Calls Tryz.prog 70 #[.slice p2 c.rs.length q2] V fun e w' => ∃ g, e = .returned (.slice (some ⟨g, 0, none⟩) c.rs.length c.rs.length) ∧ V.heap.size ≤ g ∧ w'.heap[g]? = some (.cells (c.rs.flatMap Rg.cells).toArray 76) ∧ Below V.heap.size V w') := fun V hV => wcopyR _ c.rs V (hyt.2.later hV) hyj.2
     have HX : Aside (ds[k]? = some ⟨c, .slice p1 c.js.length q1, .slice p2 c.rs.length q2⟩) := hy
     have HY : Aside (ds.length = cs.length ∧ (∀ i x, k ≤ i → cs[i]? = some x → ds[i]? = some x) ∧ clientsOf ds = clientsOf cs) := ⟨hyl, hrest, hnod⟩
     have HS : Aside (WSt w wr w.heap.size g1 g2 (ys.flatMap Nb.cells) tip (ds.flatMap Cb.cells) t ys (ds.take k)) := hS
     have HR : Aside (wr.heap[w.heap.size + 1]? = some (boxWZ)) := hR
     have zb := fun i => Joins.cell_of_block hS.box i
     have hki : (k : Int) < 3 := by omega
     have hk0 : (0 : Int) ≤ (k : Int) := by omega
     clear hyl hrest hnod hS hR hy hy0 hmem hyt hyj
     go_upto_region 13 with fail
     clear zb
     have S7 : Aside (WSt w wr.drew w.heap.size g1 g2 (ys.flatMap Nb.cells) tip (ds.flatMap Cb.cells) t ys (ds.take k)) := HS.out.later (Below.refl _ _).drew
     have R7 : Aside (wr.drew.heap[w.heap.size + 1]? = some (boxWZ)) := HR.out
     have Y7 : Aside (wr.drew.cell? ⟨g2, k * 12 + 10, none⟩ = some (.slice p1 c.js.length q1) ∧ wr.drew.cell? ⟨g2, k * 12 + 11, none⟩ = some (.slice p2 c.rs.length q2)) := by
      have h2 := row_flat Cb.twelve ds k _ HX.out 10 _ rfl
      have h3 := row_flat Cb.twelve ds k _ HX.out 11 _ rfl
      rw [Aside, Joins.cell_of_block S7.out.crow, Joins.cell_of_block S7.out.crow]
      simp only [List.getElem?_toArray]
      exact ⟨h2, h3⟩
     clear HS HR
     refine wp_region_noPanic ?_
     refine region_L (fun w' => Below wr.drew.heap.size wr.drew w') 13 (by kernel_rfl) (Below.refl _ _) (fun hHeld => ?_)
     generalize wr.drew = w7 at *
     refine tl 0 (v := ?_) rfl (by kernel_rfl) (by rfl) (by assumption) (fun _ _ _ h => h) ?_ ?_
     rotate_left
     ·(intro w0 hSw; clear hSw; go_simp; first | done | with_reducible rfl)
     try simp only [Act.put, qa, qb, qc]
     refine tl 1 (v := ?_) rfl (by kernel_rfl) (by rfl) (by assumption) (fun _ _ _ h => h) ?_ ?_
     rotate_left
     ·(intro w0 hSw; clear hSw; go_simp; first | done | with_reducible rfl)
     try simp only [Act.put, qa, qb, qc]
     refine tl 2 (v := ?_) rfl (by kernel_rfl) (by rfl) (by assumption) (fun _ _ _ h => h) ?_ ?_
     rotate_left
     ·(intro w0 hSw; clear hSw; go_simp; first | done | with_reducible rfl)
     try simp only [Act.put, qa, qb, qc]
     refine tl 3 (v := ?_) rfl (by kernel_rfl) (by rfl) (by assumption) (fun _ _ _ h => h) ?_ ?_
     rotate_left
     ·(intro w0 hSw; clear hSw; go_simp; first | done | with_reducible rfl)
     try simp only [Act.put, qa, qb, qc]
     refine tl 4 (v := ?_) rfl (by kernel_rfl) (by rfl) (by assumption) (fun _ _ _ h => h) ?_ ?_
     rotate_left
     ·(intro w0 hSw; have y2 := cell_later hSw Y7.out.1; clear hSw; go_simp; first | done | with_reducible rfl)
     try simp only [Act.put, qa, qb, qc]
     refine tl 6 (v := ?_) rfl (by kernel_rfl) (by rfl) (by assumption) (fun _ _ _ h => h) ?_ ?_
     rotate_left
     ·(intro w0 hSw; clear hSw; go_simp; first | done | with_reducible rfl)
     try simp only [Act.put, qa, qb, qc]
     refine tl 7 (v := ?_) rfl (by kernel_rfl) (by rfl) (by assumption) (fun _ _ _ h => h) ?_ ?_
     rotate_left
     ·(intro w0 hSw; clear hSw; go_simp; first | done | with_reducible rfl)
     try simp only [Act.put, qa, qb, qc]
     refine tl 8 (v := ?_) rfl (by kernel_rfl) (by rfl) (by assumption) (fun _ _ _ h => h) ?_ ?_
     rotate_left
     ·(intro w0 hSw; clear hSw; go_simp; first | done | with_reducible rfl)
     try simp only [Act.put, qa, qb, qc]
     refine tl 9 (v := ?_) rfl (by kernel_rfl) (by rfl) (by assumption) (fun _ _ _ h => h) ?_ ?_
     rotate_left
     ·(intro w0 hSw; have y3 := cell_later hSw Y7.out.2; clear hSw; go_simp; first | done | with_reducible rfl)
     try simp only [Act.put, qa, qb, qc]
     refine anyL_one (i := 5) (by kernel_rfl) rfl (fun K hK => ?_)
     go_simp
     refine (KJ.out _ (S7.out.below.whole (Nat.le_refl _) HGW.out.1 HGW.out.2)).mono ?_
     rintro e w8 ⟨gs, rfl, _, hs, hb8⟩
     have S8 : Aside _ := S7.out.later hb8
     have R8 := hv R7 hb8
     have F8 : Aside (w8.heap[gs]? = some (.cells (c.js.flatMap Jb.cells).toArray 120)) := hs
     have hH8 := step_below1 hHeld hb8
     refine hK.out _ _ (fun _ => hH8) (fun hNext => ?_)
     replace hNext := hNext (by kernel_rfl)
     clear hK K hs hb8 KJ S7 R7 hHeld
     try simp only [Act.put, qa, qb, qc]
     refine anyL_one (i := 10) (by kernel_rfl) rfl (fun K hK => ?_)
     go_simp
     refine (KG.out _ (S8.out.below.whole (Nat.le_refl _) HGW.out.1 HGW.out.2)).mono ?_
     rintro e w9 ⟨gt, rfl, _, ht, hb9⟩
     have S9 : Aside _ := S8.out.later hb9
     have R9 := hv R8 hb9
     have F9 := hv F8 hb9
     have G9 : Aside (w9.heap[gt]? = some (.cells (c.rs.flatMap Rg.cells).toArray 76)) := ht
     have hH9 := step_below1 hH8 hb9
     refine hK.out _ _ (fun _ => hH9) (fun hNext => ?_)
     replace hNext := hNext (by kernel_rfl)
     clear hK K ht hb9 KG S8 R8 F8 hH8 Y7
     try simp only [Act.put, qa, qb, qc]
     refine tl 11 (v := ?_) rfl (by kernel_rfl) (by rfl) (by assumption) (fun _ _ _ h => h) ?_ ?_
     rotate_left
     ·(intro w0 hSw; clear hSw; go_simp; first | done | with_reducible rfl)
     try simp only [Act.put, qa, qb, qc]
     refine tl 12 (v := ?_) rfl (by kernel_rfl) (by rfl) (by assumption) (fun _ _ _ h => h) ?_ ?_
     rotate_left
     ·(intro w0 hSw; clear hSw; go_simp; first | done | with_reducible rfl)
     try simp only [Act.put, qa, qb, qc]
     have yc : ∃ v2 v3, w9.cell? ⟨g2, k * 12 + 10, none⟩ = some v2 ∧ w9.cell? ⟨g2, k * 12 + 11, none⟩ = some v3 := by
      have h2 := row_flat Cb.twelve ds k _ HX.out 10 _ rfl
      have h3 := row_flat Cb.twelve ds k _ HX.out 11 _ rfl
      rw [Joins.cell_of_block S9.out.crow, Joins.cell_of_block S9.out.crow]
      simp only [List.getElem?_toArray]
      exact ⟨_, _, h2, h3⟩
     obtain ⟨v2, v3, y2, y3⟩ := yc
     have fy := fun i => Joins.unfrozen_of_block S9.out.crow i
     refine anyL_one (i := 13) (by kernel_rfl) rfl (fun K hK => ?_)
     go_simp
     refine hK.out _ _ (fun h => absurd h (by decide +kernel)) (fun _ => ?_)
     clear hK K y2 y3 fy
     try simp only [Act.put, qa, qb, qc]
     refine anyL_done (by kernel_rfl) ?_ _
     refine NoPanic.normal ?_
     try simp only [Act.put, qa, qb, qc]
     have hyT : ClientR w9 ⟨c, .slice (some ⟨gs, 0, none⟩) c.js.length c.js.length, .slice (some ⟨gt, 0, none⟩) c.rs.length c.rs.length⟩ :=
      ⟨⟨slOf_lit Jb.three F9.out rfl, slOf_lit Rg.three G9.out rfl⟩, typed_block F9.out _ _ _, typed_block G9.out _ _ _⟩
     have HH := ((S9.out.more (M' := _ :: ds.take k) S9.out.nodes (fun z hz => (List.mem_cons.1 hz).elim (fun e => e ▸ hyT) (S9.out.clients z))).setC (k * 12 + 10) (slnob (some ⟨gs, 0, none⟩) c.js.length c.js.length)).setC (k * 12 + 11) (slnob (some ⟨gt, 0, none⟩) c.rs.length c.rs.length)
     have hyR := HH.clients _ (List.mem_cons_self ..)
     have HP : Aside (Ap2 w ((w9.setCell ⟨g2, k * 12 + 10, none⟩ (.slice (some ⟨gs, 0, none⟩) c.js.length c.js.length)).setCell ⟨g2, k * 12 + 11, none⟩ (.slice (some ⟨gt, 0, none⟩) c.rs.length c.rs.length)) w.heap.size g1 g2 cs ys tip t (k + 1)) :=
      Ap2.step HY.out.1 HX.out HY.out.2.1 HY.out.2.2 hyR rfl (HH.more HH.nodes (fun z hz => HH.clients z (List.mem_cons_of_mem _ hz))) (cput2 HX.out ⟨c, .slice (some ⟨gs, 0, none⟩) c.js.length c.js.length, .slice (some ⟨gt, 0, none⟩) c.rs.length c.rs.length⟩ rfl)
     have hrg9 : w.heap.size + 1 ≠ g2 := fun e => by
      have h1 := R9.out
      have h2 := S9.out.crow
      rw [e, h2] at h1; injection h1 with h1; injection h1 with _ h3; cases h3
     have RP : Aside (((w9.setCell ⟨g2, k * 12 + 10, none⟩ (.slice (some ⟨gs, 0, none⟩) c.js.length c.js.length)).setCell ⟨g2, k * 12 + 11, none⟩ (.slice (some ⟨gt, 0, none⟩) c.rs.length c.rs.length)).heap[w.heap.size + 1]? = some (boxWZ)) := other_block (other_block R9.out hrg9 _ _) hrg9 _ _
     clear hyT HH hyR S9 R9 F9 G9
     go_wp2
     go_roundw
     case rel =>
      refine ⟨_, _, _, _, _, _, _, _, _, _, _, _, _, _, _, _, _, _, _, _, _, _, _, _, ⟨k + 1, by omega, ?_, HP.out, RP.out⟩, rfl⟩
      go_num
     case measure => simp [intOf]; omega
    ·obtain rfl : k = 3 := by omega
     have hl3 := HL3.out.2
     have hdt : ds.take 3 = ds := List.take_of_length_le (by omega)
     rw [hdt] at hS
     have SZ : Aside (WSt w wr w.heap.size g1 g2 (ys.flatMap Nb.cells) tip (ds.flatMap Cb.cells) t ys ds) := hS
     have HDL : Aside (ds.length = 3 ∧ clientsOf ds = clientsOf cs) := ⟨by omega, hnod⟩
     have RZ : Aside (wr.heap[w.heap.size + 1]? = some (boxWZ)) := hR
     clear hyl hS hrest hnod hR hl3 hdt
     have zb := fun i => Joins.cell_of_block SZ.out.box i
     have zr := cb RZ
     have fr := cf RZ
     go_wp2
     refine ret1_world (p := 2) Tryz.results23 rfl rfl (stW_box RZ.out (.slice (some ⟨g1, 0, none⟩) 3 3) tip (.slice (some ⟨g2, 0, none⟩) 3 3) t) ?_
     have hne1 : g1 ≠ w.heap.size + 1 := fun e => by
      have h1 := RZ.out
      have h2 := SZ.out.nrow
      rw [← e, h2] at h1; injection h1 with h1; injection h1 with _ h3; cases h3
     have hne2 : g2 ≠ w.heap.size + 1 := fun e => by
      have h1 := RZ.out
      have h2 := SZ.out.crow
      rw [← e, h2] at h1; injection h1 with h1; injection h1 with _ h3; cases h3
     exact ⟨g1, g2, ys, ds, rfl, wrow_st RZ.out SZ.out hne1 hne2 (by omega) HGW.out.1 HGW.out.2 (SZ.out.below.whole (Nat.le_refl _) HGW.out.1 HGW.out.2) HYL.out.1 HDL.out.1 tip t, HYL.out.2, HDL.out.2⟩
end Go.Proofs.YtmoaobfmopimlafGreatDoor
