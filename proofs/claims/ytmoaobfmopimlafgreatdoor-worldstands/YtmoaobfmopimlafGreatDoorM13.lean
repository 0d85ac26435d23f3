/- For the law. -/
import Derived.Test.YtmoaobfmopimlafGreatDoorM12
set_option linter.unusedSimpArgs false
set_option linter.unusedVariables false
namespace Go.Proofs.YtmoaobfmopimlafGreatDoor
open Go.RowKit
abbrev AnsU (f : Nat) (args : Array Value) (w : World) (r : Un × Int) : Prop :=
 Calls Tryz.prog f args w fun e w' => ∃ v', e = .returned (.tuple #[.agg #[.int .i64 r.1.p, v'], .int .i64 r.2]) ∧ UnitAt w' v' r.1 ∧ Below w.heap.size w w'
theorem unit_nil (w : World) : UnitAt w (.slice none 0 0) Un.zero := ⟨⟨none, 0, rfl, Or.inl rfl⟩, ⟨none, 0, 0, rfl, Nat.le_refl _⟩⟩
theorem unit_stored {W : World} {b : Nat} {p : Int} {v : Value} (h : W.heap[b]? = some (boxU p v)) (x : Int) (u : Value) : ((W.setCell ⟨b, 0, none⟩ (.int .i64 x)).setCell ⟨b, 1, none⟩ u).heap[b]? = some (boxU x u) := by
 have h0 : (W.setCell ⟨b, 0, none⟩ (.int .i64 x)).heap[b]? = some (boxU x v) := by rw [Joins.block_setCell h]; rfl
 rw [Joins.block_setCell h0]; rfl
theorem below_two2 {B : Nat} {a W : World} {b : Nat} (h : Below B a W) (hb : B ≤ b) (u1 u2 : Value) : Below B a ((W.setCell ⟨b, 0, none⟩ u1).setCell ⟨b, 1, none⟩ u2) :=
 (h.setCell (p := ⟨b, 0, none⟩) hb _).setCell (p := ⟨b, 1, none⟩) hb _
theorem ret_unit {fn : Func} {R : Ending → World → Prop} {a : Act} {W : World} {b p q : Nat} {x : Int} {s : Option Addr} {n c : Nat} {y : Value} (hf : fn.results = #[.cell p 44, .tmp q]) (hd : a.defers = [])
  (h2 : a.tmps.getD p undef = .pointer (some ⟨b, 0, none⟩)) (h3 : a.tmps.getD q undef = y) (hR : W.heap[b]? = some (boxU x (.slice s n c))) (hp : R (.returned (.tuple #[.agg #[.int .i64 x, .slice s n c], y])) W) :
  bodyPost Tryz.prog fn R .ret a W := by
 have c0 := fun i => Joins.cell_of_block hR i
 refine bodyPost_ret (v := .tuple #[.agg #[.int .i64 x, .slice s n c], y]) ?_ hd hp
 rw [results_cell_tmp hf, h2, h3]
 simp [go_sem, c0]
theorem flat_setE : ∀ {es : List En} {k f : Nat} {y z : En} {u : Value}, es[k]? = some y → f < 5 → z.cells = y.cells.set f u → (es.flatMap En.cells).set (k * 5 + f) u = (es.set k z).flatMap En.cells
 | [], k, _, _, _, _, h, _, _ => by simp at h
 | x :: r, 0, f, y, z, u, h, hf, hz => by
  simp at h; subst h
  rw [Nat.zero_mul, Nat.zero_add, List.set_cons_zero, List.flatMap_cons, List.flatMap_cons, List.set_append, if_pos (by rw [En.five]; exact hf), hz]
 | x :: r, k + 1, f, y, z, u, h, hf, hz => by
  have ih := flat_setE (es := r) (k := k) (by simpa using h) hf hz
  rw [List.set_cons_succ, List.flatMap_cons, List.flatMap_cons, List.set_append, if_neg (by rw [En.five]; omega), En.five, show (k + 1) * 5 + f - 5 = k * 5 + f by omega, ih]
theorem flat_five {es : List En} {k : Nat} (hk : k < es.length) (e : En) (tl : List Value) :
  ((((((es.flatMap En.cells ++ tl).set (k * 5) (.int .i64 e.k)).set (k * 5 + 1) (.int .i64 e.j)).set (k * 5 + 2) (.int .i64 e.v)).set (k * 5 + 3) (.int .i64 e.t)).set (k * 5 + 4) (.int .i64 e.c)) = (es.set k e).flatMap En.cells ++ tl := by
 obtain ⟨y, hy⟩ : ∃ y, es[k]? = some y := ⟨es[k], List.getElem?_eq_getElem hk⟩
 have hl : (es.flatMap En.cells).length = es.length * 5 := row_len En.five es
 have g := fun (xs : List En) (hx : xs.length = es.length) (o : Nat) (ho : o < 5) (u : Value) => List.set_append_left (t := tl) (s := xs.flatMap En.cells) (k * 5 + o) u (by rw [row_len En.five, hx]; omega)
 rw [show k * 5 = k * 5 + 0 from rfl, g es rfl 0 (by omega), flat_setE hy (by omega) (z := ⟨e.k, y.j, y.v, y.t, y.c⟩) rfl]
 have h1 : (es.set k ⟨e.k, y.j, y.v, y.t, y.c⟩)[k]? = some ⟨e.k, y.j, y.v, y.t, y.c⟩ := List.getElem?_set_self hk
 rw [Nat.add_zero, g _ (by simp) 1 (by omega), flat_setE h1 (by omega) (z := ⟨e.k, e.j, y.v, y.t, y.c⟩) rfl, List.set_set]
 have h2 : (es.set k ⟨e.k, e.j, y.v, y.t, y.c⟩)[k]? = some ⟨e.k, e.j, y.v, y.t, y.c⟩ := List.getElem?_set_self hk
 rw [g _ (by simp) 2 (by omega), flat_setE h2 (by omega) (z := ⟨e.k, e.j, e.v, y.t, y.c⟩) rfl, List.set_set]
 have h3 : (es.set k ⟨e.k, e.j, e.v, y.t, y.c⟩)[k]? = some ⟨e.k, e.j, e.v, y.t, y.c⟩ := List.getElem?_set_self hk
 rw [g _ (by simp) 3 (by omega), flat_setE h3 (by omega) (z := ⟨e.k, e.j, e.v, e.t, y.c⟩) rfl, List.set_set]
 have h4 : (es.set k ⟨e.k, e.j, e.v, e.t, y.c⟩)[k]? = some ⟨e.k, e.j, e.v, e.t, y.c⟩ := List.getElem?_set_self hk
 rw [g _ (by simp) 4 (by omega), flat_setE h4 (by omega) (z := ⟨e.k, e.j, e.v, e.t, e.c⟩) rfl, List.set_set]
theorem stored_five {W : World} {g : Nat} {T : TypeId} {es : List En} {tl : List Value} (h : W.heap[g]? = some (.cells (es.flatMap En.cells ++ tl).toArray T)) {k : Nat} (hk : k < es.length) (e : En) :
  (((((W.setCell ⟨g, k * 5, none⟩ (.int .i64 e.k)).setCell ⟨g, k * 5 + 1, none⟩ (.int .i64 e.j)).setCell ⟨g, k * 5 + 2, none⟩ (.int .i64 e.v)).setCell ⟨g, k * 5 + 3, none⟩ (.int .i64 e.t)).setCell ⟨g, k * 5 + 4, none⟩ (.int .i64 e.c)).heap[g]? = some (.cells ((es.set k e).flatMap En.cells ++ tl).toArray T) := by
 have h1 := Joins.block_setCell h (i := k * 5) (.int .i64 e.k)
 have h2 := Joins.block_setCell h1 (i := k * 5 + 1) (.int .i64 e.j)
 have h3 := Joins.block_setCell h2 (i := k * 5 + 2) (.int .i64 e.v)
 have h4 := Joins.block_setCell h3 (i := k * 5 + 3) (.int .i64 e.t)
 have h5 := Joins.block_setCell h4 (i := k * 5 + 4) (.int .i64 e.c)
 rw [h5]
 simp only [List.setIfInBounds_toArray]
 rw [flat_five hk]
theorem below_fiveE {B : Nat} {a W : World} {g : Nat} (h : Below B a W) (hb : B ≤ g) (o : Nat) (v0 v1 v2 v3 v4 : Value) :
  Below B a (((((W.setCell ⟨g, o, none⟩ v0).setCell ⟨g, o + 1, none⟩ v1).setCell ⟨g, o + 2, none⟩ v2).setCell ⟨g, o + 3, none⟩ v3).setCell ⟨g, o + 4, none⟩ v4) :=
 ((((h.setCell (p := ⟨g, o, none⟩) hb _).setCell (p := ⟨g, o + 1, none⟩) hb _).setCell (p := ⟨g, o + 2, none⟩) hb _).setCell (p := ⟨g, o + 3, none⟩) hb _).setCell (p := ⟨g, o + 4, none⟩) hb _
theorem other_fiveE {W : World} {g b : Nat} (hne : b ≠ g) (o : Nat) (v0 v1 v2 v3 v4 : Value) :
  (((((W.setCell ⟨g, o, none⟩ v0).setCell ⟨g, o + 1, none⟩ v1).setCell ⟨g, o + 2, none⟩ v2).setCell ⟨g, o + 3, none⟩ v3).setCell ⟨g, o + 4, none⟩ v4).heap[b]? = W.heap[b]? := by
 rw [Below.heap_setCell _ _ _ _ (by exact hne), Below.heap_setCell _ _ _ _ (by exact hne), Below.heap_setCell _ _ _ _ (by exact hne), Below.heap_setCell _ _ _ _ (by exact hne), Below.heap_setCell _ _ _ _ (by exact hne)]
section
open scoped Classical
structure Ub where (u : Un) (v : Value)
def Ub.cells (x : Ub) : List Value := [.int .i64 x.u.p, x.v]
theorem Ub.two (x : Ub) : x.cells.length = 2 := rfl
abbrev unitsOf (xs : List Ub) : List Un := xs.map Ub.u
structure ChAt (w : World) (v : Value) (xs : List Ub) : Prop where
 rows : SlOf Ub.cells 2 w v xs
 each : ∀ x, x ∈ xs → UnitAt w x.v x.u
 room : Roomy v
theorem ChAt.later {w w' : World} {v : Value} {xs : List Ub} (h : ChAt w v xs) (hb : Below w.heap.size w w') : ChAt w' v xs := ⟨h.rows.later hb, fun x hx => (h.each x hx).later hb, h.room⟩
abbrev WiS (W w : World) (b g : Nat) (s : Value) (bv ov k : Nat) (x y : En) : Prop :=
 BeS W w b x ∧ w.cell? ⟨g, 1, none⟩ = some s ∧ w.cell? ⟨bv, ov + k * 5, none⟩ = some (.int .i64 y.k) ∧ w.cell? ⟨bv, ov + k * 5 + 1, none⟩ = some (.int .i64 y.j) ∧ w.cell? ⟨bv, ov + k * 5 + 2, none⟩ = some (.int .i64 y.v) ∧ w.cell? ⟨bv, ov + k * 5 + 3, none⟩ = some (.int .i64 y.t) ∧ w.cell? ⟨bv, ov + k * 5 + 4, none⟩ = some (.int .i64 y.c)
theorem wiS_step {W w w' : World} {b g : Nat} {s : Value} {bv ov k : Nat} {x y : En} (h : WiS W w b g s bv ov k x y) (hb : Below w.heap.size w w') : WiS W w' b g s bv ov k x y :=
 ⟨beS_step h.1 hb, cell_later hb h.2.1, cell_later hb h.2.2.1, cell_later hb h.2.2.2.1, cell_later hb h.2.2.2.2.1, cell_later hb h.2.2.2.2.2.1, cell_later hb h.2.2.2.2.2.2⟩
end
structure Nb where (n : Nd) (vc vs vw : Value)
def Nb.cells (x : Nb) : List Value := [.int .i64 x.n.u.p, x.vc, x.vs, x.vw, .bool x.n.up]
theorem Nb.five (x : Nb) : x.cells.length = 5 := rfl
structure Cb where (c : Cl) (v1 v2 : Value)
def Cb.cells (x : Cb) : List Value := [.int .i64 x.c.p, .int .i64 x.c.d, .int .i64 x.c.e.k, .int .i64 x.c.e.j, .int .i64 x.c.e.v, .int .i64 x.c.e.t, .int .i64 x.c.e.c, .int .i64 x.c.a, .int .i64 x.c.l, .int .i64 x.c.n, x.v1, x.v2]
theorem Cb.twelve (x : Cb) : x.cells.length = 12 := rfl
abbrev Nb.val (x : Nb) : Value := .agg #[.int .i64 x.n.u.p, x.vc, x.vs, x.vw, .bool x.n.up]
structure NodeT (w : World) (x : Nb) : Prop where
 unit : UnitAt w x.vc x.n.u
 disk : DiskR w x.vs x.vw (x.n.s, x.n.w)
abbrev ClientT (w : World) (x : Cb) : Prop := BkAt w x.v1 x.v2 x.c
theorem NodeT.later {w w' : World} {x : Nb} (h : NodeT w x) (hb : Below w.heap.size w w') : NodeT w' x := ⟨h.unit.later hb, ⟨h.disk.safe.later hb, h.disk.wait.later hb, h.disk.room1, h.disk.room2⟩⟩
structure WdAt (w : World) (vn vc : Value) (xs : List Nb) (cs : List Cb) : Prop where
 rowN : SlOf Nb.cells 5 w vn xs
 rowC : SlOf Cb.cells 12 w vc cs
 roomN : Roomy vn
 roomC : Roomy vc
 node : ∀ x, x ∈ xs → NodeT w x
 client : ∀ x, x ∈ cs → ClientT w x
theorem WdAt.later {w w' : World} {vn vc : Value} {xs : List Nb} {cs : List Cb} (h : WdAt w vn vc xs cs) (hb : Below w.heap.size w w') : WdAt w' vn vc xs cs :=
 ⟨h.rowN.later hb, h.rowC.later hb, h.roomN, h.roomC, fun x hx => (h.node x hx).later hb, fun x hx => bkAt_later (h.client x hx) hb⟩
structure WdFits (xs : List Nb) (cs : List Cb) : Prop where
 nsl : xs.length ≤ most
 csl : cs.length ≤ most
 cells : ∀ x, x ∈ xs → x.n.u.cells.length ≤ topN
 safe : ∀ x, x ∈ xs → x.n.s.length ≤ topLen
 wait : ∀ x, x ∈ xs → x.n.w.length ≤ topLen
 jobs : ∀ x, x ∈ cs → x.c.js.length ≤ most
 rung : ∀ x, x ∈ cs → x.c.rs.length ≤ most
abbrev nodesOf (xs : List Nb) : List Nd := xs.map Nb.n
abbrev clientsOf (cs : List Cb) : List Cl := cs.map Cb.c
abbrev wdOf (xs : List Nb) (tip : Int) (cs : List Cb) (t : Int) : Wd := ⟨nodesOf xs, tip, clientsOf cs, t⟩
abbrev boxW (vn : Value) (tip : Int) (vc : Value) (t : Int) : Obj := .cells #[vn, .int .i64 tip, vc, .int .i64 t] 25
abbrev wval (vn : Value) (tip : Int) (vc : Value) (t : Int) : Value := .agg #[vn, .int .i64 tip, vc, .int .i64 t]
abbrev boxNb (x : Nb) : Obj := .cells #[.int .i64 x.n.u.p, x.vc, x.vs, x.vw, .bool x.n.up] 49
abbrev Hp.val (x : Hp) : Value := .agg #[.int .i64 x.k, .int .i64 x.c, .int .i64 x.n, .int .i64 x.j, .int .i64 x.p, .int .i64 x.e.k, .int .i64 x.e.j, .int .i64 x.e.v, .int .i64 x.e.t, .int .i64 x.e.c]
abbrev boxH (x : Hp) : Obj := .cells #[.int .i64 x.k, .int .i64 x.c, .int .i64 x.n, .int .i64 x.j, .int .i64 x.p, .int .i64 x.e.k, .int .i64 x.e.j, .int .i64 x.e.v, .int .i64 x.e.t, .int .i64 x.e.c] 29
theorem bytes_off {W : World} {v : Value} {l : List UInt8} (h : ByteSl W v l) {b : Nat} {A : Array Value} {T : TypeId} (hb : W.heap[b]? = some (.cells A T)) (hA : ∀ x : Int, Value.int .u8 x ∉ A.toList) (i : Nat) (u : Value) : ByteSl (W.setCell ⟨b, i, none⟩ u) v l := by
 obtain ⟨a', c', hv, hc⟩ := h
 refine ⟨a', c', hv, ?_⟩
 rcases hc with hc | ⟨b', off, ha, hE⟩
 ·exact Or.inl hc
 ·refine Or.inr ⟨b', off, ha, fun j e hj i' u' hi => ?_⟩
  have hcell := hE j e hj i' u' hi
  have hne : b' ≠ b := fun e' => by
   rw [e', Joins.cell_of_block hb] at hcell
   have hu := List.mem_of_getElem? hi
   simp [bt] at hu
   subst hu
   exact hA _ (Array.mem_toList_iff.2 (Array.mem_of_getElem? hcell))
  rw [World.cell?_of_block (Below.heap_setCell _ _ _ _ (by exact hne))]
  exact hcell
theorem ents_off {W : World} {v : Value} {es : List En} (h : EntSl W v es) (h60 : es.length = 60) {b : Nat} {A : Array Value} {T : TypeId} (hb : W.heap[b]? = some (.cells A T)) (hA : A.size < 300) (i : Nat) (u : Value) : EntSl (W.setCell ⟨b, i, none⟩ u) v es := by
 obtain ⟨a', c', hv, hc⟩ := h
 refine ⟨a', c', hv, ?_⟩
 rcases hc with hc | ⟨b', off, ha, hE⟩
 ·exact Or.inl hc
 ·have hne : b' ≠ b := fun e' => by
   obtain ⟨x, hx⟩ : ∃ x, es[59]? = some x := ⟨es[59]'(by omega), List.getElem?_eq_getElem _⟩
   have hcell := hE 59 x hx 4 (.int .i64 x.c) rfl
   rw [e', Joins.cell_of_block hb] at hcell
   have := (Array.getElem?_eq_some_iff.1 hcell).1
   omega
  refine Or.inr ⟨b', off, ha, fun j e hj i' u' hi => ?_⟩
  rw [World.cell?_of_block (Below.heap_setCell _ _ _ _ (by exact hne))]
  exact hE j e hj i' u' hi
theorem disk_off {W : World} {v1 v2 : Value} {d : Dk} (h : DiskR W v1 v2 d) {b : Nat} {A : Array Value} {T : TypeId} (hb : W.heap[b]? = some (.cells A T)) (hA : ∀ x : Int, Value.int .u8 x ∉ A.toList) (i : Nat) (u : Value) : DiskR (W.setCell ⟨b, i, none⟩ u) v1 v2 d :=
 ⟨bytes_off h.safe hb hA i u, bytes_off h.wait hb hA i u, h.room1, h.room2⟩
theorem unit_off {W : World} {v : Value} {u : Un} (h : UnitAt W v u) (h60 : u.cells.length = 60) {b : Nat} {A : Array Value} {T : TypeId} (hb : W.heap[b]? = some (.cells A T)) (hA : A.size < 300) (i : Nat) (x : Value) : UnitAt (W.setCell ⟨b, i, none⟩ x) v u :=
 ⟨ents_off h.ents h60 hb hA i x, h.room⟩
theorem two_nob {x y : Value} (hx : ∀ q : Int, Value.int .u8 q ≠ x) (hy : ∀ q : Int, Value.int .u8 q ≠ y) : ∀ q : Int, Value.int .u8 q ∉ (#[x, y] : Array Value).toList := fun q hq => by
 simp only [List.mem_cons, List.not_mem_nil, or_false] at hq
 rcases hq with hq | hq
 ·exact hx q hq
 ·exact hy q hq
theorem disk_off2 {W : World} {v1 v2 : Value} {d : Dk} (h : DiskR W v1 v2 d) {b : Nat} {x y : Value} {T : TypeId} (hb : W.heap[b]? = some (.cells #[x, y] T)) (hx : ∀ q : Int, Value.int .u8 q ≠ x) (hy : ∀ q : Int, Value.int .u8 q ≠ y) {u1 : Value} (h1 : ∀ q : Int, Value.int .u8 q ≠ u1) (u2 : Value) :
  DiskR ((W.setCell ⟨b, 0, none⟩ u1).setCell ⟨b, 1, none⟩ u2) v1 v2 d := by
 have h0 : (W.setCell ⟨b, 0, none⟩ u1).heap[b]? = some (.cells #[u1, y] T) := by rw [Joins.block_setCell hb]; rfl
 exact disk_off (disk_off h hb (two_nob hx hy) 0 u1) h0 (two_nob h1 hy) 1 u2
theorem unit_off2 {W : World} {v : Value} {u : Un} (h : UnitAt W v u) (h60 : u.cells.length = 60) {b : Nat} {x y : Value} {T : TypeId} (hb : W.heap[b]? = some (.cells #[x, y] T)) (u1 u2 : Value) : UnitAt ((W.setCell ⟨b, 0, none⟩ u1).setCell ⟨b, 1, none⟩ u2) v u := by
 have h0 : (W.setCell ⟨b, 0, none⟩ u1).heap[b]? = some (.cells #[u1, y] T) := by rw [Joins.block_setCell hb]; rfl
 exact unit_off (unit_off h h60 hb (by simp) 0 u1) h60 h0 (by simp) 1 u2
theorem slice_nob {v : Value} (h : ∃ a n c, v = .slice a n c) : ∀ x : Int, Value.int .u8 x ≠ v := fun x e => by
 obtain ⟨a, n, c, rfl⟩ := h
 cases e
theorem int_nob (q : Int) : ∀ x : Int, Value.int .u8 x ≠ .int .i64 q := fun x e => by cases e
theorem bool_nob (q : Bool) : ∀ x : Int, Value.int .u8 x ≠ .bool q := fun x e => by cases e
theorem slnob (a : Option Addr) (n c : Nat) : ∀ x : Int, Value.int .u8 x ≠ .slice a n c := fun x e => by cases e
abbrev NodeR (w : World) (x : Nb) : Prop := NodeT w x ∧ x.n.u.cells.length = 60
abbrev ClientR (w : World) (x : Cb) : Prop := BkT w x.v1 x.v2 x.c
theorem node_off {W : World} {x : Nb} (h : NodeR W x) {b : Nat} {A : Array Value} {T : TypeId} (hb : W.heap[b]? = some (.cells A T)) (hs : A.size < 300) (hA : ∀ x : Int, Value.int .u8 x ∉ A.toList) (i : Nat) (u : Value) : NodeR (W.setCell ⟨b, i, none⟩ u) x :=
 ⟨⟨⟨ents_off h.1.unit.ents h.2 hb hs i u, h.1.unit.room⟩, ⟨bytes_off h.1.disk.safe hb hA i u, bytes_off h.1.disk.wait hb hA i u, h.1.disk.room1, h.1.disk.room2⟩⟩, h.2⟩
theorem client_off {W : World} {x : Cb} (h : ClientR W x) {b : Nat} {A : Array Value} {T : TypeId} (hb : W.heap[b]? = some (.cells A T)) (hj : 120 ≠ T) (hr : 76 ≠ T) (i : Nat) (u : Value) : ClientR (W.setCell ⟨b, i, none⟩ u) x :=
 ⟨⟨h.1.1.other h.2.1 hb hj i u, h.1.2.other h.2.2 hb hr i u⟩, h.2.1.setCell _ _ _, h.2.2.setCell _ _ _⟩
theorem roomy_sl {v : Value} (h : Roomy v) : ∃ a n c, v = .slice a n c := by
 obtain ⟨a, n, c, h, _⟩ := h
 exact ⟨a, n, c, h⟩
theorem slOf_sl {α : Type} {cs : α → List Value} {k : Nat} {w : World} {v : Value} {xs : List α} (h : SlOf cs k w v xs) : ∃ a n c, v = .slice a n c := by
 obtain ⟨a, c, h, _⟩ := h
 exact ⟨a, _, c, h⟩
def NoByte (l : List Value) : Prop := ∀ x : Int, Value.int .u8 x ∉ l
theorem noByte_set {l : List Value} (h : NoByte l) (i : Nat) {v : Value} (hv : ∀ x : Int, Value.int .u8 x ≠ v) : NoByte (l.set i v) := fun x hx => by
 rcases List.mem_or_eq_of_mem_set hx with hx | hx
 ·exact h x hx
 ·exact hv x hx
theorem noByte_nodes {w : World} {xs : List Nb} (h : ∀ x, x ∈ xs → NodeR w x) : NoByte (xs.flatMap Nb.cells) := fun y hm => by
 obtain ⟨x, hx, hm⟩ := List.mem_flatMap.1 hm
 obtain ⟨a1, n1, c1, e1⟩ := roomy_sl (h x hx).1.unit.room
 obtain ⟨a2, n2, c2, e2⟩ := roomy_sl (h x hx).1.disk.room1
 obtain ⟨a3, n3, c3, e3⟩ := roomy_sl (h x hx).1.disk.room2
 simp [Nb.cells, e1, e2, e3] at hm
theorem noByte_clients {w : World} {xs : List Cb} (h : ∀ x, x ∈ xs → ClientR w x) : NoByte (xs.flatMap Cb.cells) := fun y hm => by
 obtain ⟨x, hx, hm⟩ := List.mem_flatMap.1 hm
 obtain ⟨a1, n1, c1, e1⟩ := slOf_sl (h x hx).1.1
 obtain ⟨a2, n2, c2, e2⟩ := slOf_sl (h x hx).1.2
 simp [Cb.cells, e1, e2] at hm
structure BelowX (B g1 g2 : Nat) (X w : World) : Prop where
 os : w.os = X.os
 tape : w.tape = X.tape
 output : w.output = X.output
 size : X.heap.size ≤ w.heap.size
 block : ∀ k, k < X.heap.size → k ≠ B → k ≠ g1 → k ≠ g2 → w.heap[k]? = X.heap[k]?
theorem BelowX.refl (B g1 g2 : Nat) (X : World) : BelowX B g1 g2 X X := ⟨rfl, rfl, rfl, Nat.le_refl _, fun _ _ _ _ _ => rfl⟩
theorem BelowX.of {X w : World} (h : Below X.heap.size X w) (B g1 g2 : Nat) : BelowX B g1 g2 X w := ⟨h.os, h.tape, h.output, h.size, fun k hk _ _ _ => h.block k hk⟩
theorem BelowX.trans {B g1 g2 : Nat} {X w w' : World} (h : BelowX B g1 g2 X w) (k : BelowX B g1 g2 w w') : BelowX B g1 g2 X w' :=
 ⟨k.os.trans h.os, k.tape.trans h.tape, k.output.trans h.output, Nat.le_trans h.size k.size, fun q hq n1 n2 n3 => (k.block q (Nat.lt_of_lt_of_le hq h.size) n1 n2 n3).trans (h.block q hq n1 n2 n3)⟩
theorem BelowX.setCell {B g1 g2 : Nat} {X w : World} (h : BelowX B g1 g2 X w) {p : Addr} (hp : p.block = B ∨ p.block = g1 ∨ p.block = g2) (u : Value) : BelowX B g1 g2 X (w.setCell p u) :=
 h.trans ⟨rfl, rfl, rfl, by simp [World.setCell], fun k _ n1 n2 n3 => Below.heap_setCell _ _ _ _ (by rcases hp with e | e | e <;> rw [e] <;> assumption)⟩
theorem BelowX.whole {B g1 g2 : Nat} {X w : World} (h : BelowX B g1 g2 X w) (hB : X.heap.size ≤ B) (h1 : X.heap.size ≤ g1) (h2 : X.heap.size ≤ g2) : Below X.heap.size X w :=
 ⟨h.os, h.tape, h.output, h.size, fun k hk => h.block k hk (by omega) (by omega) (by omega)⟩
structure WSt (X w : World) (B g1 g2 : Nat) (NC : List Value) (tip : Int) (CC : List Value) (t : Int) (L : List Nb) (M : List Cb) : Prop where
 box : w.heap[B]? = some (boxW (.slice (some ⟨g1, 0, none⟩) 3 3) tip (.slice (some ⟨g2, 0, none⟩) 3 3) t)
 nrow : w.heap[g1]? = some (.cells NC.toArray 49)
 crow : w.heap[g2]? = some (.cells CC.toArray 41)
 nlen : NC.length = 15
 clen : CC.length = 36
 nby : NoByte NC
 cby : NoByte CC
 nodes : ∀ x, x ∈ L → NodeR w x
 clients : ∀ x, x ∈ M → ClientR w x
 below : BelowX B g1 g2 X w
theorem WSt.later {X w w' : World} {B g1 g2 : Nat} {NC CC : List Value} {tip t : Int} {L : List Nb} {M : List Cb} (h : WSt X w B g1 g2 NC tip CC t L M) (hb : Below w.heap.size w w') : WSt X w' B g1 g2 NC tip CC t L M :=
 ⟨heap_below h.box hb (heap_lt h.box), heap_below h.nrow hb (heap_lt h.nrow), heap_below h.crow hb (heap_lt h.crow), h.nlen, h.clen, h.nby, h.cby, fun x hx => ⟨(h.nodes x hx).1.later hb, (h.nodes x hx).2⟩, fun x hx => bkT_later (h.clients x hx) hb, h.below.trans (BelowX.of hb _ _ _)⟩
theorem WSt.more {X w : World} {B g1 g2 : Nat} {NC CC : List Value} {tip t : Int} {L L' : List Nb} {M M' : List Cb} (h : WSt X w B g1 g2 NC tip CC t L M) (hL : ∀ x, x ∈ L' → NodeR w x) (hM : ∀ x, x ∈ M' → ClientR w x) : WSt X w B g1 g2 NC tip CC t L' M' :=
 ⟨h.box, h.nrow, h.crow, h.nlen, h.clen, h.nby, h.cby, hL, hM, h.below⟩
theorem WSt.ne1 {X w : World} {B g1 g2 : Nat} {NC CC : List Value} {tip t : Int} {L : List Nb} {M : List Cb} (h : WSt X w B g1 g2 NC tip CC t L M) : B ≠ g1 := fun e => by
 have h1 := h.box; have h2 := h.nrow
 rw [e, h2] at h1; injection h1 with h1; injection h1 with _ h3; cases h3
theorem WSt.ne2 {X w : World} {B g1 g2 : Nat} {NC CC : List Value} {tip t : Int} {L : List Nb} {M : List Cb} (h : WSt X w B g1 g2 NC tip CC t L M) : B ≠ g2 := fun e => by
 have h1 := h.box; have h2 := h.crow
 rw [e, h2] at h1; injection h1 with h1; injection h1 with _ h3; cases h3
theorem WSt.ne12 {X w : World} {B g1 g2 : Nat} {NC CC : List Value} {tip t : Int} {L : List Nb} {M : List Cb} (h : WSt X w B g1 g2 NC tip CC t L M) : g1 ≠ g2 := fun e => by
 have h1 := h.nrow; have h2 := h.crow
 rw [e, h2] at h1; injection h1 with h1; injection h1 with _ h3; cases h3
theorem other_block {w : World} {b q : Nat} {o : Obj} (h : w.heap[q]? = some o) (hne : q ≠ b) (i : Nat) (v : Value) : (w.setCell ⟨b, i, none⟩ v).heap[q]? = some o := by
 rw [Below.heap_setCell _ _ _ _ (by exact hne)]; exact h
theorem block_put {w : World} {b : Nat} {l : List Value} {T : TypeId} (h : w.heap[b]? = some (.cells l.toArray T)) (i : Nat) (v : Value) : (w.setCell ⟨b, i, none⟩ v).heap[b]? = some (.cells (l.set i v).toArray T) := by
 rw [Joins.block_setCell h]; simp
theorem WSt.setN {X w : World} {B g1 g2 : Nat} {NC CC : List Value} {tip t : Int} {L : List Nb} {M : List Cb} (h : WSt X w B g1 g2 NC tip CC t L M) (i : Nat) {v : Value} (hv : ∀ x : Int, Value.int .u8 x ≠ v) : WSt X (w.setCell ⟨g1, i, none⟩ v) B g1 g2 (NC.set i v) tip CC t L M :=
 ⟨other_block h.box h.ne1 i v, block_put h.nrow i v, other_block h.crow h.ne12.symm i v, by rw [List.length_set]; exact h.nlen, h.clen, noByte_set h.nby i hv, h.cby,
  fun x hx => node_off (h.nodes x hx) h.nrow (by simp [h.nlen]) (fun x hx => h.nby x (by simpa using hx)) i v, fun x hx => client_off (h.clients x hx) h.nrow (by decide) (by decide) i v, h.below.setCell (Or.inr (Or.inl rfl)) _⟩
theorem WSt.setC {X w : World} {B g1 g2 : Nat} {NC CC : List Value} {tip t : Int} {L : List Nb} {M : List Cb} (h : WSt X w B g1 g2 NC tip CC t L M) (i : Nat) {v : Value} (hv : ∀ x : Int, Value.int .u8 x ≠ v) : WSt X (w.setCell ⟨g2, i, none⟩ v) B g1 g2 NC tip (CC.set i v) t L M :=
 ⟨other_block h.box h.ne2 i v, other_block h.nrow h.ne12 i v, block_put h.crow i v, h.nlen, by rw [List.length_set]; exact h.clen, h.nby, noByte_set h.cby i hv,
  fun x hx => node_off (h.nodes x hx) h.crow (by simp [h.clen]) (fun x hx => h.cby x (by simpa using hx)) i v, fun x hx => client_off (h.clients x hx) h.crow (by decide) (by decide) i v, h.below.setCell (Or.inr (Or.inr rfl)) _⟩
theorem boxW_nob {g1 g2 : Nat} {tip t : Int} : ∀ x : Int, Value.int .u8 x ∉ (#[Value.slice (some ⟨g1, 0, none⟩) 3 3, .int .i64 tip, .slice (some ⟨g2, 0, none⟩) 3 3, .int .i64 t] : Array Value).toList := fun x hx => by simp at hx
theorem WSt.setTip {X w : World} {B g1 g2 : Nat} {NC CC : List Value} {tip t : Int} {L : List Nb} {M : List Cb} (h : WSt X w B g1 g2 NC tip CC t L M) (q : Int) : WSt X (w.setCell ⟨B, 1, none⟩ (.int .i64 q)) B g1 g2 NC q CC t L M :=
 ⟨by rw [Joins.block_setCell h.box]; rfl, other_block h.nrow h.ne1.symm _ _, other_block h.crow h.ne2.symm _ _, h.nlen, h.clen, h.nby, h.cby,
  fun x hx => node_off (h.nodes x hx) h.box (by simp) boxW_nob _ _, fun x hx => client_off (h.clients x hx) h.box (by decide) (by decide) _ _, h.below.setCell (Or.inl rfl) _⟩
theorem WSt.setTime {X w : World} {B g1 g2 : Nat} {NC CC : List Value} {tip t : Int} {L : List Nb} {M : List Cb} (h : WSt X w B g1 g2 NC tip CC t L M) (q : Int) : WSt X (w.setCell ⟨B, 3, none⟩ (.int .i64 q)) B g1 g2 NC tip CC q L M :=
 ⟨by rw [Joins.block_setCell h.box]; rfl, other_block h.nrow h.ne1.symm _ _, other_block h.crow h.ne2.symm _ _, h.nlen, h.clen, h.nby, h.cby,
  fun x hx => node_off (h.nodes x hx) h.box (by simp) boxW_nob _ _, fun x hx => client_off (h.clients x hx) h.box (by decide) (by decide) _ _, h.below.setCell (Or.inl rfl) _⟩
structure WIn (X w : World) (B g1 g2 : Nat) (xs : List Nb) (tip : Int) (cs : List Cb) (t : Int) : Prop where
 st : WSt X w B g1 g2 (xs.flatMap Nb.cells) tip (cs.flatMap Cb.cells) t xs cs
 three : xs.length = 3
 three' : cs.length = 3
theorem WIn.later {X w w' : World} {B g1 g2 : Nat} {xs : List Nb} {cs : List Cb} {tip t : Int} (h : WIn X w B g1 g2 xs tip cs t) (hb : Below w.heap.size w w') : WIn X w' B g1 g2 xs tip cs t := ⟨h.st.later hb, h.three, h.three'⟩
theorem seg_set {A l C : List Value} {n i : Nat} (hA : A.length = n) (hi : i < l.length) (v : Value) : (A ++ (l ++ C)).set (n + i) v = A ++ (l.set i v ++ C) := by
 rw [List.set_append_right _ _ (by omega), show n + i - A.length = i by omega, List.set_append_left _ _ hi]
theorem flat_split {α : Type} (cs : α → List Value) : ∀ (xs : List α) (k : Nat) (x : α), xs[k]? = some x → xs.flatMap cs = (xs.take k).flatMap cs ++ (cs x ++ (xs.drop (k + 1)).flatMap cs) ∧ ∀ y, (xs.set k y).flatMap cs = (xs.take k).flatMap cs ++ (cs y ++ (xs.drop (k + 1)).flatMap cs)
 | [], _, _, h => by simp at h
 | z :: r, 0, x, h => by
  obtain rfl : z = x := by simpa using h
  exact ⟨by simp, fun y => by simp⟩
 | z :: r, k + 1, x, h => by
  obtain ⟨h1, h2⟩ := flat_split cs r k x (by simpa using h)
  refine ⟨?_, fun y => ?_⟩
  ·rw [List.flatMap_cons, h1, List.take_succ_cons, List.flatMap_cons, List.append_assoc, List.drop_succ_cons]
  ·rw [List.set_cons_succ, List.flatMap_cons, h2 y, List.take_succ_cons, List.flatMap_cons, List.append_assoc, List.drop_succ_cons]
theorem front_len {α : Type} {cs : α → List Value} {n : Nat} (hk : ∀ x, (cs x).length = n) {xs : List α} {k : Nat} {x : α} (h : xs[k]? = some x) : ((xs.take k).flatMap cs).length = k * n := by
 have hlt := (List.getElem?_eq_some_iff.1 h).1
 rw [row_len hk, List.length_take, Nat.min_eq_left (by omega)]
theorem nput4 {xs : List Nb} {k : Nat} {x : Nb} (hx : xs[k]? = some x) (y : Nb) (hup : y.n.up = x.n.up) :
  ((((xs.flatMap Nb.cells).set (k * 5 + 0) (.int .i64 y.n.u.p)).set (k * 5 + 1) y.vc).set (k * 5 + 2) y.vs).set (k * 5 + 3) y.vw = (xs.set k y).flatMap Nb.cells := by
 obtain ⟨h1, h2⟩ := flat_split Nb.cells xs k x hx
 have hA := front_len Nb.five hx
 rw [h1, h2 y, seg_set hA (by rw [Nb.five]; decide), seg_set hA (by simp [Nb.five]), seg_set hA (by simp [Nb.five]), seg_set hA (by simp [Nb.five])]
 unfold Nb.cells
 rw [hup]
 rfl
theorem nput3 {xs : List Nb} {k : Nat} {x : Nb} (hx : xs[k]? = some x) (y : Nb) (hp : y.n.u.p = x.n.u.p) (hc : y.vc = x.vc) :
  (((xs.flatMap Nb.cells).set (k * 5 + 2) y.vs).set (k * 5 + 3) y.vw).set (k * 5 + 4) (.bool y.n.up) = (xs.set k y).flatMap Nb.cells := by
 obtain ⟨h1, h2⟩ := flat_split Nb.cells xs k x hx
 have hA := front_len Nb.five hx
 rw [h1, h2 y, seg_set hA (by rw [Nb.five]; decide), seg_set hA (by simp [Nb.five]), seg_set hA (by simp [Nb.five])]
 unfold Nb.cells
 rw [hp, hc]
 rfl
theorem nput5 {xs : List Nb} {k : Nat} {x : Nb} (hx : xs[k]? = some x) (y : Nb) :
  (((((xs.flatMap Nb.cells).set (k * 5 + 0) (.int .i64 y.n.u.p)).set (k * 5 + 1) y.vc).set (k * 5 + 2) y.vs).set (k * 5 + 3) y.vw).set (k * 5 + 4) (.bool y.n.up) = (xs.set k y).flatMap Nb.cells := by
 obtain ⟨h1, h2⟩ := flat_split Nb.cells xs k x hx
 have hA := front_len Nb.five hx
 rw [h1, h2 y, seg_set hA (by rw [Nb.five]; decide), seg_set hA (by simp [Nb.five]), seg_set hA (by simp [Nb.five]), seg_set hA (by simp [Nb.five]), seg_set hA (by simp [Nb.five])]
 rfl
theorem nput1 {xs : List Nb} {k : Nat} {x : Nb} (hx : xs[k]? = some x) (b : Bool) :
  (xs.flatMap Nb.cells).set (k * 5 + 4) (.bool b) = (xs.set k ⟨⟨x.n.u, x.n.s, x.n.w, b⟩, x.vc, x.vs, x.vw⟩).flatMap Nb.cells := by
 obtain ⟨h1, h2⟩ := flat_split Nb.cells xs k x hx
 have hA := front_len Nb.five hx
 rw [h1, h2, seg_set hA (by rw [Nb.five]; decide)]
 rfl
theorem cput12 {cs : List Cb} {k : Nat} {x : Cb} (hx : cs[k]? = some x) (y : Cb) :
  ((((((((((((cs.flatMap Cb.cells).set (k * 12 + 0) (.int .i64 y.c.p)).set (k * 12 + 1) (.int .i64 y.c.d)).set (k * 12 + 2) (.int .i64 y.c.e.k)).set (k * 12 + 3) (.int .i64 y.c.e.j)).set (k * 12 + 4) (.int .i64 y.c.e.v)).set (k * 12 + 5) (.int .i64 y.c.e.t)).set (k * 12 + 6) (.int .i64 y.c.e.c)).set (k * 12 + 7) (.int .i64 y.c.a)).set (k * 12 + 8) (.int .i64 y.c.l)).set (k * 12 + 9) (.int .i64 y.c.n)).set (k * 12 + 10) y.v1).set (k * 12 + 11) y.v2
   = (cs.set k y).flatMap Cb.cells := by
 obtain ⟨h1, h2⟩ := flat_split Cb.cells cs k x hx
 have hA := front_len Cb.twelve hx
 rw [h1, h2 y]
 iterate 12 rw [seg_set hA (by simp [Cb.twelve])]
 rfl
end Go.Proofs.YtmoaobfmopimlafGreatDoor
