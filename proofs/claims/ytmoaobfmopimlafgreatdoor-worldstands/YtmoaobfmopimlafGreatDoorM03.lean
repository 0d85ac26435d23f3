/- For the law. -/
import Derived.Test.YtmoaobfmopimlafGreatDoorM02
import Derived.Shelf.GgClosure.Gives
set_option linter.unusedSimpArgs false
set_option linter.unusedVariables false
set_option maxHeartbeats 16000000
set_option maxRecDepth 100000
namespace Go.Proofs.YtmoaobfmopimlafGreatDoor
open Go Go.ChangeShapes Go.WideShapes Go.ChangeAt Go.RowKit
abbrev AnsU (f : Nat) (args : Array Value) (w : World) (r : Un × Int) : Prop :=
 Calls Tryz.prog f args w fun e w' => ∃ v', e = .returned (.tuple #[.agg #[.int .i64 r.1.p, v'], .int .i64 r.2]) ∧ UnitAt w' v' r.1 ∧ Below w.heap.size w w'
theorem unit_nil (w : World) : UnitAt w (.slice none 0 0) Un.zero := ⟨⟨none, 0, rfl, Or.inl rfl⟩, ⟨none, 0, 0, rfl, Nat.le_refl _⟩⟩
theorem unit_stored {W : World} {b : Nat} {p : Int} {v : Value} (h : W.heap[b]? = some (boxU p v)) (x : Int) (u : Value) : ((W.setCell ⟨b, 0, none⟩ (.int .i64 x)).setCell ⟨b, 1, none⟩ u).heap[b]? = some (boxU x u) := by
 have h0 : (W.setCell ⟨b, 0, none⟩ (.int .i64 x)).heap[b]? = some (boxU x v) := by rw [Joins.block_setCell h]; rfl
 rw [Joins.block_setCell h0]; rfl
theorem below_two2 {B : Nat} {a W : World} {b : Nat} (h : Below B a W) (hb : B ≤ b) (u1 u2 : Value) : Below B a ((W.setCell ⟨b, 0, none⟩ u1).setCell ⟨b, 1, none⟩ u2) :=
 (h.setCell (p := ⟨b, 0, none⟩) hb _).setCell (p := ⟨b, 1, none⟩) hb _
theorem ret_unit {fn : Func} {R : Ending → World → Prop} {a : Act} {W : World} {b p q : Nat} {x : Int} {s : Option Addr} {n c : Nat} {y : Value} (hf : fn.results = #[.cell p 44, .tmp q]) (hd : a.defers = [])
  (h2 : a.tmps.getD p undef = .pointer (some ⟨b, 0, none⟩)) (h3 : a.tmps.getD q undef = y) (hR : W.heap[b]? = some (boxU x (.slice s n c))) (hp : R (.returned (.tuple #[.agg #[.int .i64 x, .slice s n c], y])) W) :
  bodyPost Tryz.prog fn R .ret a W := by
 have c0 := fun i => Joins.cell_of_block hR i
 refine bodyPost_ret (v := .tuple #[.agg #[.int .i64 x, .slice s n c], y]) ?_ hd hp
 rw [results_cell_tmp hf, h2, h3]
 simp [go_sem, c0]
theorem flat_setE : ∀ {es : List En} {k f : Nat} {y z : En} {u : Value}, es[k]? = some y → f < 5 → z.cells = y.cells.set f u → (es.flatMap En.cells).set (k * 5 + f) u = (es.set k z).flatMap En.cells
 | [], k, _, _, _, _, h, _, _ => by simp at h
 | x :: r, 0, f, y, z, u, h, hf, hz => by
  simp at h; subst h
  rw [Nat.zero_mul, Nat.zero_add, List.set_cons_zero, List.flatMap_cons, List.flatMap_cons, List.set_append, if_pos (by rw [En.five]; exact hf), hz]
 | x :: r, k + 1, f, y, z, u, h, hf, hz => by
  have ih := flat_setE (es := r) (k := k) (by simpa using h) hf hz
  rw [List.set_cons_succ, List.flatMap_cons, List.flatMap_cons, List.set_append, if_neg (by rw [En.five]; omega), En.five, show (k + 1) * 5 + f - 5 = k * 5 + f by omega, ih]
theorem flat_five {es : List En} {k : Nat} (hk : k < es.length) (e : En) (tl : List Value) :
  ((((((es.flatMap En.cells ++ tl).set (k * 5) (.int .i64 e.k)).set (k * 5 + 1) (.int .i64 e.j)).set (k * 5 + 2) (.int .i64 e.v)).set (k * 5 + 3) (.int .i64 e.t)).set (k * 5 + 4) (.int .i64 e.c)) = (es.set k e).flatMap En.cells ++ tl := by
 obtain ⟨y, hy⟩ : ∃ y, es[k]? = some y := ⟨es[k], List.getElem?_eq_getElem hk⟩
 have hl : (es.flatMap En.cells).length = es.length * 5 := row_len En.five es
 have g := fun (xs : List En) (hx : xs.length = es.length) (o : Nat) (ho : o < 5) (u : Value) => List.set_append_left (t := tl) (s := xs.flatMap En.cells) (k * 5 + o) u (by rw [row_len En.five, hx]; omega)
 rw [show k * 5 = k * 5 + 0 from rfl, g es rfl 0 (by omega), flat_setE hy (by omega) (z := ⟨e.k, y.j, y.v, y.t, y.c⟩) rfl]
 have h1 : (es.set k ⟨e.k, y.j, y.v, y.t, y.c⟩)[k]? = some ⟨e.k, y.j, y.v, y.t, y.c⟩ := List.getElem?_set_self hk
 rw [Nat.add_zero, g _ (by simp) 1 (by omega), flat_setE h1 (by omega) (z := ⟨e.k, e.j, y.v, y.t, y.c⟩) rfl, List.set_set]
 have h2 : (es.set k ⟨e.k, e.j, y.v, y.t, y.c⟩)[k]? = some ⟨e.k, e.j, y.v, y.t, y.c⟩ := List.getElem?_set_self hk
 rw [g _ (by simp) 2 (by omega), flat_setE h2 (by omega) (z := ⟨e.k, e.j, e.v, y.t, y.c⟩) rfl, List.set_set]
 have h3 : (es.set k ⟨e.k, e.j, e.v, y.t, y.c⟩)[k]? = some ⟨e.k, e.j, e.v, y.t, y.c⟩ := List.getElem?_set_self hk
 rw [g _ (by simp) 3 (by omega), flat_setE h3 (by omega) (z := ⟨e.k, e.j, e.v, e.t, y.c⟩) rfl, List.set_set]
 have h4 : (es.set k ⟨e.k, e.j, e.v, e.t, y.c⟩)[k]? = some ⟨e.k, e.j, e.v, e.t, y.c⟩ := List.getElem?_set_self hk
 rw [g _ (by simp) 4 (by omega), flat_setE h4 (by omega) (z := ⟨e.k, e.j, e.v, e.t, e.c⟩) rfl, List.set_set]
theorem stored_five {W : World} {g : Nat} {T : TypeId} {es : List En} {tl : List Value} (h : W.heap[g]? = some (.cells (es.flatMap En.cells ++ tl).toArray T)) {k : Nat} (hk : k < es.length) (e : En) :
  (((((W.setCell ⟨g, k * 5, none⟩ (.int .i64 e.k)).setCell ⟨g, k * 5 + 1, none⟩ (.int .i64 e.j)).setCell ⟨g, k * 5 + 2, none⟩ (.int .i64 e.v)).setCell ⟨g, k * 5 + 3, none⟩ (.int .i64 e.t)).setCell ⟨g, k * 5 + 4, none⟩ (.int .i64 e.c)).heap[g]? = some (.cells ((es.set k e).flatMap En.cells ++ tl).toArray T) := by
 have h1 := Joins.block_setCell h (i := k * 5) (.int .i64 e.k)
 have h2 := Joins.block_setCell h1 (i := k * 5 + 1) (.int .i64 e.j)
 have h3 := Joins.block_setCell h2 (i := k * 5 + 2) (.int .i64 e.v)
 have h4 := Joins.block_setCell h3 (i := k * 5 + 3) (.int .i64 e.t)
 have h5 := Joins.block_setCell h4 (i := k * 5 + 4) (.int .i64 e.c)
 rw [h5]
 simp only [List.setIfInBounds_toArray]
 rw [flat_five hk]
theorem below_fiveE {B : Nat} {a W : World} {g : Nat} (h : Below B a W) (hb : B ≤ g) (o : Nat) (v0 v1 v2 v3 v4 : Value) :
  Below B a (((((W.setCell ⟨g, o, none⟩ v0).setCell ⟨g, o + 1, none⟩ v1).setCell ⟨g, o + 2, none⟩ v2).setCell ⟨g, o + 3, none⟩ v3).setCell ⟨g, o + 4, none⟩ v4) :=
 ((((h.setCell (p := ⟨g, o, none⟩) hb _).setCell (p := ⟨g, o + 1, none⟩) hb _).setCell (p := ⟨g, o + 2, none⟩) hb _).setCell (p := ⟨g, o + 3, none⟩) hb _).setCell (p := ⟨g, o + 4, none⟩) hb _
theorem other_fiveE {W : World} {g b : Nat} (hne : b ≠ g) (o : Nat) (v0 v1 v2 v3 v4 : Value) :
  (((((W.setCell ⟨g, o, none⟩ v0).setCell ⟨g, o + 1, none⟩ v1).setCell ⟨g, o + 2, none⟩ v2).setCell ⟨g, o + 3, none⟩ v3).setCell ⟨g, o + 4, none⟩ v4).heap[b]? = W.heap[b]? := by
 rw [Below.heap_setCell _ _ _ _ (by exact hne), Below.heap_setCell _ _ _ _ (by exact hne), Below.heap_setCell _ _ _ _ (by exact hne), Below.heap_setCell _ _ _ _ (by exact hne), Below.heap_setCell _ _ _ _ (by exact hne)]
section
open scoped Classical
structure Ub where (u : Un) (v : Value)
def Ub.cells (x : Ub) : List Value := [.int .i64 x.u.p, x.v]
theorem Ub.two (x : Ub) : x.cells.length = 2 := rfl
abbrev unitsOf (xs : List Ub) : List Un := xs.map Ub.u
structure ChAt (w : World) (v : Value) (xs : List Ub) : Prop where
 rows : SlOf Ub.cells 2 w v xs
 each : ∀ x, x ∈ xs → UnitAt w x.v x.u
 room : Roomy v
theorem ChAt.later {w w' : World} {v : Value} {xs : List Ub} (h : ChAt w v xs) (hb : Below w.heap.size w w') : ChAt w' v xs := ⟨h.rows.later hb, fun x hx => (h.each x hx).later hb, h.room⟩
abbrev WiS (W w : World) (b g : Nat) (s : Value) (bv ov k : Nat) (x y : En) : Prop :=
 BeS W w b x ∧ w.cell? ⟨g, 1, none⟩ = some s ∧ w.cell? ⟨bv, ov + k * 5, none⟩ = some (.int .i64 y.k) ∧ w.cell? ⟨bv, ov + k * 5 + 1, none⟩ = some (.int .i64 y.j) ∧ w.cell? ⟨bv, ov + k * 5 + 2, none⟩ = some (.int .i64 y.v) ∧ w.cell? ⟨bv, ov + k * 5 + 3, none⟩ = some (.int .i64 y.t) ∧ w.cell? ⟨bv, ov + k * 5 + 4, none⟩ = some (.int .i64 y.c)
theorem wiS_step {W w w' : World} {b g : Nat} {s : Value} {bv ov k : Nat} {x y : En} (h : WiS W w b g s bv ov k x y) (hb : Below w.heap.size w w') : WiS W w' b g s bv ov k x y :=
 ⟨beS_step h.1 hb, cell_later hb h.2.1, cell_later hb h.2.2.1, cell_later hb h.2.2.2.1, cell_later hb h.2.2.2.2.1, cell_later hb h.2.2.2.2.2.1, cell_later hb h.2.2.2.2.2.2⟩
end
structure Nb where (n : Nd) (vc vs vw : Value)
def Nb.cells (x : Nb) : List Value := [.int .i64 x.n.u.p, x.vc, x.vs, x.vw, .bool x.n.up]
theorem Nb.five (x : Nb) : x.cells.length = 5 := rfl
structure Cb where (c : Cl) (v1 v2 : Value)
def Cb.cells (x : Cb) : List Value := [.int .i64 x.c.p, .int .i64 x.c.d, .int .i64 x.c.e.k, .int .i64 x.c.e.j, .int .i64 x.c.e.v, .int .i64 x.c.e.t, .int .i64 x.c.e.c, .int .i64 x.c.a, .int .i64 x.c.l, .int .i64 x.c.n, x.v1, x.v2]
theorem Cb.twelve (x : Cb) : x.cells.length = 12 := rfl
abbrev Nb.val (x : Nb) : Value := .agg #[.int .i64 x.n.u.p, x.vc, x.vs, x.vw, .bool x.n.up]
structure NodeT (w : World) (x : Nb) : Prop where
 unit : UnitAt w x.vc x.n.u
 disk : DiskR w x.vs x.vw (x.n.s, x.n.w)
abbrev ClientT (w : World) (x : Cb) : Prop := BkAt w x.v1 x.v2 x.c
theorem NodeT.later {w w' : World} {x : Nb} (h : NodeT w x) (hb : Below w.heap.size w w') : NodeT w' x := ⟨h.unit.later hb, ⟨h.disk.safe.later hb, h.disk.wait.later hb, h.disk.room1, h.disk.room2⟩⟩
structure WdAt (w : World) (vn vc : Value) (xs : List Nb) (cs : List Cb) : Prop where
 rowN : SlOf Nb.cells 5 w vn xs
 rowC : SlOf Cb.cells 12 w vc cs
 roomN : Roomy vn
 roomC : Roomy vc
 node : ∀ x, x ∈ xs → NodeT w x
 client : ∀ x, x ∈ cs → ClientT w x
theorem WdAt.later {w w' : World} {vn vc : Value} {xs : List Nb} {cs : List Cb} (h : WdAt w vn vc xs cs) (hb : Below w.heap.size w w') : WdAt w' vn vc xs cs :=
 ⟨h.rowN.later hb, h.rowC.later hb, h.roomN, h.roomC, fun x hx => (h.node x hx).later hb, fun x hx => bkAt_later (h.client x hx) hb⟩
structure WdFits (xs : List Nb) (cs : List Cb) : Prop where
 nsl : xs.length ≤ most
 csl : cs.length ≤ most
 cells : ∀ x, x ∈ xs → x.n.u.cells.length ≤ topN
 safe : ∀ x, x ∈ xs → x.n.s.length ≤ topLen
 wait : ∀ x, x ∈ xs → x.n.w.length ≤ topLen
 jobs : ∀ x, x ∈ cs → x.c.js.length ≤ most
 rung : ∀ x, x ∈ cs → x.c.rs.length ≤ most
abbrev nodesOf (xs : List Nb) : List Nd := xs.map Nb.n
abbrev clientsOf (cs : List Cb) : List Cl := cs.map Cb.c
abbrev wdOf (xs : List Nb) (tip : Int) (cs : List Cb) (t : Int) : Wd := ⟨nodesOf xs, tip, clientsOf cs, t⟩
abbrev boxW (vn : Value) (tip : Int) (vc : Value) (t : Int) : Obj := .cells #[vn, .int .i64 tip, vc, .int .i64 t] 25
abbrev wval (vn : Value) (tip : Int) (vc : Value) (t : Int) : Value := .agg #[vn, .int .i64 tip, vc, .int .i64 t]
abbrev boxNb (x : Nb) : Obj := .cells #[.int .i64 x.n.u.p, x.vc, x.vs, x.vw, .bool x.n.up] 49
abbrev Hp.val (x : Hp) : Value := .agg #[.int .i64 x.k, .int .i64 x.c, .int .i64 x.n, .int .i64 x.j, .int .i64 x.p, .int .i64 x.e.k, .int .i64 x.e.j, .int .i64 x.e.v, .int .i64 x.e.t, .int .i64 x.e.c]
abbrev boxH (x : Hp) : Obj := .cells #[.int .i64 x.k, .int .i64 x.c, .int .i64 x.n, .int .i64 x.j, .int .i64 x.p, .int .i64 x.e.k, .int .i64 x.e.j, .int .i64 x.e.v, .int .i64 x.e.t, .int .i64 x.e.c] 29
theorem bytes_off {W : World} {v : Value} {l : List UInt8} (h : ByteSl W v l) {b : Nat} {A : Array Value} {T : TypeId} (hb : W.heap[b]? = some (.cells A T)) (hA : ∀ x : Int, Value.int .u8 x ∉ A.toList) (i : Nat) (u : Value) : ByteSl (W.setCell ⟨b, i, none⟩ u) v l := by
 obtain ⟨a', c', hv, hc⟩ := h
 refine ⟨a', c', hv, ?_⟩
 rcases hc with hc | ⟨b', off, ha, hE⟩
 · exact Or.inl hc
 · refine Or.inr ⟨b', off, ha, fun j e hj i' u' hi => ?_⟩
  have hcell := hE j e hj i' u' hi
  have hne : b' ≠ b := fun e' => by
   rw [e', Joins.cell_of_block hb] at hcell
   have hu := List.mem_of_getElem? hi
   simp [bt] at hu
   subst hu
   exact hA _ (Array.mem_toList_iff.2 (Array.mem_of_getElem? hcell))
  rw [World.cell?_of_block (Below.heap_setCell _ _ _ _ (by exact hne))]
  exact hcell
theorem ents_off {W : World} {v : Value} {es : List En} (h : EntSl W v es) (h60 : es.length = 60) {b : Nat} {A : Array Value} {T : TypeId} (hb : W.heap[b]? = some (.cells A T)) (hA : A.size < 300) (i : Nat) (u : Value) : EntSl (W.setCell ⟨b, i, none⟩ u) v es := by
 obtain ⟨a', c', hv, hc⟩ := h
 refine ⟨a', c', hv, ?_⟩
 rcases hc with hc | ⟨b', off, ha, hE⟩
 · exact Or.inl hc
 · have hne : b' ≠ b := fun e' => by
   obtain ⟨x, hx⟩ : ∃ x, es[59]? = some x := ⟨es[59]'(by omega), List.getElem?_eq_getElem _⟩
   have hcell := hE 59 x hx 4 (.int .i64 x.c) rfl
   rw [e', Joins.cell_of_block hb] at hcell
   have := (Array.getElem?_eq_some_iff.1 hcell).1
   omega
  refine Or.inr ⟨b', off, ha, fun j e hj i' u' hi => ?_⟩
  rw [World.cell?_of_block (Below.heap_setCell _ _ _ _ (by exact hne))]
  exact hE j e hj i' u' hi
theorem disk_off {W : World} {v1 v2 : Value} {d : Dk} (h : DiskR W v1 v2 d) {b : Nat} {A : Array Value} {T : TypeId} (hb : W.heap[b]? = some (.cells A T)) (hA : ∀ x : Int, Value.int .u8 x ∉ A.toList) (i : Nat) (u : Value) : DiskR (W.setCell ⟨b, i, none⟩ u) v1 v2 d :=
 ⟨bytes_off h.safe hb hA i u, bytes_off h.wait hb hA i u, h.room1, h.room2⟩
theorem unit_off {W : World} {v : Value} {u : Un} (h : UnitAt W v u) (h60 : u.cells.length = 60) {b : Nat} {A : Array Value} {T : TypeId} (hb : W.heap[b]? = some (.cells A T)) (hA : A.size < 300) (i : Nat) (x : Value) : UnitAt (W.setCell ⟨b, i, none⟩ x) v u :=
 ⟨ents_off h.ents h60 hb hA i x, h.room⟩
theorem two_nob {x y : Value} (hx : ∀ q : Int, Value.int .u8 q ≠ x) (hy : ∀ q : Int, Value.int .u8 q ≠ y) : ∀ q : Int, Value.int .u8 q ∉ (#[x, y] : Array Value).toList := fun q hq => by
 simp only [List.mem_cons, List.not_mem_nil, or_false] at hq
 rcases hq with hq | hq
 · exact hx q hq
 · exact hy q hq
theorem disk_off2 {W : World} {v1 v2 : Value} {d : Dk} (h : DiskR W v1 v2 d) {b : Nat} {x y : Value} {T : TypeId} (hb : W.heap[b]? = some (.cells #[x, y] T)) (hx : ∀ q : Int, Value.int .u8 q ≠ x) (hy : ∀ q : Int, Value.int .u8 q ≠ y) {u1 : Value} (h1 : ∀ q : Int, Value.int .u8 q ≠ u1) (u2 : Value) :
  DiskR ((W.setCell ⟨b, 0, none⟩ u1).setCell ⟨b, 1, none⟩ u2) v1 v2 d := by
 have h0 : (W.setCell ⟨b, 0, none⟩ u1).heap[b]? = some (.cells #[u1, y] T) := by rw [Joins.block_setCell hb]; rfl
 exact disk_off (disk_off h hb (two_nob hx hy) 0 u1) h0 (two_nob h1 hy) 1 u2
theorem unit_off2 {W : World} {v : Value} {u : Un} (h : UnitAt W v u) (h60 : u.cells.length = 60) {b : Nat} {x y : Value} {T : TypeId} (hb : W.heap[b]? = some (.cells #[x, y] T)) (u1 u2 : Value) : UnitAt ((W.setCell ⟨b, 0, none⟩ u1).setCell ⟨b, 1, none⟩ u2) v u := by
 have h0 : (W.setCell ⟨b, 0, none⟩ u1).heap[b]? = some (.cells #[u1, y] T) := by rw [Joins.block_setCell hb]; rfl
 exact unit_off (unit_off h h60 hb (by simp) 0 u1) h60 h0 (by simp) 1 u2
theorem slice_nob {v : Value} (h : ∃ a n c, v = .slice a n c) : ∀ x : Int, Value.int .u8 x ≠ v := fun x e => by
 obtain ⟨a, n, c, rfl⟩ := h
 cases e
theorem int_nob (q : Int) : ∀ x : Int, Value.int .u8 x ≠ .int .i64 q := fun x e => by cases e
theorem bool_nob (q : Bool) : ∀ x : Int, Value.int .u8 x ≠ .bool q := fun x e => by cases e
theorem slnob (a : Option Addr) (n c : Nat) : ∀ x : Int, Value.int .u8 x ≠ .slice a n c := fun x e => by cases e
abbrev NodeR (w : World) (x : Nb) : Prop := NodeT w x ∧ x.n.u.cells.length = 60
abbrev ClientR (w : World) (x : Cb) : Prop := BkT w x.v1 x.v2 x.c
theorem node_off {W : World} {x : Nb} (h : NodeR W x) {b : Nat} {A : Array Value} {T : TypeId} (hb : W.heap[b]? = some (.cells A T)) (hs : A.size < 300) (hA : ∀ x : Int, Value.int .u8 x ∉ A.toList) (i : Nat) (u : Value) : NodeR (W.setCell ⟨b, i, none⟩ u) x :=
 ⟨⟨⟨ents_off h.1.unit.ents h.2 hb hs i u, h.1.unit.room⟩, ⟨bytes_off h.1.disk.safe hb hA i u, bytes_off h.1.disk.wait hb hA i u, h.1.disk.room1, h.1.disk.room2⟩⟩, h.2⟩
theorem client_off {W : World} {x : Cb} (h : ClientR W x) {b : Nat} {A : Array Value} {T : TypeId} (hb : W.heap[b]? = some (.cells A T)) (hj : 120 ≠ T) (hr : 76 ≠ T) (i : Nat) (u : Value) : ClientR (W.setCell ⟨b, i, none⟩ u) x :=
 ⟨⟨h.1.1.other h.2.1 hb hj i u, h.1.2.other h.2.2 hb hr i u⟩, h.2.1.setCell _ _ _, h.2.2.setCell _ _ _⟩
theorem roomy_sl {v : Value} (h : Roomy v) : ∃ a n c, v = .slice a n c := by
 obtain ⟨a, n, c, h, _⟩ := h
 exact ⟨a, n, c, h⟩
theorem slOf_sl {α : Type} {cs : α → List Value} {k : Nat} {w : World} {v : Value} {xs : List α} (h : SlOf cs k w v xs) : ∃ a n c, v = .slice a n c := by
 obtain ⟨a, c, h, _⟩ := h
 exact ⟨a, _, c, h⟩
def NoByte (l : List Value) : Prop := ∀ x : Int, Value.int .u8 x ∉ l
theorem noByte_set {l : List Value} (h : NoByte l) (i : Nat) {v : Value} (hv : ∀ x : Int, Value.int .u8 x ≠ v) : NoByte (l.set i v) := fun x hx => by
 rcases List.mem_or_eq_of_mem_set hx with hx | hx
 · exact h x hx
 · exact hv x hx
theorem noByte_nodes {w : World} {xs : List Nb} (h : ∀ x, x ∈ xs → NodeR w x) : NoByte (xs.flatMap Nb.cells) := fun y hm => by
 obtain ⟨x, hx, hm⟩ := List.mem_flatMap.1 hm
 obtain ⟨a1, n1, c1, e1⟩ := roomy_sl (h x hx).1.unit.room
 obtain ⟨a2, n2, c2, e2⟩ := roomy_sl (h x hx).1.disk.room1
 obtain ⟨a3, n3, c3, e3⟩ := roomy_sl (h x hx).1.disk.room2
 simp [Nb.cells, e1, e2, e3] at hm
theorem noByte_clients {w : World} {xs : List Cb} (h : ∀ x, x ∈ xs → ClientR w x) : NoByte (xs.flatMap Cb.cells) := fun y hm => by
 obtain ⟨x, hx, hm⟩ := List.mem_flatMap.1 hm
 obtain ⟨a1, n1, c1, e1⟩ := slOf_sl (h x hx).1.1
 obtain ⟨a2, n2, c2, e2⟩ := slOf_sl (h x hx).1.2
 simp [Cb.cells, e1, e2] at hm
structure BelowX (B g1 g2 : Nat) (X w : World) : Prop where
 os : w.os = X.os
 tape : w.tape = X.tape
 output : w.output = X.output
 size : X.heap.size ≤ w.heap.size
 block : ∀ k, k < X.heap.size → k ≠ B → k ≠ g1 → k ≠ g2 → w.heap[k]? = X.heap[k]?
theorem BelowX.refl (B g1 g2 : Nat) (X : World) : BelowX B g1 g2 X X := ⟨rfl, rfl, rfl, Nat.le_refl _, fun _ _ _ _ _ => rfl⟩
theorem BelowX.of {X w : World} (h : Below X.heap.size X w) (B g1 g2 : Nat) : BelowX B g1 g2 X w := ⟨h.os, h.tape, h.output, h.size, fun k hk _ _ _ => h.block k hk⟩
theorem BelowX.trans {B g1 g2 : Nat} {X w w' : World} (h : BelowX B g1 g2 X w) (k : BelowX B g1 g2 w w') : BelowX B g1 g2 X w' :=
 ⟨k.os.trans h.os, k.tape.trans h.tape, k.output.trans h.output, Nat.le_trans h.size k.size, fun q hq n1 n2 n3 => (k.block q (Nat.lt_of_lt_of_le hq h.size) n1 n2 n3).trans (h.block q hq n1 n2 n3)⟩
theorem BelowX.setCell {B g1 g2 : Nat} {X w : World} (h : BelowX B g1 g2 X w) {p : Addr} (hp : p.block = B ∨ p.block = g1 ∨ p.block = g2) (u : Value) : BelowX B g1 g2 X (w.setCell p u) :=
 h.trans ⟨rfl, rfl, rfl, by simp [World.setCell], fun k _ n1 n2 n3 => Below.heap_setCell _ _ _ _ (by rcases hp with e | e | e <;> rw [e] <;> assumption)⟩
theorem BelowX.whole {B g1 g2 : Nat} {X w : World} (h : BelowX B g1 g2 X w) (hB : X.heap.size ≤ B) (h1 : X.heap.size ≤ g1) (h2 : X.heap.size ≤ g2) : Below X.heap.size X w :=
 ⟨h.os, h.tape, h.output, h.size, fun k hk => h.block k hk (by omega) (by omega) (by omega)⟩
structure WSt (X w : World) (B g1 g2 : Nat) (NC : List Value) (tip : Int) (CC : List Value) (t : Int) (L : List Nb) (M : List Cb) : Prop where
 box : w.heap[B]? = some (boxW (.slice (some ⟨g1, 0, none⟩) 3 3) tip (.slice (some ⟨g2, 0, none⟩) 3 3) t)
 nrow : w.heap[g1]? = some (.cells NC.toArray 49)
 crow : w.heap[g2]? = some (.cells CC.toArray 41)
 nlen : NC.length = 15
 clen : CC.length = 36
 nby : NoByte NC
 cby : NoByte CC
 nodes : ∀ x, x ∈ L → NodeR w x
 clients : ∀ x, x ∈ M → ClientR w x
 below : BelowX B g1 g2 X w
theorem WSt.later {X w w' : World} {B g1 g2 : Nat} {NC CC : List Value} {tip t : Int} {L : List Nb} {M : List Cb} (h : WSt X w B g1 g2 NC tip CC t L M) (hb : Below w.heap.size w w') : WSt X w' B g1 g2 NC tip CC t L M :=
 ⟨heap_below h.box hb (heap_lt h.box), heap_below h.nrow hb (heap_lt h.nrow), heap_below h.crow hb (heap_lt h.crow), h.nlen, h.clen, h.nby, h.cby, fun x hx => ⟨(h.nodes x hx).1.later hb, (h.nodes x hx).2⟩, fun x hx => bkT_later (h.clients x hx) hb, h.below.trans (BelowX.of hb _ _ _)⟩
theorem WSt.more {X w : World} {B g1 g2 : Nat} {NC CC : List Value} {tip t : Int} {L L' : List Nb} {M M' : List Cb} (h : WSt X w B g1 g2 NC tip CC t L M) (hL : ∀ x, x ∈ L' → NodeR w x) (hM : ∀ x, x ∈ M' → ClientR w x) : WSt X w B g1 g2 NC tip CC t L' M' :=
 ⟨h.box, h.nrow, h.crow, h.nlen, h.clen, h.nby, h.cby, hL, hM, h.below⟩
theorem WSt.ne1 {X w : World} {B g1 g2 : Nat} {NC CC : List Value} {tip t : Int} {L : List Nb} {M : List Cb} (h : WSt X w B g1 g2 NC tip CC t L M) : B ≠ g1 := fun e => by
 have h1 := h.box; have h2 := h.nrow
 rw [e, h2] at h1; injection h1 with h1; injection h1 with _ h3; cases h3
theorem WSt.ne2 {X w : World} {B g1 g2 : Nat} {NC CC : List Value} {tip t : Int} {L : List Nb} {M : List Cb} (h : WSt X w B g1 g2 NC tip CC t L M) : B ≠ g2 := fun e => by
 have h1 := h.box; have h2 := h.crow
 rw [e, h2] at h1; injection h1 with h1; injection h1 with _ h3; cases h3
theorem WSt.ne12 {X w : World} {B g1 g2 : Nat} {NC CC : List Value} {tip t : Int} {L : List Nb} {M : List Cb} (h : WSt X w B g1 g2 NC tip CC t L M) : g1 ≠ g2 := fun e => by
 have h1 := h.nrow; have h2 := h.crow
 rw [e, h2] at h1; injection h1 with h1; injection h1 with _ h3; cases h3
theorem other_block {w : World} {b q : Nat} {o : Obj} (h : w.heap[q]? = some o) (hne : q ≠ b) (i : Nat) (v : Value) : (w.setCell ⟨b, i, none⟩ v).heap[q]? = some o := by
 rw [Below.heap_setCell _ _ _ _ (by exact hne)]; exact h
theorem block_put {w : World} {b : Nat} {l : List Value} {T : TypeId} (h : w.heap[b]? = some (.cells l.toArray T)) (i : Nat) (v : Value) : (w.setCell ⟨b, i, none⟩ v).heap[b]? = some (.cells (l.set i v).toArray T) := by
 rw [Joins.block_setCell h]; simp
theorem WSt.setN {X w : World} {B g1 g2 : Nat} {NC CC : List Value} {tip t : Int} {L : List Nb} {M : List Cb} (h : WSt X w B g1 g2 NC tip CC t L M) (i : Nat) {v : Value} (hv : ∀ x : Int, Value.int .u8 x ≠ v) : WSt X (w.setCell ⟨g1, i, none⟩ v) B g1 g2 (NC.set i v) tip CC t L M :=
 ⟨other_block h.box h.ne1 i v, block_put h.nrow i v, other_block h.crow h.ne12.symm i v, by rw [List.length_set]; exact h.nlen, h.clen, noByte_set h.nby i hv, h.cby,
  fun x hx => node_off (h.nodes x hx) h.nrow (by simp [h.nlen]) (fun x hx => h.nby x (by simpa using hx)) i v, fun x hx => client_off (h.clients x hx) h.nrow (by decide) (by decide) i v, h.below.setCell (Or.inr (Or.inl rfl)) _⟩
theorem WSt.setC {X w : World} {B g1 g2 : Nat} {NC CC : List Value} {tip t : Int} {L : List Nb} {M : List Cb} (h : WSt X w B g1 g2 NC tip CC t L M) (i : Nat) {v : Value} (hv : ∀ x : Int, Value.int .u8 x ≠ v) : WSt X (w.setCell ⟨g2, i, none⟩ v) B g1 g2 NC tip (CC.set i v) t L M :=
 ⟨other_block h.box h.ne2 i v, other_block h.nrow h.ne12 i v, block_put h.crow i v, h.nlen, by rw [List.length_set]; exact h.clen, h.nby, noByte_set h.cby i hv,
  fun x hx => node_off (h.nodes x hx) h.crow (by simp [h.clen]) (fun x hx => h.cby x (by simpa using hx)) i v, fun x hx => client_off (h.clients x hx) h.crow (by decide) (by decide) i v, h.below.setCell (Or.inr (Or.inr rfl)) _⟩
theorem boxW_nob {g1 g2 : Nat} {tip t : Int} : ∀ x : Int, Value.int .u8 x ∉ (#[Value.slice (some ⟨g1, 0, none⟩) 3 3, .int .i64 tip, .slice (some ⟨g2, 0, none⟩) 3 3, .int .i64 t] : Array Value).toList := fun x hx => by simp at hx
theorem WSt.setTip {X w : World} {B g1 g2 : Nat} {NC CC : List Value} {tip t : Int} {L : List Nb} {M : List Cb} (h : WSt X w B g1 g2 NC tip CC t L M) (q : Int) : WSt X (w.setCell ⟨B, 1, none⟩ (.int .i64 q)) B g1 g2 NC q CC t L M :=
 ⟨by rw [Joins.block_setCell h.box]; rfl, other_block h.nrow h.ne1.symm _ _, other_block h.crow h.ne2.symm _ _, h.nlen, h.clen, h.nby, h.cby,
  fun x hx => node_off (h.nodes x hx) h.box (by simp) boxW_nob _ _, fun x hx => client_off (h.clients x hx) h.box (by decide) (by decide) _ _, h.below.setCell (Or.inl rfl) _⟩
theorem WSt.setTime {X w : World} {B g1 g2 : Nat} {NC CC : List Value} {tip t : Int} {L : List Nb} {M : List Cb} (h : WSt X w B g1 g2 NC tip CC t L M) (q : Int) : WSt X (w.setCell ⟨B, 3, none⟩ (.int .i64 q)) B g1 g2 NC tip CC q L M :=
 ⟨by rw [Joins.block_setCell h.box]; rfl, other_block h.nrow h.ne1.symm _ _, other_block h.crow h.ne2.symm _ _, h.nlen, h.clen, h.nby, h.cby,
  fun x hx => node_off (h.nodes x hx) h.box (by simp) boxW_nob _ _, fun x hx => client_off (h.clients x hx) h.box (by decide) (by decide) _ _, h.below.setCell (Or.inl rfl) _⟩
structure WIn (X w : World) (B g1 g2 : Nat) (xs : List Nb) (tip : Int) (cs : List Cb) (t : Int) : Prop where
 st : WSt X w B g1 g2 (xs.flatMap Nb.cells) tip (cs.flatMap Cb.cells) t xs cs
 three : xs.length = 3
 three' : cs.length = 3
theorem WIn.later {X w w' : World} {B g1 g2 : Nat} {xs : List Nb} {cs : List Cb} {tip t : Int} (h : WIn X w B g1 g2 xs tip cs t) (hb : Below w.heap.size w w') : WIn X w' B g1 g2 xs tip cs t := ⟨h.st.later hb, h.three, h.three'⟩
theorem seg_set {A l C : List Value} {n i : Nat} (hA : A.length = n) (hi : i < l.length) (v : Value) : (A ++ (l ++ C)).set (n + i) v = A ++ (l.set i v ++ C) := by
 rw [List.set_append_right _ _ (by omega), show n + i - A.length = i by omega, List.set_append_left _ _ hi]
theorem flat_split {α : Type} (cs : α → List Value) : ∀ (xs : List α) (k : Nat) (x : α), xs[k]? = some x → xs.flatMap cs = (xs.take k).flatMap cs ++ (cs x ++ (xs.drop (k + 1)).flatMap cs) ∧ ∀ y, (xs.set k y).flatMap cs = (xs.take k).flatMap cs ++ (cs y ++ (xs.drop (k + 1)).flatMap cs)
 | [], _, _, h => by simp at h
 | z :: r, 0, x, h => by
  obtain rfl : z = x := by simpa using h
  exact ⟨by simp, fun y => by simp⟩
 | z :: r, k + 1, x, h => by
  obtain ⟨h1, h2⟩ := flat_split cs r k x (by simpa using h)
  refine ⟨?_, fun y => ?_⟩
  · rw [List.flatMap_cons, h1, List.take_succ_cons, List.flatMap_cons, List.append_assoc, List.drop_succ_cons]
  · rw [List.set_cons_succ, List.flatMap_cons, h2 y, List.take_succ_cons, List.flatMap_cons, List.append_assoc, List.drop_succ_cons]
theorem front_len {α : Type} {cs : α → List Value} {n : Nat} (hk : ∀ x, (cs x).length = n) {xs : List α} {k : Nat} {x : α} (h : xs[k]? = some x) : ((xs.take k).flatMap cs).length = k * n := by
 have hlt := (List.getElem?_eq_some_iff.1 h).1
 rw [row_len hk, List.length_take, Nat.min_eq_left (by omega)]
theorem nput4 {xs : List Nb} {k : Nat} {x : Nb} (hx : xs[k]? = some x) (y : Nb) (hup : y.n.up = x.n.up) :
  ((((xs.flatMap Nb.cells).set (k * 5 + 0) (.int .i64 y.n.u.p)).set (k * 5 + 1) y.vc).set (k * 5 + 2) y.vs).set (k * 5 + 3) y.vw = (xs.set k y).flatMap Nb.cells := by
 obtain ⟨h1, h2⟩ := flat_split Nb.cells xs k x hx
 have hA := front_len Nb.five hx
 rw [h1, h2 y, seg_set hA (by rw [Nb.five]; decide), seg_set hA (by simp [Nb.five]), seg_set hA (by simp [Nb.five]), seg_set hA (by simp [Nb.five])]
 unfold Nb.cells
 rw [hup]
 rfl
theorem nput3 {xs : List Nb} {k : Nat} {x : Nb} (hx : xs[k]? = some x) (y : Nb) (hp : y.n.u.p = x.n.u.p) (hc : y.vc = x.vc) :
  (((xs.flatMap Nb.cells).set (k * 5 + 2) y.vs).set (k * 5 + 3) y.vw).set (k * 5 + 4) (.bool y.n.up) = (xs.set k y).flatMap Nb.cells := by
 obtain ⟨h1, h2⟩ := flat_split Nb.cells xs k x hx
 have hA := front_len Nb.five hx
 rw [h1, h2 y, seg_set hA (by rw [Nb.five]; decide), seg_set hA (by simp [Nb.five]), seg_set hA (by simp [Nb.five])]
 unfold Nb.cells
 rw [hp, hc]
 rfl
theorem nput5 {xs : List Nb} {k : Nat} {x : Nb} (hx : xs[k]? = some x) (y : Nb) :
  (((((xs.flatMap Nb.cells).set (k * 5 + 0) (.int .i64 y.n.u.p)).set (k * 5 + 1) y.vc).set (k * 5 + 2) y.vs).set (k * 5 + 3) y.vw).set (k * 5 + 4) (.bool y.n.up) = (xs.set k y).flatMap Nb.cells := by
 obtain ⟨h1, h2⟩ := flat_split Nb.cells xs k x hx
 have hA := front_len Nb.five hx
 rw [h1, h2 y, seg_set hA (by rw [Nb.five]; decide), seg_set hA (by simp [Nb.five]), seg_set hA (by simp [Nb.five]), seg_set hA (by simp [Nb.five]), seg_set hA (by simp [Nb.five])]
 rfl
theorem nput1 {xs : List Nb} {k : Nat} {x : Nb} (hx : xs[k]? = some x) (b : Bool) :
  (xs.flatMap Nb.cells).set (k * 5 + 4) (.bool b) = (xs.set k ⟨⟨x.n.u, x.n.s, x.n.w, b⟩, x.vc, x.vs, x.vw⟩).flatMap Nb.cells := by
 obtain ⟨h1, h2⟩ := flat_split Nb.cells xs k x hx
 have hA := front_len Nb.five hx
 rw [h1, h2, seg_set hA (by rw [Nb.five]; decide)]
 rfl
theorem cput12 {cs : List Cb} {k : Nat} {x : Cb} (hx : cs[k]? = some x) (y : Cb) :
  ((((((((((((cs.flatMap Cb.cells).set (k * 12 + 0) (.int .i64 y.c.p)).set (k * 12 + 1) (.int .i64 y.c.d)).set (k * 12 + 2) (.int .i64 y.c.e.k)).set (k * 12 + 3) (.int .i64 y.c.e.j)).set (k * 12 + 4) (.int .i64 y.c.e.v)).set (k * 12 + 5) (.int .i64 y.c.e.t)).set (k * 12 + 6) (.int .i64 y.c.e.c)).set (k * 12 + 7) (.int .i64 y.c.a)).set (k * 12 + 8) (.int .i64 y.c.l)).set (k * 12 + 9) (.int .i64 y.c.n)).set (k * 12 + 10) y.v1).set (k * 12 + 11) y.v2
   = (cs.set k y).flatMap Cb.cells := by
 obtain ⟨h1, h2⟩ := flat_split Cb.cells cs k x hx
 have hA := front_len Cb.twelve hx
 rw [h1, h2 y]
 iterate 12 rw [seg_set hA (by simp [Cb.twelve])]
 rfl
section
open scoped Classical
def Hp.cells (x : Hp) : List Value := [.int .i64 x.k, .int .i64 x.c, .int .i64 x.n, .int .i64 x.j, .int .i64 x.p, .int .i64 x.e.k, .int .i64 x.e.j, .int .i64 x.e.v, .int .i64 x.e.t, .int .i64 x.e.c]
theorem Hp.ten (x : Hp) : x.cells.length = 10 := rfl
abbrev HpSl (w : World) (v : Value) (l : List Hp) : Prop := SlOf Hp.cells 10 w v l
abbrev Hp.zero : Hp := ⟨0, 0, 0, 0, 0, En.zero⟩
theorem infoH : (Tryz.prog.info? 29).map (fun i => (i.zero, i.size, i.bytes)) = some (some (Hp.zero.val), 10, 80) := by kernel_rfl
theorem oneH (es : List Hp) : ∀ u ∈ es.flatMap Hp.cells, u.oneCell' = true := fun u hu => by
 obtain ⟨e, _, he⟩ := List.mem_flatMap.1 hu
 simp only [Hp.cells, List.mem_cons, List.not_mem_nil, or_false] at he
 rcases he with rfl | rfl | rfl | rfl | rfl | rfl | rfl | rfl | rfl | rfl <;> rfl
theorem appendH {w : World} {ops : Array Oper} {rest : List Oper} {o : Oper} {a : Act} {Q : Exit → Act → World → Prop} (hgd : o.guard = none) (s x : Operand)
  (ho : o.op = .call { callee := .builtin .append, args := #[s, x], argTypes := #[57, 57] })
  (base : Nat) (v u : Value) (n : Nat) (xs : List Value) (hs : a.eval s = v) (hown : w.ownsRow base 29 10 v n xs)
  (es : List Hp) (hx : a.eval x = u) (hes : SlOf Hp.cells 10 w u es) (hlen : n + es.length ≤ 1000000) (hbase : base ≤ w.heap.size)
  (h : ∀ v' w', w'.ownsRow base 29 10 v' (n + es.length) (xs ++ es.flatMap Hp.cells) → w.grownBy w' v.ownBlock → wpList Tryz.prog ops Q rest (a.put o.dst v') w') : wpList Tryz.prog ops Q (o :: rest) a w := by
 obtain ⟨i0, hi, hz0, hz1, hz2⟩ := info_parts infoH
 obtain ⟨ao, c, rfl, hcase⟩ := hes
 by_cases hz : es.length = 0
 · obtain rfl : es = [] := List.length_eq_zero_iff.1 hz
  refine Lib.wpList_append_run w hgd s x _ _ ho v _ hs hx v w ?_ (h v w (by simpa using hown) ⟨rfl, rfl, rfl, Nat.le_refl _, fun _ _ _ => rfl⟩)
  have hsrc : Src Tryz.prog i0.size 57 (.slice ao 0 c) 0 [] w := by
   cases ao with
   | none => exact Src.ofNil w Tryz.underlying57 c
   | some ad => exact Src.ofSlice w Tryz.underlying57 ad 0 c [] (by simp) (by simp) (by simp)
  rcases hown.2 with ⟨rfl, _⟩ | ⟨g, cap, cur, rfl, _, _, hle, _⟩
  · exact run_append_nothing w _ _ _ _ i0 Tryz.underlying57 hi none 0 0 (Nat.le_refl _) _ hsrc
  · exact run_append_nothing w _ _ _ _ i0 Tryz.underlying57 hi _ n cap hle _ hsrc
 · rcases hcase with h0 | ⟨b, off, rfl, hE⟩
  · exact absurd h0 hz
  · exact wpList_append_own w hgd s x _ ho base _ i0 (Hp.zero.val) 10 80 Tryz.underlying57 hi hz0 hz1 hz2 rfl (by decide) v n xs hs hown ⟨b, off, none⟩ es.length c (es.flatMap Hp.cells) hx (row_len Hp.ten es)
    (fun j u hj => by rw [Lib.add_plain]; exact rows_flat Hp.ten es off hE j u hj) (oneH es) (by unfold maxLen; omega) (by omega) hbase fun v' w' h1 h2 _ => h v' w' h1 h2
theorem grow_noneH (w : World) : Calls Tryz.prog 78 #[.slice none 0 0, .int .i64 0] w fun e w' => e = .returned (.slice none 0 0) ∧ w' = w := by
 go_enter Tryz.func78, Tryz.ntmps78
 go_wp2
 go_ret
 exact ⟨rfl, rfl⟩
theorem grow_someH (n : Nat) (h0 : 0 < n) (h1 : n ≤ 1000000) (w : World) : Calls Tryz.prog 78 #[.slice none 0 0, .int .i64 n] w fun e w' =>
  ∃ v, e = .returned v ∧ w'.ownsRow w.heap.size 29 10 v 0 [] ∧ Below w.heap.size w w' := by
 obtain ⟨i0, hi, hz0, hz1, hz2⟩ := info_parts infoH
 have hrz : ∀ ty, (Builtin.append_ #[57, 3] ty #[.slice none 0 0, .int .i64 n]).run Tryz.prog w = _ := fun ty =>
  Lib.run_append_grow_zeros w 57 3 ty 29 i0 (Hp.zero.val) .i64 .i64 Tryz.underlying57 Tryz.underlying3 hi hz0 none 0 0 [] (run_firstCells_none w.drew i0.size 0 0 0) n h0 (by omega) (by omega) (by omega) (by rw [hz2]; omega)
   (by rw [hz2]; exact growslice_fits (by omega) (by omega))
 rw [Nat.zero_add] at hrz
 obtain ⟨G, hG⟩ : ∃ G, G = grownCap w n 0 29 := ⟨_, rfl⟩
 have hGn : n ≤ G := hG ▸ grownCap_ge w _ _ _
 have hGm : G ≤ maxLen := hG ▸ grownCap_le_maxLen w n 0 _ (by unfold maxLen; omega)
 rw [← hG] at hrz
 have hG63 : G ≤ 9223372036854775807 := by unfold maxLen at hGm; omega
 have hcur : (([] : List Value).toArray ++ Builtin.zeroCells (Hp.zero.val).cells n ++ Builtin.zeroCells (Hp.zero.val).cells (G - n)).size = G * 10 := by
  simp only [Array.size_append, size_zeroCells]
  show 0 + n * 10 + (G - n) * 10 = G * 10
  omega
 generalize ([] : List Value).toArray ++ Builtin.zeroCells (Hp.zero.val).cells n ++ Builtin.zeroCells (Hp.zero.val).cells (G - n) = cur at hrz hcur
 have hpos : ((n : Int) > 0) := by omega
 clear hG hi hz0 hz1 hz2
 go_enter Tryz.func78, Tryz.ntmps78
 go_wp2_with (at_builtin; refine Lib.wpList_append_run _ rfl _ _ _ _ rfl _ _ rfl rfl _ _ (hrz _) ?_)
 all_goals
  go_ret
  exact ⟨_, rfl, World.ownsRow_made _ _ _ (Nat.le_refl _) hGm hcur, grew (Below.refl _ _).drew _⟩
theorem grow_anyH (n : Nat) (h1 : n ≤ 1000000) (w : World) : Calls Tryz.prog 78 #[.slice none 0 0, .int .i64 n] w fun e w' =>
  ∃ v, e = .returned v ∧ w'.ownsRow w.heap.size 29 10 v 0 [] ∧ Below w.heap.size w w' := by
 by_cases h0 : n = 0
 · subst h0
  exact (grow_noneH w).mono fun e w' ⟨he, hw⟩ => ⟨_, he, World.ownsRow_nil _ _ _ _, by rw [hw]; exact Below.refl _ _⟩
 · exact grow_someH n (by omega) h1 w
theorem concat4_atH (b n1 n2 n3 n4 c1 c2 c3 c4 : Nat) (a1 a2 a3 a4 : Option Addr) (x1 x2 x3 x4 : List Hp) (w : World) (hb : w.heap[b]? = some (.cells #[.slice a1 n1 c1, .slice a2 n2 c2, .slice a3 n3 c3, .slice a4 n4 c4] 57)) (h1 : SlOf Hp.cells 10 w (.slice a1 n1 c1) x1) (h2 : SlOf Hp.cells 10 w (.slice a2 n2 c2) x2) (h3 : SlOf Hp.cells 10 w (.slice a3 n3 c3) x3) (h4 : SlOf Hp.cells 10 w (.slice a4 n4 c4) x4) (hlen : n1 + n2 + n3 + n4 ≤ 1000000) :
  Calls Tryz.prog 27 #[.slice (some ⟨b, 0, none⟩) 4 4] w fun e w' => ∃ v, e = .returned v ∧ SlOf Hp.cells 10 w' v (x1 ++ x2 ++ x3 ++ x4) ∧ Below w.heap.size w w' := by
 have HB : Hid (w.heap[b]? = some (.cells #[.slice a1 n1 c1, .slice a2 n2 c2, .slice a3 n3 c3, .slice a4 n4 c4] 57)) := hb
 have H1 : Hid (SlOf Hp.cells 10 w (.slice a1 n1 c1) x1) := h1
 have L1 : Hid (x1.length = n1) := h1.len
 have H2 : Hid (SlOf Hp.cells 10 w (.slice a2 n2 c2) x2) := h2
 have L2 : Hid (x2.length = n2) := h2.len
 have H3 : Hid (SlOf Hp.cells 10 w (.slice a3 n3 c3) x3) := h3
 have L3 : Hid (x3.length = n3) := h3.len
 have H4 : Hid (SlOf Hp.cells 10 w (.slice a4 n4 c4) x4) := h4
 have L4 : Hid (x4.length = n4) := h4.len
 have k0 := fun i => Joins.cell_of_block hb i
 clear hb h1 h2 h3 h4
 go_enter Tryz.func27, Tryz.ntmps27
 go_wp2
 go_loopw [3, 11] (fun z i wr => ∃ q : Nat, wr = w.drewN q ∧ ((i = .int .i64 0 ∧ z = .int .i64 0) ∨ (i = .int .i64 1 ∧ z = .int .i64 ((n1 : Nat) : Int)) ∨ (i = .int .i64 2 ∧ z = .int .i64 ((n1 + n2 : Nat) : Int)) ∨ (i = .int .i64 3 ∧ z = .int .i64 ((n1 + n2 + n3 : Nat) : Int)) ∨ (i = .int .i64 4 ∧ z = .int .i64 ((n1 + n2 + n3 + n4 : Nat) : Int)))) (fun _ i _ => 4 - (intOf i).toNat)
 case atStart => exact ⟨0, rfl, Or.inl ⟨rfl, rfl⟩⟩
 case round =>
  obtain ⟨q, rfl, ⟨rfl, rfl⟩ | ⟨rfl, rfl⟩ | ⟨rfl, rfl⟩ | ⟨rfl, rfl⟩ | ⟨rfl, rfl⟩⟩ := hrel
  · go_wp2
   go_roundw
   case rel => exact ⟨_, rfl, Or.inr (Or.inl ⟨rfl, by go_num⟩)⟩
   case measure => simp [intOf]
  · go_wp2
   go_roundw
   case rel => exact ⟨_, rfl, Or.inr (Or.inr (Or.inl ⟨rfl, by go_num⟩))⟩
   case measure => simp [intOf]
  · go_wp2
   go_roundw
   case rel => exact ⟨_, rfl, Or.inr (Or.inr (Or.inr (Or.inl ⟨rfl, by go_num⟩)))⟩
   case measure => simp [intOf]
  · go_wp2
   go_roundw
   case rel => exact ⟨_, rfl, Or.inr (Or.inr (Or.inr (Or.inr (⟨rfl, by go_num⟩))))⟩
   case measure => simp [intOf]
  · clear k0
   go_wp2_with fail
   refine (grow_anyH (n1 + n2 + n3 + n4) hlen _).mono ?_
   rintro r w1 ⟨v0, rfl, hO, hB0⟩
   have hB1 : Below w.heap.size w w1 := (below_drewN (Below.refl _ _) _).trans (hB0.mono (by simp))
   have hO1 : w1.ownsRow w.heap.size 29 10 v0 0 [] := by simpa using hO
   clear hO hB0
   go_wp2
   go_loopw [6, 27] (fun v i wr => ∃ gs : List Hp, wr.ownsRow w.heap.size 29 10 v gs.length (gs.flatMap Hp.cells) ∧ Below w.heap.size w wr ∧ ((i = .int .i64 0 ∧ gs = []) ∨ (i = .int .i64 1 ∧ gs = x1) ∨ (i = .int .i64 2 ∧ gs = x1 ++ x2) ∨ (i = .int .i64 3 ∧ gs = x1 ++ x2 ++ x3) ∨ (i = .int .i64 4 ∧ gs = x1 ++ x2 ++ x3 ++ x4))) (fun _ i _ => 4 - (intOf i).toNat)
   case atStart => exact ⟨[], hO1, hB1, Or.inl ⟨rfl, rfl⟩⟩
   case round =>
    obtain ⟨gs, hO, hB, ⟨rfl, rfl⟩ | ⟨rfl, rfl⟩ | ⟨rfl, rfl⟩ | ⟨rfl, rfl⟩ | ⟨rfl, rfl⟩⟩ := hrel
    · have hbr := heap_below HB.out hB (heap_lt HB.out)
     have k1 := fun i => Joins.cell_of_block hbr i
     have hle : ([] : List Hp).length + x1.length ≤ 1000000 := by have := L1.out; have := L2.out; have := L3.out; have := L4.out; simp only [List.length_nil]; omega
     go_wp2_with (at_builtin; refine appendH rfl _ _ rfl w.heap.size _ _ _ _ rfl (hO) x1 rfl (H1.out.later hB) hle hB.size ?_; intro v' w' hO' hg')
     have hB' : Below w.heap.size w w' := hB.grown hg' hB.size (fun q hq => by have := (hO.lt q hq).1; omega)
     go_roundw
     case rel => exact ⟨x1, by simpa using hO', hB', Or.inr (Or.inl ⟨rfl, rfl⟩)⟩
     case measure => simp [intOf]
    · have hbr := heap_below HB.out hB (heap_lt HB.out)
     have k1 := fun i => Joins.cell_of_block hbr i
     have hle : (gs : List Hp).length + x2.length ≤ 1000000 := by have := L1.out; have := L2.out; have := L3.out; have := L4.out; omega
     go_wp2_with (at_builtin; refine appendH rfl _ _ rfl w.heap.size _ _ _ _ rfl (hO) x2 rfl (H2.out.later hB) hle hB.size ?_; intro v' w' hO' hg')
     have hB' : Below w.heap.size w w' := hB.grown hg' hB.size (fun q hq => by have := (hO.lt q hq).1; omega)
     go_roundw
     case rel => exact ⟨gs ++ x2, by rw [List.length_append, List.flatMap_append]; exact hO', hB', Or.inr (Or.inr (Or.inl ⟨rfl, rfl⟩))⟩
     case measure => simp [intOf]
    · have hbr := heap_below HB.out hB (heap_lt HB.out)
     have k1 := fun i => Joins.cell_of_block hbr i
     have hle : (x1 ++ x2 : List Hp).length + x3.length ≤ 1000000 := by have := L1.out; have := L2.out; have := L3.out; have := L4.out; simp only [List.length_append]; omega
     go_wp2_with (at_builtin; refine appendH rfl _ _ rfl w.heap.size _ _ _ _ rfl (hO) x3 rfl (H3.out.later hB) hle hB.size ?_; intro v' w' hO' hg')
     have hB' : Below w.heap.size w w' := hB.grown hg' hB.size (fun q hq => by have := (hO.lt q hq).1; omega)
     go_roundw
     case rel => exact ⟨x1 ++ x2 ++ x3, by rw [List.length_append, List.flatMap_append]; exact hO', hB', Or.inr (Or.inr (Or.inr (Or.inl ⟨rfl, rfl⟩)))⟩
     case measure => simp [intOf]
    · have hbr := heap_below HB.out hB (heap_lt HB.out)
     have k1 := fun i => Joins.cell_of_block hbr i
     have hle : (x1 ++ x2 ++ x3 : List Hp).length + x4.length ≤ 1000000 := by have := L1.out; have := L2.out; have := L3.out; have := L4.out; simp only [List.length_append]; omega
     go_wp2_with (at_builtin; refine appendH rfl _ _ rfl w.heap.size _ _ _ _ rfl (hO) x4 rfl (H4.out.later hB) hle hB.size ?_; intro v' w' hO' hg')
     have hB' : Below w.heap.size w w' := hB.grown hg' hB.size (fun q hq => by have := (hO.lt q hq).1; omega)
     go_roundw
     case rel => exact ⟨x1 ++ x2 ++ x3 ++ x4, by rw [List.length_append, List.flatMap_append]; exact hO', hB', Or.inr (Or.inr (Or.inr (Or.inr (⟨rfl, rfl⟩))))⟩
     case measure => simp [intOf]
    · go_wp2
     go_ret
     exact ⟨_, rfl, slOf_of_owns Hp.ten hO, hB⟩
theorem concat4H (b : Nat) (v1 v2 v3 v4 : Value) (x1 x2 x3 x4 : List Hp) (w : World) (hb : w.heap[b]? = some (.cells #[v1, v2, v3, v4] 57)) (h1 : SlOf Hp.cells 10 w v1 x1) (h2 : SlOf Hp.cells 10 w v2 x2) (h3 : SlOf Hp.cells 10 w v3 x3) (h4 : SlOf Hp.cells 10 w v4 x4) (hlen : x1.length + x2.length + x3.length + x4.length ≤ 1000000) :
  Calls Tryz.prog 27 #[.slice (some ⟨b, 0, none⟩) 4 4] w fun e w' => ∃ v, e = .returned v ∧ SlOf Hp.cells 10 w' v (x1 ++ x2 ++ x3 ++ x4) ∧ Below w.heap.size w w' := by
 have g1 := h1
 have g2 := h2
 have g3 := h3
 have g4 := h4
 obtain ⟨a1, c1, rfl, _⟩ := h1
 obtain ⟨a2, c2, rfl, _⟩ := h2
 obtain ⟨a3, c3, rfl, _⟩ := h3
 obtain ⟨a4, c4, rfl, _⟩ := h4
 exact concat4_atH b _ _ _ _ c1 c2 c3 c4 a1 a2 a3 a4 x1 x2 x3 x4 w hb g1 g2 g3 g4 hlen
end
set_option maxRecDepth 100000
theorem cellsNd : Tryz.prog.cellsOf 49 = 5 := by kernel_rfl
theorem cellsWd : Tryz.prog.cellsOf 25 = 4 := by kernel_rfl
theorem cellsBo : Tryz.prog.cellsOf 4 = 1 := by kernel_rfl
theorem cellsWi : Tryz.prog.cellsOf 3 = 1 := by kernel_rfl
theorem cellsWe : Tryz.prog.cellsOf 27 = 5 := by kernel_rfl
theorem cellsWu : Tryz.prog.cellsOf 44 = 2 := by kernel_rfl
theorem cellsWb : Tryz.prog.cellsOf 39 = 2 := by kernel_rfl
theorem cellsLN : Tryz.prog.cellsOf 22 = 1 := by kernel_rfl
theorem cellsLC : Tryz.prog.cellsOf 23 = 1 := by kernel_rfl
theorem arrW4 {α : Type} {cs : Array α} (h : cs.size = 4) : ∃ c0 c1 c2 c3, cs = #[c0, c1, c2, c3] := by
 obtain ⟨l⟩ := cs
 match l, h with
 | [c0, c1, c2, c3], _ => exact ⟨c0, c1, c2, c3, rfl⟩
section
variable {H : Type} {enc : TypeId × Value → H} {w : World} {base : Nat} {spare : Nat → Bool} {held : Bool}
theorem weightsAll_mem {P : Program} {e : TypeId} : ∀ (l : List (DataW H)) {i : Nat} (d : DataW H), l[i]? = some d → ∀ n ∈ d.weights P e, n ∈ DataW.weightsAll P e l
 | [], i, d, h, _, _ => by simp at h
 | y :: r, 0, d, h, n, hn => by
  obtain rfl : y = d := by simpa using h
  rw [DataW.weightsAll]
  exact List.mem_append_left _ hn
 | y :: r, i + 1, d, h, n, hn => by
  rw [DataW.weightsAll]
  exact List.mem_append_right _ (weightsAll_mem r d (by simpa using h) n hn)
theorem trodDk {fuel : Nat} {c0 c1 : Value} {x : DataW H × List MemPlace} (hf : DataW.trod enc Tryz.prog w base spare held fuel 47 [c0, c1] = some x) (hs : ∀ n ∈ DataW.weights Tryz.prog 47 x.1, n ≤ reachBytes) :
  ∃ d : Dk, DiskR w c0 c1 d ∧ d.1.length ≤ topLen ∧ d.2.length ≤ topLen := by
 obtain ⟨xs, n, _, hx, _, hlen, hel⟩ := DataW.trod_struct Tryz.underlying47 hf
 match xs, hlen with
 | [y0, y1], _ =>
  have k0 : DataW.trod enc Tryz.prog w base spare held n 45 (List.take (Tryz.prog.cellsOf 45) (List.drop 0 [c0, c1])) = some y0 := hel 0 _ rfl
  have k1 : DataW.trod enc Tryz.prog w base spare held n 45 (List.take (Tryz.prog.cellsOf 45) (List.drop 1 [c0, c1])) = some y1 := hel 1 _ rfl
  rw [cellsLY] at k0 k1
  have k0' : DataW.trod enc Tryz.prog w base spare held n 45 [c0] = some y0 := k0
  have k1' : DataW.trod enc Tryz.prog w base spare held n 45 [c1] = some y1 := k1
  obtain ⟨a1, l1, q1, rfl⟩ := one_sl Tryz.underlying45 k0'
  obtain ⟨a2, l2, q2, rfl⟩ := one_sl Tryz.underlying45 k1'
  obtain ⟨s, hs', _, hr1⟩ := openY k0'
  obtain ⟨t, ht, _, hr2⟩ := openY k1'
  have e1 := hs'.len
  have e2 := ht.len
  have hw : DataW.weights Tryz.prog 47 x.1 = DataW.weights Tryz.prog 45 y0.1 ++ DataW.weights Tryz.prog 45 y1.1 := by
   rw [hx]
   simp only [DataW.weights, Tryz.underlying47]
   simp [DataW.weightsEach]
  have b1 := lenY k0' (fun n hn => hs n (by rw [hw]; exact List.mem_append_left _ hn))
  have b2 := lenY k1' (fun n hn => hs n (by rw [hw]; exact List.mem_append_right _ hn))
  exact ⟨(s, t), ⟨hs', ht, ⟨_, _, _, rfl, hr1⟩, ⟨_, _, _, rfl, hr2⟩⟩, by show s.length ≤ _; omega, by show t.length ≤ _; omega⟩
def NdOk (w : World) (q : Nb) : Prop := NodeT w q ∧ q.n.u.cells.length ≤ maxLen ∧ q.n.s.length ≤ topLen ∧ q.n.w.length ≤ topLen
theorem trodNd {fuel : Nat} {cs : List Value} {x : DataW H × List MemPlace} (h : DataW.trod enc Tryz.prog w base spare held fuel 49 cs = some x) (hs : ∀ n ∈ DataW.weights Tryz.prog 49 x.1, n ≤ reachBytes) : ∃ q : Nb, cs = q.cells ∧ NdOk w q := by
 obtain ⟨xs, n, _, hx, hcl, hlen, hel⟩ := DataW.trod_struct Tryz.underlying49 h
 rw [cellsNd] at hcl
 match xs, hlen, cs, hcl with
 | [y0, y1, y2], _, [c0, c1, c2, c3, c4], _ =>
  have k0 : DataW.trod enc Tryz.prog w base spare held n 44 (List.take (Tryz.prog.cellsOf 44) (List.drop 0 [c0, c1, c2, c3, c4])) = some y0 := hel 0 _ rfl
  have k1 : DataW.trod enc Tryz.prog w base spare held n 47 (List.take (Tryz.prog.cellsOf 47) (List.drop 2 [c0, c1, c2, c3, c4])) = some y1 := hel 1 _ rfl
  have k2 : DataW.trod enc Tryz.prog w base spare held n 4 (List.take (Tryz.prog.cellsOf 4) (List.drop 4 [c0, c1, c2, c3, c4])) = some y2 := hel 2 _ rfl
  rw [cellsWu] at k0
  rw [cellsD] at k1
  rw [cellsBo] at k2
  have k0' : DataW.trod enc Tryz.prog w base spare held n 44 [c0, c1] = some y0 := k0
  have k1' : DataW.trod enc Tryz.prog w base spare held n 47 [c2, c3] = some y1 := k1
  have k2' : DataW.trod enc Tryz.prog w base spare held n 4 [c4] = some y2 := k2
  have hw : DataW.weights Tryz.prog 49 x.1 = DataW.weights Tryz.prog 44 y0.1 ++ (DataW.weights Tryz.prog 47 y1.1 ++ DataW.weights Tryz.prog 4 y2.1) := by
   rw [hx]
   simp only [DataW.weights, Tryz.underlying49]
   simp [DataW.weightsEach]
  obtain ⟨u, rfl, h1, h2⟩ := trodUU k0'
  obtain ⟨d, h3, h4, h5⟩ := trodDk k1' (fun n hn => hs n (by rw [hw]; exact List.mem_append_right _ (List.mem_append_left _ hn)))
  obtain ⟨b, hb, _⟩ := DataW.trod_bool Tryz.underlying4 k2'
  simp at hb
  subst hb
  exact ⟨⟨⟨u, d.1, d.2, b⟩, c1, c2, c3⟩, rfl, ⟨h1, h3⟩, h2, h4, h5⟩
def ClOk (w : World) (q : Cb) : Prop := ClientT w q ∧ q.c.js.length ≤ maxLen ∧ q.c.rs.length ≤ maxLen
theorem trodCb {fuel : Nat} {cs : List Value} {x : DataW H × List MemPlace} (hf : DataW.trod enc Tryz.prog w base spare held fuel 41 cs = some x) : ∃ q : Cb, cs = q.cells ∧ ClOk w q := by
 obtain ⟨xs, n, _, hx, hcl, hlen, hel⟩ := DataW.trod_struct Tryz.underlying41 hf
 rw [cellsCl] at hcl
 match xs, hlen, cs, hcl with
 | [y0, y1, y2, y3, y4, y5, y6], _, [c0, c1, c2, c3, c4, c5, c6, c7, c8, c9, c10, c11], _ =>
  have k0 : DataW.trod enc Tryz.prog w base spare held n 3 (List.take (Tryz.prog.cellsOf 3) (List.drop 0 [c0, c1, c2, c3, c4, c5, c6, c7, c8, c9, c10, c11])) = some y0 := hel 0 _ rfl
  have k1 : DataW.trod enc Tryz.prog w base spare held n 3 (List.take (Tryz.prog.cellsOf 3) (List.drop 1 [c0, c1, c2, c3, c4, c5, c6, c7, c8, c9, c10, c11])) = some y1 := hel 1 _ rfl
  have k2 : DataW.trod enc Tryz.prog w base spare held n 27 (List.take (Tryz.prog.cellsOf 27) (List.drop 2 [c0, c1, c2, c3, c4, c5, c6, c7, c8, c9, c10, c11])) = some y2 := hel 2 _ rfl
  have k3 : DataW.trod enc Tryz.prog w base spare held n 3 (List.take (Tryz.prog.cellsOf 3) (List.drop 7 [c0, c1, c2, c3, c4, c5, c6, c7, c8, c9, c10, c11])) = some y3 := hel 3 _ rfl
  have k4 : DataW.trod enc Tryz.prog w base spare held n 3 (List.take (Tryz.prog.cellsOf 3) (List.drop 8 [c0, c1, c2, c3, c4, c5, c6, c7, c8, c9, c10, c11])) = some y4 := hel 4 _ rfl
  have k5 : DataW.trod enc Tryz.prog w base spare held n 3 (List.take (Tryz.prog.cellsOf 3) (List.drop 9 [c0, c1, c2, c3, c4, c5, c6, c7, c8, c9, c10, c11])) = some y5 := hel 5 _ rfl
  have k6 : DataW.trod enc Tryz.prog w base spare held n 39 (List.take (Tryz.prog.cellsOf 39) (List.drop 10 [c0, c1, c2, c3, c4, c5, c6, c7, c8, c9, c10, c11])) = some y6 := hel 6 _ rfl
  rw [cellsWi] at k0 k1 k3 k4 k5
  rw [cellsWe] at k2
  rw [cellsWb] at k6
  obtain ⟨a0, e0, _, _⟩ := DataW.trod_int Tryz.underlying3 k0
  obtain ⟨a1, e1, _, _⟩ := DataW.trod_int Tryz.underlying3 k1
  obtain ⟨a3, e3, _, _⟩ := DataW.trod_int Tryz.underlying3 k3
  obtain ⟨a4, e4, _, _⟩ := DataW.trod_int Tryz.underlying3 k4
  obtain ⟨a5, e5, _, _⟩ := DataW.trod_int Tryz.underlying3 k5
  have k2' : DataW.trod enc Tryz.prog w base spare held n 27 [c2, c3, c4, c5, c6] = some y2 := k2
  have k6' : DataW.trod enc Tryz.prog w base spare held n 39 [c10, c11] = some y6 := k6
  obtain ⟨e, he⟩ := trodE k2'
  obtain ⟨js, rs, hj, hr, hjl, hrl⟩ := trodBk k6'
  simp at e0 e1 e3 e4 e5
  subst e0 e1 e3 e4 e5
  simp only [En.cells, List.cons.injEq, and_true] at he
  obtain ⟨rfl, rfl, rfl, rfl, rfl⟩ := he
  exact ⟨⟨⟨a0, a1, e, a3, a4, a5, js, rs⟩, c10, c11⟩, rfl, ⟨hj, hr⟩, hjl, hrl⟩
theorem openNd {fuel : Nat} {a0 : Option Addr} {len0 cap0 : Nat} {x : DataW H × List MemPlace} (hf : DataW.trod enc Tryz.prog w base spare held fuel 22 [.slice a0 len0 cap0] = some x) (hs : ∀ n ∈ DataW.weights Tryz.prog 22 x.1, n ≤ reachBytes) :
  ∃ es : List Nb, SlOf Nb.cells 5 w (.slice a0 len0 cap0) es ∧ (∀ e, e ∈ es → NdOk w e) ∧ es.length ≤ maxLen ∧ len0 ≤ cap0 := by
 rcases Deep.open_slice Tryz.underlying22 hf with ⟨hcs, _⟩ | ⟨a, len, cap, m, n, Dd, Pl, hcs, _, hl, hm, hmm, hx, hel⟩
 · simp at hcs
  obtain ⟨rfl, rfl, rfl⟩ := hcs
  exact ⟨[], ⟨none, 0, rfl, Or.inl rfl⟩, fun e he => (by cases he), Nat.zero_le _, Nat.le_refl _⟩
 · simp at hcs
  obtain ⟨rfl, rfl, rfl⟩ := hcs
  rw [cellsNd] at hel
  have hlm : len0 ≤ m := by rw [hmm]; split <;> omega
  have hD : ∀ i, i < len0 → ∀ n ∈ DataW.weights Tryz.prog 49 (Dd i), n ≤ reachBytes := fun i hi n hn => hs n (by
   rw [hx]
   simp only [DataW.weights, Tryz.underlying22]
   exact List.mem_cons_of_mem _ (List.mem_append_left _ (weightsAll_mem (i := i) _ _ (by simp [hi]) n hn)))
  have hE : ∀ i, i < len0 → ∃ e : Nb, (∀ j u, (Nb.cells e)[j]? = some u → w.cell? ((a.add (i * 5)).add j) = some u) ∧ NdOk w e := fun i hi => by
   obtain ⟨cs', h1, h2⟩ := hel i (by omega)
   obtain ⟨e, rfl, hp⟩ := trodNd h2 (hD i hi)
   refine ⟨e, fun j u hj => ?_, hp⟩
   have hlt : j < 5 := by
    have := (List.getElem?_eq_some_iff.1 hj).1
    simpa [Nb.cells] using this
   exact ((World.cells?_some h1).2.2 j hlt).trans hj
  obtain ⟨Ee, hE⟩ := @Deep.choose_lt Nb ⟨⟨Nd.zero, nil0, nil0, nil0⟩⟩ len0 _ hE
  have hlen : ((List.range len0).map Ee).length = len0 := by simp
  refine ⟨(List.range len0).map Ee, ⟨some a, cap0, by rw [hlen], ?_⟩, fun e he => ?_, by rw [hlen]; omega, hl⟩
  · rw [hlen]
   by_cases hz : len0 = 0
   · exact Or.inl hz
   · right
    obtain ⟨b, off, spot⟩ := a
    have hspot : spot = none := by
     have := World.cell?_spot ((hE 0 (by omega)).1 0 _ rfl)
     simpa [Addr.add] using this
    subst hspot
    refine ⟨b, off, rfl, fun j e hj i u hi => ?_⟩
    have hjl : j < len0 := by
     have := (List.getElem?_eq_some_iff.1 hj).1
     rwa [hlen] at this
    have he : Ee j = e := by simpa [hjl] using hj
    have := (hE j hjl).1 i u (by rw [he]; exact hi)
    rw [Deep.add_add, Lib.add_plain] at this
    rw [Nat.add_assoc]
    exact this
  · obtain ⟨i, hi, rfl⟩ := List.mem_map.1 he
   exact (hE i (List.mem_range.1 hi)).2
theorem openCb {fuel : Nat} {a0 : Option Addr} {len0 cap0 : Nat} {x : DataW H × List MemPlace} (hf : DataW.trod enc Tryz.prog w base spare held fuel 23 [.slice a0 len0 cap0] = some x) :
  ∃ es : List Cb, SlOf Cb.cells 12 w (.slice a0 len0 cap0) es ∧ (∀ e, e ∈ es → ClOk w e) ∧ es.length ≤ maxLen ∧ len0 ≤ cap0 := by
 rcases Deep.open_slice Tryz.underlying23 hf with ⟨hcs, _⟩ | ⟨a, len, cap, m, n, Dd, Pl, hcs, _, hl, hm, hmm, hx, hel⟩
 · simp at hcs
  obtain ⟨rfl, rfl, rfl⟩ := hcs
  exact ⟨[], ⟨none, 0, rfl, Or.inl rfl⟩, fun e he => (by cases he), Nat.zero_le _, Nat.le_refl _⟩
 · simp at hcs
  obtain ⟨rfl, rfl, rfl⟩ := hcs
  rw [cellsCl] at hel
  have hlm : len0 ≤ m := by rw [hmm]; split <;> omega
  have hE : ∀ i, i < len0 → ∃ e : Cb, (∀ j u, (Cb.cells e)[j]? = some u → w.cell? ((a.add (i * 12)).add j) = some u) ∧ ClOk w e := fun i hi => by
   obtain ⟨cs', h1, h2⟩ := hel i (by omega)
   obtain ⟨e, rfl, hp⟩ := trodCb h2
   refine ⟨e, fun j u hj => ?_, hp⟩
   have hlt : j < 12 := by
    have := (List.getElem?_eq_some_iff.1 hj).1
    simpa [Cb.cells] using this
   exact ((World.cells?_some h1).2.2 j hlt).trans hj
  obtain ⟨Ee, hE⟩ := @Deep.choose_lt Cb ⟨⟨Cl.zero, nil0, nil0⟩⟩ len0 _ hE
  have hlen : ((List.range len0).map Ee).length = len0 := by simp
  refine ⟨(List.range len0).map Ee, ⟨some a, cap0, by rw [hlen], ?_⟩, fun e he => ?_, by rw [hlen]; omega, hl⟩
  · rw [hlen]
   by_cases hz : len0 = 0
   · exact Or.inl hz
   · right
    obtain ⟨b, off, spot⟩ := a
    have hspot : spot = none := by
     have := World.cell?_spot ((hE 0 (by omega)).1 0 _ rfl)
     simpa [Addr.add] using this
    subst hspot
    refine ⟨b, off, rfl, fun j e hj i u hi => ?_⟩
    have hjl : j < len0 := by
     have := (List.getElem?_eq_some_iff.1 hj).1
     rwa [hlen] at this
    have he : Ee j = e := by simpa [hjl] using hj
    have := (hE j hjl).1 i u (by rw [he]; exact hi)
    rw [Deep.add_add, Lib.add_plain] at this
    rw [Nat.add_assoc]
    exact this
  · obtain ⟨i, hi, rfl⟩ := List.mem_map.1 he
   exact (hE i (List.mem_range.1 hi)).2
theorem openWd {r : Reach} {b0 : Nat} {v : Value} {d : DataW H} {p : List MemPlace} (hv : Value.okWide Tryz.prog w r b0 25 v) (h : DataW.Trod enc Tryz.prog w base spare held 25 v d p) (hs : ∀ n ∈ DataW.weights Tryz.prog 25 d, n ≤ reachBytes) :
  ∃ (vn vc : Value) (tip t : Int) (xs : List Nb) (cs : List Cb), v = wval vn tip vc t ∧ WdAt w vn vc xs cs ∧ WdFits xs cs := by
 obtain ⟨cs, rfl, hsz⟩ := okWide_struct Tryz.underlying25 hv
 obtain ⟨c0, c1, c2, c3, rfl⟩ := arrW4 (hsz.trans cellsWd)
 obtain ⟨fuel, hf⟩ := h
 obtain ⟨xs, n, _, hx, _, hlen, hel⟩ := DataW.trod_struct Tryz.underlying25 hf
 match xs, hlen with
 | [y0, y1, y2, y3], _ =>
  have k0 : DataW.trod enc Tryz.prog w base spare held n 22 (List.take (Tryz.prog.cellsOf 22) (List.drop 0 [c0, c1, c2, c3])) = some y0 := hel 0 _ rfl
  have k1 : DataW.trod enc Tryz.prog w base spare held n 3 (List.take (Tryz.prog.cellsOf 3) (List.drop 1 [c0, c1, c2, c3])) = some y1 := hel 1 _ rfl
  have k2 : DataW.trod enc Tryz.prog w base spare held n 23 (List.take (Tryz.prog.cellsOf 23) (List.drop 2 [c0, c1, c2, c3])) = some y2 := hel 2 _ rfl
  have k3 : DataW.trod enc Tryz.prog w base spare held n 3 (List.take (Tryz.prog.cellsOf 3) (List.drop 3 [c0, c1, c2, c3])) = some y3 := hel 3 _ rfl
  rw [cellsLN] at k0
  rw [cellsWi] at k1 k3
  rw [cellsLC] at k2
  have k0' : DataW.trod enc Tryz.prog w base spare held n 22 [c0] = some y0 := k0
  have k2' : DataW.trod enc Tryz.prog w base spare held n 23 [c2] = some y2 := k2
  obtain ⟨tip, e1, _, _⟩ := DataW.trod_int Tryz.underlying3 k1
  obtain ⟨t, e3, _, _⟩ := DataW.trod_int Tryz.underlying3 k3
  simp at e1 e3
  subst e1 e3
  obtain ⟨a1, l1, q1, rfl⟩ := one_sl Tryz.underlying22 k0'
  obtain ⟨a2, l2, q2, rfl⟩ := one_sl Tryz.underlying23 k2'
  have hw : DataW.weights Tryz.prog 25 d = DataW.weights Tryz.prog 22 y0.1 ++ (DataW.weights Tryz.prog 3 y1.1 ++ (DataW.weights Tryz.prog 23 y2.1 ++ DataW.weights Tryz.prog 3 y3.1)) := by
   have hd : d = .agg [y0.1, y1.1, y2.1, y3.1] := by injection hx
   rw [hd]
   simp only [DataW.weights, Tryz.underlying25]
   simp [DataW.weightsEach]
  obtain ⟨ns, g1, g2, g3, g4⟩ := openNd k0' (fun n hn => hs n (by rw [hw]; exact List.mem_append_left _ hn))
  obtain ⟨ds, g5, g6, g7, g8⟩ := openCb k2'
  have hm : ∀ {n : Nat}, n ≤ maxLen → n ≤ most := fun {n} h => Nat.le_trans h (by unfold maxLen; decide)
  exact ⟨_, _, tip, t, ns, ds, rfl, ⟨g1, g5, ⟨_, _, _, rfl, g4⟩, ⟨_, _, _, rfl, g8⟩, fun x hx => (g2 x hx).1, fun x hx => (g6 x hx).1⟩, ⟨hm g3, hm g7, fun x hx => hm (g2 x hx).2.1, fun x hx => (g2 x hx).2.2.1, fun x hx => (g2 x hx).2.2.2, fun x hx => hm (g6 x hx).2.1, fun x hx => hm (g6 x hx).2.2⟩⟩
end
section
open scoped Classical
theorem three_of {w : World} {a : Option Addr} {c : Nat} {xs : List Ub} (h : ChAt w (.slice a 3 c) xs) : ∃ u0 u1 u2 a0 n0 c0 a1 n1 c1 a2 n2 c2 b off, xs = [⟨u0, .slice a0 n0 c0⟩, ⟨u1, .slice a1 n1 c1⟩, ⟨u2, .slice a2 n2 c2⟩] ∧ a = some ⟨b, off, none⟩ ∧ RowAt Ub.cells 2 w b off xs ∧
  (UnitAt w (.slice a0 n0 c0) u0 ∧ UnitAt w (.slice a1 n1 c1) u1 ∧ UnitAt w (.slice a2 n2 c2) u2) ∧ u0.cells.length = n0 ∧ u1.cells.length = n1 ∧ u2.cells.length = n2 := by
 have hl := h.rows.len
 obtain ⟨b, off, ha, hE⟩ := h.rows.at (by omega)
 match xs, hl with
 | [x0, x1, x2], _ =>
  have h0 := h.each x0 (by simp)
  have h1 := h.each x1 (by simp)
  have h2 := h.each x2 (by simp)
  obtain ⟨u0, v0⟩ := x0
  obtain ⟨u1, v1⟩ := x1
  obtain ⟨u2, v2⟩ := x2
  obtain ⟨a0, n0, c0, e0, _⟩ := h0.room
  obtain ⟨a1, n1, c1, e1, _⟩ := h1.room
  obtain ⟨a2, n2, c2, e2, _⟩ := h2.room
  dsimp only at e0 e1 e2
  subst e0 e1 e2
  exact ⟨u0, u1, u2, a0, n0, c0, a1, n1, c1, a2, n2, c2, b, off, rfl, ha, hE, ⟨h0, h1, h2⟩, SlOf.len (cs := En.cells) (k := 5) h0.ents, SlOf.len (cs := En.cells) (k := 5) h1.ents, SlOf.len (cs := En.cells) (k := 5) h2.ents⟩
theorem row_three {w : World} {b off : Nat} {u0 u1 u2 : Un} {v0 v1 v2 : Value} (h : RowAt Ub.cells 2 w b off [⟨u0, v0⟩, ⟨u1, v1⟩, ⟨u2, v2⟩]) :
  (w.cell? ⟨b, off, none⟩ = some (.int .i64 u0.p) ∧ w.cell? ⟨b, off + 1, none⟩ = some v0) ∧ (w.cell? ⟨b, off + 2, none⟩ = some (.int .i64 u1.p) ∧ w.cell? ⟨b, off + 2 + 1, none⟩ = some v1) ∧ (w.cell? ⟨b, off + 4, none⟩ = some (.int .i64 u2.p) ∧ w.cell? ⟨b, off + 4 + 1, none⟩ = some v2) :=
 ⟨⟨h 0 _ rfl 0 _ rfl, h 0 _ rfl 1 _ rfl⟩, ⟨h 1 _ rfl 0 _ rfl, h 1 _ rfl 1 _ rfl⟩, ⟨h 2 _ rfl 0 _ rfl, h 2 _ rfl 1 _ rfl⟩⟩
end
theorem name_world {P : World → Prop} {W : World} (h : P W) : ∃ V, V = W ∧ P V := ⟨W, rfl, h⟩
theorem ents_front {W : World} {g n cap : Nat} {T : TypeId} {es : List En} {tl : List Value} (hl : es.length = n) (h : W.heap[g]? = some (.cells (es.flatMap En.cells ++ tl).toArray T)) : EntSl W (.slice (some ⟨g, 0, none⟩) n cap) es := by
 refine ⟨some ⟨g, 0, none⟩, cap, by rw [hl], Or.inr ⟨g, 0, rfl, fun j x hj i u hi => ?_⟩⟩
 have hf := row_flat En.five es j x hj i u hi
 have hlt := (List.getElem?_eq_some_iff.1 hf).1
 rw [Joins.cell_of_block h, Nat.zero_add, List.getElem?_toArray, List.getElem?_append_left hlt]
 exact hf
def utake (u : Un) (r : Rc) : Un × Int := if r.chk ≠ 0 then (u, r.chk) else if (uwrite u r).2 ≠ 0 then (u, (uwrite u r).2) else uwrite u r
theorem uwrite_bad {u : Un} {r : Rc} (h : (uwrite u r).2 ≠ 0) : (uwrite u r).1 = Un.zero := by
 unfold uwrite at h ⊢
 split at h <;> rename_i h1
 · rw [if_pos h1]
  split at h <;> rename_i h2
  · rw [if_pos h2]
  · exact absurd rfl h
 · rw [if_neg h1]
  split at h <;> rename_i h2
  · rw [if_pos h2]
  · exact absurd rfl h
theorem unext_of {u : Un} (r : Rc) (h : u.ck = 0) : unext u r = if r.chk ≠ 0 then (Un.zero, r.chk) else uwrite u r := by
 rw [unext, if_neg (by simpa using h)]
theorem utake_err (u : Un) (r : Rc) (h : u.ck = 0) : (utake u r).2 = (unext u r).2 := by
 rw [unext_of r h, utake]
 by_cases h1 : r.chk = 0
 · rw [if_neg (c := r.chk ≠ 0) (by simpa using h1), if_neg (c := r.chk ≠ 0) (by simpa using h1)]
  split <;> rfl
 · rw [if_pos h1, if_pos h1]
theorem utake_ok {u : Un} {r : Rc} (h : u.ck = 0) (h2 : (utake u r).2 = 0) : utake u r = unext u r := by
 rw [unext_of r h]
 rw [utake] at h2 ⊢
 by_cases h1 : r.chk = 0
 · rw [if_neg (c := r.chk ≠ 0) (by simpa using h1)] at h2 ⊢
  rw [if_neg (c := r.chk ≠ 0) (by simpa using h1)]
  split
  · rename_i h4
   rw [if_pos h4] at h2
   exact absurd h2 h4
  · rfl
 · rw [if_pos h1] at h2
  exact absurd h2 h1
theorem unext_bad {u : Un} {r : Rc} (h : u.ck = 0) (h2 : (unext u r).2 ≠ 0) : (unext u r).1 = Un.zero := by
 rw [unext_of r h] at h2 ⊢
 by_cases h1 : r.chk = 0
 · rw [if_neg (c := r.chk ≠ 0) (by simpa using h1)] at h2 ⊢
  exact uwrite_bad h2
 · rw [if_pos h1]
def Rc.cw (r : Rc) : Int := if ¬(0 ≤ r.a ∧ r.a ≤ 59) then 3 else if ¬ r.p = 0 then 4 else r.e.chk
def Rc.cs (r : Rc) : Int := if ¬(1 ≤ r.p ∧ r.p ≤ 20) then 3 else if ¬ r.a = 0 ∨ r.e.some_ = true then 4 else 0
theorem checkWrite_any (r : Rc) (w : World) :
  Calls Tryz.prog 221 #[r.val] w fun e w' => e = .returned (.int .i64 r.cw) ∧ Below w.heap.size w w' := by
 have hB0 : Aside (Below w.heap.size w (w.alloc (boxRc r))) := grew (Below.refl _ _) _
 have hce := check_any r.e.k r.e.j r.e.v r.e.t r.e.c (w.alloc (boxRc r))
 change Calls _ _ _ _ fun e w' => e = .returned (.int .i64 r.e.chk) ∧ _ at hce
 have HC : Hid (r.cw = if ¬(0 ≤ r.a ∧ r.a ≤ 59) then 3 else if ¬ r.p = 0 then 4 else r.e.chk) := rfl
 generalize r.cw = d at *
 generalize r.e.chk = d' at *
 have hc : r.a < 0 ∨ (0 ≤ r.a ∧ 60 ≤ r.a) ∨ (0 ≤ r.a ∧ r.a < 60) := by omega
 rcases hc with h | ⟨h, h'⟩ | ⟨h, h'⟩
 · have HR : Hid (d = 3) := by rw [Hid, HC.out, if_pos (by omega)]
  clear HC
  go_enter Tryz.func221, Tryz.ntmps221
  go_wp2
  go_ret
  exact ⟨by rw [HR.out]; rfl, hB0.out⟩
 · have HR : Hid (d = 3) := by rw [Hid, HC.out, if_pos (by omega)]
  clear HC
  go_enter Tryz.func221, Tryz.ntmps221
  go_wp2
  go_ret
  exact ⟨by rw [HR.out]; rfl, hB0.out⟩
 · rw [if_neg (by omega)] at HC
  by_cases hp : r.p = 0
  · have HR : Hid (d = d') := by rw [Hid, HC.out, if_neg (by simpa using hp)]
   have hpb : (r.p != 0) = false := by rw [hp]; rfl
   clear HC hp
   go_enter Tryz.func221, Tryz.ntmps221
   go_wp2_with fail
   refine hce.mono ?_
   rintro e w2 ⟨rfl, hb2⟩
   have HB2 : Aside _ := step_below1 hB0.out hb2
   clear hb2 hce
   go_wp2
   go_ret
   exact ⟨by rw [HR.out]; rfl, HB2.out⟩
  · have HR : Hid (d = 4) := by rw [Hid, HC.out, if_pos hp]
   have hpb : (r.p != 0) = true := by rw [bne_iff_ne]; exact hp
   clear HC hp
   go_enter Tryz.func221, Tryz.ntmps221
   go_wp2
   go_ret
   exact ⟨by rw [HR.out]; rfl, hB0.out⟩
theorem checkSeal_any (r : Rc) (w : World) :
  Calls Tryz.prog 222 #[r.val] w fun e w' => e = .returned (.int .i64 r.cs) ∧ Below w.heap.size w w' := by
 have hB0 : Aside (Below w.heap.size w (w.alloc (boxRc r))) := grew (Below.refl _ _) _
 have hne : ∀ W, (binOp .neq 27 (ev r.e.k r.e.j r.e.v r.e.t r.e.c) (ev 0 0 0 0 0)).run Tryz.prog W = .ok (.bool r.e.some_) W := fun W => neq_entry r.e.k r.e.j r.e.v r.e.t r.e.c 0 0 0 0 0 W
 have HC : Hid (r.cs = if ¬(1 ≤ r.p ∧ r.p ≤ 20) then 3 else if ¬ r.a = 0 ∨ r.e.some_ = true then 4 else 0) := rfl
 generalize r.cs = d at *
 generalize r.e.some_ = so at *
 have hc : r.p < 1 ∨ (1 ≤ r.p ∧ 20 < r.p) ∨ (1 ≤ r.p ∧ r.p ≤ 20) := by omega
 rcases hc with h | ⟨h, h'⟩ | ⟨h, h'⟩
 · have HR : Hid (d = 3) := by rw [Hid, HC.out, if_pos (by omega)]
  clear HC
  go_enter Tryz.func222, Tryz.ntmps222
  go_wp2
  go_ret
  exact ⟨by rw [HR.out]; rfl, hB0.out⟩
 · have HR : Hid (d = 3) := by rw [Hid, HC.out, if_pos (by omega)]
  clear HC
  go_enter Tryz.func222, Tryz.ntmps222
  go_wp2
  go_ret
  exact ⟨by rw [HR.out]; rfl, hB0.out⟩
 · rw [if_neg (by omega)] at HC
  by_cases ha : r.a = 0
  · cases so with
   | true =>
    have HR : Hid (d = 4) := by rw [Hid, HC.out, if_pos (Or.inr rfl)]
    have hab : (r.a != 0) = false := by rw [ha]; rfl
    clear HC ha
    go_enter Tryz.func222, Tryz.ntmps222
    go_wp2
    go_ret
    exact ⟨by rw [HR.out]; rfl, hB0.out⟩
   | false =>
    have HR : Hid (d = 0) := by rw [Hid, HC.out, if_neg (by simp [ha])]
    have hab : (r.a != 0) = false := by rw [ha]; rfl
    clear HC ha
    go_enter Tryz.func222, Tryz.ntmps222
    go_wp2
    go_ret
    exact ⟨by rw [HR.out]; rfl, hB0.out⟩
  · have HR : Hid (d = 4) := by rw [Hid, HC.out, if_pos (Or.inl ha)]
   have hab : (r.a != 0) = true := by rw [bne_iff_ne]; exact ha
   clear HC ha
   go_enter Tryz.func222, Tryz.ntmps222
   go_wp2
   go_ret
   exact ⟨by rw [HR.out]; rfl, hB0.out⟩
theorem noteCheck_any (r : Rc) (w : World) :
  Calls Tryz.prog 193 #[r.val] w fun e w' => e = .returned (.int .i64 r.chk) ∧ Below w.heap.size w w' := by
 have hB0 : Aside (Below w.heap.size w (w.alloc (boxRc r))) := grew (Below.refl _ _) _
 have hcw := checkWrite_any r (w.alloc (boxRc r))
 have hcs := checkSeal_any r (w.alloc (boxRc r))
 have HC : Hid (r.chk = if r.k = 2 then r.cs else if ¬ r.k = 1 then 4 else r.cw) := rfl
 generalize r.chk = d at *
 generalize r.cw = d1 at *
 generalize r.cs = d2 at *
 by_cases h1 : r.k = 1
 · have HR : Hid (d = d1) := by rw [Hid, HC.out, if_neg (by omega), if_neg (by simpa using h1)]
  have hb1 : (r.k == 1) = true := by rw [h1]; rfl
  clear HC h1 hcs
  go_enter Tryz.func193, Tryz.ntmps193
  go_wp2_with fail
  refine hcw.mono ?_
  rintro e w2 ⟨rfl, hb2⟩
  have HB2 : Aside _ := step_below1 hB0.out hb2
  clear hb2 hcw
  go_wp2
  go_ret
  exact ⟨by rw [HR.out]; rfl, HB2.out⟩
 · have hb1 : (r.k == 1) = false := by rw [beq_eq_false_iff_ne]; exact h1
  by_cases h2 : r.k = 2
  · have HR : Hid (d = d2) := by rw [Hid, HC.out, if_pos h2]
   have hb2 : (r.k == 2) = true := by rw [h2]; rfl
   clear HC h1 h2 hcw
   go_enter Tryz.func193, Tryz.ntmps193
   go_wp2_with fail
   refine hcs.mono ?_
   rintro e w2 ⟨rfl, hb3⟩
   have HB2 : Aside _ := step_below1 hB0.out hb3
   clear hb3 hcs
   go_wp2
   go_ret
   exact ⟨by rw [HR.out]; rfl, HB2.out⟩
  · have HR : Hid (d = 4) := by rw [Hid, HC.out, if_neg h2, if_pos h1]
   have hb2 : (r.k == 2) = false := by rw [beq_eq_false_iff_ne]; exact h2
   clear HC h1 h2 hcw hcs
   go_enter Tryz.func193, Tryz.ntmps193
   go_wp2
   go_ret
   exact ⟨by rw [HR.out]; rfl, hB0.out⟩
theorem ublank_any (w : World) :
  Calls Tryz.prog 111 #[] w fun e w' => e = .returned (ev 4 0 0 0 0) ∧ Below w.heap.size w w' := by
 go_enter Tryz.func111, Tryz.ntmps111
 go_wp2
 exact bodyPost_ret (v := ev 4 0 0 0 0) (by simp [results, Tryz.results111, go_sem]) rfl ⟨rfl, grew (Below.refl _ _) _⟩
def NewAt (W : World) (g n : Nat) : Prop := ∃ es : List En, es.length = 60 ∧ (∀ j, j < n → es[j]? = some blankE) ∧ W.heap[g]? = some (.cells (es.flatMap En.cells ++ []).toArray 27)
theorem newAt_all {W : World} {g : Nat} (h : NewAt W g 60) : W.heap[g]? = some (.cells ((List.replicate 60 blankE).flatMap En.cells).toArray 27) := by
 obtain ⟨es, hl, he, hW⟩ := h
 have e : es = List.replicate 60 blankE := by
  apply List.ext_getElem?
  intro j
  by_cases hj : j < 60
  · rw [he j hj, List.getElem?_replicate, if_pos hj]
  · rw [List.getElem?_eq_none (by omega), List.getElem?_eq_none (by rw [List.length_replicate]; omega)]
 rw [hW, e, List.append_nil]
theorem newAt_step {W : World} {g n : Nat} (h : NewAt W g n) (hn : n < 60) : NewAt (((((W.setCell ⟨g, n * 5, none⟩ (.int .i64 4)).setCell ⟨g, n * 5 + 1, none⟩ (.int .i64 0)).setCell ⟨g, n * 5 + 2, none⟩ (.int .i64 0)).setCell ⟨g, n * 5 + 3, none⟩ (.int .i64 0)).setCell ⟨g, n * 5 + 4, none⟩ (.int .i64 0)) g (n + 1) := by
 obtain ⟨es, hl, he, hW⟩ := h
 refine ⟨es.set n blankE, by rw [List.length_set]; exact hl, fun j hj => ?_, stored_five hW (by omega) blankE⟩
 by_cases hjn : n = j
 · subst hjn
  exact List.getElem?_set_self (by omega)
 · rw [List.getElem?_set_ne hjn]
  exact he j (by omega)
theorem newAt_later {W W' : World} {g n : Nat} (h : NewAt W g n) (hb : Below W.heap.size W W') : NewAt W' g n := by
 obtain ⟨es, hl, he, hW⟩ := h
 exact ⟨es, hl, he, heap_below hW hb (heap_lt hW)⟩
theorem newAt_cells {W : World} {g n : Nat} (h : NewAt W g n) {k o : Nat} (hk : k < 60) (ho : o < 5) : ∃ v, W.cell? ⟨g, k * 5 + o, none⟩ = some v := by
 obtain ⟨es, hl, _, hW⟩ := h
 rw [Joins.cell_of_block hW]
 have hll : k * 5 + o < (es.flatMap En.cells ++ []).length := by rw [List.append_nil, row_len En.five, hl]; omega
 exact ⟨_, by rw [List.getElem?_toArray]; exact List.getElem?_eq_getElem hll⟩
theorem newAt_thaw {W : World} {g n : Nat} (h : NewAt W g n) (i : Nat) : W.frozen? ⟨g, i, none⟩ = false := by
 obtain ⟨es, _, _, hW⟩ := h
 exact Joins.unfrozen_of_block hW i
theorem made60 : (madeCells (ev 0 0 0 0 0).cells (60 * 5)).toList = (List.replicate 60 En.zero).flatMap En.cells := by kernel_rfl
theorem unitNew_own (w : World) :
  Calls Tryz.prog 76 #[] w fun e w' => ∃ g, e = .returned (.agg #[.int .i64 1, .slice (some ⟨g, 0, none⟩) 60 60]) ∧ w.heap.size ≤ g ∧ w'.heap[g]? = some (.cells (unew.cells.flatMap En.cells ++ []).toArray 27) ∧ Below w.heap.size w w' := by
 obtain ⟨i0, hi, hz0, hz1, hz2⟩ := info_parts infoE
 have HX0 : Aside ((w.alloc (boxU 0 (.slice none 0 0))).heap[w.heap.size]? = some (boxU 0 (.slice none 0 0))) := heap_new _ _
 have HB0 : Aside (Below w.heap.size w (w.alloc (boxU 0 (.slice none 0 0)))) := grew (Below.refl _ _) _
 go_enter Tryz.func76, Tryz.ntmps76
 go_upto_region 1 with fail
 generalize w.alloc (boxU 0 (.slice none 0 0)) = W0 at *
 go_wp2_with (at_make; refine wpList_make_full _ rfl _ _ 42 rfl W0.heap.size 27 i0 (ev 0 0 0 0 0) 5 Tryz.underlying42 hi hz0 hz1 _ _ _ _ 60 rfl rfl rfl rfl (by rw [hz2]; omega) (by unfold maxLen; omega) (Nat.le_refl _) ?_)
 intro w1 hown hgrow
 obtain ⟨hl0, ho⟩ := hown
 rcases ho with ⟨h, _⟩ | ⟨g, cap, cur, hv', _, hg, _, _, hsz, htake⟩
 · cases h
 injection hv' with ha _ hc
 injection ha with ha
 injection ha with ha _ _
 subst ha hc
 have hB1 : Below W0.heap.size W0 w1 := ⟨hgrow.os, hgrow.tape, hgrow.output, hgrow.size, fun k hk => hgrow.block k hk (fun h => by cases h)⟩
 have hN1 : NewAt w1 W0.heap.size 0 := by
  refine ⟨List.replicate 60 En.zero, List.length_replicate .., fun j hj => absurd hj (Nat.not_lt_zero j), ?_⟩
  have h2 : cur.toList = (List.replicate 60 En.zero).flatMap En.cells := by
   rw [← made60]
   rw [List.take_of_length_le (by rw [Array.length_toList, hsz]; omega)] at htake
   exact htake
  rw [List.append_nil, ← h2]
  simpa using hg
 have hX1 := heap_below HX0.out hB1 (heap_lt HX0.out)
 have hlt := heap_lt HX0.out
 have HB1 : Below w.heap.size w w1 := HB0.out.trans (hB1.mono HB0.out.size)
 have hgw : w.heap.size ≠ W0.heap.size := by omega
 have HLE : Hid (w.heap.size ≤ W0.heap.size) := by show _ ≤ _; omega
 clear hi hz0 hz1 hz2 hl0 htake hgrow hg hsz hB1 HX0 HB0 hlt
 generalize W0.heap.size = g at *
 go_wp2
 go_loopw [6] (fun s wr => ∃ n : Nat, n ≤ 60 ∧ s = .int .i64 n ∧ NewAt wr g n ∧ wr.heap[w.heap.size]? = some (boxU 0 (.slice none 0 0)) ∧ Below w.heap.size w wr) (fun s _ => 60 - (intOf s).toNat)
 case atStart => exact ⟨0, by omega, rfl, hN1, hX1, HB1⟩
 case round =>
  clear hN1 hX1 HB1
  obtain ⟨n, h60, rfl, hN, hX, hB⟩ := hrel
  have HN : Aside (NewAt wr g n) := hN
  have HX : Aside (wr.heap[w.heap.size]? = some (boxU 0 (.slice none 0 0))) := hX
  have HB : Aside (Below w.heap.size w wr) := hB
  clear hN hX hB
  by_cases hlt : n < 60
  · have hni : (n : Int) < 60 := by omega
   go_wp2_with fail
   refine (ublank_any _).mono ?_
   rintro e w2 ⟨rfl, hb2⟩
   have hN2 := newAt_later HN.out hb2
   have HX2 : Aside _ := heap_below HX.out hb2 (heap_lt HX.out)
   have HB2 : Aside _ := step_below1 HB.out hb2
   obtain ⟨q0, g0⟩ := newAt_cells hN2 hlt (o := 0) (by omega)
   obtain ⟨q1, g1⟩ := newAt_cells hN2 hlt (o := 1) (by omega)
   obtain ⟨q2, g2⟩ := newAt_cells hN2 hlt (o := 2) (by omega)
   obtain ⟨q3, g3⟩ := newAt_cells hN2 hlt (o := 3) (by omega)
   obtain ⟨q4, g4⟩ := newAt_cells hN2 hlt (o := 4) (by omega)
   rw [Nat.add_zero] at g0
   have fg := fun i => newAt_thaw hN2 i
   have HN2 : Aside _ := newAt_step hN2 hlt
   have HX3 : Aside _ := (other_fiveE (W := w2) hgw (n * 5) (.int .i64 4) (.int .i64 0) (.int .i64 0) (.int .i64 0) (.int .i64 0)).trans HX2.out
   have HB3 : Aside _ := below_fiveE HB2.out HLE.out (n * 5) (.int .i64 4) (.int .i64 0) (.int .i64 0) (.int .i64 0) (.int .i64 0)
   clear hb2 hN2 HN HX HB
   go_wp2
   go_roundw
   case rel => exact ⟨n + 1, by omega, by go_num, HN2.out, HX3.out, HB3.out⟩
   case measure => simp [intOf]; omega
  · obtain rfl : n = 60 := by omega
   have hG := newAt_all HN.out
   have z0 := fun i => Joins.cell_of_block HX.out i
   have f0 := fun i => Joins.unfrozen_of_block HX.out i
   have HG : Aside _ := hG
   clear hG HN
   go_wp2
   have hX := unit_stored HX.out 1 (.slice (some ⟨g, 0, none⟩) 60 60)
   have hBB := below_two2 HB.out (Nat.le_refl _) (.int .i64 1) (.slice (some ⟨g, 0, none⟩) 60 60)
   have hGG : ((wr.setCell ⟨w.heap.size, 0, none⟩ (.int .i64 1)).setCell ⟨w.heap.size, 1, none⟩ (.slice (some ⟨g, 0, none⟩) 60 60)).heap[g]? = some (.cells ((List.replicate 60 blankE).flatMap En.cells).toArray 27) := by
    rw [Below.heap_setCell _ _ _ _ (by exact hgw.symm), Below.heap_setCell _ _ _ _ (by exact hgw.symm)]
    exact HG.out
   have c0 := fun i => Joins.cell_of_block hX i
   refine bodyPost_ret (v := .agg #[.int .i64 1, .slice (some ⟨g, 0, none⟩) 60 60]) (by simp [results, Tryz.results76, go_sem, c0]) rfl ⟨_, rfl, HLE.out, ?_, hBB⟩
   rw [hGG, List.append_nil]
   rfl
open scoped Classical in
theorem unitSame_any (v v' : Value) (u x : Un) (w : World) (h : EntSl w v u.cells) (h' : EntSl w v' x.cells) (hn : u.cells.length ≤ topN) :
  Calls Tryz.prog 13 #[.agg #[.int .i64 u.p, v], .agg #[.int .i64 x.p, v']] w fun e w' => e = .returned (.bool (decide (u = x))) ∧ Below w.heap.size w w' := by
 obtain ⟨p, es⟩ := u
 obtain ⟨p', fs⟩ := x
 have hB2 : Below w.heap.size w ((w.alloc (boxU p v)).alloc (boxU p' v')) := grew (grew (Below.refl _ _) _) _
 have HB2 : Aside _ := hB2
 have heq := equalE v v' es fs ((w.alloc (boxU p v)).alloc (boxU p' v')) (h.later hB2) (h'.later hB2) hn
 clear hB2
 obtain ⟨a, c, rfl, _⟩ := h
 obtain ⟨a', c', rfl, _⟩ := h'
 have hd : decide ((⟨p, es⟩ : Un) = ⟨p', fs⟩) = (decide (p = p') && decide (es = fs)) := by
  by_cases h1 : p = p' <;> by_cases h2 : es = fs <;> simp [h1, h2]
 rw [hd]
 show Calls _ _ #[.agg #[.int .i64 p, .slice a es.length c], .agg #[.int .i64 p', .slice a' fs.length c']] _ _
 generalize decide (es = fs) = ef at *
 change Calls _ _ #[.slice a es.length c, .slice a' fs.length c'] _ _ at heq
 clear hn
 generalize es.length = n at *
 generalize fs.length = n' at *
 by_cases hp : p = p'
 · subst hp
  go_enter Tryz.func13, Tryz.ntmps13
  go_wp2_with fail
  refine heq.mono ?_
  rintro e w1 ⟨rfl, hb1⟩
  have HB3 : Aside _ := step_below1 HB2.out hb1
  clear hb1 heq HB2
  go_wp2
  go_ret
  exact ⟨by simp, HB3.out⟩
 · have hpb : (p == p') = false := by rw [beq_eq_false_iff_ne]; exact hp
  rw [decide_eq_false hp]
  clear hp heq
  go_enter Tryz.func13, Tryz.ntmps13
  go_wp2
  go_ret
  exact ⟨rfl, HB2.out⟩
theorem unitCheck60 (a : Option Addr) (c : Nat) (p : Int) (es : List En) (w : World) (h : EntSl w (.slice a 60 c) es) (hl : es.length = 60) (hp : 1 ≤ p) (hp2 : p ≤ 20) :
  Calls Tryz.prog 163 #[.agg #[.int .i64 p, .slice a 60 c]] w fun e w' => e = .returned (.int .i64 (ckCells es)) ∧ Below w.heap.size w w' := by
 have H : Hid (EntSl w (.slice a 60 c) es) := h
 have HL : Hid (es.length = 60) := hl
 clear h hl
 go_enter Tryz.func163, Tryz.ntmps163
 go_wp2
 go_loopw [21] (fun i wr => ∃ k : Nat, k ≤ 60 ∧ i = .int .i64 k ∧ Below w.heap.size w wr ∧ Hid (ckCells es = ckCells (es.drop k))) (fun i _ => 60 - (intOf i).toNat)
 case atStart => exact ⟨0, Nat.zero_le _, rfl, grew (Below.refl _ _) _, rfl⟩
 case round =>
  obtain ⟨k, hk, rfl, hB, hst⟩ := hrel
  by_cases hlt : k < 60
  · obtain ⟨x, hx⟩ : ∃ x, es[k]? = some x := ⟨es[k]'(by have := HL.out; omega), List.getElem?_eq_getElem _⟩
   obtain ⟨b, off, rfl, hE0⟩ := SlOf.at (cs := En.cells) (k := 5) H.out (by omega)
   have hE := RowAt.later hE0 hB
   have c0 : wr.cell? ⟨b, off + k * 5, none⟩ = some (.int .i64 x.k) := hE k x hx 0 _ rfl
   have c1 : wr.cell? ⟨b, off + k * 5 + 1, none⟩ = some (.int .i64 x.j) := hE k x hx 1 _ rfl
   have c2 : wr.cell? ⟨b, off + k * 5 + 2, none⟩ = some (.int .i64 x.v) := hE k x hx 2 _ rfl
   have c3 : wr.cell? ⟨b, off + k * 5 + 3, none⟩ = some (.int .i64 x.t) := hE k x hx 3 _ rfl
   have c4 : wr.cell? ⟨b, off + k * 5 + 4, none⟩ = some (.int .i64 x.c) := hE k x hx 4 _ rfl
   have hd : Hid (ckCells es = if x.isB = true then ckCells (es.drop (k + 1)) else if x.chk ≠ 0 then x.chk else ckCells (es.drop (k + 1))) := by
    rw [Hid, hst.out, drop_en hx, ckCells]
   have hce : ∀ W, Calls Tryz.prog 115 #[ev x.k x.j x.v x.t x.c] W fun e w' => e = .returned (.int .i64 x.chk) ∧ Below W.heap.size W w' := fun W => check_any x.k x.j x.v x.t x.c W
   have heq : ∀ W, (binOp .eql 27 (ev x.k x.j x.v x.t x.c) (ev 4 0 0 0 0)).run Tryz.prog W = .ok (.bool x.isB) W := fun W => eql_entry x.k x.j x.v x.t x.c 4 0 0 0 0 W
   have HX1 : Aside ((wr.alloc (boxE x.k x.j x.v x.t x.c)).heap[wr.heap.size]? = some (boxE x.k x.j x.v x.t x.c)) := heap_new _ _
   have HB1 : Aside (Below w.heap.size w (wr.alloc (boxE x.k x.j x.v x.t x.c))) := grew hB _
   have hki : (k : Int) < 60 := by omega
   clear hE hE0 hst hx hB
   generalize x.isB = ib at *
   generalize x.chk = d at *
   go_upto_region 8 with fail
   have HS0 : Aside (BeS (wr.alloc (boxE x.k x.j x.v x.t x.c)) (wr.alloc (boxE x.k x.j x.v x.t x.c)) wr.heap.size x) := beS_of HX1.out
   generalize wr.alloc (boxE x.k x.j x.v x.t x.c) = W1 at *
   generalize wr.heap.size = bx at *
   have hS0 := HS0.out
   have hbd : Below W1.heap.size W1 W1.drew := (Below.refl _ _).drew
   clear c0 c1 c2 c3 c4 HX1
   cases ib with
   | true =>
    have HN : Hid (ckCells es = ckCells (es.drop (k + 1))) := by rw [Hid, hd.out, if_pos rfl]
    clear hd hce
    go_region_held3 (fun w' => BeS W1 w' bx x) (exact beS_step (by assumption) (by assumption)) (first | (go_at_call 111; refine (ublank_any _).mono ?_; rintro e w' ⟨rfl, hb'⟩))
    all_goals
     rename_i hS
     have HB3 : Aside (Below w.heap.size w _) := HB1.out.trans (hS.1.mono HB1.out.size)
     clear hS hS0 hbd HS0 HB1
     go_wp2
     go_roundw
     case rel => exact ⟨k + 1, by omega, by go_num, HB3.out, HN⟩
     case measure => simp [intOf]; omega
   | false =>
    rw [if_neg (by simp)] at hd
    go_region_held3 (fun w' => BeS W1 w' bx x) (exact beS_step (by assumption) (by assumption)) (first | (go_at_call 111; refine (ublank_any _).mono ?_; rintro e w' ⟨rfl, hb'⟩))
    all_goals
     rename_i hS
     obtain ⟨V, hVe, hSV⟩ := name_world (P := fun W => BeS W1 W bx x) hS
     subst hVe
     have HB3 : Aside (Below w.heap.size w V) := HB1.out.trans (hSV.1.mono HB1.out.size)
     obtain ⟨_, k0, k1, k2, k3, k4⟩ := hSV
     clear hS hS0 hbd HS0 HB1 heq
     go_wp2_with fail
     refine (hce _).mono ?_
     rintro e w4 ⟨rfl, hb4⟩
     have HB4 : Aside _ := step_below1 HB3.out hb4
     clear hce hb4 HB3 k0 k1 k2 k3 k4
     by_cases hz : d = 0
     · have HN : Hid (ckCells es = ckCells (es.drop (k + 1))) := by rw [Hid, hd.out, if_neg (by simpa using hz)]
      have hzb : (d != 0) = false := by rw [hz]; rfl
      clear hd hz
      go_wp2
      go_roundw
      case rel => exact ⟨k + 1, by omega, by go_num, HB4.out, HN⟩
      case measure => simp [intOf]; omega
     · have HR : Hid (ckCells es = d) := by rw [Hid, hd.out, if_pos hz]
      have hzb : (d != 0) = true := by rw [bne_iff_ne]; exact hz
      clear hd hz
      go_wp2
      go_ret
      exact ⟨by rw [HR.out]; rfl, HB4.out⟩
  · obtain rfl : k = 60 := by omega
   have HR : Hid (ckCells es = 0) := by
    rw [Hid, hst.out, List.drop_eq_nil_of_le (by have := HL.out; omega)]; rfl
   clear hst
   go_wp2
   go_ret
   exact ⟨by rw [HR.out]; rfl, hB⟩
theorem unitCheck_any (v : Value) (u : Un) (w : World) (h : EntSl w v u.cells) :
  Calls Tryz.prog 163 #[.agg #[.int .i64 u.p, v]] w fun e w' => e = .returned (.int .i64 u.ck) ∧ Below w.heap.size w w' := by
 obtain ⟨p, es⟩ := u
 have h' := h
 obtain ⟨a, c, rfl, _⟩ := h
 show Calls _ _ _ _ fun e w' => e = .returned (.int .i64 (Un.ck ⟨p, es⟩)) ∧ _
 have hc : p < 1 ∨ (1 ≤ p ∧ 20 < p) ∨ (1 ≤ p ∧ p ≤ 20) := by omega
 rcases hc with hp | ⟨hp, hp2⟩ | ⟨hp, hp2⟩
 · rw [Un.ck, if_pos (by simp; omega)]
  show Calls _ _ #[.agg #[.int .i64 p, .slice a es.length c]] _ _
  clear h'
  generalize es.length = n at *
  go_enter Tryz.func163, Tryz.ntmps163
  go_wp2
  go_ret
  exact ⟨rfl, grew (Below.refl _ _) _⟩
 · rw [Un.ck, if_pos (by simp; omega)]
  show Calls _ _ #[.agg #[.int .i64 p, .slice a es.length c]] _ _
  clear h'
  generalize es.length = n at *
  go_enter Tryz.func163, Tryz.ntmps163
  go_wp2
  go_ret
  exact ⟨rfl, grew (Below.refl _ _) _⟩
 · by_cases hl : es.length = 60
  · rw [Un.ck, if_neg (by simp; omega), if_neg (by simpa using hl)]
   have h2 : EntSl w (.slice a es.length c) es := h'
   show Calls _ _ #[.agg #[.int .i64 p, .slice a es.length c]] _ _
   rw [hl] at h2 ⊢
   exact unitCheck60 a c p es w h2 hl hp hp2
  · rw [Un.ck, if_neg (by simp; omega), if_pos hl]
   have hlb : ((es.length : Int) != 60) = true := by rw [bne_iff_ne]; omega
   show Calls _ _ #[.agg #[.int .i64 p, .slice a es.length c]] _ _
   clear h' hl
   generalize es.length = n at *
   go_enter Tryz.func163, Tryz.ntmps163
   go_wp2
   go_ret
   exact ⟨rfl, grew (Below.refl _ _) _⟩
section
open Go.Shelf
theorem Jb.bad_of {x : Jb} (h : ¬((0 ≤ x.i ∧ x.i ≤ 5) ∧ (1 ≤ x.e ∧ x.e ≤ 100) ∧ (0 ≤ x.n ∧ x.n ≤ 100100))) : x.bad = true := by
 cases hb : x.bad with
 | true => rfl
 | false => exact absurd (Jb.good hb) h
theorem Rg.bad_of {x : Rg} (h : ¬((0 ≤ x.j ∧ x.j ≤ 5) ∧ (0 ≤ x.t ∧ x.t ≤ 100000) ∧ (0 ≤ x.c ∧ x.c ≤ 2))) : x.bad = true := by
 cases hb : x.bad with
 | true => rfl
 | false => exact absurd (Rg.good hb) h
theorem ret_bool {a b : Bool} (h : a = b) : Ending.returned (.bool a) = .returned (.bool b) := by rw [h]
theorem jobIn (x : Jb) (w : World) :
    Calls Tryz.prog 151 #[x.val] w fun e w' => e = .returned (.bool (!x.bad)) ∧ Below w.heap.size w w' := by
  obtain ⟨b, hb⟩ : ∃ b, Hid (x.bad = b) := ⟨_, rfl⟩
  rw [hb.out]
  by_cases hl : x.n ≤ 100100
  all_goals
   go_enter Tryz.func151, Tryz.ntmps151
   go_wp2
   all_goals
     go_ret
     refine ⟨ret_bool ?_, grew (Below.refl _ _) _⟩
     rw [← hb.out]
     first
       | (rw [Jb.bad_of (by omega)]; first | rfl | (simp; omega))
       | (rw [Jb.good_of (by omega)]; first | rfl | (simp; omega))
theorem rungIn (x : Rg) (w : World) :
    Calls Tryz.prog 154 #[x.val] w fun e w' => e = .returned (.bool (!x.bad)) ∧ Below w.heap.size w w' := by
  obtain ⟨b, hb⟩ : ∃ b, Hid (x.bad = b) := ⟨_, rfl⟩
  rw [hb.out]
  by_cases hl : x.c < 3
  all_goals
   go_enter Tryz.func154, Tryz.ntmps154
   go_wp2
   all_goals
     go_ret
     refine ⟨ret_bool ?_, grew (Below.refl _ _) _⟩
     rw [← hb.out]
     first
       | (rw [Rg.bad_of (by omega)]; first | rfl | (simp; omega))
       | (rw [Rg.good_of (by omega)]; first | rfl | (simp; omega))
def idx {α : Type} (p : α → Bool) (xs : List α) : Int := match xs.findIdx? p with
 | some k => k
 | none => -1
theorem idx_some {α : Type} {p : α → Bool} {xs : List α} {k : Nat} {x : α} (hx : xs[k]? = some x) (he : p x = true) (hb : ∀ y, y ∈ xs.take k → p y = false) : idx p xs = k := by
 have hlt := (List.getElem?_eq_some_iff.1 hx).1
 have : xs.findIdx? p = some k := by
  rw [List.findIdx?_eq_some_iff_getElem]
  refine ⟨hlt, ?_, fun j hj => ?_⟩
  · have := (List.getElem?_eq_some_iff.1 hx).2
   rw [this]; exact he
  · have hm : xs[j]'(by omega) ∈ xs.take k := by
    rw [List.mem_take_iff_getElem]
    exact ⟨j, by omega, rfl⟩
   have := hb _ hm
   rw [this]; decide
 rw [idx, this]
theorem idx_none {α : Type} {p : α → Bool} {xs : List α} (hb : ∀ y, y ∈ xs → p y = false) : idx p xs = -1 := by
 have : xs.findIdx? p = none := by
  rw [List.findIdx?_eq_none_iff]
  exact hb
 rw [idx, this]
theorem idx_ways {α : Type} (p : α → Bool) (xs : List α) : (idx p xs = -1 ∧ ∀ y, y ∈ xs → p y = false) ∨ ∃ k x, idx p xs = (k : Nat) ∧ k < xs.length ∧ xs[k]? = some x ∧ p x = true ∧ ∀ y, y ∈ xs.take k → p y = false := by
 cases h : xs.findIdx? p with
 | none =>
  left
  rw [List.findIdx?_eq_none_iff] at h
  exact ⟨idx_none h, h⟩
 | some k =>
  right
  rw [List.findIdx?_eq_some_iff_getElem] at h
  obtain ⟨hlt, ht, hf⟩ := h
  have hb : ∀ y, y ∈ xs.take k → p y = false := fun y hy => by
   rw [List.mem_take_iff_getElem] at hy
   obtain ⟨j, hj, rfl⟩ := hy
   have := hf j (by omega)
   simpa using this
  exact ⟨k, xs[k], idx_some (List.getElem?_eq_getElem hlt) ht hb, hlt, List.getElem?_eq_getElem hlt, ht, hb⟩
theorem step_below' {w a b : World} (h : Below w.heap.size w a) (hb : Below a.heap.size a b) : Below w.heap.size w b := h.trans (hb.mono h.size)
theorem jobAt_idx (js : List Jb) (id : Int) : jobAt js id = idx (fun x => x.i == id) js := rfl
theorem idxFJ (p : Jb → Bool) (g : Nat) (lb : Array Value) (eg : ∀ args w, (callFunc g args).run Tryz.prog w = .ok (.enter g args) w) (v : Value) (xs : List Jb) (w : World) (hv : SlOf Jb.cells 3 w v xs) (hn : xs.length ≤ most)
  (hp : ∀ (W : World) (x : Jb), Below w.heap.size w W → Calls Tryz.prog g (#[x.val] ++ lb) W fun e w' => e = .returned (.bool (p x)) ∧ Below w.heap.size w w') :
  Calls Tryz.prog 175 #[v, .func (.func g) #[] lb] w fun e w' => e = .returned (.int .i64 (idx p xs)) ∧ Below w.heap.size w w' := by
 have H1 : Hid (SlOf Jb.cells 3 w v xs) := hv
 obtain ⟨a1, c1, rfl, _⟩ := hv
 obtain ⟨n1, hn1⟩ : ∃ n1, xs.length = n1 := ⟨_, rfl⟩
 rw [hn1] at H1 hn ⊢
 have L1 : Hid (xs.length = n1) := hn1
 replace hn : n1 ≤ 9223372036854775807 := hn
 clear hn1
 have HP : Aside _ := hp
 clear hp
 go_enter Tryz.func175, Tryz.ntmps175
 go_wp2
 go_loopg [5, 8] n1 (fun gg _ i wr => ∃ k : Nat, k ≤ n1 ∧ n1 - k ≤ gg ∧ i = .int .i64 k ∧ Aside (Below w.heap.size w wr) ∧ Hid (∀ y, y ∈ xs.take k → p y = false))
 case atStart => exact ⟨0, Nat.zero_le _, by omega, rfl, Below.refl _ w, fun y hy => by simp at hy⟩
 case round =>
  obtain ⟨k, hk, hgg, rfl, hB, hst⟩ := hrel
  by_cases hlt : k < n1
  · obtain ⟨x, hx⟩ : ∃ x, xs[k]? = some x := ⟨xs[k]'(by have := L1.out; omega), List.getElem?_eq_getElem _⟩
   obtain ⟨b, off, rfl, hE0⟩ := H1.out.at (by omega)
   have hE := hE0.later hB.out
   have c0 : wr.cell? ⟨b, off + k * 3, none⟩ = some (.int .i64 x.i) := hE k x hx 0 _ rfl
   have c1 : wr.cell? ⟨b, off + k * 3 + 1, none⟩ = some (.int .i64 x.e) := hE k x hx 1 _ rfl
   have c2 : wr.cell? ⟨b, off + k * 3 + 2, none⟩ = some (.int .i64 x.n) := hE k x hx 2 _ rfl
   have hcall := HP.out wr x hB.out
   cases hq : p x with
   | true =>
    have HF : Hid (idx p xs = k) := idx_some hx hq hst.out
    rw [hq] at hcall
    clear hE hE0 hx hst H1 hq HP
    go_wp2_with (go_at_fn g; refine hcall.mono ?_; rintro e w' ⟨rfl, hb'⟩)
    go_ret
    exact ⟨by rw [HF.out]; rfl, hb'⟩
   | false =>
    have HN : Hid (∀ y, y ∈ xs.take (k + 1) → p y = false) := fun y hy => by
     rw [List.take_add_one, hx] at hy
     rcases List.mem_append.1 hy with hy | hy
     · exact hst.out y hy
     · simp at hy; rw [hy]; exact hq
    rw [hq] at hcall
    clear hE hE0 hx hst H1 hq HP
    go_wp2_with (go_at_fn g; refine hcall.mono ?_; rintro e w' ⟨rfl, hb'⟩)
    go_roundg (n1 - (k + 1))
    case measure => omega
    case rel => exact ⟨k + 1, by omega, by omega, by go_num, hb', HN⟩
  · have hkn : k = n1 := by omega
   subst hkn
   have HF : Hid (idx p xs = -1) := by
    have h := hst.out
    rw [List.take_of_length_le (by have := L1.out; omega)] at h
    exact idx_none h
   clear hst H1 HP
   go_wp2
   go_ret
   exact ⟨by rw [HF.out]; rfl, hB.out⟩
theorem idxFR (p : Rg → Bool) (g : Nat) (lb : Array Value) (eg : ∀ args w, (callFunc g args).run Tryz.prog w = .ok (.enter g args) w) (v : Value) (xs : List Rg) (w : World) (hv : SlOf Rg.cells 3 w v xs) (hn : xs.length ≤ most)
  (hp : ∀ (W : World) (x : Rg), Below w.heap.size w W → Calls Tryz.prog g (#[x.val] ++ lb) W fun e w' => e = .returned (.bool (p x)) ∧ Below w.heap.size w w') :
  Calls Tryz.prog 182 #[v, .func (.func g) #[] lb] w fun e w' => e = .returned (.int .i64 (idx p xs)) ∧ Below w.heap.size w w' := by
 have H1 : Hid (SlOf Rg.cells 3 w v xs) := hv
 obtain ⟨a1, c1, rfl, _⟩ := hv
 obtain ⟨n1, hn1⟩ : ∃ n1, xs.length = n1 := ⟨_, rfl⟩
 rw [hn1] at H1 hn ⊢
 have L1 : Hid (xs.length = n1) := hn1
 replace hn : n1 ≤ 9223372036854775807 := hn
 clear hn1
 have HP : Aside _ := hp
 clear hp
 go_enter Tryz.func182, Tryz.ntmps182
 go_wp2
 go_loopg [5, 8] n1 (fun gg _ i wr => ∃ k : Nat, k ≤ n1 ∧ n1 - k ≤ gg ∧ i = .int .i64 k ∧ Aside (Below w.heap.size w wr) ∧ Hid (∀ y, y ∈ xs.take k → p y = false))
 case atStart => exact ⟨0, Nat.zero_le _, by omega, rfl, Below.refl _ w, fun y hy => by simp at hy⟩
 case round =>
  obtain ⟨k, hk, hgg, rfl, hB, hst⟩ := hrel
  by_cases hlt : k < n1
  · obtain ⟨x, hx⟩ : ∃ x, xs[k]? = some x := ⟨xs[k]'(by have := L1.out; omega), List.getElem?_eq_getElem _⟩
   obtain ⟨b, off, rfl, hE0⟩ := H1.out.at (by omega)
   have hE := hE0.later hB.out
   have c0 : wr.cell? ⟨b, off + k * 3, none⟩ = some (.int .i64 x.j) := hE k x hx 0 _ rfl
   have c1 : wr.cell? ⟨b, off + k * 3 + 1, none⟩ = some (.int .i64 x.t) := hE k x hx 1 _ rfl
   have c2 : wr.cell? ⟨b, off + k * 3 + 2, none⟩ = some (.int .i64 x.c) := hE k x hx 2 _ rfl
   have hcall := HP.out wr x hB.out
   cases hq : p x with
   | true =>
    have HF : Hid (idx p xs = k) := idx_some hx hq hst.out
    rw [hq] at hcall
    clear hE hE0 hx hst H1 hq HP
    go_wp2_with (go_at_fn g; refine hcall.mono ?_; rintro e w' ⟨rfl, hb'⟩)
    go_ret
    exact ⟨by rw [HF.out]; rfl, hb'⟩
   | false =>
    have HN : Hid (∀ y, y ∈ xs.take (k + 1) → p y = false) := fun y hy => by
     rw [List.take_add_one, hx] at hy
     rcases List.mem_append.1 hy with hy | hy
     · exact hst.out y hy
     · simp at hy; rw [hy]; exact hq
    rw [hq] at hcall
    clear hE hE0 hx hst H1 hq HP
    go_wp2_with (go_at_fn g; refine hcall.mono ?_; rintro e w' ⟨rfl, hb'⟩)
    go_roundg (n1 - (k + 1))
    case measure => omega
    case rel => exact ⟨k + 1, by omega, by omega, by go_num, hb', HN⟩
  · have hkn : k = n1 := by omega
   subst hkn
   have HF : Hid (idx p xs = -1) := by
    have h := hst.out
    rw [List.take_of_length_le (by have := L1.out; omega)] at h
    exact idx_none h
   clear hst H1 HP
   go_wp2
   go_ret
   exact ⟨by rw [HF.out]; rfl, hB.out⟩
theorem find_pred (id : Int) (B : Nat) (w : World) (hB : B < w.heap.size) (hc : w.cell? ⟨B, 0, none⟩ = some (.int .i64 id)) (W : World) (x : Jb) (hb : Below w.heap.size w W) :
  Calls Tryz.prog 284 (#[x.val] ++ #[.pointer (some ⟨B, 0, none⟩)]) W fun e w' => e = .returned (.bool (x.i == id)) ∧ Below w.heap.size w w' := by
 have hc' : W.cell? ⟨B, 0, none⟩ = some (.int .i64 id) := (hb.cell (p := ⟨B, 0, none⟩) hB).trans hc
 have hBW : B < W.heap.size := Nat.lt_of_lt_of_le hB hb.size
 have hne : B ≠ W.heap.size := by omega
 show Calls Tryz.prog 284 #[x.val, .pointer (some ⟨B, 0, none⟩)] W _
 go_enter Tryz.func284, Tryz.ntmps284
 go_wp2
 all_goals (go_ret; exact ⟨by simp_all, hb.alloc hb.size _⟩)
theorem find_any (v1 v2 : Value) (js : List Jb) (id : Int) (w : World) (h1 : JobSl w v1 js) (hn1 : js.length ≤ most) :
  Calls Tryz.prog 263 #[.agg #[v1, v2], .int .i64 id] w fun e w' => e = .returned (.int .i64 (jobAt js id)) ∧ Below w.heap.size w w' := by
 rw [jobAt_idx]
 have eg : ∀ args w, (callFunc 284 args).run Tryz.prog w = .ok (.enter 284 args) w := enters_of Tryz.func284 (by kernel_rfl) rfl
 have hB2 : Below w.heap.size w ((w.alloc (boxB v1 v2)).alloc (.cells #[.int .i64 id] 3)) := grew (grew (Below.refl _ _) _) _
 have hcell : ((w.alloc (boxB v1 v2)).alloc (.cells #[.int .i64 id] 3)).cell? ⟨w.heap.size + 1, 0, none⟩ = some (.int .i64 id) := by
  have := Joins.cell_of_block (heap_new (w.alloc (boxB v1 v2)) (.cells #[.int .i64 id] 3)) 0
  rwa [World.size_alloc] at this
 have hcon := idxFJ (fun x => x.i == id) 284 #[.pointer (some ⟨w.heap.size + 1, 0, none⟩)] eg v1 js _ (h1.later hB2) hn1
  (find_pred id (w.heap.size + 1) _ (by simp) hcell)
 have HB : Aside _ := hB2
 clear hB2 hcell
 obtain ⟨a1, c1, rfl, _⟩ := h1
 generalize idx (fun x => x.i == id) js = r at hcon ⊢
 generalize js.length = n1 at *
 go_enter Tryz.func263, Tryz.ntmps263
 go_wp2_with (go_at_call 175; refine hcon.mono ?_; rintro e w' ⟨rfl, hb'⟩)
 go_ret
 exact ⟨rfl, HB.out.trans (hb'.mono HB.out.size)⟩
end
def WHas (X w : World) (B g1 g2 : Nat) (W : Wd) : Prop := ∃ xs cs, WIn X w B g1 g2 xs W.tip cs W.t ∧ nodesOf xs = W.ns ∧ clientsOf cs = W.cs
theorem WHas.later {X w w' : World} {B g1 g2 : Nat} {W : Wd} (h : WHas X w B g1 g2 W) (hb : Below w.heap.size w w') : WHas X w' B g1 g2 W := by
 obtain ⟨xs, cs, h1, h2, h3⟩ := h
 exact ⟨xs, cs, h1.later hb, h2, h3⟩
abbrev AnsW (f : FuncId) (args : Array Value) (X w : World) (B g1 g2 : Nat) (r : Wd × Int) : Prop :=
 Calls Tryz.prog f args w fun e w' => e = .returned (.int .i64 r.2) ∧ WHas X w' B g1 g2 r.1
theorem w_isClient {X w : World} {B g1 g2 : Nat} {NC CC : List Value} {tip t : Int} {L : List Nb} {M : List Cb} (h : WSt X w B g1 g2 NC tip CC t L M) (who : Int) :
  Calls Tryz.prog 104 #[.pointer (some ⟨B, 0, none⟩), .int .i64 who] w fun e w' => e = .returned (.bool (decide (0 ≤ who ∧ who ≤ 2))) ∧ w' = w := by
 have z := fun i => Joins.cell_of_block h.box i
 clear h
 have hc : ¬ 0 ≤ who ∨ (0 ≤ who ∧ ¬ who < 3) ∨ (0 ≤ who ∧ who < 3) := by omega
 rcases hc with h | ⟨h, h'⟩ | ⟨h, h'⟩
 · rw [show decide (0 ≤ who ∧ who ≤ 2) = false from decide_eq_false (by omega)]
  go_enter Tryz.func104, Tryz.ntmps104
  go_wp2
  go_ret
  exact ⟨rfl, rfl⟩
 · rw [show decide (0 ≤ who ∧ who ≤ 2) = false from decide_eq_false (by omega)]
  go_enter Tryz.func104, Tryz.ntmps104
  go_wp2
  go_ret
  exact ⟨ret_bool (by simp <;> omega), rfl⟩
 · rw [show decide (0 ≤ who ∧ who ≤ 2) = true from decide_eq_true (by omega)]
  go_enter Tryz.func104, Tryz.ntmps104
  go_wp2
  go_ret
  exact ⟨ret_bool (by simp <;> omega), rfl⟩
theorem w_isNone (r : Rc) (w : World) :
  Calls Tryz.prog 134 #[r.val] w fun e w' => e = .returned (.bool (r.same Rc.zero)) ∧ Below w.heap.size w w' := by
 have hq : ∀ W, (binOp .eql 94 r.val (.agg #[.int .i64 0, .int .i64 0, .int .i64 0, .int .i64 0, .int .i64 0, .int .i64 0, .int .i64 0, .int .i64 0])).run Tryz.prog W = .ok (.bool (r.same Rc.zero)) W := fun W => eqlR r Rc.zero W
 have HB : Aside (Below w.heap.size w (w.alloc (boxRc r))) := grew (Below.refl _ _) _
 have z : ∀ i, (w.alloc (boxRc r)).cell? ⟨w.heap.size, i, none⟩ = #[Value.int .i64 r.k, .int .i64 r.a, .int .i64 r.p, .int .i64 r.e.k, .int .i64 r.e.j, .int .i64 r.e.v, .int .i64 r.e.t, .int .i64 r.e.c][i]? := fun i => Joins.cell_of_block (heap_new _ _) i
 obtain ⟨k, a, p, ⟨e1, e2, e3, e4, e5⟩⟩ := r
 simp only at hq z
 cases hb : (Rc.same ⟨k, a, p, ⟨e1, e2, e3, e4, e5⟩⟩ Rc.zero) with
 | true =>
  rw [hb] at hq
  clear hb
  go_enter Tryz.func134, Tryz.ntmps134
  go_upto_region 1 with fail
  generalize w.alloc _ = W0 at *
  go_wp2
  go_ret
  exact ⟨rfl, HB.out⟩
 | false =>
  rw [hb] at hq
  clear hb
  go_enter Tryz.func134, Tryz.ntmps134
  go_upto_region 1 with fail
  generalize w.alloc _ = W0 at *
  go_wp2
  go_ret
  exact ⟨rfl, HB.out⟩
theorem w_tip {X w : World} {B g1 g2 : Nat} {W : Wd} (h : WHas X w B g1 g2 W) (q : Int) :
  AnsW 71 #[.pointer (some ⟨B, 0, none⟩), .int .i64 q] X w B g1 g2 (tipOf W q) := by
 have H : Aside (WHas X w B g1 g2 W) := h
 obtain ⟨xs, cs, hi, e1, e2⟩ := h
 have z := fun i => Joins.cell_of_block hi.st.box i
 have fz := fun i => Joins.unfrozen_of_block hi.st.box i
 have HI : Aside (WIn X w B g1 g2 xs W.tip cs W.t) := hi
 have HE : Aside (nodesOf xs = W.ns ∧ clientsOf cs = W.cs) := ⟨e1, e2⟩
 clear hi e1 e2
 have hc : ¬ 0 ≤ q ∨ (0 ≤ q ∧ ¬ q ≤ 60) ∨ (0 ≤ q ∧ q ≤ 60) := by omega
 rcases hc with h | ⟨h, h'⟩ | ⟨h, h'⟩
 · rw [show tipOf W q = (W, 3) by rw [tipOf, if_pos (by omega)]]
  have h2 : q < 0 := by omega
  go_enter Tryz.func71, Tryz.ntmps71
  go_wp2
  go_ret
  exact ⟨rfl, H.out⟩
 · rw [show tipOf W q = (W, 3) by rw [tipOf, if_pos (by omega)]]
  have h2 : 60 < q := by omega
  go_enter Tryz.func71, Tryz.ntmps71
  go_wp2
  go_ret
  exact ⟨rfl, H.out⟩
 · rw [show tipOf W q = (⟨W.ns, q, W.cs, W.t⟩, 0) by rw [tipOf, if_neg (by omega)]]
  go_enter Tryz.func71, Tryz.ntmps71
  go_wp2
  go_ret
  exact ⟨rfl, xs, cs, ⟨HI.out.st.setTip q, HI.out.three, HI.out.three'⟩, HE.out.1, HE.out.2⟩
theorem w_tick {X w : World} {B g1 g2 : Nat} {W : Wd} (h : WHas X w B g1 g2 W) (q : Int) (ht : 0 ≤ W.t ∧ W.t ≤ 100000) :
  AnsW 72 #[.pointer (some ⟨B, 0, none⟩), .int .i64 q] X w B g1 g2 (tickOf W q) := by
 have H : Aside (WHas X w B g1 g2 W) := h
 obtain ⟨xs, cs, hi, e1, e2⟩ := h
 have z := fun i => Joins.cell_of_block hi.st.box i
 have fz := fun i => Joins.unfrozen_of_block hi.st.box i
 have HI : Aside (WIn X w B g1 g2 xs W.tip cs W.t) := hi
 have HE : Aside (nodesOf xs = W.ns ∧ clientsOf cs = W.cs) := ⟨e1, e2⟩
 have hw1 : IntKind.i64.wrap (100000 - W.t) = 100000 - W.t := by rw [IntKind.wrap_i64]; omega
 clear hi e1 e2
 have hc : ¬ 1 ≤ q ∨ (1 ≤ q ∧ ¬ q ≤ 100000 - W.t) ∨ (1 ≤ q ∧ q ≤ 100000 - W.t) := by omega
 rcases hc with h | ⟨h, h'⟩ | ⟨h, h'⟩
 · rw [show tickOf W q = (W, 3) by rw [tickOf, if_pos (by omega)]]
  have h2 : q < 1 := by omega
  clear hw1 ht
  go_enter Tryz.func72, Tryz.ntmps72
  go_wp2
  go_ret
  exact ⟨rfl, H.out⟩
 · rw [show tickOf W q = (W, 3) by rw [tickOf, if_pos (by omega)]]
  have h2 : 100000 - W.t < q := by omega
  go_enter Tryz.func72, Tryz.ntmps72
  go_wp2
  go_ret
  exact ⟨rfl, H.out⟩
 · rw [show tickOf W q = (⟨W.ns, W.tip, W.cs, W.t + q⟩, 0) by rw [tickOf, if_neg (by omega)]]
  have hw2 : IntKind.i64.wrap (W.t + q) = W.t + q := by rw [IntKind.wrap_i64]; omega
  go_enter Tryz.func72, Tryz.ntmps72
  go_wp2
  go_ret
  exact ⟨rfl, xs, cs, ⟨HI.out.st.setTime (W.t + q), HI.out.three, HI.out.three'⟩, HE.out.1, HE.out.2⟩
theorem good_snoc {rs : List Rc} {r : Rc} (h : ∀ c, c ∈ rs → c.chk = 0) (hr : r.chk = 0) : ∀ c, c ∈ rs ++ [r] → c.chk = 0 := fun c hc => by
 rcases List.mem_append.1 hc with hc | hc
 · exact h c hc
 · obtain rfl : c = r := by simpa using hc
  exact hr
theorem dl_front (most : Nat) : ∀ (f : Nat) (l : List UInt8) (acc : List Rc) (n : Nat),
  ∃ ts, (dl most f l acc n).1 = acc ++ ts ∧ (dl most f l acc n).2.1 = n + (rtxt ts).length ∧ l.take (rtxt ts).length = rtxt ts ∧ ∀ c, c ∈ ts → c.chk = 0
 | 0, l, acc, n => ⟨[], by simp [dl], by simp [dl, rtxt], by simp [rtxt], fun c hc => by cases hc⟩
 | f + 1, l, acc, n => by
  by_cases hl : l = []
  · subst hl
   exact ⟨[], by rw [dl_nil]; simp, by rw [dl_nil]; simp [rtxt], by simp [rtxt], fun c hc => by cases hc⟩
  · rcases hc : Lib.cut l [10] with ⟨a, b, g⟩
   cases g with
   | false => exact ⟨[], by rw [dl_torn _ _ _ _ hl hc]; simp, by rw [dl_torn _ _ _ _ hl hc]; simp [rtxt], by simp [rtxt], fun c hc => by cases hc⟩
   | true =>
    by_cases hp : (rcRead a).2 = 0
    · by_cases hm : most ≤ acc.length
     · exact ⟨[], by rw [dl_many _ _ _ _ hl hc hp hm]; simp, by rw [dl_many _ _ _ _ hl hc hp hm]; simp [rtxt], by simp [rtxt], fun c hc => by cases hc⟩
     · obtain ⟨ts, h1, h2, h3, h4⟩ := dl_front most f b (acc ++ [(rcRead a).1]) (n + a.length + 1)
      obtain ⟨k1, k2⟩ := txt_read hp
      refine ⟨(rcRead a).1 :: ts, ?_, ?_, ?_, ?_⟩
      · rw [dl_more _ _ _ _ hl hc hp hm, h1, List.append_assoc]; rfl
      · rw [dl_more _ _ _ _ hl hc hp hm, h2, rtxt_cons, List.length_append, List.length_cons, k2]; omega
      · have e : l = (a ++ [10]) ++ b := by rw [nl_back l a b hc]; simp
       have e2 : rtxt ((rcRead a).1 :: ts) = (a ++ [10]) ++ rtxt ts := by rw [rtxt_cons, k2]; simp
       rw [e2, e, List.length_append, List.take_append, List.take_of_length_le (by omega), Nat.add_sub_cancel_left, h3]
      · intro c hcm
       rcases List.mem_cons.1 hcm with rfl | hcm
       · exact k1
       · exact h4 c hcm
    · exact ⟨[], by rw [dl_bad _ _ _ _ hl hc hp]; simp, by rw [dl_bad _ _ _ _ hl hc hp]; simp [rtxt], by simp [rtxt], fun c hc => by cases hc⟩
theorem lines_front (s : List UInt8) (most : Nat) : (linesOf s most).2.1 = (rtxt (linesOf s most).1).length ∧ s.take (linesOf s most).2.1 = rtxt (linesOf s most).1 ∧ ∀ c, c ∈ (linesOf s most).1 → c.chk = 0 := by
 obtain ⟨ts, h1, h2, h3, h4⟩ := dl_front most (s.length + 1) s [] 0
 have e1 : (linesOf s most).1 = ts := h1.trans (List.nil_append ts)
 have e2 : (linesOf s most).2.1 = (rtxt ts).length := h2.trans (Nat.zero_add _)
 rw [e1, e2]
 exact ⟨rfl, h3, h4⟩
theorem disk_rows {s : List UInt8} (h : (linesOf s 160).2.2 = 0) : s = rtxt (linesOf s 160).1 := by
 have h2 := (lines_front s 160).2.1
 rw [lines_zero h, List.take_length] at h2
 exact h2
theorem lines_none (most : Nat) : linesOf [] most = ([], 0, 0) := dl_nil most 0 [] 0
theorem ufold_append : ∀ (a b : List Rc) (u : Un), (ufold u a).2 = 0 → ufold u (a ++ b) = ufold (ufold u a).1 b
 | [], _, _, _ => rfl
 | x :: a, b, u, h => by
  rw [ufold] at h
  rw [List.cons_append, ufold, ufold]
  by_cases hx : (unext u x).2 = 0
  · rw [if_neg (by simpa using hx)] at h ⊢
   rw [if_neg (by simpa using hx)]
   exact ufold_append a b _ h
  · rw [if_pos hx] at h; exact absurd h hx
theorem unext_within {u : Un} {r : Rc} (h : (unext u r).2 = 0) : Within u.cells (unext u r).1.cells := fun k c hc => by
 rcases unext_stands h k hc with h1 | ⟨rfl, _⟩
 · exact Or.inr h1
 · exact Or.inl blank_isB
theorem ufold_right : ∀ (l : List Rc) (u : Un), u.ck = 0 → (ufold u l).2 = 0 → (ufold u l).1.ck = 0 ∧ Within u.cells (ufold u l).1.cells
 | [], u, hu, _ => ⟨hu, within_refl _⟩
 | x :: l, u, hu, h => by
  rw [ufold] at h ⊢
  by_cases hx : (unext u x).2 = 0
  · rw [if_neg (by simpa using hx)] at h ⊢
   obtain ⟨h1, h2⟩ := ufold_right l _ (unext_ck hx) h
   exact ⟨h1, within_trans (unext_within hx) h2⟩
  · rw [if_pos hx] at h; exact absurd h hx
theorem uof_few {l : List Rc} (h : l.length ≤ 160) : unitOf l = ufold unew l := by rw [unitOf, if_neg (by omega)]
theorem unitOf_right {l : List Rc} {u : Un} (hl : l.length ≤ 160) (h : unitOf l = (u, 0)) : u.ck = 0 := by
 rw [uof_few hl] at h
 have := (ufold_right l unew unew_ck (by rw [h])).1
 rwa [h] at this
theorem unitOf_more {a b : List Rc} {u v : Un} (hl : (a ++ b).length ≤ 160) (h : unitOf a = (u, 0)) (h' : unitOf (a ++ b) = (v, 0)) : Within u.cells v.cells := by
 rw [List.length_append] at hl
 have hu := unitOf_right (by omega) h
 rw [uof_few (by omega)] at h
 rw [uof_few (by rw [List.length_append]; omega), ufold_append a b unew (by rw [h]), h] at h'
 have := (ufold_right b u hu (by rw [h'])).2
 rwa [h'] at this
theorem unitOf_snoc {l : List Rc} {u : Un} {r : Rc} (hl : l.length + 1 ≤ 160) (h : unitOf l = (u, 0)) (hr : (unext u r).2 = 0) : unitOf (l ++ [r]) = ((unext u r).1, 0) := by
 rw [uof_few (by omega)] at h
 rw [uof_few (by simpa using hl), ufold_snoc l unew r (by rw [h]) (by rw [h]; exact hr), h]
structure RN (n : Nd) (rs ts : List Rc) : Prop where
 txt : n.s = rtxt rs
 each : ∀ c, c ∈ rs → c.chk = 0
 few : rs.length ≤ 160
 unit : unitOf rs = (n.u, 0)
 fits : n.s.length + n.w.length ≤ 30000
 up : n.up = true → n.w = []
 rest : (linesOf n.w (160 - rs.length)).1 = ts
 whole : unitOf (rs ++ ts) = (n.whole, 0)
theorem rows_fit {rs : List Rc} (he : ∀ c, c ∈ rs → c.chk = 0) (hl : rs.length ≤ 160) {t : List UInt8} (hf : (rtxt rs).length + t.length ≤ 30000) : ckDisk (rtxt rs) t = 0 :=
 ckDisk_zero.2 ⟨hf, by rw [lines_all he hl]⟩
theorem recovered_rows {rs : List Rc} (he : ∀ c, c ∈ rs → c.chk = 0) (hl : rs.length ≤ 160) (t : List UInt8) :
  recovered (rtxt rs) t = ((rtxt (rs ++ (linesOf t (160 - rs.length)).1), []), rs ++ (linesOf t (160 - rs.length)).1) := by
 rw [recovered, lines_all he hl, (lines_front t (160 - rs.length)).2.1, rtxt_append]
theorem recov_rows {rs : List Rc} (he : ∀ c, c ∈ rs → c.chk = 0) (hl : rs.length ≤ 160) {t : List UInt8} (hf : (rtxt rs).length + t.length ≤ 30000) :
  recov (rtxt rs) t = unitOf (rs ++ (linesOf t (160 - rs.length)).1) := by
 rw [recov, rows_fit he hl hf, if_neg (by simp), recovered_rows he hl]
theorem rn_of {n : Nd} (h : n.ck = 0) : ∃ rs ts, RN n rs ts := by
 unfold Nd.ck at h
 by_cases h1 : ckDisk n.s n.w = 0
 · rw [if_neg (by simpa using h1)] at h
  by_cases h2 : n.up = true ∧ 0 < n.w.length
  · rw [if_pos h2] at h; cases h
  · rw [if_neg h2] at h
   by_cases h3 : (recov n.s []).2 = 0
   · rw [if_neg (by simpa using h3)] at h
    cases h4 : n.u.same (recov n.s []).1 with
    | false => rw [h4, if_pos rfl] at h; cases h
    | true =>
     rw [h4, if_neg (by simp)] at h
     obtain ⟨hf, hz⟩ := ckDisk_zero.1 h1
     have hs := disk_rows hz
     have he := (lines_front n.s 160).2.2
     have hl := (lines_len n.s 160).1
     generalize (linesOf n.s 160).1 = rs at *
     have e1 : recov n.s [] = unitOf rs := by
      rw [hs, recov_rows he hl (by rw [← hs]; simp; omega), lines_none, List.append_nil]
     have e2 : recov n.s n.w = unitOf (rs ++ (linesOf n.w (160 - rs.length)).1) := by
      rw [hs, recov_rows he hl (by rw [← hs]; exact hf)]
     refine ⟨rs, _, hs, he, hl, ?_, hf, fun hu => ?_, rfl, ?_⟩
     · rw [← e1, Un.same_iff.1 h4, ← h3]
     · have : ¬ 0 < n.w.length := fun hh => h2 ⟨hu, hh⟩
      exact List.eq_nil_of_length_eq_zero (by omega)
     · rw [← e2, ← h]; rfl
   · rw [if_pos h3] at h; exact absurd h h3
 · rw [if_pos h1] at h; exact absurd h h1
theorem RN.ck {n : Nd} {rs ts : List Rc} (h : RN n rs ts) : n.ck = 0 := by
 have hf : (rtxt rs).length + n.w.length ≤ 30000 := by rw [← h.txt]; exact h.fits
 have e1 : recov n.s [] = (n.u, 0) := by rw [h.txt, recov_rows h.each h.few (by simp; omega), lines_none, List.append_nil, h.unit]
 have e2 : (recov n.s n.w).2 = 0 := by rw [h.txt, recov_rows h.each h.few hf, h.rest, h.whole]
 have hd : ckDisk n.s n.w = 0 := by rw [h.txt]; exact rows_fit h.each h.few hf
 have hsame : n.u.same n.u = true := Un.same_iff.2 rfl
 rw [Nd.ck, hd, if_neg (by simp), if_neg (fun hh => by rw [h.up hh.1] at hh; simp at hh), e1, if_neg (by simp), hsame, if_neg (by simp), e2]
theorem rn_mk {n : Nd} {rs ts : List Rc} {wu : Un} (txt : n.s = rtxt rs) (each : ∀ c, c ∈ rs → c.chk = 0) (few : rs.length ≤ 160) (unit : unitOf rs = (n.u, 0)) (fits : n.s.length + n.w.length ≤ 30000)
  (up : n.up = true → n.w = []) (rest : (linesOf n.w (160 - rs.length)).1 = ts) (whole : unitOf (rs ++ ts) = (wu, 0)) : RN n rs ts ∧ n.whole = wu := by
 have hw : n.whole = wu := by rw [Nd.whole, txt, recov_rows each few (by rw [← txt]; exact fits), rest, whole]
 exact ⟨⟨txt, each, few, unit, fits, up, rest, by rw [hw]; exact whole⟩, hw⟩
theorem RN.tsl {n : Nd} {rs ts : List Rc} (h : RN n rs ts) : (rs ++ ts).length ≤ 160 := by
 have h1 := (lines_len n.w (160 - rs.length)).1
 rw [h.rest] at h1
 have := h.few
 rw [List.length_append]
 omega
theorem RN.tse {n : Nd} {rs ts : List Rc} (h : RN n rs ts) : ∀ c, c ∈ rs ++ ts → c.chk = 0 := fun c hc => by
 rcases List.mem_append.1 hc with hc | hc
 · exact h.each c hc
 · have h1 := (lines_front n.w (160 - rs.length)).2.2
  rw [h.rest] at h1
  exact h1 c hc
theorem RN.uck {n : Nd} {rs ts : List Rc} (h : RN n rs ts) : n.u.ck = 0 := unitOf_right h.few h.unit
theorem RN.grows {n : Nd} {rs ts : List Rc} (h : RN n rs ts) : Within n.u.cells n.whole.cells := unitOf_more h.tsl h.unit h.whole
theorem RN.upw {n : Nd} {rs ts : List Rc} (h : RN n rs ts) (hu : n.up = true) : ts = [] ∧ n.whole = n.u := by
 have hr := h.rest
 rw [h.up hu, lines_none] at hr
 have hw := h.whole
 rw [← hr, List.append_nil, h.unit] at hw
 exact ⟨hr.symm, (congrArg Prod.fst hw).symm⟩
theorem rows_snoc {rs : List Rc} {r : Rc} (he : ∀ c, c ∈ rs → c.chk = 0) (hr : r.chk = 0) (hl : rs.length ≤ 160) (hz : (linesOf (rtxt (rs ++ [r])) 160).2.2 = 0) : rs.length + 1 ≤ 160 := by
 rcases Nat.lt_or_ge rs.length 160 with h | h
 · omega
 · exfalso
  have e := dl_lines 160 rs ((rtxt (rs ++ [r])).length + 1) ((rtxt [r]).length + 1) [] 0 (rtxt [r]) he (by simpa using hl) (by rw [rtxt_append]; omega) (by omega)
  have e2 : linesOf (rtxt (rs ++ [r])) 160 = dl 160 ((rtxt [r]).length + 1) (rtxt [r]) rs (rtxt rs).length := by
   rw [linesOf, rtxt_append]
   rw [rtxt_append] at e
   rw [e]; simp
  have e3 : rtxt [r] = r.txt ++ 10 :: [] := by simp [rtxt]
  rw [e2, e3, dl_many 160 _ rs _ (by simp) (cut_nl r.txt [] (rc_no_nl hr)) (by rw [read_txt hr]) h] at hz
  cases hz
theorem line_snoc (rs : List Rc) (r : Rc) : rtxt rs ++ (r.txt ++ [10]) = rtxt (rs ++ [r]) := by simp [rtxt]
theorem put_waysW {n : Nd} {rs ts : List Rc} (h : RN n rs ts) (r : Rc) : (r.chk ≠ 0 ∧ (dput n.s n.w r).2 = r.chk) ∨ (r.chk = 0 ∧ 30000 < n.s.length + n.w.length + r.txt.length + 1 ∧ (dput n.s n.w r).2 = 2) ∨
  (r.chk = 0 ∧ n.s.length + n.w.length + r.txt.length + 1 ≤ 30000 ∧ dput n.s n.w r = ((n.s, n.w ++ (r.txt ++ [10])), 0)) := by
 have hd : ckDisk n.s n.w = 0 := by rw [h.txt]; exact rows_fit h.each h.few (by rw [← h.txt]; exact h.fits)
 rw [dput, hd, if_neg (by simp), putOn]
 by_cases hr : r.chk = 0
 · rw [if_neg (by simpa using hr)]
  by_cases hl : 30000 < n.s.length + n.w.length + r.txt.length + 1
  · rw [if_pos hl]; exact Or.inr (Or.inl ⟨hr, hl, rfl⟩)
  · rw [if_neg hl]; exact Or.inr (Or.inr ⟨hr, by omega, rfl⟩)
 · rw [if_pos hr]; exact Or.inl ⟨hr, rfl⟩
theorem RN.written {n : Nd} {rs ts : List Rc} (h : RN n rs ts) {r : Rc} (hr : r.chk = 0) (hu : (unext n.u r).2 = 0) (hl : rs.length + 1 ≤ 160) (hf : n.s.length + r.txt.length + 1 ≤ 30000) (up : Bool) :
  RN ⟨(unext n.u r).1, n.s ++ (r.txt ++ [10]), [], up⟩ (rs ++ [r]) [] ∧ (⟨(unext n.u r).1, n.s ++ (r.txt ++ [10]), [], up⟩ : Nd).whole = (unext n.u r).1 :=
 rn_mk (by show n.s ++ _ = _; rw [h.txt, line_snoc]) (good_snoc h.each hr) (by simpa using hl) (unitOf_snoc hl h.unit hu) (by simp; omega) (fun _ => rfl) (by rw [lines_none]) (by rw [List.append_nil]; exact unitOf_snoc hl h.unit hu)
theorem write_may {n : Nd} {rs ts : List Rc} (h : RN n rs ts) (hup : n.up = true) {r : Rc} (hu : (unext n.u r).2 = 0) (hl : rs.length + 1 ≤ 160) (hf : n.s.length + r.txt.length + 1 ≤ 30000) :
  n.write r = (⟨(unext n.u r).1, n.s ++ (r.txt ++ [10]), [], true⟩, 0) := by
 have hr : r.chk = 0 := (unext_ok hu).2.1
 have hw := h.up hup
 have hp : dput n.s n.w r = ((n.s, r.txt ++ [10]), 0) := by
  rcases put_waysW h r with ⟨g, _⟩ | ⟨_, g, _⟩ | ⟨_, _, g⟩
  · exact absurd hr g
  · rw [hw, List.length_nil] at g; omega
  · rw [g, hw, List.nil_append]
 have e : n.s ++ (r.txt ++ [10]) = rtxt (rs ++ [r]) := by rw [h.txt, line_snoc]
 have hfl : (rtxt (rs ++ [r])).length ≤ 30000 := by rw [← e]; simp; omega
 have hs : dsync n.s (r.txt ++ [10]) = ((n.s ++ (r.txt ++ [10]), []), 0) := by
  rw [dsync, if_neg (by rw [h.txt, rows_fit h.each h.few (by rw [← h.txt]; simp; omega)]; simp), synced, e, rows_fit (good_snoc h.each hr) (by simpa using hl) (by simpa using hfl), if_neg (by simp)]
 rw [Nd.write, if_neg (by simpa using hu), hp, if_neg (by simp), hs, if_neg (by simp), hup]
theorem write_ok {n : Nd} {r : Rc} (hn : n.ck = 0) (hup : n.up = true) (h : (n.write r).2 = 0) :
  r.chk = 0 ∧ (unext n.u r).2 = 0 ∧ n.write r = (⟨(unext n.u r).1, n.s ++ (r.txt ++ [10]), [], true⟩, 0) ∧ (n.write r).1.ck = 0 ∧ (n.write r).1.whole = (unext n.u r).1 := by
 obtain ⟨rs, ts, R⟩ := rn_of hn
 have hw := R.up hup
 have hu : (unext n.u r).2 = 0 := Classical.byContradiction fun hh => by rw [Nd.write, if_pos hh] at h; exact hh h
 have hr : r.chk = 0 := (unext_ok hu).2.1
 rw [Nd.write, if_neg (by simpa using hu)] at h
 rcases put_waysW R r with ⟨g, _⟩ | ⟨_, _, g⟩ | ⟨_, g, e⟩
 · exact absurd hr g
 · rw [if_pos (by rw [g]; simp)] at h
  rw [g] at h; cases h
 · rw [e, if_neg (by simp), hw, List.nil_append] at h
  rw [hw, List.length_nil] at g
  have hl : rs.length + 1 ≤ 160 := by
   refine rows_snoc R.each hr R.few ?_
   by_cases hz : (dsync n.s (r.txt ++ [10])).2 = 0
   · rw [dsync] at hz
    by_cases h1 : ckDisk n.s (r.txt ++ [10]) = 0
    · rw [if_neg (by simpa using h1), synced] at hz
     by_cases h2 : ckDisk (n.s ++ (r.txt ++ [10])) [] = 0
     · have := (ckDisk_zero.1 h2).2
      rwa [R.txt, line_snoc] at this
     · rw [if_pos h2] at hz; exact absurd hz h2
    · rw [if_pos h1] at hz; exact absurd hz h1
   · rw [if_pos hz] at h
    exact absurd h hz
  have hf : n.s.length + r.txt.length + 1 ≤ 30000 := by omega
  have hm := write_may R hup hu hl hf
  have hk := R.written hr hu hl hf true
  exact ⟨hr, hu, hm, by rw [hm]; exact hk.1.ck, by rw [hm]; exact hk.2⟩
theorem boot_ok {n : Nd} (hn : n.ck = 0) (hup : n.up = false) : n.boot = (⟨n.whole, (recovered n.s n.w).1.1, [], true⟩, 0) ∧ n.boot.1.ck = 0 ∧ n.boot.1.whole = n.whole := by
 obtain ⟨rs, ts, R⟩ := rn_of hn
 have hf : (rtxt rs).length + n.w.length ≤ 30000 := by rw [← R.txt]; exact R.fits
 have e2 : (recov n.s n.w).2 = 0 := by rw [R.txt, recov_rows R.each R.few hf, R.rest, R.whole]
 have e : n.boot = (⟨n.whole, (recovered n.s n.w).1.1, [], true⟩, 0) := by
  rw [Nd.boot, hup, if_neg (by simp), if_neg (by simpa using e2)]; rfl
 have es : (recovered n.s n.w).1.1 = rtxt (rs ++ ts) := by rw [R.txt, recovered_rows R.each R.few, R.rest]
 have hk := (lines_front n.w (160 - rs.length)).1
 have hk2 := (lines_len n.w (160 - rs.length)).2
 rw [R.rest] at hk
 have hlen : (rtxt (rs ++ ts)).length ≤ 30000 := by rw [rtxt_append, List.length_append]; omega
 have K := rn_mk (n := ⟨n.whole, (recovered n.s n.w).1.1, [], true⟩) (rs := rs ++ ts) (ts := []) (wu := n.whole) es R.tse R.tsl R.whole (by show (recovered n.s n.w).1.1.length + 0 ≤ 30000; rw [es]; exact hlen) (fun _ => rfl) (by rw [lines_none]) (by rw [List.append_nil]; exact R.whole)
 exact ⟨e, by rw [e]; exact K.1.ck, by rw [e]; exact K.2⟩
theorem crash_ok {n : Nd} (hn : n.ck = 0) (hup : n.up = true) : (⟨n.u, n.s, n.w, false⟩ : Nd).ck = 0 ∧ (⟨n.u, n.s, n.w, false⟩ : Nd).whole = n.u ∧ (⟨n.u, n.s, n.w, false⟩ : Nd).boot = (n, 0) := by
 obtain ⟨rs, ts, R⟩ := rn_of hn
 obtain ⟨hts, hwu⟩ := R.upw hup
 have K := rn_mk (n := ⟨n.u, n.s, n.w, false⟩) (rs := rs) (ts := ts) (wu := n.u) R.txt R.each R.few R.unit R.fits (fun h => by cases h) R.rest (by rw [R.whole, hwu])
 refine ⟨K.1.ck, K.2, ?_⟩
 have hb := (boot_ok K.1.ck rfl).1
 rw [hb, K.2]
 have es : (recovered n.s n.w).1.1 = n.s := by rw [R.txt, recovered_rows R.each R.few, R.rest, hts, List.append_nil]
 have hw := R.up hup
 obtain ⟨u, s, w, up⟩ := n
 simp only at es hw hup ⊢
 rw [es, hw, hup]
theorem tear_ok {n : Nd} {r : Rc} {k : Int} (hn : n.ck = 0) (hup : n.up = true) (hu : (unext n.u r).2 = 0) (h : (n.tear r k).2 = 0) :
  (n.tear r k).1.ck = 0 ∧ (n.tear r k).1.u = n.u ∧ (n.tear r k).1.up = false ∧
  (((n.tear r k).1.whole = n.u ∧ (n.tear r k).1.boot = (n, 0)) ∨ ((n.tear r k).1.whole = (unext n.u r).1 ∧ (n.tear r k).1.boot = n.write r ∧ (n.write r).2 = 0)) := by
 obtain ⟨rs, ts, R⟩ := rn_of hn
 obtain ⟨hts, hwu⟩ := R.upw hup
 have hw := R.up hup
 have hr : r.chk = 0 := (unext_ok hu).2.1
 have hk0 : r.k ≠ 0 := fun hh => by
  rcases (unext_ok hu).2.2 with ⟨h1, _⟩ | ⟨h1, _⟩ <;> omega
 rw [Nd.tear, if_neg hk0] at h ⊢
 rcases put_waysW R r with ⟨g, _⟩ | ⟨_, _, g⟩ | ⟨_, g, e⟩
 · exact absurd hr g
 · rw [if_pos (by rw [g]; simp)] at h
  rw [g] at h; cases h
 · rw [e, if_neg (by simp), hw, List.nil_append]
  rw [hw, List.length_nil] at g
  generalize keptOf k (n.s, r.txt ++ [10]).2.length = m
  have e1 : (r.txt ++ [10] : List UInt8) = rtxt [r] := by simp [rtxt]
  have hj : ∃ j, j ≤ 1 ∧ (linesOf ((rtxt [r]).take m) (160 - rs.length)).1 = [r].take j ∧ (rs ++ [r].take j).length ≤ 160 := by
   rcases Nat.lt_or_ge rs.length 160 with hl | hl
   · obtain ⟨j, e', hj, he, _⟩ := lines_torn (rs := [r]) (fun c hc => by obtain rfl : c = r := by simpa using hc
                                      exact hr) (most := 160 - rs.length) (by simp; omega) m
    refine ⟨j, by simpa using hj, by rw [he], ?_⟩
    simp
    have : j ≤ 1 := by simpa using hj
    omega
   · refine ⟨0, by omega, ?_, by simpa using R.few⟩
    have := (lines_len ((rtxt [r]).take m) (160 - rs.length)).1
    rw [List.take_zero]
    exact List.eq_nil_of_length_eq_zero (by omega)
  obtain ⟨j, hj1, hj2, hj3⟩ := hj
  have hfit : n.s.length + ((r.txt ++ [10]).take m).length ≤ 30000 := by
   rw [List.length_take]; simp; omega
  have hR : (linesOf ((r.txt ++ [10]).take m) (160 - rs.length)).1 = [r].take j := by rw [e1]; exact hj2
  rcases (show j = 0 ∨ j = 1 by omega) with rfl | rfl
  · rw [List.take_zero] at hR
   have K := rn_mk (n := ⟨n.u, n.s, (r.txt ++ [10]).take m, false⟩) (rs := rs) (ts := []) (wu := n.u) R.txt R.each R.few R.unit hfit (fun h => by cases h) hR (by rw [List.append_nil]; exact R.unit)
   refine ⟨K.1.ck, rfl, rfl, Or.inl ⟨K.2, ?_⟩⟩
   have hb := (boot_ok K.1.ck rfl).1
   rw [hb, K.2]
   have es : (recovered n.s ((r.txt ++ [10]).take m)).1.1 = n.s := by rw [R.txt, recovered_rows R.each R.few, hR, List.append_nil]
   obtain ⟨u, s, w, up⟩ := n
   simp only at es hw hup ⊢
   rw [es, hw, hup]
  · have hR1 : (linesOf ((r.txt ++ [10]).take m) (160 - rs.length)).1 = [r] := hR
   have hl : rs.length + 1 ≤ 160 := by simpa using hj3
   have K := rn_mk (n := ⟨n.u, n.s, (r.txt ++ [10]).take m, false⟩) (rs := rs) (ts := [r]) (wu := (unext n.u r).1) R.txt R.each R.few R.unit hfit (fun h => by cases h) hR1 (unitOf_snoc hl R.unit hu)
   have hm := write_may R hup hu hl (by omega)
   refine ⟨K.1.ck, rfl, rfl, Or.inr ⟨K.2, ?_, by rw [hm]⟩⟩
   have hb := (boot_ok K.1.ck rfl).1
   rw [hb, K.2, hm]
   have es : (recovered n.s ((r.txt ++ [10]).take m)).1.1 = n.s ++ (r.txt ++ [10]) := by rw [R.txt, recovered_rows R.each R.few, hR1, line_snoc]
   rw [es]
structure RW (w : Wd) : Prop where
 ns3 : w.ns.length = 3
 cs3 : w.cs.length = 3
 tip : 0 ≤ w.tip ∧ w.tip ≤ 60
 time : 0 ≤ w.t ∧ w.t ≤ 100000
 node : ∀ (k : Nat) (n : Nd), w.ns[k]? = some n → n.ck = 0
 behind : ∀ (k : Nat) (a n : Nd), w.ns[k]? = some a → w.ns[k + 1]? = some n → Within n.whole.cells a.u.cells
 client : ∀ c, c ∈ w.cs → c.ck = 0
 holds : ∀ c, c ∈ w.cs → c.lost w.ns = false
theorem ckNds_zero : ∀ (ns : List Nd) (a : Option (List En)), ckNds a ns = 0 ↔ (∀ (k : Nat) (n : Nd), ns[k]? = some n → n.ck = 0) ∧ (∀ (k : Nat) (x n : Nd), ns[k]? = some x → ns[k + 1]? = some n → Within n.whole.cells x.u.cells) ∧
  (∀ (l : List En) (n : Nd), a = some l → ns[0]? = some n → Within n.whole.cells l)
 | [], a => ⟨fun _ => ⟨fun k n h => by simp at h, fun k x n h => by simp at h, fun l n _ h => by simp at h⟩, fun _ => rfl⟩
 | n :: r, a => by
  have ih := ckNds_zero r (some n.u.cells)
  rw [ckNds]
  by_cases h1 : n.ck = 0
  · rw [if_neg (by simpa using h1)]
   cases hb : behindB a n.whole.cells with
   | false =>
    rw [if_pos rfl]
    refine ⟨fun h => (by cases h), ?_⟩
    rintro ⟨_, _, h3⟩
    cases a with
    | none => cases hb
    | some l =>
     have := (withinB_iff _ _).2 (h3 l n rfl rfl)
     rw [behindB, this] at hb; cases hb
   | true =>
    rw [if_neg (by simp), ih]
    constructor
    · rintro ⟨g1, g2, g3⟩
     refine ⟨fun k x hx => ?_, fun k x y hx hy => ?_, fun l x hl hx => ?_⟩
     · cases k with
      | zero => obtain rfl : n = x := by simpa using hx
           exact h1
      | succ k => exact g1 k x (by simpa using hx)
     · cases k with
      | zero => obtain rfl : n = x := by simpa using hx
           exact g3 _ y rfl (by simpa using hy)
      | succ k => exact g2 k x y (by simpa using hx) (by simpa using hy)
     · subst hl
      obtain rfl : n = x := by simpa using hx
      exact (withinB_iff _ _).1 hb
    · rintro ⟨g1, g2, _⟩
     refine ⟨fun k x hx => g1 (k + 1) x (by simpa using hx), fun k x y hx hy => g2 (k + 1) x y (by simpa using hx) (by simpa using hy), fun l x hl hx => ?_⟩
     injection hl with hl
     rw [← hl]
     exact g2 0 n x rfl (by simpa using hx)
  · rw [if_pos h1]
   exact ⟨fun h => absurd h h1, fun h => absurd (h.1 0 n rfl) h1⟩
theorem ckCls_zero (ns : List Nd) : ∀ (cs : List Cl), ckCls ns cs = 0 ↔ ∀ c, c ∈ cs → c.ck = 0 ∧ c.lost ns = false
 | [] => ⟨fun _ c hc => (by cases hc), fun _ => rfl⟩
 | c :: r => by
  have ih := ckCls_zero ns r
  rw [ckCls]
  by_cases h1 : c.ck = 0
  · rw [if_neg (by simpa using h1)]
   cases hl : c.lost ns with
   | true => rw [if_pos rfl]; exact ⟨fun h => (by cases h), fun h => by rw [(h c (by simp)).2] at hl; cases hl⟩
   | false =>
    rw [if_neg (by simp), ih]
    exact ⟨fun h x hx => (List.mem_cons.1 hx).elim (fun e => e ▸ ⟨h1, hl⟩) (h x), fun h x hx => h x (List.mem_cons_of_mem _ hx)⟩
  · rw [if_pos h1]; exact ⟨fun h => absurd h h1, fun h => absurd (h c (by simp)).1 h1⟩
theorem rw_iff {w : Wd} : w.ck = 0 ↔ RW w := by
 rw [Wd.ck]
 by_cases h1 : w.ns.length = 3 ∧ w.cs.length = 3
 · rw [if_neg (not_not_intro h1)]
  by_cases h2 : (0 ≤ w.tip ∧ w.tip ≤ 60) ∧ (0 ≤ w.t ∧ w.t ≤ 100000)
  · rw [if_neg (not_not_intro h2)]
   by_cases h3 : ckNds none w.ns = 0
   · rw [if_neg (by simpa using h3), ckCls_zero]
    obtain ⟨g1, g2, _⟩ := (ckNds_zero w.ns none).1 h3
    exact ⟨fun h => ⟨h1.1, h1.2, h2.1, h2.2, g1, g2, fun c hc => (h c hc).1, fun c hc => (h c hc).2⟩, fun h c hc => ⟨h.client c hc, h.holds c hc⟩⟩
   · rw [if_pos h3]
    exact ⟨fun h => absurd h h3, fun h => absurd ((ckNds_zero w.ns none).2 ⟨h.node, h.behind, fun l n hl => by cases hl⟩) h3⟩
  · rw [if_pos h2]; exact ⟨fun h => (by cases h), fun h => absurd ⟨h.tip, h.time⟩ h2⟩
 · rw [if_pos h1]; exact ⟨fun h => (by cases h), fun h => absurd ⟨h.ns3, h.cs3⟩ h1⟩
theorem RW.nd_at {w : Wd} (h : RW w) {k : Int} (hk : 0 ≤ k ∧ k ≤ 2) : w.ns[k.toNat]? = some (w.nd k) := by
 have hl : k.toNat < w.ns.length := by rw [h.ns3]; omega
 rw [Wd.nd, List.getD_eq_getElem?_getD, List.getElem?_eq_getElem hl]; rfl
theorem RW.cl_at {w : Wd} (h : RW w) {k : Int} (hk : 0 ≤ k ∧ k ≤ 2) : w.cs[k.toNat]? = some (w.cl k) := by
 have hl : k.toNat < w.cs.length := by rw [h.cs3]; omega
 rw [Wd.cl, List.getD_eq_getElem?_getD, List.getElem?_eq_getElem hl]; rfl
theorem RW.nck {w : Wd} (h : RW w) {k : Int} (hk : 0 ≤ k ∧ k ≤ 2) : (w.nd k).ck = 0 := h.node _ _ (h.nd_at hk)
theorem RW.cck {w : Wd} (h : RW w) {k : Int} (hk : 0 ≤ k ∧ k ≤ 2) : (w.cl k).ck = 0 := h.client _ (List.mem_of_getElem? (h.cl_at hk))
theorem RW.clost {w : Wd} (h : RW w) {k : Int} (hk : 0 ≤ k ∧ k ≤ 2) : (w.cl k).lost w.ns = false := h.holds _ (List.mem_of_getElem? (h.cl_at hk))
theorem us_at {ns : List Nd} {k : Nat} {n : Nd} (h : ns[k]? = some n) : (ns.map Nd.u)[k]? = some n.u := by rw [List.getElem?_map, h]; rfl
theorem RW.chain {w : Wd} (h : RW w) : ckChain w.us = 0 := by
 obtain ⟨ns, tip, cs, t⟩ := w
 have h3 := h.ns3
 simp only at h3
 match ns, h3 with
 | [n0, n1, n2], _ =>
  obtain ⟨_, _, R0⟩ := rn_of (h.node 0 n0 rfl)
  obtain ⟨_, _, R1⟩ := rn_of (h.node 1 n1 rfl)
  obtain ⟨_, _, R2⟩ := rn_of (h.node 2 n2 rfl)
  exact ckChain_zero.2 ⟨n0.u, n1.u, n2.u, rfl, R0.uck, R1.uck, R2.uck, within_trans R1.grows (h.behind 0 n0 n1 rfl rfl), within_trans R2.grows (h.behind 1 n1 n2 rfl rfl)⟩
theorem plc_at {us : List Un} {k a : Nat} {u : Un} {e : En} (hk : us[k]? = some u) (ha : u.cells[a]? = some e) : plc us k a = e := by
 have e1 : us.getD k Un.zero = u := by rw [List.getD_eq_getElem?_getD, hk]; rfl
 unfold plc
 rw [e1, List.getD_eq_getElem?_getD, ha]; rfl
theorem lost_iff {ns : List Nd} {c : Cl} : c.lost ns = false ↔ (c.d = 2 → 0 < c.l → plcN ns (c.l.toNat - 1) c.a.toNat = c.e) := by
 rw [Cl.lost]
 by_cases h1 : c.d = 2
 · by_cases h2 : 0 < c.l
  · rw [decide_eq_true h1, decide_eq_true h2, Bool.true_and, Bool.true_and, ne_false]
   exact ⟨fun h _ _ => h, fun h => h h1 h2⟩
  · rw [decide_eq_false h2]; simp [h2]
 · rw [decide_eq_false h1]; simp [h1]
theorem lost_idle {ns : List Nd} {c : Cl} (h : c.d ≠ 2) : c.lost ns = false := lost_iff.2 fun h' => absurd h' h
theorem lost_first {ns : List Nd} {c : Cl} (h : c.l = 0) : c.lost ns = false := lost_iff.2 fun _ h' => by omega
theorem lost_grow {ns : List Nd} {c : Cl} {k : Nat} {n n' : Nd} (hn : ns[k]? = some n) (hu : n.u.ck = 0) (hw : Within n.u.cells n'.u.cells) (hc : c.ck = 0) (h : c.lost ns = false) : c.lost (ns.set k n') = false := lost_iff.2 fun hd hl => by
 have e := lost_iff.1 h hd hl
 have hck := Cl.ck_zero.1 hc
 have ha := (Cl.good hck.1).2.2.1
 by_cases hk : k = c.l.toNat - 1
 · have h1 := plc_some (us := ns.map Nd.u) (k := k) (a := c.a.toNat) (us_at hn) hu (by omega)
  have e' : plc (ns.map Nd.u) k c.a.toNat = c.e := by rw [hk]; exact e
  rw [e'] at h1
  have h2 := within_at hw h1 (chk_notB hck.2.1)
  have hlt := (List.getElem?_eq_some_iff.1 hn).1
  rw [← hk]
  exact plc_at (us_at (List.getElem?_set_self hlt)) h2
 · rw [← e]
  have e1 : (List.map Nd.u (ns.set k n')).getD (c.l.toNat - 1) Un.zero = (List.map Nd.u ns).getD (c.l.toNat - 1) Un.zero := by
   rw [List.getD_eq_getElem?_getD, List.getD_eq_getElem?_getD, List.getElem?_map, List.getElem?_map, List.getElem?_set_ne hk]
  unfold plcN plc
  rw [e1]
theorem RW.putN {w : Wd} (h : RW w) {k : Int} (hk : 0 ≤ k ∧ k ≤ 2) {n' : Nd} (h1 : n'.ck = 0) (h2 : Within (w.nd k).u.cells n'.u.cells) (h3 : ∀ j a, k.toNat = j + 1 → w.ns[j]? = some a → Within n'.whole.cells a.u.cells) : RW (w.putN k n') := by
 have hn := h.nd_at hk
 have hlt := (List.getElem?_eq_some_iff.1 hn).1
 obtain ⟨_, _, R⟩ := rn_of (h.nck hk)
 refine ⟨by show (w.ns.set _ _).length = 3; rw [List.length_set]; exact h.ns3, h.cs3, h.tip, h.time, fun j n hj => ?_, fun j a n ha hj => ?_, h.client, fun c hc => lost_grow hn R.uck h2 (h.client c hc) (h.holds c hc)⟩
 · change (w.ns.set _ _)[j]? = some n at hj
  by_cases hjk : k.toNat = j
  · subst hjk
   rw [List.getElem?_set_self hlt] at hj
   rw [← Option.some.inj hj]; exact h1
  · rw [List.getElem?_set_ne hjk] at hj
   exact h.node j n hj
 · change (w.ns.set _ _)[j]? = some a at ha
  change (w.ns.set _ _)[j + 1]? = some n at hj
  by_cases hj1 : k.toNat = j + 1
  · rw [← hj1, List.getElem?_set_self hlt] at hj
   rw [List.getElem?_set_ne (by omega)] at ha
   rw [← Option.some.inj hj]
   exact h3 j a hj1 ha
  · rw [List.getElem?_set_ne hj1] at hj
   by_cases hj0 : k.toNat = j
   · subst hj0
    rw [List.getElem?_set_self hlt] at ha
    rw [← Option.some.inj ha]
    exact within_trans (h.behind _ _ n hn hj) h2
   · rw [List.getElem?_set_ne hj0] at ha
    exact h.behind j a n ha hj
theorem RW.putC {w : Wd} (h : RW w) (k : Int) {c : Cl} (h1 : c.ck = 0) (h2 : c.lost w.ns = false) : RW (w.putC k c) := by
 refine ⟨h.ns3, by show (w.cs.set _ _).length = 3; rw [List.length_set]; exact h.cs3, h.tip, h.time, h.node, h.behind, fun x hx => ?_, fun x hx => ?_⟩
 · rcases List.mem_or_eq_of_mem_set hx with hx | rfl
  · exact h.client x hx
  · exact h1
 · rcases List.mem_or_eq_of_mem_set hx with hx | rfl
  · exact h.holds x hx
  · exact h2
theorem wantsE {c : Cl} (h : c.ck = 0) (hd : c.d = 1) : c.a = 0 ∧ c.l = 0 ∧ c.e.k ≠ 0 := by
 obtain ⟨ho, _, hf, _⟩ := Cl.ck_zero.1 h
 have hg := Cl.good ho
 rw [Cl.odd, if_neg (by omega), if_pos hd] at hf
 simp only [Bool.or_eq_false_iff, decide_eq_false_iff_not] at hf
 obtain ⟨h1, h2, h3⟩ := hf
 exact ⟨by omega, by omega, h3⟩
theorem want_ok {c : Cl} {x : En} (h : (wantOf c x).2 = 0) : c.ck = 0 ∧ c.d = 0 ∧ wantOf c x = (⟨c.p, 1, x, 0, 0, c.n, c.js, c.rs⟩, 0) ∧ (wantOf c x).1.ck = 0 := by
 unfold wantOf at h ⊢
 by_cases h1 : c.ck = 0
 · rw [if_neg (by simpa using h1)] at h ⊢
  by_cases h2 : c.d = 0
  · rw [if_neg (by simpa using h2)] at h ⊢
   by_cases h3 : x.chk = 0
   · rw [if_neg (by simpa using h3)] at h ⊢
    by_cases h4 : x.k = 0
    · rw [if_pos h4] at h; cases h
    · rw [if_neg h4]
     have hr := rests h1 h2
     have e : (⟨c.p, 1, x, c.a, c.l, c.n, c.js, c.rs⟩ : Cl) = ⟨c.p, 1, x, 0, 0, c.n, c.js, c.rs⟩ := by rw [hr]
     refine ⟨h1, h2, by rw [e], ?_⟩
     rw [e]
     obtain ⟨ho, _, _, hb⟩ := Cl.ck_zero.1 h1
     have hg := Cl.good ho
     refine Cl.ck_zero.2 ⟨Cl.good_of ⟨hg.1, (show (0 : Int) ≤ 1 ∧ (1 : Int) ≤ 2 by decide), (show (0 : Int) ≤ 0 ∧ (0 : Int) ≤ 59 by decide), (show (0 : Int) ≤ 0 ∧ (0 : Int) ≤ 2 by decide), hg.2.2.2.2⟩, h3, ?_, hb⟩
     show (if (1 : Int) = 0 then _ else if (1 : Int) = 1 then decide ((0 : Int) < 0) || (decide ((0 : Int) < 0) || decide (x.k = 0)) else false) = false
     simp [h4]
   · rw [if_pos h3] at h; exact absurd h h3
  · rw [if_pos h2] at h; cases h
 · rw [if_pos h1] at h; exact absurd h h1
theorem ring_ck {c : Cl} {me j t : Int} (h : (ringOf c me j t).2 = 0) : c.ck = 0 ∧ c.d = 0 ∧ (ringOf c me j t).1.ck = 0 ∧ (ringOf c me j t).1.d = 1 ∧ (ringOf c me j t).2 = 0 := by
 obtain ⟨h1, h2, _, _, z, _, _, h5, e⟩ := ring_ok h
 refine ⟨h1, h2, ?_, by rw [e], h⟩
 rw [e]
 obtain ⟨ho, _, _, hb⟩ := Cl.ck_zero.1 h1
 have hg := Cl.good ho
 exact Cl.ck_zero.2 ⟨Cl.good_of ⟨hg.1, (show (0 : Int) ≤ 1 ∧ (1 : Int) ≤ 2 by decide), (show (0 : Int) ≤ 0 ∧ (0 : Int) ≤ 59 by decide), (show (0 : Int) ≤ 0 ∧ (0 : Int) ≤ 2 by decide), hg.2.2.2.2⟩, h5, rfl, hb⟩
theorem place_ok {c : Cl} {a : Int} (h : (placeOf 1 c a).2 = 0) : c.ck = 0 ∧ (0 ≤ a ∧ a ≤ 59) ∧ placeOf 1 c a = (⟨c.p, 2, c.e, a, 0, c.n, c.js, c.rs⟩, 0) ∧ (placeOf 1 c a).1.ck = 0 := by
 unfold placeOf at h ⊢
 by_cases h1 : c.ck = 0
 · rw [if_neg (by simpa using h1)] at h ⊢
  by_cases h2 : c.d = 1
  · rw [if_neg (by simpa using h2)] at h ⊢
   by_cases h3 : 0 ≤ a ∧ a ≤ 59
   · rw [if_neg (by simpa using h3)]
    obtain ⟨_, hl, _⟩ := wantsE h1 h2
    refine ⟨h1, h3, by rw [hl], ?_⟩
    obtain ⟨ho, he, _, hb⟩ := Cl.ck_zero.1 h1
    have hg := Cl.good ho
    exact Cl.ck_zero.2 ⟨Cl.good_of ⟨hg.1, (show (0 : Int) ≤ 2 ∧ (2 : Int) ≤ 2 by decide), h3, hg.2.2.2.1, hg.2.2.2.2⟩, he, rfl, hb⟩
   · rw [if_pos h3] at h; cases h
  · rw [if_pos h2] at h; cases h
 · rw [if_pos h1] at h; exact absurd h h1
theorem learn_ok {c : Cl} {p : Int} (h : (learnOf c p).2 = 0) : c.ck = 0 ∧ learnOf c p = (⟨p, c.d, c.e, c.a, c.l, c.n, c.js, c.rs⟩, 0) ∧ (learnOf c p).1.ck = 0 := by
 unfold learnOf at h ⊢
 by_cases h1 : c.ck = 0
 · rw [if_neg (by simpa using h1)] at h ⊢
  by_cases h2 : 1 ≤ p ∧ p ≤ 20
  · rw [if_neg (by simpa using h2)] at h ⊢
   by_cases h3 : p ≤ c.p
   · rw [if_pos h3] at h; cases h
   · rw [if_neg h3]
    refine ⟨h1, rfl, ?_⟩
    obtain ⟨ho, he, hf, hb⟩ := Cl.ck_zero.1 h1
    have hg := Cl.good ho
    exact Cl.ck_zero.2 ⟨Cl.good_of ⟨h2, hg.2.1, hg.2.2.1, hg.2.2.2.1, hg.2.2.2.2⟩, he, hf, hb⟩
  · rw [if_pos h2] at h; cases h
 · rw [if_pos h1] at h; exact absurd h h1
theorem cnew_ck : cnew.ck = 0 := by decide
theorem hear_ok {c : Cl} {x : En} (h : c.ck = 0) (hd : c.d = 2) (hx : x.chk = 0) : (hearOf c x).2 = 0 ∧ (hearOf c x).1.ck = 0 ∧ ((hearOf c x).1.d ≠ 2 ∨ (hearOf c x).1 = ⟨c.p, c.d, x, c.a, c.l + 1, c.n, c.js, c.rs⟩) := by
 obtain ⟨ho, he, _, hb⟩ := Cl.ck_zero.1 h
 have hg := Cl.good ho
 rw [hearOf, if_neg (by simpa using h), if_neg (by simpa using hx), if_neg (by simpa using hd)]
 by_cases h1 : c.e.k ≠ 0 ∧ c.e.ne x = true
 · rw [if_pos h1]
  refine ⟨rfl, Cl.ck_zero.2 ⟨Cl.good_of ⟨hg.1, (show (0 : Int) ≤ 1 ∧ (1 : Int) ≤ 2 by decide), (show (0 : Int) ≤ 0 ∧ (0 : Int) ≤ 59 by decide), (show (0 : Int) ≤ 0 ∧ (0 : Int) ≤ 2 by decide), hg.2.2.2.2⟩, he, ?_, hb⟩, Or.inl (by show (1 : Int) ≠ 2; decide)⟩
  show (if (1 : Int) = 0 then _ else if (1 : Int) = 1 then decide ((0 : Int) < 0) || (decide ((0 : Int) < 0) || decide (c.e.k = 0)) else false) = false
  simp [h1.1]
 · rw [if_neg h1]
  by_cases h2 : c.l = 2
  · rw [if_pos h2]
   exact ⟨rfl, Cl.ck_zero.2 ⟨Cl.good_of ⟨hg.1, (show (0 : Int) ≤ 0 ∧ (0 : Int) ≤ 2 by decide), (show (0 : Int) ≤ 0 ∧ (0 : Int) ≤ 59 by decide), (show (0 : Int) ≤ 0 ∧ (0 : Int) ≤ 2 by decide), hg.2.2.2.2⟩, (show En.zero.chk = 0 by decide), rfl, hb⟩, Or.inl (by show (0 : Int) ≠ 2; decide)⟩
  · rw [if_neg h2]
   refine ⟨rfl, Cl.ck_zero.2 ⟨Cl.good_of ⟨hg.1, hg.2.1, hg.2.2.1, ?_, hg.2.2.2.2⟩, hx, ?_, hb⟩, Or.inr rfl⟩
   · have := hg.2.2.2.1
    show 0 ≤ c.l + 1 ∧ c.l + 1 ≤ 2
    omega
   · rw [Cl.odd]
    simp [hd]
theorem onN_ok {w : Wd} {k : Int} {r : Nd × Int} (h : (w.onN k r).2 = 0) : r.2 = 0 ∧ w.onN k r = (w.putN k r.1, 0) := by
 unfold Wd.onN at h ⊢
 by_cases hr : r.2 = 0
 · exact ⟨hr, by rw [if_neg (by simpa using hr)]⟩
 · rw [if_pos hr] at h; exact absurd h hr
theorem onC_ok {w : Wd} {k : Int} {r : Cl × Int} (h : (w.onC k r).2 = 0) : r.2 = 0 ∧ w.onC k r = (w.putC k r.1, 0) := by
 unfold Wd.onC at h ⊢
 by_cases hr : r.2 = 0
 · exact ⟨hr, by rw [if_neg (by simpa using hr)]⟩
 · rw [if_pos hr] at h; exact absurd h hr
theorem link_facts {w : Wd} (h : RW w) {c : Cl} (hl : (linkIn w.us c.l c.a c.e c.p).2.2 = 0) :
    (0 ≤ c.l ∧ c.l ≤ 2) ∧ (0 ≤ c.a ∧ c.a ≤ 59) ∧ (w.nd c.l).u.p = c.p ∧ ∃ r s, linkIn w.us c.l c.a c.e c.p = (r, s, 0) ∧ s.chk = 0 ∧
      (∀ j a, c.l.toNat = j + 1 → w.ns[j]? = some a → a.u.cells[c.a.toNat]? = some c.e) ∧ c.e.chk = 0 ∧
      ((r = Rc.zero ∧ (w.nd c.l).u.cells[c.a.toNat]? = some s) ∨
       (r = ⟨1, c.a, 0, c.e⟩ ∧ s = c.e ∧ (w.nd c.l).u.cells[c.a.toNat]? = some blankE ∧ unext (w.nd c.l).u r = (⟨(w.nd c.l).u.p, (w.nd c.l).u.cells.set c.a.toNat c.e⟩, 0))) := by
  rw [← linkOf_in h.chain] at hl ⊢
  obtain ⟨_, hk, ha, hx, hp, hah, hw⟩ := linkOf_ok hl
  have hn := h.nd_at hk
  obtain ⟨_, _, R⟩ := rn_of (h.nck hk)
  have hu := us_at hn
  have hpl : (w.nd c.l).u.cells[c.a.toNat]? = some (plc w.us c.l.toNat c.a.toNat) := plc_some hu R.uck (by omega)
  have hep : (w.nd c.l).u.p = c.p := by
    rw [← hp, List.getD_eq_getElem?_getD]
    show _ = (((w.ns.map Nd.u)[c.l.toNat]?).getD Un.zero).p
    rw [hu]; rfl
  have hahead : ∀ j a, c.l.toNat = j + 1 → w.ns[j]? = some a → a.u.cells[c.a.toNat]? = some c.e := fun j a hj hja => by
    obtain ⟨_, _, Ra⟩ := rn_of (h.node j a hja)
    have e := hah (by omega)
    have e2 : c.l.toNat - 1 = j := by omega
    rw [e2] at e
    rw [e]
    exact plc_some (us_at hja) Ra.uck (by omega)
  refine ⟨hk, ha, hep, ?_⟩
  rcases hw with ⟨hb, e⟩ | ⟨hb, e⟩
  · exact ⟨Rc.zero, plc w.us c.l.toNat c.a.toNat, e, cell_chk R.uck hpl hb, hahead, hx, Or.inl ⟨rfl, hpl⟩⟩
  · rw [En.isB_eq.1 hb] at hpl
    have hwr := unext_write R.uck (a := c.a.toNat) (by omega) hx hpl
    rw [Int.toNat_of_nonneg ha.1] at hwr
    exact ⟨_, c.e, e, hx, hahead, hx, Or.inr ⟨rfl, rfl, hpl, hwr⟩⟩
structure Wrote (w : Wd) (c : Cl) (n' : Nd) (s : En) : Prop where
 ck : n'.ck = 0
 grows : Within (w.nd c.l).u.cells n'.u.cells
 behind : ∀ j a, c.l.toNat = j + 1 → w.ns[j]? = some a → Within n'.whole.cells a.u.cells
 place : n'.u.cells[c.a.toNat]? = some s
 ep : n'.u.p = (w.nd c.l).u.p
 up : n'.up = true
theorem any_ok {w : Wd} (h : RW w) {c : Cl} {r : Rc} {s : En} (hl : linkIn w.us c.l c.a c.e c.p = (r, s, 0)) (hup : (w.nd c.l).up = true) (hw : ((w.nd c.l).writeAny r).2 = 0) : Wrote w c ((w.nd c.l).writeAny r).1 s := by
 obtain ⟨hk, ha, hep, r', s', e, hs, hah, hx, hc⟩ := link_facts h (c := c) (by rw [hl])
 rw [hl] at e
 obtain rfl : r = r' := congrArg Prod.fst e
 obtain rfl : s = s' := congrArg (fun q => q.2.1) e
 have hn := h.nd_at hk
 obtain ⟨_, _, R⟩ := rn_of (h.nck hk)
 rcases hc with ⟨rfl, hp⟩ | ⟨rfl, rfl, hb, hun⟩
 · have e : (w.nd c.l).writeAny Rc.zero = (w.nd c.l, 0) := by rw [Nd.writeAny, if_pos (show Rc.zero.k = 0 from rfl)]
  rw [e]
  exact ⟨h.nck hk, within_refl _, fun j a hj hja => h.behind j a _ hja (by rw [← hj]; exact hn), hp, rfl, hup⟩
 · have e : (w.nd c.l).writeAny ⟨1, c.a, 0, c.e⟩ = (w.nd c.l).write ⟨1, c.a, 0, c.e⟩ := by rw [Nd.writeAny, if_neg (by simp)]
  rw [e] at hw ⊢
  obtain ⟨_, h2, e3, h4, h5⟩ := write_ok (h.nck hk) hup hw
  have hl60 := (Un.ck_zero.1 R.uck).2.1
  refine ⟨h4, ?_, fun j a hj hja => ?_, ?_, ?_, ?_⟩
  · rw [e3]; exact unext_within h2
  · rw [h5, hun]
   exact within_set (within_trans R.grows (h.behind j a _ hja (by rw [← hj]; exact hn))) (hah j a hj hja)
  · rw [e3, hun]
   show ((w.nd c.l).u.cells.set c.a.toNat c.e)[c.a.toNat]? = some c.e
   rw [List.getElem?_set_self (by omega)]
  · rw [e3, hun]
  · rw [e3]
structure Step (w y : Wd) (x : Hp) : Prop where
 right : RW y
 time : w.t ≤ y.t
 others : ∀ k : Nat, (k : Int) ≠ x.c → y.cs[k]? = w.cs[k]?
 nodes : ∃ j : Nat, ∀ k : Nat, k ≠ j → y.ns[k]? = w.ns[k]?
 grows : ∀ (k : Nat) (n m : Nd), w.ns[k]? = some n → y.ns[k]? = some m → Within n.u.cells m.u.cells
theorem grows_same {ns : List Nd} : ∀ (k : Nat) (n m : Nd), ns[k]? = some n → ns[k]? = some m → Within n.u.cells m.u.cells := fun k n m h1 h2 => by
 rw [h1] at h2
 rw [Option.some.inj h2]
 exact within_refl _
theorem step_putC {w : Wd} (h : RW w) {x : Hp} (hx : 0 ≤ x.c ∧ x.c ≤ 2) {c : Cl} (h1 : c.ck = 0) (h2 : c.lost w.ns = false) : Step w (w.putC x.c c) x :=
 ⟨h.putC _ h1 h2, Int.le_refl _, fun k hk => by show (w.cs.set _ _)[k]? = _; rw [List.getElem?_set_ne (by omega)], ⟨0, fun _ _ => rfl⟩, grows_same⟩
theorem step_putN {w : Wd} (h : RW w) (x : Hp) {k : Int} (hk : 0 ≤ k ∧ k ≤ 2) {n' : Nd} (h1 : n'.ck = 0) (h2 : Within (w.nd k).u.cells n'.u.cells) (h3 : ∀ j a, k.toNat = j + 1 → w.ns[j]? = some a → Within n'.whole.cells a.u.cells) : Step w (w.putN k n') x := by
 have hn := h.nd_at hk
 have hlt := (List.getElem?_eq_some_iff.1 hn).1
 refine ⟨h.putN hk h1 h2 h3, Int.le_refl _, fun _ _ => rfl, ⟨k.toNat, fun j hj => by show (w.ns.set _ _)[j]? = _; rw [List.getElem?_set_ne (fun e => hj e.symm)]⟩, fun j n m hj hm => ?_⟩
 change (w.ns.set _ _)[j]? = some m at hm
 by_cases e : k.toNat = j
 · subst e
  rw [List.getElem?_set_self hlt] at hm
  rw [hn] at hj
  rw [← Option.some.inj hj, ← Option.some.inj hm]
  exact h2
 · rw [List.getElem?_set_ne e] at hm
  exact grows_same j n m hj hm
theorem step_node {w : Wd} (h : RW w) {x : Hp} (h0 : (atNode w x).2 = 0) : Step w (atNode w x).1 x := by
 rw [atNode] at h0 ⊢
 by_cases g : 0 ≤ x.n ∧ x.n ≤ 2
 · rw [if_neg (by simpa using g)] at h0 ⊢
  have hn := h.nd_at g
  have hck := h.nck g
  obtain ⟨_, _, R⟩ := rn_of hck
  have hbe : ∀ j a, x.n.toNat = j + 1 → w.ns[j]? = some a → Within (w.nd x.n).whole.cells a.u.cells := fun j a hj hja => h.behind j a _ hja (by rw [← hj]; exact hn)
  by_cases k13 : x.k = 13
  · rw [if_pos k13] at h0 ⊢
   obtain ⟨h1, e⟩ := onN_ok h0
   rw [e]
   have hup : (w.nd x.n).up = false := by
    cases hu : (w.nd x.n).up with
    | false => rfl
    | true => rw [Nd.boot, hu, if_pos rfl] at h1; cases h1
   obtain ⟨e2, h2, h3⟩ := boot_ok hck hup
   exact step_putN h x g h2 (by rw [e2]; exact R.grows) (by rw [h3]; exact hbe)
  · rw [if_neg k13] at h0 ⊢
   cases hup : (w.nd x.n).up with
   | false => rw [hup, if_pos rfl] at h0; cases h0
   | true =>
    rw [hup, if_neg (by simp)] at h0
    rw [if_neg (by simp)]
    have hwu := (R.upw hup).2
    by_cases k8 : x.k = 8
    · rw [if_pos k8] at h0 ⊢
     obtain ⟨h1, e⟩ := onN_ok h0
     rw [e]
     obtain ⟨_, h2, e3, h4, h5⟩ := write_ok hck hup h1
     have hcells : (unext (w.nd x.n).u ⟨2, 0, x.p, En.zero⟩).1.cells = (w.nd x.n).u.cells := by
      rcases (unext_ok h2).2.2 with ⟨_, _, _, e⟩ | ⟨e, _⟩
      · rw [e]
      · cases e
     exact step_putN h x g h4 (by rw [e3]; exact unext_within h2) (by rw [h5, hcells, ← hwu]; exact hbe)
    · rw [if_neg k8] at h0 ⊢
     by_cases k9 : x.k = 9
     · rw [if_pos k9] at h0 ⊢
      rw [learnAt] at h0 ⊢
      by_cases gc : 0 ≤ x.c ∧ x.c ≤ 2
      · rw [if_neg (by simpa using gc)] at h0 ⊢
       obtain ⟨h1, e⟩ := onC_ok h0
       rw [e]
       obtain ⟨_, e2, h3⟩ := learn_ok h1
       refine step_putC h gc h3 ?_
       rw [e2]
       exact h.clost gc
      · rw [if_pos gc] at h0; cases h0
     · rw [if_neg k9]
      obtain ⟨h1, h2, _⟩ := crash_ok hck hup
      exact step_putN h x g h1 (within_refl _) (by rw [h2, ← hwu]; exact hbe)
 · rw [if_pos g] at h0; cases h0
theorem step_client {w : Wd} (h : RW w) {x : Hp} (h0 : (atClient w x).2 = 0) : Step w (atClient w x).1 x := by
 rw [atClient] at h0 ⊢
 by_cases g : 0 ≤ x.c ∧ x.c ≤ 2
 · rw [if_neg (by simpa using g)] at h0 ⊢
  by_cases hd : (doesAt w (w.cl x.c) x).2 = 0
  · rw [if_neg (by simpa using hd)]
   have key : (doesAt w (w.cl x.c) x).1.ck = 0 ∧ (doesAt w (w.cl x.c) x).1.lost w.ns = false ∧ (x.k = 3 → w.tip + 1 ≤ 60) := by
    clear h0
    have hcl := h.clost g
    have hck := h.cck g
    revert hd
    unfold doesAt
    by_cases k1 : x.k = 1
    · rw [if_pos k1]
     by_cases ke : x.e.k = 3
     · rw [if_pos ke]; intro hd; cases hd
     · rw [if_neg ke]; intro hd
      obtain ⟨_, _, e, h1⟩ := want_ok hd
      exact ⟨h1, by rw [e]; exact lost_first rfl, fun k => by omega⟩
    rw [if_neg k1]
    by_cases k2 : x.k = 2
    · rw [if_pos k2]; intro hd
     obtain ⟨_, _, h1, h2, _⟩ := ring_ck hd
     exact ⟨h1, lost_idle (by rw [h2]; decide), fun k => by omega⟩
    rw [if_neg k2]
    by_cases k3 : x.k = 3
    · rw [if_pos k3]
     by_cases kt : w.tip = 60
     · rw [if_pos kt]; intro hd; cases hd
     · rw [if_neg kt]; intro hd
      obtain ⟨_, ha, e, h1⟩ := place_ok hd
      exact ⟨h1, by rw [e]; exact lost_first rfl, fun _ => by omega⟩
    rw [if_neg k3]
    by_cases k6 : x.k = 6
    · rw [if_pos k6]; intro hd
     by_cases ha : 0 ≤ x.n ∧ x.n ≤ 59
     · obtain ⟨f1, f2⟩ := fill_ok hck ha
      obtain ⟨e, h1⟩ := f2 (f1.1 hd)
      exact ⟨h1, by rw [e]; exact lost_first rfl, fun k => absurd k k3⟩
     · rw [placeOf, if_neg (by simpa using hck)] at hd
      by_cases hz : (w.cl x.c).d = 0
      · rw [if_neg (by simpa using hz), if_pos ha] at hd; cases hd
      · rw [if_pos hz] at hd; cases hd
    rw [if_neg k6]
    by_cases k7 : x.k = 7
    · rw [if_pos k7, playAt]
     by_cases p1 : (w.cl x.c).n = 60
     · rw [if_pos p1]; intro hd; cases hd
     · rw [if_neg p1]
      cases p2 : (w.nd 2).up with
      | false => rw [if_pos rfl]; intro hd; cases hd
      | true =>
       rw [if_neg (by simp)]
       by_cases p3 : (readIn w.us (w.cl x.c).n).2 = 0
       · rw [if_neg (by simpa using p3)]; intro hd
        obtain ⟨_, _, _, e, h1⟩ := play_ok hd
        refine ⟨h1, ?_, fun k => absurd k k3⟩
        rw [e]
        exact hcl
       · rw [if_pos p3]; intro hd; exact absurd hd p3
    rw [if_neg k7]
    intro _
    exact ⟨cnew_ck, lost_first rfl, fun k => absurd k k3⟩
   obtain ⟨q1, q2, q3⟩ := key
   have S := step_putC h g q1 q2
   refine ⟨⟨S.right.ns3, S.right.cs3, ?_, S.right.time, S.right.node, S.right.behind, S.right.client, S.right.holds⟩, Int.le_refl _, S.others, S.nodes, S.grows⟩
   have ht := h.tip
   show 0 ≤ (if x.k = 3 then w.tip + 1 else w.tip) ∧ (if x.k = 3 then w.tip + 1 else w.tip) ≤ 60
   by_cases k3 : x.k = 3
   · rw [if_pos k3]; have := q3 k3; omega
   · rw [if_neg k3]; exact ht
  · rw [if_pos hd] at h0; exact absurd h0 hd
 · rw [if_pos g] at h0; cases h0
theorem hear_right {w : Wd} (h : RW w) {who : Int} (g : 0 ≤ who ∧ who ≤ 2) (hd : (w.cl who).d = 2) {n' : Nd} {s : En} (hk : 0 ≤ (w.cl who).l ∧ (w.cl who).l ≤ 2) (hs : s.chk = 0) (H : Wrote w (w.cl who) n' s) :
  (hearOf (w.cl who) s).2 = 0 ∧ (hearOf (w.cl who) s).1.ck = 0 ∧ (hearOf (w.cl who) s).1.lost (w.putN (w.cl who).l n').ns = false := by
 obtain ⟨h1, h2, h3⟩ := hear_ok (h.cck g) hd hs
 refine ⟨h1, h2, ?_⟩
 rcases h3 with h3 | h3
 · exact lost_idle h3
 · rw [h3]
  refine lost_iff.2 fun _ _ => ?_
  have hlt := (List.getElem?_eq_some_iff.1 (h.nd_at hk)).1
  have e : ((w.cl who).l + 1).toNat - 1 = (w.cl who).l.toNat := by omega
  show plcN (w.ns.set _ n') (((w.cl who).l + 1).toNat - 1) (w.cl who).a.toNat = s
  rw [e]
  exact plc_at (us_at (List.getElem?_set_self hlt)) H.place
theorem step_link {w : Wd} (h : RW w) {x : Hp} (h0 : (atLink w x).2 = 0) : Step w (atLink w x).1 x := by
 rw [atLink] at h0 ⊢
 by_cases g : 0 ≤ x.c ∧ x.c ≤ 2
 · rw [if_neg (by simpa using g)] at h0 ⊢
  by_cases g2 : (w.cl x.c).d ≠ 2 ∨ (w.nd (w.cl x.c).l).up = false
  · rw [if_pos g2] at h0; cases h0
  · rw [if_neg g2] at h0 ⊢
   have hd : (w.cl x.c).d = 2 := Classical.byContradiction fun hh => g2 (Or.inl hh)
   have hup : (w.nd (w.cl x.c).l).up = true := by
    cases hu : (w.nd (w.cl x.c).l).up with
    | true => rfl
    | false => exact absurd (Or.inr hu) g2
   rw [goAt] at h0 ⊢
   by_cases gl : (linkIn w.us (w.cl x.c).l (w.cl x.c).a (w.cl x.c).e (w.cl x.c).p).2.2 = 0
   · rw [if_neg (by simpa using gl)] at h0 ⊢
    obtain ⟨hk, ha, hep, r, s, e, hs, hah, hx, hc⟩ := link_facts h gl
    have hn := h.nd_at hk
    have hck := h.nck hk
    obtain ⟨_, _, R⟩ := rn_of hck
    have hbe : ∀ j a, (w.cl x.c).l.toNat = j + 1 → w.ns[j]? = some a → Within (w.nd (w.cl x.c).l).u.cells a.u.cells := fun j a hj hja => within_trans R.grows (h.behind j a _ hja (by rw [← hj]; exact hn))
    rw [e] at h0 ⊢
    by_cases k15 : x.k = 15
    · rw [if_pos k15] at h0 ⊢
     obtain ⟨h1, e2⟩ := onN_ok h0
     rw [e2]
     rcases hc with ⟨rfl, _⟩ | ⟨rfl, rfl, hb, hun⟩
     · rw [Nd.tear, if_pos (show Rc.zero.k = 0 from rfl)] at h1; cases h1
     · obtain ⟨t1, t2, t3, t4⟩ := tear_ok hck hup (by rw [hun]) h1
      refine step_putN h x hk t1 (by rw [t2]; exact within_refl _) (fun j a hj hja => ?_)
      rcases t4 with ⟨t4, _⟩ | ⟨t4, _⟩
      · rw [t4]; exact hbe j a hj hja
      · rw [t4, hun]; exact within_set (hbe j a hj hja) (hah j a hj hja)
    · rw [if_neg k15] at h0 ⊢
     by_cases k5 : x.k = 5
     · rw [if_pos k5] at h0 ⊢
      obtain ⟨h1, e2⟩ := onN_ok h0
      rw [e2]
      have H := any_ok h e hup h1
      exact step_putN h x hk H.ck H.grows H.behind
     · rw [if_neg k5] at h0 ⊢
      rw [hearAt] at h0 ⊢
      by_cases hw : ((w.nd (w.cl x.c).l).writeAny r).2 = 0
      · rw [if_neg (by simpa using hw)] at h0 ⊢
       have H := any_ok h e hup hw
       obtain ⟨q1, q2, q3⟩ := hear_right h g hd hk hs H
       rw [if_neg (by simpa using q1)]
       have S1 := step_putN h x hk H.ck H.grows H.behind
       have S2 := step_putC S1.right g q2 q3
       refine ⟨S2.right, Int.le_refl _, fun k hk => ?_, S1.nodes, S1.grows⟩
       rw [S2.others k hk]; rfl
      · rw [if_pos hw] at h0; exact absurd h0 hw
   · rw [if_pos gl] at h0; exact absurd h0 gl
 · rw [if_pos g] at h0; cases h0
theorem happened_step {w : Wd} (h : RW w) {x : Hp} (h0 : (happened w x).2 = 0) : Step w (happened w x).1 x := by
 rw [happened] at h0 ⊢
 by_cases k1 : x.k = 10
 · rw [if_pos k1] at h0 ⊢
  rw [tipOf] at h0 ⊢
  by_cases g : 0 ≤ x.n ∧ x.n ≤ 60
  · rw [if_neg (by simpa using g)]
   exact ⟨⟨h.ns3, h.cs3, g, h.time, h.node, h.behind, h.client, h.holds⟩, Int.le_refl _, fun _ _ => rfl, ⟨0, fun _ _ => rfl⟩, grows_same⟩
  · rw [if_pos g] at h0; cases h0
 rw [if_neg k1] at h0 ⊢
 by_cases k2 : x.k = 11
 · rw [if_pos k2] at h0 ⊢
  rw [tickOf] at h0 ⊢
  by_cases g : 1 ≤ x.n ∧ x.n ≤ 100000 - w.t
  · rw [if_neg (by simpa using g)]
   have ht := h.time
   exact ⟨⟨h.ns3, h.cs3, h.tip, (show 0 ≤ w.t + x.n ∧ w.t + x.n ≤ 100000 by omega), h.node, h.behind, h.client, h.holds⟩, (show w.t ≤ w.t + x.n by omega), fun _ _ => rfl, ⟨0, fun _ _ => rfl⟩, grows_same⟩
  · rw [if_pos g] at h0; cases h0
 rw [if_neg k2] at h0 ⊢
 by_cases k3 : x.k = 8 ∨ x.k = 9 ∨ x.k = 12 ∨ x.k = 13
 · rw [if_pos k3] at h0 ⊢
  exact step_node h h0
 rw [if_neg k3] at h0 ⊢
 by_cases k4 : x.k = 4 ∨ x.k = 5 ∨ x.k = 15
 · rw [if_pos k4] at h0 ⊢
  exact step_link h h0
 rw [if_neg k4] at h0 ⊢
 by_cases k5 : x.k = 1 ∨ x.k = 2 ∨ x.k = 3 ∨ x.k = 6 ∨ x.k = 7 ∨ x.k = 14
 · rw [if_pos k5] at h0 ⊢
  exact step_client h h0
 rw [if_neg k5] at h0
 cases h0
end Go.Proofs.YtmoaobfmopimlafGreatDoor
