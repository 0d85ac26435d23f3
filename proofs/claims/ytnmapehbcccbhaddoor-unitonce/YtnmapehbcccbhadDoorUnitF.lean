/- The reference's FreshUnit: the library's slices.Repeat of one blank entry, sixty times. The reference's UnitNext. The reference's UnitNext at a write; UnitNext whole. -/
import Derived.Test.YtnmapehbcccbhadDoorUnitB
import Derived.Test.YtnmapehbcccbhadDoorCopyK
import Derived.Laws.OwnMore
import Derived.Deep.CutBlock
namespace Go.Proofs.YtnmapehbcccbhadDoor
open Go.RowKit

/-- So many blank entries' cells. -/
def repB (n : Nat) : List Value := (List.replicate n blankE).flatMap En.cells

theorem repB_len (n : Nat) : (repB n).length = n * 5 := by
  rw [repB, row_len En.five, List.length_replicate]

theorem repB_add (n k : Nat) : repB (n + k) = repB n ++ repB k := by
  rw [repB, repB, repB, ← List.flatMap_append, List.replicate_append_replicate]

theorem repB_one (n : Nat) : ∀ u ∈ repB n, u.oneCell' = true := oneE _

theorem sizeE : (Tryd.prog.info? 28).map (·.size) = some 5 := by kernel_rfl

theorem splice_tail {A T C : List Value} {n k : Nat} (hA : A.length = n * 5) (hC : C.length = k * 5) : splice (A ++ T) (n * 5) C = A ++ C ++ T.drop (k * 5) := by
  unfold splice
  rw [List.take_append_of_le_length (by omega), List.take_of_length_le (by omega), List.append_assoc, hC]
  congr 2
  rw [List.drop_append, List.drop_eq_nil_of_le (by omega), hA, List.nil_append]
  congr 1
  omega

/-- So many of a row of sixty are blank ones. -/
def RepAt (W : World) (g n : Nat) : Prop := ∃ tl : List Value, tl.length = (60 - n) * 5 ∧ W.heap[g]? = some (.cells (repB n ++ tl).toArray 28 (0, 0))

end Go.Proofs.YtnmapehbcccbhadDoor
namespace Go.Proofs.YtnmapehbcccbhadDoor
open Go.RowKit

/-- Answers a unit and what is wrong. -/
abbrev AnsU (f : Nat) (args : Array Value) (w : World) (r : Un × Int) : Prop :=
  Calls Tryd.prog f args w fun e w' => ∃ v', e = .returned (.tuple #[.agg #[.int .i64 r.1.p, v'], .int .i64 r.2]) ∧ UnitAt w' v' r.1 ∧ Below w.heap.size w w'

theorem unit_nil (w : World) : UnitAt w (.slice none 0 0) Un.zero := ⟨⟨none, 0, rfl, Or.inl rfl⟩, ⟨none, 0, 0, rfl, Nat.le_refl _⟩⟩

theorem unit_stored {W : World} {b : Nat} {p : Int} {v : Value} (h : W.heap[b]? = some (boxU p v)) (x : Int) (u : Value) : ((W.setCell ⟨b, 0, none⟩ (.int .i64 x)).setCell ⟨b, 1, none⟩ u).heap[b]? = some (boxU x u) := by
  have h0 : (W.setCell ⟨b, 0, none⟩ (.int .i64 x)).heap[b]? = some (boxU x v) := by rw [Joins.block_setCell h]; rfl
  rw [Joins.block_setCell h0]; rfl

theorem below_two2 {B : Nat} {a W : World} {b : Nat} (h : Below B a W) (hb : B ≤ b) (u1 u2 : Value) : Below B a ((W.setCell ⟨b, 0, none⟩ u1).setCell ⟨b, 1, none⟩ u2) :=
  (h.setCell (p := ⟨b, 0, none⟩) hb _).setCell (p := ⟨b, 1, none⟩) hb _

/-- The end of a function whose results are a unit in memory and a slot. -/
theorem ret_unit {fn : Func} {R : Ending → World → Prop} {a : Act} {W : World} {b p q : Nat} {x : Int} {s : Option Addr} {n c : Nat} {y : Value} (hf : fn.results = #[.cell p 46, .tmp q]) (hd : a.defers = [])
    (h2 : a.tmps.getD p undef = .pointer (some ⟨b, 0, none⟩)) (h3 : a.tmps.getD q undef = y) (hR : W.heap[b]? = some (boxU x (.slice s n c))) (hp : R (.returned (.tuple #[.agg #[.int .i64 x, .slice s n c], y])) W) :
    bodyPost Tryd.prog fn R .ret a W := by
  have c0 : ∀ i, W.cell? ⟨b, i, none⟩ = #[Value.int .i64 x, .slice s n c][i]? := fun i => Joins.cell_of_block hR i
  refine bodyPost_ret (v := .tuple #[.agg #[.int .i64 x, .slice s n c], y]) ?_ hd hp
  rw [results_cell_tmp hf, h2, h3]
  simp [go_sem, c0]

theorem flat_setE : ∀ {es : List En} {k f : Nat} {y z : En} {u : Value}, es[k]? = some y → f < 5 → z.cells = y.cells.set f u → (es.flatMap En.cells).set (k * 5 + f) u = (es.set k z).flatMap En.cells
  | [], k, _, _, _, _, h, _, _ => by simp at h
  | x :: r, 0, f, y, z, u, h, hf, hz => by
    simp at h; subst h
    rw [Nat.zero_mul, Nat.zero_add, List.set_cons_zero, List.flatMap_cons, List.flatMap_cons, List.set_append, if_pos (by rw [En.five]; exact hf), hz]
  | x :: r, k + 1, f, y, z, u, h, hf, hz => by
    have ih := flat_setE (es := r) (k := k) (by simpa using h) hf hz
    rw [List.set_cons_succ, List.flatMap_cons, List.flatMap_cons, List.set_append, if_neg (by rw [En.five]; omega), En.five, show (k + 1) * 5 + f - 5 = k * 5 + f by omega, ih]

theorem flat_five {es : List En} {k : Nat} (hk : k < es.length) (e : En) (tl : List Value) :
    ((((((es.flatMap En.cells ++ tl).set (k * 5) (.int .i64 e.k)).set (k * 5 + 1) (.int .i64 e.j)).set (k * 5 + 2) (.int .i64 e.v)).set (k * 5 + 3) (.int .i64 e.t)).set (k * 5 + 4) (.int .i64 e.c)) = (es.set k e).flatMap En.cells ++ tl := by
  obtain ⟨y, hy⟩ : ∃ y, es[k]? = some y := ⟨es[k], List.getElem?_eq_getElem hk⟩
  have hl : (es.flatMap En.cells).length = es.length * 5 := row_len En.five es
  have g := fun (xs : List En) (hx : xs.length = es.length) (o : Nat) (ho : o < 5) (u : Value) => List.set_append_left (t := tl) (s := xs.flatMap En.cells) (k * 5 + o) u (by rw [row_len En.five, hx]; omega)
  rw [show k * 5 = k * 5 + 0 from rfl, g es rfl 0 (by omega), flat_setE hy (by omega) (z := ⟨e.k, y.j, y.v, y.t, y.c⟩) rfl]
  have h1 : (es.set k ⟨e.k, y.j, y.v, y.t, y.c⟩)[k]? = some ⟨e.k, y.j, y.v, y.t, y.c⟩ := List.getElem?_set_self hk
  rw [Nat.add_zero, g _ (by simp) 1 (by omega), flat_setE h1 (by omega) (z := ⟨e.k, e.j, y.v, y.t, y.c⟩) rfl, List.set_set]
  have h2 : (es.set k ⟨e.k, e.j, y.v, y.t, y.c⟩)[k]? = some ⟨e.k, e.j, y.v, y.t, y.c⟩ := List.getElem?_set_self hk
  rw [g _ (by simp) 2 (by omega), flat_setE h2 (by omega) (z := ⟨e.k, e.j, e.v, y.t, y.c⟩) rfl, List.set_set]
  have h3 : (es.set k ⟨e.k, e.j, e.v, y.t, y.c⟩)[k]? = some ⟨e.k, e.j, e.v, y.t, y.c⟩ := List.getElem?_set_self hk
  rw [g _ (by simp) 3 (by omega), flat_setE h3 (by omega) (z := ⟨e.k, e.j, e.v, e.t, y.c⟩) rfl, List.set_set]
  have h4 : (es.set k ⟨e.k, e.j, e.v, e.t, y.c⟩)[k]? = some ⟨e.k, e.j, e.v, e.t, y.c⟩ := List.getElem?_set_self hk
  rw [g _ (by simp) 4 (by omega), flat_setE h4 (by omega) (z := ⟨e.k, e.j, e.v, e.t, e.c⟩) rfl, List.set_set]

/-- One entry stored into a block of entries. -/
theorem stored_five {W : World} {g : Nat} {T : TypeId} {es : List En} {tl : List Value} (h : W.heap[g]? = some (.cells (es.flatMap En.cells ++ tl).toArray T)) {k : Nat} (hk : k < es.length) (e : En) :
    (((((W.setCell ⟨g, k * 5, none⟩ (.int .i64 e.k)).setCell ⟨g, k * 5 + 1, none⟩ (.int .i64 e.j)).setCell ⟨g, k * 5 + 2, none⟩ (.int .i64 e.v)).setCell ⟨g, k * 5 + 3, none⟩ (.int .i64 e.t)).setCell ⟨g, k * 5 + 4, none⟩ (.int .i64 e.c)).heap[g]? = some (.cells ((es.set k e).flatMap En.cells ++ tl).toArray T) := by
  have h1 := Joins.block_setCell h (i := k * 5) (.int .i64 e.k)
  have h2 := Joins.block_setCell h1 (i := k * 5 + 1) (.int .i64 e.j)
  have h3 := Joins.block_setCell h2 (i := k * 5 + 2) (.int .i64 e.v)
  have h4 := Joins.block_setCell h3 (i := k * 5 + 3) (.int .i64 e.t)
  have h5 := Joins.block_setCell h4 (i := k * 5 + 4) (.int .i64 e.c)
  rw [h5]
  simp only [List.setIfInBounds_toArray]
  rw [flat_five hk]

theorem below_fiveE {B : Nat} {a W : World} {g : Nat} (h : Below B a W) (hb : B ≤ g) (o : Nat) (v0 v1 v2 v3 v4 : Value) :
    Below B a (((((W.setCell ⟨g, o, none⟩ v0).setCell ⟨g, o + 1, none⟩ v1).setCell ⟨g, o + 2, none⟩ v2).setCell ⟨g, o + 3, none⟩ v3).setCell ⟨g, o + 4, none⟩ v4) :=
  ((((h.setCell (p := ⟨g, o, none⟩) hb _).setCell (p := ⟨g, o + 1, none⟩) hb _).setCell (p := ⟨g, o + 2, none⟩) hb _).setCell (p := ⟨g, o + 3, none⟩) hb _).setCell (p := ⟨g, o + 4, none⟩) hb _

theorem other_fiveE {W : World} {g b : Nat} (hne : b ≠ g) (o : Nat) (v0 v1 v2 v3 v4 : Value) :
    (((((W.setCell ⟨g, o, none⟩ v0).setCell ⟨g, o + 1, none⟩ v1).setCell ⟨g, o + 2, none⟩ v2).setCell ⟨g, o + 3, none⟩ v3).setCell ⟨g, o + 4, none⟩ v4).heap[b]? = W.heap[b]? := by
  rw [Below.heap_setCell _ _ _ _ (by exact hne), Below.heap_setCell _ _ _ _ (by exact hne), Below.heap_setCell _ _ _ _ (by exact hne), Below.heap_setCell _ _ _ _ (by exact hne), Below.heap_setCell _ _ _ _ (by exact hne)]

end Go.Proofs.YtnmapehbcccbhadDoor
namespace Go.Proofs.YtnmapehbcccbhadDoor
open Go.RowKit

theorem name_world {P : World → Prop} {W : World} (h : P W) : ∃ V, V = W ∧ P V := ⟨W, rfl, h⟩

/-- A row of the call's own that has something in it. -/
theorem owns_form {w : World} {base : Nat} {T : TypeId} {k n : Nat} {v : Value} {xs : List Value} (h : w.ownsRow base T k v n xs) (h0 : 0 < n) :
    ∃ g cap tl, v = .slice (some ⟨g, 0, none⟩) n cap ∧ base ≤ g ∧ n ≤ cap ∧ w.heap[g]? = some (.cells (xs ++ tl).toArray T) := by
  rcases h.2 with ⟨_, hn⟩ | ⟨g, cap, cur, hv, hb, hg, hle, _, _, htake⟩
  · omega
  · refine ⟨g, cap, cur.toList.drop (n * k), hv, hb, hle, ?_⟩
    rw [← htake, List.take_append_drop]
    simpa using hg

/-- The entries at the front of a block. -/
theorem ents_front {W : World} {g n cap : Nat} {T : TypeId} {es : List En} {tl : List Value} (hl : es.length = n) (h : W.heap[g]? = some (.cells (es.flatMap En.cells ++ tl).toArray T)) : EntSl W (.slice (some ⟨g, 0, none⟩) n cap) es := by
  refine ⟨some ⟨g, 0, none⟩, cap, by rw [hl], Or.inr ⟨g, 0, rfl, fun j x hj i u hi => ?_⟩⟩
  have hf := row_flat En.five es j x hj i u hi
  have hlt := (List.getElem?_eq_some_iff.1 hf).1
  rw [Joins.cell_of_block h, Nat.zero_add, List.getElem?_toArray, List.getElem?_append_left hlt]
  exact hf

/-- What a write reads. -/
abbrev WrS (W w : World) (B : Nat) (s : Value) (b off k : Nat) (x : En) : Prop :=
  Below W.heap.size W w ∧ w.cell? ⟨B, 1, none⟩ = some s ∧ w.cell? ⟨B + 1, 1, none⟩ = some (.int .i64 (k : Int)) ∧ w.cell? ⟨b, off + k * 5, none⟩ = some (.int .i64 x.k) ∧ w.cell? ⟨b, off + k * 5 + 1, none⟩ = some (.int .i64 x.j) ∧ w.cell? ⟨b, off + k * 5 + 2, none⟩ = some (.int .i64 x.v) ∧ w.cell? ⟨b, off + k * 5 + 3, none⟩ = some (.int .i64 x.t) ∧ w.cell? ⟨b, off + k * 5 + 4, none⟩ = some (.int .i64 x.c)

theorem wrS_step {W w w' : World} {B : Nat} {s : Value} {b off k : Nat} {x : En} (h : WrS W w B s b off k x) (hb : Below w.heap.size w w') : WrS W w' B s b off k x :=
  ⟨h.1.trans (hb.mono h.1.size), cell_later hb h.2.1, cell_later hb h.2.2.1, cell_later hb h.2.2.2.1, cell_later hb h.2.2.2.2.1, cell_later hb h.2.2.2.2.2.1, cell_later hb h.2.2.2.2.2.2.1, cell_later hb h.2.2.2.2.2.2.2⟩

end Go.Proofs.YtnmapehbcccbhadDoor
