/- The reference's Linked, whole; ReadAt. -/
import Derived.Test.YtaialgacaomaeaeChainE0
import Derived.Test.YtaialgacaomaeaeChainE1
import Derived.Test.YtaialgacaomaeaeChainE2
namespace Go.Proofs.Ytaialgacaomaeae
open Go.RowKit
open scoped Classical

theorem plc_eq {us : List Un} {k m : Nat} {u : Un} {y : En} (hu : us[k]? = some u) (hy : u.cells[m]? = some y) : plc us k m = y := by
  have e : us.getD k Un.zero = u := by rw [List.getD_eq_getElem?_getD, hu]; rfl
  unfold plc
  rw [e, List.getD_eq_getElem?_getD, hy]
  rfl

/-- A right chain in memory. -/
theorem right_three {w : World} {v : Value} {xs : List Ub} (h : ChAt w v xs) (hd : ckChain (unitsOf xs) = 0) :
    ∃ U0 U1 U2 a0 c0 a1 c1 a2 c2 b off c, xs = [⟨U0, .slice a0 60 c0⟩, ⟨U1, .slice a1 60 c1⟩, ⟨U2, .slice a2 60 c2⟩] ∧ v = .slice (some ⟨b, off, none⟩) 3 c ∧ U0.ck = 0 ∧ U1.ck = 0 ∧ U2.ck = 0 := by
  obtain ⟨a, n, c, rfl, _⟩ := id h.room
  have hl := h.rows.len
  have h3 := ckChain_len hd
  rw [List.length_map] at h3
  obtain rfl : n = 3 := by omega
  obtain ⟨u0, u1, u2, a0, n0, c0, a1, n1, c1, a2, n2, c2, b, off, rfl, rfl, hE, ⟨g0, g1, g2⟩, l0, l1, l2⟩ := three_of h
  obtain ⟨v0, v1, v2, e, d0, d1, d2, _, _⟩ := ckChain_zero.1 hd
  have e' : [u0, u1, u2] = [v0, v1, v2] := e
  simp only [List.cons.injEq, and_true] at e'
  obtain ⟨rfl, rfl, rfl⟩ := e'
  have m0 := (Un.ck_zero.1 d0).2.1
  have m1 := (Un.ck_zero.1 d1).2.1
  have m2 := (Un.ck_zero.1 d2).2.1
  obtain rfl : n0 = 60 := by omega
  obtain rfl : n1 = 60 := by omega
  obtain rfl : n2 = 60 := by omega
  exact ⟨u0, u1, u2, a0, c0, a1, c1, a2, c2, b, off, c, rfl, rfl, d0, d1, d2⟩

/-- The end of a function whose results are an entry in memory and a slot. -/
theorem ret_ent {fn : Func} {R : Ending → World → Prop} {a : Act} {W : World} {b p q : Nat} {e : En} {y : Value} (hf : fn.results = #[.cell p 24, .tmp q]) (hd : a.defers = [])
    (h2 : a.tmps.getD p undef = .pointer (some ⟨b, 0, none⟩)) (h3 : a.tmps.getD q undef = y) (hR : W.heap[b]? = some (boxE e.k e.j e.v e.t e.c)) (hp : R (.returned (.tuple #[e.val, y])) W) :
    bodyPost Try.prog fn R .ret a W := by
  have c0 : ∀ i, W.cell? ⟨b, i, none⟩ = #[Value.int .i64 e.k, .int .i64 e.j, .int .i64 e.v, .int .i64 e.t, .int .i64 e.c][i]? := fun i => Joins.cell_of_block hR i
  refine bodyPost_ret (v := .tuple #[e.val, y]) ?_ hd hp
  rw [results_cell_tmp hf, h2, h3]
  simp [go_sem, c0]

theorem five_below {B : Nat} {a W : World} {b : Nat} (h : Below B a W) (hb : B ≤ b) (v0 v1 v2 v3 v4 : Value) :
    Below B a (((((W.setCell ⟨b, 0, none⟩ v0).setCell ⟨b, 1, none⟩ v1).setCell ⟨b, 2, none⟩ v2).setCell ⟨b, 3, none⟩ v3).setCell ⟨b, 4, none⟩ v4) :=
  ((((h.setCell (p := ⟨b, 0, none⟩) hb _).setCell (p := ⟨b, 1, none⟩) hb _).setCell (p := ⟨b, 2, none⟩) hb _).setCell (p := ⟨b, 3, none⟩) hb _).setCell (p := ⟨b, 4, none⟩) hb _

theorem five_box {W : World} {b : Nat} {f : En} (h : W.heap[b]? = some (boxE f.k f.j f.v f.t f.c)) (e : En) :
    (((((W.setCell ⟨b, 0, none⟩ (.int .i64 e.k)).setCell ⟨b, 1, none⟩ (.int .i64 e.j)).setCell ⟨b, 2, none⟩ (.int .i64 e.v)).setCell ⟨b, 3, none⟩ (.int .i64 e.t)).setCell ⟨b, 4, none⟩ (.int .i64 e.c)).heap[b]? = some (boxE e.k e.j e.v e.t e.c) := by
  have g1 := Joins.block_setCell h (i := 0) (.int .i64 e.k)
  have g2 := Joins.block_setCell g1 (i := 1) (.int .i64 e.j)
  have g3 := Joins.block_setCell g2 (i := 2) (.int .i64 e.v)
  have g4 := Joins.block_setCell g3 (i := 3) (.int .i64 e.t)
  have g5 := Joins.block_setCell g4 (i := 4) (.int .i64 e.c)
  simp only [List.setIfInBounds_toArray, List.set_cons_zero, List.set_cons_succ] at g5
  exact g5

/-- What ReadAt reads. -/
abbrev WrS2 (W w : World) (B o : Nat) (s : Value) (b off k : Nat) (x : En) : Prop :=
  Below W.heap.size W w ∧ w.cell? ⟨B, o, none⟩ = some s ∧ w.cell? ⟨b, off + k * 5, none⟩ = some (.int .i64 x.k) ∧ w.cell? ⟨b, off + k * 5 + 1, none⟩ = some (.int .i64 x.j) ∧ w.cell? ⟨b, off + k * 5 + 2, none⟩ = some (.int .i64 x.v) ∧ w.cell? ⟨b, off + k * 5 + 3, none⟩ = some (.int .i64 x.t) ∧ w.cell? ⟨b, off + k * 5 + 4, none⟩ = some (.int .i64 x.c)
theorem wrS2_step {W w w' : World} {B o : Nat} {s : Value} {b off k : Nat} {x : En} (h : WrS2 W w B o s b off k x) (hb : Below w.heap.size w w') : WrS2 W w' B o s b off k x :=
  ⟨h.1.trans (hb.mono h.1.size), cell_later hb h.2.1, cell_later hb h.2.2.1, cell_later hb h.2.2.2.1, cell_later hb h.2.2.2.2.1, cell_later hb h.2.2.2.2.2.1, cell_later hb h.2.2.2.2.2.2⟩

end Go.Proofs.Ytaialgacaomaeae
