/- The reference's Linked. -/
import Derived.Test.YtaialgacaomaeaeChainC
import Derived.Deep.QuietTactic
import Derived.BigQuiet
namespace Go.Proofs.Ytaialgacaomaeae
open Go.RowKit
open scoped Classical

/-- The end of a function whose results are a record and an entry in memory, and a slot. -/
theorem ret3 {fn : Func} {R : Ending → World → Prop} {a : Act} {W : World} {rb eb p q t : Nat} {r : Rc} {e : En} {y : Value} (hf : fn.results = #[.cell p 34, .cell q 24, .tmp t]) (hd : a.defers = [])
    (h1 : a.tmps.getD p undef = .pointer (some ⟨rb, 0, none⟩)) (h2 : a.tmps.getD q undef = .pointer (some ⟨eb, 0, none⟩)) (h3 : a.tmps.getD t undef = y) (hR : W.heap[rb]? = some (boxRc r)) (hE : W.heap[eb]? = some (boxE e.k e.j e.v e.t e.c)) (hp : R (.returned (.tuple #[r.val, e.val, y])) W) :
    bodyPost Try.prog fn R .ret a W := by
  have c0 : ∀ i, W.cell? ⟨rb, i, none⟩ = #[Value.int .i64 r.k, .int .i64 r.a, .int .i64 r.p, .int .i64 r.e.k, .int .i64 r.e.j, .int .i64 r.e.v, .int .i64 r.e.t, .int .i64 r.e.c][i]? := fun i => Joins.cell_of_block hR i
  have c1 : ∀ i, W.cell? ⟨eb, i, none⟩ = #[Value.int .i64 e.k, .int .i64 e.j, .int .i64 e.v, .int .i64 e.t, .int .i64 e.c][i]? := fun i => Joins.cell_of_block hE i
  have h1' : a.tmps[p]?.getD undef = .pointer (some ⟨rb, 0, none⟩) := by simpa using h1
  have h2' : a.tmps[q]?.getD undef = .pointer (some ⟨eb, 0, none⟩) := by simpa using h2
  have h3' : a.tmps[t]?.getD undef = y := by simpa using h3
  refine bodyPost_ret (v := .tuple #[r.val, e.val, y]) ?_ hd hp
  simp [results, hf, h1', h2', h3', go_sem, c0, c1]

/-- The two results, stored. -/
theorem link_stored {w : World} {rb eb : Nat} {q : Rc} {f : En} (hr : w.heap[rb]? = some (boxRc q)) (he : w.heap[eb]? = some (boxE f.k f.j f.v f.t f.c)) (hne : rb ≠ eb) (r : Rc) (e : En) {E : World}
    (hE : E = ((((((((w.setCell ⟨rb, 0, none⟩ (.int .i64 r.k)).setCell ⟨rb, 1, none⟩ (.int .i64 r.a)).setCell ⟨rb, 2, none⟩ (.int .i64 r.p)).setCell ⟨rb, 3, none⟩ (.int .i64 r.e.k)).setCell ⟨rb, 4, none⟩ (.int .i64 r.e.j)).setCell ⟨rb, 5, none⟩ (.int .i64 r.e.v)).setCell ⟨rb, 6, none⟩ (.int .i64 r.e.t)).setCell ⟨rb, 7, none⟩ (.int .i64 r.e.c))) :
    (((((E.setCell ⟨eb, 0, none⟩ (.int .i64 e.k)).setCell ⟨eb, 1, none⟩ (.int .i64 e.j)).setCell ⟨eb, 2, none⟩ (.int .i64 e.v)).setCell ⟨eb, 3, none⟩ (.int .i64 e.t)).setCell ⟨eb, 4, none⟩ (.int .i64 e.c)).heap[rb]? = some (boxRc r) ∧
    (((((E.setCell ⟨eb, 0, none⟩ (.int .i64 e.k)).setCell ⟨eb, 1, none⟩ (.int .i64 e.j)).setCell ⟨eb, 2, none⟩ (.int .i64 e.v)).setCell ⟨eb, 3, none⟩ (.int .i64 e.t)).setCell ⟨eb, 4, none⟩ (.int .i64 e.c)).heap[eb]? = some (boxE e.k e.j e.v e.t e.c) := by
  have h1 : E.heap[rb]? = some (boxRc r) := by rw [hE]; exact eight_stores hr r
  have h2 : E.heap[eb]? = some (boxE f.k f.j f.v f.t f.c) := by
    rw [hE, Below.heap_setCell _ _ _ _ (by exact hne.symm), Below.heap_setCell _ _ _ _ (by exact hne.symm), Below.heap_setCell _ _ _ _ (by exact hne.symm), Below.heap_setCell _ _ _ _ (by exact hne.symm), Below.heap_setCell _ _ _ _ (by exact hne.symm), Below.heap_setCell _ _ _ _ (by exact hne.symm), Below.heap_setCell _ _ _ _ (by exact hne.symm), Below.heap_setCell _ _ _ _ (by exact hne.symm)]
    exact he
  refine ⟨?_, ?_⟩
  · rw [Below.heap_setCell _ _ _ _ (by exact hne), Below.heap_setCell _ _ _ _ (by exact hne), Below.heap_setCell _ _ _ _ (by exact hne), Below.heap_setCell _ _ _ _ (by exact hne), Below.heap_setCell _ _ _ _ (by exact hne)]
    exact h1
  · have g1 := Joins.block_setCell h2 (i := 0) (.int .i64 e.k)
    have g2 := Joins.block_setCell g1 (i := 1) (.int .i64 e.j)
    have g3 := Joins.block_setCell g2 (i := 2) (.int .i64 e.v)
    have g4 := Joins.block_setCell g3 (i := 3) (.int .i64 e.t)
    have g5 := Joins.block_setCell g4 (i := 4) (.int .i64 e.c)
    simp only [List.setIfInBounds_toArray, List.set_cons_zero, List.set_cons_succ] at g5
    exact g5

theorem link_below {w W : World} {rb eb : Nat} (h : Below w.heap.size w W) (hr : w.heap.size ≤ rb) (he : w.heap.size ≤ eb) (v0 v1 v2 v3 v4 v5 v6 v7 u0 u1 u2 u3 u4 : Value) :
    Below w.heap.size w (((((((((((((W.setCell ⟨rb, 0, none⟩ v0).setCell ⟨rb, 1, none⟩ v1).setCell ⟨rb, 2, none⟩ v2).setCell ⟨rb, 3, none⟩ v3).setCell ⟨rb, 4, none⟩ v4).setCell ⟨rb, 5, none⟩ v5).setCell ⟨rb, 6, none⟩ v6).setCell ⟨rb, 7, none⟩ v7).setCell ⟨eb, 0, none⟩ u0).setCell ⟨eb, 1, none⟩ u1).setCell ⟨eb, 2, none⟩ u2).setCell ⟨eb, 3, none⟩ u3).setCell ⟨eb, 4, none⟩ u4) :=
  (((((below_eight h hr v0 v1 v2 v3 v4 v5 v6 v7).setCell (p := ⟨eb, 0, none⟩) he _).setCell (p := ⟨eb, 1, none⟩) he _).setCell (p := ⟨eb, 2, none⟩) he _).setCell (p := ⟨eb, 3, none⟩) he _).setCell (p := ⟨eb, 4, none⟩) he _

/-- An entry's cells. -/
abbrev C5 (w : World) (g : Nat) (x : En) : Prop := w.cell? ⟨g, 0, none⟩ = some (.int .i64 x.k) ∧ w.cell? ⟨g, 1, none⟩ = some (.int .i64 x.j) ∧ w.cell? ⟨g, 2, none⟩ = some (.int .i64 x.v) ∧ w.cell? ⟨g, 3, none⟩ = some (.int .i64 x.t) ∧ w.cell? ⟨g, 4, none⟩ = some (.int .i64 x.c)
theorem c5_far {w : World} {b g : Nat} (hne : g ≠ b) (i j : Nat) (v : Value) : (w.setCell ⟨b, i, none⟩ v).cell? ⟨g, j, none⟩ = w.cell? ⟨g, j, none⟩ := by
  have hh : (w.setCell ⟨b, i, none⟩ v).heap[g]? = w.heap[g]? := Below.heap_setCell _ _ _ _ (by show g ≠ b; exact hne)
  simp only [World.cell?, hh]
theorem c5_set {w : World} {g b : Nat} {x : En} (h : C5 w g x) (hne : g ≠ b) (i : Nat) (v : Value) : C5 (w.setCell ⟨b, i, none⟩ v) g x :=
  ⟨(c5_far hne _ _ _).trans h.1, (c5_far hne _ _ _).trans h.2.1, (c5_far hne _ _ _).trans h.2.2.1, (c5_far hne _ _ _).trans h.2.2.2.1, (c5_far hne _ _ _).trans h.2.2.2.2⟩
theorem c5_of {w : World} {g : Nat} {x : En} (h : w.heap[g]? = some (boxE x.k x.j x.v x.t x.c)) : C5 w g x := ⟨Joins.cell_of_block h 0, Joins.cell_of_block h 1, Joins.cell_of_block h 2, Joins.cell_of_block h 3, Joins.cell_of_block h 4⟩

end Go.Proofs.Ytaialgacaomaeae
