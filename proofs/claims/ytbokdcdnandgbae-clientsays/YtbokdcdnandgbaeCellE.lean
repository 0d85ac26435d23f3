/- The cells of an entry in a block. -/
import Derived.Test.YtbokdcdnandgbaeKit
namespace Go.Proofs.Ytbokdcdnandgbae
open Go.RowKit

/-- An entry's cells. -/
abbrev C5 (w : World) (g : Nat) (x : En) : Prop := w.cell? ⟨g, 0, none⟩ = some (.int .i64 x.k) ∧ w.cell? ⟨g, 1, none⟩ = some (.int .i64 x.j) ∧ w.cell? ⟨g, 2, none⟩ = some (.int .i64 x.v) ∧ w.cell? ⟨g, 3, none⟩ = some (.int .i64 x.t) ∧ w.cell? ⟨g, 4, none⟩ = some (.int .i64 x.c)
theorem c5_far {w : World} {b g : Nat} (hne : g ≠ b) (i j : Nat) (v : Value) : (w.setCell ⟨b, i, none⟩ v).cell? ⟨g, j, none⟩ = w.cell? ⟨g, j, none⟩ := by
  have hh : (w.setCell ⟨b, i, none⟩ v).heap[g]? = w.heap[g]? := Below.heap_setCell _ _ _ _ (by show g ≠ b; exact hne)
  simp only [World.cell?, hh]
theorem c5_set {w : World} {g b : Nat} {x : En} (h : C5 w g x) (hne : g ≠ b) (i : Nat) (v : Value) : C5 (w.setCell ⟨b, i, none⟩ v) g x :=
  ⟨(c5_far hne _ _ _).trans h.1, (c5_far hne _ _ _).trans h.2.1, (c5_far hne _ _ _).trans h.2.2.1, (c5_far hne _ _ _).trans h.2.2.2.1, (c5_far hne _ _ _).trans h.2.2.2.2⟩
theorem c5_of {w : World} {g : Nat} {x : En} (h : w.heap[g]? = some (boxE x.k x.j x.v x.t x.c)) : C5 w g x := ⟨Joins.cell_of_block h 0, Joins.cell_of_block h 1, Joins.cell_of_block h 2, Joins.cell_of_block h 3, Joins.cell_of_block h 4⟩

end Go.Proofs.Ytbokdcdnandgbae
