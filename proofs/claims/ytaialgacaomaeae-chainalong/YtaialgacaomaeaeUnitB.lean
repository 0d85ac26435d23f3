/- Units in memory; the reference's CheckUnit, SameUnit, TailOf. -/
import Derived.Test.YtaialgacaomaeaeUnitA
import Derived.Test.YtaialgacaomaeaeNoteB
import Derived.Test.YtaialgacaomaeaeSlEnt
namespace Go.Proofs.Ytaialgacaomaeae
open Go.RowKit

abbrev boxU (p : Int) (v : Value) : Obj := .cells #[.int .i64 p, v] 31

/-- A unit's places, with their room. -/
structure UnitAt (w : World) (v : Value) (u : Un) : Prop where
  ents : EntSl w v u.cells
  room : Roomy v

theorem UnitAt.later {w w' : World} {v : Value} {u : Un} (h : UnitAt w v u) (hb : Below w.heap.size w w') : UnitAt w' v u := ⟨h.ents.later hb, h.room⟩

abbrev topN : Nat := 9223372036854775807

theorem drop_en {es : List En} {k : Nat} {x : En} (h : es[k]? = some x) : es.drop k = x :: es.drop (k + 1) := by
  have hlt := (List.getElem?_eq_some_iff.1 h).1
  rw [List.drop_eq_getElem_cons hlt, (List.getElem?_eq_some_iff.1 h).2]

/-- An entry in its box. -/
abbrev BeS (W w : World) (b : Nat) (x : En) : Prop :=
  Below W.heap.size W w ∧ w.cell? ⟨b, 0, none⟩ = some (.int .i64 x.k) ∧ w.cell? ⟨b, 1, none⟩ = some (.int .i64 x.j) ∧ w.cell? ⟨b, 2, none⟩ = some (.int .i64 x.v) ∧ w.cell? ⟨b, 3, none⟩ = some (.int .i64 x.t) ∧ w.cell? ⟨b, 4, none⟩ = some (.int .i64 x.c)

theorem beS_step {W w w' : World} {b : Nat} {x : En} (h : BeS W w b x) (hb : Below w.heap.size w w') : BeS W w' b x :=
  ⟨h.1.trans (hb.mono h.1.size), cell_later hb h.2.1, cell_later hb h.2.2.1, cell_later hb h.2.2.2.1, cell_later hb h.2.2.2.2.1, cell_later hb h.2.2.2.2.2⟩

theorem beS_of {w : World} {b : Nat} {x : En} (h : w.heap[b]? = some (boxE x.k x.j x.v x.t x.c)) : BeS w w b x :=
  ⟨Below.refl _ _, Joins.cell_of_block h 0, Joins.cell_of_block h 1, Joins.cell_of_block h 2, Joins.cell_of_block h 3, Joins.cell_of_block h 4⟩

end Go.Proofs.Ytaialgacaomaeae
