/- Chains of units in memory; the reference's Within, CheckChain, ReadAt. -/
import Derived.Test.YtaialgacaomaeaeChainA
import Derived.Test.YtaialgacaomaeaeUnitB
import Derived.Test.YtaialgacaomaeaeUnitE
import Derived.Deep.CutBlock
import Derived.Deep.RegionHeld3
namespace Go.Proofs.Ytaialgacaomaeae
open Go.RowKit
open scoped Classical

/-- A unit and the slice of its places. -/
structure Ub where (u : Un) (v : Value)

def Ub.cells (x : Ub) : List Value := [.int .i64 x.u.p, x.v]
theorem Ub.two (x : Ub) : x.cells.length = 2 := rfl
abbrev unitsOf (xs : List Ub) : List Un := xs.map Ub.u

/-- A slice of units. -/
structure ChAt (w : World) (v : Value) (xs : List Ub) : Prop where
  rows : SlOf Ub.cells 2 w v xs
  each : ∀ x, x ∈ xs → UnitAt w x.v x.u
  room : Roomy v

theorem ChAt.later {w w' : World} {v : Value} {xs : List Ub} (h : ChAt w v xs) (hb : Below w.heap.size w w') : ChAt w' v xs := ⟨h.rows.later hb, fun x hx => (h.each x hx).later hb, h.room⟩

/-- What Within reads of the place and of the unit ahead. -/
abbrev WiS (W w : World) (b g : Nat) (s : Value) (bv ov k : Nat) (x y : En) : Prop :=
  BeS W w b x ∧ w.cell? ⟨g, 1, none⟩ = some s ∧ w.cell? ⟨bv, ov + k * 5, none⟩ = some (.int .i64 y.k) ∧ w.cell? ⟨bv, ov + k * 5 + 1, none⟩ = some (.int .i64 y.j) ∧ w.cell? ⟨bv, ov + k * 5 + 2, none⟩ = some (.int .i64 y.v) ∧ w.cell? ⟨bv, ov + k * 5 + 3, none⟩ = some (.int .i64 y.t) ∧ w.cell? ⟨bv, ov + k * 5 + 4, none⟩ = some (.int .i64 y.c)
theorem wiS_step {W w w' : World} {b g : Nat} {s : Value} {bv ov k : Nat} {x y : En} (h : WiS W w b g s bv ov k x y) (hb : Below w.heap.size w w') : WiS W w' b g s bv ov k x y :=
  ⟨beS_step h.1 hb, cell_later hb h.2.1, cell_later hb h.2.2.1, cell_later hb h.2.2.2.1, cell_later hb h.2.2.2.2.1, cell_later hb h.2.2.2.2.2.1, cell_later hb h.2.2.2.2.2.2⟩

end Go.Proofs.Ytaialgacaomaeae
