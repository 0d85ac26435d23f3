/- Entries held against each other; the law's put. -/
import Derived.Test.YtknjdbpdlodpbacGreatDoorKit
import Derived.Deep.RegionHeld3
namespace Go.Proofs.YtknjdbpdlodpbacGreatDoor
open Go.RowKit

theorem eql_entry (k j v t c k' j' v' t' c' : Int) (w : World) :
    (binOp .eql 26 (ev k j v t c) (ev k' j' v' t' c')).run Tryz.prog w = .ok (.bool (!unlike k j v t c k' j' v' t' c')) w := by
  have u3 := Tryz.underlying3
  have a3 := Tryz.isAgg3
  have z3 := Tryz.sizeOf3
  have hS : Tryz.prog.underlying 26 = some (.struct (Tryz.prog.fieldsOf 26)) := by kernel_rfl
  have hp : Tryz.prog.stoodInHeld 26 = false := by kernel_rfl
  rw [run_eql_struct, show (10000 : Nat) = 9999 + 1 from rfl, run_equalIn_agg w 9999 26 _ _ hS hp]
  simp only [Program.fieldsOf, Tryz.underlying26]
  go_simp
  unfold unlike
  by_cases h1 : k = k' <;> by_cases h2 : j = j' <;> by_cases h3 : v = v' <;> by_cases h4 : t = t' <;> by_cases h5 : c = c' <;> simp [h1, h2, h3, h4, h5]

def e1 : En := ⟨1, 2, 5, 10, 0⟩

theorem e1_chk : e1.chk = 0 := by decide

end Go.Proofs.YtknjdbpdlodpbacGreatDoor
