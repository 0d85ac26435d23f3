/- Entries held against each other; the law's put. -/
import Derived.Test.YtnmapehbcccbhadDoorKit
import Derived.Deep.RegionHeld3
namespace Go.Proofs.YtnmapehbcccbhadDoor
open Go.RowKit

theorem eql_entry (k j v t c k' j' v' t' c' : Int) (w : World) :
    (binOp .eql 28 (ev k j v t c) (ev k' j' v' t' c')).run Tryd.prog w = .ok (.bool (!unlike k j v t c k' j' v' t' c')) w := by
  have u3 := Tryd.underlying3
  have a3 := Tryd.isAgg3
  have z3 := Tryd.sizeOf3
  have hS : Tryd.prog.underlying 28 = some (.struct (Tryd.prog.fieldsOf 28)) := by kernel_rfl
  have hp : Tryd.prog.stoodInHeld 28 = false := by kernel_rfl
  rw [run_eql_struct, show (10000 : Nat) = 9999 + 1 from rfl, run_equalIn_agg w 9999 28 _ _ hS hp]
  simp only [Program.fieldsOf, Tryd.underlying28]
  go_simp
  unfold unlike
  by_cases h1 : k = k' <;> by_cases h2 : j = j' <;> by_cases h3 : v = v' <;> by_cases h4 : t = t' <;> by_cases h5 : c = c' <;> simp [h1, h2, h3, h4, h5]

theorem put_any (a b c : Int) (w : World) :
    Calls Tryd.prog 29 #[.int .i64 a, .int .i64 b, .int .i64 c] w fun e w' => e = .returned (ev 1 a b c 0) ∧ w' = w.alloc (boxE 1 a b c 0) := by
  go_enter Tryd.func29, Tryd.ntmps29
  go_wp2
  exact bodyPost_ret (v := ev 1 a b c 0) (by simp [results, Tryd.results29, go_sem]) rfl ⟨rfl, rfl⟩

def e1 : En := ⟨1, 2, 5, 10, 0⟩

theorem e1_chk : e1.chk = 0 := by decide

end Go.Proofs.YtnmapehbcccbhadDoor
