/- Entries held against each other; the law's put. -/
import Derived.Test.YtbokdcdnandgbaeKit
import Derived.Deep.RegionHeld3
namespace Go.Proofs.Ytbokdcdnandgbae
open Go.RowKit

theorem eql_entry (k j v t c k' j' v' t' c' : Int) (w : World) :
    (binOp .eql 24 (ev k j v t c) (ev k' j' v' t' c')).run Try.prog w = .ok (.bool (!unlike k j v t c k' j' v' t' c')) w := by
  have u3 := Try.underlying3
  have a3 := Try.isAgg3
  have z3 := Try.sizeOf3
  have hS : Try.prog.underlying 24 = some (.struct (Try.prog.fieldsOf 24)) := by kernel_rfl
  have hp : Try.prog.stoodInHeld 24 = false := by kernel_rfl
  rw [run_eql_struct, show (10000 : Nat) = 9999 + 1 from rfl, run_equalIn_agg w 9999 24 _ _ hS hp]
  simp only [Program.fieldsOf, Try.underlying24]
  go_simp
  unfold unlike
  by_cases h1 : k = k' <;> by_cases h2 : j = j' <;> by_cases h3 : v = v' <;> by_cases h4 : t = t' <;> by_cases h5 : c = c' <;> simp [h1, h2, h3, h4, h5]

theorem put_any (a b c : Int) (w : World) :
    Calls Try.prog 41 #[.int .i64 a, .int .i64 b, .int .i64 c] w fun e w' => e = .returned (ev 1 a b c 0) ∧ w' = w.alloc (boxE 1 a b c 0) := by
  go_enter Try.func41, Try.ntmps41
  go_wp2
  exact bodyPost_ret (v := ev 1 a b c 0) (by simp [results, Try.results41, go_sem]) rfl ⟨rfl, rfl⟩

def e1 : En := ⟨1, 2, 5, 10, 0⟩

theorem e1_chk : e1.chk = 0 := by decide

end Go.Proofs.Ytbokdcdnandgbae
