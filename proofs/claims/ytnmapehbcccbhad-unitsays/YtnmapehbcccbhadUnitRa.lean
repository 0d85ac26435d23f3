/- The row of the law carillonlaw.UnitSays, given package unit's contracts. -/
import Derived.Test.YtnmapehbcccbhadUnitP
import Derived.Test.YtnmapehbcccbhadRows
import Derived.Handed
namespace Go.Proofs.Ytnmapehbcccbhad
open Go.ChangeShapes Go.WideShapes Go.ChangeAt Go.RowKit

set_option maxRecDepth 100000 in
theorem unitSays_lifted (hK : Units) (os : Os) (started : os.Started) (H : Type) (enc : TypeId × Value → H) :
    ReturnsInHanded {} Try.checked os 3 .any (Rows.unitSaysSpec.pre6 enc Try.prog Try.f3 Rows.unitSaysRow.domain false) (Rows.unitSaysSpec.post enc Try.prog Try.f3 false true false false) := by
  refine returnsInHanded_of_change (C := Try.checked) ownU started (by kernel_rfl) Try.func3
    (ChangeSpec.witness6 (enc := enc) (C := Try.checked) false ⟨#[], #[.agg #[.int .i64 0, .slice none 0 0], .agg #[.int .i64 0, .int .i64 0, .int .i64 0, .int .i64 0, .int .i64 0, .int .i64 0, .int .i64 0, .int .i64 0], .agg #[.int .i64 0, .slice none 0 0]], []⟩ 8 (by kernel_rfl) (by kernel_rfl) (by kernel_rfl) (by kernel_rfl)) ?_
  intro W base args ds gs before hval hW _ _
  exact unitSays_contract Rows.unitSaysSpec rfl (fun _ _ _ _ => rfl) hK H enc W base args ds gs before hval hW

theorem unitSays_given (hK : Units) : Rows.UnitSaysSaid :=
  OpenClaim.holds_of_wide 3 Try.f3 rfl rfl rfl rfl rfl rfl rfl ⟨rfl, rfl, rfl, rfl, rfl⟩ rfl rfl rfl rfl rfl (by kernel_rfl) Try.func3 (by kernel_rfl)
    (of_decide_eq_true (by kernel_rfl)) (by unfold Func.isWrapper; first | (rw [if_pos (by decide +kernel)]; kernel_rfl) | (rw [if_neg (by decide +kernel)]; exact ⟨rfl, rfl⟩))
    (fun os started H enc _ => unitSays_lifted hK os started H enc)
end Go.Proofs.Ytnmapehbcccbhad
