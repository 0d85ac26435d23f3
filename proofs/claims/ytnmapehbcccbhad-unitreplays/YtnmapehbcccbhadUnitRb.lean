/- The row of the law carillonlaw.UnitReplays, given package unit's contracts. -/
import Derived.Test.YtnmapehbcccbhadUnitP
import Derived.Test.YtnmapehbcccbhadRows
import Derived.Handed
namespace Go.Proofs.Ytnmapehbcccbhad
open Go.ChangeShapes Go.WideShapes Go.ChangeAt Go.RowKit

set_option maxRecDepth 100000 in
theorem unitReplays_lifted (hK : Units) (os : Os) (started : os.Started) (H : Type) (enc : TypeId × Value → H) :
    ReturnsInHanded {} Try.checked os 4 .any (Rows.unitReplaysSpec.pre6 enc Try.prog Try.f4 Rows.unitReplaysRow.domain false) (Rows.unitReplaysSpec.post enc Try.prog Try.f4 false true false false) := by
  refine returnsInHanded_of_change (C := Try.checked) ownU started (by kernel_rfl) Try.func4
    (ChangeSpec.witness6 (enc := enc) (C := Try.checked) false ⟨#[], #[.slice none 0 0], []⟩ 8 (by kernel_rfl) (by kernel_rfl) (by kernel_rfl) (by kernel_rfl)) ?_
  intro W base args ds gs before hval hW _ _
  exact unitReplays_contract Rows.unitReplaysSpec rfl (fun _ _ => rfl) hK H enc W base args ds gs before hval hW

theorem unitReplays_given (hK : Units) : Rows.UnitReplaysSaid :=
  OpenClaim.holds_of_wide 4 Try.f4 rfl rfl rfl rfl rfl rfl rfl ⟨rfl, rfl, rfl, rfl, rfl⟩ rfl rfl rfl rfl rfl (by kernel_rfl) Try.func4 (by kernel_rfl)
    (of_decide_eq_true (by kernel_rfl)) (by unfold Func.isWrapper; first | (rw [if_pos (by decide +kernel)]; kernel_rfl) | (rw [if_neg (by decide +kernel)]; exact ⟨rfl, rfl⟩))
    (fun os started H enc _ => unitReplays_lifted hK os started H enc)
end Go.Proofs.Ytnmapehbcccbhad
