/- The row of the law carillonlaw.DueLater, given package due's contracts. -/
import Derived.Test.YtmfoonalehmjoabDueP
import Derived.Handed
namespace Go.Proofs.Ytmfoonalehmjoab
open Go.ChangeShapes Go.WideShapes Go.ChangeAt Go.RowKit

set_option maxRecDepth 100000 in
theorem dueLater_lifted (hK : Dues) (os : Os) (started : os.Started) (H : Type) (enc : TypeId × Value → H) :
    ReturnsInHanded {} Try.checked os 8 .any (Rows.dueLaterSpec.pre6 enc Try.prog Try.f8 Rows.dueLaterRow.domain false) (Rows.dueLaterSpec.post enc Try.prog Try.f8 false true false false) := by
  refine returnsInHanded_of_change (C := Try.checked) ownB started (by kernel_rfl) Try.func8
    (ChangeSpec.witness6 (enc := enc) (C := Try.checked) false ⟨#[], #[.agg #[.slice none 0 0, .slice none 0 0], .int .i64 0, .int .i64 0], []⟩ 8 (by kernel_rfl) (by kernel_rfl) (by kernel_rfl) (by kernel_rfl)) ?_
  intro W base args ds gs before hval hW _ _
  exact dueLater_contract Rows.dueLaterSpec rfl (fun _ _ _ _ => rfl) hK H enc W base args ds gs before hval hW

theorem dueLater_given (hK : Dues) : Rows.DueLaterSaid :=
  OpenClaim.holds_of_wide 8 Try.f8 rfl rfl rfl rfl rfl rfl rfl ⟨rfl, rfl, rfl, rfl, rfl⟩ rfl rfl rfl rfl rfl (by kernel_rfl) Try.func8 (by kernel_rfl)
    (of_decide_eq_true (by kernel_rfl)) (by unfold Func.isWrapper; first | (rw [if_pos (by decide +kernel)]; kernel_rfl) | (rw [if_neg (by decide +kernel)]; exact ⟨rfl, rfl⟩))
    (fun os started H enc _ => dueLater_lifted hK os started H enc)
end Go.Proofs.Ytmfoonalehmjoab
