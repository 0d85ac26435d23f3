/- The row of the law carillonlaw.DueSays, given package due's contracts. -/
import Derived.Test.YtmfoonalehmjoabDueP
import Derived.Handed
namespace Go.Proofs.Ytmfoonalehmjoab
open Go.ChangeShapes Go.WideShapes Go.ChangeAt Go.RowKit

set_option maxRecDepth 100000 in
theorem dueSays_lifted (hK : Dues) (hR : RefDue) (os : Os) (started : os.Started) (H : Type) (enc : TypeId × Value → H) :
    ReturnsInHanded {} Try.checked os 6 .any (Rows.dueSaysSpec.pre6 enc Try.prog Try.f6 Rows.dueSaysRow.domain false) (Rows.dueSaysSpec.post enc Try.prog Try.f6 false true false false) := by
  refine returnsInHanded_of_change (C := Try.checked) ownB started (by kernel_rfl) Try.func6
    (ChangeSpec.witness6 (enc := enc) (C := Try.checked) false ⟨#[], #[.agg #[.slice none 0 0, .slice none 0 0], .int .i64 0], []⟩ 8 (by kernel_rfl) (by kernel_rfl) (by kernel_rfl) (by kernel_rfl)) ?_
  intro W base args ds gs before hval hW _ _
  exact dueSays_contract Rows.dueSaysSpec rfl (fun _ _ _ => rfl) hK hR H enc W base args ds gs before hval hW

theorem dueSays_given (hK : Dues) (hR : RefDue) : Rows.DueSaysSaid :=
  OpenClaim.holds_of_wide 6 Try.f6 rfl rfl rfl rfl rfl rfl rfl ⟨rfl, rfl, rfl, rfl, rfl⟩ rfl rfl rfl rfl rfl (by kernel_rfl) Try.func6 (by kernel_rfl)
    (of_decide_eq_true (by kernel_rfl)) (by unfold Func.isWrapper; first | (rw [if_pos (by decide +kernel)]; kernel_rfl) | (rw [if_neg (by decide +kernel)]; exact ⟨rfl, rfl⟩))
    (fun os started H enc _ => dueSays_lifted hK hR os started H enc)
end Go.Proofs.Ytmfoonalehmjoab
