/- The row of the law carillonlaw.DueRings, given package due's contracts. -/
import Derived.Test.YtmfoonalehmjoabDueP
import Derived.Handed
namespace Go.Proofs.Ytmfoonalehmjoab
open Go.ChangeShapes Go.WideShapes Go.ChangeAt Go.RowKit

set_option maxRecDepth 100000 in
theorem dueRings_lifted (hK : Dues) (os : Os) (started : os.Started) (H : Type) (enc : TypeId × Value → H) :
    ReturnsInHanded {} Try.checked os 7 .any (Rows.dueRingsSpec.pre6 enc Try.prog Try.f7 Rows.dueRingsRow.domain false) (Rows.dueRingsSpec.post enc Try.prog Try.f7 false true false false) := by
  refine returnsInHanded_of_change (C := Try.checked) ownB started (by kernel_rfl) Try.func7
    (ChangeSpec.witness6 (enc := enc) (C := Try.checked) false ⟨#[], #[.agg #[.slice none 0 0, .slice none 0 0], .int .i64 0], []⟩ 8 (by kernel_rfl) (by kernel_rfl) (by kernel_rfl) (by kernel_rfl)) ?_
  intro W base args ds gs before hval hW _ _
  exact dueRings_contract Rows.dueRingsSpec rfl (fun _ _ _ => rfl) hK H enc W base args ds gs before hval hW

theorem dueRings_given (hK : Dues) : Rows.DueRingsSaid :=
  OpenClaim.holds_of_wide 7 Try.f7 rfl rfl rfl rfl rfl rfl rfl ⟨rfl, rfl, rfl, rfl, rfl⟩ rfl rfl rfl rfl rfl (by kernel_rfl) Try.func7 (by kernel_rfl)
    (of_decide_eq_true (by kernel_rfl)) (by unfold Func.isWrapper; first | (rw [if_pos (by decide +kernel)]; kernel_rfl) | (rw [if_neg (by decide +kernel)]; exact ⟨rfl, rfl⟩))
    (fun os started H enc _ => dueRings_lifted hK os started H enc)
end Go.Proofs.Ytmfoonalehmjoab
