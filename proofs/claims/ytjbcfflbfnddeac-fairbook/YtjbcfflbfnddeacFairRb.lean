/- The row of the law carillonlaw.FairBook, given contracts. -/
import Derived.Test.YtjbcfflbfnddeacFairP
import Derived.Handed
namespace Go.Proofs.Ytjbcfflbfnddeac
open Go.ChangeShapes Go.WideShapes Go.ChangeAt Go.RowKit

set_option maxRecDepth 100000 in
theorem fairBook_lifted (hK : Lives) (hF : BookF) (os : Os) (started : os.Started) (H : Type) (enc : TypeId × Value → H) :
    ReturnsInHanded {} Try.checked os 4 .any (Rows.fairBookSpec.pre6 enc Try.prog Try.f4 Rows.fairBookRow.domain false) (Rows.fairBookSpec.post enc Try.prog Try.f4 false true false false) := by
  refine returnsInHanded_of_change (C := Try.checked) ownB started (by kernel_rfl) Try.func4
    (ChangeSpec.witness6 (enc := enc) (C := Try.checked) false ⟨#[], #[.slice none 0 0], []⟩ 8 (by kernel_rfl) (by kernel_rfl) (by kernel_rfl) (by kernel_rfl)) ?_
  intro W base args ds gs before hval hW _ _
  exact fairBook_contract Rows.fairBookSpec rfl (fun _ _ => rfl) hK hF H enc W base args ds gs before hval hW

theorem fairBook_given (hK : Lives) (hF : BookF) : Rows.FairBookSaid :=
  OpenClaim.holds_of_wide 4 Try.f4 rfl rfl rfl rfl rfl rfl rfl ⟨rfl, rfl, rfl, rfl, rfl⟩ rfl rfl rfl rfl rfl (by kernel_rfl) Try.func4 (by kernel_rfl)
    (of_decide_eq_true (by kernel_rfl)) (by unfold Func.isWrapper; first | (rw [if_pos (by decide +kernel)]; kernel_rfl) | (rw [if_neg (by decide +kernel)]; exact ⟨rfl, rfl⟩))
    (fun os started H enc _ => fairBook_lifted hK hF os started H enc)
end Go.Proofs.Ytjbcfflbfnddeac
