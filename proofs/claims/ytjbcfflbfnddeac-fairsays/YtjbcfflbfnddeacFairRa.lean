/- The row of the law carillonlaw.FairSays, given contracts. -/
import Derived.Test.YtjbcfflbfnddeacFairP
import Derived.Handed
namespace Go.Proofs.Ytjbcfflbfnddeac
open Go.ChangeShapes Go.WideShapes Go.ChangeAt Go.RowKit

set_option maxRecDepth 100000 in
theorem fairSays_lifted (hK : Lives) (hR : RefLives) (os : Os) (started : os.Started) (H : Type) (enc : TypeId × Value → H) :
    ReturnsInHanded {} Try.checked os 3 .any (Rows.fairSaysSpec.pre6 enc Try.prog Try.f3 Rows.fairSaysRow.domain false) (Rows.fairSaysSpec.post enc Try.prog Try.f3 false true false false) := by
  refine returnsInHanded_of_change (C := Try.checked) ownB started (by kernel_rfl) Try.func3
    (ChangeSpec.witness6 (enc := enc) (C := Try.checked) false ⟨#[], #[.slice none 0 0], []⟩ 8 (by kernel_rfl) (by kernel_rfl) (by kernel_rfl) (by kernel_rfl)) ?_
  intro W base args ds gs before hval hW _ _
  exact fairSays_contract Rows.fairSaysSpec rfl (fun _ _ => rfl) hK hR H enc W base args ds gs before hval hW

theorem fairSays_given (hK : Lives) (hR : RefLives) : Rows.FairSaysSaid :=
  OpenClaim.holds_of_wide 3 Try.f3 rfl rfl rfl rfl rfl rfl rfl ⟨rfl, rfl, rfl, rfl, rfl⟩ rfl rfl rfl rfl rfl (by kernel_rfl) Try.func3 (by kernel_rfl)
    (of_decide_eq_true (by kernel_rfl)) (by unfold Func.isWrapper; first | (rw [if_pos (by decide +kernel)]; kernel_rfl) | (rw [if_neg (by decide +kernel)]; exact ⟨rfl, rfl⟩))
    (fun os started H enc _ => fairSays_lifted hK hR os started H enc)
end Go.Proofs.Ytjbcfflbfnddeac
