/- The row of the law carillonlaw.ChainStands, given the contracts of packages chain and unit. -/
import Derived.Test.YtaialgacaomaeadChainPb
import Derived.Test.YtaialgacaomaeadRows
import Derived.Handed
namespace Go.Proofs.Ytaialgacaomaead
open Go.ChangeShapes Go.WideShapes Go.ChangeAt Go.RowKit

set_option maxRecDepth 100000 in
theorem chainStands_lifted (hC : Chains) (hN : UnitN) (os : Os) (started : os.Started) (H : Type) (enc : TypeId × Value → H) :
    ReturnsInHanded {} Try.checked os 6 .any (Rows.chainStandsSpec.pre6 enc Try.prog Try.f6 Rows.chainStandsRow.domain false) (Rows.chainStandsSpec.post enc Try.prog Try.f6 false true false false) := by
  refine returnsInHanded_of_change (C := Try.checked) ownU started (by kernel_rfl) Try.func6
    (ChangeSpec.witness6 (enc := enc) (C := Try.checked) false ⟨#[], #[.slice none 0 0, .int .i64 0, .int .i64 0, .agg #[.int .i64 0, .int .i64 0, .int .i64 0, .int .i64 0, .int .i64 0], .int .i64 0], []⟩ 8 (by kernel_rfl) (by kernel_rfl) (by kernel_rfl) (by kernel_rfl)) ?_
  intro W base args ds gs before hval hW _ _
  exact chainStands_contract Rows.chainStandsSpec rfl (fun _ _ _ _ _ _ => rfl) hC hN H enc W base args ds gs before hval hW

theorem chainStands_given (hC : Chains) (hN : UnitN) : Rows.ChainStandsSaid :=
  OpenClaim.holds_of_wide 6 Try.f6 rfl rfl rfl rfl rfl rfl rfl ⟨rfl, rfl, rfl, rfl, rfl⟩ rfl rfl rfl rfl rfl (by kernel_rfl) Try.func6 (by kernel_rfl)
    (of_decide_eq_true (by kernel_rfl)) (by unfold Func.isWrapper; first | (rw [if_pos (by decide +kernel)]; kernel_rfl) | (rw [if_neg (by decide +kernel)]; exact ⟨rfl, rfl⟩))
    (fun os started H enc _ => chainStands_lifted hC hN os started H enc)
end Go.Proofs.Ytaialgacaomaead
