/- The row and the card of the law carillonlaw.UnitOnce, given the contracts of packages unit and disk. -/
import Derived.Test.YtnmapehbcccbhadDoorCards
import Derived.Test.YtnmapehbcccbhadDoorTie
import Derived.Test.YtnmapehbcccbhadDoorUnitQ
import Derived.SevenTiedAt
namespace Go.Proofs.YtnmapehbcccbhadDoor
open Go.ChangeShapes Go.WideShapes Go.ChangeAt Go.RowKit

theorem unitOnce_laid {W : World} (h : laidMetH Tryd.prog Rows.unitOnceRow.laid W) (hsh : W.ShapedOpen Tryd.prog) : Laid W := by
  rw [MakeChecks.laidMetH_plain _ _ _ (by kernel_rfl)] at h
  have h3 : laidMet Tryd.prog (("internal/strconv.uint64pow10", Rows.laid_internal_strconv_uint64pow10) :: _) W := h.tail.tail
  have h4 : laidMet Tryd.prog (("strconv.ErrRange", Rows.laid_strconv_ErrRange) :: _) W := h3.tail
  have h5 : laidMet Tryd.prog (("strconv.ErrSyntax", Rows.laid_strconv_ErrSyntax) :: _) W := h4.tail
  have h6 : laidMet Tryd.prog (("carillon/entry.names", Rows.laid_carillon_entry_names) :: _) W := h5.tail
  have h7 : laidMet Tryd.prog (("carillon/entry.counts", Rows.laid_carillon_entry_counts) :: _) W := h6.tail
  exact ⟨names_of h6, counts_of h7, most_of hsh, pow_of h3, syn_of h5, rng_of h4⟩

set_option maxRecDepth 100000 in
theorem unitOnce_lifted (hK : Units) (hD : Disks3) (os : Os) (started : os.Started) (H : Type) (enc : TypeId × Value → H) (F : Stop.Interp) :
    ReturnsInHanded {} Tryd.checked os 4 .any ((OpenSpec.ofChange Rows.unitOnceSpec).preRow enc Tryd.prog Tryd.f4 Rows.unitOnceRow.domain false Rows.unitOnceRow.laid) (((OpenSpec.ofChange Rows.unitOnceSpec).at F).post enc Tryd.prog Tryd.f4 false true false false) := by
  refine returnsInHanded_of_row (C := Tryd.checked) (s := OpenSpec.ofChange Rows.unitOnceSpec) own started (by kernel_rfl) Tryd.func4
    (ChangeSpec.witness_shaped (enc := enc) (C := Tryd.checked) (os := os) (s := Rows.unitOnceSpec) (X := fun w _ => laidMetH Tryd.prog Rows.unitOnceRow.laid w) false (World.laidAll Tryd.prog os Rows.unitOnceRow.laid) #[.slice none 0 0] 8 (World.laidAll_os _ _ _)
      (World.shaped_of_ZipB (by kernel_rfl) (by kernel_rfl)) (by kernel_rfl) (by kernel_rfl) (by kernel_rfl)
      (by rw [MakeChecks.laidMetH_plain _ _ _ (by kernel_rfl)]; exact laidMet_laidAll _ (by kernel_rfl) (by kernel_rfl))) ?_
  intro W base args ds gs before hval hW _ _ _ hL hsh _
  exact unitOnce_contract Rows.unitOnceSpec rfl (fun _ _ => rfl) hK hD H enc W base args ds gs before hval hW (unitOnce_laid hL hsh)

theorem unitOnce_said (hK : Units) (hD : Disks3) : Rows.UnitOnceSaid :=
  OpenClaim.holds_of_cond 4 Tryd.f4 rfl rfl rfl rfl rfl rfl rfl ⟨rfl, rfl, rfl, rfl, rfl⟩ rfl rfl rfl rfl rfl (by kernel_rfl) Tryd.func4 (by kernel_rfl)
    (of_decide_eq_true (by kernel_rfl)) (by unfold Func.isWrapper; first | (rw [if_pos (by decide +kernel)]; kernel_rfl) | (rw [if_neg (by decide +kernel)]; exact ⟨rfl, rfl⟩))
    (fun os started H enc _ F => by rw [OpenClaim.pre_eq_preRow]; exact unitOnce_lifted hK hD os started H enc F)

theorem unitOnce_plain (f : FuncId) (fn : Func) (hf : Tryd.pinned.checked.prog.funcNamed "carillon/carillonlaw.UnitOnce" = some f) (hfn : Tryd.pinned.checked.prog.funcs[f]? = some fn) :
    true = Tryd.pinned.checked.prog.looks [] ∧ ∀ (j : Nat) t, fn.params[j]? = some t → Tryd.pinned.checked.prog.wantsStandIn t = false := by
  obtain rfl : f = 4 := Option.some.inj ((show Tryd.prog.funcNamed "carillon/carillonlaw.UnitOnce" = some 4 by kernel_rfl).symm.trans hf) |>.symm
  obtain rfl : fn = Tryd.f4 := (Option.some.inj (Tryd.func4.symm.trans hfn)).symm
  refine ⟨by kernel_rfl, fun j t ht => ?_⟩
  rw [Tryd.params4] at ht
  have hm : t ∈ [22] := by simpa using Array.mem_of_getElem? ht
  have hall : ([22].all fun u => !Tryd.prog.wantsStandIn u) = true := by kernel_rfl
  exact (show Tryd.prog.wantsStandIn t = false by simpa using List.all_eq_true.1 hall t hm)

theorem unitOnce_given (hK : Units) (hD : Disks3) : Rows.UnitOnceCardSaid :=
  Claim7.holds_tied_plain_at .later [] _ _ _ _ (unitOnce_said hK hD) (fun _ h => by cases h) (by kernel_rfl) (fun _ h => by cases h) unitOnce_row_tie rfl ⟨rfl, rfl⟩ (by kernel_rfl) rfl unitOnce_plain (by kernel_rfl)

end Go.Proofs.YtnmapehbcccbhadDoor
