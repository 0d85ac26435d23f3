/- The row and the card of the law carillonlaw.DiskSays, given package disk's contracts. -/
import Derived.Test.YtknjdbpdlodpbacGreatDoorCards
import Derived.Test.YtknjdbpdlodpbacGreatDoorTie
import Derived.Test.YtknjdbpdlodpbacGreatDoorDiskPa
import Derived.SevenTiedAt
namespace Go.Proofs.YtknjdbpdlodpbacGreatDoor
open Go.ChangeShapes Go.WideShapes Go.ChangeAt Go.RowKit

theorem diskSays_laid {W : World} (h : laidMetH Tryz.prog Rows.diskSaysRow.laid W) (hsh : W.ShapedOpen Tryz.prog) : Laid W := by
  rw [MakeChecks.laidMetH_plain _ _ _ (by kernel_rfl)] at h
  have h3 : laidMet Tryz.prog (("internal/strconv.uint64pow10", Rows.laid_internal_strconv_uint64pow10) :: _) W := h.tail.tail
  have h4 : laidMet Tryz.prog (("strconv.ErrRange", Rows.laid_strconv_ErrRange) :: _) W := h3.tail.tail
  have h5 : laidMet Tryz.prog (("strconv.ErrSyntax", Rows.laid_strconv_ErrSyntax) :: _) W := h4.tail
  have h6 : laidMet Tryz.prog (("carillon/entry.names", Rows.laid_carillon_entry_names) :: _) W := h5.tail
  have h7 : laidMet Tryz.prog (("carillon/entry.counts", Rows.laid_carillon_entry_counts) :: _) W := h6.tail
  exact ⟨names_of h6, counts_of h7, most_of hsh, pow_of h3, syn_of h5, rng_of h4⟩

set_option maxRecDepth 100000 in
theorem diskSays_lifted (hK : Disks) (os : Os) (started : os.Started) (H : Type) (enc : TypeId × Value → H) (F : Stop.Interp) :
    ReturnsInHanded {} Tryz.checked os 3 .any ((OpenSpec.ofChange Rows.diskSaysSpec).preRow enc Tryz.prog Tryz.f3 Rows.diskSaysRow.domain false Rows.diskSaysRow.laid) (((OpenSpec.ofChange Rows.diskSaysSpec).at F).post enc Tryz.prog Tryz.f3 false true false false) := by
  refine returnsInHanded_of_row (C := Tryz.checked) (s := OpenSpec.ofChange Rows.diskSaysSpec) own started (by kernel_rfl) Tryz.func3
    (ChangeSpec.witness_shaped (enc := enc) (C := Tryz.checked) (os := os) (s := Rows.diskSaysSpec) (X := fun w _ => laidMetH Tryz.prog Rows.diskSaysRow.laid w) false (World.laidAll Tryz.prog os Rows.diskSaysRow.laid) #[.agg #[.slice none 0 0, .slice none 0 0], .agg #[.int .i64 0, .int .i64 0, .int .i64 0, .int .i64 0, .int .i64 0, .int .i64 0, .int .i64 0, .int .i64 0], .int .i64 0, .agg #[.slice none 0 0, .slice none 0 0]] 8 (World.laidAll_os _ _ _)
      (World.shaped_of_ZipB (by kernel_rfl) (by kernel_rfl)) (by kernel_rfl) (by kernel_rfl) (by kernel_rfl)
      (by rw [MakeChecks.laidMetH_plain _ _ _ (by kernel_rfl)]; exact laidMet_laidAll _ (by kernel_rfl) (by kernel_rfl))) ?_
  intro W base args ds gs before hval hW _ _ hz hL hsh _
  exact diskSays_contract Rows.diskSaysSpec rfl (fun _ _ _ _ _ => rfl) hK H enc W base args ds gs before hval hW (diskSays_laid hL hsh) _ hz

theorem diskSays_said (hK : Disks) : Rows.DiskSaysSaid :=
  OpenClaim.holds_of_cond 3 Tryz.f3 rfl rfl rfl rfl rfl rfl rfl ⟨rfl, rfl, rfl, rfl, rfl⟩ rfl rfl rfl rfl rfl (by kernel_rfl) Tryz.func3 (by kernel_rfl)
    (of_decide_eq_true (by kernel_rfl)) (by unfold Func.isWrapper; first | (rw [if_pos (by decide +kernel)]; kernel_rfl) | (rw [if_neg (by decide +kernel)]; exact ⟨rfl, rfl⟩))
    (fun os started H enc _ F => by rw [OpenClaim.pre_eq_preRow]; exact diskSays_lifted hK os started H enc F)

theorem diskSays_plain (f : FuncId) (fn : Func) (hf : Tryz.pinned.checked.prog.funcNamed "carillon/carillonlaw.DiskSays" = some f) (hfn : Tryz.pinned.checked.prog.funcs[f]? = some fn) :
    true = Tryz.pinned.checked.prog.looks [] ∧ ∀ (j : Nat) t, fn.params[j]? = some t → Tryz.pinned.checked.prog.wantsStandIn t = false := by
  obtain rfl : f = 3 := Option.some.inj ((show Tryz.prog.funcNamed "carillon/carillonlaw.DiskSays" = some 3 by kernel_rfl).symm.trans hf) |>.symm
  obtain rfl : fn = Tryz.f3 := (Option.some.inj (Tryz.func3.symm.trans hfn)).symm
  refine ⟨by kernel_rfl, fun j t ht => ?_⟩
  rw [Tryz.params3] at ht
  have hm : t ∈ [24, 28, 3, 24] := by simpa using Array.mem_of_getElem? ht
  have hall : ([24, 28, 3, 24].all fun u => !Tryz.prog.wantsStandIn u) = true := by kernel_rfl
  exact (show Tryz.prog.wantsStandIn t = false by simpa using List.all_eq_true.1 hall t hm)

theorem diskSays_given (hK : Disks) : Rows.DiskSaysCardSaid :=
  Claim7.holds_tied_plain_at .later [] _ _ _ _ (diskSays_said hK) (fun _ h => by cases h) (by kernel_rfl) (fun _ h => by cases h) diskSays_row_tie rfl ⟨rfl, rfl⟩ (by kernel_rfl) rfl diskSays_plain (by kernel_rfl)

end Go.Proofs.YtknjdbpdlodpbacGreatDoor
