/- For the law. -/
import Derived.Test.YtmoaobfmopimlafGreatDoorCards
import Derived.Test.YtmoaobfmopimlafGreatDoorTie
import Derived.Test.YtmoaobfmopimlafGreatDoorM68
import Derived.SevenTiedAt
set_option linter.unusedSimpArgs false
set_option linter.unusedVariables false
namespace Go.Proofs.YtmoaobfmopimlafGreatDoor
open Go.RowKit
section
open Go.ChangeShapes
open Go.WideShapes
open Go.ChangeAt
theorem worldStands_laid {W : World} (h : laidMetH Tryz.prog Rows.worldStandsRow.laid W) (hsh : W.ShapedOpen Tryz.prog) : Laid W := by
 rw [MakeChecks.laidMetH_plain _ _ _ (by kernel_rfl)] at h
 have h3 : laidMet Tryz.prog (("internal/strconv.uint64pow10", Rows.laid_internal_strconv_uint64pow10) :: _) W := h.tail.tail
 have h4 : laidMet Tryz.prog (("strconv.ErrRange", Rows.laid_strconv_ErrRange) :: _) W := h3.tail
 have h5 : laidMet Tryz.prog (("strconv.ErrSyntax", Rows.laid_strconv_ErrSyntax) :: _) W := h4.tail
 have h6 : laidMet Tryz.prog (("carillon/entry.names", Rows.laid_carillon_entry_names) :: _) W := h5.tail
 have h7 : laidMet Tryz.prog (("carillon/entry.counts", Rows.laid_carillon_entry_counts) :: _) W := h6.tail
 exact ⟨names_of h6, counts_of h7, most_of hsh, pow_of h3, syn_of h5, rng_of h4⟩
set_option maxRecDepth 100000 in
theorem worldStands_lifted (os : Os) (started : os.Started) (H : Type) (enc : TypeId × Value → H) (F : Stop.Interp) :
  ReturnsInHanded {} Tryz.checked os 4 .any ((OpenSpec.ofChange Rows.worldStandsSpec).preRow enc Tryz.prog Tryz.f4 Rows.worldStandsRow.domain false Rows.worldStandsRow.laid) (((OpenSpec.ofChange Rows.worldStandsSpec).at F).post enc Tryz.prog Tryz.f4 false true false false) := by
 refine returnsInHanded_of_row (C := Tryz.checked) (s := OpenSpec.ofChange Rows.worldStandsSpec) own started (by kernel_rfl) Tryz.func4
  (ChangeSpec.witness_shaped (enc := enc) (C := Tryz.checked) (os := os) (s := Rows.worldStandsSpec) (X := fun w _ => laidMetH Tryz.prog Rows.worldStandsRow.laid w) false (World.laidAll Tryz.prog os Rows.worldStandsRow.laid) #[.agg #[.slice none 0 0, .int .i64 0, .slice none 0 0, .int .i64 0], .int .i64 0] 8 (World.laidAll_os _ _ _)
   (World.shaped_of_ZipB (by kernel_rfl) (by kernel_rfl)) (by kernel_rfl) (by kernel_rfl) (by kernel_rfl)
   (by rw [MakeChecks.laidMetH_plain _ _ _ (by kernel_rfl)]; exact laidMet_laidAll _ (by kernel_rfl) (by kernel_rfl))) ?_
 intro W base args ds gs before hval hW _ _ hz hL hsh _
 exact worldStands_contract Rows.worldStandsSpec rfl (fun _ _ _ => rfl) H enc W base args ds gs before hval hW (worldStands_laid hL hsh) _ hz
set_option maxHeartbeats 4000000 in
set_option maxRecDepth 100000 in
theorem worldStands_closed : joinedFacts Tryz.pinned.checked.prog 4 Tryz.f4 (OpenSpec.ofChange Rows.worldStandsSpec).bare Rows.worldStandsRow = true := by
 unfold joinedFacts
 simp only [Bool.and_eq_true]
 refine ⟨⟨⟨⟨⟨⟨⟨⟨⟨⟨⟨⟨⟨⟨⟨⟨⟨⟨⟨⟨⟨⟨⟨⟨⟨⟨⟨⟨⟨⟨⟨?_, ?_⟩, ?_⟩, ?_⟩, ?_⟩, ?_⟩, ?_⟩, ?_⟩, ?_⟩, ?_⟩, ?_⟩, ?_⟩, ?_⟩, ?_⟩, ?_⟩, ?_⟩, ?_⟩, ?_⟩, ?_⟩, ?_⟩, ?_⟩, ?_⟩, ?_⟩, ?_⟩, ?_⟩, ?_⟩, ?_⟩, ?_⟩, ?_⟩, ?_⟩, ?_⟩, ?_⟩
 all_goals as_aux_lemma => kernel_rfl
theorem worldStands_said : Rows.WorldStandsSaid :=
 OpenClaim.holds_of_cond 4 Tryz.f4 rfl rfl rfl rfl rfl rfl rfl ⟨rfl, rfl, rfl, rfl, rfl⟩ rfl rfl rfl rfl rfl (by kernel_rfl) Tryz.func4 worldStands_closed
  (of_decide_eq_true (by kernel_rfl)) (by unfold Func.isWrapper; first | (rw [if_pos (by decide +kernel)]; kernel_rfl) | (rw [if_neg (by decide +kernel)]; exact ⟨rfl, rfl⟩))
  (fun os started H enc _ F => by rw [OpenClaim.pre_eq_preRow]; exact worldStands_lifted os started H enc F)
theorem worldStands_plain (f : FuncId) (fn : Func) (hf : Tryz.pinned.checked.prog.funcNamed "carillon/carillonlaw.WorldStands" = some f) (hfn : Tryz.pinned.checked.prog.funcs[f]? = some fn) :
  true = Tryz.pinned.checked.prog.looks [] ∧ ∀ (j : Nat) t, fn.params[j]? = some t → Tryz.pinned.checked.prog.wantsStandIn t = false := by
 obtain rfl : f = 4 := Option.some.inj ((show Tryz.prog.funcNamed "carillon/carillonlaw.WorldStands" = some 4 by kernel_rfl).symm.trans hf) |>.symm
 obtain rfl : fn = Tryz.f4 := (Option.some.inj (Tryz.func4.symm.trans hfn)).symm
 refine ⟨by kernel_rfl, fun j t ht => ?_⟩
 rw [Tryz.params4] at ht
 have hm : t ∈ [25, 3] := by simpa using Array.mem_of_getElem? ht
 have hall : ([25, 3].all fun u => !Tryz.prog.wantsStandIn u) = true := by kernel_rfl
 exact (show Tryz.prog.wantsStandIn t = false by simpa using List.all_eq_true.1 hall t hm)
theorem worldStands_given : Rows.WorldStandsCardSaid :=
 Claim7.holds_tied_plain_at .later [] _ _ _ _ worldStands_said (fun _ h => by cases h) (by kernel_rfl) (fun _ h => by cases h) worldStands_row_tie rfl ⟨rfl, rfl⟩ (by kernel_rfl) rfl worldStands_plain (by kernel_rfl)
end
end Go.Proofs.YtmoaobfmopimlafGreatDoor
