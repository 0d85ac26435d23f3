/- The Go law carillonlaw.LedgerSays returns true at every input: any entries are printed, any text read as some, as the reference says; the listed package variables start as the program's text lays them (the card ties them). -/
import Derived.Test.YtlfennkdknodhaaDoorCards
import Derived.Test.YtlfennkdknodhaaDoorTie
import Derived.Test.YtlfennkdknodhaaDoorEntryP
import Derived.Test.YtlfennkdknodhaaDoorRefS
import Derived.Test.YtlfennkdknodhaaDoorLedgerB
import Derived.SevenTiedAt
namespace Go.Proofs.YtlfennkdknodhaaDoor
open Go.ChangeShapes Go.WideShapes Go.ChangeAt Go.RowKit
open Go.ChangeMaps (open_string shut_string)

theorem ledgerSays_laid {W : World} (h : laidMetH Tryd.prog Rows.ledgerSaysRow.laid W) (hsh : W.ShapedOpen Tryd.prog) : Laid W := by
  rw [MakeChecks.laidMetH_plain _ _ _ (by kernel_rfl)] at h
  have h3 : laidMet Tryd.prog (("internal/strconv.uint64pow10", Rows.laid_internal_strconv_uint64pow10) :: _) W := h.tail.tail
  have h4 : laidMet Tryd.prog (("strconv.ErrRange", Rows.laid_strconv_ErrRange) :: _) W := h3.tail.tail
  have h5 : laidMet Tryd.prog (("strconv.ErrSyntax", Rows.laid_strconv_ErrSyntax) :: _) W := h4.tail
  have h6 : laidMet Tryd.prog (("carillon/entry.names", Rows.laid_carillon_entry_names) :: _) W := h5.tail
  have h7 : laidMet Tryd.prog (("carillon/entry.counts", Rows.laid_carillon_entry_counts) :: _) W := h6.tail
  exact ⟨names_of h6, counts_of h7, most_of hsh, pow_of h3, syn_of h5, rng_of h4⟩

set_option maxRecDepth 100000 in
theorem ledgerSays_lifted (os : Os) (started : os.Started) (H : Type) (enc : TypeId × Value → H) (F : Stop.Interp) :
    ReturnsInHanded {} Tryd.checked os 5 .any ((OpenSpec.ofChange Rows.ledgerSaysSpec).preRow enc Tryd.prog Tryd.f5 Rows.ledgerSaysRow.domain false Rows.ledgerSaysRow.laid) (((OpenSpec.ofChange Rows.ledgerSaysSpec).at F).post enc Tryd.prog Tryd.f5 false true false false) := by
  refine returnsInHanded_of_row (C := Tryd.checked) (s := OpenSpec.ofChange Rows.ledgerSaysSpec) own started (by kernel_rfl) Tryd.func5
    (ChangeSpec.witness_shaped (enc := enc) (C := Tryd.checked) (os := os) (s := Rows.ledgerSaysSpec) (X := fun w _ => laidMetH Tryd.prog Rows.ledgerSaysRow.laid w) false (World.laidAll Tryd.prog os Rows.ledgerSaysRow.laid) #[.slice none 0 0, .string ⟨#[]⟩] 8 (World.laidAll_os _ _ _)
      (World.shaped_of_ZipB (by kernel_rfl) (by kernel_rfl)) (by kernel_rfl) (by kernel_rfl) (by kernel_rfl)
      (by rw [MakeChecks.laidMetH_plain _ _ _ (by kernel_rfl)]; exact laidMet_laidAll _ (by kernel_rfl) (by kernel_rfl))) ?_
  intro W base args ds gs before hval hW _ _ _ hL hsh _
  exact ledSays_contract Rows.ledgerSaysSpec rfl (fun _ _ _ => rfl) prints_any reads_any H enc W base args ds gs before hval hW (ledgerSays_laid hL hsh)

theorem ledgerSays_said : Rows.LedgerSaysSaid :=
  OpenClaim.holds_of_cond 5 Tryd.f5 rfl rfl rfl rfl rfl rfl rfl ⟨rfl, rfl, rfl, rfl, rfl⟩ rfl rfl rfl rfl rfl (by kernel_rfl) Tryd.func5 (by kernel_rfl)
    (of_decide_eq_true (by kernel_rfl)) (by unfold Func.isWrapper; first | (rw [if_pos (by decide +kernel)]; kernel_rfl) | (rw [if_neg (by decide +kernel)]; exact ⟨rfl, rfl⟩))
    (fun os started H enc _ F => by rw [OpenClaim.pre_eq_preRow]; exact ledgerSays_lifted os started H enc F)

theorem ledgerSays_plain (f : FuncId) (fn : Func) (hf : Tryd.pinned.checked.prog.funcNamed "carillon/carillonlaw.LedgerSays" = some f) (hfn : Tryd.pinned.checked.prog.funcs[f]? = some fn) :
    true = Tryd.pinned.checked.prog.looks [] ∧ ∀ (j : Nat) t, fn.params[j]? = some t → Tryd.pinned.checked.prog.wantsStandIn t = false := by
  obtain rfl : f = 5 := Option.some.inj ((show Tryd.prog.funcNamed "carillon/carillonlaw.LedgerSays" = some 5 by kernel_rfl).symm.trans hf) |>.symm
  obtain rfl : fn = Tryd.f5 := (Option.some.inj (Tryd.func5.symm.trans hfn)).symm
  refine ⟨by kernel_rfl, fun j t ht => ?_⟩
  rw [Tryd.params5] at ht
  have hm : t ∈ [34, 9] := by simpa using Array.mem_of_getElem? ht
  have hall : ([34, 9].all fun u => !Tryd.prog.wantsStandIn u) = true := by kernel_rfl
  exact (show Tryd.prog.wantsStandIn t = false by simpa using List.all_eq_true.1 hall t hm)

theorem ledgerSays_holds : Rows.LedgerSaysCardSaid :=
  Claim7.holds_tied_plain_at .later [] _ _ _ _ ledgerSays_said (fun _ h => by cases h) (by kernel_rfl) (fun _ h => by cases h) ledgerSays_row_tie rfl ⟨rfl, rfl⟩ (by kernel_rfl) rfl ledgerSays_plain (by kernel_rfl)
#print axioms ledgerSays_holds
end Go.Proofs.YtlfennkdknodhaaDoor
