/- The Go law carillonlaw.LedgerBack returns true at every input: what is printed is read, what is read is printed as it was, two rows one behind the other are both; the listed package variables start as the program's text lays them (the card ties them). -/
import Derived.Test.YtlfennkdknodhaaDoorCards
import Derived.Test.YtlfennkdknodhaaDoorTie
import Derived.Test.YtlfennkdknodhaaDoorEntryP
import Derived.Test.YtlfennkdknodhaaDoorRefS
import Derived.Test.YtlfennkdknodhaaDoorLedgerB
import Derived.SevenTiedAt
namespace Go.Proofs.YtlfennkdknodhaaDoor
open Go.ChangeShapes Go.WideShapes Go.ChangeAt Go.RowKit
open Go.ChangeMaps (open_string shut_string)

theorem ledgerBack_laid {W : World} (h : laidMetH Tryd.prog Rows.ledgerBackRow.laid W) (hsh : W.ShapedOpen Tryd.prog) : Laid W := by
  rw [MakeChecks.laidMetH_plain _ _ _ (by kernel_rfl)] at h
  have h3 : laidMet Tryd.prog (("internal/strconv.uint64pow10", Rows.laid_internal_strconv_uint64pow10) :: _) W := h.tail.tail
  have h4 : laidMet Tryd.prog (("strconv.ErrRange", Rows.laid_strconv_ErrRange) :: _) W := h3.tail
  have h5 : laidMet Tryd.prog (("strconv.ErrSyntax", Rows.laid_strconv_ErrSyntax) :: _) W := h4.tail
  have h6 : laidMet Tryd.prog (("carillon/entry.names", Rows.laid_carillon_entry_names) :: _) W := h5.tail
  have h7 : laidMet Tryd.prog (("carillon/entry.counts", Rows.laid_carillon_entry_counts) :: _) W := h6.tail
  exact ⟨names_of h6, counts_of h7, most_of hsh, pow_of h3, syn_of h5, rng_of h4⟩

set_option maxRecDepth 100000 in
theorem ledgerBack_lifted (os : Os) (started : os.Started) (H : Type) (enc : TypeId × Value → H) (F : Stop.Interp) :
    ReturnsInHanded {} Tryd.checked os 6 .any ((OpenSpec.ofChange Rows.ledgerBackSpec).preRow enc Tryd.prog Tryd.f6 Rows.ledgerBackRow.domain false Rows.ledgerBackRow.laid) (((OpenSpec.ofChange Rows.ledgerBackSpec).at F).post enc Tryd.prog Tryd.f6 false true false false) := by
  refine returnsInHanded_of_row (C := Tryd.checked) (s := OpenSpec.ofChange Rows.ledgerBackSpec) own started (by kernel_rfl) Tryd.func6
    (ChangeSpec.witness_shaped (enc := enc) (C := Tryd.checked) (os := os) (s := Rows.ledgerBackSpec) (X := fun w _ => laidMetH Tryd.prog Rows.ledgerBackRow.laid w) false (World.laidAll Tryd.prog os Rows.ledgerBackRow.laid) #[.slice none 0 0, .slice none 0 0, .string ⟨#[]⟩] 8 (World.laidAll_os _ _ _)
      (World.shaped_of_ZipB (by kernel_rfl) (by kernel_rfl)) (by kernel_rfl) (by kernel_rfl) (by kernel_rfl)
      (by rw [MakeChecks.laidMetH_plain _ _ _ (by kernel_rfl)]; exact laidMet_laidAll _ (by kernel_rfl) (by kernel_rfl))) ?_
  intro W base args ds gs before hval hW _ _ _ hL hsh _
  exact ledBack_contract Rows.ledgerBackSpec rfl (fun _ _ _ _ => rfl) prints_any reads_any H enc W base args ds gs before hval hW (ledgerBack_laid hL hsh)

theorem ledgerBack_said : Rows.LedgerBackSaid :=
  OpenClaim.holds_of_cond 6 Tryd.f6 rfl rfl rfl rfl rfl rfl rfl ⟨rfl, rfl, rfl, rfl, rfl⟩ rfl rfl rfl rfl rfl (by kernel_rfl) Tryd.func6 (by kernel_rfl)
    (of_decide_eq_true (by kernel_rfl)) (by unfold Func.isWrapper; first | (rw [if_pos (by decide +kernel)]; kernel_rfl) | (rw [if_neg (by decide +kernel)]; exact ⟨rfl, rfl⟩))
    (fun os started H enc _ F => by rw [OpenClaim.pre_eq_preRow]; exact ledgerBack_lifted os started H enc F)

theorem ledgerBack_plain (f : FuncId) (fn : Func) (hf : Tryd.pinned.checked.prog.funcNamed "carillon/carillonlaw.LedgerBack" = some f) (hfn : Tryd.pinned.checked.prog.funcs[f]? = some fn) :
    true = Tryd.pinned.checked.prog.looks [] ∧ ∀ (j : Nat) t, fn.params[j]? = some t → Tryd.pinned.checked.prog.wantsStandIn t = false := by
  obtain rfl : f = 6 := Option.some.inj ((show Tryd.prog.funcNamed "carillon/carillonlaw.LedgerBack" = some 6 by kernel_rfl).symm.trans hf) |>.symm
  obtain rfl : fn = Tryd.f6 := (Option.some.inj (Tryd.func6.symm.trans hfn)).symm
  refine ⟨by kernel_rfl, fun j t ht => ?_⟩
  rw [Tryd.params6] at ht
  have hm : t ∈ [34, 34, 9] := by simpa using Array.mem_of_getElem? ht
  have hall : ([34, 34, 9].all fun u => !Tryd.prog.wantsStandIn u) = true := by kernel_rfl
  exact (show Tryd.prog.wantsStandIn t = false by simpa using List.all_eq_true.1 hall t hm)

theorem ledgerBack_holds : Rows.LedgerBackCardSaid :=
  Claim7.holds_tied_plain_at .later [] _ _ _ _ ledgerBack_said (fun _ h => by cases h) (by kernel_rfl) (fun _ h => by cases h) ledgerBack_row_tie rfl ⟨rfl, rfl⟩ (by kernel_rfl) rfl ledgerBack_plain (by kernel_rfl)
#print axioms ledgerBack_holds
end Go.Proofs.YtlfennkdknodhaaDoor
