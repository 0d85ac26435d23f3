/- From the walk of the law UnitOnce to what a row asks. -/
import Derived.Test.YtnmapehbcccbhadDoorUnitK
import Derived.Test.YtnmapehbcccbhadDoorArgU
import Derived.Test.YtnmapehbcccbhadDoorEntryP
namespace Go.Proofs.YtnmapehbcccbhadDoor
open Go.ChangeShapes Go.WideShapes Go.ChangeAt Go.RowKit

set_option maxRecDepth 100000 in
theorem unitOnce_contract (σ : ChangeSpec) (hσ : σ.vars = []) (hfn : ∀ (H : Type) (d0 : DataW H), σ.fn H [d0] = { results := [.lit (.bool true)], args := [d0] }) (hK : Units) (hD : Disks3)
    (H : Type) (enc : TypeId × Value → H) (W : World) (base : Nat) (args : Array Value) (ds gs : List (DataW H)) (before : List MemPlace)
    (hval : ∀ (j : Nat) t v, Tryd.f4.params[j]? = some t → args[j]? = some v → Value.okWide Tryd.prog W .any base t v)
    (hW : DataW.Whole enc Tryd.prog Tryd.f4.params.toList σ.vars false W args.toList ds gs before) (hL : Laid W) :
    Calls Tryd.prog 4 args W fun e W' => ∃ v, e = .returned v ∧ σ.post enc Tryd.prog Tryd.f4 false true false false W args v W' := by
  have hW' := hW
  rw [hσ] at hW
  obtain ⟨p, q, hA0, hV, rfl, hfz, hnd⟩ := hW
  have hA : DataW.TrodAll enc Tryd.prog W 0 (fun _ => true) true Tryd.f4.params.toList args.toList ds p := hA0
  rw [Tryd.params4] at hA hval
  have hlt := DataW.TrodAll.lt hA
  obtain ⟨v0, d0, rfl, rfl, h0⟩ := trodAll_one hA
  obtain ⟨rfl, rfl⟩ := trodVars_none hV
  obtain ⟨rs, g1, g2, _⟩ := openURs (hval 0 22 v0 rfl rfl) h0
  have hf : σ.fn H ([d0] ++ []) = _ := hfn H d0
  clear hA0
  refine (unitOnce_any hK hD v0 rs W hL g1 g2).mono fun e W' ⟨he, hb⟩ => ?_
  subst he
  refine ⟨_, rfl, _, _, _, [], p, [], hW', ?_, ?_, ?_, hb.frame _, fun h => by cases h⟩
  · rw [hf]
    exact trodAll_mk1 (shut_bool Tryd.underlying4 _)
  · rw [hf]
    exact trodAll_mk1 (Below.trod laidOut (by kernel_rfl) (of_decide_eq_true (by kernel_rfl)) h0 hb (fun x hx => hlt x (by simp [hx])))
  · rw [hf, hσ]
    rfl

end Go.Proofs.YtnmapehbcccbhadDoor
