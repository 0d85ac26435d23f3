/- For the law. -/
import Derived.Test.YtmoaobfmopimlafGreatDoorM67
set_option linter.unusedSimpArgs false
set_option linter.unusedVariables false
namespace Go.Proofs.YtmoaobfmopimlafGreatDoor
open Go.RowKit
section
open Go.ChangeShapes
open Go.WideShapes
open Go.ChangeAt
set_option maxRecDepth 100000 in
theorem worldStands_contract (σ : ChangeSpec) (hσ : σ.vars = []) (hfn : ∀ (H : Type) (d0 d1 : DataW H), σ.fn H [d0, d1] = { results := [.lit (.bool true)], args := [d0, d1] })
  (H : Type) (enc : TypeId × Value → H) (W : World) (base : Nat) (args : Array Value) (ds gs : List (DataW H)) (before : List MemPlace)
  (hval : ∀ (j : Nat) t v, Tryz.f4.params[j]? = some t → args[j]? = some v → Value.okWide Tryz.prog W .any base t v)
  (hW : DataW.Whole enc Tryz.prog Tryz.f4.params.toList σ.vars false W args.toList ds gs before) (hL : Laid W) (VT : List TypeId) (hZ : (DataW.weightsEach Tryz.prog (Tryz.f4.params.toList ++ VT) (ds ++ gs)).all (· ≤ reachBytes) = true) :
  Calls Tryz.prog 4 args W fun e W' => ∃ v, e = .returned v ∧ σ.post enc Tryz.prog Tryz.f4 false true false false W args v W' := by
 have hW' := hW
 rw [hσ] at hW
 obtain ⟨p, q, hA0, hV, rfl, hfz, hnd⟩ := hW
 have hA : DataW.TrodAll enc Tryz.prog W 0 (fun _ => true) true Tryz.f4.params.toList args.toList ds p := hA0
 rw [Tryz.params4] at hA hval hZ
 have hlt := DataW.TrodAll.lt hA
 obtain ⟨v0, v1, d0, d1, p0, p1, rfl, rfl, rfl, h0, h1⟩ := trodAll_two hA
 obtain ⟨rfl, rfl⟩ := trodVars_none hV
 obtain ⟨vn, vc, tip, t, xs, cs, rfl, ga, gb⟩ := openWd (hval 0 25 v0 rfl rfl) h0 (fun n hn => of_decide_eq_true (List.all_eq_true.1 hZ n (DataW.weights_mem_each (j := 0) rfl rfl n hn)))
 obtain ⟨k, rfl⟩ := openI (hval 1 3 v1 rfl rfl) h1
 have hf : σ.fn H ([d0, d1] ++ []) = _ := hfn H d0 d1
 clear hA0
 refine (stands_at vn vc (wdOf xs tip cs t) k W hL ⟨xs, cs, ga, gb, rfl, rfl⟩).mono fun e W' ⟨he, hb⟩ => ?_
 subst he
 refine ⟨_, rfl, _, _, _, [], p0 ++ p1, [], hW', ?_, ?_, ?_, hb.frame _, fun h => by cases h⟩
 ·rw [hf]
  exact trodAll_mk1 (shut_bool Tryz.underlying4 _)
 ·rw [hf]
  exact trodAll_mk2 (Below.trod laidOut (by kernel_rfl) (of_decide_eq_true (by kernel_rfl)) h0 hb (fun x hx => hlt x (by simp [hx]))) (Below.trod laidOut (by kernel_rfl) (of_decide_eq_true (by kernel_rfl)) h1 hb (fun x hx => hlt x (by simp [hx])))
 ·rw [hf, hσ]
  rfl
end
end Go.Proofs.YtmoaobfmopimlafGreatDoor
