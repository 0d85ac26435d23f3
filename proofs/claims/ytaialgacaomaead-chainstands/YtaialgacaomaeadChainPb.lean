/- From the walk of the law ChainStands to what a row asks. -/
import Derived.Test.YtaialgacaomaeadChainO
import Derived.Test.YtaialgacaomaeadArgC
namespace Go.Proofs.Ytaialgacaomaead
open Go.ChangeShapes Go.WideShapes Go.ChangeAt Go.RowKit

set_option maxRecDepth 100000 in
theorem chainStands_contract (σ : ChangeSpec) (hσ : σ.vars = []) (hfn : ∀ (H : Type) (d0 d1 d2 d3 d4 : DataW H), σ.fn H [d0, d1, d2, d3, d4] = { results := [.lit (.bool true)], args := [d0, d1, d2, d3, d4] }) (hC : Chains) (hN : UnitN)
    (H : Type) (enc : TypeId × Value → H) (W : World) (base : Nat) (args : Array Value) (ds gs : List (DataW H)) (before : List MemPlace)
    (hval : ∀ (j : Nat) t v, Try.f6.params[j]? = some t → args[j]? = some v → Value.okWide Try.prog W .any base t v)
    (hW : DataW.Whole enc Try.prog Try.f6.params.toList σ.vars false W args.toList ds gs before) :
    Calls Try.prog 6 args W fun e W' => ∃ v, e = .returned v ∧ σ.post enc Try.prog Try.f6 false true false false W args v W' := by
  have hW' := hW
  rw [hσ] at hW
  obtain ⟨p, q, hA0, hV, rfl, hfz, hnd⟩ := hW
  have hA : DataW.TrodAll enc Try.prog W 0 (fun _ => true) true Try.f6.params.toList args.toList ds p := hA0
  rw [Try.params6] at hA hval
  have hlt := DataW.TrodAll.lt hA
  obtain ⟨v0, v1, v2, v3, v4, d0, d1, d2, d3, d4, p0, p1, p2, p3, p4, rfl, rfl, rfl, h0, h1, h2, h3, h4⟩ := trodAll_five hA
  obtain ⟨rfl, rfl⟩ := trodVars_none hV
  obtain ⟨xs, g1, g2⟩ := openUs (hval 0 41 v0 rfl rfl) h0
  obtain ⟨k, rfl⟩ := openUI (hval 1 3 v1 rfl rfl) h1
  obtain ⟨a, rfl⟩ := openUI (hval 2 3 v2 rfl rfl) h2
  obtain ⟨x, rfl⟩ := openUE (hval 3 26 v3 rfl rfl) h3
  obtain ⟨ep, rfl⟩ := openUI (hval 4 3 v4 rfl rfl) h4
  have hf : σ.fn H ([d0, d1, d2, d3, d4] ++ []) = _ := hfn H d0 d1 d2 d3 d4
  clear hA0
  refine (chainStands_any hC hN v0 xs k a ep x W g1 g2).mono fun e W' ⟨he, hb⟩ => ?_
  subst he
  refine ⟨_, rfl, _, _, _, [], p0 ++ (p1 ++ (p2 ++ (p3 ++ p4))), [], hW', ?_, ?_, ?_, hb.frame _, fun h => by cases h⟩
  · rw [hf]
    exact trodAll_mk1 (shut_bool Try.underlying4 _)
  · rw [hf]
    exact ⟨p0, p1 ++ (p2 ++ (p3 ++ p4)), Below.trod laidU (by kernel_rfl) (of_decide_eq_true (by kernel_rfl)) h0 hb (fun x hx => hlt x (by simp [hx])), trodAll_mk4 (Below.trod laidU (by kernel_rfl) (of_decide_eq_true (by kernel_rfl)) h1 hb (fun x hx => hlt x (by simp [hx]))) (Below.trod laidU (by kernel_rfl) (of_decide_eq_true (by kernel_rfl)) h2 hb (fun x hx => hlt x (by simp [hx]))) (Below.trod laidU (by kernel_rfl) (of_decide_eq_true (by kernel_rfl)) h3 hb (fun x hx => hlt x (by simp [hx]))) (Below.trod laidU (by kernel_rfl) (of_decide_eq_true (by kernel_rfl)) h4 hb (fun x hx => hlt x (by simp [hx]))), rfl⟩
  · rw [hf, hσ]
    rfl

end Go.Proofs.Ytaialgacaomaead
