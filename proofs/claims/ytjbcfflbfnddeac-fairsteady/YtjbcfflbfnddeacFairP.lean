/- From the walks of the laws on lives to what a row asks. -/
import Derived.Test.YtjbcfflbfnddeacArgB
import Derived.Test.YtjbcfflbfnddeacFairE
namespace Go.Proofs.Ytjbcfflbfnddeac
open Go.ChangeShapes Go.WideShapes Go.ChangeAt Go.RowKit

theorem fairBook_any (hK : Lives) (hF : BookF) (v : Value) (es : List En) (w : World) (hv : EntSl w v es) (hn : es.length ≤ most) :
    Calls Try.prog 4 #[v] w fun e w' => e = .returned (.bool true) ∧ Below w.heap.size w w' := by
  by_cases h : (livesOf es).2 = 0
  · exact fairBook_ok hK hF v es w hv hn h
  · exact fairBook_bad hK hF v es w hv hn h

theorem fairSteady_any (hK : Lives) (hF : BookF) (v : Value) (es : List En) (w : World) (hv : EntSl w v es) (_ : es.length ≤ most) :
    Calls Try.prog 5 #[v] w fun e w' => e = .returned (.bool true) ∧ Below w.heap.size w w' := by
  by_cases h : 60 < es.length
  · exact fairSteady_many hK v es w hv h
  · exact fairSteady_few hK hF v es w hv (by omega)

set_option maxRecDepth 100000 in
theorem fairSays_contract (σ : ChangeSpec) (hσ : σ.vars = []) (hfn : ∀ (H : Type) (d0 : DataW H), σ.fn H [d0] = { results := [.lit (.bool true)], args := [d0] }) (hK : Lives) (hR : RefLives)
    (H : Type) (enc : TypeId × Value → H) (W : World) (base : Nat) (args : Array Value) (ds gs : List (DataW H)) (before : List MemPlace)
    (hval : ∀ (j : Nat) t v, Try.f3.params[j]? = some t → args[j]? = some v → Value.okWide Try.prog W .any base t v)
    (hW : DataW.Whole enc Try.prog Try.f3.params.toList σ.vars false W args.toList ds gs before) :
    Calls Try.prog 3 args W fun e W' => ∃ v, e = .returned v ∧ σ.post enc Try.prog Try.f3 false true false false W args v W' := by
  have hW' := hW
  rw [hσ] at hW
  obtain ⟨p, q, hA0, hV, rfl, hfz, hnd⟩ := hW
  have hA : DataW.TrodAll enc Try.prog W 0 (fun _ => true) true Try.f3.params.toList args.toList ds p := hA0
  rw [Try.params3] at hA hval
  have hlt := DataW.TrodAll.lt hA
  obtain ⟨v0, d0, rfl, rfl, h0⟩ := trodAll_one hA
  obtain ⟨rfl, rfl⟩ := trodVars_none hV
  obtain ⟨es, a, n, c, rfl, hes, _, hel⟩ := openEs (hval 0 22 v0 rfl rfl) h0
  have hf : σ.fn H ([d0] ++ []) = _ := hfn H d0
  clear hA0
  refine (fairSays_any hK hR _ es W hes hel).mono fun e W' ⟨he, hb⟩ => ?_
  subst he
  refine ⟨_, rfl, _, _, _, [], p, [], hW', ?_, ?_, ?_, hb.frame _, fun h => by cases h⟩
  · rw [hf]
    exact trodAll_mk1 (shut_bool Try.underlying4 _)
  · rw [hf]
    exact trodAll_mk1 (Below.trod laidOutB' (by kernel_rfl) (of_decide_eq_true (by kernel_rfl)) h0 hb (fun x hx => hlt x (by simp [hx])))
  · rw [hf, hσ]
    rfl

set_option maxRecDepth 100000 in
theorem fairBook_contract (σ : ChangeSpec) (hσ : σ.vars = []) (hfn : ∀ (H : Type) (d0 : DataW H), σ.fn H [d0] = { results := [.lit (.bool true)], args := [d0] }) (hK : Lives) (hF : BookF)
    (H : Type) (enc : TypeId × Value → H) (W : World) (base : Nat) (args : Array Value) (ds gs : List (DataW H)) (before : List MemPlace)
    (hval : ∀ (j : Nat) t v, Try.f4.params[j]? = some t → args[j]? = some v → Value.okWide Try.prog W .any base t v)
    (hW : DataW.Whole enc Try.prog Try.f4.params.toList σ.vars false W args.toList ds gs before) :
    Calls Try.prog 4 args W fun e W' => ∃ v, e = .returned v ∧ σ.post enc Try.prog Try.f4 false true false false W args v W' := by
  have hW' := hW
  rw [hσ] at hW
  obtain ⟨p, q, hA0, hV, rfl, hfz, hnd⟩ := hW
  have hA : DataW.TrodAll enc Try.prog W 0 (fun _ => true) true Try.f4.params.toList args.toList ds p := hA0
  rw [Try.params4] at hA hval
  have hlt := DataW.TrodAll.lt hA
  obtain ⟨v0, d0, rfl, rfl, h0⟩ := trodAll_one hA
  obtain ⟨rfl, rfl⟩ := trodVars_none hV
  obtain ⟨es, a, n, c, rfl, hes, _, hel⟩ := openEs (hval 0 22 v0 rfl rfl) h0
  have hf : σ.fn H ([d0] ++ []) = _ := hfn H d0
  clear hA0
  refine (fairBook_any hK hF _ es W hes hel).mono fun e W' ⟨he, hb⟩ => ?_
  subst he
  refine ⟨_, rfl, _, _, _, [], p, [], hW', ?_, ?_, ?_, hb.frame _, fun h => by cases h⟩
  · rw [hf]
    exact trodAll_mk1 (shut_bool Try.underlying4 _)
  · rw [hf]
    exact trodAll_mk1 (Below.trod laidOutB' (by kernel_rfl) (of_decide_eq_true (by kernel_rfl)) h0 hb (fun x hx => hlt x (by simp [hx])))
  · rw [hf, hσ]
    rfl

set_option maxRecDepth 100000 in
theorem fairSteady_contract (σ : ChangeSpec) (hσ : σ.vars = []) (hfn : ∀ (H : Type) (d0 : DataW H), σ.fn H [d0] = { results := [.lit (.bool true)], args := [d0] }) (hK : Lives) (hF : BookF)
    (H : Type) (enc : TypeId × Value → H) (W : World) (base : Nat) (args : Array Value) (ds gs : List (DataW H)) (before : List MemPlace)
    (hval : ∀ (j : Nat) t v, Try.f5.params[j]? = some t → args[j]? = some v → Value.okWide Try.prog W .any base t v)
    (hW : DataW.Whole enc Try.prog Try.f5.params.toList σ.vars false W args.toList ds gs before) :
    Calls Try.prog 5 args W fun e W' => ∃ v, e = .returned v ∧ σ.post enc Try.prog Try.f5 false true false false W args v W' := by
  have hW' := hW
  rw [hσ] at hW
  obtain ⟨p, q, hA0, hV, rfl, hfz, hnd⟩ := hW
  have hA : DataW.TrodAll enc Try.prog W 0 (fun _ => true) true Try.f5.params.toList args.toList ds p := hA0
  rw [Try.params5] at hA hval
  have hlt := DataW.TrodAll.lt hA
  obtain ⟨v0, d0, rfl, rfl, h0⟩ := trodAll_one hA
  obtain ⟨rfl, rfl⟩ := trodVars_none hV
  obtain ⟨es, a, n, c, rfl, hes, _, hel⟩ := openEs (hval 0 22 v0 rfl rfl) h0
  have hf : σ.fn H ([d0] ++ []) = _ := hfn H d0
  clear hA0
  refine (fairSteady_any hK hF _ es W hes hel).mono fun e W' ⟨he, hb⟩ => ?_
  subst he
  refine ⟨_, rfl, _, _, _, [], p, [], hW', ?_, ?_, ?_, hb.frame _, fun h => by cases h⟩
  · rw [hf]
    exact trodAll_mk1 (shut_bool Try.underlying4 _)
  · rw [hf]
    exact trodAll_mk1 (Below.trod laidOutB' (by kernel_rfl) (of_decide_eq_true (by kernel_rfl)) h0 hb (fun x hx => hlt x (by simp [hx])))
  · rw [hf, hσ]
    rfl

end Go.Proofs.Ytjbcfflbfnddeac
