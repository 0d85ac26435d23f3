/- From the walk of the law ClientSays to what a row asks. -/
import Derived.Test.YtbokdcdnandgbaeClientK
import Derived.Test.YtbokdcdnandgbaeArgK
namespace Go.Proofs.Ytbokdcdnandgbae
open Go.ChangeShapes Go.WideShapes Go.ChangeAt Go.RowKit

set_option maxRecDepth 100000 in
theorem clientSays_contract (σ : ChangeSpec) (hσ : σ.vars = []) (hfn : ∀ (H : Type) (d0 d1 d2 d3 d4 d5 d6 : DataW H), σ.fn H [d0, d1, d2, d3, d4, d5, d6] = { results := [.lit (.bool true)], args := [d0, d1, d2, d3, d4, d5, d6] })
    (H : Type) (enc : TypeId × Value → H) (W : World) (base : Nat) (args : Array Value) (ds gs : List (DataW H)) (before : List MemPlace)
    (hval : ∀ (j : Nat) t v, Try.f4.params[j]? = some t → args[j]? = some v → Value.okWide Try.prog W .any base t v)
    (hW : DataW.Whole enc Try.prog Try.f4.params.toList σ.vars false W args.toList ds gs before) :
    Calls Try.prog 4 args W fun e W' => ∃ v, e = .returned v ∧ σ.post enc Try.prog Try.f4 false true false false W args v W' := by
  have hW' := hW
  rw [hσ] at hW
  obtain ⟨p, q, hA0, hV, rfl, hfz, hnd⟩ := hW
  have hA : DataW.TrodAll enc Try.prog W 0 (fun _ => true) true Try.f4.params.toList args.toList ds p := hA0
  rw [Try.params4] at hA hval
  have hlt := DataW.TrodAll.lt hA
  obtain ⟨v0, v1, v2, v3, v4, v5, v6, d0, d1, d2, d3, d4, d5, d6, p0, p1, p2, p3, p4, p5, p6, rfl, rfl, rfl, h0, h1, h2, h3, h4, h5, h6⟩ := trodAll_seven hA
  obtain ⟨rfl, rfl⟩ := trodVars_none hV
  obtain ⟨b01, b02, c0, rfl, hb0, l01, l02⟩ := openCl (hval 0 47 v0 rfl rfl) h0
  obtain ⟨r01, o01, r02, o02, rfl, rfl⟩ := bk_slices hb0.1 hb0.2
  obtain ⟨x1, rfl⟩ := openE (hval 1 24 v1 rfl rfl) h1
  obtain ⟨n2, rfl, _⟩ := openInt (hval 2 3 v2 rfl rfl) h2
  obtain ⟨n3, rfl, _⟩ := openInt (hval 3 3 v3 rfl rfl) h3
  obtain ⟨n4, rfl, _⟩ := openInt (hval 4 3 v4 rfl rfl) h4
  obtain ⟨n5, rfl, _⟩ := openInt (hval 5 3 v5 rfl rfl) h5
  obtain ⟨b61, b62, c6, rfl, hb6, l61, l62⟩ := openCl (hval 6 47 v6 rfl rfl) h6
  obtain ⟨r61, o61, r62, o62, rfl, rfl⟩ := bk_slices hb6.1 hb6.2
  have hf : σ.fn H ([d0, d1, d2, d3, d4, d5, d6] ++ []) = _ := hfn H d0 d1 d2 d3 d4 d5 d6
  clear hA0
  refine (clSays_any c0 c6 x1 n2 n3 n4 n5 r01 r02 r61 r62 _ o01 _ o02 _ o61 _ o62 W hb0 hb6 ⟨l01, l02⟩).mono fun e W' ⟨he, hb⟩ => ?_
  subst he
  refine ⟨_, rfl, _, _, _, [], p0 ++ (p1 ++ (p2 ++ (p3 ++ (p4 ++ (p5 ++ p6))))), [], hW', ?_, ?_, ?_, hb.frame _, fun h => by cases h⟩
  · rw [hf]
    exact trodAll_mk1 (shut_bool Try.underlying4 _)
  · rw [hf]
    exact ⟨p0, p1 ++ (p2 ++ (p3 ++ (p4 ++ (p5 ++ p6)))), (Below.trod laidOutB' (by kernel_rfl) (of_decide_eq_true (by kernel_rfl)) h0 hb (fun x hx => hlt x (by simp [hx]))), ⟨p1, p2 ++ (p3 ++ (p4 ++ (p5 ++ p6))), (Below.trod laidOutB' (by kernel_rfl) (of_decide_eq_true (by kernel_rfl)) h1 hb (fun x hx => hlt x (by simp [hx]))), ⟨p2, p3 ++ (p4 ++ (p5 ++ p6)), (Below.trod laidOutB' (by kernel_rfl) (of_decide_eq_true (by kernel_rfl)) h2 hb (fun x hx => hlt x (by simp [hx]))), trodAll_mk4 (Below.trod laidOutB' (by kernel_rfl) (of_decide_eq_true (by kernel_rfl)) h3 hb (fun x hx => hlt x (by simp [hx]))) (Below.trod laidOutB' (by kernel_rfl) (of_decide_eq_true (by kernel_rfl)) h4 hb (fun x hx => hlt x (by simp [hx]))) (Below.trod laidOutB' (by kernel_rfl) (of_decide_eq_true (by kernel_rfl)) h5 hb (fun x hx => hlt x (by simp [hx]))) (Below.trod laidOutB' (by kernel_rfl) (of_decide_eq_true (by kernel_rfl)) h6 hb (fun x hx => hlt x (by simp [hx]))), rfl⟩, rfl⟩, rfl⟩
  · rw [hf, hσ]
    rfl

end Go.Proofs.Ytbokdcdnandgbae
