/- From the walks of the laws BookSays, BookOnce, BookParts to what a row asks. -/
import Derived.Test.YtbkockoekelkkaaBookO
namespace Go.Proofs.Ytbkockoekelkkaa
open Go.ChangeShapes Go.WideShapes Go.ChangeAt Go.RowKit

theorem openInt {H : Type} {enc : TypeId × Value → H} {w : World} {base : Nat} {spare : Nat → Bool} {held : Bool} {r : Reach} {b0 : Nat} {v : Value} {d : DataW H} {p : List MemPlace} (hv : Value.okWide Try.prog w r b0 3 v) (h : DataW.Trod enc Try.prog w base spare held 3 v d p) : ∃ n, v = .int .i64 n ∧ True := by
  obtain ⟨n, rfl, _⟩ := open_int Try.underlying3 hv h
  exact ⟨n, rfl, trivial⟩

set_option maxRecDepth 100000 in
theorem bookSays_contract (σ : ChangeSpec) (hσ : σ.vars = []) (hfn : ∀ (H : Type) (d0 d1 d2 d3 : DataW H), σ.fn H [d0, d1, d2, d3] = { results := [.lit (.bool true)], args := [d0, d1, d2, d3] }) (hK : Books)
    (H : Type) (enc : TypeId × Value → H) (W : World) (base : Nat) (args : Array Value) (ds gs : List (DataW H)) (before : List MemPlace)
    (hval : ∀ (j : Nat) t v, Try.f4.params[j]? = some t → args[j]? = some v → Value.okWide Try.prog W .any base t v)
    (hW : DataW.Whole enc Try.prog Try.f4.params.toList σ.vars false W args.toList ds gs before) :
    Calls Try.prog 4 args W fun e W' => ∃ v, e = .returned v ∧ σ.post enc Try.prog Try.f4 false true false false W args v W' := by
  have hW' := hW
  rw [hσ] at hW
  obtain ⟨p, q, hA0, hV, rfl, hfz, hnd⟩ := hW
  have hA : DataW.TrodAll enc Try.prog W 0 (fun _ => true) true Try.f4.params.toList args.toList ds p := hA0
  rw [Try.params4] at hA hval
  have hlt := DataW.TrodAll.lt hA
  obtain ⟨v0, v1, v2, v3, d0, d1, d2, d3, p0, p1, p2, p3, rfl, rfl, rfl, h0, h1, h2, h3⟩ := trodAll_four hA
  obtain ⟨rfl, rfl⟩ := trodVars_none hV
  obtain ⟨a1, a2, js, rs, rfl, g1, g2, l1, l2⟩ := openBk (hval 0 30 v0 rfl rfl) h0
  obtain ⟨x, rfl⟩ := openE (hval 1 32 v1 rfl rfl) h1
  obtain ⟨b1, b2, js', rs', rfl, g3, g4, l3, l4⟩ := openBk (hval 2 30 v2 rfl rfl) h2
  obtain ⟨id, rfl, _⟩ := openInt (hval 3 3 v3 rfl rfl) h3
  have hf : σ.fn H ([d0, d1, d2, d3] ++ []) = _ := hfn H d0 d1 d2 d3
  clear hA0
  refine (bookSays_any hK a1 a2 b1 b2 js js' rs rs' x id W g1 g2 g3 g4 l1 l2 l3 l4).mono fun e W' ⟨he, hb⟩ => ?_
  subst he
  refine ⟨_, rfl, _, _, _, [], p0 ++ (p1 ++ (p2 ++ p3)), [], hW', ?_, ?_, ?_, hb.frame _, fun h => by cases h⟩
  · rw [hf]
    exact trodAll_mk1 (shut_bool Try.underlying4 _)
  · rw [hf]
    exact trodAll_mk4 (Below.trod laidOutB' (by kernel_rfl) (of_decide_eq_true (by kernel_rfl)) h0 hb (fun x hx => hlt x (by simp [hx]))) (Below.trod laidOutB' (by kernel_rfl) (of_decide_eq_true (by kernel_rfl)) h1 hb (fun x hx => hlt x (by simp [hx]))) (Below.trod laidOutB' (by kernel_rfl) (of_decide_eq_true (by kernel_rfl)) h2 hb (fun x hx => hlt x (by simp [hx]))) (Below.trod laidOutB' (by kernel_rfl) (of_decide_eq_true (by kernel_rfl)) h3 hb (fun x hx => hlt x (by simp [hx])))
  · rw [hf, hσ]
    rfl

end Go.Proofs.Ytbkockoekelkkaa
