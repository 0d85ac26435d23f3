/- From the walk of the law DiskKeeps to what a row asks. -/
import Derived.Test.YtknjdbpdlodpbadDoorDiskP
import Derived.Test.YtknjdbpdlodpbadDoorDiskJ
namespace Go.Proofs.YtknjdbpdlodpbadDoor
open Go.ChangeShapes Go.WideShapes Go.ChangeAt Go.RowKit

set_option maxRecDepth 100000 in
theorem diskKeeps_contract (σ : ChangeSpec) (hσ : σ.vars = []) (hfn : ∀ (H : Type) (d0 d1 d2 : DataW H), σ.fn H [d0, d1, d2] = { results := [.lit (.bool true)], args := [d0, d1, d2] }) (hK : Disks)
    (H : Type) (enc : TypeId × Value → H) (W : World) (base : Nat) (args : Array Value) (ds gs : List (DataW H)) (before : List MemPlace)
    (hval : ∀ (j : Nat) t v, Tryd.f3.params[j]? = some t → args[j]? = some v → Value.okWide Tryd.prog W .any base t v)
    (hW : DataW.Whole enc Tryd.prog Tryd.f3.params.toList σ.vars false W args.toList ds gs before) (hL : Laid W) :
    Calls Tryd.prog 3 args W fun e W' => ∃ v, e = .returned v ∧ σ.post enc Tryd.prog Tryd.f3 false true false false W args v W' := by
  have hW' := hW
  rw [hσ] at hW
  obtain ⟨p, q, hA0, hV, rfl, hfz, hnd⟩ := hW
  have hA : DataW.TrodAll enc Tryd.prog W 0 (fun _ => true) true Tryd.f3.params.toList args.toList ds p := hA0
  rw [Tryd.params3] at hA hval
  have hlt := DataW.TrodAll.lt hA
  obtain ⟨v0, v1, v2, d0, d1, d2, p0, p1, p2, rfl, rfl, rfl, h0, h1, h2⟩ := trodAll_three hA
  obtain ⟨rfl, rfl⟩ := trodVars_none hV
  obtain ⟨cs, a1, n1, q1, rfl, g1, r1⟩ := openRs (hval 0 22 v0 rfl rfl) h0
  obtain ⟨es, a2, n2, q2, rfl, g2, r2⟩ := openRs (hval 1 22 v1 rfl rfl) h1
  obtain ⟨n, rfl⟩ := openI (hval 2 3 v2 rfl rfl) h2
  have hf : σ.fn H ([d0, d1, d2] ++ []) = _ := hfn H d0 d1 d2
  clear hA0
  refine (diskKeeps_at hK a1 a2 n1 n2 q1 q2 cs es n W hL g1 g2 r1 r2).mono fun e W' ⟨he, hb⟩ => ?_
  subst he
  refine ⟨_, rfl, _, _, _, [], p0 ++ (p1 ++ p2), [], hW', ?_, ?_, ?_, hb.frame _, fun h => by cases h⟩
  · rw [hf]
    exact trodAll_mk1 (shut_bool Tryd.underlying4 _)
  · rw [hf]
    exact trodAll_mk3 (Below.trod laidOut (by kernel_rfl) (of_decide_eq_true (by kernel_rfl)) h0 hb (fun x hx => hlt x (by simp [hx]))) (Below.trod laidOut (by kernel_rfl) (of_decide_eq_true (by kernel_rfl)) h1 hb (fun x hx => hlt x (by simp [hx]))) (Below.trod laidOut (by kernel_rfl) (of_decide_eq_true (by kernel_rfl)) h2 hb (fun x hx => hlt x (by simp [hx])))
  · rw [hf, hσ]
    rfl

end Go.Proofs.YtknjdbpdlodpbadDoor
