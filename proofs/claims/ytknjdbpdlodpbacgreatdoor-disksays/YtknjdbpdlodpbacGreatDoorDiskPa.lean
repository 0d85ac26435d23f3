/- From the walk of the law DiskSays to what a row asks. -/
import Derived.Test.YtknjdbpdlodpbacGreatDoorDiskP
import Derived.Test.YtknjdbpdlodpbacGreatDoorDiskH
namespace Go.Proofs.YtknjdbpdlodpbacGreatDoor
open Go.ChangeShapes Go.WideShapes Go.ChangeAt Go.RowKit

set_option maxRecDepth 100000 in
theorem diskSays_contract (σ : ChangeSpec) (hσ : σ.vars = []) (hfn : ∀ (H : Type) (d0 d1 d2 d3 : DataW H), σ.fn H [d0, d1, d2, d3] = { results := [.lit (.bool true)], args := [d0, d1, d2, d3] }) (hK : Disks)
    (H : Type) (enc : TypeId × Value → H) (W : World) (base : Nat) (args : Array Value) (ds gs : List (DataW H)) (before : List MemPlace)
    (hval : ∀ (j : Nat) t v, Tryz.f3.params[j]? = some t → args[j]? = some v → Value.okWide Tryz.prog W .any base t v)
    (hW : DataW.Whole enc Tryz.prog Tryz.f3.params.toList σ.vars false W args.toList ds gs before) (hL : Laid W) (VT : List TypeId) (hZ : (DataW.weightsEach Tryz.prog (Tryz.f3.params.toList ++ VT) (ds ++ gs)).all (· ≤ reachBytes) = true) :
    Calls Tryz.prog 3 args W fun e W' => ∃ v, e = .returned v ∧ σ.post enc Tryz.prog Tryz.f3 false true false false W args v W' := by
  have hW' := hW
  rw [hσ] at hW
  obtain ⟨p, q, hA0, hV, rfl, hfz, hnd⟩ := hW
  have hA : DataW.TrodAll enc Tryz.prog W 0 (fun _ => true) true Tryz.f3.params.toList args.toList ds p := hA0
  rw [Tryz.params3] at hA hval hZ
  have hlt := DataW.TrodAll.lt hA
  obtain ⟨v0, v1, v2, v3, d0, d1, d2, d3, p0, p1, p2, p3, rfl, rfl, rfl, h0, h1, h2, h3⟩ := trodAll_four hA
  obtain ⟨rfl, rfl⟩ := trodVars_none hV
  obtain ⟨a1, a2, n1, n2, q1, q2, dk, rfl, g1, l1, l2, m1, m2⟩ := openDk (hval 0 24 v0 rfl rfl) h0 (fun n hn => of_decide_eq_true (List.all_eq_true.1 hZ n (DataW.weights_mem_each (j := 0) rfl rfl n hn)))
  obtain ⟨c, rfl⟩ := open_rec (hval 1 28 v1 rfl rfl) h1
  obtain ⟨n, rfl⟩ := openI (hval 2 3 v2 rfl rfl) h2
  obtain ⟨a3, a4, n3, n4, q3, q4, xk, rfl, g3, l3, l4, m3, m4⟩ := openDk (hval 3 24 v3 rfl rfl) h3 (fun n hn => of_decide_eq_true (List.all_eq_true.1 hZ n (DataW.weights_mem_each (j := 3) rfl rfl n hn)))
  have hf : σ.fn H ([d0, d1, d2, d3] ++ []) = _ := hfn H d0 d1 d2 d3
  clear hA0
  refine (diskSays_at hK a1 a2 a3 a4 n1 n2 n3 n4 q1 q2 q3 q4 dk xk c n W hL g1 g3 l1 l2 l3 l4 m1 m2 m3 m4).mono fun e W' ⟨he, hb⟩ => ?_
  subst he
  refine ⟨_, rfl, _, _, _, [], p0 ++ (p1 ++ (p2 ++ p3)), [], hW', ?_, ?_, ?_, hb.frame _, fun h => by cases h⟩
  · rw [hf]
    exact trodAll_mk1 (shut_bool Tryz.underlying4 _)
  · rw [hf]
    exact trodAll_mk4 (Below.trod laidOut (by kernel_rfl) (of_decide_eq_true (by kernel_rfl)) h0 hb (fun x hx => hlt x (by simp [hx]))) (Below.trod laidOut (by kernel_rfl) (of_decide_eq_true (by kernel_rfl)) h1 hb (fun x hx => hlt x (by simp [hx]))) (Below.trod laidOut (by kernel_rfl) (of_decide_eq_true (by kernel_rfl)) h2 hb (fun x hx => hlt x (by simp [hx]))) (Below.trod laidOut (by kernel_rfl) (of_decide_eq_true (by kernel_rfl)) h3 hb (fun x hx => hlt x (by simp [hx])))
  · rw [hf, hσ]
    rfl

end Go.Proofs.YtknjdbpdlodpbacGreatDoor
