/- Plain facts for ChainStands and ChainAlong. -/
import Derived.Test.YtaialgacaomaeadChainG
namespace Go.Proofs.Ytaialgacaomaead
open Go.RowKit
open scoped Classical

theorem chain_unit {us : List Un} (h : ckChain us = 0) {k : Nat} (hk : k < 3) : ∃ u, us[k]? = some u ∧ u.ck = 0 := by
  obtain ⟨u0, u1, u2, rfl, c0, c1, c2, _, _⟩ := ckChain_zero.1 h
  have hk' : k = 0 ∨ k = 1 ∨ k = 2 := by omega
  rcases hk' with rfl | rfl | rfl
  · exact ⟨u0, rfl, c0⟩
  · exact ⟨u1, rfl, c1⟩
  · exact ⟨u2, rfl, c2⟩

/-- What a link that goes through leaves to be told. -/
theorem st_facts {us : List Un} {k a : Int} {x : En} {ep : Int} {r : Rc} {s : En} (h : linkOf us k a x ep = (r, s, 0)) :
    ∃ (kk aa : Nat) (u : Un), k = (kk : Int) ∧ a = (aa : Int) ∧ kk < 3 ∧ aa < 60 ∧ us[kk]? = some u ∧ u.ck = 0 ∧ ckChain us = 0 ∧
      ((r = Rc.zero ∧ u.cells[aa]? = some s ∧ s.isB = false) ∨
       (r = ⟨1, (aa : Int), 0, x⟩ ∧ s = x ∧ x.chk = 0 ∧ u.cells[aa]? = some blankE ∧ unext u ⟨1, (aa : Int), 0, x⟩ = (⟨u.p, u.cells.set aa x⟩, 0) ∧ ckChain (us.set kk ⟨u.p, u.cells.set aa x⟩) = 0 ∧
         (∀ i, i < 60 → (plc us 2 i).isB = false → plc (us.set kk ⟨u.p, u.cells.set aa x⟩) 2 i = plc us 2 i))) := by
  obtain ⟨h1, hk, ha, hx, hp, hl, hw⟩ := linkOf_ok (us := us) (k := k) (a := a) (x := x) (ep := ep) (by rw [h])
  obtain ⟨kk, rfl⟩ : ∃ kk : Nat, k = kk := ⟨k.toNat, by omega⟩
  obtain ⟨aa, rfl⟩ : ∃ aa : Nat, a = aa := ⟨a.toNat, by omega⟩
  have hkk : kk < 3 := by omega
  have haa : aa < 60 := by omega
  obtain ⟨u, hu, huc⟩ := chain_unit h1 hkk
  have hpl : u.cells[aa]? = some (plc us kk aa) := plc_some hu huc haa
  refine ⟨kk, aa, u, rfl, rfl, hkk, haa, hu, huc, h1, ?_⟩
  rw [Int.toNat_natCast, Int.toNat_natCast] at hw hl
  rcases hw with ⟨hb, e⟩ | ⟨hb, e⟩
  · rw [e] at h
    have e1 : Rc.zero = r := congrArg Prod.fst h
    have e2 : plc us kk aa = s := congrArg (fun q => q.2.1) h
    exact Or.inl ⟨e1.symm, by rw [← e2]; exact hpl, by rw [← e2]; exact hb⟩
  · rw [e] at h
    have e1 : (⟨1, (aa : Int), 0, x⟩ : Rc) = r := congrArg Prod.fst h
    have e2 : x = s := congrArg (fun q => q.2.1) h
    have hbl : u.cells[aa]? = some blankE := by rw [hpl, En.isB_eq.1 hb]
    have hl' : 1 ≤ kk → x = plc us (kk - 1) aa := fun hh => hl (by omega)
    exact Or.inr ⟨e1.symm, e2.symm, hx, hbl, unext_write huc haa hx hbl, chain_set h1 hkk haa hu hbl hx hl', fun i hi hr => read_set h1 hkk haa hu hbl hx hl' hi hr⟩

/-- Behind it all that was read is read, and all units have it. -/
theorem st_read {us ms : List Un} (h2 : ckChain ms = 0) (hp : ∀ i, i < 60 → (plc us 2 i).isB = false → plc ms 2 i = plc us 2 i) {i : Nat} (hi : i < 60) :
    (readOf us (i : Int)).2 ≠ 0 ∨ ∃ y, readOf us (i : Int) = (y, 0) ∧ readOf ms (i : Int) = (y, 0) ∧ ∀ (k : Nat) (u : Un), ms[k]? = some u → u.cells[i]? = some y := by
  by_cases hr : (readOf us (i : Int)).2 = 0
  · obtain ⟨_, _, hb, e⟩ := readOf_ok hr
    rw [Int.toNat_natCast] at hb e
    have hpi := hp i hi hb
    have hb2 : (plc ms 2 i).isB = false := by rw [hpi]; exact hb
    have e2 := readOf_at (us := ms) (a := (i : Int)) h2 (by omega) (by rw [Int.toNat_natCast]; exact hb2)
    rw [Int.toNat_natCast, hpi] at e2
    refine Or.inr ⟨plc us 2 i, e, e2, fun k u hu => ?_⟩
    have := chain_all h2 hi hb2 k u hu
    rwa [hpi] at this
  · exact Or.inl hr

end Go.Proofs.Ytaialgacaomaead
