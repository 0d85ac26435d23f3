/- Records: what is wrong with one. -/
import Derived.Test.YtaialgacaomaeadKit
namespace Go.Proofs.Ytaialgacaomaead
open Go.RowKit

/-- A record: Kind, At, Epoch, the entry. -/
structure Rc where (k : Int) (a : Int) (p : Int) (e : En)

def Rc.zero : Rc := ⟨0, 0, 0, En.zero⟩

/-- The entry of a record has something in it. -/
def En.some_ (e : En) : Bool := unlike e.k e.j e.v e.t e.c 0 0 0 0 0

theorem En.some_no {e : En} (h : e.some_ = false) : e = En.zero := by
  obtain ⟨h1, h2, h3, h4, h5⟩ := unlike_false h
  cases e
  simp_all [En.zero]

theorem zero_some : En.zero.some_ = false := by decide

/-- What is wrong with a record. -/
def Rc.chk (r : Rc) : Int :=
  if r.k = 2 then (if ¬(1 ≤ r.p ∧ r.p ≤ 20) then 3 else if ¬ r.a = 0 ∨ r.e.some_ = true then 4 else 0)
  else if ¬ r.k = 1 then 4 else if ¬(0 ≤ r.a ∧ r.a ≤ 59) then 3 else if ¬ r.p = 0 then 4 else r.e.chk

theorem Rc.seal {r : Rc} (h : r.chk = 0) (hk : r.k = 2) : (1 ≤ r.p ∧ r.p ≤ 20) ∧ r = ⟨2, 0, r.p, En.zero⟩ := by
  unfold Rc.chk at h
  rw [if_pos hk] at h
  split at h
  · cases h
  · rename_i h1
    split at h
    · cases h
    · rename_i h2
      have h3 : r.a = 0 := Classical.byContradiction fun e => h2 (Or.inl e)
      have h4 : r.e.some_ = false := by
        cases hs : r.e.some_ with
        | true => exact absurd (Or.inr hs) h2
        | false => rfl
      have h5 := En.some_no h4
      refine ⟨by simpa using h1, ?_⟩
      cases r
      simp_all

theorem Rc.write {r : Rc} (h : r.chk = 0) (hk : ¬ r.k = 2) : r.k = 1 ∧ (0 ≤ r.a ∧ r.a ≤ 59) ∧ r.p = 0 ∧ r.e.chk = 0 := by
  unfold Rc.chk at h
  rw [if_neg hk] at h
  split at h
  · cases h
  · rename_i h1
    split at h
    · cases h
    · rename_i h2
      split at h
      · cases h
      · rename_i h3
        exact ⟨by simpa using h1, by simpa using h2, by simpa using h3, h⟩

end Go.Proofs.Ytaialgacaomaead
