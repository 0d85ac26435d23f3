/- Units: the tail from behind; what a record makes of a unit in place. -/
import Derived.Test.YtaialgacaomaeadUnitA
namespace Go.Proofs.Ytaialgacaomaead
open Go.RowKit

theorem tail_snoc : ∀ (es : List En) (k : Nat) (t : Int) (x : En), tailFrom k t (es ++ [x]) = if x.k = 4 then tailFrom k t es else ((k + es.length + 1 : Nat) : Int)
  | [], k, t, x => by
    rw [List.nil_append, tailFrom, tailFrom, tailFrom]
    split <;> simp
  | c :: r, k, t, x => by
    rw [List.cons_append, tailFrom, tail_snoc r, tailFrom, List.length_cons]
    split
    · rfl
    · congr 1
      omega

/-- One place more. -/
theorem tail_take {es : List En} {m : Nat} {x : En} (h : es[m]? = some x) : tailOf (es.take (m + 1)) = if x.k = 4 then tailOf (es.take m) else ((m + 1 : Nat) : Int) := by
  have hl := (List.getElem?_eq_some_iff.1 h).1
  rw [List.take_add_one, h]
  show tailFrom 0 0 (es.take m ++ [x]) = _
  rw [tail_snoc, List.length_take, Nat.min_eq_left (by omega), Nat.zero_add]
  rfl

/-- What a record makes of a right unit, in place: nothing, if something is wrong. -/
def utake (u : Un) (r : Rc) : Un × Int := if r.chk ≠ 0 then (u, r.chk) else if (uwrite u r).2 ≠ 0 then (u, (uwrite u r).2) else uwrite u r

theorem uwrite_bad {u : Un} {r : Rc} (h : (uwrite u r).2 ≠ 0) : (uwrite u r).1 = Un.zero := by
  unfold uwrite at h ⊢
  split at h <;> rename_i h1
  · rw [if_pos h1]
    split at h <;> rename_i h2
    · rw [if_pos h2]
    · exact absurd rfl h
  · rw [if_neg h1]
    split at h <;> rename_i h2
    · rw [if_pos h2]
    · exact absurd rfl h

theorem unext_of {u : Un} (r : Rc) (h : u.ck = 0) : unext u r = if r.chk ≠ 0 then (Un.zero, r.chk) else uwrite u r := by
  rw [unext, if_neg (by simpa using h)]

theorem utake_err (u : Un) (r : Rc) (h : u.ck = 0) : (utake u r).2 = (unext u r).2 := by
  rw [unext_of r h, utake]
  by_cases h1 : r.chk = 0
  · rw [if_neg (c := r.chk ≠ 0) (by simpa using h1), if_neg (c := r.chk ≠ 0) (by simpa using h1)]
    split <;> rfl
  · rw [if_pos h1, if_pos h1]

theorem utake_ok {u : Un} {r : Rc} (h : u.ck = 0) (h2 : (utake u r).2 = 0) : utake u r = unext u r := by
  rw [unext_of r h]
  rw [utake] at h2 ⊢
  by_cases h1 : r.chk = 0
  · rw [if_neg (c := r.chk ≠ 0) (by simpa using h1)] at h2 ⊢
    rw [if_neg (c := r.chk ≠ 0) (by simpa using h1)]
    split
    · rename_i h4
      rw [if_pos h4] at h2
      exact absurd h2 h4
    · rfl
  · rw [if_pos h1] at h2
    exact absurd h2 h1

theorem unext_bad {u : Un} {r : Rc} (h : u.ck = 0) (h2 : (unext u r).2 ≠ 0) : (unext u r).1 = Un.zero := by
  rw [unext_of r h] at h2 ⊢
  by_cases h1 : r.chk = 0
  · rw [if_neg (c := r.chk ≠ 0) (by simpa using h1)] at h2 ⊢
    exact uwrite_bad h2
  · rw [if_pos h1]

end Go.Proofs.Ytaialgacaomaead
