/- Insertion sort at a row of jobs (slices.SortFunc at few elements): plain facts. -/
import Derived.Test.YtmfoonalehmjoabDueH
import Derived.Test.YtmfoonalehmjoabBookZd
import Derived.Test.YtmfoonalehmjoabBookZa
namespace Go.Proofs.Ytmfoonalehmjoab
open Go.RowKit Go.Shelf

/-- IDs within their bounds. -/
def Few (xs : List Jb) : Prop := ∀ x, x ∈ xs → (0 ≤ x.i ∧ x.i ≤ 5) ∧ (0 ≤ x.n ∧ x.n ≤ 100100)

/-- A job that goes to the left in a row: ahead of it A, behind it B (all behind it in the order), then what is not looked at yet. -/
structure Ins (xs : List Jb) (A : List Jb) (x : Jb) (B R : List Jb) : Prop where
  row : Row (A ++ B)
  ahead : ∀ y, y ∈ B → x.ahead y
  all : ∀ z, z ∈ A ++ x :: (B ++ R) ↔ z ∈ xs
  len : (A ++ x :: (B ++ R)).length = xs.length
  apart : (A ++ x :: (B ++ R)).Pairwise (fun y z => y.i ≠ z.i)

theorem Row.left {a b : List Jb} : Row (a ++ b) → Row a := by
  intro h
  induction a with
  | nil => trivial
  | cons x r ih => exact ⟨fun y hy => h.1 y (List.mem_append_left _ hy), ih h.2⟩

theorem Row.mid : ∀ {a b : List Jb}, Row (a ++ b) → ∀ x, x ∈ a → ∀ y, y ∈ b → x.ahead y
  | [], _, _, x, hx, _, _ => by cases hx
  | z :: r, b, h, x, hx, y, hy => by
    rcases List.mem_cons.1 hx with rfl | hx
    · exact h.1 y (List.mem_append_right _ hy)
    · exact Row.mid (a := r) h.2 x hx y hy

theorem row_right : ∀ {a b : List Jb}, Row (a ++ b) → Row b
  | [], _, h => h
  | _ :: r, _, h => row_right (a := r) h.2

theorem ahead_trans {x y z : Jb} (h1 : x.ahead y) (h2 : y.ahead z) : x.ahead z := by
  unfold Jb.ahead at *
  omega

theorem ahead_total {x y : Jb} (h : x.i ≠ y.i) : ¬ x.ahead y → y.ahead x := by
  unfold Jb.ahead
  omega

/-- It goes one further to the left. -/
theorem Ins.step {xs A B R : List Jb} {x y : Jb} (h : Ins xs (A ++ [y]) x B R) (hxy : x.ahead y) : Ins xs A x (y :: B) R := by
  have e : (A ++ [y]) ++ x :: (B ++ R) = A ++ ([y] ++ x :: (B ++ R)) := by simp
  refine ⟨by simpa using h.row, fun z hz => ?_, fun z => ?_, ?_, ?_⟩
  · rcases List.mem_cons.1 hz with rfl | hz
    · exact hxy
    · exact h.ahead z hz
  · rw [← h.all z]
    simp only [List.mem_append, List.mem_cons, List.not_mem_nil, or_false]
    constructor
    · rintro (h1 | h1 | (h1 | h1) | h1)
      · exact Or.inl (Or.inl h1)
      · exact Or.inr (Or.inl h1)
      · exact Or.inl (Or.inr h1)
      · exact Or.inr (Or.inr (Or.inl h1))
      · exact Or.inr (Or.inr (Or.inr h1))
    · rintro ((h1 | h1) | h1 | h1 | h1)
      · exact Or.inl h1
      · exact Or.inr (Or.inr (Or.inl (Or.inl h1)))
      · exact Or.inr (Or.inl h1)
      · exact Or.inr (Or.inr (Or.inl (Or.inr h1)))
      · exact Or.inr (Or.inr (Or.inr h1))
  · have := h.len
    simp at this ⊢
    omega
  · have hp : (A ++ x :: (y :: B ++ R)).Perm ((A ++ [y]) ++ x :: (B ++ R)) := by
      rw [List.append_assoc]
      refine List.Perm.append_left A ?_
      exact List.Perm.swap y x (B ++ R)
    exact hp.symm.pairwise h.apart (fun h => Ne.symm h)

/-- It stands where it belongs: nothing is ahead of it. -/
theorem Ins.atFront {xs B R : List Jb} {x : Jb} (h : Ins xs [] x B R) : Row (x :: B) := ⟨h.ahead, h.row⟩

/-- ..or what is ahead of it is ahead in the order. -/
theorem Ins.placed {xs A B R : List Jb} {x y : Jb} (h : Ins xs (A ++ [y]) x B R) (hxy : ¬ x.ahead y) : Row ((A ++ [y]) ++ x :: B) := by
  have hy : y.ahead x := by
    refine ahead_total ?_ hxy
    have := h.apart
    rw [List.pairwise_append] at this
    exact fun e => this.2.2 y (by simp) x (by simp) e.symm
  refine row_append (Row.left h.row) ⟨h.ahead, ?_⟩ (fun u hu v hv => ?_)
  · have := h.row
    have := row_right this
    exact this
  · have hux : u.ahead x := by
      rcases List.mem_append.1 hu with hu | hu
      · have : Row (A ++ [y]) := Row.left h.row
        exact ahead_trans (Row.mid this u hu y (by simp)) hy
      · obtain rfl : u = y := by simpa using hu
        exact hy
    rcases List.mem_cons.1 hv with rfl | hv
    · exact hux
    · exact Row.mid h.row u hu v hv

/-- The next one begins its way. -/
theorem Ins.next {xs P R : List Jb} {x : Jb} (hr : Row P) (hall : ∀ z, z ∈ P ++ x :: R ↔ z ∈ xs) (hlen : (P ++ x :: R).length = xs.length) (hap : (P ++ x :: R).Pairwise (fun y z => y.i ≠ z.i)) : Ins xs P x [] R :=
  ⟨by simpa using hr, (fun y hy => by cases hy), by simpa using hall, by simpa using hlen, by simpa using hap⟩

end Go.Proofs.Ytmfoonalehmjoab
