/- At a later time no less is due, and what was due is due first. -/
import Derived.Test.YtmfoonalehmjoabDueB
namespace Go.Proofs.Ytmfoonalehmjoab
open Go.RowKit

theorem row_filter (p : Jb → Bool) : ∀ {l : List Jb}, Row l → Row (l.filter p)
  | [], _ => trivial
  | x :: r, h => by
    rw [List.filter_cons]
    split
    · exact ⟨fun y hy => h.1 y (List.mem_filter.1 hy).1, row_filter p h.2⟩
    · exact row_filter p h.2

theorem row_append : ∀ {a b : List Jb}, Row a → Row b → (∀ x, x ∈ a → ∀ y, y ∈ b → x.ahead y) → Row (a ++ b)
  | [], _, _, hb, _ => hb
  | x :: r, b, ha, hb, h => ⟨fun y hy => by
      rcases List.mem_append.1 hy with hy | hy
      · exact ha.1 y hy
      · exact h x (by simp) y hy, row_append ha.2 hb (fun z hz => h z (List.mem_cons_of_mem _ hz))⟩

theorem due_later {l : Int} {js : List Jb} (hs : Srt l js) {s t : Int} (hst : s ≤ t) : dueOf js t = dueOf js s ++ (dueOf js t).filter (fun x => decide (s < x.n)) := by
  refine row_ext (dueOf_row t hs) (row_append (dueOf_row s hs) (row_filter _ (dueOf_row t hs)) (fun x hx y hy => ?_)) (fun x => ?_)
  · have h1 := ((dueOf_mem s x js).1 hx).2
    have h2 := (List.mem_filter.1 hy).2
    simp only [decide_eq_true_eq] at h2
    exact Or.inl (by omega)
  · rw [List.mem_append, List.mem_filter, dueOf_mem, dueOf_mem, decide_eq_true_eq]
    constructor
    · rintro ⟨h1, h2⟩
      by_cases h3 : x.n ≤ s
      · exact Or.inl ⟨h1, h3⟩
      · exact Or.inr ⟨⟨h1, h2⟩, by omega⟩
    · rintro (⟨h1, h2⟩ | ⟨h1, _⟩)
      · exact ⟨h1, by omega⟩
      · exact h1

theorem due_prefix {l : Int} {js : List Jb} (hs : Srt l js) {s t : Int} (hst : s ≤ t) : (dueOf js t).take (dueOf js s).length = dueOf js s ∧ (dueOf js s).length ≤ (dueOf js t).length := by
  have h := due_later hs hst
  constructor
  · rw [h]; simp
  · rw [h, List.length_append]; omega

theorem cnt1_later {x : Jb} (he : 1 ≤ x.e) {s t : Int} (hst : s ≤ t) : cnt1 x s ≤ cnt1 x t := by
  by_cases h1 : s < x.n
  · rw [cnt1_none h1]; exact cnt1_nonneg he
  · rw [cnt1, if_neg h1, cnt1, if_neg (by omega)]
    have := Int.ediv_le_ediv (a := s - x.n) (b := t - x.n) (c := x.e) (by omega) (by omega)
    omega

theorem count_later : ∀ {js : List Jb}, (∀ x, x ∈ js → 1 ≤ x.e) → ∀ {s t : Int}, s ≤ t → countOf js s ≤ countOf js t
  | [], _, _, _, _ => Int.le_refl _
  | x :: r, h, s, t, hst => by
    rw [countOf, countOf]
    have h1 := cnt1_later (h x (by simp)) hst
    have h2 := count_later (js := r) (fun y hy => h y (List.mem_cons_of_mem _ hy)) hst
    omega

/-- The reference counts up: so many steps of Every from Next on. -/
theorem cnt1_up {x : Jb} (he : 1 ≤ x.e) (t : Int) (k : Nat) : (k : Int) < cnt1 x t ↔ x.n + k * x.e ≤ t := by
  rw [cnt1]
  split
  · rename_i h
    constructor
    · intro h'; omega
    · intro h'
      have : (0 : Int) ≤ k * x.e := Int.mul_nonneg (by omega) (by omega)
      omega
  · rename_i h
    rw [Int.lt_add_one_iff, Int.le_ediv_iff_mul_le (by omega)]
    omega

end Go.Proofs.Ytmfoonalehmjoab
