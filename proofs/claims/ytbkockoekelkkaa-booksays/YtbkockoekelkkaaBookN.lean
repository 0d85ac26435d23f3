/- The walk of the law BookParts, under package book's contracts. -/
import Derived.Test.YtbkockoekelkkaaBookM
namespace Go.Proofs.Ytbkockoekelkkaa
open Go.RowKit
open scoped Classical

theorem bfold_append : ∀ (a b : List En) (js : List Jb) (rs : List Rg), bfold js rs (a ++ b) = if (bfold js rs a).2 ≠ 0 then (([], []), (bfold js rs a).2) else bfold (bfold js rs a).1.1 (bfold js rs a).1.2 b
  | [], b, js, rs => by simp [bfold]
  | x :: r, b, js, rs => by
    by_cases h : (app js rs x).2 = 0
    · rw [List.cons_append, bfold_ok h, bfold_ok h, bfold_append r b]
    · rw [List.cons_append, bfold_bad h, bfold_bad h, if_pos h]

theorem bookOf_parts {es : List En} (h : (bookOf es).2 = 0) (m : Nat) : es.length ≤ 60 ∧ (bookOf (es.take m)).2 = 0 ∧ bfold (bookOf (es.take m)).1.1 (bookOf (es.take m)).1.2 (es.drop m) = bookOf es := by
  unfold bookOf at h
  by_cases hl : 60 < es.length
  · rw [if_pos hl] at h; cases h
  · rw [if_neg hl] at h
    have e1 : bookOf es = bfold [] [] es := by rw [bookOf, if_neg hl]
    have e2 : bookOf (es.take m) = bfold [] [] (es.take m) := by rw [bookOf, if_neg (by rw [List.length_take]; omega)]
    have ha := bfold_append (es.take m) (es.drop m) [] []
    rw [List.take_append_drop] at ha
    by_cases h0 : (bfold [] [] (es.take m)).2 = 0
    · rw [if_neg (by simpa using h0)] at ha
      exact ⟨by omega, by rw [e2]; exact h0, by rw [e1, e2, ha]⟩
    · rw [if_pos h0] at ha
      rw [ha] at h
      exact absurd h h0

/-- A slice of entries up to a place. -/
theorem upto_run (a : Option Addr) (n m c : Nat) (h : (m : Int) ≤ c) (w : World) : (Instr.slice 52 (.slice a n c) none (some (.int .i64 m)) none).run Try.prog w = .ok (.slice a m c) w := by
  rw [run_slice_h (ht := Try.underlying52) (h0 := by omega) (h2 := h)]
  have hs : (sizeOf (Try.prog.elem 52)).run Try.prog w = .ok 5 w := by kernel_rfl
  rw [hs]
  cases a with
  | none => simp [Result.andThen, sliced]
  | some ad => simp [Result.andThen, sliced, Addr.add]

theorem upto_ents {w : World} {a : Option Addr} {n c : Nat} {es : List En} (h : EntSl w (.slice a n c) es) (m : Nat) (hm : m ≤ n) : EntSl w (.slice a m c) (es.take m) :=
  SlOf.cut (cs := En.cells) (k := 5) h m hm

/-- A slice of entries from a place on. -/
theorem from_run (a : Option Addr) (n m c : Nat) (hm : m ≤ n) (hc : n ≤ c) : ∃ a', (∀ w, (Instr.slice 52 (.slice a n c) (some (.int .i64 m)) none none).run Try.prog w = .ok (.slice a' (n - m) (c - m)) w) ∧
    ∀ (w : World) (es : List En), EntSl w (.slice a n c) es → EntSl w (.slice a' (n - m) (c - m)) (es.drop m) := by
  have hrun : ∀ w, (Instr.slice 52 (.slice a n c) (some (.int .i64 m)) none none).run Try.prog w = .ok (sliced a m n c 5) w := fun w => by
    rw [run_slice_l (ht := Try.underlying52) (h0 := by omega) (h1 := by omega)]
    have hs : (sizeOf (Try.prog.elem 52)).run Try.prog w = .ok 5 w := by kernel_rfl
    rw [hs]
    simp [Result.andThen]
  cases a with
  | none =>
    refine ⟨none, fun w => by rw [hrun]; simp [sliced], fun w es h => ?_⟩
    have hl : es.length = n := SlOf.len (cs := En.cells) (k := 5) h
    have h0 : n = 0 := by
      rcases Nat.eq_zero_or_pos n with h' | h'
      · exact h'
      · obtain ⟨b, off, e, _⟩ := SlOf.at (cs := En.cells) (k := 5) h h'; cases e
    have hd : es.drop m = [] := List.drop_of_length_le (by omega)
    exact ⟨none, c - m, by rw [hd]; simp; omega, Or.inl (by rw [hd]; rfl)⟩
  | some ad =>
    refine ⟨some (if c = m then ad else ad.add (m * 5)), fun w => by rw [hrun]; simp [sliced]; split <;> rfl, fun w es h => ?_⟩
    have hl : es.length = n := SlOf.len (cs := En.cells) (k := 5) h
    have hdl : (es.drop m).length = n - m := by rw [List.length_drop, hl]
    refine ⟨_, c - m, by rw [hdl], ?_⟩
    by_cases hz : n - m = 0
    · exact Or.inl (by rw [hdl]; exact hz)
    · obtain ⟨b, off, e, hE⟩ := SlOf.at (cs := En.cells) (k := 5) h (by omega)
      obtain rfl := Option.some.inj e
      refine Or.inr ⟨b, off + m * 5, by rw [if_neg (by omega), Lib.add_plain], ?_⟩
      exact RowAt.drop (cs := En.cells) (k := 5) hE m

end Go.Proofs.Ytbkockoekelkkaa
