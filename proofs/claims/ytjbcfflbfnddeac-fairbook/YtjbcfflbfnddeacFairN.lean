/- Lives: one of them is rung no oftener than all; one cell of one of them stored. -/
import Derived.Test.YtjbcfflbfnddeacFairD
namespace Go.Proofs.Ytjbcfflbfnddeac
open Go.RowKit

theorem life_le : ∀ {ls : List Lf}, (∀ y, y ∈ ls → 0 ≤ y.r) → ∀ {y : Lf}, y ∈ ls → y.r ≤ allR ls
  | x :: r, h, y, hy => by
    have hr := (allR_take_le (ls := r) (fun u hu => h u (List.mem_cons_of_mem _ hu)) 0).2
    have hx := h x (by simp)
    rw [allR]
    rcases List.mem_cons.1 hy with rfl | hy
    · simp [allR] at hr; omega
    · have := life_le (fun u hu => h u (List.mem_cons_of_mem _ hu)) hy
      omega

theorem flat_set {ls : List Lf} {k f : Nat} {y z : Lf} {u : Value} (hy : ls[k]? = some y) (hf : f < 5) (hz : z.cells = y.cells.set f u) : (ls.flatMap Lf.cells).set (k * 5 + f) u = (ls.set k z).flatMap Lf.cells := by
  obtain ⟨e, h⟩ := set_split hy
  have hlt := (List.getElem?_eq_some_iff.1 hy).1
  have hl : ((ls.take k).flatMap Lf.cells).length = k * 5 := by rw [row_len Lf.five, List.length_take]; omega
  have e' : (ls.flatMap Lf.cells) = (ls.take k).flatMap Lf.cells ++ (y.cells ++ (ls.drop (k + 1)).flatMap Lf.cells) :=
    (congrArg (List.flatMap Lf.cells) e).trans (by rw [List.flatMap_append, List.flatMap_cons])
  rw [h z, e', List.flatMap_append, List.flatMap_cons, List.set_append, if_neg (by omega), hl, Nat.add_sub_cancel_left, List.set_append, if_pos (by rw [Lf.five]; exact hf), hz]

end Go.Proofs.Ytjbcfflbfnddeac
