/- Slices of entries in memory: equal ones, appended ones, two as one. -/
import Derived.Test.YtaialgacaomaeaeGen
import Derived.Test.YtaialgacaomaeaeEql
import Derived.Deep.QuietTactic
import Derived.BigQuiet
import Derived.Lib.AppendZerosOnto
import Derived.Deep.Upon
import Derived.Laws.OwnMore
import Derived.Lib.ItoaMem
namespace Go.Proofs.Ytaialgacaomaeae
open Go.ChangeShapes Go.WideShapes Go.ChangeAt Go.RowKit
open scoped Classical

theorem En.five (e : En) : e.cells.length = 5 := rfl

theorem infoE : (Try.prog.info? 24).map (fun i => (i.zero, i.size, i.bytes)) = some (some (ev 0 0 0 0 0), 5, 40) := by kernel_rfl

theorem oneE (es : List En) : ∀ u ∈ es.flatMap En.cells, u.oneCell' = true := fun u hu => by
  obtain ⟨e, _, he⟩ := List.mem_flatMap.1 hu
  simp only [En.cells, List.mem_cons, List.not_mem_nil, or_false] at he
  rcases he with rfl | rfl | rfl | rfl | rfl <;> rfl

/-- A slice appended to a row of the call's own. -/
theorem appendE {w : World} {ops : Array Oper} {rest : List Oper} {o : Oper} {a : Act} {Q : Exit → Act → World → Prop} (hgd : o.guard = none) (s x : Operand)
    (ho : o.op = .call { callee := .builtin .append, args := #[s, x], argTypes := #[29, 29] })
    (base : Nat) (v u : Value) (n : Nat) (xs : List Value) (hs : a.eval s = v) (hown : w.ownsRow base 24 5 v n xs)
    (es : List En) (hx : a.eval x = u) (hes : SlOf En.cells 5 w u es) (hlen : n + es.length ≤ 1000000) (hbase : base ≤ w.heap.size)
    (h : ∀ v' w', w'.ownsRow base 24 5 v' (n + es.length) (xs ++ es.flatMap En.cells) → w.grownBy w' v.ownBlock → wpList Try.prog ops Q rest (a.put o.dst v') w') : wpList Try.prog ops Q (o :: rest) a w := by
  obtain ⟨i0, hi, hz0, hz1, hz2⟩ := info_parts infoE
  obtain ⟨ao, c, rfl, hcase⟩ := hes
  by_cases hz : es.length = 0
  · obtain rfl : es = [] := List.length_eq_zero_iff.1 hz
    refine Lib.wpList_append_run w hgd s x _ _ ho v _ hs hx v w ?_ (h v w (by simpa using hown) ⟨rfl, rfl, rfl, Nat.le_refl _, fun _ _ _ => rfl⟩)
    have hsrc : Src Try.prog i0.size 29 (.slice ao 0 c) 0 [] w := by
      cases ao with
      | none => exact Src.ofNil w Try.underlying29 c
      | some ad => exact Src.ofSlice w Try.underlying29 ad 0 c [] (by simp) (by simp) (by simp)
    rcases hown.2 with ⟨rfl, _⟩ | ⟨g, cap, cur, rfl, _, _, hle, _⟩
    · exact run_append_nothing w _ _ _ _ i0 Try.underlying29 hi none 0 0 (Nat.le_refl _) _ hsrc
    · exact run_append_nothing w _ _ _ _ i0 Try.underlying29 hi _ n cap hle _ hsrc
  · rcases hcase with h0 | ⟨b, off, rfl, hE⟩
    · exact absurd h0 hz
    · exact wpList_append_own w hgd s x _ ho base _ i0 (ev 0 0 0 0 0) 5 40 Try.underlying29 hi hz0 hz1 hz2 rfl (by decide) v n xs hs hown ⟨b, off, none⟩ es.length c (es.flatMap En.cells) hx (row_len En.five es)
        (fun j u hj => by rw [Lib.add_plain]; exact rows_flat En.five es off hE j u hj) (oneE es) (by unfold maxLen; omega) (by omega) hbase fun v' w' h1 h2 _ => h v' w' h1 h2

end Go.Proofs.Ytaialgacaomaeae
