/- Slices of records in memory: equal ones, appended ones, two as one. -/
import Derived.Test.YtaialgacaomaeadGen
import Derived.Test.YtaialgacaomaeadNoteB
import Derived.Deep.QuietTactic
import Derived.BigQuiet
import Derived.Lib.AppendZerosOnto
import Derived.Deep.Upon
import Derived.Laws.OwnMore
import Derived.Lib.ItoaMem
namespace Go.Proofs.Ytaialgacaomaead
open Go.ChangeShapes Go.WideShapes Go.ChangeAt Go.RowKit
open scoped Classical

/-- A record's cells. -/
def Rc.cells (r : Rc) : List Value := [.int .i64 r.k, .int .i64 r.a, .int .i64 r.p, .int .i64 r.e.k, .int .i64 r.e.j, .int .i64 r.e.v, .int .i64 r.e.t, .int .i64 r.e.c]
theorem Rc.eight (r : Rc) : r.cells.length = 8 := rfl
abbrev RecSl (w : World) (v : Value) (l : List Rc) : Prop := SlOf Rc.cells 8 w v l

theorem infoC : (Try.prog.info? 28).map (fun i => (i.zero, i.size, i.bytes)) = some (some (Rc.zero.val), 8, 64) := by kernel_rfl

theorem oneC (es : List Rc) : ∀ u ∈ es.flatMap Rc.cells, u.oneCell' = true := fun u hu => by
  obtain ⟨e, _, he⟩ := List.mem_flatMap.1 hu
  simp only [Rc.cells, List.mem_cons, List.not_mem_nil, or_false] at he
  rcases he with rfl | rfl | rfl | rfl | rfl | rfl | rfl | rfl <;> rfl

/-- A slice appended to a row of the call's own. -/
theorem appendC {w : World} {ops : Array Oper} {rest : List Oper} {o : Oper} {a : Act} {Q : Exit → Act → World → Prop} (hgd : o.guard = none) (s x : Operand)
    (ho : o.op = .call { callee := .builtin .append, args := #[s, x], argTypes := #[38, 38] })
    (base : Nat) (v u : Value) (n : Nat) (xs : List Value) (hs : a.eval s = v) (hown : w.ownsRow base 28 8 v n xs)
    (es : List Rc) (hx : a.eval x = u) (hes : SlOf Rc.cells 8 w u es) (hlen : n + es.length ≤ 1000000) (hbase : base ≤ w.heap.size)
    (h : ∀ v' w', w'.ownsRow base 28 8 v' (n + es.length) (xs ++ es.flatMap Rc.cells) → w.grownBy w' v.ownBlock → wpList Try.prog ops Q rest (a.put o.dst v') w') : wpList Try.prog ops Q (o :: rest) a w := by
  obtain ⟨i0, hi, hz0, hz1, hz2⟩ := info_parts infoC
  obtain ⟨ao, c, rfl, hcase⟩ := hes
  by_cases hz : es.length = 0
  · obtain rfl : es = [] := List.length_eq_zero_iff.1 hz
    refine Lib.wpList_append_run w hgd s x _ _ ho v _ hs hx v w ?_ (h v w (by simpa using hown) ⟨rfl, rfl, rfl, Nat.le_refl _, fun _ _ _ => rfl⟩)
    have hsrc : Src Try.prog i0.size 38 (.slice ao 0 c) 0 [] w := by
      cases ao with
      | none => exact Src.ofNil w Try.underlying38 c
      | some ad => exact Src.ofSlice w Try.underlying38 ad 0 c [] (by simp) (by simp) (by simp)
    rcases hown.2 with ⟨rfl, _⟩ | ⟨g, cap, cur, rfl, _, _, hle, _⟩
    · exact run_append_nothing w _ _ _ _ i0 Try.underlying38 hi none 0 0 (Nat.le_refl _) _ hsrc
    · exact run_append_nothing w _ _ _ _ i0 Try.underlying38 hi _ n cap hle _ hsrc
  · rcases hcase with h0 | ⟨b, off, rfl, hE⟩
    · exact absurd h0 hz
    · exact wpList_append_own w hgd s x _ ho base _ i0 (Rc.zero.val) 8 64 Try.underlying38 hi hz0 hz1 hz2 rfl (by decide) v n xs hs hown ⟨b, off, none⟩ es.length c (es.flatMap Rc.cells) hx (row_len Rc.eight es)
        (fun j u hj => by rw [Lib.add_plain]; exact rows_flat Rc.eight es off hE j u hj) (oneC es) (by unfold maxLen; omega) (by omega) hbase fun v' w' h1 h2 _ => h v' w' h1 h2

end Go.Proofs.Ytaialgacaomaead
