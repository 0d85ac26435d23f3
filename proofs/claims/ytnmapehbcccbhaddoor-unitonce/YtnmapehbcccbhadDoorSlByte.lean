/- Slices of bytes in memory: equal ones, appended ones, two as one. -/
import Derived.Test.YtnmapehbcccbhadDoorGen
import Derived.Deep.QuietTactic
import Derived.BigQuiet
import Derived.Lib.AppendZerosOnto
import Derived.Deep.Upon
import Derived.Laws.OwnMore
import Derived.Lib.ItoaMem
namespace Go.Proofs.YtnmapehbcccbhadDoor
open Go.ChangeShapes Go.WideShapes Go.ChangeAt Go.RowKit

/-- A byte's cell. -/
def bt (b : UInt8) : List Value := [.int .u8 b.toNat]
theorem bt_one (b : UInt8) : (bt b).length = 1 := rfl
abbrev ByteSl (w : World) (v : Value) (l : List UInt8) : Prop := SlOf bt 1 w v l

theorem infoY : (Tryd.prog.info? 5).map (fun i => (i.zero, i.size, i.bytes)) = some (some (Value.int .u8 0), 1, 1) := by kernel_rfl

theorem oneY (es : List UInt8) : ∀ u ∈ es.flatMap bt, u.oneCell' = true := fun u hu => by
  obtain ⟨e, _, he⟩ := List.mem_flatMap.1 hu
  simp only [bt, List.mem_cons, List.not_mem_nil, or_false] at he
  subst he; rfl

/-- A slice appended to a row of the call's own. -/
theorem appendY {w : World} {ops : Array Oper} {rest : List Oper} {o : Oper} {a : Act} {Q : Exit → Act → World → Prop} (hgd : o.guard = none) (s x : Operand)
    (ho : o.op = .call { callee := .builtin .append, args := #[s, x], argTypes := #[24, 24] })
    (base : Nat) (v u : Value) (n : Nat) (xs : List Value) (hs : a.eval s = v) (hown : w.ownsRow base 5 1 v n xs)
    (es : List UInt8) (hx : a.eval x = u) (hes : SlOf bt 1 w u es) (hlen : n + es.length ≤ 1000000) (hbase : base ≤ w.heap.size)
    (h : ∀ v' w', w'.ownsRow base 5 1 v' (n + es.length) (xs ++ es.flatMap bt) → w.grownBy w' v.ownBlock → wpList Tryd.prog ops Q rest (a.put o.dst v') w') : wpList Tryd.prog ops Q (o :: rest) a w := by
  obtain ⟨i0, hi, hz0, hz1, hz2⟩ := info_parts infoY
  obtain ⟨ao, c, rfl, hcase⟩ := hes
  by_cases hz : es.length = 0
  · obtain rfl : es = [] := List.length_eq_zero_iff.1 hz
    refine Lib.wpList_append_run w hgd s x _ _ ho v _ hs hx v w ?_ (h v w (by simpa using hown) ⟨rfl, rfl, rfl, Nat.le_refl _, fun _ _ _ => rfl⟩)
    have hsrc : Src Tryd.prog i0.size 24 (.slice ao 0 c) 0 [] w := by
      cases ao with
      | none => exact Src.ofNil w Tryd.underlying24 c
      | some ad => exact Src.ofSlice w Tryd.underlying24 ad 0 c [] (by simp) (by simp) (by simp)
    rcases hown.2 with ⟨rfl, _⟩ | ⟨g, cap, cur, rfl, _, _, hle, _⟩
    · exact run_append_nothing w _ _ _ _ i0 Tryd.underlying24 hi none 0 0 (Nat.le_refl _) _ hsrc
    · exact run_append_nothing w _ _ _ _ i0 Tryd.underlying24 hi _ n cap hle _ hsrc
  · rcases hcase with h0 | ⟨b, off, rfl, hE⟩
    · exact absurd h0 hz
    · exact wpList_append_own w hgd s x _ ho base _ i0 (Value.int .u8 0) 1 1 Tryd.underlying24 hi hz0 hz1 hz2 rfl (by decide) v n xs hs hown ⟨b, off, none⟩ es.length c (es.flatMap bt) hx (row_len bt_one es)
        (fun j u hj => by rw [Lib.add_plain]; exact rows_flat bt_one es off hE j u hj) (oneY es) (by unfold maxLen; omega) (by omega) hbase fun v' w' h1 h2 _ => h v' w' h1 h2

end Go.Proofs.YtnmapehbcccbhadDoor
