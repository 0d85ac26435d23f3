/- The library's slices.Clone at three units. -/
import Derived.Test.YtaialgacaomaeadChainG
namespace Go.Proofs.Ytaialgacaomaead
open Go.RowKit

theorem infoU : (Try.prog.info? 24).map (fun i => (i.zero, i.size, i.bytes)) = some (some (Value.agg #[.int .i64 0, .slice none 0 0]), 2, 32) := by kernel_rfl

/-- A slice appended to a row of the call's own. -/
theorem appendU {w : World} {ops : Array Oper} {rest : List Oper} {o : Oper} {a : Act} {Q : Exit → Act → World → Prop} (hgd : o.guard = none) (s x : Operand)
    (ho : o.op = .call { callee := .builtin .append, args := #[s, x], argTypes := #[41, 41] })
    (base : Nat) (v u : Value) (n : Nat) (xs : List Value) (hs : a.eval s = v) (hown : w.ownsRow base 24 2 v n xs)
    (es : List Ub) (hx : a.eval x = u) (hes : SlOf Ub.cells 2 w u es) (hone : ∀ u ∈ es.flatMap Ub.cells, u.oneCell' = true) (hlen : n + es.length ≤ 1000000) (hbase : base ≤ w.heap.size)
    (h : ∀ v' w', w'.ownsRow base 24 2 v' (n + es.length) (xs ++ es.flatMap Ub.cells) → w.grownBy w' v.ownBlock → wpList Try.prog ops Q rest (a.put o.dst v') w') : wpList Try.prog ops Q (o :: rest) a w := by
  obtain ⟨i0, hi, hz0, hz1, hz2⟩ := info_parts infoU
  obtain ⟨ao, c, rfl, hcase⟩ := hes
  by_cases hz : es.length = 0
  · obtain rfl : es = [] := List.length_eq_zero_iff.1 hz
    refine Lib.wpList_append_run w hgd s x _ _ ho v _ hs hx v w ?_ (h v w (by simpa using hown) ⟨rfl, rfl, rfl, Nat.le_refl _, fun _ _ _ => rfl⟩)
    have hsrc : Src Try.prog i0.size 41 (.slice ao 0 c) 0 [] w := by
      cases ao with
      | none => exact Src.ofNil w Try.underlying41 c
      | some ad => exact Src.ofSlice w Try.underlying41 ad 0 c [] (by simp) (by simp) (by simp)
    rcases hown.2 with ⟨rfl, _⟩ | ⟨g, cap, cur, rfl, _, _, hle, _⟩
    · exact run_append_nothing w _ _ _ _ i0 Try.underlying41 hi none 0 0 (Nat.le_refl _) _ hsrc
    · exact run_append_nothing w _ _ _ _ i0 Try.underlying41 hi _ n cap hle _ hsrc
  · rcases hcase with h0 | ⟨b, off, rfl, hE⟩
    · exact absurd h0 hz
    · exact wpList_append_own w hgd s x _ ho base _ i0 (Value.agg #[.int .i64 0, .slice none 0 0]) 2 32 Try.underlying41 hi hz0 hz1 hz2 rfl (by decide) v n xs hs hown ⟨b, off, none⟩ es.length c (es.flatMap Ub.cells) hx (row_len Ub.two es)
        (fun j u hj => by rw [Lib.add_plain]; exact rows_flat Ub.two es off hE j u hj) hone (by unfold maxLen; omega) (by omega) hbase fun v' w' h1 h2 _ => h v' w' h1 h2


/-- Three units' row of the call's own. -/
structure Row3 (w W : World) (g cap : Nat) (xs : List Ub) (tl : List Value) : Prop where
  blk : W.heap[g]? = some (.cells (xs.flatMap Ub.cells ++ tl).toArray 24)
  base : w.heap.size ≤ g
  room : 3 ≤ cap
  len : xs.length = 3
  each : ∀ x, x ∈ xs → UnitAt W x.v x.u

theorem Row3.later {w W W' : World} {g cap : Nat} {xs : List Ub} {tl : List Value} (h : Row3 w W g cap xs tl) (hb : Below W.heap.size W W') : Row3 w W' g cap xs tl :=
  ⟨heap_below h.blk hb (heap_lt h.blk), h.base, h.room, h.len, fun x hx => (h.each x hx).later hb⟩

theorem Row3.ch {w W : World} {g cap : Nat} {xs : List Ub} {tl : List Value} (h : Row3 w W g cap xs tl) : ChAt W (.slice (some ⟨g, 0, none⟩) 3 cap) xs := by
  refine ⟨⟨_, cap, by rw [h.len], Or.inr ⟨g, 0, rfl, fun j x hj i u hi => ?_⟩⟩, h.each, ⟨_, _, _, rfl, h.room⟩⟩
  have hf := row_flat Ub.two xs j x hj i u hi
  have hlt := (List.getElem?_eq_some_iff.1 hf).1
  rw [Joins.cell_of_block h.blk, Nat.zero_add, List.getElem?_toArray, List.getElem?_append_left hlt]
  exact hf

set_option maxHeartbeats 2000000 in
set_option maxRecDepth 100000 in
theorem clone3 (b off c : Nat) (xs : List Ub) (w : World) (h : ChAt w (.slice (some ⟨b, off, none⟩) 3 c) xs) :
    Calls Try.prog 27 #[.slice (some ⟨b, off, none⟩) 3 c] w fun e w' => ∃ g cap tl, e = .returned (.slice (some ⟨g, 0, none⟩) 3 cap) ∧ Row3 w w' g cap xs tl ∧ Below w.heap.size w w' := by
  have hl : xs.length = 3 := h.rows.len
  have hone : ∀ u ∈ xs.flatMap Ub.cells, u.oneCell' = true := fun u hu => by
    obtain ⟨x, hx, hu⟩ := List.mem_flatMap.1 hu
    obtain ⟨a, n, c', e, _⟩ := (h.each x hx).room
    simp only [Ub.cells, List.mem_cons, List.not_mem_nil, or_false] at hu
    rcases hu with rfl | rfl
    · rfl
    · rw [e]; rfl
  have hown : (w.alloc (.cells #[] 24)).ownsRow w.heap.size 24 2 (.slice (some ⟨w.heap.size, 0, none⟩) 0 0) 0 [] := World.ownsRow_lit w #[] 0 (Nat.le_refl _) (Nat.zero_le _) rfl
  have hsz : w.heap.size ≤ (w.alloc (.cells #[] 24)).heap.size := by simp
  have hb1 : Below w.heap.size w (w.alloc (.cells #[] 24)) := grew (Below.refl _ _) _
  have hrow := (h.later hb1).rows
  have hlen : 0 + xs.length ≤ 1000000 := by omega
  have hnil : ∀ W, (binOp .eql 41 (.slice (some ⟨b, off, none⟩) 3 c) (.slice none 0 0)).run Try.prog W = .ok (.bool false) W := fun W => by kernel_rfl
  have HL : Hid (xs.length = 3) := hl
  have HE : Aside (∀ W, Below w.heap.size w W → ∀ x, x ∈ xs → UnitAt W x.v x.u) := fun W hb x hx => (h.each x hx).later hb
  clear h hl
  go_enter Try.func27, Try.ntmps27
  go_wp2_with (at_builtin; refine appendU rfl _ _ rfl w.heap.size _ _ _ _ rfl hown xs rfl hrow hone hlen hsz ?_; intro v' w4 hO hg4; rw [HL.out] at hO; obtain ⟨g, cap, tl, rfl, hgb, hcap, hgg⟩ := owns_form hO (by omega); have hb4 : Below w.heap.size w w4 := hb1.grown hg4 hsz (fun q hq => by have := (hown.lt q hq).1; omega); have HG4 : Aside (w4.heap[g]? = some (.cells (xs.flatMap Ub.cells ++ tl).toArray 24)) := (show w4.heap[g]? = _ by simpa using hgg); have HB4 : Aside _ := hb4; clear hO hg4 hgg hb4)
  all_goals
    go_ret
    exact ⟨g, cap, tl, rfl, ⟨HG4.out, hgb, hcap, HL.out, HE.out _ HB4.out⟩, HB4.out⟩

end Go.Proofs.Ytaialgacaomaead
