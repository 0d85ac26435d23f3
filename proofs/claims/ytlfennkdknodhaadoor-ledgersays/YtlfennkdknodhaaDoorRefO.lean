/- The library's slices.Grow and slices.Concat at entries. -/
import Derived.Test.YtlfennkdknodhaaDoorEntryT
import Derived.Lib.AppendZerosOnto
import Derived.Deep.Upon
namespace Go.Proofs.YtlfennkdknodhaaDoor
open Go.RowKit

theorem ents_flat {w : World} {b : Nat} : ∀ (es : List En) (off : Nat), EntsAt w b off es → ∀ j u, (es.flatMap En.cells)[j]? = some u → w.cell? ⟨b, off + j, none⟩ = some u
  | [], _, _, j, u, h => by simp at h
  | x :: r, off, hE, j, u, h => by
    rw [List.flatMap_cons] at h
    have h5 : x.cells.length = 5 := rfl
    by_cases hj : j < 5
    · rw [List.getElem?_append_left (by omega)] at h
      have := hE 0 x rfl j u h
      rwa [Nat.zero_mul, Nat.add_zero] at this
    · rw [List.getElem?_append_right (by omega), h5] at h
      have ih := ents_flat r (off + 5) (fun k e hk i v hi => by
        have := hE (k + 1) e (by simpa using hk) i v hi
        rwa [show off + (k + 1) * 5 + i = off + 5 + k * 5 + i by omega] at this) (j - 5) u h
      rwa [show off + 5 + (j - 5) = off + j by omega] at ih

theorem one_cells (es : List En) : ∀ u ∈ es.flatMap En.cells, u.oneCell' = true := fun u hu => by
  obtain ⟨e, _, he⟩ := List.mem_flatMap.1 hu
  simp only [En.cells, List.mem_cons, List.not_mem_nil, or_false] at he
  rcases he with rfl | rfl | rfl | rfl | rfl <;> rfl

/-- A slice of entries appended to a row of the call's own. -/
theorem wpList_append_ents {w : World} {ops : Array Oper} {rest : List Oper} {o : Oper} {a : Act} {Q : Exit → Act → World → Prop} (hgd : o.guard = none) (s x : Operand)
    (ho : o.op = .call { callee := .builtin .append, args := #[s, x], argTypes := #[34, 34] })
    (base : Nat) (v u : Value) (n : Nat) (xs : List Value) (hs : a.eval s = v) (hown : w.ownsRow base 23 5 v n xs)
    (es : List En) (hx : a.eval x = u) (hes : EntSl w u es) (hlen : n + es.length ≤ 1000000) (hbase : base ≤ w.heap.size)
    (h : ∀ v' w', w'.ownsRow base 23 5 v' (n + es.length) (xs ++ es.flatMap En.cells) → w.grownBy w' v.ownBlock → wpList Tryd.prog ops Q rest (a.put o.dst v') w') : wpList Tryd.prog ops Q (o :: rest) a w := by
  obtain ⟨i0, hi, hz0, hz1, hz2⟩ := info_parts infoEntry
  obtain ⟨ao, c, rfl, hcase⟩ := hes
  by_cases hz : es.length = 0
  · obtain rfl : es = [] := List.length_eq_zero_iff.1 hz
    refine Lib.wpList_append_run w hgd s x _ _ ho v _ hs hx v w ?_ (h v w (by simpa using hown) ⟨rfl, rfl, rfl, Nat.le_refl _, fun _ _ _ => rfl⟩)
    have hsrc : Src Tryd.prog i0.size 34 (.slice ao 0 c) 0 [] w := by
      cases ao with
      | none => exact Src.ofNil w Tryd.underlying34 c
      | some ad => exact Src.ofSlice w Tryd.underlying34 ad 0 c [] (by simp) (by simp) (by simp)
    rcases hown.2 with ⟨rfl, _⟩ | ⟨g, cap, cur, rfl, _, _, hle, _⟩
    · exact run_append_nothing w _ _ _ _ i0 Tryd.underlying34 hi none 0 0 (Nat.le_refl _) _ hsrc
    · exact run_append_nothing w _ _ _ _ i0 Tryd.underlying34 hi _ n cap hle _ hsrc
  · rcases hcase with h0 | ⟨b, off, rfl, hE⟩
    · exact absurd h0 hz
    · exact wpList_append_own w hgd s x _ ho base _ i0 (ev 0 0 0 0 0) 5 40 Tryd.underlying34 hi hz0 hz1 hz2 rfl (by decide) v n xs hs hown ⟨b, off, none⟩ es.length c (es.flatMap En.cells) hx (flat_len es)
        (fun j u hj => by rw [Lib.add_plain]; exact ents_flat es off hE j u hj) (one_cells es) (by unfold maxLen; omega) (by omega) hbase fun v' w' h1 h2 _ => h v' w' h1 h2

set_option maxHeartbeats 1000000 in
theorem grow_none (w : World) : Calls Tryd.prog 37 #[.slice none 0 0, .int .i64 0] w fun e w' => e = .returned (.slice none 0 0) ∧ w' = w := by
  go_enter Tryd.func37, Tryd.ntmps37
  go_wp2
  go_ret
  exact ⟨rfl, rfl⟩

set_option maxHeartbeats 2000000 in
set_option maxRecDepth 100000 in
theorem grow_some (n : Nat) (h0 : 0 < n) (h1 : n ≤ 1000000) (w : World) : Calls Tryd.prog 37 #[.slice none 0 0, .int .i64 n] w fun e w' =>
    ∃ v, e = .returned v ∧ w'.ownsRow w.heap.size 23 5 v 0 [] ∧ Below w.heap.size w w' := by
  obtain ⟨i0, hi, hz0, hz1, hz2⟩ := info_parts infoEntry
  have hrz : ∀ ty, (Builtin.append_ #[34, 3] ty #[.slice none 0 0, .int .i64 n]).run Tryd.prog w = _ := fun ty =>
    Lib.run_append_grow_zeros w 34 3 ty 23 i0 (ev 0 0 0 0 0) .i64 .i64 Tryd.underlying34 Tryd.underlying3 hi hz0 none 0 0 [] (run_firstCells_none w.drew i0.size 0 0 0) n h0 (by omega) (by omega) (by omega) (by rw [hz2]; omega)
      (by rw [hz2]; exact growslice_fits (by omega) (by omega))
  rw [Nat.zero_add] at hrz
  obtain ⟨G, hG⟩ : ∃ G, G = grownCap w n 0 23 := ⟨_, rfl⟩
  have hGn : n ≤ G := hG ▸ grownCap_ge w _ _ _
  have hGm : G ≤ maxLen := hG ▸ grownCap_le_maxLen w n 0 _ (by unfold maxLen; omega)
  rw [← hG] at hrz
  have hG63 : G ≤ 9223372036854775807 := by unfold maxLen at hGm; omega
  have hcur : (([] : List Value).toArray ++ Builtin.zeroCells (ev 0 0 0 0 0).cells n ++ Builtin.zeroCells (ev 0 0 0 0 0).cells (G - n)).size = G * 5 := by
    simp only [Array.size_append, size_zeroCells]
    show 0 + n * 5 + (G - n) * 5 = G * 5
    omega
  generalize ([] : List Value).toArray ++ Builtin.zeroCells (ev 0 0 0 0 0).cells n ++ Builtin.zeroCells (ev 0 0 0 0 0).cells (G - n) = cur at hrz hcur
  have hpos : ((n : Int) > 0) := by omega
  clear hG hi hz0 hz1 hz2
  go_enter Tryd.func37, Tryd.ntmps37
  go_wp2_with (at_builtin; refine Lib.wpList_append_run _ rfl _ _ _ _ rfl _ _ rfl rfl _ _ (hrz _) ?_)
  all_goals
    go_ret
    exact ⟨_, rfl, World.ownsRow_made _ _ _ (Nat.le_refl _) hGm hcur, grew (Below.refl _ _).drew _⟩

theorem grow_any (n : Nat) (h1 : n ≤ 1000000) (w : World) : Calls Tryd.prog 37 #[.slice none 0 0, .int .i64 n] w fun e w' =>
    ∃ v, e = .returned v ∧ w'.ownsRow w.heap.size 23 5 v 0 [] ∧ Below w.heap.size w w' := by
  by_cases h0 : n = 0
  · subst h0
    exact (grow_none w).mono fun e w' ⟨he, hw⟩ => ⟨_, he, World.ownsRow_nil _ _ _ _, by rw [hw]; exact Below.refl _ _⟩
  · exact grow_some n (by omega) h1 w

set_option maxHeartbeats 2000000 in
set_option maxRecDepth 100000 in
theorem concat2 (b n1 n2 c1 c2 : Nat) (a1 a2 : Option Addr) (es fs : List En) (w : World) (hb : w.heap[b]? = some (.cells #[.slice a1 n1 c1, .slice a2 n2 c2] 34)) (h1 : EntSl w (.slice a1 n1 c1) es) (h2 : EntSl w (.slice a2 n2 c2) fs) (hl1 : es.length = n1) (hl2 : fs.length = n2) (hlen : n1 + n2 ≤ 1000000) :
    Calls Tryd.prog 20 #[.slice (some ⟨b, 0, none⟩) 2 2] w fun e w' => ∃ v, e = .returned v ∧ EntSl w' v (es ++ fs) ∧ Below w.heap.size w w' := by
  have H1 : Hid (EntSl w (.slice a1 n1 c1) es) := h1
  have H2 : Hid (EntSl w (.slice a2 n2 c2) fs) := h2
  have HB : Hid (w.heap[b]? = some (.cells #[.slice a1 n1 c1, .slice a2 n2 c2] 34)) := hb
  have L1 : Hid (es.length = n1) := hl1
  have L2 : Hid (fs.length = n2) := hl2
  have k0 : ∀ i, w.cell? ⟨b, i, none⟩ = #[Value.slice a1 n1 c1, .slice a2 n2 c2][i]? := fun i => Joins.cell_of_block hb i
  clear hb h1 h2 hl1 hl2
  go_enter Tryd.func20, Tryd.ntmps20
  go_wp2
  go_loopw [3, 11] (fun z i wr => ∃ q : Nat, wr = w.drewN q ∧ ((i = .int .i64 0 ∧ z = .int .i64 0) ∨ (i = .int .i64 1 ∧ z = .int .i64 n1) ∨ (i = .int .i64 2 ∧ z = .int .i64 ((n1 + n2 : Nat) : Int)))) (fun _ i _ => 2 - (intOf i).toNat)
  case atStart => exact ⟨0, rfl, Or.inl ⟨rfl, rfl⟩⟩
  case round =>
    obtain ⟨q, rfl, ⟨rfl, rfl⟩ | ⟨rfl, rfl⟩ | ⟨rfl, rfl⟩⟩ := hrel
    · go_wp2
      go_roundw
      case rel => exact ⟨_, rfl, Or.inr (Or.inl ⟨rfl, by go_num⟩)⟩
      case measure => simp [intOf]
    · go_wp2
      go_roundw
      case rel => exact ⟨_, rfl, Or.inr (Or.inr ⟨rfl, by go_num⟩)⟩
      case measure => simp [intOf]
    · clear k0
      go_wp2_with fail
      refine (grow_any (n1 + n2) hlen _).mono ?_
      rintro r w1 ⟨v0, rfl, hO, hB0⟩
      have hB1 : Below w.heap.size w w1 := (below_drewN (Below.refl _ _) _).trans (hB0.mono (by simp))
      have hO1 : w1.ownsRow w.heap.size 23 5 v0 0 [] := by simpa using hO
      clear hO hB0
      go_wp2
      go_loopw [6, 27] (fun v i wr => ∃ gs : List En, wr.ownsRow w.heap.size 23 5 v gs.length (gs.flatMap En.cells) ∧ Below w.heap.size w wr ∧ ((i = .int .i64 0 ∧ gs = []) ∨ (i = .int .i64 1 ∧ gs = es) ∨ (i = .int .i64 2 ∧ gs = es ++ fs))) (fun _ i _ => 2 - (intOf i).toNat)
      case atStart => exact ⟨[], hO1, hB1, Or.inl ⟨rfl, rfl⟩⟩
      case round =>
        obtain ⟨gs, hO, hB, ⟨rfl, rfl⟩ | ⟨rfl, rfl⟩ | ⟨rfl, rfl⟩⟩ := hrel
        · have hbr := heap_below HB.out hB (heap_lt HB.out)
          have k1 : ∀ i, wr.cell? ⟨b, i, none⟩ = #[Value.slice a1 n1 c1, .slice a2 n2 c2][i]? := fun i => Joins.cell_of_block hbr i
          go_wp2_with (at_builtin; refine wpList_append_ents rfl _ _ rfl w.heap.size _ _ _ _ rfl (hO) es rfl (H1.out.later hB) (by have := L1.out; simp; omega) hB.size ?_; intro v' w' hO' hg')
          have hB' : Below w.heap.size w w' := hB.grown hg' hB.size (fun q hq => by have := (hO.lt q hq).1; omega)
          go_roundw
          case rel => exact ⟨es, by simpa using hO', hB', Or.inr (Or.inl ⟨rfl, rfl⟩)⟩
          case measure => simp [intOf]
        · have hbr := heap_below HB.out hB (heap_lt HB.out)
          have k1 : ∀ i, wr.cell? ⟨b, i, none⟩ = #[Value.slice a1 n1 c1, .slice a2 n2 c2][i]? := fun i => Joins.cell_of_block hbr i
          go_wp2_with (at_builtin; refine wpList_append_ents rfl _ _ rfl w.heap.size _ _ _ _ rfl (hO) fs rfl (H2.out.later hB) (by have := L1.out; have := L2.out; omega) hB.size ?_; intro v' w' hO' hg')
          have hB' : Below w.heap.size w w' := hB.grown hg' hB.size (fun q hq => by have := (hO.lt q hq).1; omega)
          go_roundw
          case rel => exact ⟨_, by rw [List.length_append, List.flatMap_append]; exact hO', hB', Or.inr (Or.inr ⟨rfl, rfl⟩)⟩
          case measure => simp [intOf]
        · go_wp2
          go_ret
          exact ⟨_, rfl, entSl_of_owns hO, hB⟩

end Go.Proofs.YtlfennkdknodhaaDoor
