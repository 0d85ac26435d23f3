/- A unit stored into a row of three. -/
import Derived.Test.YtaialgacaomaeadChainJ
namespace Go.Proofs.Ytaialgacaomaead
open Go.RowKit

theorem flat_setU : ∀ {xs : List Ub} {k : Nat} (q : Ub) (tl : List Value), k < xs.length → (((xs.flatMap Ub.cells ++ tl).set (k * 2) (.int .i64 q.u.p)).set (k * 2 + 1) q.v) = (xs.set k q).flatMap Ub.cells ++ tl
  | [], k, _, _, h => absurd h (Nat.not_lt_zero _)
  | x :: r, 0, q, tl, _ => by
    simp [Ub.cells]
  | x :: r, k + 1, q, tl, h => by
    have ih := flat_setU (xs := r) (k := k) q tl (by simpa using h)
    rw [List.set_cons_succ, List.flatMap_cons, List.flatMap_cons, List.append_assoc, List.append_assoc, ← ih]
    show (((x.cells ++ (r.flatMap Ub.cells ++ tl)).set ((k + 1) * 2) _).set ((k + 1) * 2 + 1) _) = _
    rw [List.set_append, if_neg (by rw [Ub.two]; omega), List.set_append, if_neg (by rw [Ub.two]; omega), Ub.two, show (k + 1) * 2 - 2 = k * 2 by omega, show (k + 1) * 2 + 1 - 2 = k * 2 + 1 by omega]

/-- A unit's places stay where another block is written. -/
theorem unit_keep {W : World} {v : Value} {u : Un} (h : UnitAt W v u) {g : Nat} (hg : ∀ b, v.ownBlock = some b → b ≠ g) (i : Nat) (x : Value) : UnitAt (W.setCell ⟨g, i, none⟩ x) v u := by
  refine ⟨?_, h.room⟩
  obtain ⟨a, c, hv, hc⟩ := h.ents
  refine ⟨a, c, hv, ?_⟩
  rcases hc with hc | ⟨b, off, ha, hE⟩
  · exact Or.inl hc
  · refine Or.inr ⟨b, off, ha, fun j e hj i' y hi => ?_⟩
    have hne : b ≠ g := hg b (by rw [hv, ha]; rfl)
    rw [cell_setOther hne]
    exact hE j e hj i' y hi

/-- A unit that has places: its block stands. -/
theorem unit_lt {w : World} {v : Value} {u : Un} (h : UnitAt w v u) (hl : u.cells.length = 60) {g : Nat} (hg : v.ownBlock = some g) : g < w.heap.size := by
  obtain ⟨a, c, hv, hc⟩ := h.ents
  rcases hc with hc | ⟨b, off, ha, hE⟩
  · omega
  · obtain ⟨y, hy⟩ : ∃ y, u.cells[0]? = some y := ⟨u.cells[0]'(by omega), List.getElem?_eq_getElem _⟩
    have hcell := hE 0 y hy 0 _ rfl
    have : b = g := by
      rw [hv, ha] at hg
      exact Option.some.inj hg
    subst this
    exact World.block_lt_of_cell? _ _ hcell

theorem Row3.set {w W : World} {g cap : Nat} {xs : List Ub} {tl : List Value} (h : Row3 w W g cap xs tl) {k : Nat} (hk : k < 3) (q : Ub) (hq : UnitAt W q.v q.u) (hfq : ∀ b, q.v.ownBlock = some b → b ≠ g) (hfx : ∀ x, x ∈ xs → ∀ b, x.v.ownBlock = some b → b ≠ g) :
    Row3 w ((W.setCell ⟨g, k * 2, none⟩ (.int .i64 q.u.p)).setCell ⟨g, k * 2 + 1, none⟩ q.v) g cap (xs.set k q) tl := by
  refine ⟨?_, h.base, h.room, by rw [List.length_set]; exact h.len, fun x hx => ?_⟩
  · have h1 := Joins.block_setCell h.blk (i := k * 2) (.int .i64 q.u.p)
    have h2 := Joins.block_setCell h1 (i := k * 2 + 1) q.v
    rw [h2]
    simp only [List.setIfInBounds_toArray]
    rw [flat_setU q tl (by rw [h.len]; exact hk)]
  · rcases List.mem_or_eq_of_mem_set hx with hx | rfl
    · exact unit_keep (unit_keep (h.each x hx) (hfx x hx) _ _) (hfx x hx) _ _
    · exact unit_keep (unit_keep hq hfq _ _) hfq _ _

end Go.Proofs.Ytaialgacaomaead
