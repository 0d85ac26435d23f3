/- The reference's UnitOf. -/
import Derived.Test.YtaialgacaomaeaeUnitF
import Derived.Test.YtaialgacaomaeaeSlRec
namespace Go.Proofs.Ytaialgacaomaeae
open Go.RowKit

theorem cell_setOther {w : World} {b g : Nat} (hne : g ≠ b) (i j : Nat) (v : Value) : (w.setCell ⟨b, i, none⟩ v).cell? ⟨g, j, none⟩ = w.cell? ⟨g, j, none⟩ := by
  have hh : (w.setCell ⟨b, i, none⟩ v).heap[g]? = w.heap[g]? := Below.heap_setCell _ _ _ _ (by show g ≠ b; exact hne)
  simp only [World.cell?, hh]

/-- Entries lie in no box of two cells. -/
theorem ents_apart {W : World} {v : Value} {es : List En} (h : EntSl W v es) {B : Nat} {x0 x1 : Value} {T : TypeId} (hB : W.heap[B]? = some (.cells #[x0, x1] T)) (i : Nat) (x : Value) : EntSl (W.setCell ⟨B, i, none⟩ x) v es := by
  obtain ⟨a, c, hv, hc⟩ := h
  refine ⟨a, c, hv, ?_⟩
  rcases hc with hc | ⟨b, off, ha, hE⟩
  · exact Or.inl hc
  · refine Or.inr ⟨b, off, ha, fun j e hj i' u hi => ?_⟩
    have hne : b ≠ B := fun e' => by
      have := hE j e hj 4 _ rfl
      rw [e', Joins.cell_of_block hB] at this
      simp at this
    rw [cell_setOther hne]
    exact hE j e hj i' u hi

theorem unit_apart {W : World} {v : Value} {u : Un} (h : UnitAt W v u) {B : Nat} {p : Int} {s : Value} (hB : W.heap[B]? = some (boxU p s)) (x : Int) (y : Value) : UnitAt ((W.setCell ⟨B, 0, none⟩ (.int .i64 x)).setCell ⟨B, 1, none⟩ y) v u := by
  have h0 : (W.setCell ⟨B, 0, none⟩ (.int .i64 x)).heap[B]? = some (boxU x s) := by rw [Joins.block_setCell hB]; rfl
  exact ⟨ents_apart (ents_apart h.ents hB 0 _) h0 1 _, h.room⟩

/-- Where UnitOf's round stands. -/
def UoAt (w wr : World) (ub : Nat) (rs : List Rc) (k : Nat) : Prop :=
  ∃ u a n c, wr.heap[ub]? = some (boxU u.p (.slice a n c)) ∧ UnitAt wr (.slice a n c) u ∧ wr.heap[w.heap.size]? = some (boxU 0 (.slice none 0 0)) ∧ Below w.heap.size w wr ∧ Hid (ufold unew rs = ufold u (rs.drop k))

theorem drop_rc {rs : List Rc} {k : Nat} {x : Rc} (h : rs[k]? = some x) : rs.drop k = x :: rs.drop (k + 1) := by
  have hlt := (List.getElem?_eq_some_iff.1 h).1
  rw [List.drop_eq_getElem_cons hlt, (List.getElem?_eq_some_iff.1 h).2]

end Go.Proofs.Ytaialgacaomaeae
