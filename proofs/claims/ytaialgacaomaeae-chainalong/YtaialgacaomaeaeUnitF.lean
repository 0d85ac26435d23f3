/- The reference's UnitNext at a write; UnitNext whole. -/
import Derived.Test.YtaialgacaomaeaeUnitE
import Derived.Deep.CutBlock
namespace Go.Proofs.Ytaialgacaomaeae
open Go.RowKit

theorem name_world {P : World → Prop} {W : World} (h : P W) : ∃ V, V = W ∧ P V := ⟨W, rfl, h⟩

/-- A row of the call's own that has something in it. -/
theorem owns_form {w : World} {base : Nat} {T : TypeId} {k n : Nat} {v : Value} {xs : List Value} (h : w.ownsRow base T k v n xs) (h0 : 0 < n) :
    ∃ g cap tl, v = .slice (some ⟨g, 0, none⟩) n cap ∧ base ≤ g ∧ n ≤ cap ∧ w.heap[g]? = some (.cells (xs ++ tl).toArray T) := by
  rcases h.2 with ⟨_, hn⟩ | ⟨g, cap, cur, hv, hb, hg, hle, _, _, htake⟩
  · omega
  · refine ⟨g, cap, cur.toList.drop (n * k), hv, hb, hle, ?_⟩
    rw [← htake, List.take_append_drop]
    simpa using hg

/-- The entries at the front of a block. -/
theorem ents_front {W : World} {g n cap : Nat} {T : TypeId} {es : List En} {tl : List Value} (hl : es.length = n) (h : W.heap[g]? = some (.cells (es.flatMap En.cells ++ tl).toArray T)) : EntSl W (.slice (some ⟨g, 0, none⟩) n cap) es := by
  refine ⟨some ⟨g, 0, none⟩, cap, by rw [hl], Or.inr ⟨g, 0, rfl, fun j x hj i u hi => ?_⟩⟩
  have hf := row_flat En.five es j x hj i u hi
  have hlt := (List.getElem?_eq_some_iff.1 hf).1
  rw [Joins.cell_of_block h, Nat.zero_add, List.getElem?_toArray, List.getElem?_append_left hlt]
  exact hf

/-- What a write reads. -/
abbrev WrS (W w : World) (B : Nat) (s : Value) (b off k : Nat) (x : En) : Prop :=
  Below W.heap.size W w ∧ w.cell? ⟨B, 1, none⟩ = some s ∧ w.cell? ⟨B + 1, 1, none⟩ = some (.int .i64 (k : Int)) ∧ w.cell? ⟨b, off + k * 5, none⟩ = some (.int .i64 x.k) ∧ w.cell? ⟨b, off + k * 5 + 1, none⟩ = some (.int .i64 x.j) ∧ w.cell? ⟨b, off + k * 5 + 2, none⟩ = some (.int .i64 x.v) ∧ w.cell? ⟨b, off + k * 5 + 3, none⟩ = some (.int .i64 x.t) ∧ w.cell? ⟨b, off + k * 5 + 4, none⟩ = some (.int .i64 x.c)

theorem wrS_step {W w w' : World} {B : Nat} {s : Value} {b off k : Nat} {x : En} (h : WrS W w B s b off k x) (hb : Below w.heap.size w w') : WrS W w' B s b off k x :=
  ⟨h.1.trans (hb.mono h.1.size), cell_later hb h.2.1, cell_later hb h.2.2.1, cell_later hb h.2.2.2.1, cell_later hb h.2.2.2.2.1, cell_later hb h.2.2.2.2.2.1, cell_later hb h.2.2.2.2.2.2.1, cell_later hb h.2.2.2.2.2.2.2⟩

end Go.Proofs.Ytaialgacaomaeae
