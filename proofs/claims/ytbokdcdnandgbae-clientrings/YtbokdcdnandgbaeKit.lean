/- What the walks share: blocks of a world, an entry, slices of entries. -/
import Derived.Test.YtbokdcdnandgbaeEntryC
import Derived.Test.YtbokdcdnandgbaeShelf
import Derived.Lib.SmallJoins
import Derived.WalkSpells
namespace Go.Proofs.Ytbokdcdnandgbae
open Go.RowKit

abbrev boxE (k j v t c : Int) : Obj := .cells #[.int .i64 k, .int .i64 j, .int .i64 v, .int .i64 t, .int .i64 c] 24

theorem heap_new (w : World) (o : Obj) : (w.alloc o).heap[w.heap.size]? = some o := by
  show (w.heap.push o)[w.heap.size]? = some o
  simp

theorem heap_old {w : World} {i : Nat} {o : Obj} (h : w.heap[i]? = some o) (o' : Obj) : (w.alloc o').heap[i]? = some o := by
  have hi : i < w.heap.size := by
    rcases Nat.lt_or_ge i w.heap.size with h' | h'
    · exact h'
    · rw [Array.getElem?_eq_none h'] at h; cases h
  rw [Below.heap_alloc _ _ _ hi]; exact h

theorem heap_below {B i : Nat} {w w' : World} {o : Obj} (h : w.heap[i]? = some o) (hb : Below B w w') (hi : i < B) : w'.heap[i]? = some o := by
  rw [hb.block i hi]; exact h

theorem heap_lt {w : World} {i : Nat} {o : Obj} (h : w.heap[i]? = some o) : i < w.heap.size := by
  rcases Nat.lt_or_ge i w.heap.size with h' | h'
  · exact h'
  · rw [Array.getElem?_eq_none h'] at h; cases h

/-- An entry. -/
structure En where
  k : Int
  j : Int
  v : Int
  t : Int
  c : Int

abbrev En.val (e : En) : Value := ev e.k e.j e.v e.t e.c

def En.chk (e : En) : Int := Ytbokdcdnandgbae.chk e.k e.j e.v e.t e.c

def En.zero : En := ⟨0, 0, 0, 0, 0⟩

theorem ownsRow_later {w w' : World} {base : Nat} {e : TypeId} {size : Nat} {v : Value} {n : Nat} {xs : List Value} (h : w.ownsRow base e size v n xs) (hb : Below w.heap.size w w') : w'.ownsRow base e size v n xs := by
  refine ⟨h.1, ?_⟩
  rcases h.2 with h' | ⟨g, cap, cur, h1, h2, h3, h4⟩
  · exact Or.inl h'
  · exact Or.inr ⟨g, cap, cur, h1, h2, heap_below h3 hb (heap_lt h3), h4⟩

/-- An entry's five cells. -/
def En.cells (e : En) : List Value := [.int .i64 e.k, .int .i64 e.j, .int .i64 e.v, .int .i64 e.t, .int .i64 e.c]

/-- Entries one behind the other in a block. -/
def EntsAt (w : World) (b off : Nat) (es : List En) : Prop := ∀ j e, es[j]? = some e → ∀ i v, e.cells[i]? = some v → w.cell? ⟨b, off + j * 5 + i, none⟩ = some v

theorem EntsAt.later {w w' : World} {b off : Nat} {es : List En} (h : EntsAt w b off es) (hb : Below w.heap.size w w') : EntsAt w' b off es :=
  fun j e hj i v hi => cell_later hb (h j e hj i v hi)

/-- A slice value that holds these entries. -/
def EntSl (w : World) (v : Value) (es : List En) : Prop := ∃ a c, v = .slice a es.length c ∧ (es.length = 0 ∨ ∃ b off, a = some ⟨b, off, none⟩ ∧ EntsAt w b off es)

theorem EntSl.later {w w' : World} {v : Value} {es : List En} (h : EntSl w v es) (hb : Below w.heap.size w w') : EntSl w' v es := by
  obtain ⟨a, c, hv, h⟩ := h
  refine ⟨a, c, hv, ?_⟩
  rcases h with h | ⟨b, off, ha, hE⟩
  · exact Or.inl h
  · exact Or.inr ⟨b, off, ha, hE.later hb⟩

theorem flat_at : ∀ (es : List En) (j : Nat) (e : En), es[j]? = some e → ∀ i v, e.cells[i]? = some v → (es.flatMap En.cells)[j * 5 + i]? = some v
  | [], j, e, h, _, _, _ => by simp at h
  | x :: r, 0, e, h, i, v, hi => by
    simp at h; subst h
    have hlt : i < 5 := by
      have := (List.getElem?_eq_some_iff.1 hi).1
      simpa [En.cells] using this
    rw [List.flatMap_cons, Nat.zero_mul, Nat.zero_add, List.getElem?_append_left (by simpa [En.cells] using hlt)]
    exact hi
  | x :: r, j + 1, e, h, i, v, hi => by
    have ih := flat_at r j e (by simpa using h) i v hi
    rw [List.flatMap_cons, List.getElem?_append_right (by simp [En.cells]; omega)]
    rw [show (j + 1) * 5 + i - x.cells.length = j * 5 + i by simp [En.cells]; omega]
    exact ih

theorem flat_len : ∀ (es : List En), (es.flatMap En.cells).length = es.length * 5
  | [] => rfl
  | x :: r => by rw [List.flatMap_cons, List.length_append, flat_len r]; simp [En.cells]; omega

/-- A row of the call's own that holds these entries. -/
theorem entSl_of_owns {w : World} {base : Nat} {v : Value} {es : List En} (h : w.ownsRow base 24 5 v es.length (es.flatMap En.cells)) : EntSl w v es := by
  rcases h.2 with ⟨hv, hn⟩ | ⟨g, cap, cur, hv, _, hg, hle, _, hsz, htake⟩
  · exact ⟨none, 0, by rw [hv, hn], Or.inl hn⟩
  · refine ⟨some ⟨g, 0, none⟩, cap, hv, Or.inr ⟨g, 0, rfl, fun j e hj i u hi => ?_⟩⟩
    have hf := flat_at es j e hj i u hi
    rw [← htake, List.getElem?_take] at hf
    split at hf
    · rw [Joins.cell_of_block hg, Nat.zero_add]
      simpa using hf
    · cases hf

theorem unlike_false {k j v t c k' j' v' t' c' : Int} (h : unlike k j v t c k' j' v' t' c' = false) : k = k' ∧ j = j' ∧ v = v' ∧ t = t' ∧ c = c' := by
  unfold unlike at h
  simpa using h

theorem en_eq {x y : En} (h : unlike x.k x.j x.v x.t x.c y.k y.j y.v y.t y.c = false) : x = y := by
  obtain ⟨h1, h2, h3, h4, h5⟩ := unlike_false h
  cases x; cases y; simp_all

end Go.Proofs.Ytbokdcdnandgbae
