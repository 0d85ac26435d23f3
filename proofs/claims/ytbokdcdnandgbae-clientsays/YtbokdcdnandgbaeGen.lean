/- Rows of records in a block, slices of them. -/
import Derived.Test.YtbokdcdnandgbaeKit
import Derived.Maps.AppendAt
import Derived.OwnWalk
import Derived.Lib.AppendZerosOnto
import Derived.Deep.Upon
namespace Go.Proofs.Ytbokdcdnandgbae
open Go.RowKit

section
variable {α : Type} {cs : α → List Value} {k : Nat}

/-- Records one behind the other in a block. -/
def RowAt (cs : α → List Value) (k : Nat) (w : World) (b off : Nat) (xs : List α) : Prop := ∀ j x, xs[j]? = some x → ∀ i v, (cs x)[i]? = some v → w.cell? ⟨b, off + j * k + i, none⟩ = some v

theorem RowAt.later {w w' : World} {b off : Nat} {xs : List α} (h : RowAt cs k w b off xs) (hb : Below w.heap.size w w') : RowAt cs k w' b off xs :=
  fun j e hj i v hi => cell_later hb (h j e hj i v hi)

/-- A slice value that holds these records. -/
def SlOf (cs : α → List Value) (k : Nat) (w : World) (v : Value) (xs : List α) : Prop := ∃ a c, v = .slice a xs.length c ∧ (xs.length = 0 ∨ ∃ b off, a = some ⟨b, off, none⟩ ∧ RowAt cs k w b off xs)

theorem SlOf.later {w w' : World} {v : Value} {xs : List α} (h : SlOf cs k w v xs) (hb : Below w.heap.size w w') : SlOf cs k w' v xs := by
  obtain ⟨a, c, hv, h⟩ := h
  refine ⟨a, c, hv, ?_⟩
  rcases h with h | ⟨b, off, ha, hE⟩
  · exact Or.inl h
  · exact Or.inr ⟨b, off, ha, hE.later hb⟩

theorem SlOf.nil {w : World} (a : Option Addr) (c : Nat) : SlOf cs k w (.slice a 0 c) [] := ⟨a, c, rfl, Or.inl rfl⟩

theorem row_flat (hk : ∀ x, (cs x).length = k) : ∀ (xs : List α) (j : Nat) (x : α), xs[j]? = some x → ∀ i v, (cs x)[i]? = some v → (xs.flatMap cs)[j * k + i]? = some v
  | [], j, e, h, _, _, _ => by simp at h
  | x :: r, 0, e, h, i, v, hi => by
    simp at h; subst h
    have hlt : i < k := by
      have := (List.getElem?_eq_some_iff.1 hi).1
      rwa [hk] at this
    rw [List.flatMap_cons, Nat.zero_mul, Nat.zero_add, List.getElem?_append_left (by rw [hk]; exact hlt)]
    exact hi
  | x :: r, j + 1, e, h, i, v, hi => by
    have ih := row_flat hk r j e (by simpa using h) i v hi
    have e1 : (j + 1) * k + i = k + (j * k + i) := by rw [Nat.add_mul]; omega
    rw [List.flatMap_cons, e1, List.getElem?_append_right (by rw [hk]; omega), hk, Nat.add_sub_cancel_left]
    exact ih

theorem row_len (hk : ∀ x, (cs x).length = k) : ∀ (xs : List α), (xs.flatMap cs).length = xs.length * k
  | [] => by simp
  | x :: r => by rw [List.flatMap_cons, List.length_append, row_len hk r, hk, List.length_cons, Nat.add_mul]; omega

/-- A row of the call's own that holds these records. -/
theorem slOf_of_owns (hk : ∀ x, (cs x).length = k) {w : World} {base : Nat} {T : TypeId} {v : Value} {xs : List α} (h : w.ownsRow base T k v xs.length (xs.flatMap cs)) : SlOf cs k w v xs := by
  rcases h.2 with ⟨hv, hn⟩ | ⟨g, cap, cur, hv, _, hg, hle, _, hsz, htake⟩
  · exact ⟨none, 0, by rw [hv, hn], Or.inl hn⟩
  · refine ⟨some ⟨g, 0, none⟩, cap, hv, Or.inr ⟨g, 0, rfl, fun j e hj i u hi => ?_⟩⟩
    have hf := row_flat hk xs j e hj i u hi
    rw [← htake, List.getElem?_take] at hf
    split at hf
    · rw [Joins.cell_of_block hg, Nat.zero_add]
      simpa using hf
    · cases hf

/-- A block of records' cells, as a slice. -/
theorem slOf_lit (hk : ∀ x, (cs x).length = k) {w : World} {b c : Nat} {xs : List α} {A : Array Value} {T : TypeId} (hb : w.heap[b]? = some (.cells A T)) (h : A.toList = xs.flatMap cs) : SlOf cs k w (.slice (some ⟨b, 0, none⟩) xs.length c) xs := by
  refine ⟨_, c, rfl, Or.inr ⟨b, 0, rfl, fun j e hj i u hi => ?_⟩⟩
  rw [Joins.cell_of_block hb, Nat.zero_add, ← Array.getElem?_toList, h]
  exact row_flat hk xs j e hj i u hi

theorem SlOf.form {w : World} {v : Value} {xs : List α} (h : SlOf cs k w v xs) (h0 : 0 < xs.length) : ∃ b off c, v = .slice (some ⟨b, off, none⟩) xs.length c ∧ RowAt cs k w b off xs := by
  obtain ⟨a, c, rfl, hc⟩ := h
  rcases hc with hc | ⟨b, off, rfl, hE⟩
  · omega
  · exact ⟨b, off, c, rfl, hE⟩

theorem SlOf.at {w : World} {a : Option Addr} {n c : Nat} {xs : List α} (h : SlOf cs k w (.slice a n c) xs) (h0 : 0 < n) : ∃ b off, a = some ⟨b, off, none⟩ ∧ RowAt cs k w b off xs := by
  obtain ⟨a', c', e, hc⟩ := h
  injection e with e1 e2 e3
  subst e1
  rcases hc with hc | ⟨b, off, rfl, hE⟩
  · omega
  · exact ⟨b, off, rfl, hE⟩

theorem SlOf.len {w : World} {a : Option Addr} {n c : Nat} {xs : List α} (h : SlOf cs k w (.slice a n c) xs) : xs.length = n := by
  obtain ⟨a', c', e, _⟩ := h
  injection e with _ e2 _
  exact e2.symm

theorem rows_flat (hk : ∀ x, (cs x).length = k) {w : World} {b : Nat} : ∀ (xs : List α) (off : Nat), RowAt cs k w b off xs → ∀ j u, (xs.flatMap cs)[j]? = some u → w.cell? ⟨b, off + j, none⟩ = some u
  | [], _, _, j, u, h => by simp at h
  | x :: r, off, hE, j, u, h => by
    rw [List.flatMap_cons] at h
    by_cases hj : j < k
    · rw [List.getElem?_append_left (by rw [hk]; exact hj)] at h
      have := hE 0 x rfl j u h
      rwa [Nat.zero_mul, Nat.add_zero] at this
    · rw [List.getElem?_append_right (by rw [hk]; omega), hk] at h
      have ih := rows_flat hk r (off + k) (fun m e hm i v hi => by
        have := hE (m + 1) e (by simpa using hm) i v hi
        rwa [show off + (m + 1) * k + i = off + k + m * k + i by rw [Nat.add_mul]; omega] at this) (j - k) u h
      rwa [show off + k + (j - k) = off + j by omega] at ih

theorem RowAt.take {w : World} {b off : Nat} {xs : List α} (h : RowAt cs k w b off xs) (n : Nat) : RowAt cs k w b off (xs.take n) := fun j x hj => by
  rw [List.getElem?_take] at hj
  split at hj
  · exact h j x hj
  · cases hj

theorem RowAt.drop {w : World} {b off : Nat} {xs : List α} (h : RowAt cs k w b off xs) (n : Nat) : RowAt cs k w b (off + n * k) (xs.drop n) := fun j x hj i v hi => by
  rw [List.getElem?_drop] at hj
  have := h (n + j) x hj i v hi
  rwa [show off + (n + j) * k + i = off + n * k + j * k + i by rw [Nat.add_mul]; omega] at this

end

/-- A slice value whose length its capacity bears. -/
def Roomy (v : Value) : Prop := ∃ a n c, v = .slice a n c ∧ n ≤ c

theorem owns_roomy {w : World} {base : Nat} {e : TypeId} {size : Nat} {v : Value} {n : Nat} {xs : List Value} (h : w.ownsRow base e size v n xs) : Roomy v := by
  rcases h.2 with ⟨h1, _⟩ | ⟨g, cap, cur, h1, _, _, h4, _⟩
  · exact ⟨none, 0, 0, h1, Nat.le_refl _⟩
  · exact ⟨_, n, cap, h1, h4⟩

/-- A slice whose block, where it has one, is of a type. -/
def Typed (t : TypeId) (w : World) (v : Value) : Prop := ∀ b, some b = v.ownBlock → ∃ cur, w.heap[b]? = some (.cells cur t)

theorem Typed.nil {t : TypeId} {w : World} {n c : Nat} : Typed t w (.slice none n c) := fun b h => by cases h
theorem Typed.later {t : TypeId} {w w' : World} {v : Value} (h : Typed t w v) (hb : Below w.heap.size w w') : Typed t w' v := fun b e => by
  obtain ⟨cur, hc⟩ := h b e
  exact ⟨cur, heap_below hc hb (heap_lt hc)⟩
theorem Typed.setCell {t : TypeId} {w : World} {v : Value} (h : Typed t w v) (g i : Nat) (u : Value) : Typed t (w.setCell ⟨g, i, none⟩ u) v := fun b e => by
  obtain ⟨cur, hc⟩ := h b e
  by_cases hg : b = g
  · subst hg
    exact ⟨_, Joins.block_setCell hc u⟩
  · exact ⟨cur, by rw [Below.heap_setCell _ _ _ _ (by exact hg)]; exact hc⟩
theorem typed_block {t : TypeId} {w : World} {b : Nat} {cur : Array Value} (h : w.heap[b]? = some (.cells cur t)) (off n c : Nat) : Typed t w (.slice (some ⟨b, off, none⟩) n c) := fun b' e => by
  obtain rfl : b' = b := Option.some.inj e
  exact ⟨cur, h⟩
theorem typed_owns {t : TypeId} {w : World} {base size : Nat} {v : Value} {n : Nat} {xs : List Value} (h : w.ownsRow base t size v n xs) : Typed t w v := fun b hb => by
  rcases h.2 with ⟨h1, _⟩ | ⟨g, cap, cur, h1, _, h3, _⟩
  · rw [h1] at hb; cases hb
  · rw [h1] at hb
    obtain rfl : b = g := Option.some.inj hb
    exact ⟨cur, h3⟩

/-- A row is not in a block of another type. -/
theorem SlOf.other {α : Type} {cs : α → List Value} {k : Nat} {w : World} {v : Value} {xs : List α} {t t' : TypeId} (h : SlOf cs k w v xs) (ht : Typed t w v) {B : Nat} {cur : Array Value} (hB : w.heap[B]? = some (.cells cur t')) (hne : t ≠ t') (i : Nat) (u : Value) : SlOf cs k (w.setCell ⟨B, i, none⟩ u) v xs := by
  obtain ⟨a, c, rfl, hc⟩ := h
  refine ⟨a, c, rfl, ?_⟩
  rcases hc with hc | ⟨b, off, rfl, hE⟩
  · exact Or.inl hc
  · refine Or.inr ⟨b, off, rfl, fun j x hj i' v' hi' => ?_⟩
    have hne' : b ≠ B := fun e => by
      obtain ⟨cur', hc'⟩ := ht b rfl
      rw [e, hB] at hc'
      injection hc' with hc'
      injection hc' with _ h2
      exact hne h2.symm
    rw [World.cell?_of_block (Below.heap_setCell _ _ _ _ (by exact hne'))]
    exact hE j x hj i' v' hi'

end Go.Proofs.Ytbokdcdnandgbae
