/- What an entry does to a row of jobs, plainly; blocks that are written. -/
import Derived.Test.YtbokdcdnandgbaeBookZb
namespace Go.Proofs.Ytbokdcdnandgbae
open Go.RowKit

/-- All blocks but these are as they were. -/
structure Kept (S : List Nat) (w w' : World) : Prop where
  os : w'.os = w.os
  tape : w'.tape = w.tape
  output : w'.output = w.output
  size : w.heap.size ≤ w'.heap.size
  block : ∀ k, k < w.heap.size → k ∉ S → w'.heap[k]? = w.heap[k]?

theorem Kept.refl (S : List Nat) (w : World) : Kept S w w := ⟨rfl, rfl, rfl, Nat.le_refl _, fun _ _ _ => rfl⟩

theorem Kept.below {S : List Nat} {a w w' : World} (h : Kept S a w) (hb : Below w.heap.size w w') : Kept S a w' :=
  ⟨hb.os.trans h.os, hb.tape.trans h.tape, hb.output.trans h.output, Nat.le_trans h.size hb.size, fun k hk hS => (hb.block k (Nat.lt_of_lt_of_le hk h.size)).trans (h.block k hk hS)⟩

theorem Kept.alloc {S : List Nat} {a w : World} (h : Kept S a w) (o : Obj) : Kept S a (w.alloc o) := h.below (grew (Below.refl _ _) o)

theorem Kept.setRow {S : List Nat} {a w : World} (h : Kept S a w) {g : Nat} (hg : g ∈ S) (cs : Array Value) : Kept S a (w.setRow g cs) :=
  ⟨h.os, h.tape, h.output, Nat.le_trans h.size (by simp [World.setRow]), fun k hk hS => by
    rw [setRow_other w g k cs (fun e => hS (by rw [e]; exact hg))]; exact h.block k hk hS⟩

theorem Kept.setCell {S : List Nat} {a w : World} (h : Kept S a w) {g o : Nat} (hg : g ∈ S) (v : Value) : Kept S a (w.setCell ⟨g, o, none⟩ v) :=
  ⟨h.os, h.tape, h.output, Nat.le_trans h.size (by simp [World.setCell]), fun k hk hS => by
    rw [Below.heap_setCell _ _ _ _ (by show k ≠ g; exact fun e => hS (by rw [e]; exact hg))]; exact h.block k hk hS⟩

theorem Kept.old {S : List Nat} {w w' : World} {k : Nat} {o : Obj} (h : Kept S w w') (hk : w.heap[k]? = some o) (hS : k ∉ S) : w'.heap[k]? = some o := by
  rw [h.block k (heap_lt hk) hS]; exact hk

theorem Kept.to {S : List Nat} {B : Nat} {w w' : World} (h : Kept S w w') (hB : B ≤ w.heap.size) (hS : ∀ k, k ∈ S → B ≤ k) : Below B w w' :=
  ⟨h.os, h.tape, h.output, h.size, fun k hk => h.block k (Nat.lt_of_lt_of_le hk hB) (fun e => by have := hS k e; omega)⟩

theorem block_set {w : World} {g o : Nat} {L : List Value} {T : TypeId} (hg : w.heap[g]? = some (.cells L.toArray T)) (v : Value) : (w.setCell ⟨g, o, none⟩ v).heap[g]? = some (.cells (L.set o v).toArray T) := by
  have hlt : g < w.heap.size := (Array.getElem?_eq_some_iff.1 hg).1
  have hv : w.heap[g] = .cells L.toArray T := (Array.getElem?_eq_some_iff.1 hg).2
  unfold World.setCell
  rw [Array.getElem?_eq_getElem (by simpa using hlt), Array.getElem_modify]
  simp [hv]

theorem splice_three {L : List Value} {o : Nat} (a b c : Value) (h : o + 2 < L.length) : ((L.set o a).set (o + 1) b).set (o + 2) c = splice L o [a, b, c] := by
  refine List.ext_getElem (by simp [splice]; omega) fun j h1 h2 => ?_
  simp only [List.getElem_set, splice]
  by_cases h3 : j < o
  · rw [List.getElem_append_left (by simp; omega), List.getElem_take, if_neg (by omega), if_neg (by omega), if_neg (by omega)]
  · rw [List.getElem_append_right (by simp; omega)]
    have hl : (List.take o L).length = o := by simp; omega
    simp only [hl]
    by_cases h4 : j < o + 3
    · rw [List.getElem_append_left (by simp; omega)]
      obtain h5 | h5 | h5 : j = o ∨ j = o + 1 ∨ j = o + 2 := by omega
      all_goals (subst h5; simp)
    · rw [List.getElem_append_right (by simp; omega), if_neg (by omega), if_neg (by omega), if_neg (by omega), List.getElem_drop]
      congr 1
      simp
      omega

theorem block_three {w : World} {g o : Nat} {L : List Value} {T : TypeId} (hg : w.heap[g]? = some (.cells L.toArray T)) (a b c : Value) (h : o + 2 < L.length) :
    (((w.setCell ⟨g, o, none⟩ a).setCell ⟨g, o + 1, none⟩ b).setCell ⟨g, o + 2, none⟩ c).heap[g]? = some (.cells (splice L o [a, b, c]).toArray T) := by
  rw [← splice_three a b c h]
  exact block_set (block_set (block_set hg a) b) c

theorem rowAt_block {α : Type} {cs : α → List Value} {k : Nat} (hk : ∀ x, (cs x).length = k) {w : World} {b : Nat} {xs : List α} {T : TypeId} {L : List Value} (hb : w.heap[b]? = some (.cells L.toArray T)) (h : ∃ t, L = xs.flatMap cs ++ t) : RowAt cs k w b 0 xs := fun j e hj i u hi => by
  obtain ⟨t, rfl⟩ := h
  rw [Joins.cell_of_block hb, Nat.zero_add]
  have := row_flat hk xs j e hj i u hi
  have hlt := (List.getElem?_eq_some_iff.1 this).1
  simp [List.getElem?_append_left hlt, this]

theorem slOf_block {α : Type} {cs : α → List Value} {k : Nat} (hk : ∀ x, (cs x).length = k) {w : World} {b c : Nat} {xs : List α} {T : TypeId} {L : List Value} (hb : w.heap[b]? = some (.cells L.toArray T)) (h : ∃ t, L = xs.flatMap cs ++ t) : SlOf cs k w (.slice (some ⟨b, 0, none⟩) xs.length c) xs :=
  ⟨_, c, rfl, Or.inr ⟨b, 0, rfl, rowAt_block hk hb h⟩⟩

theorem splice_flat {α : Type} {cs : α → List Value} {k : Nat} (hk : ∀ x, (cs x).length = k) (a b : List α) (y z : α) : splice ((a ++ y :: b).flatMap cs) (a.length * k) (cs z) = (a ++ z :: b).flatMap cs := by
  have h1 := row_len hk a
  simp only [splice, List.flatMap_append, List.flatMap_cons, hk]
  rw [← h1, List.take_left, List.drop_append]
  simp [hk]

theorem srt_mid : ∀ {l : Int} {a b : List Jb} {y : Jb}, Srt l (a ++ y :: b) → (∀ x, x ∈ a → x.i < y.i) ∧ (∀ x, x ∈ b → y.i < x.i)
  | _, [], _, _, h => ⟨fun x hx => (by cases hx), fun x hx => Srt.above h.2 x hx⟩
  | l, z :: a, b, y, h => by
    obtain ⟨h1, h2⟩ := srt_mid (a := a) h.2
    refine ⟨fun x hx => ?_, h2⟩
    rcases List.mem_cons.1 hx with rfl | hx
    · exact Srt.above h.2 y (by simp)
    · exact h1 x hx

theorem alt_gap {a b : List Jb} {i : Int} (ha : ∀ x, x ∈ a → x.i < i) (hb : ∀ x, x ∈ b → i < x.i) (v : Option Jb) : alt (a ++ b) i v = a ++ v.toList ++ b := by
  have e1 : (a ++ b).filter (fun x => decide (x.i < i)) = a := by
    rw [List.filter_append, List.filter_eq_self.2 (fun x hx => by simpa using ha x hx), List.filter_eq_nil_iff.2 (fun x hx => by have := hb x hx; simp; omega), List.append_nil]
  have e2 : (a ++ b).filter (fun x => decide (i < x.i)) = b := by
    rw [List.filter_append, List.filter_eq_nil_iff.2 (fun x hx => by have := ha x hx; simp; omega), List.filter_eq_self.2 (fun x hx => by simpa using hb x hx), List.nil_append]
  rw [alt, e1, e2]

theorem alt_mid {l : Int} {a b : List Jb} {y : Jb} (h : Srt l (a ++ y :: b)) (v : Option Jb) : alt (a ++ y :: b) y.i v = a ++ v.toList ++ b := by
  obtain ⟨h1, h2⟩ := srt_mid h
  have e1 : (a ++ y :: b).filter (fun x => decide (x.i < y.i)) = a := by
    rw [List.filter_append, List.filter_cons, if_neg (by simp), List.filter_eq_self.2 (fun x hx => by simpa using h1 x hx), List.filter_eq_nil_iff.2 (fun x hx => by have := h2 x hx; simp; omega), List.append_nil]
  have e2 : (a ++ y :: b).filter (fun x => decide (y.i < x.i)) = b := by
    rw [List.filter_append, List.filter_cons, if_neg (by simp), List.filter_eq_nil_iff.2 (fun x hx => by have := h1 x hx; simp; omega), List.filter_eq_self.2 (fun x hx => by simpa using h2 x hx), List.nil_append]
  rw [alt, e1, e2]

theorem alt_filter {l : Int} {js : List Jb} {i : Int} (h : Srt l js) (hi : l < i) : alt js i none = js.filter (fun x => !(x.i == i)) := by
  refine srt_ext (alt_srt h hi (fun x hx => by cases hx)) (srt_filter _ h) fun x => ?_
  rw [alt_mem, List.mem_filter]
  simp

/-- The jobs from the first on that is above i. -/
theorem srt_above_at {l i : Int} {js : List Jb} {k : Nat} {x : Jb} (h : Srt l js) (hx : js[k]? = some x) (hi : i < x.i) : ∀ y, y ∈ js.drop k → i < y.i := by
  have hlt := (List.getElem?_eq_some_iff.1 hx).1
  have e : js = js.take k ++ x :: js.drop (k + 1) := by
    rw [← drop_at hx, List.take_append_drop]
  rw [e] at h
  obtain ⟨_, h2⟩ := srt_mid h
  rw [drop_at hx]
  intro y hy
  rcases List.mem_cons.1 hy with rfl | hy
  · exact hi
  · have := h2 y hy; omega

end Go.Proofs.Ytbokdcdnandgbae
