/- Package book: slices.DeleteFunc at jobs; the walk of drop. -/
import Derived.Test.YtjbcfflbfnddeacBookZa
import Derived.Test.YtjbcfflbfnddeacBookZd
namespace Go.Proofs.Ytjbcfflbfnddeac
open Go.RowKit Go.Shelf

/-- 'clear' of a part of a row that is known whole. -/
theorem clear_cells {P : Program} (w : World) (t e ty : TypeId) (z : Value) (ht : P.underlying t = some (.slice e)) (hv : ∀ w, (zeroValue e).run P w = .ok z w) (g o n c : Nat) (hn : 0 < n) (cur : List Value) (T : TypeId) (hg : w.heap[g]? = some (.cells cur.toArray T (0, 0)))
    (hfit : o + (Builtin.zeroCells z.cells n).toList.length ≤ cur.length) (h1 : ∀ v ∈ (Builtin.zeroCells z.cells n).toList, v.oneCell' = true) :
    (Builtin.clear_ #[t] ty #[.slice (some ⟨g, o, none⟩) n c]).run P w = .ok (.tuple #[]) (w.setRow g (splice cur o (Builtin.zeroCells z.cells n).toList).toArray) := by
  have hst := run_storeCells_at P g o T (Builtin.zeroCells z.cells n).toList 0 cur.toArray w hg (by simpa using hfit) h1
  simp only [Nat.add_zero] at hst
  obtain ⟨m, rfl⟩ : ∃ m, n = m + 1 := ⟨n - 1, by omega⟩
  simp [Builtin.clear_, run_underlying ht, hv, hst, splice]

theorem zerosJ (n : Nat) : (Builtin.zeroCells (valJ 0 0 0).cells n).toList.length = n * 3 := by
  rw [Array.length_toList, size_zeroCells]
  rfl

theorem zerosJ_one (n : Nat) : ∀ v ∈ (Builtin.zeroCells (valJ 0 0 0).cells n).toList, v.oneCell' = true := by
  intro v hv
  have hm : v ∈ Builtin.zeroCells (valJ 0 0 0).cells n := Array.mem_toList_iff.1 hv
  rw [Builtin.zeroCells, Array.mem_map] at hm
  obtain ⟨i, _, rfl⟩ := hm
  have : ∀ k, k < 3 → (((valJ 0 0 0).cells)[k]!).oneCell' = true := by decide
  exact this _ (Nat.mod_lt _ (by decide))

/-- How far DeleteFunc has come: behind the first j. -/
structure Del (p : Jb → Bool) (js : List Jb) (i j : Nat) (R : List Jb) : Prop where
  len : ((js.take j).filter fun x => !p x).length = i
  lt : i < j
  le : j ≤ js.length
  rest : R.length = js.length - i
  tail : R.drop (j - i) = js.drop j

theorem Del.start {p : Jb → Bool} {js : List Jb} {k : Nat} {x : Jb} (hx : js[k]? = some x) (hp : p x = true) (hb : ∀ y, y ∈ js.take k → p y = false) : Del p js k (k + 1) (js.drop k) ∧ (js.take (k + 1)).filter (fun x => !p x) = js.take k := by
  have hlt := (List.getElem?_eq_some_iff.1 hx).1
  have e : (js.take (k + 1)).filter (fun x => !p x) = js.take k := by
    rw [List.take_add_one, hx, List.filter_append, List.filter_eq_self.2 (fun y hy => by simp [hb y hy])]
    simp [hp]
  refine ⟨⟨by rw [e, List.length_take]; omega, by omega, by omega, by simp, ?_⟩, e⟩
  rw [show k + 1 - k = 1 by omega, List.drop_drop]

theorem Del.keep {p : Jb → Bool} {js R : List Jb} {i j : Nat} {x : Jb} (h : Del p js i j R) (hx : js[j]? = some x) (hp : p x = false) : Del p js (i + 1) (j + 1) (R.drop 1) ∧ (js.take (j + 1)).filter (fun x => !p x) = (js.take j).filter (fun x => !p x) ++ [x] := by
  have hlt := (List.getElem?_eq_some_iff.1 hx).1
  have e : (js.take (j + 1)).filter (fun x => !p x) = (js.take j).filter (fun x => !p x) ++ [x] := by
    rw [List.take_add_one, hx, List.filter_append]
    simp [hp]
  have := h.lt
  refine ⟨⟨by rw [e, List.length_append, h.len]; rfl, by omega, by omega, by rw [List.length_drop, h.rest]; omega, ?_⟩, e⟩
  rw [List.drop_drop, show 1 + (j + 1 - (i + 1)) = (j - i) + 1 by omega, ← List.drop_drop, h.tail, List.drop_drop]

theorem Del.skip {p : Jb → Bool} {js R : List Jb} {i j : Nat} {x : Jb} (h : Del p js i j R) (hx : js[j]? = some x) (hp : p x = true) : Del p js i (j + 1) R ∧ (js.take (j + 1)).filter (fun x => !p x) = (js.take j).filter (fun x => !p x) := by
  have hlt := (List.getElem?_eq_some_iff.1 hx).1
  have e : (js.take (j + 1)).filter (fun x => !p x) = (js.take j).filter (fun x => !p x) := by
    rw [List.take_add_one, hx, List.filter_append]
    simp [hp]
  have := h.lt
  refine ⟨⟨by rw [e, h.len], by omega, by omega, h.rest, ?_⟩, e⟩
  rw [show j + 1 - i = (j - i) + 1 by omega, ← List.drop_drop, h.tail, List.drop_drop]

theorem Del.at {p : Jb → Bool} {js R : List Jb} {i j : Nat} {x : Jb} (h : Del p js i j R) (hx : js[j]? = some x) : ((js.take j).filter (fun x => !p x) ++ R)[j]? = some x := by
  have := h.lt
  rw [List.getElem?_append_right (by rw [h.len]; omega), h.len]
  have e : (R.drop (j - i))[0]? = (js.drop j)[0]? := by rw [h.tail]
  rw [List.getElem?_drop, List.getElem?_drop] at e
  simpa [hx] using e

end Go.Proofs.Ytjbcfflbfnddeac
