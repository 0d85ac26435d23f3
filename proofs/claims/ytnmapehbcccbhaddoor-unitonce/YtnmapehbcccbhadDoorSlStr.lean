/- Bytes as a text, a text as bytes. -/
import Derived.Test.YtnmapehbcccbhadDoorSlByte
import Derived.Laws.IdiomStrings
import Derived.OwnWalk
namespace Go.Proofs.YtnmapehbcccbhadDoor
open Go.RowKit

theorem cell_frozen {w : World} {b : Nat} {A : Array Value} {T : TypeId} (fr : Nat × Nat) (h : w.heap[b]? = some (.cells A T fr)) (j : Nat) : w.cell? ⟨b, j, none⟩ = A[j]? := by
  simp only [World.cell?, h]
  rfl

/-- string(b). -/
theorem str_of {W : World} {v : Value} {l : List UInt8} (h : ByteSl W v l) : (convert 24 9 v).run Tryd.prog W = .ok (.string ⟨l.toArray⟩) W := by
  obtain ⟨a, c, rfl, hc⟩ := h
  rcases hc with h0 | ⟨b, off, rfl, hE⟩
  · obtain rfl : l = [] := List.length_eq_zero_iff.1 h0
    show (convert 24 9 (.slice a 0 c)).run Tryd.prog W = _
    rw [run_convert_bytes_string W _ _ _ a 0 c Tryd.underlying24 Tryd.underlying5 Tryd.underlying9]
    cases a <;> rfl
  · refine run_convert_bytes_back W _ _ _ ⟨b, off, none⟩ c l Tryd.underlying24 Tryd.underlying5 Tryd.underlying9 (fun j hj => ?_)
    rw [Lib.add_plain]
    have := hE j l[j] (List.getElem?_eq_getElem hj) 0 _ rfl
    rwa [Nat.mul_one, Nat.add_zero] at this

/-- []byte(s). -/
theorem of_str (l : List UInt8) (W : World) : ∃ c W', (convert 9 24 (.string ⟨l.toArray⟩)).run Tryd.prog W = .ok (.slice (some ⟨W.heap.size, 0, none⟩) l.length c) W' ∧ ByteSl W' (.slice (some ⟨W.heap.size, 0, none⟩) l.length c) l ∧ Below W.heap.size W W' := by
  have h := run_bytes_of_string (P := Tryd.prog) W 9 24 5 ⟨l.toArray⟩ Tryd.underlying9 Tryd.underlying24 Tryd.underlying5
  have hsz : (⟨l.toArray⟩ : ByteArray).size = l.length := by rw [Lib.size_eq]
  rw [hsz] at h
  refine ⟨_, _, h, ⟨_, _, rfl, Or.inr ⟨_, _, rfl, fun j x hj i u hi => ?_⟩⟩, (Below.refl _ _).drew.alloc (Nat.le_refl _) _⟩
  have hi0 : i = 0 := by
    have := (List.getElem?_eq_some_iff.1 hi).1
    simp [bt] at this
    exact this
  subst hi0
  have hu : u = .int .u8 x.toNat := by simp [bt] at hi; exact hi.symm
  have hlt := (List.getElem?_eq_some_iff.1 hj).1
  rw [Nat.mul_one, Nat.zero_add, Nat.add_zero, hu]
  refine (cell_frozen _ (heap_new W.drew _) _).trans ?_
  unfold bytesRow
  rw [Array.getElem?_append_left (by simpa using hlt)]
  simp [hj]

theorem suffix_nl (a : List UInt8) : Lib.hasSuffix (a ++ [10]) [10] = true := by
  unfold Lib.hasSuffix
  simp

theorem suffix_no {l : List UInt8} (h : (10 : UInt8) ∉ l) : Lib.hasSuffix l [10] = false := by
  rw [← Bool.not_eq_true]
  intro hs
  unfold Lib.hasSuffix at hs
  obtain ⟨t, rfl⟩ := List.isSuffixOf_iff_suffix.1 hs
  exact h (by simp)

end Go.Proofs.YtnmapehbcccbhadDoor
