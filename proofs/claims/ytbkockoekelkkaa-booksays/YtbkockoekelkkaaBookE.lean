/- The reference's table of jobs. -/
import Derived.Test.YtbkockoekelkkaaBookD
import Derived.Deep.DeepCutAuto
import Derived.Deep.RegionLaw
import Derived.Deep.AppendLies
namespace Go.Proofs.Ytbkockoekelkkaa
open Go.RowKit

/-- The jobs of a table, in order. -/
def untab (f : Int → Option Jb) : List Jb := (List.range 6).filterMap fun (i : Nat) => f (i : Int)

theorem untab_srt (f : Int → Option Jb) (hf : ∀ i x, f i = some x → x.i = i) : ∀ (n lo : Nat), Srt ((lo : Int) - 1) ((List.range' lo n).filterMap fun (i : Nat) => f (i : Int))
  | 0, _ => trivial
  | n + 1, lo => by
    have ih := untab_srt f hf n (lo + 1)
    rw [List.range'_succ, List.filterMap_cons]
    cases hx : f lo with
    | none => exact ih.mono (by omega)
    | some x =>
      have := hf _ _ hx
      exact ⟨by omega, ih.mono (by omega)⟩

theorem untab_eq {f : Int → Option Jb} {js : List Jb} (hf : ∀ i x, f i = some x → x.i = i) (hs : Srt (-1) js) (hb : ∀ x, x ∈ js → x.i ≤ 5) (h : ∀ i, 0 ≤ i → i ≤ 5 → f i = tab js i) : untab f = js := by
  have h1 : Srt (-1) (untab f) := by
    have := untab_srt f hf 6 0
    rw [← List.range_eq_range'] at this
    exact this
  refine srt_ext h1 hs fun x => ?_
  rw [untab, List.mem_filterMap]
  constructor
  · rintro ⟨i, hi, hx⟩
    have hi' := List.mem_range.1 hi
    rw [h i (by omega) (by omega)] at hx
    exact (tab_id hx).2
  · intro hx
    have h0 := hs.above x hx
    have h5 := hb x hx
    refine ⟨x.i.toNat, List.mem_range.2 (by omega), ?_⟩
    rw [show ((x.i.toNat : Nat) : Int) = x.i by omega, h _ (by omega) h5]
    exact tab_mem hs x hx

theorem tab_take {l : Int} {js : List Jb} {k : Nat} {x : Jb} (hs : Srt l js) (hx : js[k]? = some x) (i : Int) : tab (js.take (k + 1)) i = if i = x.i then some x else tab (js.take k) i := by
  rw [List.take_add_one, hx, Option.toList_some, tab, List.find?_append]
  have hn : i = x.i → tab (js.take k) i = none := fun e => by
    rw [tab_none]
    intro y hy he
    have hsx : ∀ {l : Int} {js : List Jb} {k : Nat}, Srt l js → js[k]? = some x → ∀ y, y ∈ js.take k → y.i < x.i := by
      intro l js
      induction js generalizing l with
      | nil => intro k _ h; simp at h
      | cons z r ih =>
        intro k h hk y hy
        cases k with
        | zero => simp at hy
        | succ k =>
          have hxr : x ∈ r := List.mem_of_getElem? (by simpa using hk)
          rw [List.take_succ_cons] at hy
          rcases List.mem_cons.1 hy with rfl | hy
          · exact h.2.above x hxr
          · exact ih h.2 (by simpa using hk) y hy
    have := hsx hs hx y hy
    omega
  by_cases he : i = x.i
  · rw [if_pos he]
    have := hn he
    rw [tab] at this
    rw [this, he]
    simp
  · rw [if_neg he]
    have : List.find? (fun y : Jb => y.i == i) [x] = none := by simp; omega
    rw [this, Option.or_none, tab]

/-- What a pointer of the table says. -/
def PtrIs (w : World) (p : Value) : Option Jb → Prop
  | none => p = .pointer none
  | some y => ∃ b, p = .pointer (some ⟨b, 0, none⟩) ∧ w.heap[b]? = some (boxJ y)

/-- The table in its block. -/
def TabAt (w : World) (tb : Nat) (f : Int → Option Jb) : Prop :=
  ∃ p0 p1 p2 p3 p4 p5, w.heap[tb]? = some (.cells #[p0, p1, p2, p3, p4, p5] 49) ∧ PtrIs w p0 (f 0) ∧ PtrIs w p1 (f 1) ∧ PtrIs w p2 (f 2) ∧ PtrIs w p3 (f 3) ∧ PtrIs w p4 (f 4) ∧ PtrIs w p5 (f 5)

theorem PtrIs.later {w w' : World} {p : Value} {o : Option Jb} (h : PtrIs w p o) (hk : ∀ (b : Nat) (y : Jb), w.heap[b]? = some (boxJ y) → w'.heap[b]? = some (boxJ y)) : PtrIs w' p o := by
  cases o with
  | none => exact h
  | some y => obtain ⟨b, e, hb⟩ := h; exact ⟨b, e, hk b y hb⟩

theorem TabAt.later {w w' : World} {tb : Nat} {f : Int → Option Jb} (h : TabAt w tb f) (ht : w'.heap[tb]? = w.heap[tb]?) (hk : ∀ (b : Nat) (y : Jb), w.heap[b]? = some (boxJ y) → w'.heap[b]? = some (boxJ y)) : TabAt w' tb f := by
  obtain ⟨p0, p1, p2, p3, p4, p5, hb, h0, h1, h2, h3, h4, h5⟩ := h
  exact ⟨p0, p1, p2, p3, p4, p5, by rw [ht]; exact hb, h0.later hk, h1.later hk, h2.later hk, h3.later hk, h4.later hk, h5.later hk⟩

theorem TabAt.lt {w : World} {tb : Nat} {f : Int → Option Jb} (h : TabAt w tb f) : tb < w.heap.size := by
  obtain ⟨p0, p1, p2, p3, p4, p5, hb, _⟩ := h
  exact heap_lt hb

theorem TabAt.below {w w' : World} {tb : Nat} {f : Int → Option Jb} (h : TabAt w tb f) (hb : Below w.heap.size w w') : TabAt w' tb f :=
  h.later (hb.block _ h.lt) (fun _ _ hy => heap_below hy hb (heap_lt hy))

theorem TabAt.alloc {w : World} {tb : Nat} {f : Int → Option Jb} (h : TabAt w tb f) (o : Obj) : TabAt (w.alloc o) tb f :=
  h.later (Below.heap_alloc _ _ _ h.lt) (fun _ _ hy => heap_old hy o)

/-- A pointer written into the table. -/
theorem TabAt.set {w : World} {tb : Nat} {f : Int → Option Jb} (h : TabAt w tb f) (i : Int) (i0 : 0 ≤ i) (i5 : i ≤ 5) (p : Value) (o : Option Jb) (hp : PtrIs w p o) :
    TabAt (w.setCell ⟨tb, i.toNat, none⟩ p) tb (fun k => if k = i then o else f k) := by
  obtain ⟨p0, p1, p2, p3, p4, p5, hb, h0, h1, h2, h3, h4, h5⟩ := h
  have hk : ∀ (b : Nat) (y : Jb), w.heap[b]? = some (boxJ y) → (w.setCell ⟨tb, i.toNat, none⟩ p).heap[b]? = some (boxJ y) := fun b y hy => by
    rw [Below.heap_setCell _ _ _ _ (fun e => by
      have e' : b = tb := e
      rw [e', hb] at hy
      injection hy with hy
      injection hy with _ hy
      cases hy)]
    exact hy
  have hi : i = 0 ∨ i = 1 ∨ i = 2 ∨ i = 3 ∨ i = 4 ∨ i = 5 := by omega
  rcases hi with rfl | rfl | rfl | rfl | rfl | rfl
  · exact ⟨p, p1, p2, p3, p4, p5, by rw [Joins.block_setCell hb]; rfl, hp.later hk, h1.later hk, h2.later hk, h3.later hk, h4.later hk, h5.later hk⟩
  · exact ⟨p0, p, p2, p3, p4, p5, by rw [Joins.block_setCell hb]; rfl, h0.later hk, hp.later hk, h2.later hk, h3.later hk, h4.later hk, h5.later hk⟩
  · exact ⟨p0, p1, p, p3, p4, p5, by rw [Joins.block_setCell hb]; rfl, h0.later hk, h1.later hk, hp.later hk, h3.later hk, h4.later hk, h5.later hk⟩
  · exact ⟨p0, p1, p2, p, p4, p5, by rw [Joins.block_setCell hb]; rfl, h0.later hk, h1.later hk, h2.later hk, hp.later hk, h4.later hk, h5.later hk⟩
  · exact ⟨p0, p1, p2, p3, p, p5, by rw [Joins.block_setCell hb]; rfl, h0.later hk, h1.later hk, h2.later hk, h3.later hk, hp.later hk, h5.later hk⟩
  · exact ⟨p0, p1, p2, p3, p4, p, by rw [Joins.block_setCell hb]; rfl, h0.later hk, h1.later hk, h2.later hk, h3.later hk, h4.later hk, hp.later hk⟩

/-- A place of the table. -/
theorem TabAt.get {w : World} {tb : Nat} {f : Int → Option Jb} (h : TabAt w tb f) (i : Int) (i0 : 0 ≤ i) (i5 : i ≤ 5) : ∃ p, w.cell? ⟨tb, i.toNat, none⟩ = some p ∧ PtrIs w p (f i) := by
  obtain ⟨p0, p1, p2, p3, p4, p5, hb, h0, h1, h2, h3, h4, h5⟩ := h
  have hi : i = 0 ∨ i = 1 ∨ i = 2 ∨ i = 3 ∨ i = 4 ∨ i = 5 := by omega
  rcases hi with rfl | rfl | rfl | rfl | rfl | rfl
  · exact ⟨p0, by rw [Joins.cell_of_block hb]; rfl, h0⟩
  · exact ⟨p1, by rw [Joins.cell_of_block hb]; rfl, h1⟩
  · exact ⟨p2, by rw [Joins.cell_of_block hb]; rfl, h2⟩
  · exact ⟨p3, by rw [Joins.cell_of_block hb]; rfl, h3⟩
  · exact ⟨p4, by rw [Joins.cell_of_block hb]; rfl, h4⟩
  · exact ⟨p5, by rw [Joins.cell_of_block hb]; rfl, h5⟩

theorem TabAt.frozen {w : World} {tb : Nat} {f : Int → Option Jb} (h : TabAt w tb f) (i : Nat) : w.frozen? ⟨tb, i, none⟩ = false := by
  obtain ⟨p0, p1, p2, p3, p4, p5, hb, _⟩ := h
  exact Joins.unfrozen_of_block hb i

end Go.Proofs.Ytbkockoekelkkaa
