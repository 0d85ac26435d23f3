/- Disks in memory. -/
import Derived.Test.YtknjdbpdlodpbacGreatDoorDiskA
import Derived.Test.YtknjdbpdlodpbacGreatDoorSlStr
import Derived.Test.YtknjdbpdlodpbacGreatDoorSlRec
namespace Go.Proofs.YtknjdbpdlodpbacGreatDoor
open Go.RowKit

abbrev nilB : Value := .slice none 0 0

abbrev boxD (v1 v2 : Value) : Obj := .cells #[v1, v2] 24

/-- A disk's two slices. -/
structure DiskAt (w : World) (v1 v2 : Value) (d : Dk) : Prop where
  safe : ByteSl w v1 d.1
  wait : ByteSl w v2 d.2

theorem DiskAt.later {w w' : World} {v1 v2 : Value} {d : Dk} (h : DiskAt w v1 v2 d) (hb : Below w.heap.size w w') : DiskAt w' v1 v2 d := ⟨h.safe.later hb, h.wait.later hb⟩

def Value.isNum : Value → Bool
  | .int _ _ => true
  | _ => false

/-- A row of numbers stays as it is where a block is written in which there is none. -/
theorem SlOf.apart {α : Type} {cs : α → List Value} {k : Nat} (hcs : ∀ (x : α) (i : Nat) (v : Value), (cs x)[i]? = some v → Value.isNum v = true) {w : World} {v : Value} {xs : List α} (h : SlOf cs k w v xs) {B : Nat} {A : Array Value} {T : TypeId}
    (hB : w.heap[B]? = some (.cells A T)) (hA : ∀ u, u ∈ A.toList → Value.isNum u = false) (i : Nat) (u : Value) : SlOf cs k (w.setCell ⟨B, i, none⟩ u) v xs := by
  obtain ⟨a, c, rfl, hc⟩ := h
  refine ⟨a, c, rfl, ?_⟩
  rcases hc with hc | ⟨b, off, rfl, hE⟩
  · exact Or.inl hc
  · refine Or.inr ⟨b, off, rfl, fun j x hj i' v' hi' => ?_⟩
    have hcell := hE j x hj i' v' hi'
    have hne : b ≠ B := fun e => by
      rw [e, Joins.cell_of_block hB] at hcell
      have h1 := hcs x i' v' hi'
      have h2 := hA v' (Array.mem_toList_iff.2 (Array.mem_of_getElem? hcell))
      rw [h1] at h2; cases h2
    have hh : (w.setCell ⟨B, i, none⟩ u).heap[b]? = w.heap[b]? := Below.heap_setCell _ _ _ _ (by show b ≠ B; exact hne)
    have : (w.setCell ⟨B, i, none⟩ u).cell? ⟨b, off + j * k + i', none⟩ = w.cell? ⟨b, off + j * k + i', none⟩ := by simp only [World.cell?, hh]
    rw [this]; exact hcell

theorem bt_num (x : UInt8) (i : Nat) (v : Value) (h : (bt x)[i]? = some v) : Value.isNum v = true := by
  have := List.mem_of_getElem? h
  simp [bt] at this
  subst this; rfl

theorem slices_num {a1 a2 : Option Addr} {n1 n2 c1 c2 : Nat} : ∀ u, u ∈ (#[Value.slice a1 n1 c1, .slice a2 n2 c2] : Array Value).toList → Value.isNum u = false := fun u hu => by
  simp at hu
  rcases hu with rfl | rfl <;> rfl

theorem disk_nil (w : World) : DiskAt w nilB nilB ([], []) := ⟨SlOf.nil _ _, SlOf.nil _ _⟩

/-- Two stores into a disk's box. -/
theorem disk_stored {W : World} {b : Nat} {v1 v2 : Value} (h : W.heap[b]? = some (boxD v1 v2)) (u1 u2 : Value) : ((W.setCell ⟨b, 0, none⟩ u1).setCell ⟨b, 1, none⟩ u2).heap[b]? = some (boxD u1 u2) := by
  have h0 : (W.setCell ⟨b, 0, none⟩ u1).heap[b]? = some (boxD u1 v2) := by rw [Joins.block_setCell h]; rfl
  rw [Joins.block_setCell h0]; rfl

theorem below_two {B : Nat} {a W : World} {b : Nat} (h : Below B a W) (hb : B ≤ b) (u1 u2 : Value) : Below B a ((W.setCell ⟨b, 0, none⟩ u1).setCell ⟨b, 1, none⟩ u2) :=
  (h.setCell (p := ⟨b, 0, none⟩) hb _).setCell (p := ⟨b, 1, none⟩) hb _

/-- A row of bytes beside a disk's box. -/
theorem bytes_two {W : World} {b : Nat} {a1 a2 e1 e2 : Option Addr} {n1 n2 c1 c2 m1 m2 d1 d2 : Nat} (hb : W.heap[b]? = some (boxD (.slice a1 n1 c1) (.slice a2 n2 c2))) {α : Type} {cs : α → List Value} {k : Nat} (hcs : ∀ (x : α) (i : Nat) (v : Value), (cs x)[i]? = some v → Value.isNum v = true) {v : Value} {l : List α} (h : SlOf cs k W v l) :
    SlOf cs k ((W.setCell ⟨b, 0, none⟩ (.slice e1 m1 d1)).setCell ⟨b, 1, none⟩ (.slice e2 m2 d2)) v l := by
  have h0 : (W.setCell ⟨b, 0, none⟩ (.slice e1 m1 d1)).heap[b]? = some (boxD (.slice e1 m1 d1) (.slice a2 n2 c2)) := by rw [Joins.block_setCell hb]; rfl
  exact (h.apart hcs hb slices_num 0 _).apart hcs h0 slices_num 1 _

theorem rc_num (x : Rc) (i : Nat) (v : Value) (h : (Rc.cells x)[i]? = some v) : Value.isNum v = true := by
  have := List.mem_of_getElem? h
  simp only [Rc.cells, List.mem_cons, List.not_mem_nil, or_false] at this
  rcases this with rfl | rfl | rfl | rfl | rfl | rfl | rfl | rfl <;> rfl

theorem cell_other {w : World} {b g : Nat} (hne : g ≠ b) (i j : Nat) (v : Value) : (w.setCell ⟨b, i, none⟩ v).cell? ⟨g, j, none⟩ = w.cell? ⟨g, j, none⟩ := by
  have hh : (w.setCell ⟨b, i, none⟩ v).heap[g]? = w.heap[g]? := Below.heap_setCell _ _ _ _ (by show g ≠ b; exact hne)
  simp only [World.cell?, hh]

/-- The beginning of a slice. -/
theorem SlOf.upto {α : Type} {cs : α → List Value} {k : Nat} {w : World} {a : Option Addr} {n c : Nat} {xs : List α} (h : SlOf cs k w (.slice a n c) xs) (m : Nat) (hm : m ≤ n) : SlOf cs k w (.slice a m c) (xs.take m) := by
  obtain ⟨a', c', e, hc⟩ := h
  injection e with e1 e2 e3
  subst e1 e2 e3
  refine ⟨a, c, by rw [List.length_take, Nat.min_eq_left hm], ?_⟩
  rcases hc with hc | ⟨b, off, ha, hE⟩
  · exact Or.inl (by rw [List.length_take]; omega)
  · exact Or.inr ⟨b, off, ha, hE.take m⟩

/-- A disk's two slices, with their room. -/
structure DiskR (w : World) (v1 v2 : Value) (d : Dk) : Prop where
  safe : ByteSl w v1 d.1
  wait : ByteSl w v2 d.2
  room1 : Roomy v1
  room2 : Roomy v2

theorem DiskR.later {w w' : World} {v1 v2 : Value} {d : Dk} (h : DiskR w v1 v2 d) (hb : Below w.heap.size w w') : DiskR w' v1 v2 d := ⟨h.safe.later hb, h.wait.later hb, h.room1, h.room2⟩

end Go.Proofs.YtknjdbpdlodpbacGreatDoor
