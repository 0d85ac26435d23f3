/- The walk of the law BookOnce, under package book's contracts. -/
import Derived.Test.YtbkockoekelkkaaBookL
namespace Go.Proofs.Ytbkockoekelkkaa
open Go.RowKit
open scoped Classical

/-- What region 5 of BookOnce reads, and what its calls ask. -/
structure HeldO (w W : World) (b0 b1 b2 : Nat) (v1 v2 u1 u2 t1 t2 s2 : Value) (js jc : List Jb) (rs rc : List Rg) : Prop where
  h0 : W.heap[b0]? = some (boxB v1 v2)
  h1 : W.heap[b1]? = some (boxB u1 u2)
  h2 : W.heap[b2]? = some (boxB t1 t2)
  j : JobSl W v1 js
  r : RungSl W v2 rs
  kj : JobSl W u1 jc
  kr : RungSl W u2 rc
  dj : JobSl W t1 jc
  dr : RungSl W t2 rc
  cut : RungSl W s2 rs
  below : Below w.heap.size w W

theorem HeldO.later {w W W' : World} {b0 b1 b2 : Nat} {v1 v2 u1 u2 t1 t2 s2 : Value} {js jc : List Jb} {rs rc : List Rg} (h : HeldO w W b0 b1 b2 v1 v2 u1 u2 t1 t2 s2 js jc rs rc) (hb : Below W.heap.size W W') : HeldO w W' b0 b1 b2 v1 v2 u1 u2 t1 t2 s2 js jc rs rc :=
  ⟨heap_below h.h0 hb (heap_lt h.h0), heap_below h.h1 hb (heap_lt h.h1), heap_below h.h2 hb (heap_lt h.h2), h.j.later hb, h.r.later hb, h.kj.later hb, h.kr.later hb, h.dj.later hb, h.dr.later hb, h.cut.later hb, step_below h.below hb⟩

abbrev HeldOC (w W : World) (b0 b1 b2 : Nat) (v1 v2 u1 u2 t1 t2 s2 : Value) (js jc : List Jb) (rs rc : List Rg) : Prop :=
  HeldO w W b0 b1 b2 v1 v2 u1 u2 t1 t2 s2 js jc rs rc ∧ W.cell? ⟨b0, 0, none⟩ = some v1 ∧ W.cell? ⟨b0, 1, none⟩ = some v2 ∧ W.cell? ⟨b1, 0, none⟩ = some u1 ∧ W.cell? ⟨b1, 1, none⟩ = some u2 ∧ W.cell? ⟨b2, 0, none⟩ = some t1 ∧ W.cell? ⟨b2, 1, none⟩ = some t2

theorem HeldO.cells {w W : World} {b0 b1 b2 : Nat} {v1 v2 u1 u2 t1 t2 s2 : Value} {js jc : List Jb} {rs rc : List Rg} (h : HeldO w W b0 b1 b2 v1 v2 u1 u2 t1 t2 s2 js jc rs rc) : HeldOC w W b0 b1 b2 v1 v2 u1 u2 t1 t2 s2 js jc rs rc :=
  ⟨h, by rw [Joins.cell_of_block h.h0]; rfl, by rw [Joins.cell_of_block h.h0]; rfl, by rw [Joins.cell_of_block h.h1]; rfl, by rw [Joins.cell_of_block h.h1]; rfl, by rw [Joins.cell_of_block h.h2]; rfl, by rw [Joins.cell_of_block h.h2]; rfl⟩

theorem heldOC_step {w W W' : World} {b0 b1 b2 : Nat} {v1 v2 u1 u2 t1 t2 s2 : Value} {js jc : List Jb} {rs rc : List Rg} (h : HeldOC w W b0 b1 b2 v1 v2 u1 u2 t1 t2 s2 js jc rs rc) (hb : Below W.heap.size W W') : HeldOC w W' b0 b1 b2 v1 v2 u1 u2 t1 t2 s2 js jc rs rc := (h.1.later hb).cells

theorem SlOf.cut {α : Type} {cs : α → List Value} {k : Nat} {w : World} {a : Option Addr} {n c : Nat} {xs : List α} (h : SlOf cs k w (.slice a n c) xs) (m : Nat) (hm : m ≤ n) : SlOf cs k w (.slice a m c) (xs.take m) := by
  have hl := h.len
  have hlen : (xs.take m).length = m := by rw [List.length_take]; omega
  refine ⟨a, c, by rw [hlen], ?_⟩
  rw [hlen]
  by_cases h0 : m = 0
  · exact Or.inl h0
  · obtain ⟨b, off, ha, hE⟩ := h.at (by omega)
    exact Or.inr ⟨b, off, ha, hE.take m⟩

theorem cut_run (a : Option Addr) (m n c : Nat) (h : (n : Int) ≤ c) (w : World) : (Instr.slice 28 (.slice a m c) none (some (.int .i64 n)) none).run Try.prog w = .ok (.slice a n c) w := by
  rw [run_slice_h (ht := Try.underlying28) (h0 := by omega) (h2 := h)]
  have hs : (sizeOf (Try.prog.elem 28)).run Try.prog w = .ok 3 w := by kernel_rfl
  rw [hs]
  cases a with
  | none => simp [Result.andThen, sliced]
  | some ad => simp [Result.andThen, sliced, Addr.add]

end Go.Proofs.Ytbkockoekelkkaa
