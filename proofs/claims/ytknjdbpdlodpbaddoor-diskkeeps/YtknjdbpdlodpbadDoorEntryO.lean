/- The walk of the law EntryBack. -/
import Derived.Test.YtknjdbpdlodpbadDoorEntryN
namespace Go.Proofs.YtknjdbpdlodpbadDoor
open Go.RowKit

/-- Two entries that came in, boxed, and all that was there before. -/
structure Keep (w : World) (x y : En) (W : World) : Prop where
  below : Below w.heap.size w W
  hx : W.heap[w.heap.size]? = some (boxE x.k x.j x.v x.t x.c)
  hy : W.heap[w.heap.size + 1]? = some (boxE y.k y.j y.v y.t y.c)

theorem Keep.first (w : World) (x y : En) : Keep w x y ((w.alloc (boxE x.k x.j x.v x.t x.c)).alloc (boxE y.k y.j y.v y.t y.c)) where
  below := grew (grew (Below.refl _ _) _) _
  hx := heap_old (heap_new _ _) _
  hy := by
    have := heap_new (w.alloc (boxE x.k x.j x.v x.t x.c)) (boxE y.k y.j y.v y.t y.c)
    rwa [World.size_alloc] at this

theorem Keep.later {w W W' : World} {x y : En} (h : Keep w x y W) (hb : Below W.heap.size W W') : Keep w x y W' :=
  ⟨h.below.trans (hb.mono h.below.size), heap_below h.hx hb (heap_lt h.hx), heap_below h.hy hb (heap_lt h.hy)⟩

theorem Keep.cx {w W : World} {x y : En} (h : Keep w x y W) (i : Nat) : W.cell? ⟨w.heap.size, i, none⟩ = #[Value.int .i64 x.k, .int .i64 x.j, .int .i64 x.v, .int .i64 x.t, .int .i64 x.c][i]? := Joins.cell_of_block h.hx i
theorem Keep.cy {w W : World} {x y : En} (h : Keep w x y W) (i : Nat) : W.cell? ⟨w.heap.size + 1, i, none⟩ = #[Value.int .i64 y.k, .int .i64 y.j, .int .i64 y.v, .int .i64 y.t, .int .i64 y.c][i]? := Joins.cell_of_block h.hy i
theorem Keep.lt {w W : World} {x y : En} (h : Keep w x y W) : w.heap.size + 1 < W.heap.size := heap_lt h.hy

theorem unlike_self (k j v t c : Int) : unlike k j v t c k j v t c = false := by simp [unlike]

theorem unlike_true {x y : En} (h : x ≠ y) : unlike x.k x.j x.v x.t x.c y.k y.j y.v y.t y.c = true := by
  cases hu : unlike x.k x.j x.v x.t x.c y.k y.j y.v y.t y.c with
  | true => rfl
  | false =>
    obtain ⟨h1, h2, h3, h4, h5⟩ := unlike_false hu
    exact absurd (by cases x; cases y; simp_all) h

end Go.Proofs.YtknjdbpdlodpbadDoor
