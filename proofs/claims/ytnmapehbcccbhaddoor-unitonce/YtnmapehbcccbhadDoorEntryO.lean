/- The closed fact 'worded' of the laws on entries. The walk of the law EntryBack. -/
import Derived.Test.YtnmapehbcccbhadDoorEntryL
import Derived.Test.YtnmapehbcccbhadDoorEql
import Derived.Deep.RegionHeld3
namespace Go.Proofs.YtnmapehbcccbhadDoor
open Go.RowKit

theorem itoa1 (u : Nat) (h : u < 10) : Lib.itoa (u : Int) = [UInt8.ofNat (48 + u)] := by
  unfold Lib.itoa; rw [if_neg (by omega)]; simp only [Int.toNat_natCast]; exact Lib.decDigits_one h
theorem itoa2 (u : Nat) (h : ¬ u < 10) (h' : u < 100) : Lib.itoa (u : Int) = [UInt8.ofNat (48 + u / 10), UInt8.ofNat (48 + u % 10)] := by
  unfold Lib.itoa; rw [if_neg (by omega)]; simp only [Int.toNat_natCast]; exact Lib.decDigits_two h h'

theorem e1_txt : e1.txt = [112, 117, 116, 32, 50, 32, 53, 32, 49, 48] := by
  have h2 := itoa1 2 (by omega)
  have h5 := itoa1 5 (by omega)
  have h10 := itoa2 10 (by omega) (by omega)
  show Lib.join [nameL 1, Lib.itoa ((2 : Nat) : Int), Lib.itoa ((5 : Nat) : Int), Lib.itoa ((10 : Nat) : Int)] [32] = _
  rw [h2, h5, h10]
  decide

theorem bad_prs : (prs [112, 117, 116, 32, 50, 32, 48, 32, 49, 48]).1 = En.zero ∧ (prs [112, 117, 116, 32, 50, 32, 48, 32, 49, 48]).2 = 4 := by
  have n2 : numOf [50] = some 2 := numOf_itoa 2 (by omega) (by omega) ▸ (by rw [show Lib.itoa 2 = [50] from itoa1 2 (by omega)])
  have n0 : numOf [48] = some 0 := numOf_itoa 0 (by omega) (by omega) ▸ (by rw [show Lib.itoa 0 = [48] from itoa1 0 (by omega)])
  have n10 : numOf [49, 48] = some 10 := numOf_itoa 10 (by omega) (by omega) ▸ (by rw [show Lib.itoa 10 = [49, 48] from itoa2 10 (by omega) (by omega)])
  have hs : spl 4 [112, 117, 116, 32, 50, 32, 48, 32, 49, 48] = some [[112, 117, 116], [50], [48], [49, 48]] := by decide
  have hr : rd [112, 117, 116, 32, 50, 32, 48, 32, 49, 48] = some (1, 2, 0, 10) := by
    rw [rd, hs]
    exact rdW_some (by decide) (by omega) rfl n2 n0 n10
  have hc : (rdEn (1, 2, 0, 10)).chk = 4 := by decide
  unfold prs
  rw [if_neg (by decide), hr]
  simp only [hc]
  exact ⟨rfl, rfl⟩

end Go.Proofs.YtnmapehbcccbhadDoor
namespace Go.Proofs.YtnmapehbcccbhadDoor
open Go.RowKit

/-- Two entries that came in, boxed, and all that was there before. -/
structure Keep (w : World) (x y : En) (W : World) : Prop where
  below : Below w.heap.size w W
  hx : W.heap[w.heap.size]? = some (boxE x.k x.j x.v x.t x.c)
  hy : W.heap[w.heap.size + 1]? = some (boxE y.k y.j y.v y.t y.c)

theorem Keep.first (w : World) (x y : En) : Keep w x y ((w.alloc (boxE x.k x.j x.v x.t x.c)).alloc (boxE y.k y.j y.v y.t y.c)) where
  below := grew (grew (Below.refl _ _) _) _
  hx := heap_old (heap_new _ _) _
  hy := by
    have := heap_new (w.alloc (boxE x.k x.j x.v x.t x.c)) (boxE y.k y.j y.v y.t y.c)
    rwa [World.size_alloc] at this

theorem Keep.later {w W W' : World} {x y : En} (h : Keep w x y W) (hb : Below W.heap.size W W') : Keep w x y W' :=
  ⟨h.below.trans (hb.mono h.below.size), heap_below h.hx hb (heap_lt h.hx), heap_below h.hy hb (heap_lt h.hy)⟩

theorem Keep.cx {w W : World} {x y : En} (h : Keep w x y W) (i : Nat) : W.cell? ⟨w.heap.size, i, none⟩ = #[Value.int .i64 x.k, .int .i64 x.j, .int .i64 x.v, .int .i64 x.t, .int .i64 x.c][i]? := Joins.cell_of_block h.hx i
theorem Keep.cy {w W : World} {x y : En} (h : Keep w x y W) (i : Nat) : W.cell? ⟨w.heap.size + 1, i, none⟩ = #[Value.int .i64 y.k, .int .i64 y.j, .int .i64 y.v, .int .i64 y.t, .int .i64 y.c][i]? := Joins.cell_of_block h.hy i
theorem Keep.lt {w W : World} {x y : En} (h : Keep w x y W) : w.heap.size + 1 < W.heap.size := heap_lt h.hy

theorem unlike_self (k j v t c : Int) : unlike k j v t c k j v t c = false := by simp [unlike]

theorem unlike_true {x y : En} (h : x ≠ y) : unlike x.k x.j x.v x.t x.c y.k y.j y.v y.t y.c = true := by
  cases hu : unlike x.k x.j x.v x.t x.c y.k y.j y.v y.t y.c with
  | true => rfl
  | false =>
    obtain ⟨h1, h2, h3, h4, h5⟩ := unlike_false hu
    exact absurd (by cases x; cases y; simp_all) h

end Go.Proofs.YtnmapehbcccbhadDoor
