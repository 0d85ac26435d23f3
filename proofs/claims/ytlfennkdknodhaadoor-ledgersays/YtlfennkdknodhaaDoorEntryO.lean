/- The walk of the law EntryBack. -/
import Derived.Test.YtlfennkdknodhaaDoorEntryN
namespace Go.Proofs.YtlfennkdknodhaaDoor
open Go.RowKit

/-- Two entries that came in, boxed, and all that was there before. -/
structure Keep (w : World) (x y : En) (W : World) : Prop where
  below : Below w.heap.size w W
  hx : W.heap[w.heap.size]? = some (boxE x.k x.j x.v x.t x.c)
  hy : W.heap[w.heap.size + 1]? = some (boxE y.k y.j y.v y.t y.c)

theorem Keep.first (w : World) (x y : En) : Keep w x y ((w.alloc (boxE x.k x.j x.v x.t x.c)).alloc (boxE y.k y.j y.v y.t y.c)) where
  below := grew (grew (Below.refl _ _) _) _
  hx := heap_old (heap_new _ _) _
  hy := by
    have := heap_new (w.alloc (boxE x.k x.j x.v x.t x.c)) (boxE y.k y.j y.v y.t y.c)
    rwa [World.size_alloc] at this

theorem Keep.later {w W W' : World} {x y : En} (h : Keep w x y W) (hb : Below W.heap.size W W') : Keep w x y W' :=
  ⟨h.below.trans (hb.mono h.below.size), heap_below h.hx hb (heap_lt h.hx), heap_below h.hy hb (heap_lt h.hy)⟩

theorem Keep.cx {w W : World} {x y : En} (h : Keep w x y W) (i : Nat) : W.cell? ⟨w.heap.size, i, none⟩ = #[Value.int .i64 x.k, .int .i64 x.j, .int .i64 x.v, .int .i64 x.t, .int .i64 x.c][i]? := Joins.cell_of_block h.hx i
theorem Keep.cy {w W : World} {x y : En} (h : Keep w x y W) (i : Nat) : W.cell? ⟨w.heap.size + 1, i, none⟩ = #[Value.int .i64 y.k, .int .i64 y.j, .int .i64 y.v, .int .i64 y.t, .int .i64 y.c][i]? := Joins.cell_of_block h.hy i
theorem Keep.lt {w W : World} {x y : En} (h : Keep w x y W) : w.heap.size + 1 < W.heap.size := heap_lt h.hy

theorem unlike_self (k j v t c : Int) : unlike k j v t c k j v t c = false := by simp [unlike]

theorem unlike_true {x y : En} (h : x ≠ y) : unlike x.k x.j x.v x.t x.c y.k y.j y.v y.t y.c = true := by
  cases hu : unlike x.k x.j x.v x.t x.c y.k y.j y.v y.t y.c with
  | true => rfl
  | false =>
    obtain ⟨h1, h2, h3, h4, h5⟩ := unlike_false hu
    exact absurd (by cases x; cases y; simp_all) h

set_option maxHeartbeats 1000000 in
theorem backAN (x y : En) (s : ByteArray) (w : World) (hL : Laid w) (hx : (x.chk == 0) = false) (hs : ((prs s.data.toList).2 != 0) = true) :
    Calls Tryd.prog 4 #[x.val, y.val, .string s] w fun e w' => e = .returned (.bool true) ∧ Below w.heap.size w w' := by
  have hps := fun W hW => parse_any s W hW
  generalize (prs s.data.toList).2 = cs at hs hps
  generalize (prs s.data.toList).1 = z at hps
  have hpx := fun W hW => print_any x W hW
  have hpy := fun W hW => print_any y W hW
  generalize x.chk = cx at hx hpx
  generalize y.chk = cy at hpy
  generalize x.ptx = px at hpx
  generalize y.ptx = py at hpy
  have K0 := Keep.first w x y
  go_enter Tryd.func4, Tryd.ntmps4
  go_wp2_with fail
  refine (hpx _ (hL.later K0.below)).mono ?_
  rintro e w1 ⟨rfl, hb1⟩
  have K1 := K0.later hb1
  clear hb1 K0
  have c1 := K1.cy
  go_wp2_with fail
  refine (hpy _ (hL.later K1.below)).mono ?_
  rintro e w2 ⟨rfl, hb2⟩
  have K2 := K1.later hb2
  clear hb2 K1 c1
  go_wp2_with fail
  refine (worded_any _ (hL.later K2.below)).mono ?_
  rintro e w3 ⟨rfl, hb3⟩
  have K3 := K2.later hb3
  clear hb3 K2
  have cx3 := K3.cx
  have cy3 := K3.cy
  go_wp2_with fail
  clear cx3 cy3
  refine (hps _ (hL.later K3.below)).mono ?_
  rintro e w5 ⟨rfl, hb5⟩
  have B5 : Below w.heap.size w w5 := (K3.later hb5).below
  clear hb5 K3
  go_wp2
  go_ret
  exact ⟨rfl, grew B5 _⟩

set_option maxHeartbeats 1000000 in
theorem backAS (x y : En) (s : ByteArray) (w : World) (hL : Laid w) (hx : (x.chk == 0) = false) (hs : (prs s.data.toList).2 = 0) :
    Calls Tryd.prog 4 #[x.val, y.val, .string s] w fun e w' => e = .returned (.bool true) ∧ Below w.heap.size w w' := by
  have hps := fun W hW => parse_any s W hW
  have hz := txt_prs hs
  have hpz := fun W hW => print_any (prs s.data.toList).1 W hW
  rw [En.ptx, if_pos hz.1, hz.1, hz.2] at hpz
  rw [hs] at hps
  clear hs hz
  generalize (prs s.data.toList).1 = z at hps hpz
  have hpx := fun W hW => print_any x W hW
  have hpy := fun W hW => print_any y W hW
  generalize x.chk = cx at hx hpx
  generalize y.chk = cy at hpy
  generalize x.ptx = px at hpx
  generalize y.ptx = py at hpy
  have K0 := Keep.first w x y
  go_enter Tryd.func4, Tryd.ntmps4
  go_wp2_with fail
  refine (hpx _ (hL.later K0.below)).mono ?_
  rintro e w1 ⟨rfl, hb1⟩
  have K1 := K0.later hb1
  clear hb1 K0
  have c1 := K1.cy
  go_wp2_with fail
  refine (hpy _ (hL.later K1.below)).mono ?_
  rintro e w2 ⟨rfl, hb2⟩
  have K2 := K1.later hb2
  clear hb2 K1 c1
  go_wp2_with fail
  refine (worded_any _ (hL.later K2.below)).mono ?_
  rintro e w3 ⟨rfl, hb3⟩
  have K3 := K2.later hb3
  clear hb3 K2
  have cx3 := K3.cx
  have cy3 := K3.cy
  go_wp2_with fail
  clear cx3 cy3
  refine (hps _ (hL.later K3.below)).mono ?_
  rintro e w5 ⟨rfl, hb5⟩
  have B5 : Below w.heap.size w w5 := (K3.later hb5).below
  clear hb5 K3
  go_wp2_with fail
  refine (hpz _ (hL.later (grew B5 _))).mono ?_
  rintro e w6 ⟨rfl, hb6⟩
  have B6 : Below w.heap.size w w6 := (grew B5 _).trans (hb6.mono (by simp; exact Nat.le_succ_of_le B5.size))
  clear hb6 B5
  go_wp2
  go_ret
  exact ⟨rfl, B6⟩

set_option maxHeartbeats 1000000 in
theorem backBN (x y : En) (s : ByteArray) (w : World) (hL : Laid w) (hx : x.chk = 0) (hy : (y.chk == 0) = false) (hs : ((prs s.data.toList).2 != 0) = true) :
    Calls Tryd.prog 4 #[x.val, y.val, .string s] w fun e w' => e = .returned (.bool true) ∧ Below w.heap.size w w' := by
  have hps := fun W hW => parse_any s W hW
  generalize (prs s.data.toList).2 = cs at hs hps
  generalize (prs s.data.toList).1 = z at hps
  have hpx := fun W hW => print_any x W hW
  have hpy := fun W hW => print_any y W hW
  have hpt := fun W hW => parse_any ⟨x.txt.toArray⟩ W hW
  rw [show prs (⟨x.txt.toArray⟩ : ByteArray).data.toList = (x, 0) from prs_txt hx] at hpt
  rw [En.ptx, if_pos hx, hx] at hpx
  clear hx
  have hxx := fun W => neq_entry x.k x.j x.v x.t x.c x.k x.j x.v x.t x.c W
  rw [unlike_self] at hxx
  generalize y.chk = cy at hy hpy
  generalize x.txt = px at hpx hpt
  generalize y.ptx = py at hpy
  have K0 := Keep.first w x y
  go_enter Tryd.func4, Tryd.ntmps4
  go_wp2_with fail
  refine (hpx _ (hL.later K0.below)).mono ?_
  rintro e w1 ⟨rfl, hb1⟩
  have K1 := K0.later hb1
  clear hb1 K0
  have c1 := K1.cy
  go_wp2_with fail
  refine (hpy _ (hL.later K1.below)).mono ?_
  rintro e w2 ⟨rfl, hb2⟩
  have K2 := K1.later hb2
  clear hb2 K1 c1
  go_wp2_with fail
  refine (worded_any _ (hL.later K2.below)).mono ?_
  rintro e w3 ⟨rfl, hb3⟩
  have K3 := K2.later hb3
  clear hb3 K2
  have cx3 := K3.cx
  have cy3 := K3.cy
  go_wp2_with fail
  clear cx3 cy3
  refine (hpt _ (hL.later K3.below)).mono ?_
  rintro e w4 ⟨rfl, hb4⟩
  have K4 := K3.later hb4
  clear hb4 K3
  have cx4 := K4.cx
  have lt4 : w.heap.size < w4.heap.size := Nat.lt_trans (Nat.lt_succ_self _) K4.lt
  go_wp2_with fail
  clear cx4 lt4
  refine (hps _ (hL.later (grew K4.below _))).mono ?_
  rintro e w5 ⟨rfl, hb5⟩
  have B5 : Below w.heap.size w w5 := (grew K4.below _).trans (hb5.mono (by simp; exact Nat.le_succ_of_le K4.below.size))
  clear hb5 K4
  go_wp2
  go_ret
  exact ⟨rfl, grew B5 _⟩

set_option maxHeartbeats 1000000 in
theorem backBS (x y : En) (s : ByteArray) (w : World) (hL : Laid w) (hx : x.chk = 0) (hy : (y.chk == 0) = false) (hs : (prs s.data.toList).2 = 0) :
    Calls Tryd.prog 4 #[x.val, y.val, .string s] w fun e w' => e = .returned (.bool true) ∧ Below w.heap.size w w' := by
  have hps := fun W hW => parse_any s W hW
  have hz := txt_prs hs
  have hpz := fun W hW => print_any (prs s.data.toList).1 W hW
  rw [En.ptx, if_pos hz.1, hz.1, hz.2] at hpz
  rw [hs] at hps
  clear hs hz
  generalize (prs s.data.toList).1 = z at hps hpz
  have hpx := fun W hW => print_any x W hW
  have hpy := fun W hW => print_any y W hW
  have hpt := fun W hW => parse_any ⟨x.txt.toArray⟩ W hW
  rw [show prs (⟨x.txt.toArray⟩ : ByteArray).data.toList = (x, 0) from prs_txt hx] at hpt
  rw [En.ptx, if_pos hx, hx] at hpx
  clear hx
  have hxx := fun W => neq_entry x.k x.j x.v x.t x.c x.k x.j x.v x.t x.c W
  rw [unlike_self] at hxx
  generalize y.chk = cy at hy hpy
  generalize x.txt = px at hpx hpt
  generalize y.ptx = py at hpy
  have K0 := Keep.first w x y
  go_enter Tryd.func4, Tryd.ntmps4
  go_wp2_with fail
  refine (hpx _ (hL.later K0.below)).mono ?_
  rintro e w1 ⟨rfl, hb1⟩
  have K1 := K0.later hb1
  clear hb1 K0
  have c1 := K1.cy
  go_wp2_with fail
  refine (hpy _ (hL.later K1.below)).mono ?_
  rintro e w2 ⟨rfl, hb2⟩
  have K2 := K1.later hb2
  clear hb2 K1 c1
  go_wp2_with fail
  refine (worded_any _ (hL.later K2.below)).mono ?_
  rintro e w3 ⟨rfl, hb3⟩
  have K3 := K2.later hb3
  clear hb3 K2
  have cx3 := K3.cx
  have cy3 := K3.cy
  go_wp2_with fail
  clear cx3 cy3
  refine (hpt _ (hL.later K3.below)).mono ?_
  rintro e w4 ⟨rfl, hb4⟩
  have K4 := K3.later hb4
  clear hb4 K3
  have cx4 := K4.cx
  have lt4 : w.heap.size < w4.heap.size := Nat.lt_trans (Nat.lt_succ_self _) K4.lt
  go_wp2_with fail
  clear cx4 lt4
  refine (hps _ (hL.later (grew K4.below _))).mono ?_
  rintro e w5 ⟨rfl, hb5⟩
  have B5 : Below w.heap.size w w5 := (grew K4.below _).trans (hb5.mono (by simp; exact Nat.le_succ_of_le K4.below.size))
  clear hb5 K4
  go_wp2_with fail
  refine (hpz _ (hL.later (grew B5 _))).mono ?_
  rintro e w6 ⟨rfl, hb6⟩
  have B6 : Below w.heap.size w w6 := (grew B5 _).trans (hb6.mono (by simp; exact Nat.le_succ_of_le B5.size))
  clear hb6 B5
  go_wp2
  go_ret
  exact ⟨rfl, B6⟩

set_option maxHeartbeats 1000000 in
theorem backCN (x y : En) (s : ByteArray) (w : World) (hL : Laid w) (hx : x.chk = 0) (hxy : x = y) (hs : ((prs s.data.toList).2 != 0) = true) :
    Calls Tryd.prog 4 #[x.val, y.val, .string s] w fun e w' => e = .returned (.bool true) ∧ Below w.heap.size w w' := by
  have hps := fun W hW => parse_any s W hW
  generalize (prs s.data.toList).2 = cs at hs hps
  generalize (prs s.data.toList).1 = z at hps
  subst hxy
  have hpx := fun W hW => print_any x W hW
  have hpt := fun W hW => parse_any ⟨x.txt.toArray⟩ W hW
  rw [show prs (⟨x.txt.toArray⟩ : ByteArray).data.toList = (x, 0) from prs_txt hx] at hpt
  rw [En.ptx, if_pos hx, hx] at hpx
  clear hx
  have hpy := hpx
  have hxx := fun W => neq_entry x.k x.j x.v x.t x.c x.k x.j x.v x.t x.c W
  rw [unlike_self] at hxx
  have heq := fun W => eql_entry x.k x.j x.v x.t x.c x.k x.j x.v x.t x.c W
  rw [unlike_self] at heq
  generalize x.txt = px at hpx hpt hpy
  have K0 := Keep.first w x x
  go_enter Tryd.func4, Tryd.ntmps4
  go_wp2_with fail
  refine (hpx _ (hL.later K0.below)).mono ?_
  rintro e w1 ⟨rfl, hb1⟩
  have K1 := K0.later hb1
  clear hb1 K0
  have c1 := K1.cy
  go_wp2_with fail
  refine (hpy _ (hL.later K1.below)).mono ?_
  rintro e w2 ⟨rfl, hb2⟩
  have K2 := K1.later hb2
  clear hb2 K1 c1
  go_wp2_with fail
  refine (worded_any _ (hL.later K2.below)).mono ?_
  rintro e w3 ⟨rfl, hb3⟩
  have K3 := K2.later hb3
  clear hb3 K2
  have cx3 := K3.cx
  have cy3 := K3.cy
  go_wp2_with fail
  clear cx3 cy3
  refine (hpt _ (hL.later K3.below)).mono ?_
  rintro e w4 ⟨rfl, hb4⟩
  have K4 := K3.later hb4
  clear hb4 K3
  have cx4 := K4.cx
  have lt4 : w.heap.size < w4.heap.size := Nat.lt_trans (Nat.lt_succ_self _) K4.lt
  go_wp2_with fail
  clear cx4 lt4
  refine (hps _ (hL.later (grew K4.below _))).mono ?_
  rintro e w5 ⟨rfl, hb5⟩
  have B5 : Below w.heap.size w w5 := (grew K4.below _).trans (hb5.mono (by simp; exact Nat.le_succ_of_le K4.below.size))
  clear hb5 K4
  go_wp2
  go_ret
  exact ⟨rfl, grew B5 _⟩

set_option maxHeartbeats 1000000 in
theorem backCS (x y : En) (s : ByteArray) (w : World) (hL : Laid w) (hx : x.chk = 0) (hxy : x = y) (hs : (prs s.data.toList).2 = 0) :
    Calls Tryd.prog 4 #[x.val, y.val, .string s] w fun e w' => e = .returned (.bool true) ∧ Below w.heap.size w w' := by
  have hps := fun W hW => parse_any s W hW
  have hz := txt_prs hs
  have hpz := fun W hW => print_any (prs s.data.toList).1 W hW
  rw [En.ptx, if_pos hz.1, hz.1, hz.2] at hpz
  rw [hs] at hps
  clear hs hz
  generalize (prs s.data.toList).1 = z at hps hpz
  subst hxy
  have hpx := fun W hW => print_any x W hW
  have hpt := fun W hW => parse_any ⟨x.txt.toArray⟩ W hW
  rw [show prs (⟨x.txt.toArray⟩ : ByteArray).data.toList = (x, 0) from prs_txt hx] at hpt
  rw [En.ptx, if_pos hx, hx] at hpx
  clear hx
  have hpy := hpx
  have hxx := fun W => neq_entry x.k x.j x.v x.t x.c x.k x.j x.v x.t x.c W
  rw [unlike_self] at hxx
  have heq := fun W => eql_entry x.k x.j x.v x.t x.c x.k x.j x.v x.t x.c W
  rw [unlike_self] at heq
  generalize x.txt = px at hpx hpt hpy
  have K0 := Keep.first w x x
  go_enter Tryd.func4, Tryd.ntmps4
  go_wp2_with fail
  refine (hpx _ (hL.later K0.below)).mono ?_
  rintro e w1 ⟨rfl, hb1⟩
  have K1 := K0.later hb1
  clear hb1 K0
  have c1 := K1.cy
  go_wp2_with fail
  refine (hpy _ (hL.later K1.below)).mono ?_
  rintro e w2 ⟨rfl, hb2⟩
  have K2 := K1.later hb2
  clear hb2 K1 c1
  go_wp2_with fail
  refine (worded_any _ (hL.later K2.below)).mono ?_
  rintro e w3 ⟨rfl, hb3⟩
  have K3 := K2.later hb3
  clear hb3 K2
  have cx3 := K3.cx
  have cy3 := K3.cy
  go_wp2_with fail
  clear cx3 cy3
  refine (hpt _ (hL.later K3.below)).mono ?_
  rintro e w4 ⟨rfl, hb4⟩
  have K4 := K3.later hb4
  clear hb4 K3
  have cx4 := K4.cx
  have lt4 : w.heap.size < w4.heap.size := Nat.lt_trans (Nat.lt_succ_self _) K4.lt
  go_wp2_with fail
  clear cx4 lt4
  refine (hps _ (hL.later (grew K4.below _))).mono ?_
  rintro e w5 ⟨rfl, hb5⟩
  have B5 : Below w.heap.size w w5 := (grew K4.below _).trans (hb5.mono (by simp; exact Nat.le_succ_of_le K4.below.size))
  clear hb5 K4
  go_wp2_with fail
  refine (hpz _ (hL.later (grew B5 _))).mono ?_
  rintro e w6 ⟨rfl, hb6⟩
  have B6 : Below w.heap.size w w6 := (grew B5 _).trans (hb6.mono (by simp; exact Nat.le_succ_of_le B5.size))
  clear hb6 B5
  go_wp2
  go_ret
  exact ⟨rfl, B6⟩

set_option maxHeartbeats 1000000 in
theorem backDN (x y : En) (s : ByteArray) (w : World) (hL : Laid w) (hx : x.chk = 0) (hy : y.chk = 0) (hxy : x ≠ y) (hs : ((prs s.data.toList).2 != 0) = true) :
    Calls Tryd.prog 4 #[x.val, y.val, .string s] w fun e w' => e = .returned (.bool true) ∧ Below w.heap.size w w' := by
  have hps := fun W hW => parse_any s W hW
  generalize (prs s.data.toList).2 = cs at hs hps
  generalize (prs s.data.toList).1 = z at hps
  have hne : (x.txt == y.txt) = false := by
    rw [beq_eq_false_iff_ne]
    intro e
    have h1 := prs_txt hx
    rw [e, prs_txt hy] at h1
    exact hxy (congrArg Prod.fst h1).symm
  have hpx := fun W hW => print_any x W hW
  have hpy := fun W hW => print_any y W hW
  have hpt := fun W hW => parse_any ⟨x.txt.toArray⟩ W hW
  rw [show prs (⟨x.txt.toArray⟩ : ByteArray).data.toList = (x, 0) from prs_txt hx] at hpt
  rw [En.ptx, if_pos hx, hx] at hpx
  rw [En.ptx, if_pos hy, hy] at hpy
  clear hx hy
  have hxx := fun W => neq_entry x.k x.j x.v x.t x.c x.k x.j x.v x.t x.c W
  rw [unlike_self] at hxx
  have heq := fun W => eql_entry x.k x.j x.v x.t x.c y.k y.j y.v y.t y.c W
  rw [unlike_true hxy] at heq
  clear hxy
  generalize x.txt = px at hpx hpt hne
  generalize y.txt = py at hpy hne
  have K0 := Keep.first w x y
  go_enter Tryd.func4, Tryd.ntmps4
  go_wp2_with fail
  refine (hpx _ (hL.later K0.below)).mono ?_
  rintro e w1 ⟨rfl, hb1⟩
  have K1 := K0.later hb1
  clear hb1 K0
  have c1 := K1.cy
  go_wp2_with fail
  refine (hpy _ (hL.later K1.below)).mono ?_
  rintro e w2 ⟨rfl, hb2⟩
  have K2 := K1.later hb2
  clear hb2 K1 c1
  go_wp2_with fail
  refine (worded_any _ (hL.later K2.below)).mono ?_
  rintro e w3 ⟨rfl, hb3⟩
  have K3 := K2.later hb3
  clear hb3 K2
  have cx3 := K3.cx
  have cy3 := K3.cy
  go_wp2_with fail
  clear cx3 cy3
  refine (hpt _ (hL.later K3.below)).mono ?_
  rintro e w4 ⟨rfl, hb4⟩
  have K4 := K3.later hb4
  clear hb4 K3
  have cx4 := K4.cx
  have lt4 : w.heap.size < w4.heap.size := Nat.lt_trans (Nat.lt_succ_self _) K4.lt
  go_wp2_with fail
  clear cx4 lt4
  refine (hps _ (hL.later (grew K4.below _))).mono ?_
  rintro e w5 ⟨rfl, hb5⟩
  have B5 : Below w.heap.size w w5 := (grew K4.below _).trans (hb5.mono (by simp; exact Nat.le_succ_of_le K4.below.size))
  clear hb5 K4
  go_wp2
  go_ret
  exact ⟨rfl, grew B5 _⟩

set_option maxHeartbeats 1000000 in
theorem backDS (x y : En) (s : ByteArray) (w : World) (hL : Laid w) (hx : x.chk = 0) (hy : y.chk = 0) (hxy : x ≠ y) (hs : (prs s.data.toList).2 = 0) :
    Calls Tryd.prog 4 #[x.val, y.val, .string s] w fun e w' => e = .returned (.bool true) ∧ Below w.heap.size w w' := by
  have hps := fun W hW => parse_any s W hW
  have hz := txt_prs hs
  have hpz := fun W hW => print_any (prs s.data.toList).1 W hW
  rw [En.ptx, if_pos hz.1, hz.1, hz.2] at hpz
  rw [hs] at hps
  clear hs hz
  generalize (prs s.data.toList).1 = z at hps hpz
  have hne : (x.txt == y.txt) = false := by
    rw [beq_eq_false_iff_ne]
    intro e
    have h1 := prs_txt hx
    rw [e, prs_txt hy] at h1
    exact hxy (congrArg Prod.fst h1).symm
  have hpx := fun W hW => print_any x W hW
  have hpy := fun W hW => print_any y W hW
  have hpt := fun W hW => parse_any ⟨x.txt.toArray⟩ W hW
  rw [show prs (⟨x.txt.toArray⟩ : ByteArray).data.toList = (x, 0) from prs_txt hx] at hpt
  rw [En.ptx, if_pos hx, hx] at hpx
  rw [En.ptx, if_pos hy, hy] at hpy
  clear hx hy
  have hxx := fun W => neq_entry x.k x.j x.v x.t x.c x.k x.j x.v x.t x.c W
  rw [unlike_self] at hxx
  have heq := fun W => eql_entry x.k x.j x.v x.t x.c y.k y.j y.v y.t y.c W
  rw [unlike_true hxy] at heq
  clear hxy
  generalize x.txt = px at hpx hpt hne
  generalize y.txt = py at hpy hne
  have K0 := Keep.first w x y
  go_enter Tryd.func4, Tryd.ntmps4
  go_wp2_with fail
  refine (hpx _ (hL.later K0.below)).mono ?_
  rintro e w1 ⟨rfl, hb1⟩
  have K1 := K0.later hb1
  clear hb1 K0
  have c1 := K1.cy
  go_wp2_with fail
  refine (hpy _ (hL.later K1.below)).mono ?_
  rintro e w2 ⟨rfl, hb2⟩
  have K2 := K1.later hb2
  clear hb2 K1 c1
  go_wp2_with fail
  refine (worded_any _ (hL.later K2.below)).mono ?_
  rintro e w3 ⟨rfl, hb3⟩
  have K3 := K2.later hb3
  clear hb3 K2
  have cx3 := K3.cx
  have cy3 := K3.cy
  go_wp2_with fail
  clear cx3 cy3
  refine (hpt _ (hL.later K3.below)).mono ?_
  rintro e w4 ⟨rfl, hb4⟩
  have K4 := K3.later hb4
  clear hb4 K3
  have cx4 := K4.cx
  have lt4 : w.heap.size < w4.heap.size := Nat.lt_trans (Nat.lt_succ_self _) K4.lt
  go_wp2_with fail
  clear cx4 lt4
  refine (hps _ (hL.later (grew K4.below _))).mono ?_
  rintro e w5 ⟨rfl, hb5⟩
  have B5 : Below w.heap.size w w5 := (grew K4.below _).trans (hb5.mono (by simp; exact Nat.le_succ_of_le K4.below.size))
  clear hb5 K4
  go_wp2_with fail
  refine (hpz _ (hL.later (grew B5 _))).mono ?_
  rintro e w6 ⟨rfl, hb6⟩
  have B6 : Below w.heap.size w w6 := (grew B5 _).trans (hb6.mono (by simp; exact Nat.le_succ_of_le B5.size))
  clear hb6 B5
  go_wp2
  go_ret
  exact ⟨rfl, B6⟩

/-- The law EntryBack, at every input: true. -/
theorem back_any (x y : En) (s : ByteArray) (w : World) (hL : Laid w) :
    Calls Tryd.prog 4 #[x.val, y.val, .string s] w fun e w' => e = .returned (.bool true) ∧ Below w.heap.size w w' := by
  by_cases hs : (prs s.data.toList).2 = 0
  · by_cases hx : x.chk = 0
    · by_cases hxy : x = y
      · exact backCS x y s w hL hx hxy hs
      · by_cases hy : y.chk = 0
        · exact backDS x y s w hL hx hy hxy hs
        · exact backBS x y s w hL hx (by rw [beq_eq_false_iff_ne]; exact hy) hs
    · exact backAS x y s w hL (by rw [beq_eq_false_iff_ne]; exact hx) hs
  · have hs : ((prs s.data.toList).2 != 0) = true := by rw [bne_iff_ne]; exact hs
    by_cases hx : x.chk = 0
    · by_cases hxy : x = y
      · exact backCN x y s w hL hx hxy hs
      · by_cases hy : y.chk = 0
        · exact backDN x y s w hL hx hy hxy hs
        · exact backBN x y s w hL hx (by rw [beq_eq_false_iff_ne]; exact hy) hs
    · exact backAN x y s w hL (by rw [beq_eq_false_iff_ne]; exact hx) hs

end Go.Proofs.YtlfennkdknodhaaDoor
