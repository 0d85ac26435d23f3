/- The walk of the law EntrySays. -/
import Derived.Test.YtfkjnkcabfffkaaDoorRefE
import Derived.Test.YtfkjnkcabfffkaaDoorEntryN
namespace Go.Proofs.YtfkjnkcabfffkaaDoor
open Go.RowKit

/-- An entry that came in, boxed, and all that was there before. -/
structure Kept (w : World) (x : En) (W : World) : Prop where
  below : Below w.heap.size w W
  hx : W.heap[w.heap.size]? = some (boxE x.k x.j x.v x.t x.c)

theorem Kept.first (w : World) (x : En) : Kept w x (w.alloc (boxE x.k x.j x.v x.t x.c)) := ⟨grew (Below.refl _ _) _, heap_new _ _⟩
theorem Kept.later {w W W' : World} {x : En} (h : Kept w x W) (hb : Below W.heap.size W W') : Kept w x W' := ⟨h.below.trans (hb.mono h.below.size), heap_below h.hx hb (heap_lt h.hx)⟩
theorem Kept.alloc {w W : World} {x : En} (h : Kept w x W) (o : Obj) : Kept w x (W.alloc o) := ⟨grew h.below _, heap_old h.hx _⟩
theorem Kept.cx {w W : World} {x : En} (h : Kept w x W) (i : Nat) : W.cell? ⟨w.heap.size, i, none⟩ = #[Value.int .i64 x.k, .int .i64 x.j, .int .i64 x.v, .int .i64 x.t, .int .i64 x.c][i]? := Joins.cell_of_block h.hx i
theorem Kept.lt {w W : World} {x : En} (h : Kept w x W) : w.heap.size < W.heap.size := heap_lt h.hx

theorem unlike_same (y : En) (W : World) : (binOp .eql 23 (ev y.k y.j y.v y.t y.c) (ev y.k y.j y.v y.t y.c)).run Tryd.prog W = .ok (.bool true) W := by
  have := eql_entry y.k y.j y.v y.t y.c y.k y.j y.v y.t y.c W
  rw [show unlike y.k y.j y.v y.t y.c y.k y.j y.v y.t y.c = false by simp [unlike]] at this
  exact this

set_option maxHeartbeats 1000000 in
theorem saysKL (x : En) (s : ByteArray) (w : World) (hL : Laid w) (hx : x.chk = 0) (hs : 30000 < (s.size : Int)) :
    Calls Tryd.prog 3 #[x.val, .string s] w fun e w' => e = .returned (.bool true) ∧ Below w.heap.size w w' := by
  have hps := fun W hW => parse_any s W hW
  rw [show prs s.data.toList = (En.zero, 2) from if_pos (by rw [← Lib.size_eq]; omega)] at hps
  have heq : ∀ W, (binOp .eql 23 (ev 0 0 0 0 0) (ev 0 0 0 0 0)).run Tryd.prog W = .ok (.bool true) W := fun W => unlike_same En.zero W
  have hpx := fun W hW => print_any x W hW
  rw [En.ptx, if_pos hx, hx] at hpx
  have htx := fun W hW => ref_text x W hW hx
  have hc1 : ∀ W, Calls Tryd.prog 7 #[ev x.k x.j x.v x.t x.c] W fun e w' => e = .returned (.int .i64 0) ∧ Below W.heap.size W w' := fun W => by have := ref_check x.k x.j x.v x.t x.c W; rw [show chk x.k x.j x.v x.t x.c = 0 from hx] at this; exact this
  have hc2 : ∀ W, Calls Tryd.prog 10 #[ev x.k x.j x.v x.t x.c] W fun e w' => e = .returned (.int .i64 0) ∧ Below W.heap.size W w' := fun W => by have := check_any x.k x.j x.v x.t x.c W; rw [show chk x.k x.j x.v x.t x.c = 0 from hx] at this; exact this
  clear hx
  generalize x.txt = px at *
  have K0 := Kept.first w x
  go_enter Tryd.func3, Tryd.ntmps3
  go_wp2_with fail
  refine (hpx _ (hL.later K0.below)).mono ?_
  rintro e w1 ⟨rfl, hb1⟩
  have K1 := K0.later hb1
  clear hb1 K0 hpx
  go_wp2_with fail
  refine (hps _ (hL.later K1.below)).mono ?_
  rintro e w2 ⟨rfl, hb2⟩
  have K2 := K1.later hb2
  clear hb2 K1 hps
  have c2 := K2.cx
  have lt2 := K2.lt
  go_wp2_with fail
  clear c2
  refine (hc1 _).mono ?_
  rintro e w3 ⟨rfl, hb3⟩
  have Y3 : w3.heap[w2.heap.size]? = some (boxE 0 0 0 0 0) := by rw [hb3.block _ (by simp)]; exact heap_new _ _
  have K3 := (K2.alloc (boxE 0 0 0 0 0)).later hb3
  have lty : w.heap.size < w2.heap.size := lt2
  clear hb3 K2 hc1 lt2
  generalize w2.heap.size = yb at *
  have c3 := K3.cx
  go_wp2_with fail
  clear c3
  refine (htx _ (hL.later K3.below)).mono ?_
  rintro e w4 ⟨rfl, hb4⟩
  have K4 := K3.later hb4
  have Y4 := heap_below Y3 hb4 (heap_lt Y3)
  clear hb4 K3 Y3 htx
  go_wp2_with fail
  refine (worded_any _ (hL.later K4.below)).mono ?_
  rintro e w5 ⟨rfl, hb5⟩
  have K5 := K4.later hb5
  have Y5 := heap_below Y4 hb5 (heap_lt Y4)
  clear hb5 K4 Y4
  have c5 := K5.cx
  go_wp2_with fail
  clear c5
  refine (hc2 _).mono ?_
  rintro e w6 ⟨rfl, hb6⟩
  have K6 := K5.later hb6
  have Y6 := heap_below Y5 hb6 (heap_lt Y5)
  clear hb6 K5 Y5 hc2
  have c6 : ∀ i, w6.cell? ⟨yb, i, none⟩ = #[Value.int .i64 0, .int .i64 0, .int .i64 0, .int .i64 0, .int .i64 0][i]? := fun i => Joins.cell_of_block Y6 i
  go_wp2
  go_ret
  exact ⟨rfl, K6.below⟩

set_option maxHeartbeats 1000000 in
theorem saysKS (x : En) (l : List UInt8) (w : World) (hL : Laid w) (hx : x.chk = 0) (hs : l.length ≤ 30000) :
    Calls Tryd.prog 3 #[x.val, .string ⟨l.toArray⟩] w fun e w' => e = .returned (.bool true) ∧ Below w.heap.size w w' := by
  have hps : ∀ W, Laid W → Calls Tryd.prog 6 #[.string ⟨l.toArray⟩] W fun e w' => e = .returned (.tuple #[(prs l).1.val, .int .i64 (prs l).2]) ∧ Below W.heap.size W w' := fun W hW => parse_any ⟨l.toArray⟩ W hW
  have hrr := fun W hW => ref_read l W hW hs
  have heq := fun W => unlike_same (prs l).1 W
  have hls : (l.length : Int) ≤ 30000 := by omega
  generalize (prs l).1 = y at *
  generalize (prs l).2 = f at *
  have hpx := fun W hW => print_any x W hW
  rw [En.ptx, if_pos hx, hx] at hpx
  have htx := fun W hW => ref_text x W hW hx
  have hc1 : ∀ W, Calls Tryd.prog 7 #[ev x.k x.j x.v x.t x.c] W fun e w' => e = .returned (.int .i64 0) ∧ Below W.heap.size W w' := fun W => by have := ref_check x.k x.j x.v x.t x.c W; rw [show chk x.k x.j x.v x.t x.c = 0 from hx] at this; exact this
  have hc2 : ∀ W, Calls Tryd.prog 10 #[ev x.k x.j x.v x.t x.c] W fun e w' => e = .returned (.int .i64 0) ∧ Below W.heap.size W w' := fun W => by have := check_any x.k x.j x.v x.t x.c W; rw [show chk x.k x.j x.v x.t x.c = 0 from hx] at this; exact this
  clear hx
  generalize x.txt = px at *
  have K0 := Kept.first w x
  go_enter Tryd.func3, Tryd.ntmps3
  go_wp2_with fail
  refine (hpx _ (hL.later K0.below)).mono ?_
  rintro e w1 ⟨rfl, hb1⟩
  have K1 := K0.later hb1
  clear hb1 K0 hpx
  go_wp2_with fail
  refine (hps _ (hL.later K1.below)).mono ?_
  rintro e w2 ⟨rfl, hb2⟩
  have K2 := K1.later hb2
  clear hb2 K1 hps
  have c2 := K2.cx
  have lt2 := K2.lt
  go_wp2_with fail
  clear c2
  refine (hc1 _).mono ?_
  rintro e w3 ⟨rfl, hb3⟩
  have Y3 : w3.heap[w2.heap.size]? = some (boxE y.k y.j y.v y.t y.c) := by rw [hb3.block _ (by simp)]; exact heap_new _ _
  have K3 := (K2.alloc (boxE y.k y.j y.v y.t y.c)).later hb3
  have lty : w.heap.size < w2.heap.size := lt2
  clear hb3 K2 hc1 lt2
  generalize w2.heap.size = yb at *
  have c3 := K3.cx
  go_wp2_with fail
  clear c3
  refine (htx _ (hL.later K3.below)).mono ?_
  rintro e w4 ⟨rfl, hb4⟩
  have K4 := K3.later hb4
  have Y4 := heap_below Y3 hb4 (heap_lt Y3)
  clear hb4 K3 Y3 htx
  go_wp2_with fail
  refine (worded_any _ (hL.later K4.below)).mono ?_
  rintro e w5 ⟨rfl, hb5⟩
  have K5 := K4.later hb5
  have Y5 := heap_below Y4 hb5 (heap_lt Y4)
  clear hb5 K4 Y4
  have c5 := K5.cx
  go_wp2_with fail
  clear c5
  refine (hc2 _).mono ?_
  rintro e w6 ⟨rfl, hb6⟩
  have K6 := K5.later hb6
  have Y6 := heap_below Y5 hb6 (heap_lt Y5)
  clear hb6 K5 Y5 hc2
  have c6 : ∀ i, w6.cell? ⟨yb, i, none⟩ = #[Value.int .i64 y.k, .int .i64 y.j, .int .i64 y.v, .int .i64 y.t, .int .i64 y.c][i]? := fun i => Joins.cell_of_block Y6 i
  go_wp2_with fail
  clear c6
  refine (hrr _ (hL.later K6.below)).mono ?_
  rintro e w7 ⟨rfl, hb7⟩
  have K7 := K6.later hb7
  have Y7 := heap_below Y6 hb7 (heap_lt Y6)
  have lt7 := heap_lt Y7
  clear hb7 K6 Y6 hrr
  have c7 : ∀ i, w7.cell? ⟨yb, i, none⟩ = #[Value.int .i64 y.k, .int .i64 y.j, .int .i64 y.v, .int .i64 y.t, .int .i64 y.c][i]? := fun i => Joins.cell_of_block Y7 i
  go_wp2
  go_ret
  exact ⟨rfl, grew K7.below _⟩

set_option maxHeartbeats 1000000 in
theorem saysBL (x : En) (s : ByteArray) (w : World) (hL : Laid w) (hx : (x.chk == 0) = false) (hs : 30000 < (s.size : Int)) :
    Calls Tryd.prog 3 #[x.val, .string s] w fun e w' => e = .returned (.bool true) ∧ Below w.heap.size w w' := by
  have hps := fun W hW => parse_any s W hW
  rw [show prs s.data.toList = (En.zero, 2) from if_pos (by rw [← Lib.size_eq]; omega)] at hps
  have heq : ∀ W, (binOp .eql 23 (ev 0 0 0 0 0) (ev 0 0 0 0 0)).run Tryd.prog W = .ok (.bool true) W := fun W => unlike_same En.zero W
  have hpx := fun W hW => print_any x W hW
  rw [En.ptx, if_neg (by simpa using hx)] at hpx
  have hc1 : ∀ W, Calls Tryd.prog 7 #[ev x.k x.j x.v x.t x.c] W fun e w' => e = .returned (.int .i64 x.chk) ∧ Below W.heap.size W w' := fun W => ref_check x.k x.j x.v x.t x.c W
  have hc2 : ∀ W, Calls Tryd.prog 10 #[ev x.k x.j x.v x.t x.c] W fun e w' => e = .returned (.int .i64 x.chk) ∧ Below W.heap.size W w' := fun W => check_any x.k x.j x.v x.t x.c W
  generalize x.chk = cx at *
  have K0 := Kept.first w x
  go_enter Tryd.func3, Tryd.ntmps3
  go_wp2_with fail
  refine (hpx _ (hL.later K0.below)).mono ?_
  rintro e w1 ⟨rfl, hb1⟩
  have K1 := K0.later hb1
  clear hb1 K0 hpx
  go_wp2_with fail
  refine (hps _ (hL.later K1.below)).mono ?_
  rintro e w2 ⟨rfl, hb2⟩
  have K2 := K1.later hb2
  clear hb2 K1 hps
  have c2 := K2.cx
  have lt2 := K2.lt
  go_wp2_with fail
  clear c2
  refine (hc1 _).mono ?_
  rintro e w3 ⟨rfl, hb3⟩
  have Y3 : w3.heap[w2.heap.size]? = some (boxE 0 0 0 0 0) := by rw [hb3.block _ (by simp)]; exact heap_new _ _
  have K3 := (K2.alloc (boxE 0 0 0 0 0)).later hb3
  have lty : w.heap.size < w2.heap.size := lt2
  clear hb3 K2 hc1 lt2
  generalize w2.heap.size = yb at *
  have c3 := K3.cx
  go_wp2_with fail
  clear c3
  have K4 := K3
  have Y4 := Y3
  clear K3 Y3
  refine (worded_any _ (hL.later K4.below)).mono ?_
  rintro e w5 ⟨rfl, hb5⟩
  have K5 := K4.later hb5
  have Y5 := heap_below Y4 hb5 (heap_lt Y4)
  clear hb5 K4 Y4
  have c5 := K5.cx
  go_wp2_with fail
  clear c5
  refine (hc2 _).mono ?_
  rintro e w6 ⟨rfl, hb6⟩
  have K6 := K5.later hb6
  have Y6 := heap_below Y5 hb6 (heap_lt Y5)
  clear hb6 K5 Y5 hc2
  have c6 : ∀ i, w6.cell? ⟨yb, i, none⟩ = #[Value.int .i64 0, .int .i64 0, .int .i64 0, .int .i64 0, .int .i64 0][i]? := fun i => Joins.cell_of_block Y6 i
  go_wp2
  go_ret
  exact ⟨rfl, K6.below⟩

set_option maxHeartbeats 1000000 in
theorem saysBS (x : En) (l : List UInt8) (w : World) (hL : Laid w) (hx : (x.chk == 0) = false) (hs : l.length ≤ 30000) :
    Calls Tryd.prog 3 #[x.val, .string ⟨l.toArray⟩] w fun e w' => e = .returned (.bool true) ∧ Below w.heap.size w w' := by
  have hps : ∀ W, Laid W → Calls Tryd.prog 6 #[.string ⟨l.toArray⟩] W fun e w' => e = .returned (.tuple #[(prs l).1.val, .int .i64 (prs l).2]) ∧ Below W.heap.size W w' := fun W hW => parse_any ⟨l.toArray⟩ W hW
  have hrr := fun W hW => ref_read l W hW hs
  have heq := fun W => unlike_same (prs l).1 W
  have hls : (l.length : Int) ≤ 30000 := by omega
  generalize (prs l).1 = y at *
  generalize (prs l).2 = f at *
  have hpx := fun W hW => print_any x W hW
  rw [En.ptx, if_neg (by simpa using hx)] at hpx
  have hc1 : ∀ W, Calls Tryd.prog 7 #[ev x.k x.j x.v x.t x.c] W fun e w' => e = .returned (.int .i64 x.chk) ∧ Below W.heap.size W w' := fun W => ref_check x.k x.j x.v x.t x.c W
  have hc2 : ∀ W, Calls Tryd.prog 10 #[ev x.k x.j x.v x.t x.c] W fun e w' => e = .returned (.int .i64 x.chk) ∧ Below W.heap.size W w' := fun W => check_any x.k x.j x.v x.t x.c W
  generalize x.chk = cx at *
  have K0 := Kept.first w x
  go_enter Tryd.func3, Tryd.ntmps3
  go_wp2_with fail
  refine (hpx _ (hL.later K0.below)).mono ?_
  rintro e w1 ⟨rfl, hb1⟩
  have K1 := K0.later hb1
  clear hb1 K0 hpx
  go_wp2_with fail
  refine (hps _ (hL.later K1.below)).mono ?_
  rintro e w2 ⟨rfl, hb2⟩
  have K2 := K1.later hb2
  clear hb2 K1 hps
  have c2 := K2.cx
  have lt2 := K2.lt
  go_wp2_with fail
  clear c2
  refine (hc1 _).mono ?_
  rintro e w3 ⟨rfl, hb3⟩
  have Y3 : w3.heap[w2.heap.size]? = some (boxE y.k y.j y.v y.t y.c) := by rw [hb3.block _ (by simp)]; exact heap_new _ _
  have K3 := (K2.alloc (boxE y.k y.j y.v y.t y.c)).later hb3
  have lty : w.heap.size < w2.heap.size := lt2
  clear hb3 K2 hc1 lt2
  generalize w2.heap.size = yb at *
  have c3 := K3.cx
  go_wp2_with fail
  clear c3
  have K4 := K3
  have Y4 := Y3
  clear K3 Y3
  refine (worded_any _ (hL.later K4.below)).mono ?_
  rintro e w5 ⟨rfl, hb5⟩
  have K5 := K4.later hb5
  have Y5 := heap_below Y4 hb5 (heap_lt Y4)
  clear hb5 K4 Y4
  have c5 := K5.cx
  go_wp2_with fail
  clear c5
  refine (hc2 _).mono ?_
  rintro e w6 ⟨rfl, hb6⟩
  have K6 := K5.later hb6
  have Y6 := heap_below Y5 hb6 (heap_lt Y5)
  clear hb6 K5 Y5 hc2
  have c6 : ∀ i, w6.cell? ⟨yb, i, none⟩ = #[Value.int .i64 y.k, .int .i64 y.j, .int .i64 y.v, .int .i64 y.t, .int .i64 y.c][i]? := fun i => Joins.cell_of_block Y6 i
  go_wp2_with fail
  clear c6
  refine (hrr _ (hL.later K6.below)).mono ?_
  rintro e w7 ⟨rfl, hb7⟩
  have K7 := K6.later hb7
  have Y7 := heap_below Y6 hb7 (heap_lt Y6)
  have lt7 := heap_lt Y7
  clear hb7 K6 Y6 hrr
  have c7 : ∀ i, w7.cell? ⟨yb, i, none⟩ = #[Value.int .i64 y.k, .int .i64 y.j, .int .i64 y.v, .int .i64 y.t, .int .i64 y.c][i]? := fun i => Joins.cell_of_block Y7 i
  go_wp2
  go_ret
  exact ⟨rfl, grew K7.below _⟩

/-- The law EntrySays, at every input: true. -/
theorem says_any (x : En) (s : ByteArray) (w : World) (hL : Laid w) :
    Calls Tryd.prog 3 #[x.val, .string s] w fun e w' => e = .returned (.bool true) ∧ Below w.heap.size w w' := by
  by_cases hs : 30000 < (s.size : Int)
  · by_cases hx : x.chk = 0
    · exact saysKL x s w hL hx hs
    · exact saysBL x s w hL (by rw [beq_eq_false_iff_ne]; exact hx) hs
  · have hl : s.data.toList.length ≤ 30000 := by rw [← Lib.size_eq]; omega
    obtain ⟨⟨l⟩⟩ := s
    by_cases hx : x.chk = 0
    · exact saysKS x l w hL hx hl
    · exact saysBS x l w hL (by rw [beq_eq_false_iff_ne]; exact hx) hl

end Go.Proofs.YtfkjnkcabfffkaaDoor
