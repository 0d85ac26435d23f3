/- For the law. -/
import Derived.Test.YtmoaobfmopimlafGreatDoorM11
set_option linter.unusedSimpArgs false
set_option linter.unusedVariables false
set_option maxHeartbeats 16000000
set_option maxRecDepth 100000
namespace Go.Proofs.YtmoaobfmopimlafGreatDoor
open Go Go.ChangeShapes Go.WideShapes Go.ChangeAt Go.RowKit
theorem w_hap10 (x : Hp) (w : World) (B : Nat) (h10 : (x.k == 10) = true) {R : Int → World → Prop} (kc : Calls Tryz.prog 71 #[.pointer (some ⟨B, 0, none⟩), .int .i64 x.n] (w.alloc (boxH x)) fun e w' => ∃ d, e = .returned (.int .i64 d) ∧ R d w') :
  Calls Tryz.prog 24 #[.pointer (some ⟨B, 0, none⟩), x.val] w fun e w' => ∃ d, e = .returned (.int .i64 d) ∧ R d w' := by
 have HX0 : Aside ((w.alloc (boxH x)).heap[w.heap.size]? = some (boxH x)) := heap_new _ _
 go_enter Tryz.func24, Tryz.ntmps24
 go_upto_region 1 with fail
 generalize w.alloc (boxH x) = w1 at *
 have zh := fun i => Joins.cell_of_block HX0.out i
 go_wp2_with fail
 refine kc.mono ?_
 rintro e w2 ⟨d, rfl, hp⟩
 have HF : Aside _ := hp
 clear hp kc zh
 go_wp2
 go_ret
 exact ⟨d, rfl, HF.out⟩
theorem w_hap11 (x : Hp) (w : World) (B : Nat) (h10 : (x.k == 10) = false) (h11 : (x.k == 11) = true) {R : Int → World → Prop} (kc : Calls Tryz.prog 72 #[.pointer (some ⟨B, 0, none⟩), .int .i64 x.n] (w.alloc (boxH x)) fun e w' => ∃ d, e = .returned (.int .i64 d) ∧ R d w') :
  Calls Tryz.prog 24 #[.pointer (some ⟨B, 0, none⟩), x.val] w fun e w' => ∃ d, e = .returned (.int .i64 d) ∧ R d w' := by
 have HX0 : Aside ((w.alloc (boxH x)).heap[w.heap.size]? = some (boxH x)) := heap_new _ _
 go_enter Tryz.func24, Tryz.ntmps24
 go_upto_region 1 with fail
 generalize w.alloc (boxH x) = w1 at *
 have zh := fun i => Joins.cell_of_block HX0.out i
 go_wp2_with fail
 refine kc.mono ?_
 rintro e w2 ⟨d, rfl, hp⟩
 have HF : Aside _ := hp
 clear hp kc zh
 go_wp2
 go_ret
 exact ⟨d, rfl, HF.out⟩
theorem w_hap8 (x : Hp) (w : World) (B : Nat) (h10 : (x.k == 10) = false) (h11 : (x.k == 11) = false) (h8 : (x.k == 8) = true) {R : Int → World → Prop} (kc : Calls Tryz.prog 73 #[.pointer (some ⟨B, 0, none⟩), x.val] (w.alloc (boxH x)) fun e w' => ∃ d, e = .returned (.int .i64 d) ∧ R d w') :
  Calls Tryz.prog 24 #[.pointer (some ⟨B, 0, none⟩), x.val] w fun e w' => ∃ d, e = .returned (.int .i64 d) ∧ R d w' := by
 have HX0 : Aside ((w.alloc (boxH x)).heap[w.heap.size]? = some (boxH x)) := heap_new _ _
 go_enter Tryz.func24, Tryz.ntmps24
 go_upto_region 1 with fail
 generalize w.alloc (boxH x) = w1 at *
 have zh := fun i => Joins.cell_of_block HX0.out i
 go_wp2_with fail
 refine kc.mono ?_
 rintro e w2 ⟨d, rfl, hp⟩
 have HF : Aside _ := hp
 clear hp kc zh
 go_wp2
 go_ret
 exact ⟨d, rfl, HF.out⟩
theorem w_hap9 (x : Hp) (w : World) (B : Nat) (h10 : (x.k == 10) = false) (h11 : (x.k == 11) = false) (h8 : (x.k == 8) = false) (h9 : (x.k == 9) = true) {R : Int → World → Prop} (kc : Calls Tryz.prog 73 #[.pointer (some ⟨B, 0, none⟩), x.val] (w.alloc (boxH x)) fun e w' => ∃ d, e = .returned (.int .i64 d) ∧ R d w') :
  Calls Tryz.prog 24 #[.pointer (some ⟨B, 0, none⟩), x.val] w fun e w' => ∃ d, e = .returned (.int .i64 d) ∧ R d w' := by
 have HX0 : Aside ((w.alloc (boxH x)).heap[w.heap.size]? = some (boxH x)) := heap_new _ _
 go_enter Tryz.func24, Tryz.ntmps24
 go_upto_region 1 with fail
 generalize w.alloc (boxH x) = w1 at *
 have zh := fun i => Joins.cell_of_block HX0.out i
 go_wp2_with fail
 refine kc.mono ?_
 rintro e w2 ⟨d, rfl, hp⟩
 have HF : Aside _ := hp
 clear hp kc zh
 go_wp2
 go_ret
 exact ⟨d, rfl, HF.out⟩
theorem w_hap12 (x : Hp) (w : World) (B : Nat) (h10 : (x.k == 10) = false) (h11 : (x.k == 11) = false) (h8 : (x.k == 8) = false) (h9 : (x.k == 9) = false) (h12 : (x.k == 12) = true) {R : Int → World → Prop} (kc : Calls Tryz.prog 73 #[.pointer (some ⟨B, 0, none⟩), x.val] (w.alloc (boxH x)) fun e w' => ∃ d, e = .returned (.int .i64 d) ∧ R d w') :
  Calls Tryz.prog 24 #[.pointer (some ⟨B, 0, none⟩), x.val] w fun e w' => ∃ d, e = .returned (.int .i64 d) ∧ R d w' := by
 have HX0 : Aside ((w.alloc (boxH x)).heap[w.heap.size]? = some (boxH x)) := heap_new _ _
 go_enter Tryz.func24, Tryz.ntmps24
 go_upto_region 1 with fail
 generalize w.alloc (boxH x) = w1 at *
 have zh := fun i => Joins.cell_of_block HX0.out i
 go_wp2_with fail
 refine kc.mono ?_
 rintro e w2 ⟨d, rfl, hp⟩
 have HF : Aside _ := hp
 clear hp kc zh
 go_wp2
 go_ret
 exact ⟨d, rfl, HF.out⟩
theorem w_hap13 (x : Hp) (w : World) (B : Nat) (h10 : (x.k == 10) = false) (h11 : (x.k == 11) = false) (h8 : (x.k == 8) = false) (h9 : (x.k == 9) = false) (h12 : (x.k == 12) = false) (h13 : (x.k == 13) = true) {R : Int → World → Prop} (kc : Calls Tryz.prog 73 #[.pointer (some ⟨B, 0, none⟩), x.val] (w.alloc (boxH x)) fun e w' => ∃ d, e = .returned (.int .i64 d) ∧ R d w') :
  Calls Tryz.prog 24 #[.pointer (some ⟨B, 0, none⟩), x.val] w fun e w' => ∃ d, e = .returned (.int .i64 d) ∧ R d w' := by
 have HX0 : Aside ((w.alloc (boxH x)).heap[w.heap.size]? = some (boxH x)) := heap_new _ _
 go_enter Tryz.func24, Tryz.ntmps24
 go_upto_region 1 with fail
 generalize w.alloc (boxH x) = w1 at *
 have zh := fun i => Joins.cell_of_block HX0.out i
 go_wp2_with fail
 refine kc.mono ?_
 rintro e w2 ⟨d, rfl, hp⟩
 have HF : Aside _ := hp
 clear hp kc zh
 go_wp2
 go_ret
 exact ⟨d, rfl, HF.out⟩
theorem w_hap4 (x : Hp) (w : World) (B : Nat) (h10 : (x.k == 10) = false) (h11 : (x.k == 11) = false) (h8 : (x.k == 8) = false) (h9 : (x.k == 9) = false) (h12 : (x.k == 12) = false) (h13 : (x.k == 13) = false) (h4 : (x.k == 4) = true) {R : Int → World → Prop} (kc : Calls Tryz.prog 74 #[.pointer (some ⟨B, 0, none⟩), x.val] (w.alloc (boxH x)) fun e w' => ∃ d, e = .returned (.int .i64 d) ∧ R d w') :
  Calls Tryz.prog 24 #[.pointer (some ⟨B, 0, none⟩), x.val] w fun e w' => ∃ d, e = .returned (.int .i64 d) ∧ R d w' := by
 have HX0 : Aside ((w.alloc (boxH x)).heap[w.heap.size]? = some (boxH x)) := heap_new _ _
 go_enter Tryz.func24, Tryz.ntmps24
 go_upto_region 1 with fail
 generalize w.alloc (boxH x) = w1 at *
 have zh := fun i => Joins.cell_of_block HX0.out i
 go_wp2_with fail
 refine kc.mono ?_
 rintro e w2 ⟨d, rfl, hp⟩
 have HF : Aside _ := hp
 clear hp kc zh
 go_wp2
 go_ret
 exact ⟨d, rfl, HF.out⟩
theorem w_hap5 (x : Hp) (w : World) (B : Nat) (h10 : (x.k == 10) = false) (h11 : (x.k == 11) = false) (h8 : (x.k == 8) = false) (h9 : (x.k == 9) = false) (h12 : (x.k == 12) = false) (h13 : (x.k == 13) = false) (h4 : (x.k == 4) = false) (h5 : (x.k == 5) = true) {R : Int → World → Prop} (kc : Calls Tryz.prog 74 #[.pointer (some ⟨B, 0, none⟩), x.val] (w.alloc (boxH x)) fun e w' => ∃ d, e = .returned (.int .i64 d) ∧ R d w') :
  Calls Tryz.prog 24 #[.pointer (some ⟨B, 0, none⟩), x.val] w fun e w' => ∃ d, e = .returned (.int .i64 d) ∧ R d w' := by
 have HX0 : Aside ((w.alloc (boxH x)).heap[w.heap.size]? = some (boxH x)) := heap_new _ _
 go_enter Tryz.func24, Tryz.ntmps24
 go_upto_region 1 with fail
 generalize w.alloc (boxH x) = w1 at *
 have zh := fun i => Joins.cell_of_block HX0.out i
 go_wp2_with fail
 refine kc.mono ?_
 rintro e w2 ⟨d, rfl, hp⟩
 have HF : Aside _ := hp
 clear hp kc zh
 go_wp2
 go_ret
 exact ⟨d, rfl, HF.out⟩
theorem w_hap15 (x : Hp) (w : World) (B : Nat) (h10 : (x.k == 10) = false) (h11 : (x.k == 11) = false) (h8 : (x.k == 8) = false) (h9 : (x.k == 9) = false) (h12 : (x.k == 12) = false) (h13 : (x.k == 13) = false) (h4 : (x.k == 4) = false) (h5 : (x.k == 5) = false) (h15 : (x.k == 15) = true) {R : Int → World → Prop} (kc : Calls Tryz.prog 74 #[.pointer (some ⟨B, 0, none⟩), x.val] (w.alloc (boxH x)) fun e w' => ∃ d, e = .returned (.int .i64 d) ∧ R d w') :
  Calls Tryz.prog 24 #[.pointer (some ⟨B, 0, none⟩), x.val] w fun e w' => ∃ d, e = .returned (.int .i64 d) ∧ R d w' := by
 have HX0 : Aside ((w.alloc (boxH x)).heap[w.heap.size]? = some (boxH x)) := heap_new _ _
 go_enter Tryz.func24, Tryz.ntmps24
 go_upto_region 1 with fail
 generalize w.alloc (boxH x) = w1 at *
 have zh := fun i => Joins.cell_of_block HX0.out i
 go_wp2_with fail
 refine kc.mono ?_
 rintro e w2 ⟨d, rfl, hp⟩
 have HF : Aside _ := hp
 clear hp kc zh
 go_wp2
 go_ret
 exact ⟨d, rfl, HF.out⟩
theorem w_hap1 (x : Hp) (w : World) (B : Nat) (h10 : (x.k == 10) = false) (h11 : (x.k == 11) = false) (h8 : (x.k == 8) = false) (h9 : (x.k == 9) = false) (h12 : (x.k == 12) = false) (h13 : (x.k == 13) = false) (h4 : (x.k == 4) = false) (h5 : (x.k == 5) = false) (h15 : (x.k == 15) = false) (h1 : (x.k == 1) = true) {R : Int → World → Prop} (kc : Calls Tryz.prog 75 #[.pointer (some ⟨B, 0, none⟩), x.val] (w.alloc (boxH x)) fun e w' => ∃ d, e = .returned (.int .i64 d) ∧ R d w') :
  Calls Tryz.prog 24 #[.pointer (some ⟨B, 0, none⟩), x.val] w fun e w' => ∃ d, e = .returned (.int .i64 d) ∧ R d w' := by
 have HX0 : Aside ((w.alloc (boxH x)).heap[w.heap.size]? = some (boxH x)) := heap_new _ _
 go_enter Tryz.func24, Tryz.ntmps24
 go_upto_region 1 with fail
 generalize w.alloc (boxH x) = w1 at *
 have zh := fun i => Joins.cell_of_block HX0.out i
 go_wp2_with fail
 refine kc.mono ?_
 rintro e w2 ⟨d, rfl, hp⟩
 have HF : Aside _ := hp
 clear hp kc zh
 go_wp2
 go_ret
 exact ⟨d, rfl, HF.out⟩
theorem w_hap2 (x : Hp) (w : World) (B : Nat) (h10 : (x.k == 10) = false) (h11 : (x.k == 11) = false) (h8 : (x.k == 8) = false) (h9 : (x.k == 9) = false) (h12 : (x.k == 12) = false) (h13 : (x.k == 13) = false) (h4 : (x.k == 4) = false) (h5 : (x.k == 5) = false) (h15 : (x.k == 15) = false) (h1 : (x.k == 1) = false) (h2 : (x.k == 2) = true) {R : Int → World → Prop} (kc : Calls Tryz.prog 75 #[.pointer (some ⟨B, 0, none⟩), x.val] (w.alloc (boxH x)) fun e w' => ∃ d, e = .returned (.int .i64 d) ∧ R d w') :
  Calls Tryz.prog 24 #[.pointer (some ⟨B, 0, none⟩), x.val] w fun e w' => ∃ d, e = .returned (.int .i64 d) ∧ R d w' := by
 have HX0 : Aside ((w.alloc (boxH x)).heap[w.heap.size]? = some (boxH x)) := heap_new _ _
 go_enter Tryz.func24, Tryz.ntmps24
 go_upto_region 1 with fail
 generalize w.alloc (boxH x) = w1 at *
 have zh := fun i => Joins.cell_of_block HX0.out i
 go_wp2_with fail
 refine kc.mono ?_
 rintro e w2 ⟨d, rfl, hp⟩
 have HF : Aside _ := hp
 clear hp kc zh
 go_wp2
 go_ret
 exact ⟨d, rfl, HF.out⟩
theorem w_hap3 (x : Hp) (w : World) (B : Nat) (h10 : (x.k == 10) = false) (h11 : (x.k == 11) = false) (h8 : (x.k == 8) = false) (h9 : (x.k == 9) = false) (h12 : (x.k == 12) = false) (h13 : (x.k == 13) = false) (h4 : (x.k == 4) = false) (h5 : (x.k == 5) = false) (h15 : (x.k == 15) = false) (h1 : (x.k == 1) = false) (h2 : (x.k == 2) = false) (h3 : (x.k == 3) = true) {R : Int → World → Prop} (kc : Calls Tryz.prog 75 #[.pointer (some ⟨B, 0, none⟩), x.val] (w.alloc (boxH x)) fun e w' => ∃ d, e = .returned (.int .i64 d) ∧ R d w') :
  Calls Tryz.prog 24 #[.pointer (some ⟨B, 0, none⟩), x.val] w fun e w' => ∃ d, e = .returned (.int .i64 d) ∧ R d w' := by
 have HX0 : Aside ((w.alloc (boxH x)).heap[w.heap.size]? = some (boxH x)) := heap_new _ _
 go_enter Tryz.func24, Tryz.ntmps24
 go_upto_region 1 with fail
 generalize w.alloc (boxH x) = w1 at *
 have zh := fun i => Joins.cell_of_block HX0.out i
 go_wp2_with fail
 refine kc.mono ?_
 rintro e w2 ⟨d, rfl, hp⟩
 have HF : Aside _ := hp
 clear hp kc zh
 go_wp2
 go_ret
 exact ⟨d, rfl, HF.out⟩
theorem w_hap6 (x : Hp) (w : World) (B : Nat) (h10 : (x.k == 10) = false) (h11 : (x.k == 11) = false) (h8 : (x.k == 8) = false) (h9 : (x.k == 9) = false) (h12 : (x.k == 12) = false) (h13 : (x.k == 13) = false) (h4 : (x.k == 4) = false) (h5 : (x.k == 5) = false) (h15 : (x.k == 15) = false) (h1 : (x.k == 1) = false) (h2 : (x.k == 2) = false) (h3 : (x.k == 3) = false) (h6 : (x.k == 6) = true) {R : Int → World → Prop} (kc : Calls Tryz.prog 75 #[.pointer (some ⟨B, 0, none⟩), x.val] (w.alloc (boxH x)) fun e w' => ∃ d, e = .returned (.int .i64 d) ∧ R d w') :
  Calls Tryz.prog 24 #[.pointer (some ⟨B, 0, none⟩), x.val] w fun e w' => ∃ d, e = .returned (.int .i64 d) ∧ R d w' := by
 have HX0 : Aside ((w.alloc (boxH x)).heap[w.heap.size]? = some (boxH x)) := heap_new _ _
 go_enter Tryz.func24, Tryz.ntmps24
 go_upto_region 1 with fail
 generalize w.alloc (boxH x) = w1 at *
 have zh := fun i => Joins.cell_of_block HX0.out i
 go_wp2_with fail
 refine kc.mono ?_
 rintro e w2 ⟨d, rfl, hp⟩
 have HF : Aside _ := hp
 clear hp kc zh
 go_wp2
 go_ret
 exact ⟨d, rfl, HF.out⟩
theorem w_hap7 (x : Hp) (w : World) (B : Nat) (h10 : (x.k == 10) = false) (h11 : (x.k == 11) = false) (h8 : (x.k == 8) = false) (h9 : (x.k == 9) = false) (h12 : (x.k == 12) = false) (h13 : (x.k == 13) = false) (h4 : (x.k == 4) = false) (h5 : (x.k == 5) = false) (h15 : (x.k == 15) = false) (h1 : (x.k == 1) = false) (h2 : (x.k == 2) = false) (h3 : (x.k == 3) = false) (h6 : (x.k == 6) = false) (h7 : (x.k == 7) = true) {R : Int → World → Prop} (kc : Calls Tryz.prog 75 #[.pointer (some ⟨B, 0, none⟩), x.val] (w.alloc (boxH x)) fun e w' => ∃ d, e = .returned (.int .i64 d) ∧ R d w') :
  Calls Tryz.prog 24 #[.pointer (some ⟨B, 0, none⟩), x.val] w fun e w' => ∃ d, e = .returned (.int .i64 d) ∧ R d w' := by
 have HX0 : Aside ((w.alloc (boxH x)).heap[w.heap.size]? = some (boxH x)) := heap_new _ _
 go_enter Tryz.func24, Tryz.ntmps24
 go_upto_region 1 with fail
 generalize w.alloc (boxH x) = w1 at *
 have zh := fun i => Joins.cell_of_block HX0.out i
 go_wp2_with fail
 refine kc.mono ?_
 rintro e w2 ⟨d, rfl, hp⟩
 have HF : Aside _ := hp
 clear hp kc zh
 go_wp2
 go_ret
 exact ⟨d, rfl, HF.out⟩
theorem w_hap14 (x : Hp) (w : World) (B : Nat) (h10 : (x.k == 10) = false) (h11 : (x.k == 11) = false) (h8 : (x.k == 8) = false) (h9 : (x.k == 9) = false) (h12 : (x.k == 12) = false) (h13 : (x.k == 13) = false) (h4 : (x.k == 4) = false) (h5 : (x.k == 5) = false) (h15 : (x.k == 15) = false) (h1 : (x.k == 1) = false) (h2 : (x.k == 2) = false) (h3 : (x.k == 3) = false) (h6 : (x.k == 6) = false) (h7 : (x.k == 7) = false) (h14 : (x.k == 14) = true) {R : Int → World → Prop} (kc : Calls Tryz.prog 75 #[.pointer (some ⟨B, 0, none⟩), x.val] (w.alloc (boxH x)) fun e w' => ∃ d, e = .returned (.int .i64 d) ∧ R d w') :
  Calls Tryz.prog 24 #[.pointer (some ⟨B, 0, none⟩), x.val] w fun e w' => ∃ d, e = .returned (.int .i64 d) ∧ R d w' := by
 have HX0 : Aside ((w.alloc (boxH x)).heap[w.heap.size]? = some (boxH x)) := heap_new _ _
 go_enter Tryz.func24, Tryz.ntmps24
 go_upto_region 1 with fail
 generalize w.alloc (boxH x) = w1 at *
 have zh := fun i => Joins.cell_of_block HX0.out i
 go_wp2_with fail
 refine kc.mono ?_
 rintro e w2 ⟨d, rfl, hp⟩
 have HF : Aside _ := hp
 clear hp kc zh
 go_wp2
 go_ret
 exact ⟨d, rfl, HF.out⟩
theorem w_hap0 (x : Hp) (w : World) (B : Nat) (h10 : (x.k == 10) = false) (h11 : (x.k == 11) = false) (h8 : (x.k == 8) = false) (h9 : (x.k == 9) = false) (h12 : (x.k == 12) = false) (h13 : (x.k == 13) = false) (h4 : (x.k == 4) = false) (h5 : (x.k == 5) = false) (h15 : (x.k == 15) = false) (h1 : (x.k == 1) = false) (h2 : (x.k == 2) = false) (h3 : (x.k == 3) = false) (h6 : (x.k == 6) = false) (h7 : (x.k == 7) = false) (h14 : (x.k == 14) = false) :
  Calls Tryz.prog 24 #[.pointer (some ⟨B, 0, none⟩), x.val] w fun e w' => e = .returned (.int .i64 4) ∧ Below w.heap.size w w' := by
 have HX0 : Aside ((w.alloc (boxH x)).heap[w.heap.size]? = some (boxH x)) := heap_new _ _
 have HB0 : Aside (Below w.heap.size w (w.alloc (boxH x))) := grew (Below.refl _ _) _
 go_enter Tryz.func24, Tryz.ntmps24
 go_upto_region 1 with fail
 generalize w.alloc (boxH x) = w1 at *
 have zh := fun i => Joins.cell_of_block HX0.out i
 go_wp2
 go_ret
 exact ⟨rfl, HB0.out⟩
theorem ansW_of {f : FuncId} {args : Array Value} {X w : World} {B g1 g2 : Nat} {r : Wd × Int} (h : Calls Tryz.prog f args w fun e w' => ∃ d, e = .returned (.int .i64 d) ∧ (d = r.2 ∧ WHas X w' B g1 g2 r.1)) : AnsW f args X w B g1 g2 r := h.mono fun e w' ⟨d, he, hd, hw⟩ => ⟨by rw [he, hd], hw⟩
theorem of_ansW {f : FuncId} {args : Array Value} {X w : World} {B g1 g2 : Nat} {r : Wd × Int} (h : AnsW f args X w B g1 g2 r) : Calls Tryz.prog f args w fun e w' => ∃ d, e = .returned (.int .i64 d) ∧ (d = r.2 ∧ WHas X w' B g1 g2 r.1) := h.mono fun _ _ ⟨he, hw⟩ => ⟨r.2, he, rfl, hw⟩
theorem w_happen {X w : World} {B g1 g2 : Nat} {W : Wd} (hL : Laid w) (hW : RW W) (h : WHas X w B g1 g2 W) (x : Hp) : AnsW 24 #[.pointer (some ⟨B, 0, none⟩), x.val] X w B g1 g2 (happened W x) := by
 have hbA : Below w.heap.size w (w.alloc (boxH x)) := grew (Below.refl _ _) _
 have hH := h.later hbA
 have ff : ∀ q : Int, ¬ x.k = q → (x.k == q) = false := fun q h => by rw [beq_eq_false_iff_ne]; exact h
 have tt : ∀ q : Int, x.k = q → (x.k == q) = true := fun q h => by rw [h]; exact beq_self_eq_true q
 have nn : ∀ q r : Int, x.k = q → q ≠ r → (x.k == r) = false := fun q r h hn => by rw [h, beq_eq_false_iff_ne]; exact hn
 unfold happened
 by_cases h10 : x.k = 10
 · have hq := h10
  rw [if_pos h10]
  exact ansW_of (w_hap10 x w B  (tt 10 hq) (of_ansW (w_tip hH x.n)))
 rw [if_neg h10]
 by_cases h11 : x.k = 11
 · have hq := h11
  rw [if_pos h11]
  exact ansW_of (w_hap11 x w B (ff 10 (by omega)) (tt 11 hq) (of_ansW (w_tick hH x.n hW.time)))
 rw [if_neg h11]
 by_cases hn : x.k = 8 ∨ x.k = 9 ∨ x.k = 12 ∨ x.k = 13
 · rw [if_pos hn]
  rcases hn with hq | hq | hq | hq
  · exact ansW_of (w_hap8 x w B (ff 10 (by omega)) (ff 11 (by omega)) (tt 8 hq) (of_ansW (w_atNode (hL.later hbA) hW hH x)))
  · exact ansW_of (w_hap9 x w B (ff 10 (by omega)) (ff 11 (by omega)) (ff 8 (by omega)) (tt 9 hq) (of_ansW (w_atNode (hL.later hbA) hW hH x)))
  · exact ansW_of (w_hap12 x w B (ff 10 (by omega)) (ff 11 (by omega)) (ff 8 (by omega)) (ff 9 (by omega)) (tt 12 hq) (of_ansW (w_atNode (hL.later hbA) hW hH x)))
  · exact ansW_of (w_hap13 x w B (ff 10 (by omega)) (ff 11 (by omega)) (ff 8 (by omega)) (ff 9 (by omega)) (ff 12 (by omega)) (tt 13 hq) (of_ansW (w_atNode (hL.later hbA) hW hH x)))
 rw [if_neg hn]
 by_cases hl : x.k = 4 ∨ x.k = 5 ∨ x.k = 15
 · rw [if_pos hl]
  rcases hl with hq | hq | hq
  · exact ansW_of (w_hap4 x w B (ff 10 (by omega)) (ff 11 (by omega)) (ff 8 (by omega)) (ff 9 (by omega)) (ff 12 (by omega)) (ff 13 (by omega)) (tt 4 hq) (of_ansW (w_atLink (hL.later hbA) hW hH x)))
  · exact ansW_of (w_hap5 x w B (ff 10 (by omega)) (ff 11 (by omega)) (ff 8 (by omega)) (ff 9 (by omega)) (ff 12 (by omega)) (ff 13 (by omega)) (ff 4 (by omega)) (tt 5 hq) (of_ansW (w_atLink (hL.later hbA) hW hH x)))
  · exact ansW_of (w_hap15 x w B (ff 10 (by omega)) (ff 11 (by omega)) (ff 8 (by omega)) (ff 9 (by omega)) (ff 12 (by omega)) (ff 13 (by omega)) (ff 4 (by omega)) (ff 5 (by omega)) (tt 15 hq) (of_ansW (w_atLink (hL.later hbA) hW hH x)))
 rw [if_neg hl]
 by_cases hc : x.k = 1 ∨ x.k = 2 ∨ x.k = 3 ∨ x.k = 6 ∨ x.k = 7 ∨ x.k = 14
 · rw [if_pos hc]
  rcases hc with hq | hq | hq | hq | hq | hq
  · exact ansW_of (w_hap1 x w B (ff 10 (by omega)) (ff 11 (by omega)) (ff 8 (by omega)) (ff 9 (by omega)) (ff 12 (by omega)) (ff 13 (by omega)) (ff 4 (by omega)) (ff 5 (by omega)) (ff 15 (by omega)) (tt 1 hq) (of_ansW (w_atClient hW hH x)))
  · exact ansW_of (w_hap2 x w B (ff 10 (by omega)) (ff 11 (by omega)) (ff 8 (by omega)) (ff 9 (by omega)) (ff 12 (by omega)) (ff 13 (by omega)) (ff 4 (by omega)) (ff 5 (by omega)) (ff 15 (by omega)) (ff 1 (by omega)) (tt 2 hq) (of_ansW (w_atClient hW hH x)))
  · exact ansW_of (w_hap3 x w B (ff 10 (by omega)) (ff 11 (by omega)) (ff 8 (by omega)) (ff 9 (by omega)) (ff 12 (by omega)) (ff 13 (by omega)) (ff 4 (by omega)) (ff 5 (by omega)) (ff 15 (by omega)) (ff 1 (by omega)) (ff 2 (by omega)) (tt 3 hq) (of_ansW (w_atClient hW hH x)))
  · exact ansW_of (w_hap6 x w B (ff 10 (by omega)) (ff 11 (by omega)) (ff 8 (by omega)) (ff 9 (by omega)) (ff 12 (by omega)) (ff 13 (by omega)) (ff 4 (by omega)) (ff 5 (by omega)) (ff 15 (by omega)) (ff 1 (by omega)) (ff 2 (by omega)) (ff 3 (by omega)) (tt 6 hq) (of_ansW (w_atClient hW hH x)))
  · exact ansW_of (w_hap7 x w B (ff 10 (by omega)) (ff 11 (by omega)) (ff 8 (by omega)) (ff 9 (by omega)) (ff 12 (by omega)) (ff 13 (by omega)) (ff 4 (by omega)) (ff 5 (by omega)) (ff 15 (by omega)) (ff 1 (by omega)) (ff 2 (by omega)) (ff 3 (by omega)) (ff 6 (by omega)) (tt 7 hq) (of_ansW (w_atClient hW hH x)))
  · exact ansW_of (w_hap14 x w B (ff 10 (by omega)) (ff 11 (by omega)) (ff 8 (by omega)) (ff 9 (by omega)) (ff 12 (by omega)) (ff 13 (by omega)) (ff 4 (by omega)) (ff 5 (by omega)) (ff 15 (by omega)) (ff 1 (by omega)) (ff 2 (by omega)) (ff 3 (by omega)) (ff 6 (by omega)) (ff 7 (by omega)) (tt 14 hq) (of_ansW (w_atClient hW hH x)))
 rw [if_neg hc]
 exact (w_hap0 x w B (ff 10 (by omega)) (ff 11 (by omega)) (ff 8 (by omega)) (ff 9 (by omega)) (ff 12 (by omega)) (ff 13 (by omega)) (ff 4 (by omega)) (ff 5 (by omega)) (ff 15 (by omega)) (ff 1 (by omega)) (ff 2 (by omega)) (ff 3 (by omega)) (ff 6 (by omega)) (ff 7 (by omega)) (ff 14 (by omega))).mono fun e w' ⟨he, hb⟩ => ⟨he, h.later hb⟩
abbrev boxWZ : Obj := .cells #[.slice none 0 0, .int .i64 0, .slice none 0 0, .int .i64 0] 25
abbrev stW (w : World) (b : Nat) (vn : Value) (tip : Int) (vc : Value) (t : Int) : World := (((w.setCell ⟨b, 0, none⟩ vn).setCell ⟨b, 1, none⟩ (.int .i64 tip)).setCell ⟨b, 2, none⟩ vc).setCell ⟨b, 3, none⟩ (.int .i64 t)
theorem stW_box {w : World} {b : Nat} {v0 v1 v2 v3 : Value} (h : w.heap[b]? = some (.cells #[v0, v1, v2, v3] 25)) (vn : Value) (tip : Int) (vc : Value) (t : Int) : (stW w b vn tip vc t).heap[b]? = some (boxW vn tip vc t) := by
 have g0 := Joins.block_setCell h (i := 0) vn
 have g1 := Joins.block_setCell g0 (i := 1) (.int .i64 tip)
 have g2 := Joins.block_setCell g1 (i := 2) vc
 have g3 := Joins.block_setCell g2 (i := 3) (.int .i64 t)
 simp only [List.setIfInBounds_toArray, List.set_cons_zero, List.set_cons_succ] at g3
 exact g3
theorem stW_below {B : Nat} {a w : World} {b : Nat} (h : Below B a w) (hb : B ≤ b) (vn : Value) (tip : Int) (vc : Value) (t : Int) : Below B a (stW w b vn tip vc t) :=
 (((h.setCell (p := ⟨b, 0, none⟩) hb _).setCell (p := ⟨b, 1, none⟩) hb _).setCell (p := ⟨b, 2, none⟩) hb _).setCell (p := ⟨b, 3, none⟩) hb _
theorem stW_other {w : World} {b q : Nat} {o : Obj} (h : w.heap[q]? = some o) (hne : q ≠ b) (vn : Value) (tip : Int) (vc : Value) (t : Int) : (stW w b vn tip vc t).heap[q]? = some o :=
 other_block (other_block (other_block (other_block h hne _ _) hne _ _) hne _ _) hne _ _
theorem ret1_world {fn : Func} {R : Ending → World → Prop} {a : Act} {W : World} {b p : Nat} {vn vc : Value} {tip t : Int} (hf : fn.results = #[.cell p 25]) (hd : a.defers = [])
  (h2 : a.tmps.getD p undef = .pointer (some ⟨b, 0, none⟩)) (hR : W.heap[b]? = some (boxW vn tip vc t)) (hp : R (.returned (wval vn tip vc t)) W) : bodyPost Tryz.prog fn R .ret a W := by
 have c0 := fun i => Joins.cell_of_block hR i
 refine bodyPost_ret (v := wval vn tip vc t) ?_ hd hp
 simp only [results, hf]
 simp at h2
 simp [go_sem, c0, h2]
structure WRow (X w : World) (g1 g2 : Nat) (xs : List Nb) (cs : List Cb) : Prop where
 nrow : w.heap[g1]? = some (.cells (xs.flatMap Nb.cells).toArray 49)
 crow : w.heap[g2]? = some (.cells (cs.flatMap Cb.cells).toArray 41)
 nodes : ∀ x, x ∈ xs → NodeR w x
 clients : ∀ x, x ∈ cs → ClientR w x
 three : xs.length = 3
 three' : cs.length = 3
 base1 : X.heap.size ≤ g1
 base2 : X.heap.size ≤ g2
 below : Below X.heap.size X w
def Ap1 (X wr : World) (B g1 g2 : Nat) (xs : List Nb) (CC : List Value) (tip t : Int) (k : Nat) : Prop :=
 ∃ ys : List Nb, ys.length = xs.length ∧ WSt X wr B g1 g2 (ys.flatMap Nb.cells) tip CC t (ys.take k) [] ∧ (∀ i x, k ≤ i → xs[i]? = some x → ys[i]? = some x) ∧ nodesOf ys = nodesOf xs
theorem Ap1.step {X wr : World} {B g1 g2 : Nat} {xs ys : List Nb} {CC NC : List Value} {tip t : Int} {k : Nat} {x : Nb} (hl : ys.length = xs.length) (hx : ys[k]? = some x) (hr : ∀ i x, k ≤ i → xs[i]? = some x → ys[i]? = some x) (hn : nodesOf ys = nodesOf xs) {y : Nb} (hy : NodeR wr y) (hyn : y.n = x.n)
  (hS : WSt X wr B g1 g2 NC tip CC t (ys.take k) []) (hNC : NC = (ys.set k y).flatMap Nb.cells) : Ap1 X wr B g1 g2 xs CC tip t (k + 1) := by
 have hlt := (List.getElem?_eq_some_iff.1 hx).1
 refine ⟨ys.set k y, by rw [List.length_set, hl], ?_, fun i z hi hz => ?_, ?_⟩
 · rw [← hNC]
  refine hS.more (fun z hz => ?_) hS.clients
  rw [List.take_add_one, List.getElem?_set_self hlt] at hz
  rcases List.mem_append.1 hz with hz | hz
  · rw [List.take_set_of_le (Nat.le_refl k)] at hz
   exact hS.nodes z hz
  · obtain rfl : z = y := by simpa using hz
   exact hy
 · rw [List.getElem?_set_ne (by omega)]
  exact hr i z (by omega) hz
 · rw [nodes_set, hyn, set_self _ _ _ (nodes_at hx), hn]
def Ap2 (X wr : World) (B g1 g2 : Nat) (cs : List Cb) (ys : List Nb) (tip t : Int) (k : Nat) : Prop :=
 ∃ ds : List Cb, ds.length = cs.length ∧ WSt X wr B g1 g2 (ys.flatMap Nb.cells) tip (ds.flatMap Cb.cells) t ys (ds.take k) ∧ (∀ i x, k ≤ i → cs[i]? = some x → ds[i]? = some x) ∧ clientsOf ds = clientsOf cs
theorem Ap2.step {X wr : World} {B g1 g2 : Nat} {cs ds : List Cb} {ys : List Nb} {CC : List Value} {tip t : Int} {k : Nat} {x : Cb} (hl : ds.length = cs.length) (hx : ds[k]? = some x) (hr : ∀ i x, k ≤ i → cs[i]? = some x → ds[i]? = some x) (hn : clientsOf ds = clientsOf cs) {y : Cb} (hy : ClientR wr y) (hyn : y.c = x.c)
  (hS : WSt X wr B g1 g2 (ys.flatMap Nb.cells) tip CC t ys (ds.take k)) (hCC : CC = (ds.set k y).flatMap Cb.cells) : Ap2 X wr B g1 g2 cs ys tip t (k + 1) := by
 have hlt := (List.getElem?_eq_some_iff.1 hx).1
 refine ⟨ds.set k y, by rw [List.length_set, hl], ?_, fun i z hi hz => ?_, ?_⟩
 · rw [← hCC]
  refine hS.more hS.nodes (fun z hz => ?_)
  rw [List.take_add_one, List.getElem?_set_self hlt] at hz
  rcases List.mem_append.1 hz with hz | hz
  · rw [List.take_set_of_le (Nat.le_refl k)] at hz
   exact hS.clients z hz
  · obtain rfl : z = y := by simpa using hz
   exact hy
 · rw [List.getElem?_set_ne (by omega)]
  exact hr i z (by omega) hz
 · rw [clients_set, hyn, set_self _ _ _ (clients_at hx), hn]
theorem nput123 {xs : List Nb} {k : Nat} {x : Nb} (hx : xs[k]? = some x) (y : Nb) (hy : y.n = x.n) :
  (((xs.flatMap Nb.cells).set (k * 5 + 1) y.vc).set (k * 5 + 2) y.vs).set (k * 5 + 3) y.vw = (xs.set k y).flatMap Nb.cells := by
 obtain ⟨h1, h2⟩ := flat_split Nb.cells xs k x hx
 have hA := front_len Nb.five hx
 rw [h1, h2 y, seg_set hA (by rw [Nb.five]; decide), seg_set hA (by simp [Nb.five]), seg_set hA (by simp [Nb.five])]
 unfold Nb.cells
 rw [hy]
 rfl
theorem cput2 {cs : List Cb} {k : Nat} {x : Cb} (hx : cs[k]? = some x) (y : Cb) (hy : y.c = x.c) :
  ((cs.flatMap Cb.cells).set (k * 12 + 10) y.v1).set (k * 12 + 11) y.v2 = (cs.set k y).flatMap Cb.cells := by
 obtain ⟨h1, h2⟩ := flat_split Cb.cells cs k x hx
 have hA := front_len Cb.twelve hx
 rw [h1, h2 y, seg_set hA (by rw [Cb.twelve]; decide), seg_set hA (by simp [Cb.twelve])]
 unfold Cb.cells
 rw [hy]
 rfl
theorem noByte_clientsA {w : World} {xs : List Cb} (h : ∀ x, x ∈ xs → ClientT w x) : NoByte (xs.flatMap Cb.cells) := fun y hm => by
 obtain ⟨x, hx, hm⟩ := List.mem_flatMap.1 hm
 obtain ⟨a1, n1, c1, e1⟩ := slOf_sl (h x hx).1
 obtain ⟨a2, n2, c2, e2⟩ := slOf_sl (h x hx).2
 simp [Cb.cells, e1, e2] at hm
theorem own_ents {w : World} {q : Nat} {es : List En} (h : w.heap[q]? = some (.cells (es.flatMap En.cells).toArray 27)) (u : Un) (hu : u.cells = es) : UnitAt w (.slice (some ⟨q, 0, none⟩) es.length es.length) u :=
 ⟨by rw [hu]; exact slOf_lit En.five h rfl, ⟨_, _, _, rfl, Nat.le_refl _⟩⟩
theorem own_bytes {w : World} {q : Nat} {l : List UInt8} (h : w.heap[q]? = some (.cells (l.flatMap bt).toArray 5)) : ByteSl w (.slice (some ⟨q, 0, none⟩) l.length l.length) l := slOf_lit bt_one h rfl
theorem wrow_st {X w : World} {B g1 g2 r : Nat} {ys : List Nb} {ds : List Cb} {tip0 t0 : Int} (hr : w.heap[r]? = some (boxWZ)) (h : WSt X w B g1 g2 (ys.flatMap Nb.cells) tip0 (ds.flatMap Cb.cells) t0 ys ds) (h1 : g1 ≠ r) (h2 : g2 ≠ r) (hb : X.heap.size ≤ r) (k1 : X.heap.size ≤ g1) (k2 : X.heap.size ≤ g2) (hX : Below X.heap.size X w) (hy : ys.length = 3) (hd : ds.length = 3) (tip t : Int) :
  WRow X (stW w r (.slice (some ⟨g1, 0, none⟩) 3 3) tip (.slice (some ⟨g2, 0, none⟩) 3 3) t) g1 g2 ys ds := by
 have c0 := hr
 have c1 := Joins.block_setCell c0 (i := 0) (.slice (some ⟨g1, 0, none⟩) 3 3)
 have c2 := Joins.block_setCell c1 (i := 1) (.int .i64 tip)
 have c3 := Joins.block_setCell c2 (i := 2) (.slice (some ⟨g2, 0, none⟩) 3 3)
 simp only [List.setIfInBounds_toArray, List.set_cons_zero, List.set_cons_succ] at c1 c2 c3
 have nb : ∀ (A : List Value), (∀ v, v ∈ A → (∃ a n c, v = .slice a n c) ∨ ∃ q, v = .int .i64 q) → ∀ q : Int, Value.int .u8 q ∉ A.toArray.toList := fun A hA q hq => by
  rcases hA _ (by simpa using hq) with ⟨_, _, _, h⟩ | ⟨_, h⟩ <;> cases h
 refine ⟨stW_other h.nrow h1 _ _ _ _, stW_other h.crow h2 _ _ _ _, fun x hx => ?_, fun x hx => ?_, hy, hd, k1, k2, stW_below hX hb _ _ _ _⟩
 · exact node_off (node_off (node_off (node_off (h.nodes x hx) c0 (by simp) (nb _ (by simp)) 0 _) c1 (by simp) (nb _ (by simp)) 1 _) c2 (by simp) (nb _ (by simp)) 2 _) c3 (by simp) (nb _ (by simp)) 3 _
 · exact client_off (client_off (client_off (client_off (h.clients x hx) c0 (by decide) (by decide) 0 _) c1 (by decide) (by decide) 1 _) c2 (by decide) (by decide) 2 _) c3 (by decide) (by decide) 3 _
theorem w_apart_at (a1 a2 : Option Addr) (c1 c2 : Nat) (xs : List Nb) (cs : List Cb) (tip t : Int) (w : World) (h : WdAt w (.slice a1 3 c1) (.slice a2 3 c2) xs cs) (h60 : ∀ x, x ∈ xs → x.n.u.cells.length = 60 ∧ x.n.s.length ≤ 1000000 ∧ x.n.w.length ≤ 1000000) (hjr : ∀ x, x ∈ cs → x.c.js.length ≤ 1000000 ∧ x.c.rs.length ≤ 1000000) :
  Calls Tryz.prog 23 #[wval (.slice a1 3 c1) tip (.slice a2 3 c2) t] w fun e w' => ∃ g1 g2 ys ds, e = .returned (wval (.slice (some ⟨g1, 0, none⟩) 3 3) tip (.slice (some ⟨g2, 0, none⟩) 3 3) t) ∧ WRow w w' g1 g2 ys ds ∧ nodesOf ys = nodesOf xs ∧ clientsOf ds = clientsOf cs := by
 have KN : Aside (∀ V, Below w.heap.size w V → Calls Tryz.prog 65 #[.slice a1 3 c1] V fun e w' => ∃ g, e = .returned (.slice (some ⟨g, 0, none⟩) 3 3) ∧ V.heap.size ≤ g ∧ w'.heap[g]? = some (.cells (xs.flatMap Nb.cells).toArray 49) ∧ Below V.heap.size V w') := fun V hV => by
  have := wcopyN (.slice a1 3 c1) xs V (h.rowN.later hV) (by rw [h.rowN.len]; omega) (fun y hy => (h.node y hy).sl)
  rwa [h.rowN.len] at this
 have KC : Aside (∀ V, Below w.heap.size w V → Calls Tryz.prog 66 #[.slice a2 3 c2] V fun e w' => ∃ g, e = .returned (.slice (some ⟨g, 0, none⟩) 3 3) ∧ V.heap.size ≤ g ∧ w'.heap[g]? = some (.cells (cs.flatMap Cb.cells).toArray 41) ∧ Below V.heap.size V w') := fun V hV => by
  have := wcopyC (.slice a2 3 c2) cs V (h.rowC.later hV) (by rw [h.rowC.len]; omega) (fun y hy => clientT_sl (h.client y hy))
  rwa [h.rowC.len] at this
 have HW : Aside (WdAt w (.slice a1 3 c1) (.slice a2 3 c2) xs cs) := h
 have H60 : Aside (∀ x, x ∈ xs → x.n.u.cells.length = 60 ∧ x.n.s.length ≤ 1000000 ∧ x.n.w.length ≤ 1000000) := h60
 have HJR : Aside (∀ x, x ∈ cs → x.c.js.length ≤ 1000000 ∧ x.c.rs.length ≤ 1000000) := hjr
 have HL3 : Aside (xs.length = 3 ∧ cs.length = 3) := ⟨h.rowN.len, h.rowC.len⟩
 clear h h60 hjr
 have B0 : Aside (Below w.heap.size w ((w.alloc (boxW (.slice a1 3 c1) tip (.slice a2 3 c2) t)).alloc (boxWZ))) := grew (grew (Below.refl _ _) _) _
 have h0_0 : Aside (((w.alloc (boxW (.slice a1 3 c1) tip (.slice a2 3 c2) t)).alloc (boxWZ)).heap[w.heap.size]? = some (boxW (.slice a1 3 c1) tip (.slice a2 3 c2) t)) := by
  have := heap_new w (boxW (.slice a1 3 c1) tip (.slice a2 3 c2) t)
  exact heap_old (this) _
 have h1_0 : Aside (((w.alloc (boxW (.slice a1 3 c1) tip (.slice a2 3 c2) t)).alloc (boxWZ)).heap[w.heap.size + 1]? = some (boxWZ)) := by
  have := heap_new (w.alloc (boxW (.slice a1 3 c1) tip (.slice a2 3 c2) t)) (boxWZ)
  rw [World.size_alloc] at this
  exact this
 go_enter Tryz.func23, Tryz.ntmps23
 go_upto_region 1 with fail
 generalize ((w.alloc (boxW (.slice a1 3 c1) tip (.slice a2 3 c2) t)).alloc (boxWZ)) = w0 at *
 have h0_1 : Aside (w0.drew.heap[w.heap.size]? = some (boxW (.slice a1 3 c1) tip (.slice a2 3 c2) t)) := h0_0.out
 have h1_1 : Aside (w0.drew.heap[w.heap.size + 1]? = some (boxWZ)) := h1_0.out
 have B1 : Aside (Below w.heap.size w w0.drew) := B0.out.drew
 clear h0_0 h1_0 B0
 refine wp_region_noPanic ?_
 refine region_L (fun w' => Below w0.drew.heap.size w0.drew w') 7 (by kernel_rfl) (Below.refl _ _) (fun hHeld => ?_)
 generalize w0.drew = w1 at *
 refine tl 0 (v := ?_) rfl (by kernel_rfl) (by rfl) (by assumption) (fun _ _ _ h => h) ?_ ?_
 rotate_left
 · (intro w0 hSw; clear hSw; go_simp; first | done | with_reducible rfl)
 try simp only [Act.put, qa, qb, qc]
 refine tl 1 (v := ?_) rfl (by kernel_rfl) (by rfl) (by assumption) (fun _ _ _ h => h) ?_ ?_
 rotate_left
 · (intro w0 hSw; have z := (show ∀ i, w0.cell? ⟨w.heap.size, i, none⟩ = #[Value.slice a1 3 c1, .int .i64 tip, .slice a2 3 c2, .int .i64 t][i]? from fun i => Joins.cell_of_block (heap_below h0_1.out hSw (heap_lt h0_1.out)) i); clear hSw; go_simp; first | done | with_reducible rfl)
 try simp only [Act.put, qa, qb, qc]
 refine tl 3 (v := ?_) rfl (by kernel_rfl) (by rfl) (by assumption) (fun _ _ _ h => h) ?_ ?_
 rotate_left
 · (intro w0 hSw; clear hSw; go_simp; first | done | with_reducible rfl)
 try simp only [Act.put, qa, qb, qc]
 refine tl 4 (v := ?_) rfl (by kernel_rfl) (by rfl) (by assumption) (fun _ _ _ h => h) ?_ ?_
 rotate_left
 · (intro w0 hSw; have z := (show ∀ i, w0.cell? ⟨w.heap.size, i, none⟩ = #[Value.slice a1 3 c1, .int .i64 tip, .slice a2 3 c2, .int .i64 t][i]? from fun i => Joins.cell_of_block (heap_below h0_1.out hSw (heap_lt h0_1.out)) i); clear hSw; go_simp; first | done | with_reducible rfl)
 try simp only [Act.put, qa, qb, qc]
 refine anyL_one (i := 2) (by kernel_rfl) rfl (fun K hK => ?_)
 go_simp
 refine (KN.out _ B1.out).mono ?_
 rintro e w2 ⟨g1, rfl, hg1, hrn, hb2⟩
 have B2 : Aside _ := step_below1 B1.out hb2
 have N2 : Aside (w2.heap[g1]? = some (.cells (xs.flatMap Nb.cells).toArray 49)) := hrn
 have l2 : w1.heap.size ≤ w2.heap.size := hb2.size
 refine hK.out _ _ (fun _ => step_below1 hHeld hb2) (fun hNext => ?_)
 replace hNext := hNext (by kernel_rfl)
 clear hK K hb2 hrn KN hHeld
 try simp only [Act.put, qa, qb, qc]
 refine tl 6 (v := ?_) rfl (by kernel_rfl) (by rfl) (by assumption) (fun _ _ _ h => h) ?_ ?_
 rotate_left
 · (intro w0 hSw; clear hSw; go_simp; first | done | with_reducible rfl)
 try simp only [Act.put, qa, qb, qc]
 refine anyL_one (i := 5) (by kernel_rfl) rfl (fun K hK => ?_)
 go_simp
 refine (KC.out _ B2.out).mono ?_
 rintro e w3 ⟨g2, rfl, hg2, hrc, hb3⟩
 have B3 : Aside _ := step_below1 B2.out hb3
 have N3 : Aside _ := heap_below N2.out hb3 (heap_lt N2.out)
 have C3 : Aside (w3.heap[g2]? = some (.cells (cs.flatMap Cb.cells).toArray 41)) := hrc
 have hHeld : Below w1.heap.size w1 w3 := step_below1 hNext hb3
 have h0_3 : Aside _ := heap_below h0_1.out hHeld (heap_lt h0_1.out)
 have h1_3 : Aside _ := heap_below h1_1.out hHeld (heap_lt h1_1.out)
 have l1 := heap_lt h1_1.out
 refine hK.out _ _ (fun _ => hHeld) (fun hNext => ?_)
 replace hNext := hNext (by kernel_rfl)
 clear hK K hb3 hrc KC hHeld N2 B2
 try simp only [Act.put, qa, qb, qc]
 have z := fun i => Joins.cell_of_block h0_3.out i
 have fz := fun i => Joins.unfrozen_of_block h0_3.out i
 refine anyL_one (i := 7) (by kernel_rfl) rfl (fun K hK => ?_)
 go_simp
 refine hK.out _ _ (fun h => absurd h (by decide +kernel)) (fun _ => ?_)
 clear hK K
 try simp only [Act.put, qa, qb, qc]
 refine anyL_one (i := 8) (by kernel_rfl) rfl (fun K hK => ?_)
 go_simp
 refine hK.out _ _ (fun h => absurd h (by decide +kernel)) (fun _ => ?_)
 clear hK K
 try simp only [Act.put, qa, qb, qc]
 refine anyL_one (i := 9) (by kernel_rfl) rfl (fun K hK => ?_)
 go_simp
 refine hK.out _ _ (fun h => absurd h (by decide +kernel)) (fun _ => ?_)
 clear hK K
 try simp only [Act.put, qa, qb, qc]
 refine anyL_done (by kernel_rfl) ?_ _
 refine NoPanic.normal ?_
 try simp only [Act.put, qa, qb, qc]
 have N4 : Aside (WSt w ((w3.setCell ⟨w.heap.size, 0, none⟩ (.slice (some ⟨g1, 0, none⟩) 3 3)).setCell ⟨w.heap.size, 2, none⟩ (.slice (some ⟨g2, 0, none⟩) 3 3)) w.heap.size g1 g2 (xs.flatMap Nb.cells) tip (cs.flatMap Cb.cells) t [] []) := by
  have b0 := Joins.block_setCell h0_3.out (i := 0) (.slice (some ⟨g1, 0, none⟩) 3 3)
  have b1 := Joins.block_setCell b0 (i := 2) (.slice (some ⟨g2, 0, none⟩) 3 3)
  simp only [List.setIfInBounds_toArray, List.set_cons_zero, List.set_cons_succ] at b1
  have hB2 := B1.out.size
  have e1 : g1 ≠ w.heap.size := by omega
  have e2 : g2 ≠ w.heap.size := by omega
  refine ⟨b1, other_block (other_block N3.out e1 _ _) e1 _ _, other_block (other_block C3.out e2 _ _) e2 _ _, by rw [row_len Nb.five, HL3.out.1], by rw [row_len Cb.twelve, HL3.out.2], noByte_nodes (w := w) (fun y hy => ⟨HW.out.node y hy, (H60.out y hy).1⟩), noByte_clientsA (w := w) HW.out.client, fun y hy => by (cases hy), fun y hy => by (cases hy), BelowX.of ((B3.out.setCell (p := ⟨w.heap.size, 0, none⟩) (Nat.le_refl _) _).setCell (p := ⟨w.heap.size, 2, none⟩) (Nat.le_refl _) _) _ _ _⟩
 have HGW : Hid (w.heap.size ≤ g1 ∧ w.heap.size ≤ g2) := ⟨by have hB2 := B1.out.size; omega, by have hB2 := B1.out.size; omega⟩
 have R4 : Aside (((w3.setCell ⟨w.heap.size, 0, none⟩ (.slice (some ⟨g1, 0, none⟩) 3 3)).setCell ⟨w.heap.size, 2, none⟩ (.slice (some ⟨g2, 0, none⟩) 3 3)).heap[w.heap.size + 1]? = some (boxWZ)) := other_block (other_block h1_3.out (by omega) _ _) (by omega) _ _
 clear z fz h0_3 h1_3 h0_1 h1_1 B1 B3 N3 C3 hg1 hg2 l1 l2 hNext
 go_upto_region 2 with fail
 generalize (w3.setCell ⟨w.heap.size, 0, none⟩ (.slice (some ⟨g1, 0, none⟩) 3 3)).setCell ⟨w.heap.size, 2, none⟩ (.slice (some ⟨g2, 0, none⟩) 3 3) = w4 at *
 have z := fun i => Joins.cell_of_block N4.out.box i
 go_wp2
 clear z
 go_loopw [18] (fun i wr => ∃ k : Nat, k ≤ 3 ∧ i = .int .i64 k ∧ Ap1 w wr w.heap.size g1 g2 xs (cs.flatMap Cb.cells) tip t k ∧ wr.heap[w.heap.size + 1]? = some (boxWZ)) (fun i _ => 3 - (intOf i).toNat)
 case atStart => exact ⟨0, Nat.zero_le _, rfl, ⟨xs, rfl, N4.out, fun _ _ _ h => h, rfl⟩, R4.out⟩
 case round =>
  clear N4 R4
  obtain ⟨k, hk, rfl, ⟨ys, hyl, hS, hrest, hnod⟩, hR⟩ := hrel
  by_cases hlt : k < 3
  · obtain ⟨x, hx0⟩ : ∃ x, xs[k]? = some x := ⟨xs[k]'(by have := HL3.out.1; omega), List.getElem?_eq_getElem _⟩
   have hx := hrest k x (Nat.le_refl k) hx0
   have hmem := List.mem_of_getElem? hx0
   have hxt := HW.out.node x hmem
   have hx60 := H60.out x hmem
   obtain ⟨⟨u, sf, wt, up⟩, vc, vs, vw⟩ := x
   obtain ⟨p0, m0, q0, rfl⟩ := roomy_sl hxt.unit.room
   obtain ⟨p1, m1, q1, rfl⟩ := roomy_sl hxt.disk.room1
   obtain ⟨p2, m2, q2, rfl⟩ := roomy_sl hxt.disk.room2
   have KE : Aside (∀ V, Below w.heap.size w V → Calls Tryz.prog 67 #[.slice p0 m0 q0] V fun e w' => ∃ g, e = .returned (.slice (some ⟨g, 0, none⟩) 60 60) ∧ V.heap.size ≤ g ∧ w'.heap[g]? = some (.cells (u.cells.flatMap En.cells).toArray 27) ∧ Below V.heap.size V w') := fun V hV => by
    have := wcopyE (.slice p0 m0 q0) u.cells V (hxt.unit.ents.later hV) (by rw [hx60.1]; omega)
    rwa [hx60.1] at this
   have KS : Aside (∀ V, Below w.heap.size w V → Calls Tryz.prog 68 #[.slice p1 m1 q1] V fun e w' => ∃ g, e = .returned (.slice (some ⟨g, 0, none⟩) sf.length sf.length) ∧ V.heap.size ≤ g ∧ w'.heap[g]? = some (.cells (sf.flatMap bt).toArray 5) ∧ Below V.heap.size V w') := fun V hV => wcopyY (.slice p1 m1 q1) sf V (hxt.disk.safe.later hV) hx60.2.1
   have KT : Aside (∀ V, Below w.heap.size w V → Calls Tryz.prog 68 #[.slice p2 m2 q2] V fun e w' => ∃ g, e = .returned (.slice (some ⟨g, 0, none⟩) wt.length wt.length) ∧ V.heap.size ≤ g ∧ w'.heap[g]? = some (.cells (wt.flatMap bt).toArray 5) ∧ Below V.heap.size V w') := fun V hV => wcopyY (.slice p2 m2 q2) wt V (hxt.disk.wait.later hV) hx60.2.2
   have HU60 : Aside (u.cells.length = 60) := hx60.1
   have HX : Aside (ys[k]? = some ⟨⟨u, sf, wt, up⟩, .slice p0 m0 q0, .slice p1 m1 q1, .slice p2 m2 q2⟩) := hx
   have HR : Aside (wr.heap[w.heap.size + 1]? = some (boxWZ)) := hR
   have HS : Aside (WSt w wr w.heap.size g1 g2 (ys.flatMap Nb.cells) tip (cs.flatMap Cb.cells) t (ys.take k) []) := hS
   have HY : Aside (ys.length = xs.length ∧ (∀ i x, k ≤ i → xs[i]? = some x → ys[i]? = some x) ∧ nodesOf ys = nodesOf xs) := ⟨hyl, hrest, hnod⟩
   have yc : ∀ {i : Nat} {v : Value}, (Nb.cells ⟨⟨u, sf, wt, up⟩, .slice p0 m0 q0, .slice p1 m1 q1, .slice p2 m2 q2⟩)[i]? = some v → wr.cell? ⟨g1, k * 5 + i, none⟩ = some v := fun {i v} hv => by
    rw [Joins.cell_of_block hS.nrow]
    have := row_flat Nb.five ys k _ hx i v hv
    simpa using this
   have y1 := yc (i := 1) rfl
   have fy := fun i => Joins.unfrozen_of_block hS.nrow i
   have zb := fun i => Joins.cell_of_block hS.box i
   have hki : (k : Int) < 3 := by omega
   have hk0 : (0 : Int) ≤ (k : Int) := by omega
   have hke := KE.out wr (hS.below.whole (Nat.le_refl _) HGW.out.1 HGW.out.2)
   clear KE hyl hrest hnod hS hR hx hx0 hmem hxt hx60 yc
   go_wp2_with fail
   refine hke.mono ?_
   rintro e w5 ⟨ge, rfl, _, he, hb5⟩
   have S5 : Aside _ := HS.out.later hb5
   have R5 : Aside _ := heap_below HR.out hb5 (heap_lt HR.out)
   have E5 : Aside (w5.heap[ge]? = some (.cells (u.cells.flatMap En.cells).toArray 27)) := he
   clear hke he hb5 HS HR y1 fy zb
   have yc : ∀ {i : Nat} {v : Value}, (Nb.cells ⟨⟨u, sf, wt, up⟩, .slice p0 m0 q0, .slice p1 m1 q1, .slice p2 m2 q2⟩)[i]? = some v → w5.cell? ⟨g1, k * 5 + i, none⟩ = some v := fun {i v} hv => by
    rw [Joins.cell_of_block S5.out.nrow]
    have := row_flat Nb.five ys k _ HX.out i v hv
    simpa using this
   have y1 := yc (i := 1) rfl
   have y2 := yc (i := 2) rfl
   have y3 := yc (i := 3) rfl
   have fy := fun i => Joins.unfrozen_of_block S5.out.nrow i
   have S6 : Aside (WSt w (w5.setCell ⟨g1, k * 5 + 1, none⟩ (.slice (some ⟨ge, 0, none⟩) 60 60)) w.heap.size g1 g2 ((ys.flatMap Nb.cells).set (k * 5 + 1) (.slice (some ⟨ge, 0, none⟩) 60 60)) tip (cs.flatMap Cb.cells) t (ys.take k) []) := S5.out.setN (k * 5 + 1) (slnob _ _ _)
   have hge : ge ≠ g1 := fun e => by
    have h1 := E5.out
    have h2 := S5.out.nrow
    rw [e, h2] at h1; injection h1 with h1; injection h1 with _ h3; cases h3
   have hrg : w.heap.size + 1 ≠ g1 := fun e => by
    have h1 := R5.out
    have h2 := S5.out.nrow
    rw [e, h2] at h1; injection h1 with h1; injection h1 with _ h3; cases h3
   have R6 : Aside ((w5.setCell ⟨g1, k * 5 + 1, none⟩ (.slice (some ⟨ge, 0, none⟩) 60 60)).heap[w.heap.size + 1]? = some (boxWZ)) := other_block R5.out hrg _ _
   have E6 : Aside ((w5.setCell ⟨g1, k * 5 + 1, none⟩ (.slice (some ⟨ge, 0, none⟩) 60 60)).heap[ge]? = some (.cells (u.cells.flatMap En.cells).toArray 27)) := other_block E5.out hge _ _
   have Y6 : Aside ((w5.setCell ⟨g1, k * 5 + 1, none⟩ (.slice (some ⟨ge, 0, none⟩) 60 60)).cell? ⟨g1, k * 5 + 2, none⟩ = some (.slice p1 m1 q1) ∧ (w5.setCell ⟨g1, k * 5 + 1, none⟩ (.slice (some ⟨ge, 0, none⟩) 60 60)).cell? ⟨g1, k * 5 + 3, none⟩ = some (.slice p2 m2 q2)) := by
    have h2 := row_flat Nb.five ys k _ HX.out 2 _ rfl
    have h3 := row_flat Nb.five ys k _ HX.out 3 _ rfl
    rw [Aside, Joins.cell_of_block S6.out.nrow, Joins.cell_of_block S6.out.nrow]
    simp only [List.getElem?_toArray]
    rw [List.getElem?_set_ne (by omega), List.getElem?_set_ne (by omega)]
    exact ⟨h2, h3⟩
   go_upto_region 7 with fail
   clear yc y1 y2 y3 fy S5 R5 E5
   generalize w5.setCell ⟨g1, k * 5 + 1, none⟩ (.slice (some ⟨ge, 0, none⟩) 60 60) = w6 at *
   have S7 : Aside (WSt w w6.drew w.heap.size g1 g2 ((ys.flatMap Nb.cells).set (k * 5 + 1) (.slice (some ⟨ge, 0, none⟩) 60 60)) tip (cs.flatMap Cb.cells) t (ys.take k) []) := S6.out.later (Below.refl _ _).drew
   have R7 : Aside (w6.drew.heap[w.heap.size + 1]? = some (boxWZ)) := R6.out
   have E7 : Aside (w6.drew.heap[ge]? = some (.cells (u.cells.flatMap En.cells).toArray 27)) := E6.out
   have Y7 : Aside (w6.drew.cell? ⟨g1, k * 5 + 2, none⟩ = some (.slice p1 m1 q1) ∧ w6.drew.cell? ⟨g1, k * 5 + 3, none⟩ = some (.slice p2 m2 q2)) := Y6.out
   clear S6 R6 E6 Y6
   refine wp_region_noPanic ?_
   refine region_L (fun w' => Below w6.drew.heap.size w6.drew w') 16 (by kernel_rfl) (Below.refl _ _) (fun hHeld => ?_)
   generalize w6.drew = w7 at *
   refine tl 0 (v := ?_) rfl (by kernel_rfl) (by rfl) (by assumption) (fun _ _ _ h => h) ?_ ?_
   rotate_left
   · (intro w0 hSw; clear hSw; go_simp; first | done | with_reducible rfl)
   try simp only [Act.put, qa, qb, qc]
   refine tl 1 (v := ?_) rfl (by kernel_rfl) (by rfl) (by assumption) (fun _ _ _ h => h) ?_ ?_
   rotate_left
   · (intro w0 hSw; clear hSw; go_simp; first | done | with_reducible rfl)
   try simp only [Act.put, qa, qb, qc]
   refine tl 2 (v := ?_) rfl (by kernel_rfl) (by rfl) (by assumption) (fun _ _ _ h => h) ?_ ?_
   rotate_left
   · (intro w0 hSw; clear hSw; go_simp; first | done | with_reducible rfl)
   try simp only [Act.put, qa, qb, qc]
   refine tl 3 (v := ?_) rfl (by kernel_rfl) (by rfl) (by assumption) (fun _ _ _ h => h) ?_ ?_
   rotate_left
   · (intro w0 hSw; clear hSw; go_simp; first | done | with_reducible rfl)
   try simp only [Act.put, qa, qb, qc]
   refine tl 4 (v := ?_) rfl (by kernel_rfl) (by rfl) (by assumption) (fun _ _ _ h => h) ?_ ?_
   rotate_left
   · (intro w0 hSw; clear hSw; go_simp; first | done | with_reducible rfl)
   try simp only [Act.put, qa, qb, qc]
   refine tl 5 (v := ?_) rfl (by kernel_rfl) (by rfl) (by assumption) (fun _ _ _ h => h) ?_ ?_
   rotate_left
   · (intro w0 hSw; have y2 := cell_later hSw Y7.out.1; clear hSw; go_simp; first | done | with_reducible rfl)
   try simp only [Act.put, qa, qb, qc]
   refine tl 7 (v := ?_) rfl (by kernel_rfl) (by rfl) (by assumption) (fun _ _ _ h => h) ?_ ?_
   rotate_left
   · (intro w0 hSw; clear hSw; go_simp; first | done | with_reducible rfl)
   try simp only [Act.put, qa, qb, qc]
   refine tl 8 (v := ?_) rfl (by kernel_rfl) (by rfl) (by assumption) (fun _ _ _ h => h) ?_ ?_
   rotate_left
   · (intro w0 hSw; clear hSw; go_simp; first | done | with_reducible rfl)
   try simp only [Act.put, qa, qb, qc]
   refine tl 9 (v := ?_) rfl (by kernel_rfl) (by rfl) (by assumption) (fun _ _ _ h => h) ?_ ?_
   rotate_left
   · (intro w0 hSw; clear hSw; go_simp; first | done | with_reducible rfl)
   try simp only [Act.put, qa, qb, qc]
   refine tl 10 (v := ?_) rfl (by kernel_rfl) (by rfl) (by assumption) (fun _ _ _ h => h) ?_ ?_
   rotate_left
   · (intro w0 hSw; clear hSw; go_simp; first | done | with_reducible rfl)
   try simp only [Act.put, qa, qb, qc]
   refine tl 11 (v := ?_) rfl (by kernel_rfl) (by rfl) (by assumption) (fun _ _ _ h => h) ?_ ?_
   rotate_left
   · (intro w0 hSw; have y3 := cell_later hSw Y7.out.2; clear hSw; go_simp; first | done | with_reducible rfl)
   try simp only [Act.put, qa, qb, qc]
   refine anyL_one (i := 6) (by kernel_rfl) rfl (fun K hK => ?_)
   go_simp
   refine (KS.out _ (S7.out.below.whole (Nat.le_refl _) HGW.out.1 HGW.out.2)).mono ?_
   rintro e w8 ⟨gs, rfl, _, hs, hb8⟩
   have S8 : Aside _ := S7.out.later hb8
   have R8 : Aside _ := heap_below R7.out hb8 (heap_lt R7.out)
   have E8 : Aside _ := heap_below E7.out hb8 (heap_lt E7.out)
   have F8 : Aside (w8.heap[gs]? = some (.cells (sf.flatMap bt).toArray 5)) := hs
   have hH8 := step_below1 hHeld hb8
   refine hK.out _ _ (fun _ => hH8) (fun hNext => ?_)
   replace hNext := hNext (by kernel_rfl)
   clear hK K hs hb8 KS S7 R7 E7 hHeld
   try simp only [Act.put, qa, qb, qc]
   refine anyL_one (i := 12) (by kernel_rfl) rfl (fun K hK => ?_)
   go_simp
   refine (KT.out _ (S8.out.below.whole (Nat.le_refl _) HGW.out.1 HGW.out.2)).mono ?_
   rintro e w9 ⟨gt, rfl, _, ht, hb9⟩
   have S9 : Aside _ := S8.out.later hb9
   have R9 : Aside _ := heap_below R8.out hb9 (heap_lt R8.out)
   have E9 : Aside _ := heap_below E8.out hb9 (heap_lt E8.out)
   have F9 : Aside _ := heap_below F8.out hb9 (heap_lt F8.out)
   have G9 : Aside (w9.heap[gt]? = some (.cells (wt.flatMap bt).toArray 5)) := ht
   have hH9 := step_below1 hH8 hb9
   refine hK.out _ _ (fun _ => hH9) (fun hNext => ?_)
   replace hNext := hNext (by kernel_rfl)
   clear hK K ht hb9 KT S8 R8 E8 F8 hH8 Y7
   try simp only [Act.put, qa, qb, qc]
   refine tl 13 (v := ?_) rfl (by kernel_rfl) (by rfl) (by assumption) (fun _ _ _ h => h) ?_ ?_
   rotate_left
   · (intro w0 hSw; clear hSw; go_simp; first | done | with_reducible rfl)
   try simp only [Act.put, qa, qb, qc]
   refine anyL_free (i := 14) (v := ?_) rfl (by kernel_rfl) (by kernel_rfl) (by kernel_rfl) (by kernel_rfl) (fun _ _ _ h => h) (Or.inl ⟨by rfl, ?_⟩) (by assumption) ?_
   rotate_left
   · (intro w0 _; go_simp; first | done | with_reducible rfl)
   try simp only [Act.put, qa, qb, qc]
   refine tl 15 (v := ?_) rfl (by kernel_rfl) (by rfl) (by assumption) (fun _ _ _ h => h) ?_ ?_
   rotate_left
   · (intro w0 hSw; clear hSw; go_simp; first | done | with_reducible rfl)
   try simp only [Act.put, qa, qb, qc]
   have yc : ∃ v2 v3, w9.cell? ⟨g1, k * 5 + 2, none⟩ = some v2 ∧ w9.cell? ⟨g1, k * 5 + 3, none⟩ = some v3 := by
    have h2 := row_flat Nb.five ys k _ HX.out 2 _ rfl
    have h3 := row_flat Nb.five ys k _ HX.out 3 _ rfl
    rw [Joins.cell_of_block S9.out.nrow, Joins.cell_of_block S9.out.nrow]
    simp only [List.getElem?_toArray]
    rw [List.getElem?_set_ne (by omega), List.getElem?_set_ne (by omega)]
    exact ⟨_, _, h2, h3⟩
   obtain ⟨v2, v3, y2, y3⟩ := yc
   have fy := fun i => Joins.unfrozen_of_block S9.out.nrow i
   refine anyL_one (i := 16) (by kernel_rfl) rfl (fun K hK => ?_)
   go_simp
   refine hK.out _ _ (fun h => absurd h (by decide +kernel)) (fun _ => ?_)
   clear hK K y2 y3 fy
   try simp only [Act.put, qa, qb, qc]
   refine anyL_done (by kernel_rfl) ?_ _
   refine NoPanic.normal ?_
   try simp only [Act.put, qa, qb, qc]
   have hyT : NodeT w9 ⟨⟨u, sf, wt, up⟩, .slice (some ⟨ge, 0, none⟩) 60 60, .slice (some ⟨gs, 0, none⟩) sf.length sf.length, .slice (some ⟨gt, 0, none⟩) wt.length wt.length⟩ := by
    have hu := own_ents E9.out u rfl
    rw [HU60.out] at hu
    exact ⟨hu, ⟨own_bytes F9.out, own_bytes G9.out, ⟨_, _, _, rfl, Nat.le_refl _⟩, ⟨_, _, _, rfl, Nat.le_refl _⟩⟩⟩
   have HH := ((S9.out.with ⟨hyT, HU60.out⟩).setN (k * 5 + 2) (slnob (some ⟨gs, 0, none⟩) sf.length sf.length)).setN (k * 5 + 3) (slnob (some ⟨gt, 0, none⟩) wt.length wt.length)
   have hyR := HH.nodes _ (List.mem_cons_self ..)
   have HP : Aside (Ap1 w ((w9.setCell ⟨g1, k * 5 + 2, none⟩ (.slice (some ⟨gs, 0, none⟩) sf.length sf.length)).setCell ⟨g1, k * 5 + 3, none⟩ (.slice (some ⟨gt, 0, none⟩) wt.length wt.length)) w.heap.size g1 g2 xs (cs.flatMap Cb.cells) tip t (k + 1)) :=
    Ap1.step HY.out.1 HX.out HY.out.2.1 HY.out.2.2 hyR rfl (HH.more (fun z hz => HH.nodes z (List.mem_cons_of_mem _ hz)) HH.clients) (nput123 HX.out ⟨⟨u, sf, wt, up⟩, .slice (some ⟨ge, 0, none⟩) 60 60, .slice (some ⟨gs, 0, none⟩) sf.length sf.length, .slice (some ⟨gt, 0, none⟩) wt.length wt.length⟩ rfl)
   have hrg9 : w.heap.size + 1 ≠ g1 := hrg
   have RP : Aside (((w9.setCell ⟨g1, k * 5 + 2, none⟩ (.slice (some ⟨gs, 0, none⟩) sf.length sf.length)).setCell ⟨g1, k * 5 + 3, none⟩ (.slice (some ⟨gt, 0, none⟩) wt.length wt.length)).heap[w.heap.size + 1]? = some (boxWZ)) := other_block (other_block R9.out hrg9 _ _) hrg9 _ _
   clear hyT HH hyR S9 R9 E9 F9 G9
   go_wp2
   go_roundw
   case rel => exact ⟨k + 1, by omega, by go_num, HP.out, RP.out⟩
   case measure => simp [intOf]; omega
  · obtain rfl : k = 3 := by omega
   have hl3 := HL3.out.1
   have hyt : ys.take 3 = ys := List.take_of_length_le (by omega)
   have S0 : Aside (WSt w wr w.heap.size g1 g2 (ys.flatMap Nb.cells) tip (cs.flatMap Cb.cells) t ys []) := by rw [hyt] at hS; exact hS
   have R0 : Aside (wr.heap[w.heap.size + 1]? = some (boxWZ)) := hR
   have HYL : Aside (ys.length = 3 ∧ nodesOf ys = nodesOf xs) := ⟨by omega, hnod⟩
   clear hyl hS hrest hnod hR hl3 hyt
   have zb := fun i => Joins.cell_of_block S0.out.box i
   go_wp2
   clear zb
   go_loopw [55] (fun i wq => ∃ k : Nat, k ≤ 3 ∧ i = .int .i64 k ∧ Ap2 w wq w.heap.size g1 g2 cs ys tip t k ∧ wq.heap[w.heap.size + 1]? = some (boxWZ)) (fun i _ => 3 - (intOf i).toNat)
   case atStart => exact ⟨0, Nat.zero_le _, rfl, ⟨cs, rfl, S0.out, fun _ _ _ h => h, rfl⟩, R0.out⟩
   case round =>
    clear S0 R0
    obtain ⟨k, hk, rfl, ⟨ds, hyl, hS, hrest, hnod⟩, hR⟩ := hrel
    by_cases hlt : k < 3
    · obtain ⟨y, hy0⟩ : ∃ y, cs[k]? = some y := ⟨cs[k]'(by have := HL3.out.2; omega), List.getElem?_eq_getElem _⟩
     have hy := hrest k y (Nat.le_refl k) hy0
     have hmem := List.mem_of_getElem? hy0
     have hyt := HW.out.client y hmem
     have hyj := HJR.out y hmem
     obtain ⟨c, v1, v2⟩ := y
     obtain ⟨p1, q1, p2, q2, e1, e2⟩ := bk_slices hyt.1 hyt.2
     simp only at e1 e2
     subst e1 e2
     have KJ : Aside (∀ V, Below w.heap.size w V → Calls Tryz.prog 69 #[.slice p1 c.js.length q1] V fun e w' => ∃ g, e = .returned (.slice (some ⟨g, 0, none⟩) c.js.length c.js.length) ∧ V.heap.size ≤ g ∧ w'.heap[g]? = some (.cells (c.js.flatMap Jb.cells).toArray 120) ∧ Below V.heap.size V w') := fun V hV => wcopyJ _ c.js V (hyt.1.later hV) hyj.1
     have KG : Aside (∀ V, Below w.heap.size w V → Calls Tryz.prog 70 #[.slice p2 c.rs.length q2] V fun e w' => ∃ g, e = .returned (.slice (some ⟨g, 0, none⟩) c.rs.length c.rs.length) ∧ V.heap.size ≤ g ∧ w'.heap[g]? = some (.cells (c.rs.flatMap Rg.cells).toArray 76) ∧ Below V.heap.size V w') := fun V hV => wcopyR _ c.rs V (hyt.2.later hV) hyj.2
     have HX : Aside (ds[k]? = some ⟨c, .slice p1 c.js.length q1, .slice p2 c.rs.length q2⟩) := hy
     have HY : Aside (ds.length = cs.length ∧ (∀ i x, k ≤ i → cs[i]? = some x → ds[i]? = some x) ∧ clientsOf ds = clientsOf cs) := ⟨hyl, hrest, hnod⟩
     have HS : Aside (WSt w wr w.heap.size g1 g2 (ys.flatMap Nb.cells) tip (ds.flatMap Cb.cells) t ys (ds.take k)) := hS
     have HR : Aside (wr.heap[w.heap.size + 1]? = some (boxWZ)) := hR
     have zb := fun i => Joins.cell_of_block hS.box i
     have hki : (k : Int) < 3 := by omega
     have hk0 : (0 : Int) ≤ (k : Int) := by omega
     clear hyl hrest hnod hS hR hy hy0 hmem hyt hyj
     go_upto_region 13 with fail
     clear zb
     have S7 : Aside (WSt w wr.drew w.heap.size g1 g2 (ys.flatMap Nb.cells) tip (ds.flatMap Cb.cells) t ys (ds.take k)) := HS.out.later (Below.refl _ _).drew
     have R7 : Aside (wr.drew.heap[w.heap.size + 1]? = some (boxWZ)) := HR.out
     have Y7 : Aside (wr.drew.cell? ⟨g2, k * 12 + 10, none⟩ = some (.slice p1 c.js.length q1) ∧ wr.drew.cell? ⟨g2, k * 12 + 11, none⟩ = some (.slice p2 c.rs.length q2)) := by
      have h2 := row_flat Cb.twelve ds k _ HX.out 10 _ rfl
      have h3 := row_flat Cb.twelve ds k _ HX.out 11 _ rfl
      rw [Aside, Joins.cell_of_block S7.out.crow, Joins.cell_of_block S7.out.crow]
      simp only [List.getElem?_toArray]
      exact ⟨h2, h3⟩
     clear HS HR
     refine wp_region_noPanic ?_
     refine region_L (fun w' => Below wr.drew.heap.size wr.drew w') 13 (by kernel_rfl) (Below.refl _ _) (fun hHeld => ?_)
     generalize wr.drew = w7 at *
     refine tl 0 (v := ?_) rfl (by kernel_rfl) (by rfl) (by assumption) (fun _ _ _ h => h) ?_ ?_
     rotate_left
     · (intro w0 hSw; clear hSw; go_simp; first | done | with_reducible rfl)
     try simp only [Act.put, qa, qb, qc]
     refine tl 1 (v := ?_) rfl (by kernel_rfl) (by rfl) (by assumption) (fun _ _ _ h => h) ?_ ?_
     rotate_left
     · (intro w0 hSw; clear hSw; go_simp; first | done | with_reducible rfl)
     try simp only [Act.put, qa, qb, qc]
     refine tl 2 (v := ?_) rfl (by kernel_rfl) (by rfl) (by assumption) (fun _ _ _ h => h) ?_ ?_
     rotate_left
     · (intro w0 hSw; clear hSw; go_simp; first | done | with_reducible rfl)
     try simp only [Act.put, qa, qb, qc]
     refine tl 3 (v := ?_) rfl (by kernel_rfl) (by rfl) (by assumption) (fun _ _ _ h => h) ?_ ?_
     rotate_left
     · (intro w0 hSw; clear hSw; go_simp; first | done | with_reducible rfl)
     try simp only [Act.put, qa, qb, qc]
     refine tl 4 (v := ?_) rfl (by kernel_rfl) (by rfl) (by assumption) (fun _ _ _ h => h) ?_ ?_
     rotate_left
     · (intro w0 hSw; have y2 := cell_later hSw Y7.out.1; clear hSw; go_simp; first | done | with_reducible rfl)
     try simp only [Act.put, qa, qb, qc]
     refine tl 6 (v := ?_) rfl (by kernel_rfl) (by rfl) (by assumption) (fun _ _ _ h => h) ?_ ?_
     rotate_left
     · (intro w0 hSw; clear hSw; go_simp; first | done | with_reducible rfl)
     try simp only [Act.put, qa, qb, qc]
     refine tl 7 (v := ?_) rfl (by kernel_rfl) (by rfl) (by assumption) (fun _ _ _ h => h) ?_ ?_
     rotate_left
     · (intro w0 hSw; clear hSw; go_simp; first | done | with_reducible rfl)
     try simp only [Act.put, qa, qb, qc]
     refine tl 8 (v := ?_) rfl (by kernel_rfl) (by rfl) (by assumption) (fun _ _ _ h => h) ?_ ?_
     rotate_left
     · (intro w0 hSw; clear hSw; go_simp; first | done | with_reducible rfl)
     try simp only [Act.put, qa, qb, qc]
     refine tl 9 (v := ?_) rfl (by kernel_rfl) (by rfl) (by assumption) (fun _ _ _ h => h) ?_ ?_
     rotate_left
     · (intro w0 hSw; have y3 := cell_later hSw Y7.out.2; clear hSw; go_simp; first | done | with_reducible rfl)
     try simp only [Act.put, qa, qb, qc]
     refine anyL_one (i := 5) (by kernel_rfl) rfl (fun K hK => ?_)
     go_simp
     refine (KJ.out _ (S7.out.below.whole (Nat.le_refl _) HGW.out.1 HGW.out.2)).mono ?_
     rintro e w8 ⟨gs, rfl, _, hs, hb8⟩
     have S8 : Aside _ := S7.out.later hb8
     have R8 : Aside _ := heap_below R7.out hb8 (heap_lt R7.out)
     have F8 : Aside (w8.heap[gs]? = some (.cells (c.js.flatMap Jb.cells).toArray 120)) := hs
     have hH8 := step_below1 hHeld hb8
     refine hK.out _ _ (fun _ => hH8) (fun hNext => ?_)
     replace hNext := hNext (by kernel_rfl)
     clear hK K hs hb8 KJ S7 R7 hHeld
     try simp only [Act.put, qa, qb, qc]
     refine anyL_one (i := 10) (by kernel_rfl) rfl (fun K hK => ?_)
     go_simp
     refine (KG.out _ (S8.out.below.whole (Nat.le_refl _) HGW.out.1 HGW.out.2)).mono ?_
     rintro e w9 ⟨gt, rfl, _, ht, hb9⟩
     have S9 : Aside _ := S8.out.later hb9
     have R9 : Aside _ := heap_below R8.out hb9 (heap_lt R8.out)
     have F9 : Aside _ := heap_below F8.out hb9 (heap_lt F8.out)
     have G9 : Aside (w9.heap[gt]? = some (.cells (c.rs.flatMap Rg.cells).toArray 76)) := ht
     have hH9 := step_below1 hH8 hb9
     refine hK.out _ _ (fun _ => hH9) (fun hNext => ?_)
     replace hNext := hNext (by kernel_rfl)
     clear hK K ht hb9 KG S8 R8 F8 hH8 Y7
     try simp only [Act.put, qa, qb, qc]
     refine tl 11 (v := ?_) rfl (by kernel_rfl) (by rfl) (by assumption) (fun _ _ _ h => h) ?_ ?_
     rotate_left
     · (intro w0 hSw; clear hSw; go_simp; first | done | with_reducible rfl)
     try simp only [Act.put, qa, qb, qc]
     refine tl 12 (v := ?_) rfl (by kernel_rfl) (by rfl) (by assumption) (fun _ _ _ h => h) ?_ ?_
     rotate_left
     · (intro w0 hSw; clear hSw; go_simp; first | done | with_reducible rfl)
     try simp only [Act.put, qa, qb, qc]
     have yc : ∃ v2 v3, w9.cell? ⟨g2, k * 12 + 10, none⟩ = some v2 ∧ w9.cell? ⟨g2, k * 12 + 11, none⟩ = some v3 := by
      have h2 := row_flat Cb.twelve ds k _ HX.out 10 _ rfl
      have h3 := row_flat Cb.twelve ds k _ HX.out 11 _ rfl
      rw [Joins.cell_of_block S9.out.crow, Joins.cell_of_block S9.out.crow]
      simp only [List.getElem?_toArray]
      exact ⟨_, _, h2, h3⟩
     obtain ⟨v2, v3, y2, y3⟩ := yc
     have fy := fun i => Joins.unfrozen_of_block S9.out.crow i
     refine anyL_one (i := 13) (by kernel_rfl) rfl (fun K hK => ?_)
     go_simp
     refine hK.out _ _ (fun h => absurd h (by decide +kernel)) (fun _ => ?_)
     clear hK K y2 y3 fy
     try simp only [Act.put, qa, qb, qc]
     refine anyL_done (by kernel_rfl) ?_ _
     refine NoPanic.normal ?_
     try simp only [Act.put, qa, qb, qc]
     have hyT : ClientR w9 ⟨c, .slice (some ⟨gs, 0, none⟩) c.js.length c.js.length, .slice (some ⟨gt, 0, none⟩) c.rs.length c.rs.length⟩ :=
      ⟨⟨slOf_lit Jb.three F9.out rfl, slOf_lit Rg.three G9.out rfl⟩, typed_block F9.out _ _ _, typed_block G9.out _ _ _⟩
     have HH := ((S9.out.more (M' := _ :: ds.take k) S9.out.nodes (fun z hz => (List.mem_cons.1 hz).elim (fun e => e ▸ hyT) (S9.out.clients z))).setC (k * 12 + 10) (slnob (some ⟨gs, 0, none⟩) c.js.length c.js.length)).setC (k * 12 + 11) (slnob (some ⟨gt, 0, none⟩) c.rs.length c.rs.length)
     have hyR := HH.clients _ (List.mem_cons_self ..)
     have HP : Aside (Ap2 w ((w9.setCell ⟨g2, k * 12 + 10, none⟩ (.slice (some ⟨gs, 0, none⟩) c.js.length c.js.length)).setCell ⟨g2, k * 12 + 11, none⟩ (.slice (some ⟨gt, 0, none⟩) c.rs.length c.rs.length)) w.heap.size g1 g2 cs ys tip t (k + 1)) :=
      Ap2.step HY.out.1 HX.out HY.out.2.1 HY.out.2.2 hyR rfl (HH.more HH.nodes (fun z hz => HH.clients z (List.mem_cons_of_mem _ hz))) (cput2 HX.out ⟨c, .slice (some ⟨gs, 0, none⟩) c.js.length c.js.length, .slice (some ⟨gt, 0, none⟩) c.rs.length c.rs.length⟩ rfl)
     have hrg9 : w.heap.size + 1 ≠ g2 := fun e => by
      have h1 := R9.out
      have h2 := S9.out.crow
      rw [e, h2] at h1; injection h1 with h1; injection h1 with _ h3; cases h3
     have RP : Aside (((w9.setCell ⟨g2, k * 12 + 10, none⟩ (.slice (some ⟨gs, 0, none⟩) c.js.length c.js.length)).setCell ⟨g2, k * 12 + 11, none⟩ (.slice (some ⟨gt, 0, none⟩) c.rs.length c.rs.length)).heap[w.heap.size + 1]? = some (boxWZ)) := other_block (other_block R9.out hrg9 _ _) hrg9 _ _
     clear hyT HH hyR S9 R9 F9 G9
     go_wp2
     go_roundw
     case rel =>
      refine ⟨_, _, _, _, _, _, _, _, _, _, _, _, _, _, _, _, _, _, _, _, _, _, _, _, ⟨k + 1, by omega, ?_, HP.out, RP.out⟩, rfl⟩
      go_num
     case measure => simp [intOf]; omega
    · obtain rfl : k = 3 := by omega
     have hl3 := HL3.out.2
     have hdt : ds.take 3 = ds := List.take_of_length_le (by omega)
     rw [hdt] at hS
     have SZ : Aside (WSt w wr w.heap.size g1 g2 (ys.flatMap Nb.cells) tip (ds.flatMap Cb.cells) t ys ds) := hS
     have HDL : Aside (ds.length = 3 ∧ clientsOf ds = clientsOf cs) := ⟨by omega, hnod⟩
     have RZ : Aside (wr.heap[w.heap.size + 1]? = some (boxWZ)) := hR
     clear hyl hS hrest hnod hR hl3 hdt
     have zb := fun i => Joins.cell_of_block SZ.out.box i
     have zr := fun i => Joins.cell_of_block RZ.out i
     have fr := fun i => Joins.unfrozen_of_block RZ.out i
     go_wp2
     refine ret1_world (p := 2) Tryz.results23 rfl rfl (stW_box RZ.out (.slice (some ⟨g1, 0, none⟩) 3 3) tip (.slice (some ⟨g2, 0, none⟩) 3 3) t) ?_
     have hne1 : g1 ≠ w.heap.size + 1 := fun e => by
      have h1 := RZ.out
      have h2 := SZ.out.nrow
      rw [← e, h2] at h1; injection h1 with h1; injection h1 with _ h3; cases h3
     have hne2 : g2 ≠ w.heap.size + 1 := fun e => by
      have h1 := RZ.out
      have h2 := SZ.out.crow
      rw [← e, h2] at h1; injection h1 with h1; injection h1 with _ h3; cases h3
     exact ⟨g1, g2, ys, ds, rfl, wrow_st RZ.out SZ.out hne1 hne2 (by omega) HGW.out.1 HGW.out.2 (SZ.out.below.whole (Nat.le_refl _) HGW.out.1 HGW.out.2) HYL.out.1 HDL.out.1 tip t, HYL.out.2, HDL.out.2⟩
section
open scoped Classical
def WOut (X w : World) (vn vc : Value) (W : Wd) : Prop :=
 (vn = .slice none 0 0 ∧ vc = .slice none 0 0 ∧ W = Wd.zero) ∨ ∃ g1 g2 ys ds, vn = .slice (some ⟨g1, 0, none⟩) 3 3 ∧ vc = .slice (some ⟨g2, 0, none⟩) 3 3 ∧ WRow X w g1 g2 ys ds ∧ nodesOf ys = W.ns ∧ clientsOf ds = W.cs
abbrev AnsWd (f : FuncId) (args : Array Value) (w : World) (r : Wd × Int) : Prop :=
 Calls Tryz.prog f args w fun e w' => ∃ vn vc, e = .returned (.tuple #[wval vn r.1.tip vc r.1.t, .int .i64 r.2]) ∧ WOut w w' vn vc r.1 ∧ Below w.heap.size w w'
theorem ret2_world {fn : Func} {R : Ending → World → Prop} {a : Act} {W : World} {b p q : Nat} {vn vc y : Value} {tip t : Int} (hf : fn.results = #[.cell p 25, .tmp q]) (hd : a.defers = [])
  (h2 : a.tmps.getD p undef = .pointer (some ⟨b, 0, none⟩)) (h3 : a.tmps.getD q undef = y) (hR : W.heap[b]? = some (boxW vn tip vc t)) (hp : R (.returned (.tuple #[wval vn tip vc t, y])) W) : bodyPost Tryz.prog fn R .ret a W := by
 have c0 := fun i => Joins.cell_of_block hR i
 refine bodyPost_ret (v := .tuple #[wval vn tip vc t, y]) ?_ hd hp
 simp only [results, hf]
 simp at h2 h3
 simp [go_sem, c0, h2, h3]
theorem WSt.rebase {X X' w : World} {B g1 g2 : Nat} {NC CC : List Value} {tip t : Int} {L : List Nb} {M : List Cb} (h : WSt X' w B g1 g2 NC tip CC t L M) (hb : Below X.heap.size X X') : WSt X w B g1 g2 NC tip CC t L M :=
 ⟨h.box, h.nrow, h.crow, h.nlen, h.clen, h.nby, h.cby, h.nodes, h.clients, (BelowX.of hb B g1 g2).trans h.below⟩
theorem row_len5 (xs : List Nb) (h : xs.length = 3) : (xs.flatMap Nb.cells).length = 15 := by
 match xs, h with
 | [_, _, _], _ => rfl
theorem row_len12 (cs : List Cb) (h : cs.length = 3) : (cs.flatMap Cb.cells).length = 36 := by
 match cs, h with
 | [_, _, _], _ => rfl
theorem do_wrong (vn vc : Value) (xs : List Nb) (cs : List Cb) (tip t : Int) (x : Hp) (w : World) (hL : Laid w) (h : WdAt w vn vc xs cs) (hf : WdFits xs cs) (d : Int) (hd : (wdOf xs tip cs t).ck = d) (hz : d ≠ 0) :
  AnsWd 9 #[wval vn tip vc t, x.val] w (Wd.zero, d) := by
 obtain ⟨a1, n1, c1, rfl⟩ := slOf_sl h.rowN
 obtain ⟨a2, n2, c2, rfl⟩ := slOf_sl h.rowC
 have hB0 : Below w.heap.size w (((w.alloc (boxW (.slice a1 n1 c1) tip (.slice a2 n2 c2) t)).alloc (boxH x)).alloc boxWZ) := grew (grew (grew (Below.refl _ _) _) _) _
 have HB0 : Aside (Below w.heap.size w (((w.alloc (boxW (.slice a1 n1 c1) tip (.slice a2 n2 c2) t)).alloc (boxH x)).alloc boxWZ)) := hB0
 have HX0 : Aside ((((w.alloc (boxW (.slice a1 n1 c1) tip (.slice a2 n2 c2) t)).alloc (boxH x)).alloc boxWZ).heap[w.heap.size]? = some (boxW (.slice a1 n1 c1) tip (.slice a2 n2 c2) t)) := heap_old (heap_old (heap_new _ _) _) _
 have HY0 : Aside ((((w.alloc (boxW (.slice a1 n1 c1) tip (.slice a2 n2 c2) t)).alloc (boxH x)).alloc boxWZ).heap[w.heap.size + 1 + 1]? = some boxWZ) := by
  have := heap_new ((w.alloc (boxW (.slice a1 n1 c1) tip (.slice a2 n2 c2) t)).alloc (boxH x)) boxWZ
  rwa [World.size_alloc, World.size_alloc] at this
 have kd := w_check (.slice a1 n1 c1) (.slice a2 n2 c2) xs cs tip t (((w.alloc (boxW (.slice a1 n1 c1) tip (.slice a2 n2 c2) t)).alloc (boxH x)).alloc boxWZ) (hL.later hB0) (h.later hB0) hf
 rw [hd] at kd
 have hdb : (d != 0) = true := by rw [bne_iff_ne]; exact hz
 clear hL h hf hd hz hB0
 go_enter Tryz.func9, Tryz.ntmps9
 go_upto_region 1 with fail
 generalize ((w.alloc (boxW (.slice a1 n1 c1) tip (.slice a2 n2 c2) t)).alloc (boxH x)).alloc boxWZ = W0 at *
 have z := fun i => Joins.cell_of_block HX0.out i
 go_wp2_with fail
 refine kd.mono ?_
 rintro e w1 ⟨rfl, hb1⟩
 have HB1 : Aside _ := step_below1 HB0.out hb1
 have HY1 : Aside _ := heap_below HY0.out hb1 (heap_lt HY0.out)
 clear kd z HB0 HX0 HY0 hb1
 have y1 := fun i => Joins.cell_of_block HY1.out i
 have f1 := fun i => Joins.unfrozen_of_block HY1.out i
 go_wp2
 exact ret2_world (p := 4) (q := 5) Tryz.results9 rfl rfl rfl (stW_box HY1.out (.slice none 0 0) 0 (.slice none 0 0) 0) ⟨_, _, rfl, Or.inl ⟨rfl, rfl, rfl⟩, stW_below HB1.out (by omega) _ _ _ _⟩
theorem do_good (a1 a2 : Option Addr) (c1 c2 : Nat) (xs : List Nb) (cs : List Cb) (tip t : Int) (x : Hp) (w : World) (hL : Laid w) (h : WdAt w (.slice a1 3 c1) (.slice a2 3 c2) xs cs) (hf : WdFits xs cs) (hz : (wdOf xs tip cs t).ck = 0)
  (h60 : ∀ x, x ∈ xs → x.n.u.cells.length = 60 ∧ x.n.s.length ≤ 1000000 ∧ x.n.w.length ≤ 1000000) (hjr : ∀ x, x ∈ cs → x.c.js.length ≤ 1000000 ∧ x.c.rs.length ≤ 1000000) (W' : Wd) (q : Int) (hq : happened (wdOf xs tip cs t) x = (W', q)) :
  AnsWd 9 #[wval (.slice a1 3 c1) tip (.slice a2 3 c2) t, x.val] w (if q ≠ 0 then (Wd.zero, q) else (W', 0)) := by
 have hB0 : Below w.heap.size w (((w.alloc (boxW (.slice a1 3 c1) tip (.slice a2 3 c2) t)).alloc (boxH x)).alloc boxWZ) := grew (grew (grew (Below.refl _ _) _) _) _
 have HB0 : Aside (Below w.heap.size w (((w.alloc (boxW (.slice a1 3 c1) tip (.slice a2 3 c2) t)).alloc (boxH x)).alloc boxWZ)) := hB0
 have HX0 : Aside ((((w.alloc (boxW (.slice a1 3 c1) tip (.slice a2 3 c2) t)).alloc (boxH x)).alloc boxWZ).heap[w.heap.size]? = some (boxW (.slice a1 3 c1) tip (.slice a2 3 c2) t)) := heap_old (heap_old (heap_new _ _) _) _
 have HH0 : Aside ((((w.alloc (boxW (.slice a1 3 c1) tip (.slice a2 3 c2) t)).alloc (boxH x)).alloc boxWZ).heap[w.heap.size + 1]? = some (boxH x)) := by
  have := heap_new (w.alloc (boxW (.slice a1 3 c1) tip (.slice a2 3 c2) t)) (boxH x)
  rw [World.size_alloc] at this
  exact heap_old this _
 have HY0 : Aside ((((w.alloc (boxW (.slice a1 3 c1) tip (.slice a2 3 c2) t)).alloc (boxH x)).alloc boxWZ).heap[w.heap.size + 1 + 1]? = some (.cells #[.slice none 0 0, .int .i64 0, .slice none 0 0, .int .i64 0] 25)) := by
  have := heap_new ((w.alloc (boxW (.slice a1 3 c1) tip (.slice a2 3 c2) t)).alloc (boxH x)) boxWZ
  rwa [World.size_alloc, World.size_alloc] at this
 have kd := w_check (.slice a1 3 c1) (.slice a2 3 c2) xs cs tip t (((w.alloc (boxW (.slice a1 3 c1) tip (.slice a2 3 c2) t)).alloc (boxH x)).alloc boxWZ) (hL.later hB0) (h.later hB0) hf
 rw [hz] at kd
 have kA : Aside (∀ V, Below w.heap.size w V → Calls Tryz.prog 23 #[wval (.slice a1 3 c1) tip (.slice a2 3 c2) t] V fun e w' => ∃ g1 g2 ys ds, e = .returned (wval (.slice (some ⟨g1, 0, none⟩) 3 3) tip (.slice (some ⟨g2, 0, none⟩) 3 3) t) ∧ WRow V w' g1 g2 ys ds ∧ nodesOf ys = nodesOf xs ∧ clientsOf ds = clientsOf cs) := fun V hV => w_apart_at a1 a2 c1 c2 xs cs tip t V (h.later hV) h60 hjr
 have KL : Aside (∀ V, Below w.heap.size w V → Laid V) := fun V hV => hL.later hV
 have HRW : Hid (RW (wdOf xs tip cs t)) := rw_iff.1 hz
 have HQ : Hid (happened (wdOf xs tip cs t) x = (W', q)) := hq
 obtain ⟨R, HR⟩ : ∃ R, Hid ((if q ≠ 0 then (Wd.zero, q) else (W', 0)) = R) := ⟨_, rfl⟩
 rw [HR.out]
 clear hL h hf hz hB0 h60 hjr hq
 go_enter Tryz.func9, Tryz.ntmps9
 go_upto_region 1 with fail
 generalize ((w.alloc (boxW (.slice a1 3 c1) tip (.slice a2 3 c2) t)).alloc (boxH x)).alloc boxWZ = W0 at *
 have z := fun i => Joins.cell_of_block HX0.out i
 go_wp2_with fail
 refine kd.mono ?_
 rintro e w1 ⟨rfl, hb1⟩
 have HB1 : Aside _ := step_below1 HB0.out hb1
 have HX1 : Aside _ := heap_below HX0.out hb1 (heap_lt HX0.out)
 have HH1 : Aside _ := heap_below HH0.out hb1 (heap_lt HH0.out)
 have HY1 : Aside _ := heap_below HY0.out hb1 (heap_lt HY0.out)
 clear kd z HB0 HX0 HH0 HY0 hb1
 have z := fun i => Joins.cell_of_block HX1.out i
 have ka := kA.out w1 HB1.out
 go_wp2_with fail
 refine ka.mono ?_
 rintro e w2 ⟨g1, g2, ys, ds, rfl, hR, hn, hc⟩
 have hA : Below w2.heap.size w2 (w2.alloc (boxW (.slice (some ⟨g1, 0, none⟩) 3 3) tip (.slice (some ⟨g2, 0, none⟩) 3 3) t)) := grew (Below.refl _ _) _
 have HB3 : Aside _ := step_below1 hR.below hA
 have HW3 : Aside (WHas w1 (w2.alloc (boxW (.slice (some ⟨g1, 0, none⟩) 3 3) tip (.slice (some ⟨g2, 0, none⟩) 3 3) t)) w2.heap.size g1 g2 (wdOf xs tip cs t)) :=
  ⟨ys, ds, ⟨⟨heap_new _ _, heap_old hR.nrow _, heap_old hR.crow _, row_len5 ys hR.three, row_len12 ds hR.three', noByte_nodes hR.nodes, noByte_clients hR.clients, fun y hy => ⟨(hR.nodes y hy).1.later hA, (hR.nodes y hy).2⟩, fun y hy => bkT_later (hR.clients y hy) hA, BelowX.of (step_below1 hR.below hA) _ _ _⟩, hR.three, hR.three'⟩, hn, hc⟩
 have HH3 : Aside _ := heap_below HH1.out HB3.out (heap_lt HH1.out)
 have hlt : w.heap.size + 1 + 1 < w1.heap.size := heap_lt HY1.out
 have HBS : Hid (w1.heap.size ≤ w2.heap.size ∧ w1.heap.size ≤ g1 ∧ w1.heap.size ≤ g2) := ⟨hR.below.size, hR.base1, hR.base2⟩
 clear ka z hR hn hc hA HX1 HH1
 go_upto_region 5 with fail
 generalize w2.alloc (boxW (.slice (some ⟨g1, 0, none⟩) 3 3) tip (.slice (some ⟨g2, 0, none⟩) 3 3) t) = W3 at *
 generalize w2.heap.size = B at *
 have kh := w_happen (KL.out W3 (step_below1 HB1.out HB3.out)) HRW.out HW3.out x
 rw [HQ.out] at kh
 have zh := fun i => Joins.cell_of_block HH3.out i
 go_wp2_with fail
 refine kh.mono ?_
 rintro e w4 ⟨rfl, hW4⟩
 dsimp only at hW4
 have HW4 : Aside (WHas w1 w4 B g1 g2 W') := hW4
 obtain ⟨zs, es, hI, hzn, hzc⟩ := hW4
 have HI : Aside (WIn w1 w4 B g1 g2 zs W'.tip es W'.t) := hI
 have HZN : Hid (nodesOf zs = W'.ns ∧ clientsOf es = W'.cs) := ⟨hzn, hzc⟩
 have HY4 : Aside _ := heap_below HY1.out (hI.st.below.whole HBS.out.1 HBS.out.2.1 HBS.out.2.2) hlt
 have HB4 : Aside _ := step_below1 HB1.out (hI.st.below.whole HBS.out.1 HBS.out.2.1 HBS.out.2.2)
 clear kh zh hI hzn hzc HW3 HH3 HB3
 have y4 := fun i => Joins.cell_of_block HY4.out i
 have f4 := fun i => Joins.unfrozen_of_block HY4.out i
 by_cases hq0 : q = 0
 · subst hq0
  have z4 := fun i => Joins.cell_of_block HI.out.st.box i
  have hne1 : g1 ≠ w.heap.size + 1 + 1 := fun e => by
   have h1 := HBS.out.2.1; omega
  have hne2 : g2 ≠ w.heap.size + 1 + 1 := fun e => by
   have h1 := HBS.out.2.2; omega
  have HN12 : Hid (g1 ≠ w.heap.size + 1 + 1 ∧ g2 ≠ w.heap.size + 1 + 1) := ⟨hne1, hne2⟩
  clear hne1 hne2
  obtain rfl : R = (W', 0) := by rw [← HR.out, if_neg (by simp)]
  go_wp2
  exact ret2_world (p := 4) (q := 5) Tryz.results9 rfl rfl rfl (stW_box HY4.out (.slice (some ⟨g1, 0, none⟩) 3 3) W'.tip (.slice (some ⟨g2, 0, none⟩) 3 3) W'.t) ⟨_, _, rfl, Or.inr ⟨g1, g2, zs, es, rfl, rfl, wrow_st HY4.out (HI.out.st.rebase HB1.out) HN12.out.1 HN12.out.2 (by omega) (Nat.le_trans HB1.out.size HBS.out.2.1) (Nat.le_trans HB1.out.size HBS.out.2.2) HB4.out HI.out.three HI.out.three' _ _, HZN.out.1, HZN.out.2⟩, stW_below HB4.out (by omega) _ _ _ _⟩
 · have hqb : (q != 0) = true := by rw [bne_iff_ne]; exact hq0
  obtain rfl : R = (Wd.zero, q) := by rw [← HR.out, if_pos hq0]
  clear hq0 HR
  go_wp2
  exact ret2_world (p := 4) (q := 5) Tryz.results9 rfl rfl rfl (stW_box HY4.out (.slice none 0 0) 0 (.slice none 0 0) 0) ⟨_, _, rfl, Or.inl ⟨rfl, rfl, rfl⟩, stW_below HB4.out (by omega) _ _ _ _⟩
end
section
open scoped Classical
theorem ck_short {n : Nd} (h : n.ck = 0) : n.s.length ≤ 1000000 ∧ n.w.length ≤ 1000000 := by
 have h1 : ckDisk n.s n.w = 0 := by
  by_cases h1 : ckDisk n.s n.w = 0
  · exact h1
  · rw [Nd.ck, if_pos h1] at h; exact absurd h h1
 have := (ckDisk_zero.1 h1).1
 omega
theorem ckC_short {c : Cl} (h : c.ck = 0) : c.js.length ≤ 1000000 ∧ c.rs.length ≤ 1000000 := by
 have := (Cl.ck_zero.1 h).2.2.2
 exact ⟨Nat.le_trans this.few (by decide), Nat.le_trans this.room (by decide)⟩
theorem w_do (vn vc : Value) (xs : List Nb) (cs : List Cb) (tip t : Int) (x : Hp) (w : World) (hL : Laid w) (h : WdAt w vn vc xs cs) (hf : WdFits xs cs) :
  AnsWd 9 #[wval vn tip vc t, x.val] w (doOf (wdOf xs tip cs t) x) := by
 by_cases hz : (wdOf xs tip cs t).ck = 0
 · have hR := rw_iff.1 hz
  obtain ⟨a1, n1, c1, rfl⟩ := slOf_sl h.rowN
  obtain ⟨a2, n2, c2, rfl⟩ := slOf_sl h.rowC
  obtain rfl : n1 = 3 := by have := hR.ns3; rw [show (wdOf xs tip cs t).ns.length = xs.length from List.length_map ..] at this; rw [← SlOf.len h.rowN]; exact this
  obtain rfl : n2 = 3 := by have := hR.cs3; rw [show (wdOf xs tip cs t).cs.length = cs.length from List.length_map ..] at this; rw [← SlOf.len h.rowC]; exact this
  have hn : ∀ x, x ∈ xs → x.n.ck = 0 := fun y hy => by
   obtain ⟨k, hk⟩ := List.getElem?_of_mem hy
   exact hR.node k y.n (nodes_at hk)
  have hc : ∀ x, x ∈ cs → x.c.ck = 0 := fun y hy => hR.client y.c (List.mem_map_of_mem hy)
  have := do_good a1 a2 c1 c2 xs cs tip t x w hL h hf hz (fun y hy => ⟨(ckN_ok (hn y hy)).2.2, ck_short (hn y hy)⟩) (fun y hy => ckC_short (hc y hy)) (happened (wdOf xs tip cs t) x).1 (happened (wdOf xs tip cs t) x).2 rfl
  have e : doOf (wdOf xs tip cs t) x = if (happened (wdOf xs tip cs t) x).2 ≠ 0 then (Wd.zero, (happened (wdOf xs tip cs t) x).2) else ((happened (wdOf xs tip cs t) x).1, 0) := by
   rw [doOf, if_neg (not_not_intro hz)]
   by_cases hq : (happened (wdOf xs tip cs t) x).2 = 0
   · rw [if_neg (not_not_intro hq), if_neg (not_not_intro hq), ← hq]
   · rw [if_pos hq, if_pos hq]
  rw [e]
  exact this
 · have e : doOf (wdOf xs tip cs t) x = (Wd.zero, (wdOf xs tip cs t).ck) := by rw [doOf, if_pos hz]
  rw [e]
  exact do_wrong vn vc xs cs tip t x w hL h hf _ rfl hz
end
section
open scoped Classical
def erC (q : Int) : List Value := [.int .i64 q]
theorem erC_one (q : Int) : (erC q).length = 1 := rfl
abbrev ErSl (w : World) (v : Value) (l : List Int) : Prop := SlOf erC 1 w v l
theorem erC_map : ∀ es : List Int, es.flatMap erC = es.map (Value.int .i64)
 | [] => rfl
 | q :: r => by rw [List.flatMap_cons, erC_map r]; rfl
theorem infoEr : (Tryz.prog.info? 30).map (fun i => (i.zero, i.size, i.bytes)) = some (some (Value.int .i64 0), 1, 8) := by kernel_rfl
end
section
open scoped Classical
theorem noByte_er (es : List Int) : NoByte (es.map (Value.int .i64)) := fun x hx => by
 obtain ⟨q, _, hq⟩ := List.mem_map.1 hx
 cases hq
theorem BelowX.far {B g1 g2 : Nat} {X w : World} (h : BelowX B g1 g2 X w) {p : Addr} (hp : X.heap.size ≤ p.block) (u : Value) : BelowX B g1 g2 X (w.setCell p u) :=
 ⟨h.os, h.tape, h.output, Nat.le_trans h.size (by simp [World.setCell]), fun k hk n1 n2 n3 => (Below.heap_setCell _ _ _ _ (by omega)).trans (h.block k hk n1 n2 n3)⟩
theorem WSt.setS {X w : World} {B g1 g2 : Nat} {NC CC : List Value} {tip t : Int} {L : List Nb} {M : List Cb} (h : WSt X w B g1 g2 NC tip CC t L M) {Q : Nat} {l : List Value} {T : TypeId} (hq : w.heap[Q]? = some (.cells l.toArray T)) (hnb : NoByte l) (hs : l.length < 300)
  (hj : 120 ≠ T) (hr : 76 ≠ T) (hB : Q ≠ B) (h1 : Q ≠ g1) (h2 : Q ≠ g2) (hX : X.heap.size ≤ Q) (i : Nat) (v : Value) : WSt X (w.setCell ⟨Q, i, none⟩ v) B g1 g2 NC tip CC t L M :=
 ⟨other_block h.box hB.symm i v, other_block h.nrow h1.symm i v, other_block h.crow h2.symm i v, h.nlen, h.clen, h.nby, h.cby,
  fun x hx => node_off (h.nodes x hx) hq (by simpa using hs) (fun x hx => hnb x (by simpa using hx)) i v, fun x hx => client_off (h.clients x hx) hq hj hr i v, h.below.far (by exact hX) _⟩
theorem WHas.below {X w : World} {B g1 g2 : Nat} {W : Wd} (h : WHas X w B g1 g2 W) : BelowX B g1 g2 X w := by
 obtain ⟨xs, cs, h1, _⟩ := h
 exact h1.st.below
theorem WHas.self {X w : World} {B g1 g2 : Nat} {W : Wd} (h : WHas X w B g1 g2 W) : WHas w w B g1 g2 W := by
 obtain ⟨xs, cs, ⟨⟨a, b, c, d, e, f, g, i, j, _⟩, h3, h4⟩, h2⟩ := h
 exact ⟨xs, cs, ⟨⟨a, b, c, d, e, f, g, i, j, BelowX.refl _ _ _ _⟩, h3, h4⟩, h2⟩
theorem WHas.past {X V w : World} {B g1 g2 : Nat} {W : Wd} (h : WHas V w B g1 g2 W) (hb : BelowX B g1 g2 X V) : WHas X w B g1 g2 W := by
 obtain ⟨xs, cs, ⟨⟨a, b, c, d, e, f, g, i, j, k⟩, h3, h4⟩, h2⟩ := h
 exact ⟨xs, cs, ⟨⟨a, b, c, d, e, f, g, i, j, hb.trans k⟩, h3, h4⟩, h2⟩
structure SaidAt (X wr : World) (B g1 g2 Q : Nat) (W : Wd) (l : List Hp) (n k : Nat) : Prop where
 has : WHas X wr B g1 g2 (runL W (l.take k)).1
 row : ∃ es : List Int, wr.heap[Q]? = some (.cells (es.map (Value.int .i64)).toArray 30) ∧ es.length = n ∧ es.take k = (runL W (l.take k)).2
 far : X.heap.size ≤ Q
 nB : Q ≠ B
 n1 : Q ≠ g1
 n2 : Q ≠ g2
theorem SaidAt.later {X wr w' : World} {B g1 g2 Q : Nat} {W : Wd} {l : List Hp} {n k : Nat} (h : SaidAt X wr B g1 g2 Q W l n k) (hb : Below wr.heap.size wr w') : SaidAt X w' B g1 g2 Q W l n k := by
 obtain ⟨es, h1, h2, h3⟩ := h.row
 exact ⟨h.has.later hb, ⟨es, heap_below h1 hb (heap_lt h1), h2, h3⟩, h.far, h.nB, h.n1, h.n2⟩
theorem SaidAt.step {X V w2 : World} {B g1 g2 Q : Nat} {W : Wd} {l : List Hp} {n k : Nat} (h : SaidAt X V B g1 g2 Q W l n k) (hn : n ≤ 150) (hk : k < n) {x : Hp} (hx : l[k]? = some x) (h2 : WHas V w2 B g1 g2 (happened (runL W (l.take k)).1 x).1) :
  (∃ v, w2.cell? ⟨Q, k, none⟩ = some v) ∧ w2.frozen? ⟨Q, k, none⟩ = false ∧ SaidAt X (w2.setCell ⟨Q, k, none⟩ (.int .i64 (happened (runL W (l.take k)).1 x).2)) B g1 g2 Q W l n (k + 1) := by
 obtain ⟨es, e1, e2, e3⟩ := h.row
 have hq : w2.heap[Q]? = some (.cells (es.map (Value.int .i64)).toArray 30) := by
  rw [h2.below.block Q (heap_lt e1) h.nB h.n1 h.n2]; exact e1
 have hrun : runL W (l.take (k + 1)) = ((happened (runL W (l.take k)).1 x).1, (runL W (l.take k)).2 ++ [(happened (runL W (l.take k)).1 x).2]) := by
  rw [List.take_add_one, hx]
  exact runL_snoc _ _ _
 refine ⟨⟨.int .i64 (es[k]'(by omega)), ?_⟩, Joins.unfrozen_of_block hq k, ?_⟩
 · rw [Joins.cell_of_block hq]
  simp
 refine ⟨?_, ⟨es.set k (happened (runL W (l.take k)).1 x).2, ?_, by rw [List.length_set]; exact e2, ?_⟩, h.far, h.nB, h.n1, h.n2⟩
 · rw [hrun]
  obtain ⟨xs, cs, hi, i2, i3⟩ := h2.past h.has.below
  exact ⟨xs, cs, ⟨hi.st.setS hq (noByte_er es) (by rw [List.length_map]; omega) (by decide) (by decide) h.nB h.n1 h.n2 h.far k _, hi.three, hi.three'⟩, i2, i3⟩
 · rw [List.map_set]
  exact block_put hq k _
 · rw [hrun, List.take_add_one, List.getElem?_set_self (by omega), List.take_set_of_le (Nat.le_refl k), e3]
  rfl
def SaidO (X w : World) (v : Value) (es : List Int) : Prop := (v = .slice none 0 0 ∧ es = []) ∨ ∃ Q, v = .slice (some ⟨Q, 0, none⟩) es.length es.length ∧ X.heap.size ≤ Q ∧ w.heap[Q]? = some (.cells (es.map (Value.int .i64)).toArray 30)
theorem SaidO.sl {X w : World} {v : Value} {es : List Int} (h : SaidO X w v es) : ErSl w v es := by
 rcases h with ⟨rfl, rfl⟩ | ⟨Q, rfl, _, h⟩
 · exact SlOf.nil _ _
 · rw [← erC_map] at h
  exact slOf_lit erC_one h rfl
abbrev AnsRun (f : FuncId) (args : Array Value) (w : World) (r : Wd × List Int × Int) : Prop :=
 Calls Tryz.prog f args w fun e w' => ∃ vn vc sv, e = .returned (.tuple #[wval vn r.1.tip vc r.1.t, sv, .int .i64 r.2.2]) ∧ WOut w w' vn vc r.1 ∧ SaidO w w' sv r.2.1 ∧ Below w.heap.size w w'
theorem ret3_world {fn : Func} {R : Ending → World → Prop} {a : Act} {W : World} {b p q s : Nat} {vn vc y z : Value} {tip t : Int} (hf : fn.results = #[.cell p 25, .tmp q, .tmp s]) (hd : a.defers = [])
  (h2 : a.tmps.getD p undef = .pointer (some ⟨b, 0, none⟩)) (h3 : a.tmps.getD q undef = y) (h4 : a.tmps.getD s undef = z) (hR : W.heap[b]? = some (boxW vn tip vc t)) (hp : R (.returned (.tuple #[wval vn tip vc t, y, z])) W) : bodyPost Tryz.prog fn R .ret a W := by
 have c0 := fun i => Joins.cell_of_block hR i
 refine bodyPost_ret (v := .tuple #[wval vn tip vc t, y, z]) ?_ hd hp
 simp only [results, hf]
 simp at h2 h3 h4
 simp [go_sem, c0, h2, h3, h4]
theorem run_wrong (vn vc : Value) (xs : List Nb) (cs : List Cb) (tip t : Int) (a : Option Addr) (n c : Nat) (w : World) (hL : Laid w) (h : WdAt w vn vc xs cs) (hf : WdFits xs cs) (d : Int) (hd : (wdOf xs tip cs t).ck = d) (hz : d ≠ 0) :
  AnsRun 17 #[wval vn tip vc t, .slice a n c] w (Wd.zero, [], d) := by
 obtain ⟨a1, n1, c1, rfl⟩ := slOf_sl h.rowN
 obtain ⟨a2, n2, c2, rfl⟩ := slOf_sl h.rowC
 have hB0 : Below w.heap.size w ((w.alloc (boxW (.slice a1 n1 c1) tip (.slice a2 n2 c2) t)).alloc boxWZ) := grew (grew (Below.refl _ _) _) _
 have HB0 : Aside (Below w.heap.size w ((w.alloc (boxW (.slice a1 n1 c1) tip (.slice a2 n2 c2) t)).alloc boxWZ)) := hB0
 have HX0 : Aside (((w.alloc (boxW (.slice a1 n1 c1) tip (.slice a2 n2 c2) t)).alloc boxWZ).heap[w.heap.size]? = some (boxW (.slice a1 n1 c1) tip (.slice a2 n2 c2) t)) := heap_old (heap_new _ _) _
 have HY0 : Aside (((w.alloc (boxW (.slice a1 n1 c1) tip (.slice a2 n2 c2) t)).alloc boxWZ).heap[w.heap.size + 1]? = some boxWZ) := by
  have := heap_new (w.alloc (boxW (.slice a1 n1 c1) tip (.slice a2 n2 c2) t)) boxWZ
  rwa [World.size_alloc] at this
 have kd := w_check (.slice a1 n1 c1) (.slice a2 n2 c2) xs cs tip t ((w.alloc (boxW (.slice a1 n1 c1) tip (.slice a2 n2 c2) t)).alloc boxWZ) (hL.later hB0) (h.later hB0) hf
 rw [hd] at kd
 have hdb : (d != 0) = true := by rw [bne_iff_ne]; exact hz
 clear hL h hf hd hz hB0
 go_enter Tryz.func17, Tryz.ntmps17
 go_upto_region 1 with fail
 generalize (w.alloc (boxW (.slice a1 n1 c1) tip (.slice a2 n2 c2) t)).alloc boxWZ = W0 at *
 have z := fun i => Joins.cell_of_block HX0.out i
 go_wp2_with fail
 refine kd.mono ?_
 rintro e w1 ⟨rfl, hb1⟩
 have HB1 : Aside _ := step_below1 HB0.out hb1
 have HY1 : Aside _ := heap_below HY0.out hb1 (heap_lt HY0.out)
 clear kd z HB0 HX0 HY0 hb1
 have y1 := fun i => Joins.cell_of_block HY1.out i
 have f1 := fun i => Joins.unfrozen_of_block HY1.out i
 go_wp2
 exact ret3_world (p := 4) (q := 5) (s := 6) Tryz.results17 rfl rfl rfl rfl (stW_box HY1.out (.slice none 0 0) 0 (.slice none 0 0) 0) ⟨_, _, _, rfl, Or.inl ⟨rfl, rfl, rfl⟩, Or.inl ⟨rfl, rfl⟩, stW_below HB1.out (by omega) _ _ _ _⟩
theorem run_many (vn vc : Value) (xs : List Nb) (cs : List Cb) (tip t : Int) (a : Option Addr) (n c : Nat) (w : World) (hL : Laid w) (h : WdAt w vn vc xs cs) (hf : WdFits xs cs) (hz : (wdOf xs tip cs t).ck = 0) (hn : 150 < (n : Int)) :
  AnsRun 17 #[wval vn tip vc t, .slice a n c] w (Wd.zero, [], 2) := by
 obtain ⟨a1, n1, c1, rfl⟩ := slOf_sl h.rowN
 obtain ⟨a2, n2, c2, rfl⟩ := slOf_sl h.rowC
 have hB0 : Below w.heap.size w ((w.alloc (boxW (.slice a1 n1 c1) tip (.slice a2 n2 c2) t)).alloc boxWZ) := grew (grew (Below.refl _ _) _) _
 have HB0 : Aside (Below w.heap.size w ((w.alloc (boxW (.slice a1 n1 c1) tip (.slice a2 n2 c2) t)).alloc boxWZ)) := hB0
 have HX0 : Aside (((w.alloc (boxW (.slice a1 n1 c1) tip (.slice a2 n2 c2) t)).alloc boxWZ).heap[w.heap.size]? = some (boxW (.slice a1 n1 c1) tip (.slice a2 n2 c2) t)) := heap_old (heap_new _ _) _
 have HY0 : Aside (((w.alloc (boxW (.slice a1 n1 c1) tip (.slice a2 n2 c2) t)).alloc boxWZ).heap[w.heap.size + 1]? = some boxWZ) := by
  have := heap_new (w.alloc (boxW (.slice a1 n1 c1) tip (.slice a2 n2 c2) t)) boxWZ
  rwa [World.size_alloc] at this
 have kd := w_check (.slice a1 n1 c1) (.slice a2 n2 c2) xs cs tip t ((w.alloc (boxW (.slice a1 n1 c1) tip (.slice a2 n2 c2) t)).alloc boxWZ) (hL.later hB0) (h.later hB0) hf
 rw [hz] at kd
 clear hL h hf hz hB0
 go_enter Tryz.func17, Tryz.ntmps17
 go_upto_region 1 with fail
 generalize (w.alloc (boxW (.slice a1 n1 c1) tip (.slice a2 n2 c2) t)).alloc boxWZ = W0 at *
 have z := fun i => Joins.cell_of_block HX0.out i
 go_wp2_with fail
 refine kd.mono ?_
 rintro e w1 ⟨rfl, hb1⟩
 have HB1 : Aside _ := step_below1 HB0.out hb1
 have HY1 : Aside _ := heap_below HY0.out hb1 (heap_lt HY0.out)
 clear kd z HB0 HX0 HY0 hb1
 have y1 := fun i => Joins.cell_of_block HY1.out i
 have f1 := fun i => Joins.unfrozen_of_block HY1.out i
 go_wp2
 exact ret3_world (p := 4) (q := 5) (s := 6) Tryz.results17 rfl rfl rfl rfl (stW_box HY1.out (.slice none 0 0) 0 (.slice none 0 0) 0) ⟨_, _, _, rfl, Or.inl ⟨rfl, rfl, rfl⟩, Or.inl ⟨rfl, rfl⟩, stW_below HB1.out (by omega) _ _ _ _⟩
theorem run_good (a1 a2 : Option Addr) (c1 c2 : Nat) (xs : List Nb) (cs : List Cb) (tip t : Int) (a : Option Addr) (n c : Nat) (l : List Hp) (w : World) (hL : Laid w) (h : WdAt w (.slice a1 3 c1) (.slice a2 3 c2) xs cs) (hf : WdFits xs cs) (hl : HpSl w (.slice a n c) l) (hn : (n : Int) ≤ 150) (hz : (wdOf xs tip cs t).ck = 0)
  (h60 : ∀ x, x ∈ xs → x.n.u.cells.length = 60 ∧ x.n.s.length ≤ 1000000 ∧ x.n.w.length ≤ 1000000) (hjr : ∀ x, x ∈ cs → x.c.js.length ≤ 1000000 ∧ x.c.rs.length ≤ 1000000) (R : Wd × List Int) (hR : runL (wdOf xs tip cs t) l = R) :
  AnsRun 17 #[wval (.slice a1 3 c1) tip (.slice a2 3 c2) t, .slice a n c] w (R.1, R.2, 0) := by
 obtain ⟨i0, hi, hz0, hz1, hz2⟩ := info_parts infoEr
 have hB0 : Below w.heap.size w ((w.alloc (boxW (.slice a1 3 c1) tip (.slice a2 3 c2) t)).alloc boxWZ) := grew (grew (Below.refl _ _) _) _
 have HB0 : Aside (Below w.heap.size w ((w.alloc (boxW (.slice a1 3 c1) tip (.slice a2 3 c2) t)).alloc boxWZ)) := hB0
 have HX0 : Aside (((w.alloc (boxW (.slice a1 3 c1) tip (.slice a2 3 c2) t)).alloc boxWZ).heap[w.heap.size]? = some (boxW (.slice a1 3 c1) tip (.slice a2 3 c2) t)) := heap_old (heap_new _ _) _
 have HY0 : Aside (((w.alloc (boxW (.slice a1 3 c1) tip (.slice a2 3 c2) t)).alloc boxWZ).heap[w.heap.size + 1]? = some boxWZ) := by
  have := heap_new (w.alloc (boxW (.slice a1 3 c1) tip (.slice a2 3 c2) t)) boxWZ
  rwa [World.size_alloc] at this
 have kd := w_check (.slice a1 3 c1) (.slice a2 3 c2) xs cs tip t ((w.alloc (boxW (.slice a1 3 c1) tip (.slice a2 3 c2) t)).alloc boxWZ) (hL.later hB0) (h.later hB0) hf
 rw [hz] at kd
 have kA : Aside (∀ V, Below w.heap.size w V → Calls Tryz.prog 23 #[wval (.slice a1 3 c1) tip (.slice a2 3 c2) t] V fun e w' => ∃ g1 g2 ys ds, e = .returned (wval (.slice (some ⟨g1, 0, none⟩) 3 3) tip (.slice (some ⟨g2, 0, none⟩) 3 3) t) ∧ WRow V w' g1 g2 ys ds ∧ nodesOf ys = nodesOf xs ∧ clientsOf ds = clientsOf cs) := fun V hV => w_apart_at a1 a2 c1 c2 xs cs tip t V (h.later hV) h60 hjr
 have KL : Aside (∀ V, Below w.heap.size w V → Laid V) := fun V hV => hL.later hV
 have HRW : Hid (RW (wdOf xs tip cs t)) := rw_iff.1 hz
 have HQ : Hid (runL (wdOf xs tip cs t) l = R) := hR
 have H : Aside (HpSl w (.slice a n c) l) := hl
 have HL : Hid (l.length = n) := hl.len
 have hnl : (150 < (n : Int)) = False := eq_false (by omega)
 obtain ⟨W, HW⟩ : ∃ W, Hid (wdOf xs tip cs t = W) := ⟨_, rfl⟩
 rw [HW.out] at HRW HQ
 clear hL h hf hz hB0 h60 hjr hR hl
 go_enter Tryz.func17, Tryz.ntmps17
 go_upto_region 1 with fail
 generalize (w.alloc (boxW (.slice a1 3 c1) tip (.slice a2 3 c2) t)).alloc boxWZ = W0 at *
 have z := fun i => Joins.cell_of_block HX0.out i
 go_wp2_with fail
 refine kd.mono ?_
 rintro e w1 ⟨rfl, hb1⟩
 have HB1 : Aside _ := step_below1 HB0.out hb1
 have HX1 : Aside _ := heap_below HX0.out hb1 (heap_lt HX0.out)
 have HY1 : Aside _ := heap_below HY0.out hb1 (heap_lt HY0.out)
 clear kd z HB0 HX0 HY0 hb1
 have z := fun i => Joins.cell_of_block HX1.out i
 have ka := kA.out w1 HB1.out
 go_wp2_with fail
 refine ka.mono ?_
 rintro e w2 ⟨g1, g2, ys, ds, rfl, hR, hn', hc'⟩
 have hA : Below w2.heap.size w2 (w2.alloc (boxW (.slice (some ⟨g1, 0, none⟩) 3 3) tip (.slice (some ⟨g2, 0, none⟩) 3 3) t)) := grew (Below.refl _ _) _
 have HW3 : Aside (WHas w1 (w2.alloc (boxW (.slice (some ⟨g1, 0, none⟩) 3 3) tip (.slice (some ⟨g2, 0, none⟩) 3 3) t)) w2.heap.size g1 g2 W) :=
  ⟨ys, ds, by
   rw [← HW.out]
   exact ⟨⟨heap_new _ _, heap_old hR.nrow _, heap_old hR.crow _, row_len5 ys hR.three, row_len12 ds hR.three', noByte_nodes hR.nodes, noByte_clients hR.clients, fun y hy => ⟨(hR.nodes y hy).1.later hA, (hR.nodes y hy).2⟩, fun y hy => bkT_later (hR.clients y hy) hA, BelowX.of (step_below1 hR.below hA) _ _ _⟩, hR.three, hR.three'⟩, by rw [← HW.out]; exact hn', by rw [← HW.out]; exact hc'⟩
 have hlt : w.heap.size + 1 < w1.heap.size := heap_lt HY1.out
 have HBS : Hid (w1.heap.size ≤ w2.heap.size ∧ w1.heap.size ≤ g1 ∧ w1.heap.size ≤ g2 ∧ w.heap.size + 1 < w1.heap.size) := ⟨hR.below.size, hR.base1, hR.base2, hlt⟩
 have HG : Hid (g1 < w2.heap.size ∧ g2 < w2.heap.size) := ⟨heap_lt hR.nrow, heap_lt hR.crow⟩
 clear ka z hR hn' hc' hA HX1 kA hlt
 go_upto_region 7 with fail
 have HS3 : Hid ((w2.alloc (boxW (.slice (some ⟨g1, 0, none⟩) 3 3) tip (.slice (some ⟨g2, 0, none⟩) 3 3) t)).heap.size = w2.heap.size + 1) := World.size_alloc _ _
 generalize w2.alloc (boxW (.slice (some ⟨g1, 0, none⟩) 3 3) tip (.slice (some ⟨g2, 0, none⟩) 3 3) t) = W3 at *
 generalize w2.heap.size = B at *
 go_wp2_with (at_make; refine wpList_make_full _ rfl _ _ 58 rfl W3.heap.size 30 i0 (.int .i64 0) 1 Tryz.underlying58 hi hz0 hz1 _ _ _ _ n rfl rfl rfl rfl (by rw [hz2]; omega) (by unfold maxLen; omega) (Nat.le_refl _) ?_)
 intro w4 hown hgrow
 obtain ⟨hl0, ho⟩ := hown
 rcases ho with ⟨h, _⟩ | ⟨g, cap, cur, hv', _, hg, _, _, hsz, htake⟩
 · cases h
 injection hv' with ha _ hc
 injection ha with ha
 injection ha with ha _ _
 subst ha hc
 have hB4 : Below W3.heap.size W3 w4 := ⟨hgrow.os, hgrow.tape, hgrow.output, hgrow.size, fun k hk => hgrow.block k hk (fun h => by cases h)⟩
 have HS : Aside (SaidAt w1 w4 B g1 g2 W3.heap.size W l n 0) := by
  refine ⟨HW3.out.later hB4, ⟨List.replicate n 0, ?_, List.length_replicate .., rfl⟩, ?_, ?_, ?_, ?_⟩
  · have h2 : cur.toList = (List.replicate n (0 : Int)).map (Value.int .i64) := by
    rw [List.take_of_length_le (by rw [Array.length_toList, hsz]; omega)] at htake
    rw [htake, List.map_replicate]
    exact toList_madeCells_one _ _
   rw [← h2]
   simpa using hg
  · rw [HS3.out]; have := HBS.out.1; omega
  · rw [HS3.out]; omega
  · rw [HS3.out]; have := HG.out.1; omega
  · rw [HS3.out]; have := HG.out.2; omega
 clear hi hz0 hz1 hz2 hl0 htake hgrow hg hsz hB4 HW3
 generalize W3.heap.size = Q at *
 go_wp2
 go_loopw [29] (fun i wr => ∃ k : Nat, k ≤ n ∧ i = .int .i64 k ∧ SaidAt w1 wr B g1 g2 Q W l n k) (fun i _ => n - (intOf i).toNat)
 case atStart => exact ⟨0, Nat.zero_le _, rfl, HS.out⟩
 case round =>
  clear HS
  obtain ⟨k, hk, rfl, hU⟩ := hrel
  have HU : Aside (SaidAt w1 wr B g1 g2 Q W l n k) := hU
  have HB : Aside _ := step_below1 HB1.out (hU.has.below.whole HBS.out.1 HBS.out.2.1 HBS.out.2.2.1)
  clear hU
  by_cases hlt : k < n
  · obtain ⟨x, hx⟩ : ∃ x, l[k]? = some x := ⟨l[k]'(by have := HL.out; omega), List.getElem?_eq_getElem _⟩
   obtain ⟨bb, off, rfl, hE0⟩ := H.out.at (by omega)
   have hE := hE0.later HB.out
   have q0 : wr.cell? ⟨bb, off + k * 10, none⟩ = some (.int .i64 x.k) := hE k x hx 0 _ rfl
   have q1 : wr.cell? ⟨bb, off + k * 10 + 1, none⟩ = some (.int .i64 x.c) := hE k x hx 1 _ rfl
   have q2 : wr.cell? ⟨bb, off + k * 10 + 2, none⟩ = some (.int .i64 x.n) := hE k x hx 2 _ rfl
   have q3 : wr.cell? ⟨bb, off + k * 10 + 3, none⟩ = some (.int .i64 x.j) := hE k x hx 3 _ rfl
   have q4 : wr.cell? ⟨bb, off + k * 10 + 4, none⟩ = some (.int .i64 x.p) := hE k x hx 4 _ rfl
   have q5 : wr.cell? ⟨bb, off + k * 10 + 5, none⟩ = some (.int .i64 x.e.k) := hE k x hx 5 _ rfl
   have q6 : wr.cell? ⟨bb, off + k * 10 + 6, none⟩ = some (.int .i64 x.e.j) := hE k x hx 6 _ rfl
   have q7 : wr.cell? ⟨bb, off + k * 10 + 7, none⟩ = some (.int .i64 x.e.v) := hE k x hx 7 _ rfl
   have q8 : wr.cell? ⟨bb, off + k * 10 + 8, none⟩ = some (.int .i64 x.e.t) := hE k x hx 8 _ rfl
   have q9 : wr.cell? ⟨bb, off + k * 10 + 9, none⟩ = some (.int .i64 x.e.c) := hE k x hx 9 _ rfl
   have hA5 : Below wr.heap.size wr (wr.alloc (boxH x)) := grew (Below.refl _ _) _
   have HU5 : Aside _ := HU.out.later hA5
   have HX : Hid (l[k]? = some x) := hx
   have kh := w_happen (KL.out _ (step_below1 HB.out hA5)) (runL_right (l.take k) HRW.out) HU5.out.has.self x
   obtain ⟨⟨W6, q⟩, hq⟩ : ∃ q, Hid (happened (runL W (l.take k)).1 x = q) := ⟨_, rfl⟩
   rw [hq.out] at kh
   have zh : ∀ i, (wr.alloc (boxH x)).cell? ⟨wr.heap.size, i, none⟩ = (#[.int .i64 x.k, .int .i64 x.c, .int .i64 x.n, .int .i64 x.j, .int .i64 x.p, .int .i64 x.e.k, .int .i64 x.e.j, .int .i64 x.e.v, .int .i64 x.e.t, .int .i64 x.e.c] : Array Value)[i]? := fun i => Joins.cell_of_block (heap_new _ _) i
   clear hE hE0 hx hA5 HU HB
   go_upto_region 11 with fail
   generalize wr.alloc (boxH x) = W5 at *
   clear q0 q1 q2 q3 q4 q5 q6 q7 q8 q9
   go_wp2_with fail
   refine kh.mono ?_
   rintro e w6 ⟨rfl, hW6⟩
   dsimp only at hW6
   obtain ⟨⟨v6, hc6⟩, hf6, hs6⟩ := HU5.out.step (by omega) hlt HX.out (by rw [hq.out]; exact hW6)
   rw [hq.out] at hs6
   have HS6 : Aside _ := hs6
   clear kh zh hW6 hs6 HU5 HX hq
   go_wp2
   go_roundw
   case rel => exact ⟨k + 1, by omega, by go_num, HS6.out⟩
   case measure => simp [intOf]; omega
  · obtain rfl : k = n := by omega
   have hRR : runL W (l.take k) = R := by rw [List.take_of_length_le (by have := HL.out; omega)]; exact HQ.out
   obtain ⟨hH, ⟨es, e1, e2, e3⟩, _, _, _, _⟩ := HU.out
   rw [hRR] at hH e3
   rw [List.take_of_length_le (by omega)] at e3
   subst e3
   obtain ⟨zs, fs, hI, hzn, hzc⟩ := hH
   have HI : Aside (WIn w1 wr B g1 g2 zs R.1.tip fs R.1.t) := hI
   have HZN : Hid (nodesOf zs = R.1.ns ∧ clientsOf fs = R.1.cs) := ⟨hzn, hzc⟩
   have HY4 : Aside _ := heap_below HY1.out (hI.st.below.whole HBS.out.1 HBS.out.2.1 HBS.out.2.2.1) HBS.out.2.2.2
   have HE : Aside (wr.heap[Q]? = some (.cells (R.2.map (Value.int .i64)).toArray 30)) := e1
   have HQQ : Hid (w1.heap.size ≤ Q) := HU.out.far
   have HEL : Hid (R.2.length = k) := e2
   clear hI hzn hzc HU e1 hRR e2
   have y4 := fun i => Joins.cell_of_block HY4.out i
   have f4 := fun i => Joins.unfrozen_of_block HY4.out i
   have z4 := fun i => Joins.cell_of_block HI.out.st.box i
   go_wp2
   have h3 := HBS.out
   have h4 := HQQ.out
   have h5 := HB1.out.size
   refine ret3_world (p := 4) (q := 5) (s := 6) (y := .slice (some ⟨Q, 0, none⟩) k k) Tryz.results17 rfl rfl rfl rfl (stW_box HY4.out (.slice (some ⟨g1, 0, none⟩) 3 3) R.1.tip (.slice (some ⟨g2, 0, none⟩) 3 3) R.1.t) ⟨_, _, _, rfl, Or.inr ⟨g1, g2, zs, fs, rfl, rfl, wrow_st HY4.out (HI.out.st.rebase HB1.out) (by omega) (by omega) (by omega) (by omega) (by omega) HB.out HI.out.three HI.out.three' _ _, HZN.out.1, HZN.out.2⟩, Or.inr ⟨Q, by rw [HEL.out], by omega, stW_other HE.out (by omega) _ _ _ _⟩, stW_below HB.out (by omega) _ _ _ _⟩
theorem w_run (vn vc : Value) (xs : List Nb) (cs : List Cb) (tip t : Int) (v : Value) (l : List Hp) (w : World) (hL : Laid w) (h : WdAt w vn vc xs cs) (hf : WdFits xs cs) (hl : HpSl w v l) :
  AnsRun 17 #[wval vn tip vc t, v] w (runOf (wdOf xs tip cs t) l) := by
 obtain ⟨a, n, c, rfl⟩ := slOf_sl hl
 have hlen := hl.len
 by_cases hz : (wdOf xs tip cs t).ck = 0
 · by_cases hn : 150 < l.length
  · rw [runOf, if_neg (not_not_intro hz), if_pos hn]
   exact run_many vn vc xs cs tip t a n c w hL h hf hz (by omega)
  rw [runOf, if_neg (not_not_intro hz), if_neg hn]
  have hR := rw_iff.1 hz
  obtain ⟨a1, n1, c1, rfl⟩ := slOf_sl h.rowN
  obtain ⟨a2, n2, c2, rfl⟩ := slOf_sl h.rowC
  obtain rfl : n1 = 3 := by have := hR.ns3; rw [show (wdOf xs tip cs t).ns.length = xs.length from List.length_map ..] at this; rw [← SlOf.len h.rowN]; exact this
  obtain rfl : n2 = 3 := by have := hR.cs3; rw [show (wdOf xs tip cs t).cs.length = cs.length from List.length_map ..] at this; rw [← SlOf.len h.rowC]; exact this
  have hn' : ∀ x, x ∈ xs → x.n.ck = 0 := fun y hy => by
   obtain ⟨k, hk⟩ := List.getElem?_of_mem hy
   exact hR.node k y.n (nodes_at hk)
  have hc : ∀ x, x ∈ cs → x.c.ck = 0 := fun y hy => hR.client y.c (List.mem_map_of_mem hy)
  exact run_good a1 a2 c1 c2 xs cs tip t a n c l w hL h hf hl (by omega) hz (fun y hy => ⟨(ckN_ok (hn' y hy)).2.2, ck_short (hn' y hy)⟩) (fun y hy => ckC_short (hc y hy)) _ rfl
 · rw [runOf, if_pos hz]
  exact run_wrong vn vc xs cs tip t a n c w hL h hf _ rfl hz
end
abbrev nbZ : Nb := ⟨⟨⟨0, []⟩, [], [], false⟩, nil0, nil0, nil0⟩
abbrev cbZ : Cb := ⟨Cl.zero, nil0, nil0⟩
def Nw1 (X wr : World) (B g1 g2 : Nat) (k : Nat) : Prop :=
 ∃ ys : List Nb, ys.length = 3 ∧ WSt X wr B g1 g2 (ys.flatMap Nb.cells) 0 ([cbZ, cbZ, cbZ].flatMap Cb.cells) 0 (ys.take k) [] ∧ ∀ i y, i < k → ys[i]? = some y → y.n = nnew
def Nw2 (X wr : World) (B g1 g2 : Nat) (k : Nat) : Prop :=
 ∃ (ys : List Nb) (ds : List Cb), ys.length = 3 ∧ ds.length = 3 ∧ WSt X wr B g1 g2 (ys.flatMap Nb.cells) 0 (ds.flatMap Cb.cells) 0 ys (ds.take k) ∧ nodesOf ys = [nnew, nnew, nnew] ∧ ∀ i y, i < k → ds[i]? = some y → y.c = cnew
theorem Nw1.step {X w1 : World} {B g1 g2 k : Nat} {ys : List Nb} {x : Nb} (hl : ys.length = 3) (hx : ys[k]? = some x) (hS : WSt X w1 B g1 g2 (ys.flatMap Nb.cells) 0 ([cbZ, cbZ, cbZ].flatMap Cb.cells) 0 (ys.take k) []) (hn : ∀ i y, i < k → ys[i]? = some y → y.n = nnew) {y : Nb} (hy : NodeT w1 y) (hyn : y.n = nnew) :
  Nw1 X (st5 w1 g1 (k * 5) y) B g1 g2 (k + 1) := by
 have hlt := (List.getElem?_eq_some_iff.1 hx).1
 have h60 : y.n.u.cells.length = 60 := by rw [hyn]; exact List.length_replicate ..
 obtain ⟨s1, s2, s3⟩ := (⟨roomy_sl hy.unit.room, roomy_sl hy.disk.room1, roomy_sl hy.disk.room2⟩ : _ ∧ _ ∧ _)
 have H := (((((hS.with ⟨hy, h60⟩).setN (k * 5 + 0) (int_nob y.n.u.p)).setN (k * 5 + 1) (slice_nob s1)).setN (k * 5 + 2) (slice_nob s2)).setN (k * 5 + 3) (slice_nob s3)).setN (k * 5 + 4) (bool_nob y.n.up)
 rw [nput5 hx y] at H
 refine ⟨ys.set k y, by rw [List.length_set, hl], H.more (fun z hz => ?_) H.clients, fun i z hi hz => ?_⟩
 · rw [List.take_add_one, List.getElem?_set_self hlt] at hz
  rcases List.mem_append.1 hz with hz | hz
  · rw [List.take_set_of_le (Nat.le_refl k)] at hz
   exact H.nodes z (List.mem_cons_of_mem _ hz)
  · obtain rfl : z = y := by simpa using hz
   exact H.nodes z (List.mem_cons_self ..)
 · by_cases hik : i = k
  · subst hik
   rw [List.getElem?_set_self hlt] at hz
   rw [← Option.some.inj hz]; exact hyn
  · rw [List.getElem?_set_ne (Ne.symm hik)] at hz
   exact hn i z (by omega) hz
theorem Nw1.all {X w1 : World} {B g1 g2 : Nat} (h : Nw1 X w1 B g1 g2 3) : Nw2 X w1 B g1 g2 0 := by
 obtain ⟨ys, hl, hS, hn⟩ := h
 rw [List.take_of_length_le (by omega)] at hS
 refine ⟨ys, [cbZ, cbZ, cbZ], hl, rfl, hS, ?_, fun i y hi => absurd hi (Nat.not_lt_zero i)⟩
 match ys, hl, hn with
 | [a, b, c], _, hn =>
  show [a.n, b.n, c.n] = _
  rw [hn 0 a (by omega) rfl, hn 1 b (by omega) rfl, hn 2 c (by omega) rfl]
theorem Nw2.step {X w1 : World} {B g1 g2 k : Nat} {ys : List Nb} {ds : List Cb} {x : Cb} (hl : ys.length = 3) (hl' : ds.length = 3) (hx : ds[k]? = some x) (hS : WSt X w1 B g1 g2 (ys.flatMap Nb.cells) 0 (ds.flatMap Cb.cells) 0 ys (ds.take k)) (hn : nodesOf ys = [nnew, nnew, nnew]) (hc : ∀ i y, i < k → ds[i]? = some y → y.c = cnew) :
  Nw2 X (stC w1 g2 (k * 12) ⟨cnew, nil0, nil0⟩) B g1 g2 (k + 1) := by
 have hlt := (List.getElem?_eq_some_iff.1 hx).1
 have hy : ClientR w1 ⟨cnew, nil0, nil0⟩ := bkT_nil _ rfl rfl
 have h0 := hS.more (L' := ys) (M' := (⟨cnew, nil0, nil0⟩ : Cb) :: ds.take k) hS.nodes (fun z hz => (List.mem_cons.1 hz).elim (fun e => e ▸ hy) (hS.clients z))
 have H := (((((((((((h0.setC (k * 12 + 0) (int_nob cnew.p)).setC (k * 12 + 1) (int_nob cnew.d)).setC (k * 12 + 2) (int_nob cnew.e.k)).setC (k * 12 + 3) (int_nob cnew.e.j)).setC (k * 12 + 4) (int_nob cnew.e.v)).setC (k * 12 + 5) (int_nob cnew.e.t)).setC (k * 12 + 6) (int_nob cnew.e.c)).setC (k * 12 + 7) (int_nob cnew.a)).setC (k * 12 + 8) (int_nob cnew.l)).setC (k * 12 + 9) (int_nob cnew.n)).setC (k * 12 + 10) (slnob none 0 0)).setC (k * 12 + 11) (slnob none 0 0)
 rw [cput12 hx ⟨cnew, nil0, nil0⟩] at H
 refine ⟨ys, ds.set k ⟨cnew, nil0, nil0⟩, hl, by rw [List.length_set, hl'], H.more H.nodes (fun z hz => ?_), hn, fun i z hi hz => ?_⟩
 · rw [List.take_add_one, List.getElem?_set_self hlt] at hz
  rcases List.mem_append.1 hz with hz | hz
  · rw [List.take_set_of_le (Nat.le_refl k)] at hz
   exact H.clients z (List.mem_cons_of_mem _ hz)
  · obtain rfl : z = ⟨cnew, nil0, nil0⟩ := by simpa using hz
   exact H.clients _ (List.mem_cons_self ..)
 · by_cases hik : i = k
  · subst hik
   rw [List.getElem?_set_self hlt] at hz
   rw [← Option.some.inj hz]
  · rw [List.getElem?_set_ne (Ne.symm hik)] at hz
   exact hc i z (by omega) hz
theorem Nw2.all {X w1 : World} {B g1 g2 : Nat} (h : Nw2 X w1 B g1 g2 3) : ∃ ys ds, WIn X w1 B g1 g2 ys 0 ds 0 ∧ nodesOf ys = wnew.ns ∧ clientsOf ds = wnew.cs := by
 obtain ⟨ys, ds, hl, hl', hS, hn, hc⟩ := h
 rw [List.take_of_length_le (by omega)] at hS
 refine ⟨ys, ds, ⟨hS, hl, hl'⟩, hn, ?_⟩
 match ds, hl', hc with
 | [a, b, c], _, hc =>
  show [a.c, b.c, c.c] = _
  rw [hc 0 a (by omega) rfl, hc 1 b (by omega) rfl, hc 2 c (by omega) rfl]
  rfl
theorem blk_ne {w : World} {a b : Nat} {A A' : Array Value} {T T' : TypeId} (h : w.heap[a]? = some (.cells A T)) (h' : w.heap[b]? = some (.cells A' T')) (hT : T ≠ T') : a ≠ b := fun e => by
 rw [e, h'] at h
 injection h with h
 injection h with _ h
 exact hT h.symm
theorem nw_start {W0 w1 : World} {dn dc dx : Nat} (hn : w1.heap[dn]? = some (.cells #[.int .i64 0, .slice none 0 0, .slice none 0 0, .slice none 0 0, .bool false, .int .i64 0, .slice none 0 0, .slice none 0 0, .slice none 0 0, .bool false, .int .i64 0, .slice none 0 0, .slice none 0 0, .slice none 0 0, .bool false] 49)) (hc : w1.heap[dc]? = some (.cells #[.int .i64 0, .int .i64 0, .int .i64 0, .int .i64 0, .int .i64 0, .int .i64 0, .int .i64 0, .int .i64 0, .int .i64 0, .int .i64 0, .slice none 0 0, .slice none 0 0, .int .i64 0, .int .i64 0, .int .i64 0, .int .i64 0, .int .i64 0, .int .i64 0, .int .i64 0, .int .i64 0, .int .i64 0, .int .i64 0, .slice none 0 0, .slice none 0 0, .int .i64 0, .int .i64 0, .int .i64 0, .int .i64 0, .int .i64 0, .int .i64 0, .int .i64 0, .int .i64 0, .int .i64 0, .int .i64 0, .slice none 0 0, .slice none 0 0] 41)) (hx : w1.heap[dx]? = some boxWZ) (lx : W0.heap.size ≤ dx) (hb : Below W0.heap.size W0 w1) :
  Nw1 W0 (stW w1 dx (.slice (some ⟨dn, 0, none⟩) 3 3) 0 (.slice (some ⟨dc, 0, none⟩) 3 3) 0) dx dn dc 0 := by
 have n1 : dn ≠ dx := blk_ne hn hx (by decide)
 have n2 : dc ≠ dx := blk_ne hc hx (by decide)
 exact ⟨[nbZ, nbZ, nbZ], rfl, ⟨stW_box hx _ _ _ _, stW_other hn n1 _ _ _ _, stW_other hc n2 _ _ _ _, rfl, rfl, fun x hx => by simp [Nb.cells] at hx, fun x hx => by simp [Cb.cells] at hx, fun y hy => by simp at hy, fun y hy => by simp at hy, BelowX.of (stW_below hb lx _ _ _ _) _ _ _⟩, fun i y hi => absurd hi (Nat.not_lt_zero i)⟩
theorem w_new (w : World) : Calls Tryz.prog 26 #[] w fun e w' => ∃ vn vc, e = .returned (wval vn 0 vc 0) ∧ WOut w w' vn vc wnew ∧ Below w.heap.size w w' := by
 have hmkN : ∀ W, (Instr.makeSlice 22 (.int .i64 3) (.int .i64 3)).run Tryz.prog W = .ok (.slice (some ⟨W.heap.size, 0, none⟩) 3 3) (W.alloc (.cells #[.int .i64 0, .slice none 0 0, .slice none 0 0, .slice none 0 0, .bool false, .int .i64 0, .slice none 0 0, .slice none 0 0, .slice none 0 0, .bool false, .int .i64 0, .slice none 0 0, .slice none 0 0, .slice none 0 0, .bool false] 49)) := fun W => by kernel_rfl
 have hmkC : ∀ W, (Instr.makeSlice 23 (.int .i64 3) (.int .i64 3)).run Tryz.prog W = .ok (.slice (some ⟨W.heap.size, 0, none⟩) 3 3) (W.alloc (.cells #[.int .i64 0, .int .i64 0, .int .i64 0, .int .i64 0, .int .i64 0, .int .i64 0, .int .i64 0, .int .i64 0, .int .i64 0, .int .i64 0, .slice none 0 0, .slice none 0 0, .int .i64 0, .int .i64 0, .int .i64 0, .int .i64 0, .int .i64 0, .int .i64 0, .int .i64 0, .int .i64 0, .int .i64 0, .int .i64 0, .slice none 0 0, .slice none 0 0, .int .i64 0, .int .i64 0, .int .i64 0, .int .i64 0, .int .i64 0, .int .i64 0, .int .i64 0, .int .i64 0, .int .i64 0, .int .i64 0, .slice none 0 0, .slice none 0 0] 41)) := fun W => by kernel_rfl
 have B0 : Aside (Below w.heap.size w (w.alloc (boxWZ))) := grew (Below.refl _ _) _
 have h0_0 : Aside ((w.alloc (boxWZ)).heap[w.heap.size]? = some (boxWZ)) := by
  have := heap_new w (boxWZ)
  exact this
 go_enter Tryz.func26, Tryz.ntmps26
 go_upto_region 1 with fail
 generalize (w.alloc (boxWZ)) = w0 at *
 generalize w0 = W0 at *
 go_cut [1] from 4 to 6 (fun s1 wx => ∃ b g1 g2 : Nat, s1 = .pointer (some ⟨b, 0, none⟩) ∧ Nw1 W0 wx b g1 g2 0 ∧ W0.heap.size ≤ g1 ∧ W0.heap.size ≤ g2 ∧ W0.heap.size ≤ b)
 case first =>
  refine wp_region_held_drew (S := fun W' => Below W0.heap.size W0 W') (by kernel_rfl) ((Below.refl _ _).drew) (fun hHeld => ?_)
  refine wpAnyH_ready (rs := [0, 1, 3]) (by kernel_rfl) (by simp) ?_
  refine AllReadyH.cons (o := ?o0r) ?hi0r ?step0r (AllReadyH.cons (o := ?o1r) ?hi1r ?step1r (AllReadyH.cons (o := ?o3r) ?hi3r ?step3r AllReadyH.nil))
  case hi0r => (simp only [List.getElem?_toArray, List.getElem?_cons_succ, List.getElem?_cons_zero]; rfl)
  case hi1r => (simp only [List.getElem?_toArray, List.getElem?_cons_succ, List.getElem?_cons_zero]; rfl)
  case hi3r => (simp only [List.getElem?_toArray, List.getElem?_cons_succ, List.getElem?_cons_zero]; rfl)
  case step0r =>
   intro K hK
   go_simp
   have ln : W0.heap.size ≤ W0.heap.size := Nat.le_refl _
   refine hK.out _ _ (grew hHeld _) (fun hHeld => ?_)
   clear hK K
   try simp only [Act.put, qa, qb, qc]
   have n1 : ((W0.alloc (.cells #[.int .i64 0, .slice none 0 0, .slice none 0 0, .slice none 0 0, .bool false, .int .i64 0, .slice none 0 0, .slice none 0 0, .slice none 0 0, .bool false, .int .i64 0, .slice none 0 0, .slice none 0 0, .slice none 0 0, .bool false] 49)).drew).heap[W0.heap.size]? = some (.cells #[.int .i64 0, .slice none 0 0, .slice none 0 0, .slice none 0 0, .bool false, .int .i64 0, .slice none 0 0, .slice none 0 0, .slice none 0 0, .bool false, .int .i64 0, .slice none 0 0, .slice none 0 0, .slice none 0 0, .bool false] 49) := heap_new _ _
   generalize (W0.alloc (.cells #[.int .i64 0, .slice none 0 0, .slice none 0 0, .slice none 0 0, .bool false, .int .i64 0, .slice none 0 0, .slice none 0 0, .slice none 0 0, .bool false, .int .i64 0, .slice none 0 0, .slice none 0 0, .slice none 0 0, .bool false] 49)).drew = w1 at *
   refine wpAnyH_ready (rs := [1, 3]) (by kernel_rfl) (by simp) ?_
   refine AllReadyH.cons (o := ?o1ra) ?hi1ra ?step1ra (AllReadyH.cons (o := ?o3ra) ?hi3ra ?step3ra AllReadyH.nil)
   case hi1ra => (simp only [List.getElem?_toArray, List.getElem?_cons_succ, List.getElem?_cons_zero]; rfl)
   case hi3ra => (simp only [List.getElem?_toArray, List.getElem?_cons_succ, List.getElem?_cons_zero]; rfl)
   case step1ra =>
    intro K hK
    go_simp
    have lc : W0.heap.size ≤ w1.heap.size := hHeld.size
    refine hK.out _ _ (grew hHeld _) (fun hHeld => ?_)
    clear hK K
    try simp only [Act.put, qa, qb, qc]
    have c2 : (w1.alloc (.cells #[.int .i64 0, .int .i64 0, .int .i64 0, .int .i64 0, .int .i64 0, .int .i64 0, .int .i64 0, .int .i64 0, .int .i64 0, .int .i64 0, .slice none 0 0, .slice none 0 0, .int .i64 0, .int .i64 0, .int .i64 0, .int .i64 0, .int .i64 0, .int .i64 0, .int .i64 0, .int .i64 0, .int .i64 0, .int .i64 0, .slice none 0 0, .slice none 0 0, .int .i64 0, .int .i64 0, .int .i64 0, .int .i64 0, .int .i64 0, .int .i64 0, .int .i64 0, .int .i64 0, .int .i64 0, .int .i64 0, .slice none 0 0, .slice none 0 0] 41)).heap[w1.heap.size]? = some (.cells #[.int .i64 0, .int .i64 0, .int .i64 0, .int .i64 0, .int .i64 0, .int .i64 0, .int .i64 0, .int .i64 0, .int .i64 0, .int .i64 0, .slice none 0 0, .slice none 0 0, .int .i64 0, .int .i64 0, .int .i64 0, .int .i64 0, .int .i64 0, .int .i64 0, .int .i64 0, .int .i64 0, .int .i64 0, .int .i64 0, .slice none 0 0, .slice none 0 0, .int .i64 0, .int .i64 0, .int .i64 0, .int .i64 0, .int .i64 0, .int .i64 0, .int .i64 0, .int .i64 0, .int .i64 0, .int .i64 0, .slice none 0 0, .slice none 0 0] 41) := heap_new _ _
    have nnc : W0.heap.size ≠ w1.heap.size := by have := heap_lt n1; omega
    have n2 : _ := heap_below n1 (show Below w1.heap.size w1 (w1.alloc (.cells #[.int .i64 0, .int .i64 0, .int .i64 0, .int .i64 0, .int .i64 0, .int .i64 0, .int .i64 0, .int .i64 0, .int .i64 0, .int .i64 0, .slice none 0 0, .slice none 0 0, .int .i64 0, .int .i64 0, .int .i64 0, .int .i64 0, .int .i64 0, .int .i64 0, .int .i64 0, .int .i64 0, .int .i64 0, .int .i64 0, .slice none 0 0, .slice none 0 0, .int .i64 0, .int .i64 0, .int .i64 0, .int .i64 0, .int .i64 0, .int .i64 0, .int .i64 0, .int .i64 0, .int .i64 0, .int .i64 0, .slice none 0 0, .slice none 0 0] 41)) from grew (Below.refl _ _) _) (heap_lt n1)
    generalize w1.alloc (.cells #[.int .i64 0, .int .i64 0, .int .i64 0, .int .i64 0, .int .i64 0, .int .i64 0, .int .i64 0, .int .i64 0, .int .i64 0, .int .i64 0, .slice none 0 0, .slice none 0 0, .int .i64 0, .int .i64 0, .int .i64 0, .int .i64 0, .int .i64 0, .int .i64 0, .int .i64 0, .int .i64 0, .int .i64 0, .int .i64 0, .slice none 0 0, .slice none 0 0, .int .i64 0, .int .i64 0, .int .i64 0, .int .i64 0, .int .i64 0, .int .i64 0, .int .i64 0, .int .i64 0, .int .i64 0, .int .i64 0, .slice none 0 0, .slice none 0 0] 41) = w2 at *
    generalize w1.heap.size = dc at *
    refine tk 2 (v := ?_) rfl (by kernel_rfl) (by rfl) (by assumption) (fun _ _ _ h => h) ?_ ?_
    rotate_left
    · intro w0 hSw; clear hSw; go_simp; first | done | with_reducible rfl
    try simp only [Act.put, qa, qb, qc]
    refine rdy 3 (by kernel_rfl) rfl (fun K hK => ?_)
    go_simp
    have lx : W0.heap.size ≤ w2.heap.size := hHeld.size
    refine hK.out _ _ (grew hHeld _) (fun hHeld => ?_)
    clear hK K
    try simp only [Act.put, qa, qb, qc]
    have x3 : (w2.alloc (boxWZ)).heap[w2.heap.size]? = some (boxWZ) := heap_new _ _
    have nnx : W0.heap.size ≠ w2.heap.size := by have := heap_lt n2; omega
    have ncx : dc ≠ w2.heap.size := by have := heap_lt c2; omega
    have n3 : _ := heap_below n2 (show Below w2.heap.size w2 (w2.alloc (boxWZ)) from grew (Below.refl _ _) _) (heap_lt n2)
    have c3 : _ := heap_below c2 (show Below w2.heap.size w2 (w2.alloc (boxWZ)) from grew (Below.refl _ _) _) (heap_lt c2)
    generalize w2.alloc (boxWZ) = w3 at *
    generalize w2.heap.size = dx at *
    have hBB := hHeld
    have cc := fun i => Joins.cell_of_block x3 i
    have ff := fun i => Joins.unfrozen_of_block x3 i
    refine rdy 4 (by kernel_rfl) rfl (fun K hK => ?_)
    go_simp
    refine hK.out _ _ (stW_below hHeld lx _ _ _ _) (fun hHeld => ?_)
    clear hK K
    try simp only [Act.put, qa, qb, qc]
    refine wpAnyH_done (by kernel_rfl) ?_ _
    go_wp2_with fail
    go_meet
    case rel => exact ⟨dx, W0.heap.size, dc, rfl, nw_start n3 c3 x3 lx hBB, ln, lc, lx⟩
   case step3ra =>
    intro K hK
    go_simp
    have lx : W0.heap.size ≤ w1.heap.size := hHeld.size
    refine hK.out _ _ (grew hHeld _) (fun hHeld => ?_)
    clear hK K
    try simp only [Act.put, qa, qb, qc]
    have x2 : (w1.alloc (boxWZ)).heap[w1.heap.size]? = some (boxWZ) := heap_new _ _
    have nnx : W0.heap.size ≠ w1.heap.size := by have := heap_lt n1; omega
    have n2 : _ := heap_below n1 (show Below w1.heap.size w1 (w1.alloc (boxWZ)) from grew (Below.refl _ _) _) (heap_lt n1)
    generalize w1.alloc (boxWZ) = w2 at *
    generalize w1.heap.size = dx at *
    refine rdy 1 (by kernel_rfl) rfl (fun K hK => ?_)
    go_simp
    have lc : W0.heap.size ≤ w2.heap.size := hHeld.size
    refine hK.out _ _ (grew hHeld _) (fun hHeld => ?_)
    clear hK K
    try simp only [Act.put, qa, qb, qc]
    have c3 : (w2.alloc (.cells #[.int .i64 0, .int .i64 0, .int .i64 0, .int .i64 0, .int .i64 0, .int .i64 0, .int .i64 0, .int .i64 0, .int .i64 0, .int .i64 0, .slice none 0 0, .slice none 0 0, .int .i64 0, .int .i64 0, .int .i64 0, .int .i64 0, .int .i64 0, .int .i64 0, .int .i64 0, .int .i64 0, .int .i64 0, .int .i64 0, .slice none 0 0, .slice none 0 0, .int .i64 0, .int .i64 0, .int .i64 0, .int .i64 0, .int .i64 0, .int .i64 0, .int .i64 0, .int .i64 0, .int .i64 0, .int .i64 0, .slice none 0 0, .slice none 0 0] 41)).heap[w2.heap.size]? = some (.cells #[.int .i64 0, .int .i64 0, .int .i64 0, .int .i64 0, .int .i64 0, .int .i64 0, .int .i64 0, .int .i64 0, .int .i64 0, .int .i64 0, .slice none 0 0, .slice none 0 0, .int .i64 0, .int .i64 0, .int .i64 0, .int .i64 0, .int .i64 0, .int .i64 0, .int .i64 0, .int .i64 0, .int .i64 0, .int .i64 0, .slice none 0 0, .slice none 0 0, .int .i64 0, .int .i64 0, .int .i64 0, .int .i64 0, .int .i64 0, .int .i64 0, .int .i64 0, .int .i64 0, .int .i64 0, .int .i64 0, .slice none 0 0, .slice none 0 0] 41) := heap_new _ _
    have nnc : W0.heap.size ≠ w2.heap.size := by have := heap_lt n2; omega
    have nxc : dx ≠ w2.heap.size := by have := heap_lt x2; omega
    have n3 : _ := heap_below n2 (show Below w2.heap.size w2 (w2.alloc (.cells #[.int .i64 0, .int .i64 0, .int .i64 0, .int .i64 0, .int .i64 0, .int .i64 0, .int .i64 0, .int .i64 0, .int .i64 0, .int .i64 0, .slice none 0 0, .slice none 0 0, .int .i64 0, .int .i64 0, .int .i64 0, .int .i64 0, .int .i64 0, .int .i64 0, .int .i64 0, .int .i64 0, .int .i64 0, .int .i64 0, .slice none 0 0, .slice none 0 0, .int .i64 0, .int .i64 0, .int .i64 0, .int .i64 0, .int .i64 0, .int .i64 0, .int .i64 0, .int .i64 0, .int .i64 0, .int .i64 0, .slice none 0 0, .slice none 0 0] 41)) from grew (Below.refl _ _) _) (heap_lt n2)
    have x3 : _ := heap_below x2 (show Below w2.heap.size w2 (w2.alloc (.cells #[.int .i64 0, .int .i64 0, .int .i64 0, .int .i64 0, .int .i64 0, .int .i64 0, .int .i64 0, .int .i64 0, .int .i64 0, .int .i64 0, .slice none 0 0, .slice none 0 0, .int .i64 0, .int .i64 0, .int .i64 0, .int .i64 0, .int .i64 0, .int .i64 0, .int .i64 0, .int .i64 0, .int .i64 0, .int .i64 0, .slice none 0 0, .slice none 0 0, .int .i64 0, .int .i64 0, .int .i64 0, .int .i64 0, .int .i64 0, .int .i64 0, .int .i64 0, .int .i64 0, .int .i64 0, .int .i64 0, .slice none 0 0, .slice none 0 0] 41)) from grew (Below.refl _ _) _) (heap_lt x2)
    generalize w2.alloc (.cells #[.int .i64 0, .int .i64 0, .int .i64 0, .int .i64 0, .int .i64 0, .int .i64 0, .int .i64 0, .int .i64 0, .int .i64 0, .int .i64 0, .slice none 0 0, .slice none 0 0, .int .i64 0, .int .i64 0, .int .i64 0, .int .i64 0, .int .i64 0, .int .i64 0, .int .i64 0, .int .i64 0, .int .i64 0, .int .i64 0, .slice none 0 0, .slice none 0 0, .int .i64 0, .int .i64 0, .int .i64 0, .int .i64 0, .int .i64 0, .int .i64 0, .int .i64 0, .int .i64 0, .int .i64 0, .int .i64 0, .slice none 0 0, .slice none 0 0] 41) = w3 at *
    generalize w2.heap.size = dc at *
    refine tk 2 (v := ?_) rfl (by kernel_rfl) (by rfl) (by assumption) (fun _ _ _ h => h) ?_ ?_
    rotate_left
    · intro w0 hSw; clear hSw; go_simp; first | done | with_reducible rfl
    try simp only [Act.put, qa, qb, qc]
    have hBB := hHeld
    have cc := fun i => Joins.cell_of_block x3 i
    have ff := fun i => Joins.unfrozen_of_block x3 i
    refine rdy 4 (by kernel_rfl) rfl (fun K hK => ?_)
    go_simp
    refine hK.out _ _ (stW_below hHeld lx _ _ _ _) (fun hHeld => ?_)
    clear hK K
    try simp only [Act.put, qa, qb, qc]
    refine wpAnyH_done (by kernel_rfl) ?_ _
    go_wp2_with fail
    go_meet
    case rel => exact ⟨dx, W0.heap.size, dc, rfl, nw_start n3 c3 x3 lx hBB, ln, lc, lx⟩
  case step1r =>
   intro K hK
   go_simp
   have lc : W0.heap.size ≤ W0.heap.size := Nat.le_refl _
   refine hK.out _ _ (grew hHeld _) (fun hHeld => ?_)
   clear hK K
   try simp only [Act.put, qa, qb, qc]
   have c1 : ((W0.alloc (.cells #[.int .i64 0, .int .i64 0, .int .i64 0, .int .i64 0, .int .i64 0, .int .i64 0, .int .i64 0, .int .i64 0, .int .i64 0, .int .i64 0, .slice none 0 0, .slice none 0 0, .int .i64 0, .int .i64 0, .int .i64 0, .int .i64 0, .int .i64 0, .int .i64 0, .int .i64 0, .int .i64 0, .int .i64 0, .int .i64 0, .slice none 0 0, .slice none 0 0, .int .i64 0, .int .i64 0, .int .i64 0, .int .i64 0, .int .i64 0, .int .i64 0, .int .i64 0, .int .i64 0, .int .i64 0, .int .i64 0, .slice none 0 0, .slice none 0 0] 41)).drew).heap[W0.heap.size]? = some (.cells #[.int .i64 0, .int .i64 0, .int .i64 0, .int .i64 0, .int .i64 0, .int .i64 0, .int .i64 0, .int .i64 0, .int .i64 0, .int .i64 0, .slice none 0 0, .slice none 0 0, .int .i64 0, .int .i64 0, .int .i64 0, .int .i64 0, .int .i64 0, .int .i64 0, .int .i64 0, .int .i64 0, .int .i64 0, .int .i64 0, .slice none 0 0, .slice none 0 0, .int .i64 0, .int .i64 0, .int .i64 0, .int .i64 0, .int .i64 0, .int .i64 0, .int .i64 0, .int .i64 0, .int .i64 0, .int .i64 0, .slice none 0 0, .slice none 0 0] 41) := heap_new _ _
   generalize (W0.alloc (.cells #[.int .i64 0, .int .i64 0, .int .i64 0, .int .i64 0, .int .i64 0, .int .i64 0, .int .i64 0, .int .i64 0, .int .i64 0, .int .i64 0, .slice none 0 0, .slice none 0 0, .int .i64 0, .int .i64 0, .int .i64 0, .int .i64 0, .int .i64 0, .int .i64 0, .int .i64 0, .int .i64 0, .int .i64 0, .int .i64 0, .slice none 0 0, .slice none 0 0, .int .i64 0, .int .i64 0, .int .i64 0, .int .i64 0, .int .i64 0, .int .i64 0, .int .i64 0, .int .i64 0, .int .i64 0, .int .i64 0, .slice none 0 0, .slice none 0 0] 41)).drew = w1 at *
   refine wpAnyH_ready (rs := [0, 3]) (by kernel_rfl) (by simp) ?_
   refine AllReadyH.cons (o := ?o0rb) ?hi0rb ?step0rb (AllReadyH.cons (o := ?o3rb) ?hi3rb ?step3rb AllReadyH.nil)
   case hi0rb => (simp only [List.getElem?_toArray, List.getElem?_cons_succ, List.getElem?_cons_zero]; rfl)
   case hi3rb => (simp only [List.getElem?_toArray, List.getElem?_cons_succ, List.getElem?_cons_zero]; rfl)
   case step0rb =>
    intro K hK
    go_simp
    have ln : W0.heap.size ≤ w1.heap.size := hHeld.size
    refine hK.out _ _ (grew hHeld _) (fun hHeld => ?_)
    clear hK K
    try simp only [Act.put, qa, qb, qc]
    have n2 : (w1.alloc (.cells #[.int .i64 0, .slice none 0 0, .slice none 0 0, .slice none 0 0, .bool false, .int .i64 0, .slice none 0 0, .slice none 0 0, .slice none 0 0, .bool false, .int .i64 0, .slice none 0 0, .slice none 0 0, .slice none 0 0, .bool false] 49)).heap[w1.heap.size]? = some (.cells #[.int .i64 0, .slice none 0 0, .slice none 0 0, .slice none 0 0, .bool false, .int .i64 0, .slice none 0 0, .slice none 0 0, .slice none 0 0, .bool false, .int .i64 0, .slice none 0 0, .slice none 0 0, .slice none 0 0, .bool false] 49) := heap_new _ _
    have ncn : W0.heap.size ≠ w1.heap.size := by have := heap_lt c1; omega
    have c2 : _ := heap_below c1 (show Below w1.heap.size w1 (w1.alloc (.cells #[.int .i64 0, .slice none 0 0, .slice none 0 0, .slice none 0 0, .bool false, .int .i64 0, .slice none 0 0, .slice none 0 0, .slice none 0 0, .bool false, .int .i64 0, .slice none 0 0, .slice none 0 0, .slice none 0 0, .bool false] 49)) from grew (Below.refl _ _) _) (heap_lt c1)
    generalize w1.alloc (.cells #[.int .i64 0, .slice none 0 0, .slice none 0 0, .slice none 0 0, .bool false, .int .i64 0, .slice none 0 0, .slice none 0 0, .slice none 0 0, .bool false, .int .i64 0, .slice none 0 0, .slice none 0 0, .slice none 0 0, .bool false] 49) = w2 at *
    generalize w1.heap.size = dn at *
    refine tk 2 (v := ?_) rfl (by kernel_rfl) (by rfl) (by assumption) (fun _ _ _ h => h) ?_ ?_
    rotate_left
    · intro w0 hSw; clear hSw; go_simp; first | done | with_reducible rfl
    try simp only [Act.put, qa, qb, qc]
    refine rdy 3 (by kernel_rfl) rfl (fun K hK => ?_)
    go_simp
    have lx : W0.heap.size ≤ w2.heap.size := hHeld.size
    refine hK.out _ _ (grew hHeld _) (fun hHeld => ?_)
    clear hK K
    try simp only [Act.put, qa, qb, qc]
    have x3 : (w2.alloc (boxWZ)).heap[w2.heap.size]? = some (boxWZ) := heap_new _ _
    have ncx : W0.heap.size ≠ w2.heap.size := by have := heap_lt c2; omega
    have nnx : dn ≠ w2.heap.size := by have := heap_lt n2; omega
    have c3 : _ := heap_below c2 (show Below w2.heap.size w2 (w2.alloc (boxWZ)) from grew (Below.refl _ _) _) (heap_lt c2)
    have n3 : _ := heap_below n2 (show Below w2.heap.size w2 (w2.alloc (boxWZ)) from grew (Below.refl _ _) _) (heap_lt n2)
    generalize w2.alloc (boxWZ) = w3 at *
    generalize w2.heap.size = dx at *
    have hBB := hHeld
    have cc := fun i => Joins.cell_of_block x3 i
    have ff := fun i => Joins.unfrozen_of_block x3 i
    refine rdy 4 (by kernel_rfl) rfl (fun K hK => ?_)
    go_simp
    refine hK.out _ _ (stW_below hHeld lx _ _ _ _) (fun hHeld => ?_)
    clear hK K
    try simp only [Act.put, qa, qb, qc]
    refine wpAnyH_done (by kernel_rfl) ?_ _
    go_wp2_with fail
    go_meet
    case rel => exact ⟨dx, dn, W0.heap.size, rfl, nw_start n3 c3 x3 lx hBB, ln, lc, lx⟩
   case step3rb =>
    intro K hK
    go_simp
    have lx : W0.heap.size ≤ w1.heap.size := hHeld.size
    refine hK.out _ _ (grew hHeld _) (fun hHeld => ?_)
    clear hK K
    try simp only [Act.put, qa, qb, qc]
    have x2 : (w1.alloc (boxWZ)).heap[w1.heap.size]? = some (boxWZ) := heap_new _ _
    have ncx : W0.heap.size ≠ w1.heap.size := by have := heap_lt c1; omega
    have c2 : _ := heap_below c1 (show Below w1.heap.size w1 (w1.alloc (boxWZ)) from grew (Below.refl _ _) _) (heap_lt c1)
    generalize w1.alloc (boxWZ) = w2 at *
    generalize w1.heap.size = dx at *
    refine rdy 0 (by kernel_rfl) rfl (fun K hK => ?_)
    go_simp
    have ln : W0.heap.size ≤ w2.heap.size := hHeld.size
    refine hK.out _ _ (grew hHeld _) (fun hHeld => ?_)
    clear hK K
    try simp only [Act.put, qa, qb, qc]
    have n3 : (w2.alloc (.cells #[.int .i64 0, .slice none 0 0, .slice none 0 0, .slice none 0 0, .bool false, .int .i64 0, .slice none 0 0, .slice none 0 0, .slice none 0 0, .bool false, .int .i64 0, .slice none 0 0, .slice none 0 0, .slice none 0 0, .bool false] 49)).heap[w2.heap.size]? = some (.cells #[.int .i64 0, .slice none 0 0, .slice none 0 0, .slice none 0 0, .bool false, .int .i64 0, .slice none 0 0, .slice none 0 0, .slice none 0 0, .bool false, .int .i64 0, .slice none 0 0, .slice none 0 0, .slice none 0 0, .bool false] 49) := heap_new _ _
    have ncn : W0.heap.size ≠ w2.heap.size := by have := heap_lt c2; omega
    have nxn : dx ≠ w2.heap.size := by have := heap_lt x2; omega
    have c3 : _ := heap_below c2 (show Below w2.heap.size w2 (w2.alloc (.cells #[.int .i64 0, .slice none 0 0, .slice none 0 0, .slice none 0 0, .bool false, .int .i64 0, .slice none 0 0, .slice none 0 0, .slice none 0 0, .bool false, .int .i64 0, .slice none 0 0, .slice none 0 0, .slice none 0 0, .bool false] 49)) from grew (Below.refl _ _) _) (heap_lt c2)
    have x3 : _ := heap_below x2 (show Below w2.heap.size w2 (w2.alloc (.cells #[.int .i64 0, .slice none 0 0, .slice none 0 0, .slice none 0 0, .bool false, .int .i64 0, .slice none 0 0, .slice none 0 0, .slice none 0 0, .bool false, .int .i64 0, .slice none 0 0, .slice none 0 0, .slice none 0 0, .bool false] 49)) from grew (Below.refl _ _) _) (heap_lt x2)
    generalize w2.alloc (.cells #[.int .i64 0, .slice none 0 0, .slice none 0 0, .slice none 0 0, .bool false, .int .i64 0, .slice none 0 0, .slice none 0 0, .slice none 0 0, .bool false, .int .i64 0, .slice none 0 0, .slice none 0 0, .slice none 0 0, .bool false] 49) = w3 at *
    generalize w2.heap.size = dn at *
    refine tk 2 (v := ?_) rfl (by kernel_rfl) (by rfl) (by assumption) (fun _ _ _ h => h) ?_ ?_
    rotate_left
    · intro w0 hSw; clear hSw; go_simp; first | done | with_reducible rfl
    try simp only [Act.put, qa, qb, qc]
    have hBB := hHeld
    have cc := fun i => Joins.cell_of_block x3 i
    have ff := fun i => Joins.unfrozen_of_block x3 i
    refine rdy 4 (by kernel_rfl) rfl (fun K hK => ?_)
    go_simp
    refine hK.out _ _ (stW_below hHeld lx _ _ _ _) (fun hHeld => ?_)
    clear hK K
    try simp only [Act.put, qa, qb, qc]
    refine wpAnyH_done (by kernel_rfl) ?_ _
    go_wp2_with fail
    go_meet
    case rel => exact ⟨dx, dn, W0.heap.size, rfl, nw_start n3 c3 x3 lx hBB, ln, lc, lx⟩
  case step3r =>
   intro K hK
   go_simp
   have lx : W0.heap.size ≤ W0.heap.size := Nat.le_refl _
   refine hK.out _ _ (grew hHeld _) (fun hHeld => ?_)
   clear hK K
   try simp only [Act.put, qa, qb, qc]
   have x1 : ((W0.alloc (boxWZ)).drew).heap[W0.heap.size]? = some (boxWZ) := heap_new _ _
   generalize (W0.alloc (boxWZ)).drew = w1 at *
   refine wpAnyH_ready (rs := [0, 1]) (by kernel_rfl) (by simp) ?_
   refine AllReadyH.cons (o := ?o0rc) ?hi0rc ?step0rc (AllReadyH.cons (o := ?o1rc) ?hi1rc ?step1rc AllReadyH.nil)
   case hi0rc => (simp only [List.getElem?_toArray, List.getElem?_cons_succ, List.getElem?_cons_zero]; rfl)
   case hi1rc => (simp only [List.getElem?_toArray, List.getElem?_cons_succ, List.getElem?_cons_zero]; rfl)
   case step0rc =>
    intro K hK
    go_simp
    have ln : W0.heap.size ≤ w1.heap.size := hHeld.size
    refine hK.out _ _ (grew hHeld _) (fun hHeld => ?_)
    clear hK K
    try simp only [Act.put, qa, qb, qc]
    have n2 : (w1.alloc (.cells #[.int .i64 0, .slice none 0 0, .slice none 0 0, .slice none 0 0, .bool false, .int .i64 0, .slice none 0 0, .slice none 0 0, .slice none 0 0, .bool false, .int .i64 0, .slice none 0 0, .slice none 0 0, .slice none 0 0, .bool false] 49)).heap[w1.heap.size]? = some (.cells #[.int .i64 0, .slice none 0 0, .slice none 0 0, .slice none 0 0, .bool false, .int .i64 0, .slice none 0 0, .slice none 0 0, .slice none 0 0, .bool false, .int .i64 0, .slice none 0 0, .slice none 0 0, .slice none 0 0, .bool false] 49) := heap_new _ _
    have nxn : W0.heap.size ≠ w1.heap.size := by have := heap_lt x1; omega
    have x2 : _ := heap_below x1 (show Below w1.heap.size w1 (w1.alloc (.cells #[.int .i64 0, .slice none 0 0, .slice none 0 0, .slice none 0 0, .bool false, .int .i64 0, .slice none 0 0, .slice none 0 0, .slice none 0 0, .bool false, .int .i64 0, .slice none 0 0, .slice none 0 0, .slice none 0 0, .bool false] 49)) from grew (Below.refl _ _) _) (heap_lt x1)
    generalize w1.alloc (.cells #[.int .i64 0, .slice none 0 0, .slice none 0 0, .slice none 0 0, .bool false, .int .i64 0, .slice none 0 0, .slice none 0 0, .slice none 0 0, .bool false, .int .i64 0, .slice none 0 0, .slice none 0 0, .slice none 0 0, .bool false] 49) = w2 at *
    generalize w1.heap.size = dn at *
    refine rdy 1 (by kernel_rfl) rfl (fun K hK => ?_)
    go_simp
    have lc : W0.heap.size ≤ w2.heap.size := hHeld.size
    refine hK.out _ _ (grew hHeld _) (fun hHeld => ?_)
    clear hK K
    try simp only [Act.put, qa, qb, qc]
    have c3 : (w2.alloc (.cells #[.int .i64 0, .int .i64 0, .int .i64 0, .int .i64 0, .int .i64 0, .int .i64 0, .int .i64 0, .int .i64 0, .int .i64 0, .int .i64 0, .slice none 0 0, .slice none 0 0, .int .i64 0, .int .i64 0, .int .i64 0, .int .i64 0, .int .i64 0, .int .i64 0, .int .i64 0, .int .i64 0, .int .i64 0, .int .i64 0, .slice none 0 0, .slice none 0 0, .int .i64 0, .int .i64 0, .int .i64 0, .int .i64 0, .int .i64 0, .int .i64 0, .int .i64 0, .int .i64 0, .int .i64 0, .int .i64 0, .slice none 0 0, .slice none 0 0] 41)).heap[w2.heap.size]? = some (.cells #[.int .i64 0, .int .i64 0, .int .i64 0, .int .i64 0, .int .i64 0, .int .i64 0, .int .i64 0, .int .i64 0, .int .i64 0, .int .i64 0, .slice none 0 0, .slice none 0 0, .int .i64 0, .int .i64 0, .int .i64 0, .int .i64 0, .int .i64 0, .int .i64 0, .int .i64 0, .int .i64 0, .int .i64 0, .int .i64 0, .slice none 0 0, .slice none 0 0, .int .i64 0, .int .i64 0, .int .i64 0, .int .i64 0, .int .i64 0, .int .i64 0, .int .i64 0, .int .i64 0, .int .i64 0, .int .i64 0, .slice none 0 0, .slice none 0 0] 41) := heap_new _ _
    have nxc : W0.heap.size ≠ w2.heap.size := by have := heap_lt x2; omega
    have nnc : dn ≠ w2.heap.size := by have := heap_lt n2; omega
    have x3 : _ := heap_below x2 (show Below w2.heap.size w2 (w2.alloc (.cells #[.int .i64 0, .int .i64 0, .int .i64 0, .int .i64 0, .int .i64 0, .int .i64 0, .int .i64 0, .int .i64 0, .int .i64 0, .int .i64 0, .slice none 0 0, .slice none 0 0, .int .i64 0, .int .i64 0, .int .i64 0, .int .i64 0, .int .i64 0, .int .i64 0, .int .i64 0, .int .i64 0, .int .i64 0, .int .i64 0, .slice none 0 0, .slice none 0 0, .int .i64 0, .int .i64 0, .int .i64 0, .int .i64 0, .int .i64 0, .int .i64 0, .int .i64 0, .int .i64 0, .int .i64 0, .int .i64 0, .slice none 0 0, .slice none 0 0] 41)) from grew (Below.refl _ _) _) (heap_lt x2)
    have n3 : _ := heap_below n2 (show Below w2.heap.size w2 (w2.alloc (.cells #[.int .i64 0, .int .i64 0, .int .i64 0, .int .i64 0, .int .i64 0, .int .i64 0, .int .i64 0, .int .i64 0, .int .i64 0, .int .i64 0, .slice none 0 0, .slice none 0 0, .int .i64 0, .int .i64 0, .int .i64 0, .int .i64 0, .int .i64 0, .int .i64 0, .int .i64 0, .int .i64 0, .int .i64 0, .int .i64 0, .slice none 0 0, .slice none 0 0, .int .i64 0, .int .i64 0, .int .i64 0, .int .i64 0, .int .i64 0, .int .i64 0, .int .i64 0, .int .i64 0, .int .i64 0, .int .i64 0, .slice none 0 0, .slice none 0 0] 41)) from grew (Below.refl _ _) _) (heap_lt n2)
    generalize w2.alloc (.cells #[.int .i64 0, .int .i64 0, .int .i64 0, .int .i64 0, .int .i64 0, .int .i64 0, .int .i64 0, .int .i64 0, .int .i64 0, .int .i64 0, .slice none 0 0, .slice none 0 0, .int .i64 0, .int .i64 0, .int .i64 0, .int .i64 0, .int .i64 0, .int .i64 0, .int .i64 0, .int .i64 0, .int .i64 0, .int .i64 0, .slice none 0 0, .slice none 0 0, .int .i64 0, .int .i64 0, .int .i64 0, .int .i64 0, .int .i64 0, .int .i64 0, .int .i64 0, .int .i64 0, .int .i64 0, .int .i64 0, .slice none 0 0, .slice none 0 0] 41) = w3 at *
    generalize w2.heap.size = dc at *
    refine tk 2 (v := ?_) rfl (by kernel_rfl) (by rfl) (by assumption) (fun _ _ _ h => h) ?_ ?_
    rotate_left
    · intro w0 hSw; clear hSw; go_simp; first | done | with_reducible rfl
    try simp only [Act.put, qa, qb, qc]
    have hBB := hHeld
    have cc := fun i => Joins.cell_of_block x3 i
    have ff := fun i => Joins.unfrozen_of_block x3 i
    refine rdy 4 (by kernel_rfl) rfl (fun K hK => ?_)
    go_simp
    refine hK.out _ _ (stW_below hHeld lx _ _ _ _) (fun hHeld => ?_)
    clear hK K
    try simp only [Act.put, qa, qb, qc]
    refine wpAnyH_done (by kernel_rfl) ?_ _
    go_wp2_with fail
    go_meet
    case rel => exact ⟨W0.heap.size, dn, dc, rfl, nw_start n3 c3 x3 lx hBB, ln, lc, lx⟩
   case step1rc =>
    intro K hK
    go_simp
    have lc : W0.heap.size ≤ w1.heap.size := hHeld.size
    refine hK.out _ _ (grew hHeld _) (fun hHeld => ?_)
    clear hK K
    try simp only [Act.put, qa, qb, qc]
    have c2 : (w1.alloc (.cells #[.int .i64 0, .int .i64 0, .int .i64 0, .int .i64 0, .int .i64 0, .int .i64 0, .int .i64 0, .int .i64 0, .int .i64 0, .int .i64 0, .slice none 0 0, .slice none 0 0, .int .i64 0, .int .i64 0, .int .i64 0, .int .i64 0, .int .i64 0, .int .i64 0, .int .i64 0, .int .i64 0, .int .i64 0, .int .i64 0, .slice none 0 0, .slice none 0 0, .int .i64 0, .int .i64 0, .int .i64 0, .int .i64 0, .int .i64 0, .int .i64 0, .int .i64 0, .int .i64 0, .int .i64 0, .int .i64 0, .slice none 0 0, .slice none 0 0] 41)).heap[w1.heap.size]? = some (.cells #[.int .i64 0, .int .i64 0, .int .i64 0, .int .i64 0, .int .i64 0, .int .i64 0, .int .i64 0, .int .i64 0, .int .i64 0, .int .i64 0, .slice none 0 0, .slice none 0 0, .int .i64 0, .int .i64 0, .int .i64 0, .int .i64 0, .int .i64 0, .int .i64 0, .int .i64 0, .int .i64 0, .int .i64 0, .int .i64 0, .slice none 0 0, .slice none 0 0, .int .i64 0, .int .i64 0, .int .i64 0, .int .i64 0, .int .i64 0, .int .i64 0, .int .i64 0, .int .i64 0, .int .i64 0, .int .i64 0, .slice none 0 0, .slice none 0 0] 41) := heap_new _ _
    have nxc : W0.heap.size ≠ w1.heap.size := by have := heap_lt x1; omega
    have x2 : _ := heap_below x1 (show Below w1.heap.size w1 (w1.alloc (.cells #[.int .i64 0, .int .i64 0, .int .i64 0, .int .i64 0, .int .i64 0, .int .i64 0, .int .i64 0, .int .i64 0, .int .i64 0, .int .i64 0, .slice none 0 0, .slice none 0 0, .int .i64 0, .int .i64 0, .int .i64 0, .int .i64 0, .int .i64 0, .int .i64 0, .int .i64 0, .int .i64 0, .int .i64 0, .int .i64 0, .slice none 0 0, .slice none 0 0, .int .i64 0, .int .i64 0, .int .i64 0, .int .i64 0, .int .i64 0, .int .i64 0, .int .i64 0, .int .i64 0, .int .i64 0, .int .i64 0, .slice none 0 0, .slice none 0 0] 41)) from grew (Below.refl _ _) _) (heap_lt x1)
    generalize w1.alloc (.cells #[.int .i64 0, .int .i64 0, .int .i64 0, .int .i64 0, .int .i64 0, .int .i64 0, .int .i64 0, .int .i64 0, .int .i64 0, .int .i64 0, .slice none 0 0, .slice none 0 0, .int .i64 0, .int .i64 0, .int .i64 0, .int .i64 0, .int .i64 0, .int .i64 0, .int .i64 0, .int .i64 0, .int .i64 0, .int .i64 0, .slice none 0 0, .slice none 0 0, .int .i64 0, .int .i64 0, .int .i64 0, .int .i64 0, .int .i64 0, .int .i64 0, .int .i64 0, .int .i64 0, .int .i64 0, .int .i64 0, .slice none 0 0, .slice none 0 0] 41) = w2 at *
    generalize w1.heap.size = dc at *
    refine rdy 0 (by kernel_rfl) rfl (fun K hK => ?_)
    go_simp
    have ln : W0.heap.size ≤ w2.heap.size := hHeld.size
    refine hK.out _ _ (grew hHeld _) (fun hHeld => ?_)
    clear hK K
    try simp only [Act.put, qa, qb, qc]
    have n3 : (w2.alloc (.cells #[.int .i64 0, .slice none 0 0, .slice none 0 0, .slice none 0 0, .bool false, .int .i64 0, .slice none 0 0, .slice none 0 0, .slice none 0 0, .bool false, .int .i64 0, .slice none 0 0, .slice none 0 0, .slice none 0 0, .bool false] 49)).heap[w2.heap.size]? = some (.cells #[.int .i64 0, .slice none 0 0, .slice none 0 0, .slice none 0 0, .bool false, .int .i64 0, .slice none 0 0, .slice none 0 0, .slice none 0 0, .bool false, .int .i64 0, .slice none 0 0, .slice none 0 0, .slice none 0 0, .bool false] 49) := heap_new _ _
    have nxn : W0.heap.size ≠ w2.heap.size := by have := heap_lt x2; omega
    have ncn : dc ≠ w2.heap.size := by have := heap_lt c2; omega
    have x3 : _ := heap_below x2 (show Below w2.heap.size w2 (w2.alloc (.cells #[.int .i64 0, .slice none 0 0, .slice none 0 0, .slice none 0 0, .bool false, .int .i64 0, .slice none 0 0, .slice none 0 0, .slice none 0 0, .bool false, .int .i64 0, .slice none 0 0, .slice none 0 0, .slice none 0 0, .bool false] 49)) from grew (Below.refl _ _) _) (heap_lt x2)
    have c3 : _ := heap_below c2 (show Below w2.heap.size w2 (w2.alloc (.cells #[.int .i64 0, .slice none 0 0, .slice none 0 0, .slice none 0 0, .bool false, .int .i64 0, .slice none 0 0, .slice none 0 0, .slice none 0 0, .bool false, .int .i64 0, .slice none 0 0, .slice none 0 0, .slice none 0 0, .bool false] 49)) from grew (Below.refl _ _) _) (heap_lt c2)
    generalize w2.alloc (.cells #[.int .i64 0, .slice none 0 0, .slice none 0 0, .slice none 0 0, .bool false, .int .i64 0, .slice none 0 0, .slice none 0 0, .slice none 0 0, .bool false, .int .i64 0, .slice none 0 0, .slice none 0 0, .slice none 0 0, .bool false] 49) = w3 at *
    generalize w2.heap.size = dn at *
    refine tk 2 (v := ?_) rfl (by kernel_rfl) (by rfl) (by assumption) (fun _ _ _ h => h) ?_ ?_
    rotate_left
    · intro w0 hSw; clear hSw; go_simp; first | done | with_reducible rfl
    try simp only [Act.put, qa, qb, qc]
    have hBB := hHeld
    have cc := fun i => Joins.cell_of_block x3 i
    have ff := fun i => Joins.unfrozen_of_block x3 i
    refine rdy 4 (by kernel_rfl) rfl (fun K hK => ?_)
    go_simp
    refine hK.out _ _ (stW_below hHeld lx _ _ _ _) (fun hHeld => ?_)
    clear hK K
    try simp only [Act.put, qa, qb, qc]
    refine wpAnyH_done (by kernel_rfl) ?_ _
    go_wp2_with fail
    go_meet
    case rel => exact ⟨W0.heap.size, dn, dc, rfl, nw_start n3 c3 x3 lx hBB, ln, lc, lx⟩
 case rest =>
  obtain ⟨b, g1, g2, rfl, hE, l1, l2, lb⟩ := hcut
  have HE : Aside (Nw1 W0 wc b g1 g2 0) := hE
  have HGW : Hid (W0.heap.size ≤ b ∧ W0.heap.size ≤ g1 ∧ W0.heap.size ≤ g2) := ⟨lb, l1, l2⟩
  have zb : ∀ i, wc.cell? ⟨b, i, none⟩ = #[Value.slice (some ⟨g1, 0, none⟩) 3 3, .int .i64 0, .slice (some ⟨g2, 0, none⟩) 3 3, .int .i64 0][i]? := fun i => by
   obtain ⟨ys, _, hS, _⟩ := hE
   exact Joins.cell_of_block hS.box i
  clear hE l1 l2 lb hmkN hmkC
  go_wp2
  clear zb
  go_loopw [10] (fun i wr => ∃ k : Nat, k ≤ 3 ∧ i = .int .i64 k ∧ Nw1 W0 wr b g1 g2 k) (fun i _ => 3 - (intOf i).toNat)
  case atStart => exact ⟨0, Nat.zero_le _, rfl, HE.out⟩
  case round =>
   clear HE
   obtain ⟨k, hk, rfl, hrelN⟩ := hrel
   by_cases hlt : k < 3
   · obtain ⟨ys, hyl, hS, hnn⟩ := hrelN
    obtain ⟨x, hx⟩ : ∃ x, ys[k]? = some x := ⟨ys[k]'(by omega), List.getElem?_eq_getElem _⟩
    have HY : Aside (ys.length = 3 ∧ ys[k]? = some x ∧ ∀ i y, i < k → ys[i]? = some y → y.n = nnew) := ⟨hyl, hx, hnn⟩
    have HS : Aside (WSt W0 wr.drew b g1 g2 (ys.flatMap Nb.cells) 0 ([cbZ, cbZ, cbZ].flatMap Cb.cells) 0 (ys.take k) []) := hS.later (Below.refl _ _).drew
    have hki : (k : Int) < 3 := by omega
    have hk0 : (0 : Int) ≤ (k : Int) := by omega
    clear hyl hS hnn hx
    go_upto_region 5 with fail
    refine wp_region_noPanic ?_
    refine region_L (fun w' => Below wr.drew.heap.size wr.drew w') 6 (by kernel_rfl) (Below.refl _ _) (fun hHeld => ?_)
    generalize wr.drew = w1 at *
    refine tl 0 (v := ?_) rfl (by kernel_rfl) (by rfl) (by assumption) (fun _ _ _ h => h) ?_ ?_
    rotate_left
    · (intro w0 hSw; clear hSw; go_simp; first | done | with_reducible rfl)
    try simp only [Act.put, qa, qb, qc]
    refine tl 1 (v := ?_) rfl (by kernel_rfl) (by rfl) (by assumption) (fun _ _ _ h => h) ?_ ?_
    rotate_left
    · (intro w0 hSw; have zb := (show ∀ i, w0.cell? ⟨b, i, none⟩ = #[Value.slice (some ⟨g1, 0, none⟩) 3 3, .int .i64 0, .slice (some ⟨g2, 0, none⟩) 3 3, .int .i64 0][i]? from fun i => Joins.cell_of_block (heap_below HS.out.box hSw (heap_lt HS.out.box)) i); clear hSw; go_simp; first | done | with_reducible rfl)
    try simp only [Act.put, qa, qb, qc]
    refine tl 2 (v := ?_) rfl (by kernel_rfl) (by rfl) (by assumption) (fun _ _ _ h => h) ?_ ?_
    rotate_left
    · (intro w0 hSw; clear hSw; go_simp; first | done | with_reducible rfl)
    try simp only [Act.put, qa, qb, qc]
    refine anyL_one (i := 3) (by kernel_rfl) rfl (fun K hK => ?_)
    go_simp
    refine (unitNew_own _).mono ?_
    rintro e w2 ⟨g, rfl, hg0, hg, hb2⟩
    have S2 : Aside _ := HS.out.later hb2
    have G2 : Aside (w2.heap[g]? = some (.cells (unew.cells.flatMap En.cells).toArray 27)) := by rwa [List.append_nil] at hg
    have hH2 := step_below1 hHeld hb2
    refine hK.out _ _ (fun _ => hH2) (fun hNext => ?_)
    replace hNext := hNext (by kernel_rfl)
    clear hK K hb2 hg hg0 HS hHeld hH2
    try simp only [Act.put, qa, qb, qc]
    refine tl 4 (v := ?_) rfl (by kernel_rfl) (by rfl) (by assumption) (fun _ _ _ h => h) ?_ ?_
    rotate_left
    · (intro w0 hSw; clear hSw; go_simp; first | done | with_reducible rfl)
    try simp only [Act.put, qa, qb, qc]
    refine tl 5 (v := ?_) rfl (by kernel_rfl) (by rfl) (by assumption) (fun _ _ _ h => h) ?_ ?_
    rotate_left
    · (intro w0 hSw; clear hSw; go_simp; first | done | with_reducible rfl)
    try simp only [Act.put, qa, qb, qc]
    have yc : ∀ i : Nat, i < 5 → ∃ v, w2.cell? ⟨g1, k * 5 + i, none⟩ = some v := fun i hi => by
     have hz := (S2.out.nrow)
     have hn := S2.out.nlen
     rw [Joins.cell_of_block hz]
     refine ⟨(ys.flatMap Nb.cells)[k * 5 + i]'(by omega), ?_⟩
     rw [List.getElem?_toArray, List.getElem?_eq_getElem]
    obtain ⟨v0, y0⟩ := yc 0 (by omega)
    obtain ⟨v1, y1⟩ := yc 1 (by omega)
    obtain ⟨v2, y2⟩ := yc 2 (by omega)
    obtain ⟨v3, y3⟩ := yc 3 (by omega)
    obtain ⟨v4, y4⟩ := yc 4 (by omega)
    rw [Nat.add_zero] at y0
    clear yc
    have fy := fun i => Joins.unfrozen_of_block S2.out.nrow i
    refine anyL_one (i := 6) (by kernel_rfl) rfl (fun K hK => ?_)
    go_simp
    refine hK.out _ _ (fun h => absurd h (by decide +kernel)) (fun _ => ?_)
    clear hK K y0 y1 y2 y3 y4 fy
    try simp only [Act.put, qa, qb, qc]
    refine anyL_done (by kernel_rfl) ?_ _
    refine NoPanic.normal ?_
    try simp only [Act.put, qa, qb, qc]
    have hu := own_ents G2.out unew rfl
    have hyT : NodeT w2 ⟨nnew, .slice (some ⟨g, 0, none⟩) 60 60, nil0, nil0⟩ := ⟨hu, ⟨SlOf.nil _ _, SlOf.nil _ _, ⟨_, _, _, rfl, Nat.le_refl _⟩, ⟨_, _, _, rfl, Nat.le_refl _⟩⟩⟩
    have HN := Nw1.step HY.out.1 HY.out.2.1 S2.out HY.out.2.2 hyT rfl
    have HN' : Aside (Nw1 W0 (st5 w2 g1 (k * 5) ⟨nnew, .slice (some ⟨g, 0, none⟩) 60 60, nil0, nil0⟩) b g1 g2 (k + 1)) := HN
    clear hyT hu HN S2 G2 HY hNext
    go_wp2
    go_roundw
    case rel => exact ⟨k + 1, by omega, by go_num, HN'.out⟩
    case measure => simp [intOf]; omega
   · have hk3 : k = 3 := by omega
    have HE : Aside (Nw2 W0 wr b g1 g2 0) := (show Nw1 W0 wr b g1 g2 3 from hk3 ▸ hrelN).all
    have hki : ¬ (k : Int) < 3 := by omega
    have zb : ∀ i, wr.cell? ⟨b, i, none⟩ = #[Value.slice (some ⟨g1, 0, none⟩) 3 3, .int .i64 0, .slice (some ⟨g2, 0, none⟩) 3 3, .int .i64 0][i]? := fun i => by
     obtain ⟨ys, _, hS, _⟩ := hrelN
     exact Joins.cell_of_block hS.box i
    clear hrelN hk hlt hk3
    go_wp2
    clear zb
    generalize wr = wq at *
    go_loopw [23] (fun i wr => ∃ k : Nat, k ≤ 3 ∧ i = .int .i64 k ∧ Nw2 W0 wr b g1 g2 k) (fun i _ => 3 - (intOf i).toNat)
    case atStart => exact ⟨0, Nat.zero_le _, rfl, HE.out⟩
    case round =>
     clear HE
     obtain ⟨k, hk, rfl, hrelN⟩ := hrel
     by_cases hlt : k < 3
     · obtain ⟨ys, ds, hyl, hdl, hS, hnn, hcc⟩ := hrelN
      obtain ⟨x, hx⟩ : ∃ x, ds[k]? = some x := ⟨ds[k]'(by omega), List.getElem?_eq_getElem _⟩
      have HY : Aside (ys.length = 3 ∧ ds.length = 3 ∧ ds[k]? = some x ∧ nodesOf ys = [nnew, nnew, nnew] ∧ ∀ i y, i < k → ds[i]? = some y → y.c = cnew) := ⟨hyl, hdl, hx, hnn, hcc⟩
      have HS : Aside (WSt W0 wr.drew b g1 g2 (ys.flatMap Nb.cells) 0 (ds.flatMap Cb.cells) 0 ys (ds.take k)) := hS.later (Below.refl _ _).drew
      have hki : (k : Int) < 3 := by omega
      have hk0 : (0 : Int) ≤ (k : Int) := by omega
      clear hyl hdl hS hnn hcc hx
      go_upto_region 10 with fail
      refine wp_region_noPanic ?_
      refine region_L (fun w' => Below wr.drew.heap.size wr.drew w') 5 (by kernel_rfl) (Below.refl _ _) (fun hHeld => ?_)
      generalize wr.drew = w1 at *
      refine tl 0 (v := ?_) rfl (by kernel_rfl) (by rfl) (by assumption) (fun _ _ _ h => h) ?_ ?_
      rotate_left
      · (intro w0 hSw; clear hSw; go_simp; first | done | with_reducible rfl)
      try simp only [Act.put, qa, qb, qc]
      refine tl 1 (v := ?_) rfl (by kernel_rfl) (by rfl) (by assumption) (fun _ _ _ h => h) ?_ ?_
      rotate_left
      · (intro w0 hSw; have zb := (show ∀ i, w0.cell? ⟨b, i, none⟩ = #[Value.slice (some ⟨g1, 0, none⟩) 3 3, .int .i64 0, .slice (some ⟨g2, 0, none⟩) 3 3, .int .i64 0][i]? from fun i => Joins.cell_of_block (heap_below HS.out.box hSw (heap_lt HS.out.box)) i); clear hSw; go_simp; first | done | with_reducible rfl)
      try simp only [Act.put, qa, qb, qc]
      refine tl 2 (v := ?_) rfl (by kernel_rfl) (by rfl) (by assumption) (fun _ _ _ h => h) ?_ ?_
      rotate_left
      · (intro w0 hSw; clear hSw; go_simp; first | done | with_reducible rfl)
      try simp only [Act.put, qa, qb, qc]
      refine anyL_one (i := 3) (by kernel_rfl) rfl (fun K hK => ?_)
      go_simp
      refine (cl_new _).mono ?_
      rintro e w2 ⟨rfl, hb2⟩
      have S2 : Aside _ := HS.out.later hb2
      have hH2 := step_below1 hHeld hb2
      refine hK.out _ _ (fun _ => hH2) (fun hNext => ?_)
      replace hNext := hNext (by kernel_rfl)
      clear hK K hb2 HS hHeld hH2
      try simp only [Act.put, qa, qb, qc]
      refine tl 4 (v := ?_) rfl (by kernel_rfl) (by rfl) (by assumption) (fun _ _ _ h => h) ?_ ?_
      rotate_left
      · (intro w0 hSw; clear hSw; go_simp; first | done | with_reducible rfl)
      try simp only [Act.put, qa, qb, qc]
      have yc : ∀ i : Nat, i < 12 → ∃ v, w2.cell? ⟨g2, k * 12 + i, none⟩ = some v := fun i hi => by
       have hz := (S2.out.crow)
       have hn := S2.out.clen
       rw [Joins.cell_of_block hz]
       refine ⟨(ds.flatMap Cb.cells)[k * 12 + i]'(by omega), ?_⟩
       rw [List.getElem?_toArray, List.getElem?_eq_getElem]
      obtain ⟨v0, y0⟩ := yc 0 (by omega)
      obtain ⟨v1, y1⟩ := yc 1 (by omega)
      obtain ⟨v2, y2⟩ := yc 2 (by omega)
      obtain ⟨v3, y3⟩ := yc 3 (by omega)
      obtain ⟨v4, y4⟩ := yc 4 (by omega)
      obtain ⟨v5, y5⟩ := yc 5 (by omega)
      obtain ⟨v6, y6⟩ := yc 6 (by omega)
      obtain ⟨v7, y7⟩ := yc 7 (by omega)
      obtain ⟨v8, y8⟩ := yc 8 (by omega)
      obtain ⟨v9, y9⟩ := yc 9 (by omega)
      obtain ⟨v10, y10⟩ := yc 10 (by omega)
      obtain ⟨v11, y11⟩ := yc 11 (by omega)
      rw [Nat.add_zero] at y0
      clear yc
      have fy := fun i => Joins.unfrozen_of_block S2.out.crow i
      refine anyL_one (i := 5) (by kernel_rfl) rfl (fun K hK => ?_)
      go_simp
      refine hK.out _ _ (fun h => absurd h (by decide +kernel)) (fun _ => ?_)
      clear hK K y0 y1 y2 y3 y4 y5 y6 y7 y8 y9 y10 y11 fy
      try simp only [Act.put, qa, qb, qc]
      refine anyL_done (by kernel_rfl) ?_ _
      refine NoPanic.normal ?_
      try simp only [Act.put, qa, qb, qc]
      have HN := Nw2.step HY.out.1 HY.out.2.1 HY.out.2.2.1 S2.out HY.out.2.2.2.1 HY.out.2.2.2.2
      have HN' : Aside (Nw2 W0 (stC w2 g2 (k * 12) ⟨cnew, nil0, nil0⟩) b g1 g2 (k + 1)) := HN
      clear HN S2 HY hNext
      go_wp2
      go_roundw
      case rel => exact ⟨k + 1, by omega, by go_num, HN'.out⟩
      case measure => simp [intOf]; omega
     · obtain rfl : k = 3 := by omega
      obtain ⟨ys, ds, hI, hyn, hdn⟩ := hrelN.all
      have HI : Aside (WIn W0 wr b g1 g2 ys 0 ds 0) := hI
      have HZN : Hid (nodesOf ys = wnew.ns ∧ clientsOf ds = wnew.cs) := ⟨hyn, hdn⟩
      have zb := fun i => Joins.cell_of_block hI.st.box i
      have HB : Aside (Below W0.heap.size W0 wr) := hI.st.below.whole HGW.out.1 HGW.out.2.1 HGW.out.2.2
      have HY4 : Aside _ := heap_below h0_0.out HB.out (heap_lt h0_0.out)
      have y4 := fun i => Joins.cell_of_block HY4.out i
      have f4 := fun i => Joins.unfrozen_of_block HY4.out i
      clear hrelN hI hyn hdn hk hlt
      go_wp2
      have h3 := HGW.out
      have h4 := heap_lt h0_0.out
      have h5 := B0.out.size
      exact ret1_world (p := 0) Tryz.results26 rfl rfl (stW_box HY4.out (.slice (some ⟨g1, 0, none⟩) 3 3) 0 (.slice (some ⟨g2, 0, none⟩) 3 3) 0) ⟨_, _, rfl, Or.inr ⟨g1, g2, ys, ds, rfl, rfl, wrow_st HY4.out (HI.out.st.rebase B0.out) (by omega) (by omega) (by omega) (by omega) (by omega) (step_below1 B0.out HB.out) HI.out.three HI.out.three' _ _, HZN.out.1, HZN.out.2⟩, stW_below (step_below1 B0.out HB.out) (by omega) _ _ _ _⟩
end Go.Proofs.YtmoaobfmopimlafGreatDoor
