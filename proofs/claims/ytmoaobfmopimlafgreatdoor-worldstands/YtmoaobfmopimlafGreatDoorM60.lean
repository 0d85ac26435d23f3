/- For the law. -/
import Derived.Test.YtmoaobfmopimlafGreatDoorM59
set_option linter.unusedSimpArgs false
set_option linter.unusedVariables false
namespace Go.Proofs.YtmoaobfmopimlafGreatDoor
open Go.RowKit
set_option maxHeartbeats 4000000 in
set_option maxRecDepth 100000 in
theorem w_hap10 (x : Hp) (w : World) (B : Nat) (h10 : (x.k == 10) = true) {R : Int → World → Prop} (kc : Calls Tryz.prog 71 #[.pointer (some ⟨B, 0, none⟩), .int .i64 x.n] (w.alloc (boxH x)) fun e w' => ∃ d, e = .returned (.int .i64 d) ∧ R d w') :
  Calls Tryz.prog 24 #[.pointer (some ⟨B, 0, none⟩), x.val] w fun e w' => ∃ d, e = .returned (.int .i64 d) ∧ R d w' := by
 have HX0 : Aside ((w.alloc (boxH x)).heap[w.heap.size]? = some (boxH x)) := heap_new _ _
 go_enter Tryz.func24, Tryz.ntmps24
 go_upto_region 1 with fail
 generalize w.alloc (boxH x) = w1 at *
 have zh := cb HX0
 go_wp2_with fail
 refine kc.mono ?_
 rintro e w2 ⟨d, rfl, hp⟩
 have HF : Aside _ := hp
 clear hp kc zh
 go_wp2
 go_ret
 exact ⟨d, rfl, HF.out⟩
set_option maxHeartbeats 4000000 in
set_option maxRecDepth 100000 in
theorem w_hap11 (x : Hp) (w : World) (B : Nat) (h10 : (x.k == 10) = false) (h11 : (x.k == 11) = true) {R : Int → World → Prop} (kc : Calls Tryz.prog 72 #[.pointer (some ⟨B, 0, none⟩), .int .i64 x.n] (w.alloc (boxH x)) fun e w' => ∃ d, e = .returned (.int .i64 d) ∧ R d w') :
  Calls Tryz.prog 24 #[.pointer (some ⟨B, 0, none⟩), x.val] w fun e w' => ∃ d, e = .returned (.int .i64 d) ∧ R d w' := by
 have HX0 : Aside ((w.alloc (boxH x)).heap[w.heap.size]? = some (boxH x)) := heap_new _ _
 go_enter Tryz.func24, Tryz.ntmps24
 go_upto_region 1 with fail
 generalize w.alloc (boxH x) = w1 at *
 have zh := cb HX0
 go_wp2_with fail
 refine kc.mono ?_
 rintro e w2 ⟨d, rfl, hp⟩
 have HF : Aside _ := hp
 clear hp kc zh
 go_wp2
 go_ret
 exact ⟨d, rfl, HF.out⟩
set_option maxHeartbeats 4000000 in
set_option maxRecDepth 100000 in
theorem w_hap8 (x : Hp) (w : World) (B : Nat) (h10 : (x.k == 10) = false) (h11 : (x.k == 11) = false) (h8 : (x.k == 8) = true) {R : Int → World → Prop} (kc : Calls Tryz.prog 73 #[.pointer (some ⟨B, 0, none⟩), x.val] (w.alloc (boxH x)) fun e w' => ∃ d, e = .returned (.int .i64 d) ∧ R d w') :
  Calls Tryz.prog 24 #[.pointer (some ⟨B, 0, none⟩), x.val] w fun e w' => ∃ d, e = .returned (.int .i64 d) ∧ R d w' := by
 have HX0 : Aside ((w.alloc (boxH x)).heap[w.heap.size]? = some (boxH x)) := heap_new _ _
 go_enter Tryz.func24, Tryz.ntmps24
 go_upto_region 1 with fail
 generalize w.alloc (boxH x) = w1 at *
 have zh := cb HX0
 go_wp2_with fail
 refine kc.mono ?_
 rintro e w2 ⟨d, rfl, hp⟩
 have HF : Aside _ := hp
 clear hp kc zh
 go_wp2
 go_ret
 exact ⟨d, rfl, HF.out⟩
set_option maxHeartbeats 4000000 in
set_option maxRecDepth 100000 in
theorem w_hap9 (x : Hp) (w : World) (B : Nat) (h10 : (x.k == 10) = false) (h11 : (x.k == 11) = false) (h8 : (x.k == 8) = false) (h9 : (x.k == 9) = true) {R : Int → World → Prop} (kc : Calls Tryz.prog 73 #[.pointer (some ⟨B, 0, none⟩), x.val] (w.alloc (boxH x)) fun e w' => ∃ d, e = .returned (.int .i64 d) ∧ R d w') :
  Calls Tryz.prog 24 #[.pointer (some ⟨B, 0, none⟩), x.val] w fun e w' => ∃ d, e = .returned (.int .i64 d) ∧ R d w' := by
 have HX0 : Aside ((w.alloc (boxH x)).heap[w.heap.size]? = some (boxH x)) := heap_new _ _
 go_enter Tryz.func24, Tryz.ntmps24
 go_upto_region 1 with fail
 generalize w.alloc (boxH x) = w1 at *
 have zh := cb HX0
 go_wp2_with fail
 refine kc.mono ?_
 rintro e w2 ⟨d, rfl, hp⟩
 have HF : Aside _ := hp
 clear hp kc zh
 go_wp2
 go_ret
 exact ⟨d, rfl, HF.out⟩
set_option maxHeartbeats 4000000 in
set_option maxRecDepth 100000 in
theorem w_hap12 (x : Hp) (w : World) (B : Nat) (h10 : (x.k == 10) = false) (h11 : (x.k == 11) = false) (h8 : (x.k == 8) = false) (h9 : (x.k == 9) = false) (h12 : (x.k == 12) = true) {R : Int → World → Prop} (kc : Calls Tryz.prog 73 #[.pointer (some ⟨B, 0, none⟩), x.val] (w.alloc (boxH x)) fun e w' => ∃ d, e = .returned (.int .i64 d) ∧ R d w') :
  Calls Tryz.prog 24 #[.pointer (some ⟨B, 0, none⟩), x.val] w fun e w' => ∃ d, e = .returned (.int .i64 d) ∧ R d w' := by
 have HX0 : Aside ((w.alloc (boxH x)).heap[w.heap.size]? = some (boxH x)) := heap_new _ _
 go_enter Tryz.func24, Tryz.ntmps24
 go_upto_region 1 with fail
 generalize w.alloc (boxH x) = w1 at *
 have zh := cb HX0
 go_wp2_with fail
 refine kc.mono ?_
 rintro e w2 ⟨d, rfl, hp⟩
 have HF : Aside _ := hp
 clear hp kc zh
 go_wp2
 go_ret
 exact ⟨d, rfl, HF.out⟩
set_option maxHeartbeats 4000000 in
set_option maxRecDepth 100000 in
theorem w_hap13 (x : Hp) (w : World) (B : Nat) (h10 : (x.k == 10) = false) (h11 : (x.k == 11) = false) (h8 : (x.k == 8) = false) (h9 : (x.k == 9) = false) (h12 : (x.k == 12) = false) (h13 : (x.k == 13) = true) {R : Int → World → Prop} (kc : Calls Tryz.prog 73 #[.pointer (some ⟨B, 0, none⟩), x.val] (w.alloc (boxH x)) fun e w' => ∃ d, e = .returned (.int .i64 d) ∧ R d w') :
  Calls Tryz.prog 24 #[.pointer (some ⟨B, 0, none⟩), x.val] w fun e w' => ∃ d, e = .returned (.int .i64 d) ∧ R d w' := by
 have HX0 : Aside ((w.alloc (boxH x)).heap[w.heap.size]? = some (boxH x)) := heap_new _ _
 go_enter Tryz.func24, Tryz.ntmps24
 go_upto_region 1 with fail
 generalize w.alloc (boxH x) = w1 at *
 have zh := cb HX0
 go_wp2_with fail
 refine kc.mono ?_
 rintro e w2 ⟨d, rfl, hp⟩
 have HF : Aside _ := hp
 clear hp kc zh
 go_wp2
 go_ret
 exact ⟨d, rfl, HF.out⟩
set_option maxHeartbeats 4000000 in
set_option maxRecDepth 100000 in
theorem w_hap4 (x : Hp) (w : World) (B : Nat) (h10 : (x.k == 10) = false) (h11 : (x.k == 11) = false) (h8 : (x.k == 8) = false) (h9 : (x.k == 9) = false) (h12 : (x.k == 12) = false) (h13 : (x.k == 13) = false) (h4 : (x.k == 4) = true) {R : Int → World → Prop} (kc : Calls Tryz.prog 74 #[.pointer (some ⟨B, 0, none⟩), x.val] (w.alloc (boxH x)) fun e w' => ∃ d, e = .returned (.int .i64 d) ∧ R d w') :
  Calls Tryz.prog 24 #[.pointer (some ⟨B, 0, none⟩), x.val] w fun e w' => ∃ d, e = .returned (.int .i64 d) ∧ R d w' := by
 have HX0 : Aside ((w.alloc (boxH x)).heap[w.heap.size]? = some (boxH x)) := heap_new _ _
 go_enter Tryz.func24, Tryz.ntmps24
 go_upto_region 1 with fail
 generalize w.alloc (boxH x) = w1 at *
 have zh := cb HX0
 go_wp2_with fail
 refine kc.mono ?_
 rintro e w2 ⟨d, rfl, hp⟩
 have HF : Aside _ := hp
 clear hp kc zh
 go_wp2
 go_ret
 exact ⟨d, rfl, HF.out⟩
set_option maxHeartbeats 4000000 in
set_option maxRecDepth 100000 in
theorem w_hap5 (x : Hp) (w : World) (B : Nat) (h10 : (x.k == 10) = false) (h11 : (x.k == 11) = false) (h8 : (x.k == 8) = false) (h9 : (x.k == 9) = false) (h12 : (x.k == 12) = false) (h13 : (x.k == 13) = false) (h4 : (x.k == 4) = false) (h5 : (x.k == 5) = true) {R : Int → World → Prop} (kc : Calls Tryz.prog 74 #[.pointer (some ⟨B, 0, none⟩), x.val] (w.alloc (boxH x)) fun e w' => ∃ d, e = .returned (.int .i64 d) ∧ R d w') :
  Calls Tryz.prog 24 #[.pointer (some ⟨B, 0, none⟩), x.val] w fun e w' => ∃ d, e = .returned (.int .i64 d) ∧ R d w' := by
 have HX0 : Aside ((w.alloc (boxH x)).heap[w.heap.size]? = some (boxH x)) := heap_new _ _
 go_enter Tryz.func24, Tryz.ntmps24
 go_upto_region 1 with fail
 generalize w.alloc (boxH x) = w1 at *
 have zh := cb HX0
 go_wp2_with fail
 refine kc.mono ?_
 rintro e w2 ⟨d, rfl, hp⟩
 have HF : Aside _ := hp
 clear hp kc zh
 go_wp2
 go_ret
 exact ⟨d, rfl, HF.out⟩
set_option maxHeartbeats 4000000 in
set_option maxRecDepth 100000 in
theorem w_hap15 (x : Hp) (w : World) (B : Nat) (h10 : (x.k == 10) = false) (h11 : (x.k == 11) = false) (h8 : (x.k == 8) = false) (h9 : (x.k == 9) = false) (h12 : (x.k == 12) = false) (h13 : (x.k == 13) = false) (h4 : (x.k == 4) = false) (h5 : (x.k == 5) = false) (h15 : (x.k == 15) = true) {R : Int → World → Prop} (kc : Calls Tryz.prog 74 #[.pointer (some ⟨B, 0, none⟩), x.val] (w.alloc (boxH x)) fun e w' => ∃ d, e = .returned (.int .i64 d) ∧ R d w') :
  Calls Tryz.prog 24 #[.pointer (some ⟨B, 0, none⟩), x.val] w fun e w' => ∃ d, e = .returned (.int .i64 d) ∧ R d w' := by
 have HX0 : Aside ((w.alloc (boxH x)).heap[w.heap.size]? = some (boxH x)) := heap_new _ _
 go_enter Tryz.func24, Tryz.ntmps24
 go_upto_region 1 with fail
 generalize w.alloc (boxH x) = w1 at *
 have zh := cb HX0
 go_wp2_with fail
 refine kc.mono ?_
 rintro e w2 ⟨d, rfl, hp⟩
 have HF : Aside _ := hp
 clear hp kc zh
 go_wp2
 go_ret
 exact ⟨d, rfl, HF.out⟩
set_option maxHeartbeats 4000000 in
set_option maxRecDepth 100000 in
theorem w_hap1 (x : Hp) (w : World) (B : Nat) (h10 : (x.k == 10) = false) (h11 : (x.k == 11) = false) (h8 : (x.k == 8) = false) (h9 : (x.k == 9) = false) (h12 : (x.k == 12) = false) (h13 : (x.k == 13) = false) (h4 : (x.k == 4) = false) (h5 : (x.k == 5) = false) (h15 : (x.k == 15) = false) (h1 : (x.k == 1) = true) {R : Int → World → Prop} (kc : Calls Tryz.prog 75 #[.pointer (some ⟨B, 0, none⟩), x.val] (w.alloc (boxH x)) fun e w' => ∃ d, e = .returned (.int .i64 d) ∧ R d w') :
  Calls Tryz.prog 24 #[.pointer (some ⟨B, 0, none⟩), x.val] w fun e w' => ∃ d, e = .returned (.int .i64 d) ∧ R d w' := by
 have HX0 : Aside ((w.alloc (boxH x)).heap[w.heap.size]? = some (boxH x)) := heap_new _ _
 go_enter Tryz.func24, Tryz.ntmps24
 go_upto_region 1 with fail
 generalize w.alloc (boxH x) = w1 at *
 have zh := cb HX0
 go_wp2_with fail
 refine kc.mono ?_
 rintro e w2 ⟨d, rfl, hp⟩
 have HF : Aside _ := hp
 clear hp kc zh
 go_wp2
 go_ret
 exact ⟨d, rfl, HF.out⟩
set_option maxHeartbeats 4000000 in
set_option maxRecDepth 100000 in
theorem w_hap2 (x : Hp) (w : World) (B : Nat) (h10 : (x.k == 10) = false) (h11 : (x.k == 11) = false) (h8 : (x.k == 8) = false) (h9 : (x.k == 9) = false) (h12 : (x.k == 12) = false) (h13 : (x.k == 13) = false) (h4 : (x.k == 4) = false) (h5 : (x.k == 5) = false) (h15 : (x.k == 15) = false) (h1 : (x.k == 1) = false) (h2 : (x.k == 2) = true) {R : Int → World → Prop} (kc : Calls Tryz.prog 75 #[.pointer (some ⟨B, 0, none⟩), x.val] (w.alloc (boxH x)) fun e w' => ∃ d, e = .returned (.int .i64 d) ∧ R d w') :
  Calls Tryz.prog 24 #[.pointer (some ⟨B, 0, none⟩), x.val] w fun e w' => ∃ d, e = .returned (.int .i64 d) ∧ R d w' := by
 have HX0 : Aside ((w.alloc (boxH x)).heap[w.heap.size]? = some (boxH x)) := heap_new _ _
 go_enter Tryz.func24, Tryz.ntmps24
 go_upto_region 1 with fail
 generalize w.alloc (boxH x) = w1 at *
 have zh := cb HX0
 go_wp2_with fail
 refine kc.mono ?_
 rintro e w2 ⟨d, rfl, hp⟩
 have HF : Aside _ := hp
 clear hp kc zh
 go_wp2
 go_ret
 exact ⟨d, rfl, HF.out⟩
set_option maxHeartbeats 4000000 in
set_option maxRecDepth 100000 in
theorem w_hap3 (x : Hp) (w : World) (B : Nat) (h10 : (x.k == 10) = false) (h11 : (x.k == 11) = false) (h8 : (x.k == 8) = false) (h9 : (x.k == 9) = false) (h12 : (x.k == 12) = false) (h13 : (x.k == 13) = false) (h4 : (x.k == 4) = false) (h5 : (x.k == 5) = false) (h15 : (x.k == 15) = false) (h1 : (x.k == 1) = false) (h2 : (x.k == 2) = false) (h3 : (x.k == 3) = true) {R : Int → World → Prop} (kc : Calls Tryz.prog 75 #[.pointer (some ⟨B, 0, none⟩), x.val] (w.alloc (boxH x)) fun e w' => ∃ d, e = .returned (.int .i64 d) ∧ R d w') :
  Calls Tryz.prog 24 #[.pointer (some ⟨B, 0, none⟩), x.val] w fun e w' => ∃ d, e = .returned (.int .i64 d) ∧ R d w' := by
 have HX0 : Aside ((w.alloc (boxH x)).heap[w.heap.size]? = some (boxH x)) := heap_new _ _
 go_enter Tryz.func24, Tryz.ntmps24
 go_upto_region 1 with fail
 generalize w.alloc (boxH x) = w1 at *
 have zh := cb HX0
 go_wp2_with fail
 refine kc.mono ?_
 rintro e w2 ⟨d, rfl, hp⟩
 have HF : Aside _ := hp
 clear hp kc zh
 go_wp2
 go_ret
 exact ⟨d, rfl, HF.out⟩
set_option maxHeartbeats 4000000 in
set_option maxRecDepth 100000 in
theorem w_hap6 (x : Hp) (w : World) (B : Nat) (h10 : (x.k == 10) = false) (h11 : (x.k == 11) = false) (h8 : (x.k == 8) = false) (h9 : (x.k == 9) = false) (h12 : (x.k == 12) = false) (h13 : (x.k == 13) = false) (h4 : (x.k == 4) = false) (h5 : (x.k == 5) = false) (h15 : (x.k == 15) = false) (h1 : (x.k == 1) = false) (h2 : (x.k == 2) = false) (h3 : (x.k == 3) = false) (h6 : (x.k == 6) = true) {R : Int → World → Prop} (kc : Calls Tryz.prog 75 #[.pointer (some ⟨B, 0, none⟩), x.val] (w.alloc (boxH x)) fun e w' => ∃ d, e = .returned (.int .i64 d) ∧ R d w') :
  Calls Tryz.prog 24 #[.pointer (some ⟨B, 0, none⟩), x.val] w fun e w' => ∃ d, e = .returned (.int .i64 d) ∧ R d w' := by
 have HX0 : Aside ((w.alloc (boxH x)).heap[w.heap.size]? = some (boxH x)) := heap_new _ _
 go_enter Tryz.func24, Tryz.ntmps24
 go_upto_region 1 with fail
 generalize w.alloc (boxH x) = w1 at *
 have zh := cb HX0
 go_wp2_with fail
 refine kc.mono ?_
 rintro e w2 ⟨d, rfl, hp⟩
 have HF : Aside _ := hp
 clear hp kc zh
 go_wp2
 go_ret
 exact ⟨d, rfl, HF.out⟩
set_option maxHeartbeats 4000000 in
set_option maxRecDepth 100000 in
theorem w_hap7 (x : Hp) (w : World) (B : Nat) (h10 : (x.k == 10) = false) (h11 : (x.k == 11) = false) (h8 : (x.k == 8) = false) (h9 : (x.k == 9) = false) (h12 : (x.k == 12) = false) (h13 : (x.k == 13) = false) (h4 : (x.k == 4) = false) (h5 : (x.k == 5) = false) (h15 : (x.k == 15) = false) (h1 : (x.k == 1) = false) (h2 : (x.k == 2) = false) (h3 : (x.k == 3) = false) (h6 : (x.k == 6) = false) (h7 : (x.k == 7) = true) {R : Int → World → Prop} (kc : Calls Tryz.prog 75 #[.pointer (some ⟨B, 0, none⟩), x.val] (w.alloc (boxH x)) fun e w' => ∃ d, e = .returned (.int .i64 d) ∧ R d w') :
  Calls Tryz.prog 24 #[.pointer (some ⟨B, 0, none⟩), x.val] w fun e w' => ∃ d, e = .returned (.int .i64 d) ∧ R d w' := by
 have HX0 : Aside ((w.alloc (boxH x)).heap[w.heap.size]? = some (boxH x)) := heap_new _ _
 go_enter Tryz.func24, Tryz.ntmps24
 go_upto_region 1 with fail
 generalize w.alloc (boxH x) = w1 at *
 have zh := cb HX0
 go_wp2_with fail
 refine kc.mono ?_
 rintro e w2 ⟨d, rfl, hp⟩
 have HF : Aside _ := hp
 clear hp kc zh
 go_wp2
 go_ret
 exact ⟨d, rfl, HF.out⟩
set_option maxHeartbeats 4000000 in
set_option maxRecDepth 100000 in
theorem w_hap14 (x : Hp) (w : World) (B : Nat) (h10 : (x.k == 10) = false) (h11 : (x.k == 11) = false) (h8 : (x.k == 8) = false) (h9 : (x.k == 9) = false) (h12 : (x.k == 12) = false) (h13 : (x.k == 13) = false) (h4 : (x.k == 4) = false) (h5 : (x.k == 5) = false) (h15 : (x.k == 15) = false) (h1 : (x.k == 1) = false) (h2 : (x.k == 2) = false) (h3 : (x.k == 3) = false) (h6 : (x.k == 6) = false) (h7 : (x.k == 7) = false) (h14 : (x.k == 14) = true) {R : Int → World → Prop} (kc : Calls Tryz.prog 75 #[.pointer (some ⟨B, 0, none⟩), x.val] (w.alloc (boxH x)) fun e w' => ∃ d, e = .returned (.int .i64 d) ∧ R d w') :
  Calls Tryz.prog 24 #[.pointer (some ⟨B, 0, none⟩), x.val] w fun e w' => ∃ d, e = .returned (.int .i64 d) ∧ R d w' := by
 have HX0 : Aside ((w.alloc (boxH x)).heap[w.heap.size]? = some (boxH x)) := heap_new _ _
 go_enter Tryz.func24, Tryz.ntmps24
 go_upto_region 1 with fail
 generalize w.alloc (boxH x) = w1 at *
 have zh := cb HX0
 go_wp2_with fail
 refine kc.mono ?_
 rintro e w2 ⟨d, rfl, hp⟩
 have HF : Aside _ := hp
 clear hp kc zh
 go_wp2
 go_ret
 exact ⟨d, rfl, HF.out⟩
set_option maxHeartbeats 4000000 in
set_option maxRecDepth 100000 in
theorem w_hap0 (x : Hp) (w : World) (B : Nat) (h10 : (x.k == 10) = false) (h11 : (x.k == 11) = false) (h8 : (x.k == 8) = false) (h9 : (x.k == 9) = false) (h12 : (x.k == 12) = false) (h13 : (x.k == 13) = false) (h4 : (x.k == 4) = false) (h5 : (x.k == 5) = false) (h15 : (x.k == 15) = false) (h1 : (x.k == 1) = false) (h2 : (x.k == 2) = false) (h3 : (x.k == 3) = false) (h6 : (x.k == 6) = false) (h7 : (x.k == 7) = false) (h14 : (x.k == 14) = false) :
  Calls Tryz.prog 24 #[.pointer (some ⟨B, 0, none⟩), x.val] w fun e w' => e = .returned (.int .i64 4) ∧ Below w.heap.size w w' := by
 have HX0 : Aside ((w.alloc (boxH x)).heap[w.heap.size]? = some (boxH x)) := heap_new _ _
 have HB0 : Aside (Below w.heap.size w (w.alloc (boxH x))) := grew (Below.refl _ _) _
 go_enter Tryz.func24, Tryz.ntmps24
 go_upto_region 1 with fail
 generalize w.alloc (boxH x) = w1 at *
 have zh := cb HX0
 go_wp2
 go_ret
 exact ⟨rfl, HB0.out⟩
theorem ansW_of {f : FuncId} {args : Array Value} {X w : World} {B g1 g2 : Nat} {r : Wd × Int} (h : Calls Tryz.prog f args w fun e w' => ∃ d, e = .returned (.int .i64 d) ∧ (d = r.2 ∧ WHas X w' B g1 g2 r.1)) : AnsW f args X w B g1 g2 r := h.mono fun e w' ⟨d, he, hd, hw⟩ => ⟨by rw [he, hd], hw⟩
theorem of_ansW {f : FuncId} {args : Array Value} {X w : World} {B g1 g2 : Nat} {r : Wd × Int} (h : AnsW f args X w B g1 g2 r) : Calls Tryz.prog f args w fun e w' => ∃ d, e = .returned (.int .i64 d) ∧ (d = r.2 ∧ WHas X w' B g1 g2 r.1) := h.mono fun _ _ ⟨he, hw⟩ => ⟨r.2, he, rfl, hw⟩
theorem w_happen {X w : World} {B g1 g2 : Nat} {W : Wd} (hL : Laid w) (hW : RW W) (h : WHas X w B g1 g2 W) (x : Hp) : AnsW 24 #[.pointer (some ⟨B, 0, none⟩), x.val] X w B g1 g2 (happened W x) := by
 have hbA : Below w.heap.size w (w.alloc (boxH x)) := grew (Below.refl _ _) _
 have hH := h.later hbA
 have ff : ∀ q : Int, ¬ x.k = q → (x.k == q) = false := fun q h => by rw [beq_eq_false_iff_ne]; exact h
 have tt : ∀ q : Int, x.k = q → (x.k == q) = true := fun q h => by rw [h]; exact beq_self_eq_true q
 have nn : ∀ q r : Int, x.k = q → q ≠ r → (x.k == r) = false := fun q r h hn => by rw [h, beq_eq_false_iff_ne]; exact hn
 unfold happened
 by_cases h10 : x.k = 10
 ·have hq := h10
  rw [if_pos h10]
  exact ansW_of (w_hap10 x w B  (tt 10 hq) (of_ansW (w_tip hH x.n)))
 rw [if_neg h10]
 by_cases h11 : x.k = 11
 ·have hq := h11
  rw [if_pos h11]
  exact ansW_of (w_hap11 x w B (ff 10 (by omega)) (tt 11 hq) (of_ansW (w_tick hH x.n hW.time)))
 rw [if_neg h11]
 by_cases hn : x.k = 8 ∨ x.k = 9 ∨ x.k = 12 ∨ x.k = 13
 ·rw [if_pos hn]
  rcases hn with hq | hq | hq | hq
  ·exact ansW_of (w_hap8 x w B (ff 10 (by omega)) (ff 11 (by omega)) (tt 8 hq) (of_ansW (w_atNode (hL.later hbA) hW hH x)))
  ·exact ansW_of (w_hap9 x w B (ff 10 (by omega)) (ff 11 (by omega)) (ff 8 (by omega)) (tt 9 hq) (of_ansW (w_atNode (hL.later hbA) hW hH x)))
  ·exact ansW_of (w_hap12 x w B (ff 10 (by omega)) (ff 11 (by omega)) (ff 8 (by omega)) (ff 9 (by omega)) (tt 12 hq) (of_ansW (w_atNode (hL.later hbA) hW hH x)))
  ·exact ansW_of (w_hap13 x w B (ff 10 (by omega)) (ff 11 (by omega)) (ff 8 (by omega)) (ff 9 (by omega)) (ff 12 (by omega)) (tt 13 hq) (of_ansW (w_atNode (hL.later hbA) hW hH x)))
 rw [if_neg hn]
 by_cases hl : x.k = 4 ∨ x.k = 5 ∨ x.k = 15
 ·rw [if_pos hl]
  rcases hl with hq | hq | hq
  ·exact ansW_of (w_hap4 x w B (ff 10 (by omega)) (ff 11 (by omega)) (ff 8 (by omega)) (ff 9 (by omega)) (ff 12 (by omega)) (ff 13 (by omega)) (tt 4 hq) (of_ansW (w_atLink (hL.later hbA) hW hH x)))
  ·exact ansW_of (w_hap5 x w B (ff 10 (by omega)) (ff 11 (by omega)) (ff 8 (by omega)) (ff 9 (by omega)) (ff 12 (by omega)) (ff 13 (by omega)) (ff 4 (by omega)) (tt 5 hq) (of_ansW (w_atLink (hL.later hbA) hW hH x)))
  ·exact ansW_of (w_hap15 x w B (ff 10 (by omega)) (ff 11 (by omega)) (ff 8 (by omega)) (ff 9 (by omega)) (ff 12 (by omega)) (ff 13 (by omega)) (ff 4 (by omega)) (ff 5 (by omega)) (tt 15 hq) (of_ansW (w_atLink (hL.later hbA) hW hH x)))
 rw [if_neg hl]
 by_cases hc : x.k = 1 ∨ x.k = 2 ∨ x.k = 3 ∨ x.k = 6 ∨ x.k = 7 ∨ x.k = 14
 ·rw [if_pos hc]
  rcases hc with hq | hq | hq | hq | hq | hq
  ·exact ansW_of (w_hap1 x w B (ff 10 (by omega)) (ff 11 (by omega)) (ff 8 (by omega)) (ff 9 (by omega)) (ff 12 (by omega)) (ff 13 (by omega)) (ff 4 (by omega)) (ff 5 (by omega)) (ff 15 (by omega)) (tt 1 hq) (of_ansW (w_atClient hW hH x)))
  ·exact ansW_of (w_hap2 x w B (ff 10 (by omega)) (ff 11 (by omega)) (ff 8 (by omega)) (ff 9 (by omega)) (ff 12 (by omega)) (ff 13 (by omega)) (ff 4 (by omega)) (ff 5 (by omega)) (ff 15 (by omega)) (ff 1 (by omega)) (tt 2 hq) (of_ansW (w_atClient hW hH x)))
  ·exact ansW_of (w_hap3 x w B (ff 10 (by omega)) (ff 11 (by omega)) (ff 8 (by omega)) (ff 9 (by omega)) (ff 12 (by omega)) (ff 13 (by omega)) (ff 4 (by omega)) (ff 5 (by omega)) (ff 15 (by omega)) (ff 1 (by omega)) (ff 2 (by omega)) (tt 3 hq) (of_ansW (w_atClient hW hH x)))
  ·exact ansW_of (w_hap6 x w B (ff 10 (by omega)) (ff 11 (by omega)) (ff 8 (by omega)) (ff 9 (by omega)) (ff 12 (by omega)) (ff 13 (by omega)) (ff 4 (by omega)) (ff 5 (by omega)) (ff 15 (by omega)) (ff 1 (by omega)) (ff 2 (by omega)) (ff 3 (by omega)) (tt 6 hq) (of_ansW (w_atClient hW hH x)))
  ·exact ansW_of (w_hap7 x w B (ff 10 (by omega)) (ff 11 (by omega)) (ff 8 (by omega)) (ff 9 (by omega)) (ff 12 (by omega)) (ff 13 (by omega)) (ff 4 (by omega)) (ff 5 (by omega)) (ff 15 (by omega)) (ff 1 (by omega)) (ff 2 (by omega)) (ff 3 (by omega)) (ff 6 (by omega)) (tt 7 hq) (of_ansW (w_atClient hW hH x)))
  ·exact ansW_of (w_hap14 x w B (ff 10 (by omega)) (ff 11 (by omega)) (ff 8 (by omega)) (ff 9 (by omega)) (ff 12 (by omega)) (ff 13 (by omega)) (ff 4 (by omega)) (ff 5 (by omega)) (ff 15 (by omega)) (ff 1 (by omega)) (ff 2 (by omega)) (ff 3 (by omega)) (ff 6 (by omega)) (ff 7 (by omega)) (tt 14 hq) (of_ansW (w_atClient hW hH x)))
 rw [if_neg hc]
 exact (w_hap0 x w B (ff 10 (by omega)) (ff 11 (by omega)) (ff 8 (by omega)) (ff 9 (by omega)) (ff 12 (by omega)) (ff 13 (by omega)) (ff 4 (by omega)) (ff 5 (by omega)) (ff 15 (by omega)) (ff 1 (by omega)) (ff 2 (by omega)) (ff 3 (by omega)) (ff 6 (by omega)) (ff 7 (by omega)) (ff 14 (by omega))).mono fun e w' ⟨he, hb⟩ => ⟨he, h.later hb⟩
end Go.Proofs.YtmoaobfmopimlafGreatDoor
