/- For the law. -/
import Derived.Test.YtmoaobfmopimlafGreatDoorM66
set_option linter.unusedSimpArgs false
set_option linter.unusedVariables false
namespace Go.Proofs.YtmoaobfmopimlafGreatDoor
open Go.RowKit
section
open scoped Classical
theorem tlw_right : Good tlw := runOf_good wnew _
theorem toll_first : ∃ c, tlw.cs[0]? = some c ∧ c.n = 2 ∧ c.rs = [⟨2, 3, 0⟩] := by
 have h := toll_cl
 generalize tlw.cs = l at h
 match l, h with
 | c :: r, h =>
  rw [List.map_cons] at h
  injection h with h1 _
  injection h1 with h1 h2
  refine ⟨c, rfl, h1, ?_⟩
  cases hr : c.rs with
  | nil => rw [hr] at h2; cases h2
  | cons q t =>
   rw [hr, List.map_cons] at h2
   injection h2 with h3 h4
   obtain rfl : t = [] := List.map_eq_nil_iff.1 h4
   injection h3 with e1 e2
   injection e2 with e2 e3
   cases q
   simp_all
set_option maxHeartbeats 8000000 in
set_option maxRecDepth 100000 in
theorem tolled_any (w : World) (hL : Laid w) : Calls Tryz.prog 10 #[] w fun e w' => e = .returned (.bool true) ∧ Below w.heap.size w w' := by
 have HL : Aside (Laid w) := hL
 clear hL
 go_enter Tryz.func10, Tryz.ntmps10
 go_wp2_with fail
 refine (t_of 3 0 _).mono ?_
 rintro e w1 ⟨rfl, hb1⟩
 have B1 : Aside (Below w.heap.size w w1) := hb1
 clear hb1
 go_wp2_with fail
 refine (t_of 4 0 _).mono ?_
 rintro e w2 ⟨rfl, hb2⟩
 have B2 := sb B1 hb2
 clear hb2 B1
 go_wp2_with fail
 refine (t_of 4 0 _).mono ?_
 rintro e w3 ⟨rfl, hb3⟩
 have B3 := sb B2 hb3
 clear hb3 B2
 go_wp2_with fail
 refine (t_of 4 0 _).mono ?_
 rintro e w4 ⟨rfl, hb4⟩
 have B4 := sb B3 hb4
 clear hb4 B3
 go_wp2_with fail
 refine (t_of 7 0 _).mono ?_
 rintro e w5 ⟨rfl, hb5⟩
 have B5 := sb B4 hb5
 clear hb5 B4
 go_upto_region 3 with fail
 have hA : Below w5.heap.size w5 (w5.alloc (.cells #[.int .i64 3, .int .i64 0, .int .i64 0, .int .i64 0, .int .i64 0, .int .i64 0, .int .i64 0, .int .i64 0, .int .i64 0, .int .i64 0, .int .i64 4, .int .i64 0, .int .i64 0, .int .i64 0, .int .i64 0, .int .i64 0, .int .i64 0, .int .i64 0, .int .i64 0, .int .i64 0, .int .i64 4, .int .i64 0, .int .i64 0, .int .i64 0, .int .i64 0, .int .i64 0, .int .i64 0, .int .i64 0, .int .i64 0, .int .i64 0, .int .i64 4, .int .i64 0, .int .i64 0, .int .i64 0, .int .i64 0, .int .i64 0, .int .i64 0, .int .i64 0, .int .i64 0, .int .i64 0, .int .i64 7, .int .i64 0, .int .i64 0, .int .i64 0, .int .i64 0, .int .i64 0, .int .i64 0, .int .i64 0, .int .i64 0, .int .i64 0] 29)) := grew (Below.refl _ _) _
 have B6 := sb B5 hA
 have S6 : Aside (HpSl (w5.alloc (.cells #[.int .i64 3, .int .i64 0, .int .i64 0, .int .i64 0, .int .i64 0, .int .i64 0, .int .i64 0, .int .i64 0, .int .i64 0, .int .i64 0, .int .i64 4, .int .i64 0, .int .i64 0, .int .i64 0, .int .i64 0, .int .i64 0, .int .i64 0, .int .i64 0, .int .i64 0, .int .i64 0, .int .i64 4, .int .i64 0, .int .i64 0, .int .i64 0, .int .i64 0, .int .i64 0, .int .i64 0, .int .i64 0, .int .i64 0, .int .i64 0, .int .i64 4, .int .i64 0, .int .i64 0, .int .i64 0, .int .i64 0, .int .i64 0, .int .i64 0, .int .i64 0, .int .i64 0, .int .i64 0, .int .i64 7, .int .i64 0, .int .i64 0, .int .i64 0, .int .i64 0, .int .i64 0, .int .i64 0, .int .i64 0, .int .i64 0, .int .i64 0] 29)) (.slice (some ⟨w5.heap.size, 0, none⟩) 5 5) tl2) := slOf_lit (xs := tl2) Hp.ten (heap_new w5 (.cells #[.int .i64 3, .int .i64 0, .int .i64 0, .int .i64 0, .int .i64 0, .int .i64 0, .int .i64 0, .int .i64 0, .int .i64 0, .int .i64 0, .int .i64 4, .int .i64 0, .int .i64 0, .int .i64 0, .int .i64 0, .int .i64 0, .int .i64 0, .int .i64 0, .int .i64 0, .int .i64 0, .int .i64 4, .int .i64 0, .int .i64 0, .int .i64 0, .int .i64 0, .int .i64 0, .int .i64 0, .int .i64 0, .int .i64 0, .int .i64 0, .int .i64 4, .int .i64 0, .int .i64 0, .int .i64 0, .int .i64 0, .int .i64 0, .int .i64 0, .int .i64 0, .int .i64 0, .int .i64 0, .int .i64 7, .int .i64 0, .int .i64 0, .int .i64 0, .int .i64 0, .int .i64 0, .int .i64 0, .int .i64 0, .int .i64 0, .int .i64 0] 29)) rfl
 generalize w5.alloc (.cells #[.int .i64 3, .int .i64 0, .int .i64 0, .int .i64 0, .int .i64 0, .int .i64 0, .int .i64 0, .int .i64 0, .int .i64 0, .int .i64 0, .int .i64 4, .int .i64 0, .int .i64 0, .int .i64 0, .int .i64 0, .int .i64 0, .int .i64 0, .int .i64 0, .int .i64 0, .int .i64 0, .int .i64 4, .int .i64 0, .int .i64 0, .int .i64 0, .int .i64 0, .int .i64 0, .int .i64 0, .int .i64 0, .int .i64 0, .int .i64 0, .int .i64 4, .int .i64 0, .int .i64 0, .int .i64 0, .int .i64 0, .int .i64 0, .int .i64 0, .int .i64 0, .int .i64 0, .int .i64 0, .int .i64 7, .int .i64 0, .int .i64 0, .int .i64 0, .int .i64 0, .int .i64 0, .int .i64 0, .int .i64 0, .int .i64 0, .int .i64 0] 29) = w6 at *
 generalize w5.heap.size = s2 at *
 clear hA B5
 go_wp2_with fail
 refine (k_new _).mono ?_
 rintro e w7 ⟨vn, vc, rfl, hO, hb7⟩
 have B7 := sb B6 hb7
 have S7 : Aside _ := S6.out.later hb7
 have O7 : Aside (WV w7 vn vc wnew) := hO
 clear hb7 B6 S6 hO
 go_wp2_with fail
 refine (t_put 2 5 3 _).mono ?_
 rintro e w8 ⟨rfl, hb8⟩
 have B8 := sb B7 hb8
 have S8 : Aside _ := S7.out.later hb8
 have O8 : Aside _ := O7.out.later hb8
 clear hb8 B7 S7 O7
 have hA : Below w8.heap.size w8 (((w8.alloc (.cells #[.int .i64 1, .int .i64 0, .int .i64 0, .int .i64 0, .int .i64 0, .int .i64 1, .int .i64 2, .int .i64 5, .int .i64 3, .int .i64 0] 29)).alloc (.cells #[.int .i64 2, .int .i64 0, .int .i64 0, .int .i64 2, .int .i64 0, .int .i64 0, .int .i64 0, .int .i64 0, .int .i64 0, .int .i64 0, .int .i64 11, .int .i64 0, .int .i64 4, .int .i64 0, .int .i64 0, .int .i64 0, .int .i64 0, .int .i64 0, .int .i64 0, .int .i64 0, .int .i64 2, .int .i64 0, .int .i64 0, .int .i64 2, .int .i64 0, .int .i64 0, .int .i64 0, .int .i64 0, .int .i64 0, .int .i64 0] 29)).alloc (.cells #[.slice (some ⟨w8.heap.size, 0, none⟩) 1 1, .slice (some ⟨s2, 0, none⟩) 5 5, .slice (some ⟨w8.heap.size + 1, 0, none⟩) 3 3, .slice (some ⟨s2, 0, none⟩) 5 5] 57)) := grew (grew (grew (Below.refl _ _) _) _) _
 have B9 := sb B8 hA
 have S9 : Aside _ := S8.out.later hA
 have O9 : Aside _ := O8.out.later hA
 have S1 : Aside (HpSl (((w8.alloc (.cells #[.int .i64 1, .int .i64 0, .int .i64 0, .int .i64 0, .int .i64 0, .int .i64 1, .int .i64 2, .int .i64 5, .int .i64 3, .int .i64 0] 29)).alloc (.cells #[.int .i64 2, .int .i64 0, .int .i64 0, .int .i64 2, .int .i64 0, .int .i64 0, .int .i64 0, .int .i64 0, .int .i64 0, .int .i64 0, .int .i64 11, .int .i64 0, .int .i64 4, .int .i64 0, .int .i64 0, .int .i64 0, .int .i64 0, .int .i64 0, .int .i64 0, .int .i64 0, .int .i64 2, .int .i64 0, .int .i64 0, .int .i64 2, .int .i64 0, .int .i64 0, .int .i64 0, .int .i64 0, .int .i64 0, .int .i64 0] 29)).alloc (.cells #[.slice (some ⟨w8.heap.size, 0, none⟩) 1 1, .slice (some ⟨s2, 0, none⟩) 5 5, .slice (some ⟨w8.heap.size + 1, 0, none⟩) 3 3, .slice (some ⟨s2, 0, none⟩) 5 5] 57)) (.slice (some ⟨w8.heap.size, 0, none⟩) 1 1) tl1) := slOf_lit (xs := tl1) Hp.ten (heap_old (heap_old (heap_new w8 (.cells #[.int .i64 1, .int .i64 0, .int .i64 0, .int .i64 0, .int .i64 0, .int .i64 1, .int .i64 2, .int .i64 5, .int .i64 3, .int .i64 0] 29)) _) _) rfl
 have S3 : Aside (HpSl (((w8.alloc (.cells #[.int .i64 1, .int .i64 0, .int .i64 0, .int .i64 0, .int .i64 0, .int .i64 1, .int .i64 2, .int .i64 5, .int .i64 3, .int .i64 0] 29)).alloc (.cells #[.int .i64 2, .int .i64 0, .int .i64 0, .int .i64 2, .int .i64 0, .int .i64 0, .int .i64 0, .int .i64 0, .int .i64 0, .int .i64 0, .int .i64 11, .int .i64 0, .int .i64 4, .int .i64 0, .int .i64 0, .int .i64 0, .int .i64 0, .int .i64 0, .int .i64 0, .int .i64 0, .int .i64 2, .int .i64 0, .int .i64 0, .int .i64 2, .int .i64 0, .int .i64 0, .int .i64 0, .int .i64 0, .int .i64 0, .int .i64 0] 29)).alloc (.cells #[.slice (some ⟨w8.heap.size, 0, none⟩) 1 1, .slice (some ⟨s2, 0, none⟩) 5 5, .slice (some ⟨w8.heap.size + 1, 0, none⟩) 3 3, .slice (some ⟨s2, 0, none⟩) 5 5] 57)) (.slice (some ⟨w8.heap.size + 1, 0, none⟩) 3 3) tl3) := by
  have h := heap_new (w8.alloc (.cells #[.int .i64 1, .int .i64 0, .int .i64 0, .int .i64 0, .int .i64 0, .int .i64 1, .int .i64 2, .int .i64 5, .int .i64 3, .int .i64 0] 29)) (.cells #[.int .i64 2, .int .i64 0, .int .i64 0, .int .i64 2, .int .i64 0, .int .i64 0, .int .i64 0, .int .i64 0, .int .i64 0, .int .i64 0, .int .i64 11, .int .i64 0, .int .i64 4, .int .i64 0, .int .i64 0, .int .i64 0, .int .i64 0, .int .i64 0, .int .i64 0, .int .i64 0, .int .i64 2, .int .i64 0, .int .i64 0, .int .i64 2, .int .i64 0, .int .i64 0, .int .i64 0, .int .i64 0, .int .i64 0, .int .i64 0] 29)
  rw [World.size_alloc] at h
  exact slOf_lit (xs := tl3) Hp.ten (heap_old h _) rfl
 have R9 : Aside ((((w8.alloc (.cells #[.int .i64 1, .int .i64 0, .int .i64 0, .int .i64 0, .int .i64 0, .int .i64 1, .int .i64 2, .int .i64 5, .int .i64 3, .int .i64 0] 29)).alloc (.cells #[.int .i64 2, .int .i64 0, .int .i64 0, .int .i64 2, .int .i64 0, .int .i64 0, .int .i64 0, .int .i64 0, .int .i64 0, .int .i64 0, .int .i64 11, .int .i64 0, .int .i64 4, .int .i64 0, .int .i64 0, .int .i64 0, .int .i64 0, .int .i64 0, .int .i64 0, .int .i64 0, .int .i64 2, .int .i64 0, .int .i64 0, .int .i64 2, .int .i64 0, .int .i64 0, .int .i64 0, .int .i64 0, .int .i64 0, .int .i64 0] 29)).alloc (.cells #[.slice (some ⟨w8.heap.size, 0, none⟩) 1 1, .slice (some ⟨s2, 0, none⟩) 5 5, .slice (some ⟨w8.heap.size + 1, 0, none⟩) 3 3, .slice (some ⟨s2, 0, none⟩) 5 5] 57)).heap[w8.heap.size + 1 + 1]? = some (.cells #[.slice (some ⟨w8.heap.size, 0, none⟩) 1 1, .slice (some ⟨s2, 0, none⟩) 5 5, .slice (some ⟨w8.heap.size + 1, 0, none⟩) 3 3, .slice (some ⟨s2, 0, none⟩) 5 5] 57)) := by
  have h := heap_new ((w8.alloc (.cells #[.int .i64 1, .int .i64 0, .int .i64 0, .int .i64 0, .int .i64 0, .int .i64 1, .int .i64 2, .int .i64 5, .int .i64 3, .int .i64 0] 29)).alloc (.cells #[.int .i64 2, .int .i64 0, .int .i64 0, .int .i64 2, .int .i64 0, .int .i64 0, .int .i64 0, .int .i64 0, .int .i64 0, .int .i64 0, .int .i64 11, .int .i64 0, .int .i64 4, .int .i64 0, .int .i64 0, .int .i64 0, .int .i64 0, .int .i64 0, .int .i64 0, .int .i64 0, .int .i64 2, .int .i64 0, .int .i64 0, .int .i64 2, .int .i64 0, .int .i64 0, .int .i64 0, .int .i64 0, .int .i64 0, .int .i64 0] 29)) (.cells #[.slice (some ⟨w8.heap.size, 0, none⟩) 1 1, .slice (some ⟨s2, 0, none⟩) 5 5, .slice (some ⟨w8.heap.size + 1, 0, none⟩) 3 3, .slice (some ⟨s2, 0, none⟩) 5 5] 57)
  rwa [World.size_alloc, World.size_alloc] at h
 have kc := concat4H (w8.heap.size + 1 + 1) _ _ _ _ tl1 tl2 tl3 tl2 (((w8.alloc (.cells #[.int .i64 1, .int .i64 0, .int .i64 0, .int .i64 0, .int .i64 0, .int .i64 1, .int .i64 2, .int .i64 5, .int .i64 3, .int .i64 0] 29)).alloc (.cells #[.int .i64 2, .int .i64 0, .int .i64 0, .int .i64 2, .int .i64 0, .int .i64 0, .int .i64 0, .int .i64 0, .int .i64 0, .int .i64 0, .int .i64 11, .int .i64 0, .int .i64 4, .int .i64 0, .int .i64 0, .int .i64 0, .int .i64 0, .int .i64 0, .int .i64 0, .int .i64 0, .int .i64 2, .int .i64 0, .int .i64 0, .int .i64 2, .int .i64 0, .int .i64 0, .int .i64 0, .int .i64 0, .int .i64 0, .int .i64 0] 29)).alloc (.cells #[.slice (some ⟨w8.heap.size, 0, none⟩) 1 1, .slice (some ⟨s2, 0, none⟩) 5 5, .slice (some ⟨w8.heap.size + 1, 0, none⟩) 3 3, .slice (some ⟨s2, 0, none⟩) 5 5] 57)) R9.out S1.out S9.out S3.out S9.out (by decide)
 go_wp2_with fail
 refine kc.mono ?_
 rintro e w10 ⟨v, rfl, hS, hb10⟩
 have B10 := sb B9 hb10
 have O10 : Aside _ := O9.out.later hb10
 have kr := k_run (HL.out.later B10.out) O10.out hS
 rw [toll_said] at kr
 change Calls _ _ _ _ (fun e w' => ∃ un uc sv, e = .returned (.tuple #[wval un tlw.tip uc tlw.t, sv, .int .i64 0]) ∧ WV w' un uc tlw ∧ ErSl w' sv [0, 0, 0, 0, 0, 0, 5, 0, 0, 0, 0, 0, 0, 0] ∧ Below w10.heap.size w10 w') at kr
 rw [toll_tip] at kr
 obtain ⟨tt, htt⟩ : ∃ tt, tlw.t = tt := ⟨_, rfl⟩
 rw [htt] at kr
 clear kc hb10 B9 S9 O9 S1 S3 R9 hA B8 S8 O8 hS htt
 go_wp2_with fail
 refine kr.mono ?_
 rintro e w11 ⟨un, uc, sv, rfl, hO, hs, hb11⟩
 obtain ⟨b, o, c, b', o', c', xs, cs, rfl, rfl, _, _, hF⟩ := hO.form (tlw_right.resolve_left (fun h => by have := congrArg Wd.tip h; rw [toll_tip] at this; cases this))
 have B11 := sb B10 hb11
 have HF : Aside (WF w11 b o b' o' xs cs tlw) := hF
 have HS : Aside (ErSl w11 sv [0, 0, 0, 0, 0, 0, 5, 0, 0, 0, 0, 0, 0, 0]) := hs
 clear kr hO hs hb11 hF B10 O10
 go_upto_region 4 with fail
 have hA : Below w11.heap.size w11 (w11.alloc (boxW (.slice (some ⟨b, o, none⟩) 3 c) 2 (.slice (some ⟨b', o', none⟩) 3 c') tt)) := grew (Below.refl _ _) _
 have B12 := sb B11 hA
 have F12 : Aside _ := HF.out.later hA
 have S12 : Aside _ := HS.out.later hA
 have X12 : Aside ((w11.alloc (boxW (.slice (some ⟨b, o, none⟩) 3 c) 2 (.slice (some ⟨b', o', none⟩) 3 c') tt)).heap[w11.heap.size]? = some (boxW (.slice (some ⟨b, o, none⟩) 3 c) 2 (.slice (some ⟨b', o', none⟩) 3 c') tt)) := heap_new _ _
 generalize w11.alloc (boxW (.slice (some ⟨b, o, none⟩) 3 c) 2 (.slice (some ⟨b', o', none⟩) 3 c') tt) = w12 at *
 generalize w11.heap.size = bx at *
 clear hA B11 HF HS
 have ki := indexE sv [0, 0, 0, 0, 0, 0, 5, 0, 0, 0, 0, 0, 0, 0] 5 w12 S12.out (by decide)
 rw [show idx (fun x : Int => 5 == x) [0, 0, 0, 0, 0, 0, 5, 0, 0, 0, 0, 0, 0, 0] = 6 from rfl] at ki
 go_wp2_with fail
 refine ki.mono ?_
 rintro e w13 ⟨rfl, hb13⟩
 have B13 := sb B12 hb13
 have F13 : Aside _ := F12.out.later hb13
 have S13 : Aside _ := S12.out.later hb13
 have X13 := hv X12 hb13
 clear ki hb13 B12 F12 S12 X12
 have kf := containsFE (fun q => (q != 0) && (q != 5)) 31 #[] (fun _ _ => rfl) sv [0, 0, 0, 0, 0, 0, 5, 0, 0, 0, 0, 0, 0, 0] w13 S13.out (by decide) (fun W x hb => (t_bad x W).mono fun _ _ ⟨he, hw⟩ => ⟨he, by rw [hw]; exact hb⟩)
 rw [show decide (0 ≤ idx (fun q : Int => (q != 0) && (q != 5)) [0, 0, 0, 0, 0, 0, 5, 0, 0, 0, 0, 0, 0, 0]) = false from rfl] at kf
 go_wp2_with fail
 refine kf.mono ?_
 rintro e w14 ⟨rfl, hb14⟩
 have B14 := sb B13 hb14
 have X14 := hv X13 hb14
 obtain ⟨cl, hcl, hcn, hcr⟩ := toll_first
 obtain ⟨y, _, hy, hyT, hyc⟩ := (F13.out.later hb14).clientAt hcl
 have hr := hyT.2
 rw [hy, hcr] at hr
 obtain ⟨rb, ro, rc, hv2, hE⟩ := SlOf.form (cs := Rg.cells) (k := 3) hr (by decide)
 have y9 := hyc 9 _ rfl
 have y11 := hyc 11 _ rfl
 rw [hy, hcn] at y9
 rw [hv2] at y11
 have r0 := hE 0 ⟨2, 3, 0⟩ rfl 0 _ rfl
 have r1 := hE 0 ⟨2, 3, 0⟩ rfl 1 _ rfl
 have r2 := hE 0 ⟨2, 3, 0⟩ rfl 2 _ rfl
 simp only [Nat.zero_mul, Nat.add_zero] at y9 y11 r0 r1 r2
 have zx := cb X14
 clear kf hb14 B13 F13 S13 X13 hcl hcn hcr hy hyT hyc hr hv2 hE
 go_wp2
 go_ret
 exact ⟨rfl, B14.out⟩
end
section
open scoped Classical
theorem at_same (k : Int) : ∃ m : Nat, m < 3 ∧ ∀ w : World, Calls Tryz.prog 15 #[.int .i64 k, .int .i64 3] w fun e w' => e = .returned (.int .i64 m) ∧ w' = w := by
 have hb := Int.tmod_lt_of_pos k (show (0 : Int) < 3 by omega)
 have hb' : -3 < k.tmod 3 := Int.lt_tmod_of_pos k (by omega)
 by_cases h : k.tmod 3 < 0
 ·refine ⟨(k.tmod 3 + 3).toNat, by omega, fun w => ?_⟩
  go_enter Tryz.func15, Tryz.ntmps15
  go_wp2
  go_ret
  refine ⟨?_, rfl⟩
  exact congrArg (fun q : Int => Ending.returned (Value.int .i64 q)) (by omega)
 ·refine ⟨(k.tmod 3).toNat, by omega, fun w => ?_⟩
  go_enter Tryz.func15, Tryz.ntmps15
  go_wp2
  go_ret
  refine ⟨?_, rfl⟩
  exact congrArg (fun q : Int => Ending.returned (Value.int .i64 q)) (by omega)
theorem at_three (k : Int) (w : World) : Calls Tryz.prog 15 #[.int .i64 k, .int .i64 3] w fun e w' => ∃ m : Nat, m < 3 ∧ e = .returned (.int .i64 m) ∧ w' = w := by
 obtain ⟨m, hm, h⟩ := at_same k
 exact (h w).mono fun e w' ⟨he, hw⟩ => ⟨m, hm, he, hw⟩
theorem doOf_ok {W X : Wd} {x : Hp} (h : RW W) (hx : happened W x = (X, 0)) : doOf W x = (X, 0) := by
 rw [doOf, if_neg (not_not_intro (rw_iff.2 h)), hx, if_neg (by simp)]
theorem nd_at {W : Wd} (h : RW W) {m : Nat} (hm : m < 3) : W.ns[m]? = some (W.nd m) := by
 have := h.nd_at (k := (m : Int)) (by omega)
 simpa using this
set_option maxHeartbeats 8000000 in
set_option maxRecDepth 100000 in
theorem stands_wrong (vn vc : Value) (W : Wd) (k : Int) (w : World) (hL : Laid w) (h : WV w vn vc W) (hz : W.ck ≠ 0) :
  Calls Tryz.prog 4 #[wval vn W.tip vc W.t, .int .i64 k] w fun e w' => e = .returned (.bool true) ∧ Below w.heap.size w w' := by
 have hA0 : Below w.heap.size w (w.alloc (boxW (vn) W.tip (vc) W.t)) := grew (Below.refl _ _) _
 have B_0 : Aside (Below w.heap.size w (w.alloc (boxW (vn) W.tip (vc) W.t))) := hA0
 have Q_0 : Aside ((w.alloc (boxW (vn) W.tip (vc) W.t)).heap[w.heap.size]? = some (boxW (vn) W.tip (vc) W.t)) := by
  have h := heap_new w (boxW (vn) W.tip (vc) W.t)
  exact h
 have HL : Aside (Laid w) := hL
 have hzb : (W.ck != 0) = true := by rw [bne_iff_ne]; exact hz
 have V_0 : Aside (WV (w.alloc (boxW (vn) W.tip (vc) W.t)) vn vc W) := h.later hA0
 clear hL h hz
 go_enter Tryz.func4, Tryz.ntmps4
 go_upto_region 1 with fail
 generalize (w.alloc (boxW (vn) W.tip (vc) W.t)) = w0 at *
 clear hA0
 go_wp2_with fail
 refine (tolled_any _ (HL.out.later B_0.out)).mono ?_
 rintro e w1 ⟨rfl, hb1⟩
 have Q_1 := hv Q_0 hb1
 have V_1 : Aside _ := V_0.out.later hb1
 have B_1 := sb B_0 hb1
 clear hb1 Q_0 V_0 B_0
 have zQ := cb Q_1
 have kc := k_check (HL.out.later B_1.out) V_1.out
 go_wp2_with fail
 refine (kc).mono ?_
 rintro e w2 ⟨rfl, hb2⟩
 have Q_2 := hv Q_1 hb2
 have V_2 : Aside _ := V_1.out.later hb2
 have B_2 := sb B_1 hb2
 clear hb2 Q_1 V_1 B_1 kc zQ
 go_wp2_with fail
 refine (tolled_any _ (HL.out.later B_2.out)).mono ?_
 rintro e w3 ⟨rfl, hb3⟩
 have Q_3 := hv Q_2 hb3
 have V_3 : Aside _ := V_2.out.later hb3
 have B_3 := sb B_2 hb3
 clear hb3 Q_2 V_2 B_2
 go_wp2
 go_ret
 exact ⟨rfl, B_3.out⟩
set_option maxHeartbeats 8000000 in
set_option maxRecDepth 100000 in
theorem stands_right (b o c b' o' c' : Nat) (xs : List Nb) (cs : List Cb) (W : Wd) (k : Int) (w : World) (hL : Laid w) (h : WF w b o b' o' xs cs W) (hR : RW W) (hc : 3 ≤ c) (hc' : 3 ≤ c') :
  Calls Tryz.prog 4 #[wval (.slice (some ⟨b, o, none⟩) 3 c) W.tip (.slice (some ⟨b', o', none⟩) 3 c') W.t, .int .i64 k] w fun e w' => e = .returned (.bool true) ∧ Below w.heap.size w w' := by
 have hA0 : Below w.heap.size w (w.alloc (boxW (.slice (some ⟨b, o, none⟩) 3 c) W.tip (.slice (some ⟨b', o', none⟩) 3 c') W.t)) := grew (Below.refl _ _) _
 have B_0 : Aside (Below w.heap.size w (w.alloc (boxW (.slice (some ⟨b, o, none⟩) 3 c) W.tip (.slice (some ⟨b', o', none⟩) 3 c') W.t))) := hA0
 have Q_0 : Aside ((w.alloc (boxW (.slice (some ⟨b, o, none⟩) 3 c) W.tip (.slice (some ⟨b', o', none⟩) 3 c') W.t)).heap[w.heap.size]? = some (boxW (.slice (some ⟨b, o, none⟩) 3 c) W.tip (.slice (some ⟨b', o', none⟩) 3 c') W.t)) := by
  have h := heap_new w (boxW (.slice (some ⟨b, o, none⟩) 3 c) W.tip (.slice (some ⟨b', o', none⟩) 3 c') W.t)
  exact h
 have HL : Aside (Laid w) := hL
 have HR : Hid (RW W) := hR
 have HC : Hid (3 ≤ c ∧ 3 ≤ c') := ⟨hc, hc'⟩
 have V_0 : Aside (WF (w.alloc (boxW (.slice (some ⟨b, o, none⟩) 3 c) W.tip (.slice (some ⟨b', o', none⟩) 3 c') W.t)) b o b' o' xs cs W) := h.later hA0
 clear hL h hR hc hc'
 go_enter Tryz.func4, Tryz.ntmps4
 go_upto_region 1 with fail
 generalize (w.alloc (boxW (.slice (some ⟨b, o, none⟩) 3 c) W.tip (.slice (some ⟨b', o', none⟩) 3 c') W.t)) = w0 at *
 clear hA0
 go_wp2_with fail
 refine (tolled_any _ (HL.out.later B_0.out)).mono ?_
 rintro e w1 ⟨rfl, hb1⟩
 have Q_1 := hv Q_0 hb1
 have V_1 : Aside _ := V_0.out.later hb1
 have B_1 := sb B_0 hb1
 clear hb1 Q_0 V_0 B_0
 have zQ := cb Q_1
 have kc := k_check (HL.out.later B_1.out) (V_1.out.back HR.out HC.out.1 HC.out.2)
 rw [rw_iff.2 HR.out] at kc
 go_wp2_with fail
 refine (kc).mono ?_
 rintro e w2 ⟨rfl, hb2⟩
 have Q_2 := hv Q_1 hb2
 have V_2 : Aside _ := V_1.out.later hb2
 have B_2 := sb B_1 hb2
 clear hb2 Q_1 V_1 B_1 kc zQ
 go_wp2_with fail
 refine (at_three k _).mono ?_
 rintro e wx ⟨m, hm, rfl, hwx⟩
 obtain rfl : w2 = wx := hwx.symm
 have zQ := cb Q_2
 obtain ⟨x, _, hxn, _, hx⟩ := V_2.out.nodeAt (nd_at HR.out hm)
 have x4 := hx 4 _ rfl
 rw [hxn] at x4
 have hmi : (m : Int) < 3 := by omega
 have hm0 : (0 : Int) ≤ (m : Int) := by omega
 have HM : Hid (m < 3) := hm
 clear hx hxn hm
 cases hup : (W.nd m).up with
 | false =>
  rw [hup] at x4
  clear hup
  go_wp2
  go_ret
  exact ⟨rfl, B_2.out⟩
 | true =>
  rw [hup] at x4
  obtain ⟨X, hd1, hX, hxu, hd2⟩ := stands_facts HR.out (k := (m : Int)) (by omega) hup
  have HX : Hid (RW X) := hX
  have HXU : Hid ((X.nd m).up = false) := hxu
  have kd := k_do (HL.out.later B_2.out) (V_2.out.back HR.out HC.out.1 HC.out.2) (hp 12 0 m)
  rw [doOf_ok HR.out hd1] at kd
  have kd2 := fun (W' : World) un uc (hL : Laid W') (hv : WV W' un uc X) => k_do hL hv (hp 13 0 m)
  rw [doOf_ok hX hd2] at kd2
  clear hd1 hX hxu hd2 hup
  go_wp2_with fail
  refine (kd).mono ?_
  rintro e w3 ⟨un, uc, rfl, hv, hb3⟩
  have Q_3 := hv Q_2 hb3
  have V_3 : Aside _ := V_2.out.later hb3
  have B_3 := sb B_2 hb3
  clear hb3 Q_2 V_2 B_2 kd x4 zQ
  obtain ⟨g, r, q, g', r', q', ys, ds, rfl, rfl, hq, hq', hF⟩ := hv.form HX.out
  have HQ : Hid (3 ≤ q ∧ 3 ≤ q') := ⟨hq, hq'⟩
  clear hv hq hq'
  have F_3 : Aside (WF w3 g r g' r' ys ds X) := hF
  clear hF
  go_upto_region 7 with fail
  have hb4 : Below w3.heap.size w3 (w3.alloc (boxW (.slice (some ⟨g, r, none⟩) 3 q) X.tip (.slice (some ⟨g', r', none⟩) 3 q') X.t)) := grew (Below.refl _ _) _
  have Y_4 : Aside ((w3.alloc (boxW (.slice (some ⟨g, r, none⟩) 3 q) X.tip (.slice (some ⟨g', r', none⟩) 3 q') X.t)).heap[w3.heap.size]? = some (boxW (.slice (some ⟨g, r, none⟩) 3 q) X.tip (.slice (some ⟨g', r', none⟩) 3 q') X.t)) := heap_new _ _
  have Q_4 := hv Q_3 hb4
  have V_4 : Aside _ := V_3.out.later hb4
  have F_4 : Aside _ := F_3.out.later hb4
  have B_4 := sb B_3 hb4
  clear hb4 Q_3 V_3 F_3 B_3
  generalize w3.alloc (boxW (.slice (some ⟨g, r, none⟩) 3 q) X.tip (.slice (some ⟨g', r', none⟩) 3 q') X.t) = w4 at *
  generalize w3.heap.size = bY at *
  have zY := cb Y_4
  obtain ⟨x, _, hxn, _, hx⟩ := F_4.out.nodeAt (nd_at HX.out HM.out)
  have x4 := hx 4 _ rfl
  rw [hxn, HXU.out] at x4
  have kd := kd2 _ _ _ (HL.out.later B_4.out) (F_4.out.back HX.out HQ.out.1 HQ.out.2)
  clear kd2 hx hxn
  go_wp2_with fail
  refine (kd).mono ?_
  rintro e w5 ⟨un, uc, rfl, hv, hb5⟩
  have Q_5 := hv Q_4 hb5
  have V_5 : Aside _ := V_4.out.later hb5
  have F_5 : Aside _ := F_4.out.later hb5
  have Y_5 := hv Y_4 hb5
  have B_5 := sb B_4 hb5
  clear hb5 Q_4 V_4 F_4 Y_4 B_4 kd x4 zY
  obtain ⟨p, s, t, p', s', t', zs, es, rfl, rfl, ht, ht', hF⟩ := hv.form HR.out
  have HT : Hid (3 ≤ t ∧ 3 ≤ t') := ⟨ht, ht'⟩
  clear hv ht ht'
  have G_5 : Aside (WF w5 p s p' s' zs es W) := hF
  clear hF
  go_upto_region 10 with fail
  have hb6 : Below w5.heap.size w5 (w5.alloc (boxW (.slice (some ⟨p, s, none⟩) 3 t) W.tip (.slice (some ⟨p', s', none⟩) 3 t') W.t)) := grew (Below.refl _ _) _
  have Z_6 : Aside ((w5.alloc (boxW (.slice (some ⟨p, s, none⟩) 3 t) W.tip (.slice (some ⟨p', s', none⟩) 3 t') W.t)).heap[w5.heap.size]? = some (boxW (.slice (some ⟨p, s, none⟩) 3 t) W.tip (.slice (some ⟨p', s', none⟩) 3 t') W.t)) := heap_new _ _
  have Q_6 := hv Q_5 hb6
  have V_6 : Aside _ := V_5.out.later hb6
  have F_6 : Aside _ := F_5.out.later hb6
  have Y_6 := hv Y_5 hb6
  have G_6 : Aside _ := G_5.out.later hb6
  have B_6 := sb B_5 hb6
  clear hb6 Q_5 V_5 F_5 Y_5 G_5 B_5
  generalize w5.alloc (boxW (.slice (some ⟨p, s, none⟩) 3 t) W.tip (.slice (some ⟨p', s', none⟩) 3 t') W.t) = w6 at *
  generalize w5.heap.size = bZ at *
  have zZ := cb Z_6
  have zQ := cb Q_6
  have ks := k_same (G_6.out.back HR.out HT.out.1 HT.out.2) (V_6.out.back HR.out HC.out.1 HC.out.2)
  rw [decide_eq_true (rfl : W = W)] at ks
  go_wp2_with fail
  refine (ks).mono ?_
  rintro e w7 ⟨rfl, hb7⟩
  have Q_7 := hv Q_6 hb7
  have V_7 : Aside _ := V_6.out.later hb7
  have F_7 : Aside _ := F_6.out.later hb7
  have Y_7 := hv Y_6 hb7
  have G_7 : Aside _ := G_6.out.later hb7
  have Z_7 := hv Z_6 hb7
  have B_7 := sb B_6 hb7
  clear hb7 Q_6 V_6 F_6 Y_6 G_6 Z_6 B_6 ks zZ zQ
  go_wp2
  go_ret
  exact ⟨rfl, B_7.out⟩
theorem stands_at (vn vc : Value) (W : Wd) (k : Int) (w : World) (hL : Laid w) (h : WV w vn vc W) :
  Calls Tryz.prog 4 #[wval vn W.tip vc W.t, .int .i64 k] w fun e w' => e = .returned (.bool true) ∧ Below w.heap.size w w' := by
 by_cases hz : W.ck = 0
 ·obtain ⟨b, o, c, b', o', c', xs, cs, rfl, rfl, hc, hc', hF⟩ := h.form (rw_iff.1 hz)
  exact stands_right b o c b' o' c' xs cs W k w hL hF (rw_iff.1 hz) hc hc'
 ·exact stands_wrong vn vc W k w hL h hz
end
end Go.Proofs.YtmoaobfmopimlafGreatDoor
