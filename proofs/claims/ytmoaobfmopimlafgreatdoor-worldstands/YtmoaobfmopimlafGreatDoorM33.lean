/- For the law. -/
import Derived.Test.YtmoaobfmopimlafGreatDoorM32
set_option linter.unusedSimpArgs false
set_option linter.unusedVariables false
namespace Go.Proofs.YtmoaobfmopimlafGreatDoor
open Go.RowKit
section
open scoped Classical
theorem junk_any (x : En) (w : World) :
  Calls Tryz.prog 150 #[x.val] w fun e w' => e = .returned (.bool (x.k == 0)) ∧ Below w.heap.size w w' := by
 go_enter Tryz.func150, Tryz.ntmps150
 go_wp2
 go_ret
 exact ⟨rfl, grew (Below.refl _ _) _⟩
theorem cplace_any (q : Int) (w : World) :
  Calls Tryz.prog 146 #[.int .i64 q] w fun e w' => e = .returned (.bool (decide (0 ≤ q ∧ q ≤ 59))) ∧ w' = w := by
 have hc : ¬ 0 ≤ q ∨ (0 ≤ q ∧ ¬ q < 60) ∨ (0 ≤ q ∧ q < 60) := by omega
 rcases hc with h | ⟨h, h'⟩ | ⟨h, h'⟩
 ·rw [show decide (0 ≤ q ∧ q ≤ 59) = false from decide_eq_false (by omega)]
  go_enter Tryz.func146, Tryz.ntmps146
  go_wp2
  go_ret
  exact ⟨rfl, rfl⟩
 ·rw [show decide (0 ≤ q ∧ q ≤ 59) = false from decide_eq_false (by omega)]
  go_enter Tryz.func146, Tryz.ntmps146
  go_wp2
  go_ret
  exact ⟨ret_bool (by simp <;> omega), rfl⟩
 ·rw [show decide (0 ≤ q ∧ q ≤ 59) = true from decide_eq_true (by omega)]
  go_enter Tryz.func146, Tryz.ntmps146
  go_wp2
  go_ret
  exact ⟨ret_bool (by simp <;> omega), rfl⟩
theorem cepoch_any (q : Int) (w : World) :
  Calls Tryz.prog 145 #[.int .i64 q] w fun e w' => e = .returned (.bool (decide (1 ≤ q ∧ q ≤ 20))) ∧ w' = w := by
 have hc : ¬ 1 ≤ q ∨ (1 ≤ q ∧ ¬ q ≤ 20) ∨ (1 ≤ q ∧ q ≤ 20) := by omega
 rcases hc with h | ⟨h, h'⟩ | ⟨h, h'⟩
 ·rw [show decide (1 ≤ q ∧ q ≤ 20) = false from decide_eq_false (by omega)]
  go_enter Tryz.func145, Tryz.ntmps145
  go_wp2
  go_ret
  exact ⟨rfl, rfl⟩
 ·rw [show decide (1 ≤ q ∧ q ≤ 20) = false from decide_eq_false (by omega)]
  go_enter Tryz.func145, Tryz.ntmps145
  go_wp2
  go_ret
  exact ⟨ret_bool (by simp <;> omega), rfl⟩
 ·rw [show decide (1 ≤ q ∧ q ≤ 20) = true from decide_eq_true (by omega)]
  go_enter Tryz.func145, Tryz.ntmps145
  go_wp2
  go_ret
  exact ⟨ret_bool (by simp <;> omega), rfl⟩
set_option maxHeartbeats 4000000 in
set_option maxRecDepth 100000 in
theorem cr_0 (c : Cl) (a1 a2 : Option Addr) (m1 k1 m2 k2 : Nat) (w : World)  (h0 : ¬ (1 ≤ c.p ∧ c.p ≤ 20)) :
  Calls Tryz.prog 114 #[c.val (.slice a1 m1 k1) (.slice a2 m2 k2)] w fun e w' => e = .returned (.bool false) ∧ Below w.heap.size w w' := by
 have HX0 : Aside ((w.alloc (boxC c (.slice a1 m1 k1) (.slice a2 m2 k2))).heap[w.heap.size]? = some (boxC c (.slice a1 m1 k1) (.slice a2 m2 k2))) := heap_new _ _
 have HB0 : Aside (Below w.heap.size w (w.alloc (boxC c (.slice a1 m1 k1) (.slice a2 m2 k2)))) := grew (Below.refl _ _) _
 obtain ⟨p, d, e, a, l, n, js, rs⟩ := c
 try simp only at *
 have ip := fun W => cepoch_any p W
 rw [decide_eq_false h0] at ip
 clear h0
 go_enter Tryz.func114, Tryz.ntmps114
 go_wp2_with fail
 refine (ip _).mono ?_
 rintro r wx ⟨rfl, rfl⟩
 go_wp2
 go_ret
 first | exact ⟨rfl, HB0.out⟩ | exact ⟨rfl, HB0.out⟩
set_option maxHeartbeats 4000000 in
set_option maxRecDepth 100000 in
theorem cr_1 (c : Cl) (a1 a2 : Option Addr) (m1 k1 m2 k2 : Nat) (w : World) (h0 : 1 ≤ c.p ∧ c.p ≤ 20) (h1 : ¬ (0 ≤ c.d)) :
  Calls Tryz.prog 114 #[c.val (.slice a1 m1 k1) (.slice a2 m2 k2)] w fun e w' => e = .returned (.bool false) ∧ Below w.heap.size w w' := by
 have HX0 : Aside ((w.alloc (boxC c (.slice a1 m1 k1) (.slice a2 m2 k2))).heap[w.heap.size]? = some (boxC c (.slice a1 m1 k1) (.slice a2 m2 k2))) := heap_new _ _
 have HB0 : Aside (Below w.heap.size w (w.alloc (boxC c (.slice a1 m1 k1) (.slice a2 m2 k2)))) := grew (Below.refl _ _) _
 obtain ⟨p, d, e, a, l, n, js, rs⟩ := c
 try simp only at *
 have ip := fun W => cepoch_any p W
 rw [decide_eq_true h0] at ip
 clear h0
 go_enter Tryz.func114, Tryz.ntmps114
 go_wp2_with fail
 refine (ip _).mono ?_
 rintro r wx ⟨rfl, rfl⟩
 go_wp2
 go_ret
 first | exact ⟨rfl, HB0.out⟩ | exact ⟨rfl, HB0.out⟩
set_option maxHeartbeats 4000000 in
set_option maxRecDepth 100000 in
theorem cr_2 (c : Cl) (a1 a2 : Option Addr) (m1 k1 m2 k2 : Nat) (w : World) (h0 : 1 ≤ c.p ∧ c.p ≤ 20) (h1 : 0 ≤ c.d) (h2 : ¬ (c.d ≤ 2)) :
  Calls Tryz.prog 114 #[c.val (.slice a1 m1 k1) (.slice a2 m2 k2)] w fun e w' => e = .returned (.bool false) ∧ Below w.heap.size w w' := by
 have HX0 : Aside ((w.alloc (boxC c (.slice a1 m1 k1) (.slice a2 m2 k2))).heap[w.heap.size]? = some (boxC c (.slice a1 m1 k1) (.slice a2 m2 k2))) := heap_new _ _
 have HB0 : Aside (Below w.heap.size w (w.alloc (boxC c (.slice a1 m1 k1) (.slice a2 m2 k2)))) := grew (Below.refl _ _) _
 obtain ⟨p, d, e, a, l, n, js, rs⟩ := c
 try simp only at *
 have ip := fun W => cepoch_any p W
 rw [decide_eq_true h0] at ip
 clear h0
 go_enter Tryz.func114, Tryz.ntmps114
 go_wp2_with fail
 refine (ip _).mono ?_
 rintro r wx ⟨rfl, rfl⟩
 go_wp2
 go_ret
 first | exact ⟨rfl, HB0.out⟩ | exact ⟨ret_bool (by simp <;> omega), HB0.out⟩
set_option maxHeartbeats 4000000 in
set_option maxRecDepth 100000 in
theorem cr_3 (c : Cl) (a1 a2 : Option Addr) (m1 k1 m2 k2 : Nat) (w : World) (h0 : 1 ≤ c.p ∧ c.p ≤ 20) (h1 : 0 ≤ c.d) (h2 : c.d ≤ 2) (h3 : ¬ (0 ≤ c.a ∧ c.a ≤ 59)) :
  Calls Tryz.prog 114 #[c.val (.slice a1 m1 k1) (.slice a2 m2 k2)] w fun e w' => e = .returned (.bool false) ∧ Below w.heap.size w w' := by
 have HX0 : Aside ((w.alloc (boxC c (.slice a1 m1 k1) (.slice a2 m2 k2))).heap[w.heap.size]? = some (boxC c (.slice a1 m1 k1) (.slice a2 m2 k2))) := heap_new _ _
 have HB0 : Aside (Below w.heap.size w (w.alloc (boxC c (.slice a1 m1 k1) (.slice a2 m2 k2)))) := grew (Below.refl _ _) _
 obtain ⟨p, d, e, a, l, n, js, rs⟩ := c
 try simp only at *
 have ip := fun W => cepoch_any p W
 rw [decide_eq_true h0] at ip
 have ia := fun W => cplace_any a W
 rw [decide_eq_false h3] at ia
 clear h0 h3
 go_enter Tryz.func114, Tryz.ntmps114
 go_wp2_with fail
 refine (ip _).mono ?_
 rintro r wx ⟨rfl, rfl⟩
 go_wp2_with fail
 refine (ia _).mono ?_
 rintro r wx ⟨rfl, rfl⟩
 go_wp2
 go_ret
 first | exact ⟨rfl, HB0.out⟩ | exact ⟨rfl, HB0.out⟩
set_option maxHeartbeats 4000000 in
set_option maxRecDepth 100000 in
theorem cr_4 (c : Cl) (a1 a2 : Option Addr) (m1 k1 m2 k2 : Nat) (w : World) (h0 : 1 ≤ c.p ∧ c.p ≤ 20) (h1 : 0 ≤ c.d) (h2 : c.d ≤ 2) (h3 : 0 ≤ c.a ∧ c.a ≤ 59) (h4 : ¬ (0 ≤ c.l)) :
  Calls Tryz.prog 114 #[c.val (.slice a1 m1 k1) (.slice a2 m2 k2)] w fun e w' => e = .returned (.bool false) ∧ Below w.heap.size w w' := by
 have HX0 : Aside ((w.alloc (boxC c (.slice a1 m1 k1) (.slice a2 m2 k2))).heap[w.heap.size]? = some (boxC c (.slice a1 m1 k1) (.slice a2 m2 k2))) := heap_new _ _
 have HB0 : Aside (Below w.heap.size w (w.alloc (boxC c (.slice a1 m1 k1) (.slice a2 m2 k2)))) := grew (Below.refl _ _) _
 obtain ⟨p, d, e, a, l, n, js, rs⟩ := c
 try simp only at *
 have ip := fun W => cepoch_any p W
 rw [decide_eq_true h0] at ip
 have ia := fun W => cplace_any a W
 rw [decide_eq_true h3] at ia
 clear h0 h3
 go_enter Tryz.func114, Tryz.ntmps114
 go_wp2_with fail
 refine (ip _).mono ?_
 rintro r wx ⟨rfl, rfl⟩
 go_wp2_with fail
 refine (ia _).mono ?_
 rintro r wx ⟨rfl, rfl⟩
 go_wp2
 go_ret
 first | exact ⟨rfl, HB0.out⟩ | exact ⟨rfl, HB0.out⟩
set_option maxHeartbeats 4000000 in
set_option maxRecDepth 100000 in
theorem cr_5 (c : Cl) (a1 a2 : Option Addr) (m1 k1 m2 k2 : Nat) (w : World) (h0 : 1 ≤ c.p ∧ c.p ≤ 20) (h1 : 0 ≤ c.d) (h2 : c.d ≤ 2) (h3 : 0 ≤ c.a ∧ c.a ≤ 59) (h4 : 0 ≤ c.l) (h5 : ¬ (c.l < 3)) :
  Calls Tryz.prog 114 #[c.val (.slice a1 m1 k1) (.slice a2 m2 k2)] w fun e w' => e = .returned (.bool false) ∧ Below w.heap.size w w' := by
 have HX0 : Aside ((w.alloc (boxC c (.slice a1 m1 k1) (.slice a2 m2 k2))).heap[w.heap.size]? = some (boxC c (.slice a1 m1 k1) (.slice a2 m2 k2))) := heap_new _ _
 have HB0 : Aside (Below w.heap.size w (w.alloc (boxC c (.slice a1 m1 k1) (.slice a2 m2 k2)))) := grew (Below.refl _ _) _
 obtain ⟨p, d, e, a, l, n, js, rs⟩ := c
 try simp only at *
 have ip := fun W => cepoch_any p W
 rw [decide_eq_true h0] at ip
 have ia := fun W => cplace_any a W
 rw [decide_eq_true h3] at ia
 clear h0 h3
 go_enter Tryz.func114, Tryz.ntmps114
 go_wp2_with fail
 refine (ip _).mono ?_
 rintro r wx ⟨rfl, rfl⟩
 go_wp2_with fail
 refine (ia _).mono ?_
 rintro r wx ⟨rfl, rfl⟩
 go_wp2
 go_ret
 first | exact ⟨rfl, HB0.out⟩ | exact ⟨ret_bool (by simp <;> omega), HB0.out⟩
set_option maxHeartbeats 4000000 in
set_option maxRecDepth 100000 in
theorem cr_6 (c : Cl) (a1 a2 : Option Addr) (m1 k1 m2 k2 : Nat) (w : World) (h0 : 1 ≤ c.p ∧ c.p ≤ 20) (h1 : 0 ≤ c.d) (h2 : c.d ≤ 2) (h3 : 0 ≤ c.a ∧ c.a ≤ 59) (h4 : 0 ≤ c.l) (h5 : c.l < 3) (h6 : ¬ (0 ≤ c.n)) :
  Calls Tryz.prog 114 #[c.val (.slice a1 m1 k1) (.slice a2 m2 k2)] w fun e w' => e = .returned (.bool false) ∧ Below w.heap.size w w' := by
 have HX0 : Aside ((w.alloc (boxC c (.slice a1 m1 k1) (.slice a2 m2 k2))).heap[w.heap.size]? = some (boxC c (.slice a1 m1 k1) (.slice a2 m2 k2))) := heap_new _ _
 have HB0 : Aside (Below w.heap.size w (w.alloc (boxC c (.slice a1 m1 k1) (.slice a2 m2 k2)))) := grew (Below.refl _ _) _
 obtain ⟨p, d, e, a, l, n, js, rs⟩ := c
 try simp only at *
 have ip := fun W => cepoch_any p W
 rw [decide_eq_true h0] at ip
 have ia := fun W => cplace_any a W
 rw [decide_eq_true h3] at ia
 clear h0 h3
 go_enter Tryz.func114, Tryz.ntmps114
 go_wp2_with fail
 refine (ip _).mono ?_
 rintro r wx ⟨rfl, rfl⟩
 go_wp2_with fail
 refine (ia _).mono ?_
 rintro r wx ⟨rfl, rfl⟩
 go_wp2
 go_ret
 first | exact ⟨rfl, HB0.out⟩ | exact ⟨rfl, HB0.out⟩
set_option maxHeartbeats 4000000 in
set_option maxRecDepth 100000 in
theorem cr_7 (c : Cl) (a1 a2 : Option Addr) (m1 k1 m2 k2 : Nat) (w : World) (h0 : 1 ≤ c.p ∧ c.p ≤ 20) (h1 : 0 ≤ c.d) (h2 : c.d ≤ 2) (h3 : 0 ≤ c.a ∧ c.a ≤ 59) (h4 : 0 ≤ c.l) (h5 : c.l < 3) (h6 : 0 ≤ c.n) (h7 : ¬ (c.n ≤ 60)) :
  Calls Tryz.prog 114 #[c.val (.slice a1 m1 k1) (.slice a2 m2 k2)] w fun e w' => e = .returned (.bool false) ∧ Below w.heap.size w w' := by
 have HX0 : Aside ((w.alloc (boxC c (.slice a1 m1 k1) (.slice a2 m2 k2))).heap[w.heap.size]? = some (boxC c (.slice a1 m1 k1) (.slice a2 m2 k2))) := heap_new _ _
 have HB0 : Aside (Below w.heap.size w (w.alloc (boxC c (.slice a1 m1 k1) (.slice a2 m2 k2)))) := grew (Below.refl _ _) _
 obtain ⟨p, d, e, a, l, n, js, rs⟩ := c
 try simp only at *
 have ip := fun W => cepoch_any p W
 rw [decide_eq_true h0] at ip
 have ia := fun W => cplace_any a W
 rw [decide_eq_true h3] at ia
 clear h0 h3
 go_enter Tryz.func114, Tryz.ntmps114
 go_wp2_with fail
 refine (ip _).mono ?_
 rintro r wx ⟨rfl, rfl⟩
 go_wp2_with fail
 refine (ia _).mono ?_
 rintro r wx ⟨rfl, rfl⟩
 go_wp2
 go_ret
 first | exact ⟨rfl, HB0.out⟩ | exact ⟨ret_bool (by simp <;> omega), HB0.out⟩
set_option maxHeartbeats 4000000 in
set_option maxRecDepth 100000 in
theorem cr_8 (c : Cl) (a1 a2 : Option Addr) (m1 k1 m2 k2 : Nat) (w : World) (h0 : 1 ≤ c.p ∧ c.p ≤ 20) (h1 : 0 ≤ c.d) (h2 : c.d ≤ 2) (h3 : 0 ≤ c.a ∧ c.a ≤ 59) (h4 : 0 ≤ c.l) (h5 : c.l < 3) (h6 : 0 ≤ c.n) (h7 : c.n ≤ 60) :
  Calls Tryz.prog 114 #[c.val (.slice a1 m1 k1) (.slice a2 m2 k2)] w fun e w' => e = .returned (.bool true) ∧ Below w.heap.size w w' := by
 have HX0 : Aside ((w.alloc (boxC c (.slice a1 m1 k1) (.slice a2 m2 k2))).heap[w.heap.size]? = some (boxC c (.slice a1 m1 k1) (.slice a2 m2 k2))) := heap_new _ _
 have HB0 : Aside (Below w.heap.size w (w.alloc (boxC c (.slice a1 m1 k1) (.slice a2 m2 k2)))) := grew (Below.refl _ _) _
 obtain ⟨p, d, e, a, l, n, js, rs⟩ := c
 try simp only at *
 have ip := fun W => cepoch_any p W
 rw [decide_eq_true h0] at ip
 have ia := fun W => cplace_any a W
 rw [decide_eq_true h3] at ia
 clear h0 h3
 go_enter Tryz.func114, Tryz.ntmps114
 go_wp2_with fail
 refine (ip _).mono ?_
 rintro r wx ⟨rfl, rfl⟩
 go_wp2_with fail
 refine (ia _).mono ?_
 rintro r wx ⟨rfl, rfl⟩
 go_wp2
 go_ret
 first | exact ⟨rfl, HB0.out⟩ | exact ⟨ret_bool (by simp <;> omega), HB0.out⟩
theorem crange_any (c : Cl) (v1 v2 : Value) (w : World) (hs : ∃ a1 m1 k1 a2 m2 k2, v1 = .slice a1 m1 k1 ∧ v2 = .slice a2 m2 k2) :
  Calls Tryz.prog 114 #[c.val v1 v2] w fun e w' => e = .returned (.bool (!c.out)) ∧ Below w.heap.size w w' := by
 obtain ⟨a1, m1, k1, a2, m2, k2, rfl, rfl⟩ := hs
 have hout : ∀ {P : Prop}, (c.out = false → P) → ¬ P → c.out = true := fun f h => by
  rw [← Bool.not_eq_false]; exact fun h' => h (f h')
 by_cases h0 : 1 ≤ c.p ∧ c.p ≤ 20
 ·by_cases h1 : 0 ≤ c.d
  ·by_cases h2 : c.d ≤ 2
   ·by_cases h3 : 0 ≤ c.a ∧ c.a ≤ 59
    ·by_cases h4 : 0 ≤ c.l
     ·by_cases h5 : c.l < 3
      ·by_cases h6 : 0 ≤ c.n
       ·by_cases h7 : c.n ≤ 60
        ·rw [Cl.good_of ⟨h0, ⟨h1, h2⟩, h3, ⟨h4, by omega⟩, ⟨h6, h7⟩⟩]
         exact cr_8 c a1 a2 m1 k1 m2 k2 w h0 h1 h2 h3 h4 h5 h6 h7
        ·rw [hout (fun h => (Cl.good h).2.2.2.2.2) h7]
         exact cr_7 c a1 a2 m1 k1 m2 k2 w h0 h1 h2 h3 h4 h5 h6 h7
       ·rw [hout (fun h => (Cl.good h).2.2.2.2.1) h6]
        exact cr_6 c a1 a2 m1 k1 m2 k2 w h0 h1 h2 h3 h4 h5 h6
      ·rw [hout (fun h => (Cl.good h).2.2.2.1.2) (by omega)]
       exact cr_5 c a1 a2 m1 k1 m2 k2 w h0 h1 h2 h3 h4 h5
     ·rw [hout (fun h => (Cl.good h).2.2.2.1.1) h4]
      exact cr_4 c a1 a2 m1 k1 m2 k2 w h0 h1 h2 h3 h4
    ·rw [hout (fun h => (Cl.good h).2.2.1) h3]
     exact cr_3 c a1 a2 m1 k1 m2 k2 w h0 h1 h2 h3
   ·rw [hout (fun h => (Cl.good h).2.1.2) h2]
    exact cr_2 c a1 a2 m1 k1 m2 k2 w h0 h1 h2
  ·rw [hout (fun h => (Cl.good h).2.1.1) h1]
   exact cr_1 c a1 a2 m1 k1 m2 k2 w h0 h1
 ·rw [hout (fun h => (Cl.good h).1) h0]
  exact cr_0 c a1 a2 m1 k1 m2 k2 w h0
set_option maxHeartbeats 4000000 in
set_option maxRecDepth 100000 in
theorem cf_r0 (c : Cl) (a1 a2 : Option Addr) (m1 k1 m2 k2 : Nat) (w : World) (hd : c.d = 0) (h0 : unlike c.e.k c.e.j c.e.v c.e.t c.e.c 0 0 0 0 0 = true) :
  Calls Tryz.prog 116 #[c.val (.slice a1 m1 k1) (.slice a2 m2 k2)] w fun e w' => e = .returned (.bool false) ∧ Below w.heap.size w w' := by
 have HX0 : Aside ((w.alloc (boxC c (.slice a1 m1 k1) (.slice a2 m2 k2))).heap[w.heap.size]? = some (boxC c (.slice a1 m1 k1) (.slice a2 m2 k2))) := heap_new _ _
 have HB0 : Aside (Below w.heap.size w (w.alloc (boxC c (.slice a1 m1 k1) (.slice a2 m2 k2)))) := grew (Below.refl _ _) _
 obtain ⟨p, d, e, a, l, n, js, rs⟩ := c
 try simp only at *
 subst hd
 have hq := fun W => eql_entry e.k e.j e.v e.t e.c 0 0 0 0 0 W
 rw [h0, Bool.not_true] at hq
 clear h0
 go_enter Tryz.func116, Tryz.ntmps116
 go_wp2
 go_ret
 exact ⟨rfl, HB0.out⟩
set_option maxHeartbeats 4000000 in
set_option maxRecDepth 100000 in
theorem cf_r1 (c : Cl) (a1 a2 : Option Addr) (m1 k1 m2 k2 : Nat) (w : World) (hd : c.d = 0) (h0 : unlike c.e.k c.e.j c.e.v c.e.t c.e.c 0 0 0 0 0 = false) (h1 : (c.a == 0) = false) :
  Calls Tryz.prog 116 #[c.val (.slice a1 m1 k1) (.slice a2 m2 k2)] w fun e w' => e = .returned (.bool false) ∧ Below w.heap.size w w' := by
 have HX0 : Aside ((w.alloc (boxC c (.slice a1 m1 k1) (.slice a2 m2 k2))).heap[w.heap.size]? = some (boxC c (.slice a1 m1 k1) (.slice a2 m2 k2))) := heap_new _ _
 have HB0 : Aside (Below w.heap.size w (w.alloc (boxC c (.slice a1 m1 k1) (.slice a2 m2 k2)))) := grew (Below.refl _ _) _
 obtain ⟨p, d, e, a, l, n, js, rs⟩ := c
 try simp only at *
 subst hd
 have hq := fun W => eql_entry e.k e.j e.v e.t e.c 0 0 0 0 0 W
 rw [h0, Bool.not_false] at hq
 clear h0
 go_enter Tryz.func116, Tryz.ntmps116
 go_wp2
 go_ret
 exact ⟨rfl, HB0.out⟩
set_option maxHeartbeats 4000000 in
set_option maxRecDepth 100000 in
theorem cf_r2 (c : Cl) (a1 a2 : Option Addr) (m1 k1 m2 k2 : Nat) (w : World) (hd : c.d = 0) (h0 : unlike c.e.k c.e.j c.e.v c.e.t c.e.c 0 0 0 0 0 = false) (h1 : (c.a == 0) = true) (h2 : (c.l == 0) = false) :
  Calls Tryz.prog 116 #[c.val (.slice a1 m1 k1) (.slice a2 m2 k2)] w fun e w' => e = .returned (.bool false) ∧ Below w.heap.size w w' := by
 have HX0 : Aside ((w.alloc (boxC c (.slice a1 m1 k1) (.slice a2 m2 k2))).heap[w.heap.size]? = some (boxC c (.slice a1 m1 k1) (.slice a2 m2 k2))) := heap_new _ _
 have HB0 : Aside (Below w.heap.size w (w.alloc (boxC c (.slice a1 m1 k1) (.slice a2 m2 k2)))) := grew (Below.refl _ _) _
 obtain ⟨p, d, e, a, l, n, js, rs⟩ := c
 try simp only at *
 subst hd
 have hq := fun W => eql_entry e.k e.j e.v e.t e.c 0 0 0 0 0 W
 rw [h0, Bool.not_false] at hq
 clear h0
 go_enter Tryz.func116, Tryz.ntmps116
 go_wp2
 go_ret
 exact ⟨rfl, HB0.out⟩
set_option maxHeartbeats 4000000 in
set_option maxRecDepth 100000 in
theorem cf_r3 (c : Cl) (a1 a2 : Option Addr) (m1 k1 m2 k2 : Nat) (w : World) (hd : c.d = 0) (h0 : unlike c.e.k c.e.j c.e.v c.e.t c.e.c 0 0 0 0 0 = false) (h1 : (c.a == 0) = true) (h2 : (c.l == 0) = true) :
  Calls Tryz.prog 116 #[c.val (.slice a1 m1 k1) (.slice a2 m2 k2)] w fun e w' => e = .returned (.bool true) ∧ Below w.heap.size w w' := by
 have HX0 : Aside ((w.alloc (boxC c (.slice a1 m1 k1) (.slice a2 m2 k2))).heap[w.heap.size]? = some (boxC c (.slice a1 m1 k1) (.slice a2 m2 k2))) := heap_new _ _
 have HB0 : Aside (Below w.heap.size w (w.alloc (boxC c (.slice a1 m1 k1) (.slice a2 m2 k2)))) := grew (Below.refl _ _) _
 obtain ⟨p, d, e, a, l, n, js, rs⟩ := c
 try simp only at *
 subst hd
 have hq := fun W => eql_entry e.k e.j e.v e.t e.c 0 0 0 0 0 W
 rw [h0, Bool.not_false] at hq
 clear h0
 go_enter Tryz.func116, Tryz.ntmps116
 go_wp2
 go_ret
 exact ⟨rfl, HB0.out⟩
set_option maxHeartbeats 4000000 in
set_option maxRecDepth 100000 in
theorem cf_w0 (c : Cl) (a1 a2 : Option Addr) (m1 k1 m2 k2 : Nat) (w : World) (hd : c.d = 1) (h0 : (c.e.k == 0) = true) :
  Calls Tryz.prog 116 #[c.val (.slice a1 m1 k1) (.slice a2 m2 k2)] w fun e w' => e = .returned (.bool false) ∧ Below w.heap.size w w' := by
 have HX0 : Aside ((w.alloc (boxC c (.slice a1 m1 k1) (.slice a2 m2 k2))).heap[w.heap.size]? = some (boxC c (.slice a1 m1 k1) (.slice a2 m2 k2))) := heap_new _ _
 have HB0 : Aside (Below w.heap.size w (w.alloc (boxC c (.slice a1 m1 k1) (.slice a2 m2 k2)))) := grew (Below.refl _ _) _
 obtain ⟨p, d, e, a, l, n, js, rs⟩ := c
 try simp only at *
 subst hd
 go_enter Tryz.func116, Tryz.ntmps116
 have kj := fun W => junk_any e W
 rw [h0] at kj
 clear h0
 go_wp2_with fail
 refine (kj _).mono ?_
 rintro r w1 ⟨rfl, hb1⟩
 have HX1 := hv HX0 hb1
 have HB1 := sb HB0 hb1
 clear hb1 kj HX0 HB0
 have z := cb HX1
 go_wp2
 go_ret
 exact ⟨rfl, HB1.out⟩
set_option maxHeartbeats 4000000 in
set_option maxRecDepth 100000 in
theorem cf_w1 (c : Cl) (a1 a2 : Option Addr) (m1 k1 m2 k2 : Nat) (w : World) (hd : c.d = 1) (h0 : (c.e.k == 0) = false) (h1 : (c.a == 0) = false) :
  Calls Tryz.prog 116 #[c.val (.slice a1 m1 k1) (.slice a2 m2 k2)] w fun e w' => e = .returned (.bool false) ∧ Below w.heap.size w w' := by
 have HX0 : Aside ((w.alloc (boxC c (.slice a1 m1 k1) (.slice a2 m2 k2))).heap[w.heap.size]? = some (boxC c (.slice a1 m1 k1) (.slice a2 m2 k2))) := heap_new _ _
 have HB0 : Aside (Below w.heap.size w (w.alloc (boxC c (.slice a1 m1 k1) (.slice a2 m2 k2)))) := grew (Below.refl _ _) _
 obtain ⟨p, d, e, a, l, n, js, rs⟩ := c
 try simp only at *
 subst hd
 go_enter Tryz.func116, Tryz.ntmps116
 have kj := fun W => junk_any e W
 rw [h0] at kj
 clear h0
 go_wp2_with fail
 refine (kj _).mono ?_
 rintro r w1 ⟨rfl, hb1⟩
 have HX1 := hv HX0 hb1
 have HB1 := sb HB0 hb1
 clear hb1 kj HX0 HB0
 have z := cb HX1
 go_wp2
 go_ret
 exact ⟨rfl, HB1.out⟩
set_option maxHeartbeats 4000000 in
set_option maxRecDepth 100000 in
theorem cf_w2 (c : Cl) (a1 a2 : Option Addr) (m1 k1 m2 k2 : Nat) (w : World) (hd : c.d = 1) (h0 : (c.e.k == 0) = false) (h1 : (c.a == 0) = true) (h2 : (c.l == 0) = false) :
  Calls Tryz.prog 116 #[c.val (.slice a1 m1 k1) (.slice a2 m2 k2)] w fun e w' => e = .returned (.bool false) ∧ Below w.heap.size w w' := by
 have HX0 : Aside ((w.alloc (boxC c (.slice a1 m1 k1) (.slice a2 m2 k2))).heap[w.heap.size]? = some (boxC c (.slice a1 m1 k1) (.slice a2 m2 k2))) := heap_new _ _
 have HB0 : Aside (Below w.heap.size w (w.alloc (boxC c (.slice a1 m1 k1) (.slice a2 m2 k2)))) := grew (Below.refl _ _) _
 obtain ⟨p, d, e, a, l, n, js, rs⟩ := c
 try simp only at *
 subst hd
 go_enter Tryz.func116, Tryz.ntmps116
 have kj := fun W => junk_any e W
 rw [h0] at kj
 clear h0
 go_wp2_with fail
 refine (kj _).mono ?_
 rintro r w1 ⟨rfl, hb1⟩
 have HX1 := hv HX0 hb1
 have HB1 := sb HB0 hb1
 clear hb1 kj HX0 HB0
 have z := cb HX1
 go_wp2
 go_ret
 exact ⟨rfl, HB1.out⟩
set_option maxHeartbeats 4000000 in
set_option maxRecDepth 100000 in
theorem cf_w3 (c : Cl) (a1 a2 : Option Addr) (m1 k1 m2 k2 : Nat) (w : World) (hd : c.d = 1) (h0 : (c.e.k == 0) = false) (h1 : (c.a == 0) = true) (h2 : (c.l == 0) = true) :
  Calls Tryz.prog 116 #[c.val (.slice a1 m1 k1) (.slice a2 m2 k2)] w fun e w' => e = .returned (.bool true) ∧ Below w.heap.size w w' := by
 have HX0 : Aside ((w.alloc (boxC c (.slice a1 m1 k1) (.slice a2 m2 k2))).heap[w.heap.size]? = some (boxC c (.slice a1 m1 k1) (.slice a2 m2 k2))) := heap_new _ _
 have HB0 : Aside (Below w.heap.size w (w.alloc (boxC c (.slice a1 m1 k1) (.slice a2 m2 k2)))) := grew (Below.refl _ _) _
 obtain ⟨p, d, e, a, l, n, js, rs⟩ := c
 try simp only at *
 subst hd
 go_enter Tryz.func116, Tryz.ntmps116
 have kj := fun W => junk_any e W
 rw [h0] at kj
 clear h0
 go_wp2_with fail
 refine (kj _).mono ?_
 rintro r w1 ⟨rfl, hb1⟩
 have HX1 := hv HX0 hb1
 have HB1 := sb HB0 hb1
 clear hb1 kj HX0 HB0
 have z := cb HX1
 go_wp2
 go_ret
 exact ⟨rfl, HB1.out⟩
set_option maxHeartbeats 4000000 in
set_option maxRecDepth 100000 in
theorem cf_x (c : Cl) (a1 a2 : Option Addr) (m1 k1 m2 k2 : Nat) (w : World) (hd : c.d = 2)  :
  Calls Tryz.prog 116 #[c.val (.slice a1 m1 k1) (.slice a2 m2 k2)] w fun e w' => e = .returned (.bool true) ∧ Below w.heap.size w w' := by
 have HX0 : Aside ((w.alloc (boxC c (.slice a1 m1 k1) (.slice a2 m2 k2))).heap[w.heap.size]? = some (boxC c (.slice a1 m1 k1) (.slice a2 m2 k2))) := heap_new _ _
 have HB0 : Aside (Below w.heap.size w (w.alloc (boxC c (.slice a1 m1 k1) (.slice a2 m2 k2)))) := grew (Below.refl _ _) _
 obtain ⟨p, d, e, a, l, n, js, rs⟩ := c
 try simp only at *
 subst hd
 go_enter Tryz.func116, Tryz.ntmps116
 go_wp2
 go_ret
 exact ⟨rfl, HB0.out⟩
theorem cfits_any (c : Cl) (v1 v2 : Value) (w : World) (hs : ∃ a1 m1 k1 a2 m2 k2, v1 = .slice a1 m1 k1 ∧ v2 = .slice a2 m2 k2) (ho : c.out = false) :
  Calls Tryz.prog 116 #[c.val v1 v2] w fun e w' => e = .returned (.bool (!c.odd)) ∧ Below w.heap.size w w' := by
 obtain ⟨a1, m1, k1, a2, m2, k2, rfl, rfl⟩ := hs
 have hg := Cl.good ho
 have ha0 : 0 ≤ c.a := hg.2.2.1.1
 have hl0 : 0 ≤ c.l := hg.2.2.2.1.1
 have hd : c.d = 0 ∨ c.d = 1 ∨ c.d = 2 := by have := hg.2.1; omega
 rcases hd with hd | hd | hd
 ·have e1 : c.odd = (decide (0 < c.a) || (decide (0 < c.l) || c.e.ne En.zero)) := by rw [Cl.odd, if_pos hd]
  rw [e1]
  cases hn : c.e.ne En.zero with
  | true =>
   rw [Bool.or_true, Bool.or_true]
   exact cf_r0 c a1 a2 m1 k1 m2 k2 w hd hn
  | false =>
   by_cases ha : c.a = 0
   ·by_cases hl : c.l = 0
    ·rw [decide_eq_false (show ¬ 0 < c.a by omega), decide_eq_false (show ¬ 0 < c.l by omega)]
     exact cf_r3 c a1 a2 m1 k1 m2 k2 w hd hn (by rw [ha]; rfl) (by rw [hl]; rfl)
    ·rw [decide_eq_true (show 0 < c.l by omega), Bool.true_or, Bool.or_true]
     exact cf_r2 c a1 a2 m1 k1 m2 k2 w hd hn (by rw [ha]; rfl) (by rw [beq_eq_false_iff_ne]; exact hl)
   ·rw [decide_eq_true (show 0 < c.a by omega), Bool.true_or]
    exact cf_r1 c a1 a2 m1 k1 m2 k2 w hd hn (by rw [beq_eq_false_iff_ne]; exact ha)
 ·have e1 : c.odd = (decide (0 < c.a) || (decide (0 < c.l) || decide (c.e.k = 0))) := by rw [Cl.odd, if_neg (by omega), if_pos hd]
  rw [e1]
  by_cases hk : c.e.k = 0
  ·rw [decide_eq_true hk, Bool.or_true, Bool.or_true]
   exact cf_w0 c a1 a2 m1 k1 m2 k2 w hd (by rw [hk]; rfl)
  ·have hkb : (c.e.k == 0) = false := by rw [beq_eq_false_iff_ne]; exact hk
   by_cases ha : c.a = 0
   ·by_cases hl : c.l = 0
    ·rw [decide_eq_false (show ¬ 0 < c.a by omega), decide_eq_false (show ¬ 0 < c.l by omega), decide_eq_false hk]
     exact cf_w3 c a1 a2 m1 k1 m2 k2 w hd hkb (by rw [ha]; rfl) (by rw [hl]; rfl)
    ·rw [decide_eq_true (show 0 < c.l by omega), Bool.true_or, Bool.or_true]
     exact cf_w2 c a1 a2 m1 k1 m2 k2 w hd hkb (by rw [ha]; rfl) (by rw [beq_eq_false_iff_ne]; exact hl)
   ·rw [decide_eq_true (show 0 < c.a by omega), Bool.true_or]
    exact cf_w1 c a1 a2 m1 k1 m2 k2 w hd hkb (by rw [beq_eq_false_iff_ne]; exact ha)
 ·rw [show c.odd = false by rw [Cl.odd, if_neg (by omega), if_neg (by omega)]]
  exact cf_x c a1 a2 m1 k1 m2 k2 w hd
set_option maxHeartbeats 4000000 in
set_option maxRecDepth 100000 in
theorem ck_out (c : Cl) (a1 a2 : Option Addr) (m1 k1 m2 k2 : Nat) (w : World) (ho : c.out = true) :
  Calls Tryz.prog 82 #[c.val (.slice a1 m1 k1) (.slice a2 m2 k2)] w fun e w' => e = .returned (.int .i64 3) ∧ Below w.heap.size w w' := by
 have HX0 : Aside ((w.alloc (boxC c (.slice a1 m1 k1) (.slice a2 m2 k2))).heap[w.heap.size]? = some (boxC c (.slice a1 m1 k1) (.slice a2 m2 k2))) := heap_new _ _
 have HB0 : Aside (Below w.heap.size w (w.alloc (boxC c (.slice a1 m1 k1) (.slice a2 m2 k2)))) := grew (Below.refl _ _) _
 have kr := fun W => crange_any c (.slice a1 m1 k1) (.slice a2 m2 k2) W ⟨a1, m1, k1, a2, m2, k2, rfl, rfl⟩
 rw [ho] at kr
 clear ho
 obtain ⟨p, d, e, a, l, n, js, rs⟩ := c
 try simp only at *
 go_enter Tryz.func82, Tryz.ntmps82
 go_wp2_with fail
 refine (kr _).mono ?_
 rintro r w1 ⟨rfl, hb1⟩
 have HX1 := hv HX0 hb1
 have HB1 := sb HB0 hb1
 clear hb1 kr HX0 HB0
 have z := cb HX1
 go_wp2
 go_ret
 exact ⟨rfl, HB1.out⟩
set_option maxHeartbeats 4000000 in
set_option maxRecDepth 100000 in
theorem ck_ent (c : Cl) (a1 a2 : Option Addr) (m1 k1 m2 k2 : Nat) (w : World) (ho : c.out = false) (q : Int) (he : c.e.chk = q) (hz : (q != 0) = true) :
  Calls Tryz.prog 82 #[c.val (.slice a1 m1 k1) (.slice a2 m2 k2)] w fun e w' => e = .returned (.int .i64 q) ∧ Below w.heap.size w w' := by
 have HX0 : Aside ((w.alloc (boxC c (.slice a1 m1 k1) (.slice a2 m2 k2))).heap[w.heap.size]? = some (boxC c (.slice a1 m1 k1) (.slice a2 m2 k2))) := heap_new _ _
 have HB0 : Aside (Below w.heap.size w (w.alloc (boxC c (.slice a1 m1 k1) (.slice a2 m2 k2)))) := grew (Below.refl _ _) _
 have kr := fun W => crange_any c (.slice a1 m1 k1) (.slice a2 m2 k2) W ⟨a1, m1, k1, a2, m2, k2, rfl, rfl⟩
 rw [ho] at kr
 have hce : ∀ W, Calls Tryz.prog 115 #[ev c.e.k c.e.j c.e.v c.e.t c.e.c] W fun e w' => e = .returned (.int .i64 c.e.chk) ∧ Below W.heap.size W w' := fun W => check_any c.e.k c.e.j c.e.v c.e.t c.e.c W
 rw [he] at hce
 clear he
 clear ho
 obtain ⟨p, d, e, a, l, n, js, rs⟩ := c
 try simp only at *
 go_enter Tryz.func82, Tryz.ntmps82
 go_wp2_with fail
 refine (kr _).mono ?_
 rintro r w1 ⟨rfl, hb1⟩
 have HX1 := hv HX0 hb1
 have HB1 := sb HB0 hb1
 clear hb1 kr HX0 HB0
 have z := cb HX1
 go_wp2_with fail
 refine (hce _).mono ?_
 rintro r w2 ⟨rfl, hb2⟩
 have HX2 := hv HX1 hb2
 have HB2 := sb HB1 hb2
 clear hb2 hce HX1 HB1 z
 have z := cb HX2
 go_wp2
 go_ret
 exact ⟨rfl, HB2.out⟩
set_option maxHeartbeats 4000000 in
set_option maxRecDepth 100000 in
theorem ck_odd (c : Cl) (a1 a2 : Option Addr) (m1 k1 m2 k2 : Nat) (w : World) (ho : c.out = false) (he : c.e.chk = 0) (hf : c.odd = true) :
  Calls Tryz.prog 82 #[c.val (.slice a1 m1 k1) (.slice a2 m2 k2)] w fun e w' => e = .returned (.int .i64 4) ∧ Below w.heap.size w w' := by
 have HX0 : Aside ((w.alloc (boxC c (.slice a1 m1 k1) (.slice a2 m2 k2))).heap[w.heap.size]? = some (boxC c (.slice a1 m1 k1) (.slice a2 m2 k2))) := heap_new _ _
 have HB0 : Aside (Below w.heap.size w (w.alloc (boxC c (.slice a1 m1 k1) (.slice a2 m2 k2)))) := grew (Below.refl _ _) _
 have kr := fun W => crange_any c (.slice a1 m1 k1) (.slice a2 m2 k2) W ⟨a1, m1, k1, a2, m2, k2, rfl, rfl⟩
 rw [ho] at kr
 have hce : ∀ W, Calls Tryz.prog 115 #[ev c.e.k c.e.j c.e.v c.e.t c.e.c] W fun e w' => e = .returned (.int .i64 c.e.chk) ∧ Below W.heap.size W w' := fun W => check_any c.e.k c.e.j c.e.v c.e.t c.e.c W
 rw [he] at hce
 clear he
 have kf := fun W => cfits_any c (.slice a1 m1 k1) (.slice a2 m2 k2) W ⟨a1, m1, k1, a2, m2, k2, rfl, rfl⟩ ho
 rw [hf] at kf
 clear hf
 clear ho
 obtain ⟨p, d, e, a, l, n, js, rs⟩ := c
 try simp only at *
 go_enter Tryz.func82, Tryz.ntmps82
 go_wp2_with fail
 refine (kr _).mono ?_
 rintro r w1 ⟨rfl, hb1⟩
 have HX1 := hv HX0 hb1
 have HB1 := sb HB0 hb1
 clear hb1 kr HX0 HB0
 have z := cb HX1
 go_wp2_with fail
 refine (hce _).mono ?_
 rintro r w2 ⟨rfl, hb2⟩
 have HX2 := hv HX1 hb2
 have HB2 := sb HB1 hb2
 clear hb2 hce HX1 HB1 z
 have z := cb HX2
 go_wp2_with fail
 refine (kf _).mono ?_
 rintro r w3 ⟨rfl, hb3⟩
 have HX3 := hv HX2 hb3
 have HB3 := sb HB2 hb3
 clear hb3 kf HX2 HB2 z
 have z := cb HX3
 go_wp2
 go_ret
 exact ⟨rfl, HB3.out⟩
set_option maxHeartbeats 4000000 in
set_option maxRecDepth 100000 in
theorem ck_bk (c : Cl) (a1 a2 : Option Addr) (m1 k1 m2 k2 : Nat) (w : World) (ho : c.out = false) (he : c.e.chk = 0) (hf : c.odd = false) (hb : BkAt w (.slice a1 m1 k1) (.slice a2 m2 k2) c) :
  Calls Tryz.prog 82 #[c.val (.slice a1 m1 k1) (.slice a2 m2 k2)] w fun e w' => e = .returned (.int .i64 (ckBook c.js c.rs)) ∧ Below w.heap.size w w' := by
 have HX0 : Aside ((w.alloc (boxC c (.slice a1 m1 k1) (.slice a2 m2 k2))).heap[w.heap.size]? = some (boxC c (.slice a1 m1 k1) (.slice a2 m2 k2))) := heap_new _ _
 have HB0 : Aside (Below w.heap.size w (w.alloc (boxC c (.slice a1 m1 k1) (.slice a2 m2 k2)))) := grew (Below.refl _ _) _
 have kr := fun W => crange_any c (.slice a1 m1 k1) (.slice a2 m2 k2) W ⟨a1, m1, k1, a2, m2, k2, rfl, rfl⟩
 rw [ho] at kr
 have hce : ∀ W, Calls Tryz.prog 115 #[ev c.e.k c.e.j c.e.v c.e.t c.e.c] W fun e w' => e = .returned (.int .i64 c.e.chk) ∧ Below W.heap.size W w' := fun W => check_any c.e.k c.e.j c.e.v c.e.t c.e.c W
 rw [he] at hce
 clear he
 have kf := fun W => cfits_any c (.slice a1 m1 k1) (.slice a2 m2 k2) W ⟨a1, m1, k1, a2, m2, k2, rfl, rfl⟩ ho
 rw [hf] at kf
 clear hf
 have HK : Aside (BkAt w (.slice a1 m1 k1) (.slice a2 m2 k2) c) := hb
 clear ho hb
 obtain ⟨p, d, e, a, l, n, js, rs⟩ := c
 try simp only at *
 go_enter Tryz.func82, Tryz.ntmps82
 go_wp2_with fail
 refine (kr _).mono ?_
 rintro r w1 ⟨rfl, hb1⟩
 have HX1 := hv HX0 hb1
 have HB1 := sb HB0 hb1
 clear hb1 kr HX0 HB0
 have z := cb HX1
 go_wp2_with fail
 refine (hce _).mono ?_
 rintro r w2 ⟨rfl, hb2⟩
 have HX2 := hv HX1 hb2
 have HB2 := sb HB1 hb2
 clear hb2 hce HX1 HB1 z
 have z := cb HX2
 go_wp2_with fail
 refine (kf _).mono ?_
 rintro r w3 ⟨rfl, hb3⟩
 have HX3 := hv HX2 hb3
 have HB3 := sb HB2 hb3
 clear hb3 kf HX2 HB2 z
 have z := cb HX3
 have kb := bk_check (.slice a1 m1 k1) (.slice a2 m2 k2) js rs w3 (HK.out.1.later HB3.out) (HK.out.2.later HB3.out)
 clear HK
 go_wp2_with fail
 refine kb.mono ?_
 rintro r w9 ⟨rfl, hb9⟩
 have HB9 := sb HB3 hb9
 clear hb9 kb z
 go_wp2
 go_ret
 exact ⟨rfl, HB9.out⟩
theorem cl_check (c : Cl) (v1 v2 : Value) (w : World) (hb : BkAt w v1 v2 c) :
  Calls Tryz.prog 82 #[c.val v1 v2] w fun e w' => e = .returned (.int .i64 c.ck) ∧ Below w.heap.size w w' := by
 obtain ⟨a1, k1, a2, k2, rfl, rfl⟩ := bk_slices hb.1 hb.2
 unfold Cl.ck
 cases ho : c.out with
 | true => exact ck_out c a1 a2 _ k1 _ k2 w ho
 | false =>
  rw [if_neg (by simp)]
  by_cases he : c.e.chk = 0
  ·rw [if_neg (by simpa using he)]
   cases hf : c.odd with
   | true => exact ck_odd c a1 a2 _ k1 _ k2 w ho he hf
   | false =>
    rw [if_neg (by simp)]
    exact ck_bk c a1 a2 _ k1 _ k2 w ho he hf hb
  ·rw [if_pos he]
   exact ck_ent c a1 a2 _ k1 _ k2 w ho _ rfl (by rw [bne_iff_ne]; exact he)
def restErr (c : Cl) : Int := if c.ck ≠ 0 then c.ck else if c.d ≠ 0 then 7 else 0
set_option maxHeartbeats 4000000 in
set_option maxRecDepth 100000 in
theorem cs_ck (c : Cl) (a1 a2 : Option Addr) (m1 k1 m2 k2 : Nat) (w : World) (hb : BkAt w (.slice a1 m1 k1) (.slice a2 m2 k2) c) (q : Int) (hck : c.ck = q) (hz : (q != 0) = true) :
  Calls Tryz.prog 173 #[c.val (.slice a1 m1 k1) (.slice a2 m2 k2)] w fun e w' => e = .returned (.int .i64 q) ∧ Below w.heap.size w w' := by
 have HX0 : Aside ((w.alloc (boxC c (.slice a1 m1 k1) (.slice a2 m2 k2))).heap[w.heap.size]? = some (boxC c (.slice a1 m1 k1) (.slice a2 m2 k2))) := heap_new _ _
 have HB0 : Aside (Below w.heap.size w (w.alloc (boxC c (.slice a1 m1 k1) (.slice a2 m2 k2)))) := grew (Below.refl _ _) _
 have kc := fun W hB => cl_check c (.slice a1 m1 k1) (.slice a2 m2 k2) W (bkAt_later hb hB)
 rw [hck] at kc
 have kc' := kc _ HB0.out
 clear hb hck kc
 obtain ⟨p, d, e, a, l, n, js, rs⟩ := c
 try simp only at *
 go_enter Tryz.func173, Tryz.ntmps173
 go_wp2_with fail
 refine kc'.mono ?_
 rintro r w1 ⟨rfl, hb1⟩
 have HX1 := hv HX0 hb1
 have HB1 := sb HB0 hb1
 clear hb1 kc' HX0 HB0
 go_wp2
 go_ret
 exact ⟨rfl, HB1.out⟩
set_option maxHeartbeats 4000000 in
set_option maxRecDepth 100000 in
theorem cs_late (c : Cl) (a1 a2 : Option Addr) (m1 k1 m2 k2 : Nat) (w : World) (hb : BkAt w (.slice a1 m1 k1) (.slice a2 m2 k2) c) (hck : c.ck = 0) (hd : (c.d != 0) = true) :
  Calls Tryz.prog 173 #[c.val (.slice a1 m1 k1) (.slice a2 m2 k2)] w fun e w' => e = .returned (.int .i64 7) ∧ Below w.heap.size w w' := by
 have HX0 : Aside ((w.alloc (boxC c (.slice a1 m1 k1) (.slice a2 m2 k2))).heap[w.heap.size]? = some (boxC c (.slice a1 m1 k1) (.slice a2 m2 k2))) := heap_new _ _
 have HB0 : Aside (Below w.heap.size w (w.alloc (boxC c (.slice a1 m1 k1) (.slice a2 m2 k2)))) := grew (Below.refl _ _) _
 have kc := fun W hB => cl_check c (.slice a1 m1 k1) (.slice a2 m2 k2) W (bkAt_later hb hB)
 rw [hck] at kc
 have kc' := kc _ HB0.out
 clear hb hck kc
 obtain ⟨p, d, e, a, l, n, js, rs⟩ := c
 try simp only at *
 go_enter Tryz.func173, Tryz.ntmps173
 go_wp2_with fail
 refine kc'.mono ?_
 rintro r w1 ⟨rfl, hb1⟩
 have HX1 := hv HX0 hb1
 have HB1 := sb HB0 hb1
 clear hb1 kc' HX0 HB0
 have z := cb HX1
 go_wp2
 go_ret
 exact ⟨rfl, HB1.out⟩
set_option maxHeartbeats 4000000 in
set_option maxRecDepth 100000 in
theorem cs_ok (c : Cl) (a1 a2 : Option Addr) (m1 k1 m2 k2 : Nat) (w : World) (hb : BkAt w (.slice a1 m1 k1) (.slice a2 m2 k2) c) (hck : c.ck = 0) (hd : (c.d != 0) = false) :
  Calls Tryz.prog 173 #[c.val (.slice a1 m1 k1) (.slice a2 m2 k2)] w fun e w' => e = .returned (.int .i64 0) ∧ Below w.heap.size w w' := by
 have HX0 : Aside ((w.alloc (boxC c (.slice a1 m1 k1) (.slice a2 m2 k2))).heap[w.heap.size]? = some (boxC c (.slice a1 m1 k1) (.slice a2 m2 k2))) := heap_new _ _
 have HB0 : Aside (Below w.heap.size w (w.alloc (boxC c (.slice a1 m1 k1) (.slice a2 m2 k2)))) := grew (Below.refl _ _) _
 have kc := fun W hB => cl_check c (.slice a1 m1 k1) (.slice a2 m2 k2) W (bkAt_later hb hB)
 rw [hck] at kc
 have kc' := kc _ HB0.out
 clear hb hck kc
 obtain ⟨p, d, e, a, l, n, js, rs⟩ := c
 try simp only at *
 go_enter Tryz.func173, Tryz.ntmps173
 go_wp2_with fail
 refine kc'.mono ?_
 rintro r w1 ⟨rfl, hb1⟩
 have HX1 := hv HX0 hb1
 have HB1 := sb HB0 hb1
 clear hb1 kc' HX0 HB0
 have z := cb HX1
 go_wp2
 go_ret
 exact ⟨rfl, HB1.out⟩
theorem cl_rest (c : Cl) (v1 v2 : Value) (w : World) (hb : BkAt w v1 v2 c) :
  Calls Tryz.prog 173 #[c.val v1 v2] w fun e w' => e = .returned (.int .i64 (restErr c)) ∧ Below w.heap.size w w' := by
 obtain ⟨a1, k1, a2, k2, rfl, rfl⟩ := bk_slices hb.1 hb.2
 unfold restErr
 by_cases hc : c.ck = 0
 ·rw [if_neg (by simpa using hc)]
  by_cases hd : c.d = 0
  ·rw [if_neg (by simpa using hd)]
   exact cs_ok c a1 a2 _ k1 _ k2 w hb hc (by rw [hd]; rfl)
  ·rw [if_pos hd]
   exact cs_late c a1 a2 _ k1 _ k2 w hb hc (by rw [bne_iff_ne]; exact hd)
 ·rw [if_pos hc]
  exact cs_ck c a1 a2 _ k1 _ k2 w hb _ rfl (by rw [bne_iff_ne]; exact hc)
set_option maxHeartbeats 4000000 in
set_option maxRecDepth 100000 in
theorem ss_0 (c x : Cl) (a1 a2 b1 b2 : Option Addr) (m1 k1 m2 k2 n1 o1 n2 o2 : Nat) (w : World)  (h0 : (c.p == x.p) = false) :
  Calls Tryz.prog 12 #[c.val (.slice a1 m1 k1) (.slice a2 m2 k2), x.val (.slice b1 n1 o1) (.slice b2 n2 o2)] w fun e w' => e = .returned (.bool (false)) ∧ Below w.heap.size w w' := by
 have HB0 : Aside (Below w.heap.size w ((w.alloc (boxC c (.slice a1 m1 k1) (.slice a2 m2 k2))).alloc (boxC x (.slice b1 n1 o1) (.slice b2 n2 o2)))) := grew (grew (Below.refl _ _) _) _
 obtain ⟨p, d, e, a, l, n, js, rs⟩ := c
 obtain ⟨p', d', e', a', l', n', js', rs'⟩ := x
 simp only at *
 go_enter Tryz.func12, Tryz.ntmps12
 go_wp2
 go_ret
 exact ⟨rfl, HB0.out⟩
set_option maxHeartbeats 4000000 in
set_option maxRecDepth 100000 in
theorem ss_1 (c x : Cl) (a1 a2 b1 b2 : Option Addr) (m1 k1 m2 k2 n1 o1 n2 o2 : Nat) (w : World) (h0 : (c.p == x.p) = true) (h1 : (c.d == x.d) = false) :
  Calls Tryz.prog 12 #[c.val (.slice a1 m1 k1) (.slice a2 m2 k2), x.val (.slice b1 n1 o1) (.slice b2 n2 o2)] w fun e w' => e = .returned (.bool (false)) ∧ Below w.heap.size w w' := by
 have HB0 : Aside (Below w.heap.size w ((w.alloc (boxC c (.slice a1 m1 k1) (.slice a2 m2 k2))).alloc (boxC x (.slice b1 n1 o1) (.slice b2 n2 o2)))) := grew (grew (Below.refl _ _) _) _
 obtain ⟨p, d, e, a, l, n, js, rs⟩ := c
 obtain ⟨p', d', e', a', l', n', js', rs'⟩ := x
 simp only at *
 go_enter Tryz.func12, Tryz.ntmps12
 go_wp2
 go_ret
 exact ⟨rfl, HB0.out⟩
set_option maxHeartbeats 4000000 in
set_option maxRecDepth 100000 in
theorem ss_2 (c x : Cl) (a1 a2 b1 b2 : Option Addr) (m1 k1 m2 k2 n1 o1 n2 o2 : Nat) (w : World) (h0 : (c.p == x.p) = true) (h1 : (c.d == x.d) = true) (h2 : unlike c.e.k c.e.j c.e.v c.e.t c.e.c x.e.k x.e.j x.e.v x.e.t x.e.c = true) :
  Calls Tryz.prog 12 #[c.val (.slice a1 m1 k1) (.slice a2 m2 k2), x.val (.slice b1 n1 o1) (.slice b2 n2 o2)] w fun e w' => e = .returned (.bool (false)) ∧ Below w.heap.size w w' := by
 have HB0 : Aside (Below w.heap.size w ((w.alloc (boxC c (.slice a1 m1 k1) (.slice a2 m2 k2))).alloc (boxC x (.slice b1 n1 o1) (.slice b2 n2 o2)))) := grew (grew (Below.refl _ _) _) _
 obtain ⟨p, d, e, a, l, n, js, rs⟩ := c
 obtain ⟨p', d', e', a', l', n', js', rs'⟩ := x
 simp only at *
 have hq := fun W => eql_entry e.k e.j e.v e.t e.c e'.k e'.j e'.v e'.t e'.c W
 rw [h2, Bool.not_true] at hq
 clear h2
 go_enter Tryz.func12, Tryz.ntmps12
 go_wp2
 go_ret
 exact ⟨rfl, HB0.out⟩
set_option maxHeartbeats 4000000 in
set_option maxRecDepth 100000 in
theorem ss_3 (c x : Cl) (a1 a2 b1 b2 : Option Addr) (m1 k1 m2 k2 n1 o1 n2 o2 : Nat) (w : World) (h0 : (c.p == x.p) = true) (h1 : (c.d == x.d) = true) (h2 : unlike c.e.k c.e.j c.e.v c.e.t c.e.c x.e.k x.e.j x.e.v x.e.t x.e.c = false) (h3 : (c.a == x.a) = false) :
  Calls Tryz.prog 12 #[c.val (.slice a1 m1 k1) (.slice a2 m2 k2), x.val (.slice b1 n1 o1) (.slice b2 n2 o2)] w fun e w' => e = .returned (.bool (false)) ∧ Below w.heap.size w w' := by
 have HB0 : Aside (Below w.heap.size w ((w.alloc (boxC c (.slice a1 m1 k1) (.slice a2 m2 k2))).alloc (boxC x (.slice b1 n1 o1) (.slice b2 n2 o2)))) := grew (grew (Below.refl _ _) _) _
 obtain ⟨p, d, e, a, l, n, js, rs⟩ := c
 obtain ⟨p', d', e', a', l', n', js', rs'⟩ := x
 simp only at *
 have hq := fun W => eql_entry e.k e.j e.v e.t e.c e'.k e'.j e'.v e'.t e'.c W
 rw [h2, Bool.not_false] at hq
 clear h2
 go_enter Tryz.func12, Tryz.ntmps12
 go_wp2
 go_ret
 exact ⟨rfl, HB0.out⟩
set_option maxHeartbeats 4000000 in
set_option maxRecDepth 100000 in
theorem ss_4 (c x : Cl) (a1 a2 b1 b2 : Option Addr) (m1 k1 m2 k2 n1 o1 n2 o2 : Nat) (w : World) (h0 : (c.p == x.p) = true) (h1 : (c.d == x.d) = true) (h2 : unlike c.e.k c.e.j c.e.v c.e.t c.e.c x.e.k x.e.j x.e.v x.e.t x.e.c = false) (h3 : (c.a == x.a) = true) (h4 : (c.l == x.l) = false) :
  Calls Tryz.prog 12 #[c.val (.slice a1 m1 k1) (.slice a2 m2 k2), x.val (.slice b1 n1 o1) (.slice b2 n2 o2)] w fun e w' => e = .returned (.bool (false)) ∧ Below w.heap.size w w' := by
 have HB0 : Aside (Below w.heap.size w ((w.alloc (boxC c (.slice a1 m1 k1) (.slice a2 m2 k2))).alloc (boxC x (.slice b1 n1 o1) (.slice b2 n2 o2)))) := grew (grew (Below.refl _ _) _) _
 obtain ⟨p, d, e, a, l, n, js, rs⟩ := c
 obtain ⟨p', d', e', a', l', n', js', rs'⟩ := x
 simp only at *
 have hq := fun W => eql_entry e.k e.j e.v e.t e.c e'.k e'.j e'.v e'.t e'.c W
 rw [h2, Bool.not_false] at hq
 clear h2
 go_enter Tryz.func12, Tryz.ntmps12
 go_wp2
 go_ret
 exact ⟨rfl, HB0.out⟩
set_option maxHeartbeats 4000000 in
set_option maxRecDepth 100000 in
theorem ss_5 (c x : Cl) (a1 a2 b1 b2 : Option Addr) (m1 k1 m2 k2 n1 o1 n2 o2 : Nat) (w : World) (h0 : (c.p == x.p) = true) (h1 : (c.d == x.d) = true) (h2 : unlike c.e.k c.e.j c.e.v c.e.t c.e.c x.e.k x.e.j x.e.v x.e.t x.e.c = false) (h3 : (c.a == x.a) = true) (h4 : (c.l == x.l) = true) (h5 : (c.n == x.n) = false) :
  Calls Tryz.prog 12 #[c.val (.slice a1 m1 k1) (.slice a2 m2 k2), x.val (.slice b1 n1 o1) (.slice b2 n2 o2)] w fun e w' => e = .returned (.bool (false)) ∧ Below w.heap.size w w' := by
 have HB0 : Aside (Below w.heap.size w ((w.alloc (boxC c (.slice a1 m1 k1) (.slice a2 m2 k2))).alloc (boxC x (.slice b1 n1 o1) (.slice b2 n2 o2)))) := grew (grew (Below.refl _ _) _) _
 obtain ⟨p, d, e, a, l, n, js, rs⟩ := c
 obtain ⟨p', d', e', a', l', n', js', rs'⟩ := x
 simp only at *
 have hq := fun W => eql_entry e.k e.j e.v e.t e.c e'.k e'.j e'.v e'.t e'.c W
 rw [h2, Bool.not_false] at hq
 clear h2
 go_enter Tryz.func12, Tryz.ntmps12
 go_wp2
 go_ret
 exact ⟨rfl, HB0.out⟩
set_option maxHeartbeats 4000000 in
set_option maxRecDepth 100000 in
theorem ss_bk (c x : Cl) (a1 a2 b1 b2 : Option Addr) (m1 k1 m2 k2 n1 o1 n2 o2 : Nat) (w : World) (h0 : (c.p == x.p) = true) (h1 : (c.d == x.d) = true) (h2 : unlike c.e.k c.e.j c.e.v c.e.t c.e.c x.e.k x.e.j x.e.v x.e.t x.e.c = false) (h3 : (c.a == x.a) = true) (h4 : (c.l == x.l) = true) (h5 : (c.n == x.n) = true) (hc : BkAt w (.slice a1 m1 k1) (.slice a2 m2 k2) c) (hx : BkAt w (.slice b1 n1 o1) (.slice b2 n2 o2) x) (hn1 : c.js.length ≤ most) (hn2 : c.rs.length ≤ most) :
  Calls Tryz.prog 12 #[c.val (.slice a1 m1 k1) (.slice a2 m2 k2), x.val (.slice b1 n1 o1) (.slice b2 n2 o2)] w fun e w' => e = .returned (.bool (decide (c.js = x.js) && decide (c.rs = x.rs))) ∧ Below w.heap.size w w' := by
 have HB0 : Aside (Below w.heap.size w ((w.alloc (boxC c (.slice a1 m1 k1) (.slice a2 m2 k2))).alloc (boxC x (.slice b1 n1 o1) (.slice b2 n2 o2)))) := grew (grew (Below.refl _ _) _) _
 have ks := bk_same (.slice a1 m1 k1) (.slice a2 m2 k2) (.slice b1 n1 o1) (.slice b2 n2 o2) c.js x.js c.rs x.rs _ (hc.1.later HB0.out) (hc.2.later HB0.out) (hx.1.later HB0.out) (hx.2.later HB0.out) hn1 hn2
 clear hc hx hn1 hn2
 obtain ⟨p, d, e, a, l, n, js, rs⟩ := c
 obtain ⟨p', d', e', a', l', n', js', rs'⟩ := x
 simp only at *
 have hq := fun W => eql_entry e.k e.j e.v e.t e.c e'.k e'.j e'.v e'.t e'.c W
 rw [h2, Bool.not_false] at hq
 clear h2
 go_enter Tryz.func12, Tryz.ntmps12
 go_wp2_with fail
 refine ks.mono ?_
 rintro r w1 ⟨rfl, hb1⟩
 have HB1 := sb HB0 hb1
 clear hb1 ks HB0
 go_wp2
 go_ret
 exact ⟨rfl, HB1.out⟩
theorem cl_same (c x : Cl) (v1 v2 u1 u2 : Value) (w : World) (hc : BkAt w v1 v2 c) (hx : BkAt w u1 u2 x) (hn1 : c.js.length ≤ most) (hn2 : c.rs.length ≤ most) :
  Calls Tryz.prog 12 #[c.val v1 v2, x.val u1 u2] w fun e w' => e = .returned (.bool (sameC c x)) ∧ Below w.heap.size w w' := by
 obtain ⟨a1, k1, a2, k2, rfl, rfl⟩ := bk_slices hc.1 hc.2
 obtain ⟨b1, o1, b2, o2, rfl, rfl⟩ := bk_slices hx.1 hx.2
 unfold sameC
 cases h0 : (c.p == x.p) with
 | false => exact ss_0 c x a1 a2 b1 b2 _ k1 _ k2 _ o1 _ o2 w h0
 | true =>
  cases h1 : (c.d == x.d) with
  | false => exact ss_1 c x a1 a2 b1 b2 _ k1 _ k2 _ o1 _ o2 w h0 h1
  | true =>
   cases h2 : (c.e.ne x.e) with
   | true => exact ss_2 c x a1 a2 b1 b2 _ k1 _ k2 _ o1 _ o2 w h0 h1 h2
   | false =>
    cases h3 : (c.a == x.a) with
    | false => exact ss_3 c x a1 a2 b1 b2 _ k1 _ k2 _ o1 _ o2 w h0 h1 h2 h3
    | true =>
     cases h4 : (c.l == x.l) with
     | false => exact ss_4 c x a1 a2 b1 b2 _ k1 _ k2 _ o1 _ o2 w h0 h1 h2 h3 h4
     | true =>
      cases h5 : (c.n == x.n) with
      | false => exact ss_5 c x a1 a2 b1 b2 _ k1 _ k2 _ o1 _ o2 w h0 h1 h2 h3 h4 h5
      | true =>
       exact ss_bk c x a1 a2 b1 b2 _ k1 _ k2 _ o1 _ o2 w h0 h1 h2 h3 h4 h5 hc hx hn1 hn2
end
end Go.Proofs.YtmoaobfmopimlafGreatDoor
