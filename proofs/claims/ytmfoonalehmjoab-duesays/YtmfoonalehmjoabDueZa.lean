/- Package due: the order of jobs (inTurn), how often one is to be rung (times). -/
import Derived.Test.YtmfoonalehmjoabDueL
namespace Go.Proofs.Ytmfoonalehmjoab
open Go.RowKit Go.Shelf

set_option maxHeartbeats 1000000 in
theorem isNaN_any (x : Int) (w : World) : Calls Try.prog 78 #[.int .i64 x] w fun e w' => e = .returned (.bool false) ∧ w' = w := by
  go_enter Try.func78, Try.ntmps78
  go_wp2
  go_ret
  exact ⟨by simp, rfl⟩

/-- Which of two numbers is the less. -/
def cmp3 (x y : Int) : Int := if x < y then -1 else if y < x then 1 else 0

set_option maxHeartbeats 1000000 in
theorem compare_any (x y : Int) (w : World) : Calls Try.prog 63 #[.int .i64 x, .int .i64 y] w fun e w' => e = .returned (.int .i64 (cmp3 x y)) ∧ w' = w := by
  have h1 := isNaN_any x w
  have h2 := isNaN_any y w
  obtain ⟨r, hr⟩ : ∃ r, Hid (cmp3 x y = r) := ⟨_, rfl⟩
  rw [hr.out]
  by_cases hlt : x < y
  · have HR : Hid (r = -1) := by rw [Hid, ← hr.out, cmp3, if_pos hlt]
    go_enter Try.func63, Try.ntmps63
    go_wp2_with fail
    refine h1.mono ?_
    rintro e w1 ⟨rfl, rfl⟩
    go_wp2_with fail
    refine h2.mono ?_
    rintro e w2 ⟨rfl, rfl⟩
    go_wp2
    go_ret
    exact ⟨by rw [HR.out]; rfl, rfl⟩
  · by_cases hgt : y < x
    · have HR : Hid (r = 1) := by rw [Hid, ← hr.out, cmp3, if_neg hlt, if_pos hgt]
      go_enter Try.func63, Try.ntmps63
      go_wp2_with fail
      refine h1.mono ?_
      rintro e w1 ⟨rfl, rfl⟩
      go_wp2_with fail
      refine h2.mono ?_
      rintro e w2 ⟨rfl, rfl⟩
      go_wp2
      go_ret
      exact ⟨by rw [HR.out]; rfl, rfl⟩
    · have HR : Hid (r = 0) := by rw [Hid, ← hr.out, cmp3, if_neg hlt, if_neg hgt]
      go_enter Try.func63, Try.ntmps63
      go_wp2_with fail
      refine h1.mono ?_
      rintro e w1 ⟨rfl, rfl⟩
      go_wp2_with fail
      refine h2.mono ?_
      rintro e w2 ⟨rfl, rfl⟩
      go_wp2
      go_ret
      exact ⟨by rw [HR.out]; rfl, rfl⟩

set_option maxHeartbeats 1000000 in
/-- cmp.Or at two numbers. -/
theorem or_any (x y : Int) (b c : Nat) (w : World) (c0 : w.cell? ⟨b, 0, none⟩ = some (.int .i64 x)) (c1 : w.cell? ⟨b, 1, none⟩ = some (.int .i64 y)) :
    Calls Try.prog 62 #[.slice (some ⟨b, 0, none⟩) 2 c] w fun e w' => e = .returned (.int .i64 (if x = 0 then y else x)) ∧ w' = w := by
  obtain ⟨r, hr⟩ : ∃ r, Hid ((if x = 0 then y else x) = r) := ⟨_, rfl⟩
  rw [hr.out]
  by_cases hx : x = 0
  · have HR : Hid (r = y) := by rw [Hid, ← hr.out, if_pos hx]
    subst hx
    by_cases hy : y = 0
    · subst hy
      go_enter Try.func62, Try.ntmps62
      go_wp2_with fail
      refine wp_loop_rounds 3 ?_
      rw [rounds_succ]
      go_wp2
      rw [rounds_succ]
      go_wp2
      rw [rounds_succ]
      go_wp2
      go_ret
      exact ⟨by rw [HR.out]; rfl, rfl⟩
    · have hyb : (y == 0) = false := by rw [beq_eq_false_iff_ne]; exact hy
      go_enter Try.func62, Try.ntmps62
      go_wp2_with fail
      refine wp_loop_rounds 3 ?_
      rw [rounds_succ]
      go_wp2
      rw [rounds_succ]
      go_wp2
      go_ret
      exact ⟨by rw [HR.out]; rfl, rfl⟩
  · have HR : Hid (r = x) := by rw [Hid, ← hr.out, if_neg hx]
    have hxb : (x == 0) = false := by rw [beq_eq_false_iff_ne]; exact hx
    go_enter Try.func62, Try.ntmps62
    go_wp2_with fail
    refine wp_loop_rounds 3 ?_
    rw [rounds_succ]
    go_wp2
    go_ret
    exact ⟨by rw [HR.out]; rfl, rfl⟩

/-- The order of two jobs: by Next, then by ID. -/
def turn (x y : Jb) : Int := if cmp3 x.n y.n = 0 then cmp3 x.i y.i else cmp3 x.n y.n

theorem turn_neg (x y : Jb) : turn x y < 0 ↔ x.ahead y := by
  unfold turn cmp3 Jb.ahead
  repeat' split <;> omega

set_option maxHeartbeats 1000000 in
/-- How often a job is to be rung. -/
theorem times_any (x : Jb) (t : Int) (w : World) (he : 1 ≤ x.e ∧ x.e ≤ 100) (hn : 0 ≤ x.n ∧ x.n ≤ 100100) (ht : 0 ≤ t ∧ t ≤ 100000) :
    Calls Try.prog 48 #[x.val, .int .i64 t] w fun e w' => e = .returned (.int .i64 (cnt1 x t)) ∧ Below w.heap.size w w' := by
  obtain ⟨e1, e2⟩ := he
  obtain ⟨n1, n2⟩ := hn
  obtain ⟨t1, t2⟩ := ht
  obtain ⟨r, hr⟩ : ∃ r, Hid (cnt1 x t = r) := ⟨_, rfl⟩
  rw [hr.out]
  by_cases hgt : t < x.n
  · have HR : Hid (r = 0) := by rw [Hid, ← hr.out]; exact cnt1_none hgt
    go_enter Try.func48, Try.ntmps48
    go_wp2
    go_ret
    exact ⟨by rw [HR.out]; rfl, grew (Below.refl _ _) _⟩
  · have HR : Hid (r = (t - x.n) / x.e + 1) := by rw [Hid, ← hr.out, cnt1, if_neg hgt]
    have q1 : 0 ≤ (t - x.n) / x.e := Int.ediv_nonneg (by omega) (by omega)
    have q2 : (t - x.n) / x.e ≤ t - x.n := Int.ediv_le_self _ (by omega)
    go_enter Try.func48, Try.ntmps48
    go_wp2
    go_ret
    exact ⟨by rw [HR.out]; rfl, grew (Below.refl _ _) _⟩

end Go.Proofs.Ytmfoonalehmjoab
