/- The reference's CheckEntry at every entry; EntryText; whole. -/
import Derived.Test.YtaialgacaomaeadRefA
import Derived.Deep.RegionHeld3
namespace Go.Proofs.Ytaialgacaomaead
open Go.RowKit

set_option maxHeartbeats 1000000 in
theorem ref_kind (k j v t c : Int) (w : World) (hk : k < 0 ∨ 3 < k) :
    Calls Try.prog 36 #[ev k j v t c] w fun e w' => e = .returned (.int .i64 4) ∧ Below w.heap.size w w' := by
  have i1 := fun W => in_any k 0 3 W
  rw [decide_eq_false (by omega)] at i1
  clear hk
  go_enter Try.func36, Try.ntmps36
  go_wp2_with fail
  refine (i1 _).mono ?_
  rintro e w1 ⟨rfl, rfl⟩
  go_wp2
  go_ret
  exact ⟨rfl, grew (Below.refl _ _) _⟩

set_option maxHeartbeats 1000000 in
theorem ref_range (k j v t c : Int) (w : World) (h0 : 0 ≤ k) (h3 : k ≤ 3) (hr : inR j v t c = false) :
    Calls Try.prog 36 #[ev k j v t c] w fun e w' => e = .returned (.int .i64 3) ∧ Below w.heap.size w w' := by
  have hr' := of_decide_eq_false hr
  have i1 := fun W => in_any k 0 3 W
  have i2 := fun W => in_any j 0 5 W
  have i3 := fun W => in_any v 0 100 W
  have i4 := fun W => in_any t 0 100000 W
  have i5 := fun W => in_any c 0 2 W
  rw [decide_eq_true (by omega)] at i1
  have hc : ¬ (0 ≤ j ∧ j ≤ 5) ∨ ((0 ≤ j ∧ j ≤ 5) ∧ ¬ (0 ≤ v ∧ v ≤ 100)) ∨ ((0 ≤ j ∧ j ≤ 5) ∧ (0 ≤ v ∧ v ≤ 100) ∧ ¬ (0 ≤ t ∧ t ≤ 100000)) ∨ ((0 ≤ j ∧ j ≤ 5) ∧ (0 ≤ v ∧ v ≤ 100) ∧ (0 ≤ t ∧ t ≤ 100000) ∧ ¬ (0 ≤ c ∧ c ≤ 2)) := by omega
  clear hr hr'
  rcases hc with a | ⟨a, b⟩ | ⟨a, b, d⟩ | ⟨a, b, d, f⟩
  · rw [decide_eq_false a] at i2
    clear a
    go_enter Try.func36, Try.ntmps36
    go_wp2_with fail
    refine (i1 _).mono ?_
    rintro e w1 ⟨rfl, rfl⟩
    go_wp2_with fail
    refine (i2 _).mono ?_
    rintro e w1 ⟨rfl, rfl⟩
    go_wp2
    go_ret
    exact ⟨rfl, grew (Below.refl _ _) _⟩
  · rw [decide_eq_true a] at i2
    rw [decide_eq_false b] at i3
    clear a b
    go_enter Try.func36, Try.ntmps36
    go_wp2_with fail
    refine (i1 _).mono ?_
    rintro e w1 ⟨rfl, rfl⟩
    go_wp2_with fail
    refine (i2 _).mono ?_
    rintro e w1 ⟨rfl, rfl⟩
    go_wp2_with fail
    refine (i3 _).mono ?_
    rintro e w1 ⟨rfl, rfl⟩
    go_wp2
    go_ret
    exact ⟨rfl, grew (Below.refl _ _) _⟩
  · rw [decide_eq_true a] at i2
    rw [decide_eq_true b] at i3
    rw [decide_eq_false d] at i4
    clear a b d
    go_enter Try.func36, Try.ntmps36
    go_wp2_with fail
    refine (i1 _).mono ?_
    rintro e w1 ⟨rfl, rfl⟩
    go_wp2_with fail
    refine (i2 _).mono ?_
    rintro e w1 ⟨rfl, rfl⟩
    go_wp2_with fail
    refine (i3 _).mono ?_
    rintro e w1 ⟨rfl, rfl⟩
    go_wp2_with fail
    refine (i4 _).mono ?_
    rintro e w1 ⟨rfl, rfl⟩
    go_wp2
    go_ret
    exact ⟨rfl, grew (Below.refl _ _) _⟩
  · rw [decide_eq_true a] at i2
    rw [decide_eq_true b] at i3
    rw [decide_eq_true d] at i4
    rw [decide_eq_false f] at i5
    clear a b d f
    go_enter Try.func36, Try.ntmps36
    go_wp2_with fail
    refine (i1 _).mono ?_
    rintro e w1 ⟨rfl, rfl⟩
    go_wp2_with fail
    refine (i2 _).mono ?_
    rintro e w1 ⟨rfl, rfl⟩
    go_wp2_with fail
    refine (i3 _).mono ?_
    rintro e w1 ⟨rfl, rfl⟩
    go_wp2_with fail
    refine (i4 _).mono ?_
    rintro e w1 ⟨rfl, rfl⟩
    go_wp2_with fail
    refine (i5 _).mono ?_
    rintro e w1 ⟨rfl, rfl⟩
    go_wp2
    go_ret
    exact ⟨rfl, grew (Below.refl _ _) _⟩

/-- What a kind has a use for. -/
def useOf (k : Int) : ByteArray := if k = 0 then ⟨#[]⟩ else if k = 1 then ⟨#[106, 101, 116]⟩ else if k = 2 then ⟨#[106]⟩ else ⟨#[106, 116, 99]⟩

theorem useOf_at (k : Int) (h0 : 0 ≤ k) (h3 : k ≤ 3) : #[Value.string ⟨#[]⟩, .string ⟨#[106, 101, 116]⟩, .string ⟨#[106]⟩, .string ⟨#[106, 116, 99]⟩][k.toNat]? = some (.string (useOf k)) := by
  have : k = 0 ∨ k = 1 ∨ k = 2 ∨ k = 3 := by omega
  rcases this with rfl | rfl | rfl | rfl <;> rfl

theorem lost_bad (k j v t c : Int) (h0 : 0 ≤ k) (h3 : k ≤ 3) : lost k j v t c = (badB (useOf k) 106 j || badB (useOf k) 101 v || badB (useOf k) 116 t || badB (useOf k) 99 c) := by
  have hk : k = 0 ∨ k = 1 ∨ k = 2 ∨ k = 3 := by omega
  have e : ∀ x y : Int, (x == y) = decide (x = y) := fun x y => by by_cases h : x = y <;> simp [h]
  rcases hk with rfl | rfl | rfl | rfl
  · simp [lost, unlike, bJob, bEvery, bTime, bClient, badB, useOf, Lib.indexByte, e, bne, eq_comm, Bool.or_assoc]
  · simp [lost, unlike, bJob, bEvery, bTime, bClient, num0, num1, num2, badB, useOf, Lib.indexByte, e, bne, eq_comm]
  · simp [lost, unlike, bJob, bEvery, bTime, bClient, num0, badB, useOf, Lib.indexByte, e, bne, eq_comm, Bool.or_assoc]
  · simp [lost, unlike, bJob, bEvery, bTime, bClient, num0, num1, num2, badB, useOf, Lib.indexByte, e, bne, eq_comm]

/-- The reference's CheckEntry, at every entry: as Check. -/
theorem ref_check (k j v t c : Int) (w : World) :
    Calls Try.prog 36 #[ev k j v t c] w fun e w' => e = .returned (.int .i64 (chk k j v t c)) ∧ Below w.heap.size w w' := by
  unfold chk
  by_cases hk : k < 0 ∨ 3 < k
  · rw [if_pos hk]; exact ref_kind k j v t c w hk
  rw [if_neg hk]
  have h0 : 0 ≤ k := by omega
  have h3 : k ≤ 3 := by omega
  cases hr : inR j v t c with
  | false => rw [if_pos rfl]; exact ref_range k j v t c w h0 h3 hr
  | true =>
    rw [if_neg (by simp)]
    have hu := useOf_at k h0 h3
    rw [lost_bad k j v t c h0 h3]
    cases b0 : badB (useOf k) 106 j with
    | true => rw [if_pos (by simp)]; exact ref_bad0 k j v t c _ w h0 h3 hr hu b0
    | false =>
    cases b1 : badB (useOf k) 101 v with
    | true => rw [if_pos (by simp)]; exact ref_bad1 k j v t c _ w h0 h3 hr hu b0 b1
    | false =>
    cases b2 : badB (useOf k) 116 t with
    | true => rw [if_pos (by simp)]; exact ref_bad2 k j v t c _ w h0 h3 hr hu b0 b1 b2
    | false =>
    cases b3 : badB (useOf k) 99 c with
    | true => rw [if_pos (by simp)]; exact ref_bad3 k j v t c _ w h0 h3 hr hu b0 b1 b2 b3
    | false =>
      rw [if_neg (by simp)]
      by_cases h1 : k = 1
      · by_cases hv : v = 0
        · rw [if_pos ⟨h1, hv⟩]; exact ref_every k j v t c _ w h0 h3 (by simpa using h1) (by simpa using hv) hr hu b0 b1 b2 b3
        · rw [if_neg (by omega)]; exact ref_ok1 k j v t c _ w h0 h3 (by simpa using h1) (by simpa using hv) hr hu b0 b1 b2 b3
      · rw [if_neg (by omega)]; exact ref_ok k j v t c _ w h0 h3 (by simpa using h1) hr hu b0 b1 b2 b3

end Go.Proofs.Ytaialgacaomaead
