/- The walk of the reference's CheckEntry. The reference's CheckEntry at every entry; EntryText; whole. -/
import Derived.Test.YtbokdcdnandgbaeKit
import Derived.Deep.RegionHeld3
namespace Go.Proofs.Ytbokdcdnandgbae
open Go.RowKit

theorem in_any (n a b : Int) (w : World) :
    Calls Try.prog 55 #[.int .i64 n, .int .i64 a, .int .i64 b] w fun e w' => e = .returned (.bool (decide (a ≤ n ∧ n ≤ b))) ∧ w' = w := by
  have hc : ¬ a ≤ n ∨ (a ≤ n ∧ ¬ n ≤ b) ∨ (a ≤ n ∧ n ≤ b) := by omega
  rcases hc with h | ⟨h, h'⟩ | ⟨h, h'⟩
  · rw [decide_eq_false (by omega)]
    go_enter Try.func55, Try.ntmps55
    go_wp2
    go_ret
    exact ⟨rfl, rfl⟩
  · rw [decide_eq_false (by omega)]
    go_enter Try.func55, Try.ntmps55
    go_wp2
    go_ret
    exact ⟨rfl, rfl⟩
  · rw [decide_eq_true ⟨h, h'⟩]
    go_enter Try.func55, Try.ntmps55
    go_wp2
    go_ret
    exact ⟨rfl, rfl⟩

/-- A field that is not 0, and that the kind has no use for. -/
def badB (u : ByteArray) (c : UInt8) (n : Int) : Bool := n != 0 && !decide (0 ≤ Lib.indexByte u.data.toList c)

theorem bad_any (u : ByteArray) (c : UInt8) (n : Int) (a : Addr) (w : World) (hu : w.cell? a = some (.string u)) :
    Calls Try.prog 81 #[.string ⟨#[c]⟩, .int .i64 n, .pointer (some a)] w fun e w' => e = .returned (.bool (badB u c n)) ∧ w' = w := by
  have hcon := fun W => Try.strings_Contains_one u c W
  unfold badB
  generalize decide (0 ≤ Lib.indexByte u.data.toList c) = b at *
  have hn : n = 0 ∨ (n != 0) = true := by rw [bne_iff_ne]; omega
  rcases hn with rfl | hn
  · go_enter Try.func81, Try.ntmps81
    go_wp2
    go_ret
    exact ⟨rfl, rfl⟩
  · rw [hn]
    go_enter Try.func81, Try.ntmps81
    go_wp2_with fail
    refine (hcon _).mono ?_
    rintro e w1 ⟨rfl, rfl⟩
    go_wp2
    go_ret
    exact ⟨rfl, rfl⟩

abbrev useO : Obj := .cells #[.string ⟨#[]⟩, .string ⟨#[106, 101, 116]⟩, .string ⟨#[106]⟩, .string ⟨#[106, 116, 99]⟩] 9

set_option maxHeartbeats 1000000 in
theorem ref_bad0 (k j v t c : Int) (u : ByteArray) (w : World) (h0 : 0 ≤ k) (h3 : k ≤ 3) (hr : inR j v t c = true)
    (hu : #[Value.string ⟨#[]⟩, .string ⟨#[106, 101, 116]⟩, .string ⟨#[106]⟩, .string ⟨#[106, 116, 99]⟩][k.toNat]? = some (.string u)) (b0 : badB u 106 j = true) :
    Calls Try.prog 54 #[ev k j v t c] w fun e w' => e = .returned (.int .i64 4) ∧ Below w.heap.size w w' := by
  have hr' := of_decide_eq_true hr
  obtain ⟨r1, r2, r3, r4, r5, r6, r7, r8⟩ := hr'
  have i1 := fun W => in_any k 0 3 W
  have i2 := fun W => in_any j 0 5 W
  have i3 := fun W => in_any v 0 100 W
  have i4 := fun W => in_any t 0 100000 W
  have i5 := fun W => in_any c 0 2 W
  rw [decide_eq_true (by omega)] at i1 i2 i3 i4 i5
  clear hr
  have c0 := fun (a : Addr) (W : World) (h : W.cell? a = some (.string u)) => bad_any u 106 j a W h
  rw [b0] at c0
  clear b0
  have hcu : (((w.alloc (boxE k j v t c)).alloc useO).alloc (.cells #[.string u] 9)).cell? ⟨w.heap.size + 1 + 1, 0, none⟩ = some (.string u) := by
    rw [World.cell?_alloc_at _ _ _ _ (by simp)]; rfl
  go_enter Try.func54, Try.ntmps54
  go_wp2_with fail
  refine (i1 _).mono ?_
  rintro e w1 ⟨rfl, rfl⟩
  go_wp2_with fail
  refine (i2 _).mono ?_
  rintro e w1 ⟨rfl, rfl⟩
  go_wp2_with fail
  refine (i3 _).mono ?_
  rintro e w1 ⟨rfl, rfl⟩
  go_wp2_with fail
  refine (i4 _).mono ?_
  rintro e w1 ⟨rfl, rfl⟩
  go_wp2_with fail
  refine (i5 _).mono ?_
  rintro e w1 ⟨rfl, rfl⟩
  clear i1 i2 i3 i4 i5
  go_wp2_with fail
  refine (c0 _ _ hcu).mono ?_
  rintro e w2 ⟨rfl, rfl⟩
  go_wp2
  go_ret
  exact ⟨rfl, grew (grew (grew (Below.refl _ _) _) _) _⟩

set_option maxHeartbeats 1000000 in
theorem ref_bad1 (k j v t c : Int) (u : ByteArray) (w : World) (h0 : 0 ≤ k) (h3 : k ≤ 3) (hr : inR j v t c = true)
    (hu : #[Value.string ⟨#[]⟩, .string ⟨#[106, 101, 116]⟩, .string ⟨#[106]⟩, .string ⟨#[106, 116, 99]⟩][k.toNat]? = some (.string u)) (b0 : badB u 106 j = false) (b1 : badB u 101 v = true) :
    Calls Try.prog 54 #[ev k j v t c] w fun e w' => e = .returned (.int .i64 4) ∧ Below w.heap.size w w' := by
  have hr' := of_decide_eq_true hr
  obtain ⟨r1, r2, r3, r4, r5, r6, r7, r8⟩ := hr'
  have i1 := fun W => in_any k 0 3 W
  have i2 := fun W => in_any j 0 5 W
  have i3 := fun W => in_any v 0 100 W
  have i4 := fun W => in_any t 0 100000 W
  have i5 := fun W => in_any c 0 2 W
  rw [decide_eq_true (by omega)] at i1 i2 i3 i4 i5
  clear hr
  have c0 := fun (a : Addr) (W : World) (h : W.cell? a = some (.string u)) => bad_any u 106 j a W h
  rw [b0] at c0
  clear b0
  have c1 := fun (a : Addr) (W : World) (h : W.cell? a = some (.string u)) => bad_any u 101 v a W h
  rw [b1] at c1
  clear b1
  have hcu : (((w.alloc (boxE k j v t c)).alloc useO).alloc (.cells #[.string u] 9)).cell? ⟨w.heap.size + 1 + 1, 0, none⟩ = some (.string u) := by
    rw [World.cell?_alloc_at _ _ _ _ (by simp)]; rfl
  go_enter Try.func54, Try.ntmps54
  go_wp2_with fail
  refine (i1 _).mono ?_
  rintro e w1 ⟨rfl, rfl⟩
  go_wp2_with fail
  refine (i2 _).mono ?_
  rintro e w1 ⟨rfl, rfl⟩
  go_wp2_with fail
  refine (i3 _).mono ?_
  rintro e w1 ⟨rfl, rfl⟩
  go_wp2_with fail
  refine (i4 _).mono ?_
  rintro e w1 ⟨rfl, rfl⟩
  go_wp2_with fail
  refine (i5 _).mono ?_
  rintro e w1 ⟨rfl, rfl⟩
  clear i1 i2 i3 i4 i5
  go_wp2_with fail
  refine (c0 _ _ hcu).mono ?_
  rintro e w2 ⟨rfl, rfl⟩
  go_wp2_with fail
  refine (c1 _ _ hcu).mono ?_
  rintro e w3 ⟨rfl, rfl⟩
  go_wp2
  go_ret
  exact ⟨rfl, grew (grew (grew (Below.refl _ _) _) _) _⟩

set_option maxHeartbeats 1000000 in
theorem ref_bad2 (k j v t c : Int) (u : ByteArray) (w : World) (h0 : 0 ≤ k) (h3 : k ≤ 3) (hr : inR j v t c = true)
    (hu : #[Value.string ⟨#[]⟩, .string ⟨#[106, 101, 116]⟩, .string ⟨#[106]⟩, .string ⟨#[106, 116, 99]⟩][k.toNat]? = some (.string u)) (b0 : badB u 106 j = false) (b1 : badB u 101 v = false) (b2 : badB u 116 t = true) :
    Calls Try.prog 54 #[ev k j v t c] w fun e w' => e = .returned (.int .i64 4) ∧ Below w.heap.size w w' := by
  have hr' := of_decide_eq_true hr
  obtain ⟨r1, r2, r3, r4, r5, r6, r7, r8⟩ := hr'
  have i1 := fun W => in_any k 0 3 W
  have i2 := fun W => in_any j 0 5 W
  have i3 := fun W => in_any v 0 100 W
  have i4 := fun W => in_any t 0 100000 W
  have i5 := fun W => in_any c 0 2 W
  rw [decide_eq_true (by omega)] at i1 i2 i3 i4 i5
  clear hr
  have c0 := fun (a : Addr) (W : World) (h : W.cell? a = some (.string u)) => bad_any u 106 j a W h
  rw [b0] at c0
  clear b0
  have c1 := fun (a : Addr) (W : World) (h : W.cell? a = some (.string u)) => bad_any u 101 v a W h
  rw [b1] at c1
  clear b1
  have c2 := fun (a : Addr) (W : World) (h : W.cell? a = some (.string u)) => bad_any u 116 t a W h
  rw [b2] at c2
  clear b2
  have hcu : (((w.alloc (boxE k j v t c)).alloc useO).alloc (.cells #[.string u] 9)).cell? ⟨w.heap.size + 1 + 1, 0, none⟩ = some (.string u) := by
    rw [World.cell?_alloc_at _ _ _ _ (by simp)]; rfl
  go_enter Try.func54, Try.ntmps54
  go_wp2_with fail
  refine (i1 _).mono ?_
  rintro e w1 ⟨rfl, rfl⟩
  go_wp2_with fail
  refine (i2 _).mono ?_
  rintro e w1 ⟨rfl, rfl⟩
  go_wp2_with fail
  refine (i3 _).mono ?_
  rintro e w1 ⟨rfl, rfl⟩
  go_wp2_with fail
  refine (i4 _).mono ?_
  rintro e w1 ⟨rfl, rfl⟩
  go_wp2_with fail
  refine (i5 _).mono ?_
  rintro e w1 ⟨rfl, rfl⟩
  clear i1 i2 i3 i4 i5
  go_wp2_with fail
  refine (c0 _ _ hcu).mono ?_
  rintro e w2 ⟨rfl, rfl⟩
  go_wp2_with fail
  refine (c1 _ _ hcu).mono ?_
  rintro e w3 ⟨rfl, rfl⟩
  go_wp2_with fail
  refine (c2 _ _ hcu).mono ?_
  rintro e w4 ⟨rfl, rfl⟩
  go_wp2
  go_ret
  exact ⟨rfl, grew (grew (grew (Below.refl _ _) _) _) _⟩

set_option maxHeartbeats 1000000 in
theorem ref_bad3 (k j v t c : Int) (u : ByteArray) (w : World) (h0 : 0 ≤ k) (h3 : k ≤ 3) (hr : inR j v t c = true)
    (hu : #[Value.string ⟨#[]⟩, .string ⟨#[106, 101, 116]⟩, .string ⟨#[106]⟩, .string ⟨#[106, 116, 99]⟩][k.toNat]? = some (.string u)) (b0 : badB u 106 j = false) (b1 : badB u 101 v = false) (b2 : badB u 116 t = false) (b3 : badB u 99 c = true) :
    Calls Try.prog 54 #[ev k j v t c] w fun e w' => e = .returned (.int .i64 4) ∧ Below w.heap.size w w' := by
  have hr' := of_decide_eq_true hr
  obtain ⟨r1, r2, r3, r4, r5, r6, r7, r8⟩ := hr'
  have i1 := fun W => in_any k 0 3 W
  have i2 := fun W => in_any j 0 5 W
  have i3 := fun W => in_any v 0 100 W
  have i4 := fun W => in_any t 0 100000 W
  have i5 := fun W => in_any c 0 2 W
  rw [decide_eq_true (by omega)] at i1 i2 i3 i4 i5
  clear hr
  have c0 := fun (a : Addr) (W : World) (h : W.cell? a = some (.string u)) => bad_any u 106 j a W h
  rw [b0] at c0
  clear b0
  have c1 := fun (a : Addr) (W : World) (h : W.cell? a = some (.string u)) => bad_any u 101 v a W h
  rw [b1] at c1
  clear b1
  have c2 := fun (a : Addr) (W : World) (h : W.cell? a = some (.string u)) => bad_any u 116 t a W h
  rw [b2] at c2
  clear b2
  have c3 := fun (a : Addr) (W : World) (h : W.cell? a = some (.string u)) => bad_any u 99 c a W h
  rw [b3] at c3
  clear b3
  have hcu : (((w.alloc (boxE k j v t c)).alloc useO).alloc (.cells #[.string u] 9)).cell? ⟨w.heap.size + 1 + 1, 0, none⟩ = some (.string u) := by
    rw [World.cell?_alloc_at _ _ _ _ (by simp)]; rfl
  go_enter Try.func54, Try.ntmps54
  go_wp2_with fail
  refine (i1 _).mono ?_
  rintro e w1 ⟨rfl, rfl⟩
  go_wp2_with fail
  refine (i2 _).mono ?_
  rintro e w1 ⟨rfl, rfl⟩
  go_wp2_with fail
  refine (i3 _).mono ?_
  rintro e w1 ⟨rfl, rfl⟩
  go_wp2_with fail
  refine (i4 _).mono ?_
  rintro e w1 ⟨rfl, rfl⟩
  go_wp2_with fail
  refine (i5 _).mono ?_
  rintro e w1 ⟨rfl, rfl⟩
  clear i1 i2 i3 i4 i5
  go_wp2_with fail
  refine (c0 _ _ hcu).mono ?_
  rintro e w2 ⟨rfl, rfl⟩
  go_wp2_with fail
  refine (c1 _ _ hcu).mono ?_
  rintro e w3 ⟨rfl, rfl⟩
  go_wp2_with fail
  refine (c2 _ _ hcu).mono ?_
  rintro e w4 ⟨rfl, rfl⟩
  go_wp2_with fail
  refine (c3 _ _ hcu).mono ?_
  rintro e w5 ⟨rfl, rfl⟩
  go_wp2
  go_ret
  exact ⟨rfl, grew (grew (grew (Below.refl _ _) _) _) _⟩

set_option maxHeartbeats 1000000 in
theorem ref_every (k j v t c : Int) (u : ByteArray) (w : World) (h0 : 0 ≤ k) (h3 : k ≤ 3) (hk : (k == 1) = true) (hv : (v == 0) = true) (hr : inR j v t c = true)
    (hu : #[Value.string ⟨#[]⟩, .string ⟨#[106, 101, 116]⟩, .string ⟨#[106]⟩, .string ⟨#[106, 116, 99]⟩][k.toNat]? = some (.string u)) (b0 : badB u 106 j = false) (b1 : badB u 101 v = false) (b2 : badB u 116 t = false) (b3 : badB u 99 c = false) :
    Calls Try.prog 54 #[ev k j v t c] w fun e w' => e = .returned (.int .i64 4) ∧ Below w.heap.size w w' := by
  have hr' := of_decide_eq_true hr
  obtain ⟨r1, r2, r3, r4, r5, r6, r7, r8⟩ := hr'
  have i1 := fun W => in_any k 0 3 W
  have i2 := fun W => in_any j 0 5 W
  have i3 := fun W => in_any v 0 100 W
  have i4 := fun W => in_any t 0 100000 W
  have i5 := fun W => in_any c 0 2 W
  rw [decide_eq_true (by omega)] at i1 i2 i3 i4 i5
  clear hr
  have c0 := fun (a : Addr) (W : World) (h : W.cell? a = some (.string u)) => bad_any u 106 j a W h
  rw [b0] at c0
  clear b0
  have c1 := fun (a : Addr) (W : World) (h : W.cell? a = some (.string u)) => bad_any u 101 v a W h
  rw [b1] at c1
  clear b1
  have c2 := fun (a : Addr) (W : World) (h : W.cell? a = some (.string u)) => bad_any u 116 t a W h
  rw [b2] at c2
  clear b2
  have c3 := fun (a : Addr) (W : World) (h : W.cell? a = some (.string u)) => bad_any u 99 c a W h
  rw [b3] at c3
  clear b3
  have hcu : (((w.alloc (boxE k j v t c)).alloc useO).alloc (.cells #[.string u] 9)).cell? ⟨w.heap.size + 1 + 1, 0, none⟩ = some (.string u) := by
    rw [World.cell?_alloc_at _ _ _ _ (by simp)]; rfl
  go_enter Try.func54, Try.ntmps54
  go_wp2_with fail
  refine (i1 _).mono ?_
  rintro e w1 ⟨rfl, rfl⟩
  go_wp2_with fail
  refine (i2 _).mono ?_
  rintro e w1 ⟨rfl, rfl⟩
  go_wp2_with fail
  refine (i3 _).mono ?_
  rintro e w1 ⟨rfl, rfl⟩
  go_wp2_with fail
  refine (i4 _).mono ?_
  rintro e w1 ⟨rfl, rfl⟩
  go_wp2_with fail
  refine (i5 _).mono ?_
  rintro e w1 ⟨rfl, rfl⟩
  clear i1 i2 i3 i4 i5
  go_wp2_with fail
  refine (c0 _ _ hcu).mono ?_
  rintro e w2 ⟨rfl, rfl⟩
  go_wp2_with fail
  refine (c1 _ _ hcu).mono ?_
  rintro e w3 ⟨rfl, rfl⟩
  go_wp2_with fail
  refine (c2 _ _ hcu).mono ?_
  rintro e w4 ⟨rfl, rfl⟩
  go_wp2_with fail
  refine (c3 _ _ hcu).mono ?_
  rintro e w5 ⟨rfl, rfl⟩
  go_wp2
  go_ret
  exact ⟨rfl, grew (grew (grew (Below.refl _ _) _) _) _⟩

set_option maxHeartbeats 1000000 in
theorem ref_ok1 (k j v t c : Int) (u : ByteArray) (w : World) (h0 : 0 ≤ k) (h3 : k ≤ 3) (hk : (k == 1) = true) (hv : (v == 0) = false) (hr : inR j v t c = true)
    (hu : #[Value.string ⟨#[]⟩, .string ⟨#[106, 101, 116]⟩, .string ⟨#[106]⟩, .string ⟨#[106, 116, 99]⟩][k.toNat]? = some (.string u)) (b0 : badB u 106 j = false) (b1 : badB u 101 v = false) (b2 : badB u 116 t = false) (b3 : badB u 99 c = false) :
    Calls Try.prog 54 #[ev k j v t c] w fun e w' => e = .returned (.int .i64 0) ∧ Below w.heap.size w w' := by
  have hr' := of_decide_eq_true hr
  obtain ⟨r1, r2, r3, r4, r5, r6, r7, r8⟩ := hr'
  have i1 := fun W => in_any k 0 3 W
  have i2 := fun W => in_any j 0 5 W
  have i3 := fun W => in_any v 0 100 W
  have i4 := fun W => in_any t 0 100000 W
  have i5 := fun W => in_any c 0 2 W
  rw [decide_eq_true (by omega)] at i1 i2 i3 i4 i5
  clear hr
  have c0 := fun (a : Addr) (W : World) (h : W.cell? a = some (.string u)) => bad_any u 106 j a W h
  rw [b0] at c0
  clear b0
  have c1 := fun (a : Addr) (W : World) (h : W.cell? a = some (.string u)) => bad_any u 101 v a W h
  rw [b1] at c1
  clear b1
  have c2 := fun (a : Addr) (W : World) (h : W.cell? a = some (.string u)) => bad_any u 116 t a W h
  rw [b2] at c2
  clear b2
  have c3 := fun (a : Addr) (W : World) (h : W.cell? a = some (.string u)) => bad_any u 99 c a W h
  rw [b3] at c3
  clear b3
  have hcu : (((w.alloc (boxE k j v t c)).alloc useO).alloc (.cells #[.string u] 9)).cell? ⟨w.heap.size + 1 + 1, 0, none⟩ = some (.string u) := by
    rw [World.cell?_alloc_at _ _ _ _ (by simp)]; rfl
  go_enter Try.func54, Try.ntmps54
  go_wp2_with fail
  refine (i1 _).mono ?_
  rintro e w1 ⟨rfl, rfl⟩
  go_wp2_with fail
  refine (i2 _).mono ?_
  rintro e w1 ⟨rfl, rfl⟩
  go_wp2_with fail
  refine (i3 _).mono ?_
  rintro e w1 ⟨rfl, rfl⟩
  go_wp2_with fail
  refine (i4 _).mono ?_
  rintro e w1 ⟨rfl, rfl⟩
  go_wp2_with fail
  refine (i5 _).mono ?_
  rintro e w1 ⟨rfl, rfl⟩
  clear i1 i2 i3 i4 i5
  go_wp2_with fail
  refine (c0 _ _ hcu).mono ?_
  rintro e w2 ⟨rfl, rfl⟩
  go_wp2_with fail
  refine (c1 _ _ hcu).mono ?_
  rintro e w3 ⟨rfl, rfl⟩
  go_wp2_with fail
  refine (c2 _ _ hcu).mono ?_
  rintro e w4 ⟨rfl, rfl⟩
  go_wp2_with fail
  refine (c3 _ _ hcu).mono ?_
  rintro e w5 ⟨rfl, rfl⟩
  go_wp2
  go_ret
  exact ⟨rfl, grew (grew (grew (Below.refl _ _) _) _) _⟩

set_option maxHeartbeats 1000000 in
theorem ref_ok (k j v t c : Int) (u : ByteArray) (w : World) (h0 : 0 ≤ k) (h3 : k ≤ 3) (hk : (k == 1) = false) (hr : inR j v t c = true)
    (hu : #[Value.string ⟨#[]⟩, .string ⟨#[106, 101, 116]⟩, .string ⟨#[106]⟩, .string ⟨#[106, 116, 99]⟩][k.toNat]? = some (.string u)) (b0 : badB u 106 j = false) (b1 : badB u 101 v = false) (b2 : badB u 116 t = false) (b3 : badB u 99 c = false) :
    Calls Try.prog 54 #[ev k j v t c] w fun e w' => e = .returned (.int .i64 0) ∧ Below w.heap.size w w' := by
  have hr' := of_decide_eq_true hr
  obtain ⟨r1, r2, r3, r4, r5, r6, r7, r8⟩ := hr'
  have i1 := fun W => in_any k 0 3 W
  have i2 := fun W => in_any j 0 5 W
  have i3 := fun W => in_any v 0 100 W
  have i4 := fun W => in_any t 0 100000 W
  have i5 := fun W => in_any c 0 2 W
  rw [decide_eq_true (by omega)] at i1 i2 i3 i4 i5
  clear hr
  have c0 := fun (a : Addr) (W : World) (h : W.cell? a = some (.string u)) => bad_any u 106 j a W h
  rw [b0] at c0
  clear b0
  have c1 := fun (a : Addr) (W : World) (h : W.cell? a = some (.string u)) => bad_any u 101 v a W h
  rw [b1] at c1
  clear b1
  have c2 := fun (a : Addr) (W : World) (h : W.cell? a = some (.string u)) => bad_any u 116 t a W h
  rw [b2] at c2
  clear b2
  have c3 := fun (a : Addr) (W : World) (h : W.cell? a = some (.string u)) => bad_any u 99 c a W h
  rw [b3] at c3
  clear b3
  have hcu : (((w.alloc (boxE k j v t c)).alloc useO).alloc (.cells #[.string u] 9)).cell? ⟨w.heap.size + 1 + 1, 0, none⟩ = some (.string u) := by
    rw [World.cell?_alloc_at _ _ _ _ (by simp)]; rfl
  go_enter Try.func54, Try.ntmps54
  go_wp2_with fail
  refine (i1 _).mono ?_
  rintro e w1 ⟨rfl, rfl⟩
  go_wp2_with fail
  refine (i2 _).mono ?_
  rintro e w1 ⟨rfl, rfl⟩
  go_wp2_with fail
  refine (i3 _).mono ?_
  rintro e w1 ⟨rfl, rfl⟩
  go_wp2_with fail
  refine (i4 _).mono ?_
  rintro e w1 ⟨rfl, rfl⟩
  go_wp2_with fail
  refine (i5 _).mono ?_
  rintro e w1 ⟨rfl, rfl⟩
  clear i1 i2 i3 i4 i5
  go_wp2_with fail
  refine (c0 _ _ hcu).mono ?_
  rintro e w2 ⟨rfl, rfl⟩
  go_wp2_with fail
  refine (c1 _ _ hcu).mono ?_
  rintro e w3 ⟨rfl, rfl⟩
  go_wp2_with fail
  refine (c2 _ _ hcu).mono ?_
  rintro e w4 ⟨rfl, rfl⟩
  go_wp2_with fail
  refine (c3 _ _ hcu).mono ?_
  rintro e w5 ⟨rfl, rfl⟩
  go_wp2
  go_ret
  exact ⟨rfl, grew (grew (grew (Below.refl _ _) _) _) _⟩

end Go.Proofs.Ytbokdcdnandgbae
namespace Go.Proofs.Ytbokdcdnandgbae
open Go.RowKit

set_option maxHeartbeats 1000000 in
theorem ref_kind (k j v t c : Int) (w : World) (hk : k < 0 ∨ 3 < k) :
    Calls Try.prog 54 #[ev k j v t c] w fun e w' => e = .returned (.int .i64 4) ∧ Below w.heap.size w w' := by
  have i1 := fun W => in_any k 0 3 W
  rw [decide_eq_false (by omega)] at i1
  clear hk
  go_enter Try.func54, Try.ntmps54
  go_wp2_with fail
  refine (i1 _).mono ?_
  rintro e w1 ⟨rfl, rfl⟩
  go_wp2
  go_ret
  exact ⟨rfl, grew (Below.refl _ _) _⟩

set_option maxHeartbeats 1000000 in
theorem ref_range (k j v t c : Int) (w : World) (h0 : 0 ≤ k) (h3 : k ≤ 3) (hr : inR j v t c = false) :
    Calls Try.prog 54 #[ev k j v t c] w fun e w' => e = .returned (.int .i64 3) ∧ Below w.heap.size w w' := by
  have hr' := of_decide_eq_false hr
  have i1 := fun W => in_any k 0 3 W
  have i2 := fun W => in_any j 0 5 W
  have i3 := fun W => in_any v 0 100 W
  have i4 := fun W => in_any t 0 100000 W
  have i5 := fun W => in_any c 0 2 W
  rw [decide_eq_true (by omega)] at i1
  have hc : ¬ (0 ≤ j ∧ j ≤ 5) ∨ ((0 ≤ j ∧ j ≤ 5) ∧ ¬ (0 ≤ v ∧ v ≤ 100)) ∨ ((0 ≤ j ∧ j ≤ 5) ∧ (0 ≤ v ∧ v ≤ 100) ∧ ¬ (0 ≤ t ∧ t ≤ 100000)) ∨ ((0 ≤ j ∧ j ≤ 5) ∧ (0 ≤ v ∧ v ≤ 100) ∧ (0 ≤ t ∧ t ≤ 100000) ∧ ¬ (0 ≤ c ∧ c ≤ 2)) := by omega
  clear hr hr'
  rcases hc with a | ⟨a, b⟩ | ⟨a, b, d⟩ | ⟨a, b, d, f⟩
  · rw [decide_eq_false a] at i2
    clear a
    go_enter Try.func54, Try.ntmps54
    go_wp2_with fail
    refine (i1 _).mono ?_
    rintro e w1 ⟨rfl, rfl⟩
    go_wp2_with fail
    refine (i2 _).mono ?_
    rintro e w1 ⟨rfl, rfl⟩
    go_wp2
    go_ret
    exact ⟨rfl, grew (Below.refl _ _) _⟩
  · rw [decide_eq_true a] at i2
    rw [decide_eq_false b] at i3
    clear a b
    go_enter Try.func54, Try.ntmps54
    go_wp2_with fail
    refine (i1 _).mono ?_
    rintro e w1 ⟨rfl, rfl⟩
    go_wp2_with fail
    refine (i2 _).mono ?_
    rintro e w1 ⟨rfl, rfl⟩
    go_wp2_with fail
    refine (i3 _).mono ?_
    rintro e w1 ⟨rfl, rfl⟩
    go_wp2
    go_ret
    exact ⟨rfl, grew (Below.refl _ _) _⟩
  · rw [decide_eq_true a] at i2
    rw [decide_eq_true b] at i3
    rw [decide_eq_false d] at i4
    clear a b d
    go_enter Try.func54, Try.ntmps54
    go_wp2_with fail
    refine (i1 _).mono ?_
    rintro e w1 ⟨rfl, rfl⟩
    go_wp2_with fail
    refine (i2 _).mono ?_
    rintro e w1 ⟨rfl, rfl⟩
    go_wp2_with fail
    refine (i3 _).mono ?_
    rintro e w1 ⟨rfl, rfl⟩
    go_wp2_with fail
    refine (i4 _).mono ?_
    rintro e w1 ⟨rfl, rfl⟩
    go_wp2
    go_ret
    exact ⟨rfl, grew (Below.refl _ _) _⟩
  · rw [decide_eq_true a] at i2
    rw [decide_eq_true b] at i3
    rw [decide_eq_true d] at i4
    rw [decide_eq_false f] at i5
    clear a b d f
    go_enter Try.func54, Try.ntmps54
    go_wp2_with fail
    refine (i1 _).mono ?_
    rintro e w1 ⟨rfl, rfl⟩
    go_wp2_with fail
    refine (i2 _).mono ?_
    rintro e w1 ⟨rfl, rfl⟩
    go_wp2_with fail
    refine (i3 _).mono ?_
    rintro e w1 ⟨rfl, rfl⟩
    go_wp2_with fail
    refine (i4 _).mono ?_
    rintro e w1 ⟨rfl, rfl⟩
    go_wp2_with fail
    refine (i5 _).mono ?_
    rintro e w1 ⟨rfl, rfl⟩
    go_wp2
    go_ret
    exact ⟨rfl, grew (Below.refl _ _) _⟩

/-- What a kind has a use for. -/
def useOf (k : Int) : ByteArray := if k = 0 then ⟨#[]⟩ else if k = 1 then ⟨#[106, 101, 116]⟩ else if k = 2 then ⟨#[106]⟩ else ⟨#[106, 116, 99]⟩

theorem useOf_at (k : Int) (h0 : 0 ≤ k) (h3 : k ≤ 3) : #[Value.string ⟨#[]⟩, .string ⟨#[106, 101, 116]⟩, .string ⟨#[106]⟩, .string ⟨#[106, 116, 99]⟩][k.toNat]? = some (.string (useOf k)) := by
  have : k = 0 ∨ k = 1 ∨ k = 2 ∨ k = 3 := by omega
  rcases this with rfl | rfl | rfl | rfl <;> rfl

theorem lost_bad (k j v t c : Int) (h0 : 0 ≤ k) (h3 : k ≤ 3) : lost k j v t c = (badB (useOf k) 106 j || badB (useOf k) 101 v || badB (useOf k) 116 t || badB (useOf k) 99 c) := by
  have hk : k = 0 ∨ k = 1 ∨ k = 2 ∨ k = 3 := by omega
  have e : ∀ x y : Int, (x == y) = decide (x = y) := fun x y => by by_cases h : x = y <;> simp [h]
  rcases hk with rfl | rfl | rfl | rfl
  · simp [lost, unlike, bJob, bEvery, bTime, bClient, badB, useOf, Lib.indexByte, e, bne, eq_comm, Bool.or_assoc]
  · simp [lost, unlike, bJob, bEvery, bTime, bClient, num0, num1, num2, badB, useOf, Lib.indexByte, e, bne, eq_comm]
  · simp [lost, unlike, bJob, bEvery, bTime, bClient, num0, badB, useOf, Lib.indexByte, e, bne, eq_comm, Bool.or_assoc]
  · simp [lost, unlike, bJob, bEvery, bTime, bClient, num0, num1, num2, badB, useOf, Lib.indexByte, e, bne, eq_comm]

/-- The reference's CheckEntry, at every entry: as Check. -/
theorem ref_check (k j v t c : Int) (w : World) :
    Calls Try.prog 54 #[ev k j v t c] w fun e w' => e = .returned (.int .i64 (chk k j v t c)) ∧ Below w.heap.size w w' := by
  unfold chk
  by_cases hk : k < 0 ∨ 3 < k
  · rw [if_pos hk]; exact ref_kind k j v t c w hk
  rw [if_neg hk]
  have h0 : 0 ≤ k := by omega
  have h3 : k ≤ 3 := by omega
  cases hr : inR j v t c with
  | false => rw [if_pos rfl]; exact ref_range k j v t c w h0 h3 hr
  | true =>
    rw [if_neg (by simp)]
    have hu := useOf_at k h0 h3
    rw [lost_bad k j v t c h0 h3]
    cases b0 : badB (useOf k) 106 j with
    | true => rw [if_pos (by simp)]; exact ref_bad0 k j v t c _ w h0 h3 hr hu b0
    | false =>
    cases b1 : badB (useOf k) 101 v with
    | true => rw [if_pos (by simp)]; exact ref_bad1 k j v t c _ w h0 h3 hr hu b0 b1
    | false =>
    cases b2 : badB (useOf k) 116 t with
    | true => rw [if_pos (by simp)]; exact ref_bad2 k j v t c _ w h0 h3 hr hu b0 b1 b2
    | false =>
    cases b3 : badB (useOf k) 99 c with
    | true => rw [if_pos (by simp)]; exact ref_bad3 k j v t c _ w h0 h3 hr hu b0 b1 b2 b3
    | false =>
      rw [if_neg (by simp)]
      by_cases h1 : k = 1
      · by_cases hv : v = 0
        · rw [if_pos ⟨h1, hv⟩]; exact ref_every k j v t c _ w h0 h3 (by simpa using h1) (by simpa using hv) hr hu b0 b1 b2 b3
        · rw [if_neg (by omega)]; exact ref_ok1 k j v t c _ w h0 h3 (by simpa using h1) (by simpa using hv) hr hu b0 b1 b2 b3
      · rw [if_neg (by omega)]; exact ref_ok k j v t c _ w h0 h3 (by simpa using h1) hr hu b0 b1 b2 b3

end Go.Proofs.Ytbokdcdnandgbae
