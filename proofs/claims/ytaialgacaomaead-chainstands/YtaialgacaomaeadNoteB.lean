/- Records in memory; the reference's CheckRec. -/
import Derived.Test.YtaialgacaomaeadRecA
import Derived.Test.YtaialgacaomaeadRefB
import Derived.Test.YtaialgacaomaeadEql
namespace Go.Proofs.Ytaialgacaomaead
open Go.RowKit

abbrev Rc.val (r : Rc) : Value := .agg #[.int .i64 r.k, .int .i64 r.a, .int .i64 r.p, .int .i64 r.e.k, .int .i64 r.e.j, .int .i64 r.e.v, .int .i64 r.e.t, .int .i64 r.e.c]
abbrev boxRc (r : Rc) : Obj := .cells #[.int .i64 r.k, .int .i64 r.a, .int .i64 r.p, .int .i64 r.e.k, .int .i64 r.e.j, .int .i64 r.e.v, .int .i64 r.e.t, .int .i64 r.e.c] 28

/-- Two records are the same. -/
def Rc.same (r q : Rc) : Bool := decide (r.k = q.k ∧ r.a = q.a ∧ r.p = q.p) && !unlike r.e.k r.e.j r.e.v r.e.t r.e.c q.e.k q.e.j q.e.v q.e.t q.e.c

theorem same_eq {r q : Rc} : r.same q = true ↔ r = q := by
  unfold Rc.same
  constructor
  · intro h
    simp only [Bool.and_eq_true, decide_eq_true_eq, Bool.not_eq_true'] at h
    obtain ⟨⟨h1, h2, h3⟩, h4⟩ := h
    have h5 : r.e = q.e := en_eq h4
    cases r; cases q
    simp_all
  · rintro rfl
    simp [unlike]

theorem same_self (r : Rc) : r.same r = true := same_eq.2 rfl

theorem eqIn_rec (r q : Rc) (w : World) : (Op.equalIn 10000 28 r.val q.val).run Try.prog w = .ok (r.same q) w := by
  have u3 := Try.underlying3
  have a3 := Try.isAgg3
  have z3 := Try.sizeOf3
  have hS : Try.prog.underlying 28 = some (.struct (Try.prog.fieldsOf 28)) := by kernel_rfl
  have hp : Try.prog.stoodInHeld 28 = false := by kernel_rfl
  rw [show (10000 : Nat) = 9999 + 1 from rfl, run_equalIn_agg w 9999 28 _ _ hS hp]
  simp only [Program.fieldsOf, Try.underlying28]
  go_simp
  unfold Rc.same
  by_cases h1 : r.k = q.k <;> by_cases h2 : r.a = q.a <;> by_cases h3 : r.p = q.p <;> simp [h1, h2, h3]
  unfold unlike
  by_cases k1 : r.e.k = q.e.k <;> by_cases k2 : r.e.j = q.e.j <;> by_cases k3 : r.e.v = q.e.v <;> by_cases k4 : r.e.t = q.e.t <;> by_cases k5 : r.e.c = q.e.c <;> simp [k1, k2, k3, k4, k5]

theorem eqlR (r q : Rc) (w : World) : (binOp .eql 28 r.val q.val).run Try.prog w = .ok (.bool (r.same q)) w := by
  rw [run_eql_struct, eqIn_rec]
  rfl

theorem neqR (r q : Rc) (w : World) : (binOp .neq 28 r.val q.val).run Try.prog w = .ok (.bool (!r.same q)) w := by
  rw [run_neq_struct, eqIn_rec]
  rfl

theorem step_below1 {w a b : World} (h : Below w.heap.size w a) (hb : Below a.heap.size a b) : Below w.heap.size w b := h.trans (hb.mono h.size)

set_option maxHeartbeats 4000000 in
/-- The reference's CheckRec. -/
theorem ref_chkRec (r : Rc) (w : World) :
    Calls Try.prog 29 #[r.val] w fun e w' => e = .returned (.int .i64 r.chk) ∧ Below w.heap.size w w' := by
  have hB0 : Aside (Below w.heap.size w (w.alloc (boxRc r))) := grew (Below.refl _ _) _
  have hne : ∀ W, (binOp .neq 26 (ev r.e.k r.e.j r.e.v r.e.t r.e.c) (ev 0 0 0 0 0)).run Try.prog W = .ok (.bool r.e.some_) W := fun W => neq_entry r.e.k r.e.j r.e.v r.e.t r.e.c 0 0 0 0 0 W
  have hce := ref_check r.e.k r.e.j r.e.v r.e.t r.e.c (w.alloc (boxRc r))
  change Calls _ _ _ _ fun e w' => e = .returned (.int .i64 r.e.chk) ∧ _ at hce
  have HC : Hid (r.chk = if r.k = 2 then (if ¬(1 ≤ r.p ∧ r.p ≤ 20) then 3 else if ¬ r.a = 0 ∨ r.e.some_ = true then 4 else 0) else if ¬ r.k = 1 then 4 else if ¬(0 ≤ r.a ∧ r.a ≤ 59) then 3 else if ¬ r.p = 0 then 4 else r.e.chk) := rfl
  generalize r.chk = d at *
  generalize r.e.chk = d' at *
  generalize r.e.some_ = so at *
  by_cases h2 : r.k = 2
  · rw [if_pos h2] at HC
    have hb2 : (r.k == 2) = true := by rw [h2]; rfl
    by_cases hp : 1 ≤ r.p ∧ r.p ≤ 20
    · rw [if_neg (by simpa using hp)] at HC
      have hin := in_any r.p 1 20 (w.alloc (boxRc r))
      rw [decide_eq_true hp] at hin
      by_cases ha : r.a = 0
      · cases so with
        | true =>
          have HR : Hid (d = 4) := by rw [Hid, HC.out, if_pos (Or.inr rfl)]
          have hab : (r.a != 0) = false := by rw [ha]; rfl
          clear HC
          (try clear ha)
          (try clear hp)
          (try clear h1)
          (try clear h2)
          go_enter Try.func29, Try.ntmps29
          go_wp2_with fail
          refine hin.mono ?_
          rintro e w1 ⟨rfl, rfl⟩
          go_wp2
          go_ret
          exact ⟨by rw [HR.out]; rfl, hB0.out⟩
        | false =>
          have HR : Hid (d = 0) := by rw [Hid, HC.out, if_neg (by simp [ha])]
          have hab : (r.a != 0) = false := by rw [ha]; rfl
          clear HC
          (try clear ha)
          (try clear hp)
          (try clear h1)
          (try clear h2)
          go_enter Try.func29, Try.ntmps29
          go_wp2_with fail
          refine hin.mono ?_
          rintro e w1 ⟨rfl, rfl⟩
          go_wp2
          go_ret
          exact ⟨by rw [HR.out]; rfl, hB0.out⟩
      · have HR : Hid (d = 4) := by rw [Hid, HC.out, if_pos (Or.inl ha)]
        have hab : (r.a != 0) = true := by rw [bne_iff_ne]; exact ha
        clear HC
        (try clear ha)
        (try clear hp)
        (try clear h1)
        (try clear h2)
        go_enter Try.func29, Try.ntmps29
        go_wp2_with fail
        refine hin.mono ?_
        rintro e w1 ⟨rfl, rfl⟩
        go_wp2
        go_ret
        exact ⟨by rw [HR.out]; rfl, hB0.out⟩
    · have HR : Hid (d = 3) := by rw [Hid, HC.out, if_pos hp]
      have hin := in_any r.p 1 20 (w.alloc (boxRc r))
      rw [decide_eq_false hp] at hin
      clear HC
      (try clear ha)
      (try clear hp)
      (try clear h1)
      (try clear h2)
      go_enter Try.func29, Try.ntmps29
      go_wp2_with fail
      refine hin.mono ?_
      rintro e w1 ⟨rfl, rfl⟩
      go_wp2
      go_ret
      exact ⟨by rw [HR.out]; rfl, hB0.out⟩
  · rw [if_neg h2] at HC
    have hb2 : (r.k == 2) = false := by rw [beq_eq_false_iff_ne]; exact h2
    by_cases h1 : r.k = 1
    · rw [if_neg (by simpa using h1)] at HC
      have hb1 : (r.k != 1) = false := by rw [h1]; rfl
      have hin := in_any r.a 0 59 (w.alloc (boxRc r))
      by_cases ha : 0 ≤ r.a ∧ r.a ≤ 59
      · rw [if_neg (by simpa using ha)] at HC
        rw [decide_eq_true ha] at hin
        by_cases hp : r.p = 0
        · have HR : Hid (d = d') := by rw [Hid, HC.out, if_neg (by simpa using hp)]
          have hpb : (r.p != 0) = false := by rw [hp]; rfl
          clear HC
          (try clear ha)
          (try clear hp)
          (try clear h1)
          (try clear h2)
          go_enter Try.func29, Try.ntmps29
          go_wp2_with fail
          refine hin.mono ?_
          rintro e w1 ⟨rfl, rfl⟩
          go_wp2_with fail
          refine hce.mono ?_
          rintro e w2 ⟨rfl, hb2⟩
          have HB2 : Aside (Below w.heap.size w w2) := step_below1 hB0.out hb2
          clear hb2 hce hin
          go_wp2
          go_ret
          exact ⟨by rw [HR.out]; rfl, HB2.out⟩
        · have HR : Hid (d = 4) := by rw [Hid, HC.out, if_pos hp]
          have hpb : (r.p != 0) = true := by rw [bne_iff_ne]; exact hp
          clear HC
          (try clear ha)
          (try clear hp)
          (try clear h1)
          (try clear h2)
          go_enter Try.func29, Try.ntmps29
          go_wp2_with fail
          refine hin.mono ?_
          rintro e w1 ⟨rfl, rfl⟩
          go_wp2
          go_ret
          exact ⟨by rw [HR.out]; rfl, hB0.out⟩
      · have HR : Hid (d = 3) := by rw [Hid, HC.out, if_pos ha]
        rw [decide_eq_false ha] at hin
        clear HC
        (try clear ha)
        (try clear hp)
        (try clear h1)
        (try clear h2)
        go_enter Try.func29, Try.ntmps29
        go_wp2_with fail
        refine hin.mono ?_
        rintro e w1 ⟨rfl, rfl⟩
        go_wp2
        go_ret
        exact ⟨by rw [HR.out]; rfl, hB0.out⟩
    · have HR : Hid (d = 4) := by rw [Hid, HC.out, if_pos h1]
      have hb1 : (r.k != 1) = true := by rw [bne_iff_ne]; exact h1
      clear HC
      (try clear ha)
      (try clear hp)
      (try clear h1)
      (try clear h2)
      go_enter Try.func29, Try.ntmps29
      go_wp2
      go_ret
      exact ⟨by rw [HR.out]; rfl, hB0.out⟩

theorem eight_stores {W : World} {b : Nat} {q : Rc} (h : W.heap[b]? = some (boxRc q)) (r : Rc) :
    ((((((((W.setCell ⟨b, 0, none⟩ (.int .i64 r.k)).setCell ⟨b, 1, none⟩ (.int .i64 r.a)).setCell ⟨b, 2, none⟩ (.int .i64 r.p)).setCell ⟨b, 3, none⟩ (.int .i64 r.e.k)).setCell ⟨b, 4, none⟩ (.int .i64 r.e.j)).setCell ⟨b, 5, none⟩ (.int .i64 r.e.v)).setCell ⟨b, 6, none⟩ (.int .i64 r.e.t)).setCell ⟨b, 7, none⟩ (.int .i64 r.e.c)).heap[b]? = some (boxRc r) := by
  have h1 := Joins.block_setCell h (i := 0) (.int .i64 r.k)
  have h2 := Joins.block_setCell h1 (i := 1) (.int .i64 r.a)
  have h3 := Joins.block_setCell h2 (i := 2) (.int .i64 r.p)
  have h4 := Joins.block_setCell h3 (i := 3) (.int .i64 r.e.k)
  have h5 := Joins.block_setCell h4 (i := 4) (.int .i64 r.e.j)
  have h6 := Joins.block_setCell h5 (i := 5) (.int .i64 r.e.v)
  have h7 := Joins.block_setCell h6 (i := 6) (.int .i64 r.e.t)
  have h8 := Joins.block_setCell h7 (i := 7) (.int .i64 r.e.c)
  simp only [List.setIfInBounds_toArray, List.set_cons_zero, List.set_cons_succ] at h8
  exact h8

theorem below_eight {B : Nat} {a W : World} {b : Nat} (h : Below B a W) (hb : B ≤ b) (v0 v1 v2 v3 v4 v5 v6 v7 : Value) :
    Below B a ((((((((W.setCell ⟨b, 0, none⟩ v0).setCell ⟨b, 1, none⟩ v1).setCell ⟨b, 2, none⟩ v2).setCell ⟨b, 3, none⟩ v3).setCell ⟨b, 4, none⟩ v4).setCell ⟨b, 5, none⟩ v5).setCell ⟨b, 6, none⟩ v6).setCell ⟨b, 7, none⟩ v7) :=
  (((((((h.setCell hb _).setCell hb _).setCell hb _).setCell hb _).setCell hb _).setCell hb _).setCell hb _).setCell hb _

end Go.Proofs.Ytaialgacaomaead
