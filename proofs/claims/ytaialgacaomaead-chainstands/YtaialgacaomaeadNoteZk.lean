/- Package note's Check. -/
import Derived.Test.YtaialgacaomaeadNoteB
namespace Go.Proofs.Ytaialgacaomaead
open Go.RowKit


/-- What is wrong with a write; with a seal. -/
def Rc.cw (r : Rc) : Int := if ¬(0 ≤ r.a ∧ r.a ≤ 59) then 3 else if ¬ r.p = 0 then 4 else r.e.chk
def Rc.cs (r : Rc) : Int := if ¬(1 ≤ r.p ∧ r.p ≤ 20) then 3 else if ¬ r.a = 0 ∨ r.e.some_ = true then 4 else 0

set_option maxHeartbeats 2000000 in
theorem checkWrite_any (r : Rc) (w : World) :
    Calls Try.prog 54 #[r.val] w fun e w' => e = .returned (.int .i64 r.cw) ∧ Below w.heap.size w w' := by
  have hB0 : Aside (Below w.heap.size w (w.alloc (boxRc r))) := grew (Below.refl _ _) _
  have hce := check_any r.e.k r.e.j r.e.v r.e.t r.e.c (w.alloc (boxRc r))
  change Calls _ _ _ _ fun e w' => e = .returned (.int .i64 r.e.chk) ∧ _ at hce
  have HC : Hid (r.cw = if ¬(0 ≤ r.a ∧ r.a ≤ 59) then 3 else if ¬ r.p = 0 then 4 else r.e.chk) := rfl
  generalize r.cw = d at *
  generalize r.e.chk = d' at *
  have hc : r.a < 0 ∨ (0 ≤ r.a ∧ 60 ≤ r.a) ∨ (0 ≤ r.a ∧ r.a < 60) := by omega
  rcases hc with h | ⟨h, h'⟩ | ⟨h, h'⟩
  · have HR : Hid (d = 3) := by rw [Hid, HC.out, if_pos (by omega)]
    clear HC
    go_enter Try.func54, Try.ntmps54
    go_wp2
    go_ret
    exact ⟨by rw [HR.out]; rfl, hB0.out⟩
  · have HR : Hid (d = 3) := by rw [Hid, HC.out, if_pos (by omega)]
    clear HC
    go_enter Try.func54, Try.ntmps54
    go_wp2
    go_ret
    exact ⟨by rw [HR.out]; rfl, hB0.out⟩
  · rw [if_neg (by omega)] at HC
    by_cases hp : r.p = 0
    · have HR : Hid (d = d') := by rw [Hid, HC.out, if_neg (by simpa using hp)]
      have hpb : (r.p != 0) = false := by rw [hp]; rfl
      clear HC hp
      go_enter Try.func54, Try.ntmps54
      go_wp2_with fail
      refine hce.mono ?_
      rintro e w2 ⟨rfl, hb2⟩
      have HB2 : Aside (Below w.heap.size w w2) := step_below1 hB0.out hb2
      clear hb2 hce
      go_wp2
      go_ret
      exact ⟨by rw [HR.out]; rfl, HB2.out⟩
    · have HR : Hid (d = 4) := by rw [Hid, HC.out, if_pos hp]
      have hpb : (r.p != 0) = true := by rw [bne_iff_ne]; exact hp
      clear HC hp
      go_enter Try.func54, Try.ntmps54
      go_wp2
      go_ret
      exact ⟨by rw [HR.out]; rfl, hB0.out⟩

set_option maxHeartbeats 2000000 in
theorem checkSeal_any (r : Rc) (w : World) :
    Calls Try.prog 55 #[r.val] w fun e w' => e = .returned (.int .i64 r.cs) ∧ Below w.heap.size w w' := by
  have hB0 : Aside (Below w.heap.size w (w.alloc (boxRc r))) := grew (Below.refl _ _) _
  have hne : ∀ W, (binOp .neq 26 (ev r.e.k r.e.j r.e.v r.e.t r.e.c) (ev 0 0 0 0 0)).run Try.prog W = .ok (.bool r.e.some_) W := fun W => neq_entry r.e.k r.e.j r.e.v r.e.t r.e.c 0 0 0 0 0 W
  have HC : Hid (r.cs = if ¬(1 ≤ r.p ∧ r.p ≤ 20) then 3 else if ¬ r.a = 0 ∨ r.e.some_ = true then 4 else 0) := rfl
  generalize r.cs = d at *
  generalize r.e.some_ = so at *
  have hc : r.p < 1 ∨ (1 ≤ r.p ∧ 20 < r.p) ∨ (1 ≤ r.p ∧ r.p ≤ 20) := by omega
  rcases hc with h | ⟨h, h'⟩ | ⟨h, h'⟩
  · have HR : Hid (d = 3) := by rw [Hid, HC.out, if_pos (by omega)]
    clear HC
    go_enter Try.func55, Try.ntmps55
    go_wp2
    go_ret
    exact ⟨by rw [HR.out]; rfl, hB0.out⟩
  · have HR : Hid (d = 3) := by rw [Hid, HC.out, if_pos (by omega)]
    clear HC
    go_enter Try.func55, Try.ntmps55
    go_wp2
    go_ret
    exact ⟨by rw [HR.out]; rfl, hB0.out⟩
  · rw [if_neg (by omega)] at HC
    by_cases ha : r.a = 0
    · cases so with
      | true =>
        have HR : Hid (d = 4) := by rw [Hid, HC.out, if_pos (Or.inr rfl)]
        have hab : (r.a != 0) = false := by rw [ha]; rfl
        clear HC ha
        go_enter Try.func55, Try.ntmps55
        go_wp2
        go_ret
        exact ⟨by rw [HR.out]; rfl, hB0.out⟩
      | false =>
        have HR : Hid (d = 0) := by rw [Hid, HC.out, if_neg (by simp [ha])]
        have hab : (r.a != 0) = false := by rw [ha]; rfl
        clear HC ha
        go_enter Try.func55, Try.ntmps55
        go_wp2
        go_ret
        exact ⟨by rw [HR.out]; rfl, hB0.out⟩
    · have HR : Hid (d = 4) := by rw [Hid, HC.out, if_pos (Or.inl ha)]
      have hab : (r.a != 0) = true := by rw [bne_iff_ne]; exact ha
      clear HC ha
      go_enter Try.func55, Try.ntmps55
      go_wp2
      go_ret
      exact ⟨by rw [HR.out]; rfl, hB0.out⟩

set_option maxHeartbeats 2000000 in
/-- Check, at every record. -/
theorem noteCheck_any (r : Rc) (w : World) :
    Calls Try.prog 45 #[r.val] w fun e w' => e = .returned (.int .i64 r.chk) ∧ Below w.heap.size w w' := by
  have hB0 : Aside (Below w.heap.size w (w.alloc (boxRc r))) := grew (Below.refl _ _) _
  have hcw := checkWrite_any r (w.alloc (boxRc r))
  have hcs := checkSeal_any r (w.alloc (boxRc r))
  have HC : Hid (r.chk = if r.k = 2 then r.cs else if ¬ r.k = 1 then 4 else r.cw) := rfl
  generalize r.chk = d at *
  generalize r.cw = d1 at *
  generalize r.cs = d2 at *
  by_cases h1 : r.k = 1
  · have HR : Hid (d = d1) := by rw [Hid, HC.out, if_neg (by omega), if_neg (by simpa using h1)]
    have hb1 : (r.k == 1) = true := by rw [h1]; rfl
    clear HC h1 hcs
    go_enter Try.func45, Try.ntmps45
    go_wp2_with fail
    refine hcw.mono ?_
    rintro e w2 ⟨rfl, hb2⟩
    have HB2 : Aside (Below w.heap.size w w2) := step_below1 hB0.out hb2
    clear hb2 hcw
    go_wp2
    go_ret
    exact ⟨by rw [HR.out]; rfl, HB2.out⟩
  · have hb1 : (r.k == 1) = false := by rw [beq_eq_false_iff_ne]; exact h1
    by_cases h2 : r.k = 2
    · have HR : Hid (d = d2) := by rw [Hid, HC.out, if_pos h2]
      have hb2 : (r.k == 2) = true := by rw [h2]; rfl
      clear HC h1 h2 hcw
      go_enter Try.func45, Try.ntmps45
      go_wp2_with fail
      refine hcs.mono ?_
      rintro e w2 ⟨rfl, hb3⟩
      have HB2 : Aside (Below w.heap.size w w2) := step_below1 hB0.out hb3
      clear hb3 hcs
      go_wp2
      go_ret
      exact ⟨by rw [HR.out]; rfl, HB2.out⟩
    · have HR : Hid (d = 4) := by rw [Hid, HC.out, if_neg h2, if_pos h1]
      have hb2 : (r.k == 2) = false := by rw [beq_eq_false_iff_ne]; exact h2
      clear HC h1 h2 hcw hcs
      go_enter Try.func45, Try.ntmps45
      go_wp2
      go_ret
      exact ⟨by rw [HR.out]; rfl, hB0.out⟩

end Go.Proofs.Ytaialgacaomaead
