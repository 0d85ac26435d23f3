/- Where a job is among what is due; the predicates that look for it. -/
import Derived.Test.YtbokdcdnandgbaeClientA
import Derived.Test.YtbokdcdnandgbaeBookZa
namespace Go.Proofs.Ytbokdcdnandgbae
open Go.RowKit

theorem into_few (x : Jb) : ∀ l : List Jb, (into x l).length = l.length + 1
  | [] => rfl
  | y :: s => by rw [into]; split <;> simp [into_few x s]
theorem dueOf_few (t : Int) : ∀ js : List Jb, (dueOf js t).length ≤ js.length
  | [] => by simp [dueOf]
  | x :: r => by
    have ih := dueOf_few t r
    rw [dueOf]
    split
    · rw [into_few]; simp; omega
    · simp; omega

/-- Where a job is among what is due. -/
theorem due_find {js : List Jb} {rs : List Rg} (hok : Ok js rs) (t j : Int) :
    (idx (fun y => y.i == j) (dueOf js t) = -1 ∧ ∀ z, tab js j = some z → t < z.n) ∨
      ∃ (k : Nat) (z : Jb), idx (fun y => y.i == j) (dueOf js t) = (k : Nat) ∧ k < (dueOf js t).length ∧ (dueOf js t)[k]? = some z ∧ tab js j = some z ∧ z.n ≤ t ∧ z.i = j ∧ z ∈ js := by
  rcases idx_ways (fun y : Jb => y.i == j) (dueOf js t) with ⟨h, hall⟩ | ⟨k, z, h, hk, hz, hp, _⟩
  · refine Or.inl ⟨h, fun z hz => ?_⟩
    have hid := tab_id hz
    by_cases hn : z.n ≤ t
    · have := hall z ((dueOf_mem t z js).2 ⟨hid.2, hn⟩)
      rw [hid.1] at this
      simp at this
    · omega
  · have hm := (dueOf_mem t z js).1 (List.mem_of_getElem? hz)
    have hi : z.i = j := by simpa using hp
    refine Or.inr ⟨k, z, h, hk, hz, ?_, hm.2, hi, hm.1⟩
    rw [← hi]
    exact tab_mem hok.srt z hm.1

set_option maxHeartbeats 1000000 in
theorem ring_pred (id : Int) (B : Nat) (w : World) (hB : B < w.heap.size) (hc : w.cell? ⟨B, 0, none⟩ = some (.int .i64 id)) (W : World) (x : Jb) (hb : Below w.heap.size w W) :
    Calls Try.prog 52 (#[x.val] ++ #[.pointer (some ⟨B, 0, none⟩)]) W fun e w' => e = .returned (.bool (x.i == id)) ∧ Below w.heap.size w w' := by
  have hc' : W.cell? ⟨B, 0, none⟩ = some (.int .i64 id) := (hb.cell (p := ⟨B, 0, none⟩) hB).trans hc
  have hBW : B < W.heap.size := Nat.lt_of_lt_of_le hB hb.size
  have hne : B ≠ W.heap.size := by omega
  show Calls Try.prog 52 #[x.val, .pointer (some ⟨B, 0, none⟩)] W _
  go_enter Try.func52, Try.ntmps52
  go_wp2
  all_goals (go_ret; exact ⟨by simp_all, hb.alloc hb.size _⟩)

set_option maxHeartbeats 1000000 in
theorem lring_pred (id : Int) (B : Nat) (w : World) (hB : B < w.heap.size) (hc : w.cell? ⟨B, 0, none⟩ = some (.int .i64 id)) (W : World) (x : Jb) (hb : Below w.heap.size w W) :
    Calls Try.prog 37 (#[x.val] ++ #[.pointer (some ⟨B, 0, none⟩)]) W fun e w' => e = .returned (.bool (x.i == id)) ∧ Below w.heap.size w w' := by
  have hc' : W.cell? ⟨B, 0, none⟩ = some (.int .i64 id) := (hb.cell (p := ⟨B, 0, none⟩) hB).trans hc
  have hBW : B < W.heap.size := Nat.lt_of_lt_of_le hB hb.size
  have hne : B ≠ W.heap.size := by omega
  show Calls Try.prog 37 #[x.val, .pointer (some ⟨B, 0, none⟩)] W _
  go_enter Try.func37, Try.ntmps37
  go_wp2
  all_goals (go_ret; exact ⟨by simp_all, hb.alloc hb.size _⟩)

end Go.Proofs.Ytbokdcdnandgbae
