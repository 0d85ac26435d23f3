/- Walks of package entry's small functions: inRange, numbers, build, kindOf, Check. -/
import Derived.Test.YtaialgacaomaeadRows
import Derived.WalkKit
import Derived.ProofKit
import Derived.Deep.LoopGhost
import Derived.Deep.Draws
import Derived.RegionTactic
import Derived.ChangeAlike
import Derived.Deep.QuietTactic
import Derived.BigQuiet
import Derived.Outline
import Derived.WalkLawsBesides
namespace Go.Proofs.Ytaialgacaomaead
open Go.RowKit

/-- A new block behind all that was there. -/
theorem grew {a w : World} (h : Below a.heap.size a w) (o : Obj) : Below a.heap.size a (w.alloc o) := h.alloc h.size o

/-- An entry, as a value. -/
abbrev ev (k j v t c : Int) : Value := .agg #[.int .i64 k, .int .i64 j, .int .i64 v, .int .i64 t, .int .i64 c]

/-- Are all numbers in range? -/
def inR (j v t c : Int) : Bool := decide (0 ≤ j ∧ j < 6 ∧ 0 ≤ v ∧ v ≤ 100 ∧ 0 ≤ t ∧ t ≤ 100000 ∧ 0 ≤ c ∧ c < 3)

theorem inR_false {j v t c : Int} (h : ¬ (0 ≤ j ∧ j < 6 ∧ 0 ≤ v ∧ v ≤ 100 ∧ 0 ≤ t ∧ t ≤ 100000 ∧ 0 ≤ c ∧ c < 3)) : inR j v t c = false := decide_eq_false h

set_option maxHeartbeats 1000000 in
theorem inRange_any (k j v t c : Int) (w : World) :
    Calls Try.prog 48 #[ev k j v t c] w fun e w' => e = .returned (.bool (inR j v t c)) ∧ w' = w.alloc (.cells #[.int .i64 k, .int .i64 j, .int .i64 v, .int .i64 t, .int .i64 c] 26) := by
  have hc : ¬ 0 ≤ j ∨ (0 ≤ j ∧ ¬ j < 6) ∨ (0 ≤ j ∧ j < 6 ∧ ¬ 0 ≤ v) ∨ (0 ≤ j ∧ j < 6 ∧ 0 ≤ v ∧ ¬ v ≤ 100) ∨ (0 ≤ j ∧ j < 6 ∧ 0 ≤ v ∧ v ≤ 100 ∧ ¬ 0 ≤ t) ∨
      (0 ≤ j ∧ j < 6 ∧ 0 ≤ v ∧ v ≤ 100 ∧ 0 ≤ t ∧ ¬ t ≤ 100000) ∨ (0 ≤ j ∧ j < 6 ∧ 0 ≤ v ∧ v ≤ 100 ∧ 0 ≤ t ∧ t ≤ 100000 ∧ ¬ 0 ≤ c) ∨
      (0 ≤ j ∧ j < 6 ∧ 0 ≤ v ∧ v ≤ 100 ∧ 0 ≤ t ∧ t ≤ 100000 ∧ 0 ≤ c ∧ ¬ c < 3) ∨ (0 ≤ j ∧ j < 6 ∧ 0 ≤ v ∧ v ≤ 100 ∧ 0 ≤ t ∧ t ≤ 100000 ∧ 0 ≤ c ∧ c < 3) := by omega
  rcases hc with h | ⟨h, h1⟩ | ⟨h, h1, h2⟩ | ⟨h, h1, h2, h3⟩ | ⟨h, h1, h2, h3, h4⟩ | ⟨h, h1, h2, h3, h4, h5⟩ | ⟨h, h1, h2, h3, h4, h5, h6⟩ | ⟨h, h1, h2, h3, h4, h5, h6, h7⟩ | ⟨h, h1, h2, h3, h4, h5, h6, h7⟩
  all_goals
    first
      | rw [inR_false (by omega)]
      | rw [show inR j v t c = true from decide_eq_true ⟨h, h1, h2, h3, h4, h5, h6, h7⟩]
    go_enter Try.func48, Try.ntmps48
    go_wp2
    go_ret
    exact ⟨rfl, rfl⟩

end Go.Proofs.Ytaialgacaomaead
