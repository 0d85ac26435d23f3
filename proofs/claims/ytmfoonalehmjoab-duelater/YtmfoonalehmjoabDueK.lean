/- slices.SortFunc at few jobs; the walk of the reference's DueAt. -/
import Derived.Test.YtmfoonalehmjoabDueJ
namespace Go.Proofs.Ytmfoonalehmjoab
open Go.RowKit Go.Shelf

/-- The row's order, as the reference's comparison tells it. -/
theorem cmp_pred (x y : Jb) (W : World) (hx : (0 ≤ x.i ∧ x.i ≤ 5) ∧ (0 ≤ x.n ∧ x.n ≤ 100100)) (hy : (0 ≤ y.i ∧ y.i ≤ 5) ∧ (0 ≤ y.n ∧ y.n ≤ 100100)) :
    Calls Try.prog 51 (#[x.val, y.val] ++ #[]) W fun e w' => ∃ q : Int, e = .returned (.int .i64 q) ∧ (q < 0 ↔ x.ahead y) ∧ Below W.heap.size W w' := by
  obtain ⟨⟨a1, a2⟩, a3, a4⟩ := hx
  obtain ⟨⟨b1, b2⟩, b3, b4⟩ := hy
  show Calls Try.prog 51 #[x.val, y.val] W _
  go_enter Try.func51, Try.ntmps51
  go_wp2
  go_ret
  refine ⟨(x.n - y.n) * 10 + x.i - y.i, rfl, ?_, grew (grew (Below.refl _ _) _) _⟩
  unfold Jb.ahead
  omega

set_option maxHeartbeats 2000000 in
theorem pdq (g : Nat) (lb : Array Value) (v : Value) (n : Nat) (lim : Int) (w : World) (R : World → Prop) (hv : ∃ a c, v = .slice a n c) (hn : n ≤ 12)
    (hs : Calls Try.prog 68 #[v, .int .i64 0, .int .i64 n, .func (.func g) #[] lb] w fun e w' => e = .returned (.tuple #[]) ∧ R w') :
    Calls Try.prog 60 #[v, .int .i64 0, .int .i64 n, .int .i64 lim, .func (.func g) #[] lb] w fun e w' => e = .returned (.tuple #[]) ∧ R w' := by
  obtain ⟨a, c, rfl⟩ := hv
  have hn' : (n : Int) ≤ 12 := by omega
  go_enter Try.func60, Try.ntmps60
  go_wp2_with fail
  refine wp_loop_once ?_
  go_wp2_with fail
  refine hs.mono ?_
  rintro e w1 ⟨rfl, hR⟩
  go_wp2
  exact bodyPost_ret (v := .tuple #[]) (by simp [results, go_sem]) rfl ⟨rfl, hR⟩

set_option maxHeartbeats 4000000 in
set_option maxRecDepth 100000 in
theorem bitsLen64 (n : Nat) (hn : n ≤ 12) (w : World) : Calls Try.prog 77 #[.int .u64 n] w fun e w' => ∃ q : Int, e = .returned (.int .i64 q) ∧ w' = w := by
  obtain rfl | rfl | rfl | rfl | rfl | rfl | rfl | rfl | rfl | rfl | rfl | rfl | rfl : n = 0 ∨ n = 1 ∨ n = 2 ∨ n = 3 ∨ n = 4 ∨ n = 5 ∨ n = 6 ∨ n = 7 ∨ n = 8 ∨ n = 9 ∨ n = 10 ∨ n = 11 ∨ n = 12 := by omega
  all_goals
    go_enter Try.func77, Try.ntmps77
    go_wp2
    go_ret
    exact ⟨_, rfl, rfl⟩

set_option maxHeartbeats 2000000 in
theorem bitsLen (n : Nat) (hn : n ≤ 12) (w : World) : Calls Try.prog 61 #[.int .u64 n] w fun e w' => ∃ q : Int, e = .returned (.int .i64 q) ∧ w' = w := by
  have hl := bitsLen64 n hn w
  go_enter Try.func61, Try.ntmps61
  go_wp2_with fail
  refine hl.mono ?_
  rintro e w1 ⟨q, rfl, rfl⟩
  go_wp2
  go_ret
  exact ⟨_, rfl, rfl⟩

set_option maxHeartbeats 2000000 in
theorem sortF (g : Nat) (lb : Array Value) (v : Value) (n : Nat) (w : World) (R : World → Prop) (hv : ∃ a c, v = .slice a n c) (hn : n ≤ 12)
    (hs : Calls Try.prog 68 #[v, .int .i64 0, .int .i64 n, .func (.func g) #[] lb] w fun e w' => e = .returned (.tuple #[]) ∧ R w') :
    Calls Try.prog 46 #[v, .func (.func g) #[] lb] w fun e w' => e = .returned (.tuple #[]) ∧ R w' := by
  have hp := fun lim => pdq g lb v n lim w R hv hn hs
  have hl := bitsLen n hn w
  obtain ⟨a, c, rfl⟩ := hv
  have hn' : (n : Int) ≤ 12 := by omega
  clear hs
  go_enter Try.func46, Try.ntmps46
  go_wp2_with fail
  refine hl.mono ?_
  rintro e w1 ⟨q, rfl, rfl⟩
  go_wp2_with fail
  refine (hp _).mono ?_
  rintro e w2 ⟨rfl, hR⟩
  go_wp2
  exact bodyPost_end (v := .tuple #[]) (by simp [results, go_sem]) rfl ⟨rfl, hR⟩

end Go.Proofs.Ytmfoonalehmjoab
