/- Walks of package entry's numbers and build. -/
import Derived.Test.YtaialgacaomaeadEntryA
namespace Go.Proofs.Ytaialgacaomaead
open Go.RowKit

/-- The numbers of an entry that its kind has a use for, in the order of its text. -/
def num0 (k j : Int) : Int := if k = 1 ∨ k = 2 ∨ k = 3 then j else 0
def num1 (k v t : Int) : Int := if k = 1 then v else if k = 3 then t else 0
def num2 (k t c : Int) : Int := if k = 1 then t else if k = 3 then c else 0

abbrev nv (a b c : Int) : Value := .agg #[.int .i64 a, .int .i64 b, .int .i64 c]

theorem cases4 (k : Int) : k = 1 ∨ k = 2 ∨ k = 3 ∨ ((k == 1) = false ∧ (k == 2) = false ∧ (k == 3) = false) := by
  simp only [beq_eq_false_iff_ne]; omega

set_option maxHeartbeats 1000000 in
theorem numbers_any (k j v t c : Int) (w : World) :
    Calls Try.prog 50 #[ev k j v t c] w fun e w' => e = .returned (nv (num0 k j) (num1 k v t) (num2 k t c)) ∧
      w' = (w.alloc (.cells #[.int .i64 k, .int .i64 j, .int .i64 v, .int .i64 t, .int .i64 c] 26)).alloc (.cells #[.int .i64 (num0 k j), .int .i64 (num1 k v t), .int .i64 (num2 k t c)] 66) := by
  rcases cases4 k with rfl | rfl | rfl | ⟨h1, h2, h3⟩
  case inr.inr.inr =>
    rw [show num0 k j = 0 from if_neg (by simp at h1 h2 h3; omega), show num1 k v t = 0 from by rw [num1, if_neg (by simpa using h1), if_neg (by simpa using h3)], show num2 k t c = 0 from by rw [num2, if_neg (by simpa using h1), if_neg (by simpa using h3)]]
    go_enter Try.func50, Try.ntmps50
    go_wp2
    exact bodyPost_ret (v := nv 0 0 0) (by simp [results, Try.results50, go_sem]) rfl ⟨rfl, rfl⟩
  · rw [show num0 1 j = j from rfl, show num1 1 v t = v from rfl, show num2 1 t c = t from rfl]
    go_enter Try.func50, Try.ntmps50
    go_wp2
    exact bodyPost_ret (v := nv j v t) (by simp [results, Try.results50, go_sem]) rfl ⟨rfl, rfl⟩
  · rw [show num0 2 j = j from rfl, show num1 2 v t = 0 from rfl, show num2 2 t c = 0 from rfl]
    go_enter Try.func50, Try.ntmps50
    go_wp2
    exact bodyPost_ret (v := nv j 0 0) (by simp [results, Try.results50, go_sem]) rfl ⟨rfl, rfl⟩
  · rw [show num0 3 j = j from rfl, show num1 3 v t = t from rfl, show num2 3 t c = c from rfl]
    go_enter Try.func50, Try.ntmps50
    go_wp2
    exact bodyPost_ret (v := nv j t c) (by simp [results, Try.results50, go_sem]) rfl ⟨rfl, rfl⟩

/-- The entry of this kind that has these numbers: its fields behind the kind. -/
def bJob (k a : Int) : Int := if k = 1 ∨ k = 2 ∨ k = 3 then a else 0
def bEvery (k b : Int) : Int := if k = 1 then b else 0
def bTime (k b c : Int) : Int := if k = 1 then c else if k = 3 then b else 0
def bClient (k c : Int) : Int := if k = 3 then c else 0

set_option maxHeartbeats 1000000 in
theorem build_any (k a b c : Int) (w : World) :
    Calls Try.prog 49 #[.int .i64 k, nv a b c] w fun e w' => e = .returned (ev k (bJob k a) (bEvery k b) (bTime k b c) (bClient k c)) ∧
      w' = (w.alloc (.cells #[.int .i64 a, .int .i64 b, .int .i64 c] 66)).alloc (.cells #[.int .i64 k, .int .i64 (bJob k a), .int .i64 (bEvery k b), .int .i64 (bTime k b c), .int .i64 (bClient k c)] 26) := by
  rcases cases4 k with rfl | rfl | rfl | ⟨h1, h2, h3⟩
  case inr.inr.inr =>
    rw [show bJob k a = 0 from if_neg (by simp at h1 h2 h3; omega), show bEvery k b = 0 from if_neg (by simpa using h1), show bTime k b c = 0 from by rw [bTime, if_neg (by simpa using h1), if_neg (by simpa using h3)], show bClient k c = 0 from if_neg (by simpa using h3)]
    go_enter Try.func49, Try.ntmps49
    go_wp2
    exact bodyPost_ret (v := ev k 0 0 0 0) (by simp [results, Try.results49, go_sem]) rfl ⟨rfl, rfl⟩
  · rw [show bJob 1 a = a from rfl, show bEvery 1 b = b from rfl, show bTime 1 b c = c from rfl, show bClient 1 c = 0 from rfl]
    go_enter Try.func49, Try.ntmps49
    go_wp2
    exact bodyPost_ret (v := ev 1 a b c 0) (by simp [results, Try.results49, go_sem]) rfl ⟨rfl, rfl⟩
  · rw [show bJob 2 a = a from rfl, show bEvery 2 b = 0 from rfl, show bTime 2 b c = 0 from rfl, show bClient 2 c = 0 from rfl]
    go_enter Try.func49, Try.ntmps49
    go_wp2
    exact bodyPost_ret (v := ev 2 a 0 0 0) (by simp [results, Try.results49, go_sem]) rfl ⟨rfl, rfl⟩
  · rw [show bJob 3 a = a from rfl, show bEvery 3 b = 0 from rfl, show bTime 3 b c = b from rfl, show bClient 3 c = c from rfl]
    go_enter Try.func49, Try.ntmps49
    go_wp2
    exact bodyPost_ret (v := ev 3 a 0 b c) (by simp [results, Try.results49, go_sem]) rfl ⟨rfl, rfl⟩

end Go.Proofs.Ytaialgacaomaead
