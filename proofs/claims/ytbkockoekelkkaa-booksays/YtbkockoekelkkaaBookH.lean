/- The walk of the reference's BookOf. -/
import Derived.Test.YtbkockoekelkkaaBookG
namespace Go.Proofs.Ytbkockoekelkkaa
open Go.RowKit

theorem bfold_bad {js : List Jb} {rs : List Rg} {x : En} {r : List En} (h : (app js rs x).2 ≠ 0) : bfold js rs (x :: r) = (([], []), (app js rs x).2) := by rw [bfold, if_pos h]
theorem bfold_ok {js : List Jb} {rs : List Rg} {x : En} {r : List En} (h : (app js rs x).2 = 0) : bfold js rs (x :: r) = bfold (app js rs x).1.1 (app js rs x).1.2 r := by rw [bfold, if_neg (by simpa using h)]

end Go.Proofs.Ytbkockoekelkkaa
