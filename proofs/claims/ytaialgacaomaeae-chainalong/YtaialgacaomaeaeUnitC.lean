/- The reference's FreshUnit: the library's slices.Repeat of one blank entry, sixty times. -/
import Derived.Test.YtaialgacaomaeaeUnitB
import Derived.Test.YtaialgacaomaeaeCopyK
namespace Go.Proofs.Ytaialgacaomaeae
open Go.RowKit

/-- So many blank entries' cells. -/
def repB (n : Nat) : List Value := (List.replicate n blankE).flatMap En.cells

theorem repB_len (n : Nat) : (repB n).length = n * 5 := by
  rw [repB, row_len En.five, List.length_replicate]

theorem repB_add (n k : Nat) : repB (n + k) = repB n ++ repB k := by
  rw [repB, repB, repB, ← List.flatMap_append, List.replicate_append_replicate]

theorem repB_one (n : Nat) : ∀ u ∈ repB n, u.oneCell' = true := oneE _

theorem sizeE : (Try.prog.info? 24).map (·.size) = some 5 := by kernel_rfl

theorem splice_tail {A T C : List Value} {n k : Nat} (hA : A.length = n * 5) (hC : C.length = k * 5) : splice (A ++ T) (n * 5) C = A ++ C ++ T.drop (k * 5) := by
  unfold splice
  rw [List.take_append_of_le_length (by omega), List.take_of_length_le (by omega), List.append_assoc, hC]
  congr 2
  rw [List.drop_append, List.drop_eq_nil_of_le (by omega), hA, List.nil_append]
  congr 1
  omega

/-- So many of a row of sixty are blank ones. -/
def RepAt (W : World) (g n : Nat) : Prop := ∃ tl : List Value, tl.length = (60 - n) * 5 ∧ W.heap[g]? = some (.cells (repB n ++ tl).toArray 24 (0, 0))

end Go.Proofs.Ytaialgacaomaeae
