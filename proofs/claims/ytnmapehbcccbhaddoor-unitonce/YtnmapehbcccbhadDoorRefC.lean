/- The reference's EntryText and whole. -/
import Derived.Test.YtnmapehbcccbhadDoorRefB
import Derived.Test.YtnmapehbcccbhadDoorEntryL
import Derived.Lib.ParseIntBTie
namespace Go.Proofs.YtnmapehbcccbhadDoor
open Go.RowKit

theorem itoa_any (n : Int) (w : World) (hL : Laid w) (h0 : -9223372036854775808 ≤ n) (h1 : n ≤ 9223372036854775807) :
    Calls Tryd.prog 36 #[.int .i64 n] w fun e w' => e = .returned (.string ⟨(Lib.itoa n).toArray⟩) ∧ Below w.heap.size w w' :=
  (Tryd.strconv_Itoa n h0 h1 w hL.pow).mono fun _ _ ⟨he, hw⟩ => ⟨he, below_itoa hw⟩

theorem data_append (a b : ByteArray) : (a ++ b).data.toList = a.data.toList ++ b.data.toList := by
  simp [ByteArray.data_append]
theorem ret_str {s : ByteArray} {l : List UInt8} (h : s.data.toList = l) : Ending.returned (.string s) = .returned (.string ⟨l.toArray⟩) := by
  obtain ⟨⟨x⟩⟩ := s
  subst h; rfl

theorem text_step {w W W' : World} {x : En} (h : (Laid W ∧ Below w.heap.size w W ∧ W.cell? ⟨w.heap.size, 0, none⟩ = some (.int .i64 x.k)) ∧ W.cell? ⟨w.heap.size, 1, none⟩ = some (.int .i64 x.j) ∧ W.cell? ⟨w.heap.size, 2, none⟩ = some (.int .i64 x.v) ∧ W.cell? ⟨w.heap.size, 3, none⟩ = some (.int .i64 x.t) ∧ W.cell? ⟨w.heap.size, 4, none⟩ = some (.int .i64 x.c)) (hb : Below W.heap.size W W') :
    (Laid W' ∧ Below w.heap.size w W' ∧ W'.cell? ⟨w.heap.size, 0, none⟩ = some (.int .i64 x.k)) ∧ W'.cell? ⟨w.heap.size, 1, none⟩ = some (.int .i64 x.j) ∧ W'.cell? ⟨w.heap.size, 2, none⟩ = some (.int .i64 x.v) ∧ W'.cell? ⟨w.heap.size, 3, none⟩ = some (.int .i64 x.t) ∧ W'.cell? ⟨w.heap.size, 4, none⟩ = some (.int .i64 x.c) :=
  ⟨⟨h.1.1.later hb, h.1.2.1.trans (hb.mono h.1.2.1.size), cell_later hb h.1.2.2⟩, cell_later hb h.2.1, cell_later hb h.2.2.1, cell_later hb h.2.2.2.1, cell_later hb h.2.2.2.2⟩
theorem text_laid {w W : World} {x : En} (h : (Laid W ∧ Below w.heap.size w W ∧ W.cell? ⟨w.heap.size, 0, none⟩ = some (.int .i64 x.k)) ∧ W.cell? ⟨w.heap.size, 1, none⟩ = some (.int .i64 x.j) ∧ W.cell? ⟨w.heap.size, 2, none⟩ = some (.int .i64 x.v) ∧ W.cell? ⟨w.heap.size, 3, none⟩ = some (.int .i64 x.t) ∧ W.cell? ⟨w.heap.size, 4, none⟩ = some (.int .i64 x.c)) : Laid W := h.1.1

end Go.Proofs.YtnmapehbcccbhadDoor
