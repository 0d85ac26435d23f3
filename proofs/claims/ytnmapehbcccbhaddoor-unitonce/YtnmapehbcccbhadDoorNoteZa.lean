/- Package note's number; strings.CutPrefix. -/
import Derived.Test.YtnmapehbcccbhadDoorNoteF
import Derived.Test.YtnmapehbcccbhadDoorNoteZk
namespace Go.Proofs.YtnmapehbcccbhadDoor
open Go.RowKit

set_option maxHeartbeats 1000000 in
theorem note_number (s : ByteArray) (w : World) (hL : Laid w) (hs : s.size ≤ 30000) :
    Calls Tryd.prog 66 #[.string s] w fun e w' => e = .returned (.tuple #[.int .i64 ((numOf s.data.toList).getD 0), .bool (numOf s.data.toList).isSome]) ∧ Below w.heap.size w w' := by
  cases h : Lib.atoiAll s.data.toList with
  | ok v =>
    have hb := Lib.atoiAll_bounds h
    have hat := Tryd.strconv_Atoi_ok s (by omega) v h
    by_cases hi : Lib.itoa v = s.data.toList
    · have hn : numOf s.data.toList = some v := by simp only [numOf, h, if_pos hi]
      rw [hn]
      go_enter Tryd.func66, Tryd.ntmps66
      go_wp2_with fail
      refine (hat _).mono ?_
      rintro e w1 ⟨rfl, hw⟩
      have hb1 : Below w.heap.size w w1 := by
        rcases hw with rfl | ⟨t, rfl⟩
        · exact Below.refl _ _
        · exact Lib.bytesWorld_below _ _ _
      clear hw
      go_wp2_with fail
      refine (Tryd.strconv_Itoa v hb.1 hb.2 _ (hL.later hb1).pow).mono ?_
      rintro e w2 ⟨rfl, hw2⟩
      have hb2 := hb1.trans ((below_itoa hw2).mono hb1.size)
      clear hw2
      go_wp2
      go_ret2
      exact ⟨rfl, hb2⟩
    · have hn : numOf s.data.toList = none := by simp only [numOf, h, if_neg hi]
      rw [hn]
      clear hn h
      have hne : (Lib.itoa v == s.toList) = false := by rw [bytes_toList]; simpa using hi
      clear hi
      go_enter Tryd.func66, Tryd.ntmps66
      go_wp2_with fail
      refine (hat _).mono ?_
      rintro e w1 ⟨rfl, hw⟩
      have hb1 : Below w.heap.size w w1 := by
        rcases hw with rfl | ⟨t, rfl⟩
        · exact Below.refl _ _
        · exact Lib.bytesWorld_below _ _ _
      clear hw
      go_wp2_with fail
      refine (Tryd.strconv_Itoa v hb.1 hb.2 _ (hL.later hb1).pow).mono ?_
      rintro e w2 ⟨rfl, hw2⟩
      have hb2 := hb1.trans ((below_itoa hw2).mono hb1.size)
      clear hw2
      go_wp2
      go_ret2
      exact ⟨rfl, hb2⟩
  | «syntax» =>
    have hn : numOf s.data.toList = none := by simp only [numOf, h]
    rw [hn]
    obtain ⟨tp, p, hv⟩ := hL.syn
    have hv0 : w.cell? ⟨6, 0, none⟩ = some (.iface tp p) := by have h0 := World.var?_cell gSyn hv 0; simpa using h0
    go_enter Tryd.func66, Tryd.ntmps66
    go_wp2_with fail
    refine (Tryd.strconv_Atoi_syntax s (by omega) h _ _ hv0 (Or.inr ⟨_, _, rfl⟩)).mono ?_
    rintro e w1 ⟨N, rfl, -, -, hb⟩
    go_wp2
    go_ret2
    exact ⟨rfl, hb⟩
  | range =>
    have hn : numOf s.data.toList = none := by simp only [numOf, h]
    rw [hn]
    obtain ⟨tp, p, hv⟩ := hL.rng
    have hv0 : w.cell? ⟨7, 0, none⟩ = some (.iface tp p) := by have h0 := World.var?_cell gRng hv 0; simpa using h0
    go_enter Tryd.func66, Tryd.ntmps66
    go_wp2_with fail
    refine (Tryd.strconv_Atoi_range s (by omega) h _ _ hv0 (Or.inr ⟨_, _, rfl⟩)).mono ?_
    rintro e w1 ⟨N, rfl, -, -, hb⟩
    go_wp2
    go_ret2
    exact ⟨rfl, hb⟩


end Go.Proofs.YtnmapehbcccbhadDoor
