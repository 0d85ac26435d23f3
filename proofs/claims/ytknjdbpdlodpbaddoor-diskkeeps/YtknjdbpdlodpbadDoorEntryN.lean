/- The closed fact 'worded' of the laws on entries. -/
import Derived.Test.YtknjdbpdlodpbadDoorEntryL
import Derived.Test.YtknjdbpdlodpbadDoorEql
import Derived.Deep.RegionHeld3
namespace Go.Proofs.YtknjdbpdlodpbadDoor
open Go.RowKit

theorem itoa1 (u : Nat) (h : u < 10) : Lib.itoa (u : Int) = [UInt8.ofNat (48 + u)] := by
  unfold Lib.itoa; rw [if_neg (by omega)]; simp only [Int.toNat_natCast]; exact Lib.decDigits_one h
theorem itoa2 (u : Nat) (h : ¬ u < 10) (h' : u < 100) : Lib.itoa (u : Int) = [UInt8.ofNat (48 + u / 10), UInt8.ofNat (48 + u % 10)] := by
  unfold Lib.itoa; rw [if_neg (by omega)]; simp only [Int.toNat_natCast]; exact Lib.decDigits_two h h'

theorem e1_txt : e1.txt = [112, 117, 116, 32, 50, 32, 53, 32, 49, 48] := by
  have h2 := itoa1 2 (by omega)
  have h5 := itoa1 5 (by omega)
  have h10 := itoa2 10 (by omega) (by omega)
  show Lib.join [nameL 1, Lib.itoa ((2 : Nat) : Int), Lib.itoa ((5 : Nat) : Int), Lib.itoa ((10 : Nat) : Int)] [32] = _
  rw [h2, h5, h10]
  decide

theorem bad_prs : (prs [112, 117, 116, 32, 50, 32, 48, 32, 49, 48]).1 = En.zero ∧ (prs [112, 117, 116, 32, 50, 32, 48, 32, 49, 48]).2 = 4 := by
  have n2 : numOf [50] = some 2 := numOf_itoa 2 (by omega) (by omega) ▸ (by rw [show Lib.itoa 2 = [50] from itoa1 2 (by omega)])
  have n0 : numOf [48] = some 0 := numOf_itoa 0 (by omega) (by omega) ▸ (by rw [show Lib.itoa 0 = [48] from itoa1 0 (by omega)])
  have n10 : numOf [49, 48] = some 10 := numOf_itoa 10 (by omega) (by omega) ▸ (by rw [show Lib.itoa 10 = [49, 48] from itoa2 10 (by omega) (by omega)])
  have hs : spl 4 [112, 117, 116, 32, 50, 32, 48, 32, 49, 48] = some [[112, 117, 116], [50], [48], [49, 48]] := by decide
  have hr : rd [112, 117, 116, 32, 50, 32, 48, 32, 49, 48] = some (1, 2, 0, 10) := by
    rw [rd, hs]
    exact rdW_some (by decide) (by omega) rfl n2 n0 n10
  have hc : (rdEn (1, 2, 0, 10)).chk = 4 := by decide
  unfold prs
  rw [if_neg (by decide), hr]
  simp only [hc]
  exact ⟨rfl, rfl⟩

end Go.Proofs.YtknjdbpdlodpbadDoor
