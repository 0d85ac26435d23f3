/- The closed fact 'worded' of the laws on entries. -/
import Derived.Test.YtlfennkdknodhaaDoorEntryL
import Derived.Deep.RegionHeld3
namespace Go.Proofs.YtlfennkdknodhaaDoor
open Go.RowKit

theorem eql_entry (k j v t c k' j' v' t' c' : Int) (w : World) :
    (binOp .eql 23 (ev k j v t c) (ev k' j' v' t' c')).run Tryd.prog w = .ok (.bool (!unlike k j v t c k' j' v' t' c')) w := by
  have u3 := Tryd.underlying3
  have a3 := Tryd.isAgg3
  have z3 := Tryd.sizeOf3
  have hS : Tryd.prog.underlying 23 = some (.struct (Tryd.prog.fieldsOf 23)) := by kernel_rfl
  have hp : Tryd.prog.stoodInHeld 23 = false := by kernel_rfl
  rw [run_eql_struct, show (10000 : Nat) = 9999 + 1 from rfl, run_equalIn_agg w 9999 23 _ _ hS hp]
  simp only [Program.fieldsOf, Tryd.underlying23]
  go_simp
  unfold unlike
  by_cases h1 : k = k' <;> by_cases h2 : j = j' <;> by_cases h3 : v = v' <;> by_cases h4 : t = t' <;> by_cases h5 : c = c' <;> simp [h1, h2, h3, h4, h5]

theorem put_any (a b c : Int) (w : World) :
    Calls Tryd.prog 28 #[.int .i64 a, .int .i64 b, .int .i64 c] w fun e w' => e = .returned (ev 1 a b c 0) ∧ w' = w.alloc (boxE 1 a b c 0) := by
  go_enter Tryd.func28, Tryd.ntmps28
  go_wp2
  exact bodyPost_ret (v := ev 1 a b c 0) (by simp [results, Tryd.results28, go_sem]) rfl ⟨rfl, rfl⟩

def e1 : En := ⟨1, 2, 5, 10, 0⟩

theorem e1_chk : e1.chk = 0 := by decide
theorem itoa1 (u : Nat) (h : u < 10) : Lib.itoa (u : Int) = [UInt8.ofNat (48 + u)] := by
  unfold Lib.itoa; rw [if_neg (by omega)]; simp only [Int.toNat_natCast]; exact Lib.decDigits_one h
theorem itoa2 (u : Nat) (h : ¬ u < 10) (h' : u < 100) : Lib.itoa (u : Int) = [UInt8.ofNat (48 + u / 10), UInt8.ofNat (48 + u % 10)] := by
  unfold Lib.itoa; rw [if_neg (by omega)]; simp only [Int.toNat_natCast]; exact Lib.decDigits_two h h'

theorem e1_txt : e1.txt = [112, 117, 116, 32, 50, 32, 53, 32, 49, 48] := by
  have h2 := itoa1 2 (by omega)
  have h5 := itoa1 5 (by omega)
  have h10 := itoa2 10 (by omega) (by omega)
  show Lib.join [nameL 1, Lib.itoa ((2 : Nat) : Int), Lib.itoa ((5 : Nat) : Int), Lib.itoa ((10 : Nat) : Int)] [32] = _
  rw [h2, h5, h10]
  decide

theorem bad_prs : (prs [112, 117, 116, 32, 50, 32, 48, 32, 49, 48]).1 = En.zero ∧ (prs [112, 117, 116, 32, 50, 32, 48, 32, 49, 48]).2 = 4 := by
  have n2 : numOf [50] = some 2 := numOf_itoa 2 (by omega) (by omega) ▸ (by rw [show Lib.itoa 2 = [50] from itoa1 2 (by omega)])
  have n0 : numOf [48] = some 0 := numOf_itoa 0 (by omega) (by omega) ▸ (by rw [show Lib.itoa 0 = [48] from itoa1 0 (by omega)])
  have n10 : numOf [49, 48] = some 10 := numOf_itoa 10 (by omega) (by omega) ▸ (by rw [show Lib.itoa 10 = [49, 48] from itoa2 10 (by omega) (by omega)])
  have hs : spl 4 [112, 117, 116, 32, 50, 32, 48, 32, 49, 48] = some [[112, 117, 116], [50], [48], [49, 48]] := by decide
  have hr : rd [112, 117, 116, 32, 50, 32, 48, 32, 49, 48] = some (1, 2, 0, 10) := by
    rw [rd, hs]
    exact rdW_some (by decide) (by omega) rfl n2 n0 n10
  have hc : (rdEn (1, 2, 0, 10)).chk = 4 := by decide
  unfold prs
  rw [if_neg (by decide), hr]
  simp only [hc]
  exact ⟨rfl, rfl⟩

set_option maxHeartbeats 2000000 in
theorem worded_any (w : World) (hL : Laid w) :
    Calls Tryd.prog 11 #[] w fun e w' => e = .returned (.bool true) ∧ Below w.heap.size w w' := by
  have hp := fun W hW => print_any e1 W hW
  rw [En.ptx, if_pos e1_chk, e1_txt, e1_chk] at hp
  have hq := fun W hW => parse_any ⟨#[112, 117, 116, 32, 50, 32, 53, 32, 49, 48]⟩ W hW
  have e1p : prs (⟨#[112, 117, 116, 32, 50, 32, 53, 32, 49, 48]⟩ : ByteArray).data.toList = (e1, 0) := by
    have := prs_txt e1_chk; rw [e1_txt] at this; exact this
  rw [e1p] at hq
  have hr := fun W hW => parse_any ⟨#[112, 117, 116, 32, 50, 32, 48, 32, 49, 48]⟩ W hW
  have e2p : prs (⟨#[112, 117, 116, 32, 50, 32, 48, 32, 49, 48]⟩ : ByteArray).data.toList = (En.zero, 4) := Prod.ext bad_prs.1 bad_prs.2
  rw [e2p] at hr
  clear e1p e2p
  go_enter Tryd.func11, Tryd.ntmps11
  go_wp2_with fail
  refine (put_any _ _ _ _).mono ?_
  rintro e w1 ⟨rfl, rfl⟩
  go_wp2_with fail
  refine (hp _ (hL.later (grew (Below.refl _ _) _))).mono ?_
  rintro e w2 ⟨rfl, hb2⟩
  have hb2 : Below w.heap.size w w2 := (grew (Below.refl _ _) _).trans (hb2.mono (by simp))
  go_wp2_with fail
  refine (hq _ (hL.later hb2)).mono ?_
  rintro e w3 ⟨rfl, hb3⟩
  have hb3 : Below w.heap.size w w3 := hb2.trans (hb3.mono hb2.size)
  go_wp2_with fail
  refine (hr _ (hL.later (grew hb3 _))).mono ?_
  rintro e w4 ⟨rfl, hb4⟩
  have hE : w4.heap[w3.heap.size]? = some (boxE 1 2 5 10 0) := by rw [hb4.block _ (by simp)]; exact heap_new _ _
  have hb4' : Below w.heap.size w w4 := (grew hb3 _).trans (hb4.mono (by simp; exact Nat.le_succ_of_le hb3.size))
  have hlt : w3.heap.size < w4.heap.size := heap_lt hE
  clear hb4 hp hq hr hb2 hb3
  have c0 : ∀ i, w4.cell? ⟨w3.heap.size, i, none⟩ = #[Value.int .i64 1, .int .i64 2, .int .i64 5, .int .i64 10, .int .i64 0][i]? := fun i => Joins.cell_of_block hE i
  have hne : ∀ W, (binOp .eql 23 (ev 1 2 5 10 0) (ev 1 2 5 10 0)).run Tryd.prog W = .ok (.bool true) W := fun W => eql_entry 1 2 5 10 0 1 2 5 10 0 W
  go_wp2_with fail
  generalize w3.heap.size = eb at *
  have k0 := c0 0
  have k1 := c0 1
  have k2 := c0 2
  have k3 := c0 3
  have k4 := c0 4
  simp only [List.getElem?_toArray, List.getElem?_cons_zero, List.getElem?_cons_succ] at k0 k1 k2 k3 k4
  clear c0 hE
  go_region_held3 (fun w' => w'.cell? ⟨eb, 0, none⟩ = some (.int .i64 1) ∧ w'.cell? ⟨eb, 1, none⟩ = some (.int .i64 2) ∧ w'.cell? ⟨eb, 2, none⟩ = some (.int .i64 5) ∧ w'.cell? ⟨eb, 3, none⟩ = some (.int .i64 10) ∧ w'.cell? ⟨eb, 4, none⟩ = some (.int .i64 0)) (go_keep) (first | (go_at_call 28; refine (put_any _ _ _ _).mono ?_; rintro e w' ⟨rfl, rfl⟩))
  all_goals
    go_wp2
    go_ret
    refine ⟨rfl, ?_⟩
    repeat (first | exact hb4' | refine Below.drew ?_ | refine grew ?_ _)

end Go.Proofs.YtlfennkdknodhaaDoor
