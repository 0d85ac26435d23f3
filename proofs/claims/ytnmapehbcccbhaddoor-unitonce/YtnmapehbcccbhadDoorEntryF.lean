/- The walk of package entry's Print. -/
import Derived.Test.YtnmapehbcccbhadDoorEntryE
import Derived.Lib.ItoaLen
import Derived.Lib.Join
namespace Go.Proofs.YtnmapehbcccbhadDoor
open Go.RowKit

abbrev box4 (a b c d : ByteArray) : Obj := .cells #[.string a, .string b, .string c, .string d] 84

/-- The numeral, once it is written. -/
def upTo (n i : Nat) (x : Int) : ByteArray := if i < n then ⟨(Lib.itoa x).toArray⟩ else ⟨#[]⟩

theorem join_any (wb : Nat) (nm a b c : ByteArray) (n : Nat) (xs : List ByteArray) (W : World) (hW : W.heap[wb]? = some (box4 nm a b c)) (hx : xs = [nm, a, b, c].take n) (hn : n ≤ 4)
    (hm : nm.data.toList.length ≤ 30) (ha : a.data.toList.length ≤ 30) (hb : b.data.toList.length ≤ 30) (hc : c.data.toList.length ≤ 30) :
    Calls Tryd.prog 48 #[.slice (some ⟨wb, 0, none⟩) n 4, .string ⟨#[32]⟩] W fun e w' => e = .returned (.string ⟨(Lib.join (xs.map (·.data.toList)) [32]).toArray⟩) ∧ Below W.heap.size W w' := by
  have hl : xs.length = n := by subst hx; simp; omega
  have hj : (Lib.join (xs.map (·.data.toList)) (⟨#[32]⟩ : ByteArray).data.toList).length ≤ 140737488355328 := by
    have : (Lib.join (xs.map (·.data.toList)) [32]).length ≤ 200 := by
      subst hx
      have hn' : n = 0 ∨ n = 1 ∨ n = 2 ∨ n = 3 ∨ n = 4 := by omega
      rcases hn' with rfl | rfl | rfl | rfl | rfl
      · simp only [List.take, List.map, Lib.join_nil, List.length_nil]; omega
      all_goals
        simp only [List.take, List.map, Lib.join_cons, Lib.joinTail, List.flatten_cons, List.flatten_nil, List.length_append, List.length_cons, List.length_nil, List.nil_append, List.cons_append]
        omega
    exact Nat.le_trans this (by omega)
  have h := Tryd.strings_Join wb 0 4 xs ⟨#[32]⟩ W (fun i x hi => by
    rw [Joins.cell_of_block hW]
    subst hx
    rw [List.getElem?_take] at hi
    split at hi
    · have hi4 : i < 4 := by omega
      have : i = 0 ∨ i = 1 ∨ i = 2 ∨ i = 3 := by omega
      rcases this with rfl | rfl | rfl | rfl <;> simp at hi <;> subst hi <;> rfl
    · cases hi) (heap_lt hW) (by omega) (by omega) hj
  rw [hl] at h
  exact h

theorem itoa_le (x : Int) (h0 : 0 ≤ x) (h1 : x ≤ 100000) : (⟨(Lib.itoa x).toArray⟩ : ByteArray).data.toList.length ≤ 30 := by
  have := Lib.itoa_length_le x (by omega) (by omega)
  show (Lib.itoa x).length ≤ 30
  omega

theorem print_bad (k j v t c : Int) (w : World) (hbad : (chk k j v t c != 0) = true) :
    Calls Tryd.prog 37 #[ev k j v t c] w fun e w' => e = .returned (.tuple #[.string ⟨#[]⟩, .int .i64 (chk k j v t c)]) ∧ Below w.heap.size w w' := by
  have hch := fun W => check_any k j v t c W
  generalize chk k j v t c = n at *
  go_enter Tryd.func37, Tryd.ntmps37
  go_wp2_with fail
  refine (hch _).mono ?_
  rintro e w1 ⟨rfl, hb⟩
  go_wp2
  go_ret2
  exact ⟨rfl, (grew (Below.refl _ _) _).trans (hb.mono (by simp))⟩

set_option maxHeartbeats 2000000 in
theorem print_ok (k j v t c : Int) (nm : ByteArray) (cnt : Nat) (n0 n1 n2 : Int) (w : World) (hL : Laid w) (h0 : 0 ≤ k) (h3 : k ≤ 3) (hcnt : cnt ≤ 3) (hnl : nm.data.toList.length ≤ 30) (hok : chk k j v t c = 0)
    (hn0 : num0 k j = n0) (hn1 : num1 k v t = n1) (hn2 : num2 k t c = n2)
    (b0 : 0 ≤ n0 ∧ n0 ≤ 100000) (b1 : 0 ≤ n1 ∧ n1 ≤ 100000) (b2 : 0 ≤ n2 ∧ n2 ≤ 100000)
    (hnm : ∀ W, Laid W → W.cell? ⟨0, k.toNat, none⟩ = some (.string nm))
    (hct : ∀ W, Laid W → W.cell? ⟨1, k.toNat, none⟩ = some (.int .i64 cnt)) :
    Calls Tryd.prog 37 #[ev k j v t c] w fun e w' =>
      e = .returned (.tuple #[.string ⟨(Lib.join ([nm.data.toList, Lib.itoa n0, Lib.itoa n1, Lib.itoa n2].take (1 + cnt)) [32]).toArray⟩, .int .i64 0]) ∧ Below w.heap.size w w' := by
  have hch := fun W => check_any k j v t c W
  rw [hok] at hch
  have hnum := fun W => numbers_any k j v t c W
  rw [hn0, hn1, hn2] at hnum
  clear hok hn0 hn1 hn2
  go_enter Tryd.func37, Tryd.ntmps37
  go_wp2_with fail
  refine (hch _).mono ?_
  rintro e w1 ⟨rfl, hb⟩
  have hbox : w1.heap[w.heap.size]? = some (boxE k j v t c) := by rw [hb.block _ (by simp)]; exact heap_new _ _
  have hb1 : Below w.heap.size w w1 := (grew (Below.refl _ _) _).trans (hb.mono (by simp))
  have hL1 := hL.later hb1
  have hlt : w.heap.size < w1.heap.size := by have := hb.size; simp at this; omega
  clear hb
  have hn := hnm w1 hL1
  have c0 : ∀ i, w1.cell? ⟨w.heap.size, i, none⟩ = #[Value.int .i64 k, .int .i64 j, .int .i64 v, .int .i64 t, .int .i64 c][i]? := fun i => Joins.cell_of_block hbox i
  go_wp2_with fail
  refine (hnum _).mono ?_
  rintro e w2 ⟨rfl, hw2⟩
  have hbW : w2.heap[w1.heap.size]? = some (box4 nm ⟨#[]⟩ ⟨#[]⟩ ⟨#[]⟩) := by rw [hw2]; exact heap_old (heap_old (heap_new _ _) _) _
  have hb2 : Below w.heap.size w w2 := by rw [hw2]; exact grew (grew (grew hb1 _) _) _
  have hbox2 : w2.heap[w.heap.size]? = some (boxE k j v t c) := by rw [hw2]; exact heap_old (heap_old (heap_old hbox _) _) _
  generalize w1.heap.size = wb at *
  clear hw2 hbox c0 hnum hch hb1 hL1 hn hnm
  go_wp2
  go_loopw [20] (fun i wr => ∃ n : Nat, n ≤ 3 ∧ i = .int .i64 n ∧ wr.heap[wb]? = some (box4 nm (upTo n 0 n0) (upTo n 1 n1) (upTo n 2 n2)) ∧ wr.heap[w.heap.size]? = some (boxE k j v t c) ∧ Below w.heap.size w wr)
    (fun i _ => 3 - (intOf i).toNat)
  case atStart => exact ⟨0, by omega, rfl, hbW, hbox2, hb2⟩
  case round =>
    clear hbW hbox2 hb2
    obtain ⟨n, hn, rfl, hW, hB, hb⟩ := hrel
    have hLr := hL.later hb
    have hlW := heap_lt hW
    have i0 : ∀ W, (Instr.index 82 (nv n0 n1 n2) (.int .i64 0)).run Tryd.prog W = .ok (.int .i64 n0) W := fun _ => by kernel_rfl
    have i1 : ∀ W, (Instr.index 82 (nv n0 n1 n2) (.int .i64 1)).run Tryd.prog W = .ok (.int .i64 n1) W := fun _ => by kernel_rfl
    have i2 : ∀ W, (Instr.index 82 (nv n0 n1 n2) (.int .i64 2)).run Tryd.prog W = .ok (.int .i64 n2) W := fun _ => by kernel_rfl
    have hn' : n = 0 ∨ n = 1 ∨ n = 2 ∨ n = 3 := by omega
    rcases hn' with rfl | rfl | rfl | rfl
    · go_wp2_with fail
      refine (Tryd.strconv_Itoa n0 (by omega) (by omega) _ hLr.pow).mono ?_
      rintro e w3 ⟨rfl, hw3⟩
      have hb3 := below_itoa hw3
      clear hw3
      have hW3 := heap_below hW hb3 hlW
      have hB3 := heap_below hB hb3 (heap_lt hB)
      have c1 : ∀ i, w3.cell? ⟨wb, i, none⟩ = #[Value.string nm, .string (upTo 0 0 n0), .string (upTo 0 1 n1), .string (upTo 0 2 n2)][i]? := fun i => Joins.cell_of_block hW3 i
      have c2 : ∀ i, w3.frozen? ⟨wb, i, none⟩ = false := fun i => Joins.unfrozen_of_block hW3 i
      go_wp2
      go_roundw
      case rel => exact ⟨1, by omega, rfl, by rw [Joins.block_setCell hW3]; rfl, by rw [Below.heap_setCell _ _ _ _ (Nat.ne_of_lt hlt)]; exact hB3, (hb.trans (hb3.mono hb.size)).setCell (Nat.le_of_lt hlt) _⟩
      case measure => simp [intOf]
    · go_wp2_with fail
      refine (Tryd.strconv_Itoa n1 (by omega) (by omega) _ hLr.pow).mono ?_
      rintro e w3 ⟨rfl, hw3⟩
      have hb3 := below_itoa hw3
      clear hw3
      have hW3 := heap_below hW hb3 hlW
      have hB3 := heap_below hB hb3 (heap_lt hB)
      have c1 : ∀ i, w3.cell? ⟨wb, i, none⟩ = #[Value.string nm, .string (upTo 1 0 n0), .string (upTo 1 1 n1), .string (upTo 1 2 n2)][i]? := fun i => Joins.cell_of_block hW3 i
      have c2 : ∀ i, w3.frozen? ⟨wb, i, none⟩ = false := fun i => Joins.unfrozen_of_block hW3 i
      go_wp2
      go_roundw
      case rel => exact ⟨2, by omega, rfl, by rw [Joins.block_setCell hW3]; rfl, by rw [Below.heap_setCell _ _ _ _ (Nat.ne_of_lt hlt)]; exact hB3, (hb.trans (hb3.mono hb.size)).setCell (Nat.le_of_lt hlt) _⟩
      case measure => simp [intOf]
    · go_wp2_with fail
      refine (Tryd.strconv_Itoa n2 (by omega) (by omega) _ hLr.pow).mono ?_
      rintro e w3 ⟨rfl, hw3⟩
      have hb3 := below_itoa hw3
      clear hw3
      have hW3 := heap_below hW hb3 hlW
      have hB3 := heap_below hB hb3 (heap_lt hB)
      have c1 : ∀ i, w3.cell? ⟨wb, i, none⟩ = #[Value.string nm, .string (upTo 2 0 n0), .string (upTo 2 1 n1), .string (upTo 2 2 n2)][i]? := fun i => Joins.cell_of_block hW3 i
      have c2 : ∀ i, w3.frozen? ⟨wb, i, none⟩ = false := fun i => Joins.unfrozen_of_block hW3 i
      go_wp2
      go_roundw
      case rel => exact ⟨3, by omega, rfl, by rw [Joins.block_setCell hW3]; rfl, by rw [Below.heap_setCell _ _ _ _ (Nat.ne_of_lt hlt)]; exact hB3, (hb.trans (hb3.mono hb.size)).setCell (Nat.le_of_lt hlt) _⟩
      case measure => simp [intOf]
    · have hc := hct _ hLr
      clear hct i0 i1 i2 hLr
      have c0 : ∀ i, wr.cell? ⟨w.heap.size, i, none⟩ = #[Value.int .i64 k, .int .i64 j, .int .i64 v, .int .i64 t, .int .i64 c][i]? := fun i => Joins.cell_of_block hB i
      clear hL hn hlt
      have hcnt' : cnt = 0 ∨ cnt = 1 ∨ cnt = 2 ∨ cnt = 3 := by omega
      rcases hcnt' with rfl | rfl | rfl | rfl
      all_goals
        go_wp2_with fail
        refine (join_any wb nm (upTo 3 0 n0) (upTo 3 1 n1) (upTo 3 2 n2) _ _ _ hW rfl (by omega) hnl (itoa_le _ b0.1 b0.2) (itoa_le _ b1.1 b1.2) (itoa_le _ b2.1 b2.2)).mono ?_
        rintro e w4 ⟨rfl, hb4⟩
        clear hW hB c0
        go_wp2
        go_ret2
        exact ⟨rfl, hb.trans (hb4.mono hb.size)⟩

end Go.Proofs.YtnmapehbcccbhadDoor
