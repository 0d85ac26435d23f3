/- The reference's EntryText and whole. -/
import Derived.Test.YtknjdbpdlodpbacGreatDoorRefB
import Derived.Test.YtknjdbpdlodpbacGreatDoorEntryL
import Derived.Lib.ParseIntBTie
namespace Go.Proofs.YtknjdbpdlodpbacGreatDoor
open Go.RowKit

theorem itoa_any (n : Int) (w : World) (hL : Laid w) (h0 : -9223372036854775808 ≤ n) (h1 : n ≤ 9223372036854775807) :
    Calls Tryz.prog 28 #[.int .i64 n] w fun e w' => e = .returned (.string ⟨(Lib.itoa n).toArray⟩) ∧ Below w.heap.size w w' :=
  (Tryz.strconv_Itoa n h0 h1 w hL.pow).mono fun _ _ ⟨he, hw⟩ => ⟨he, below_itoa hw⟩

set_option maxHeartbeats 1000000 in
theorem whole_yes (l : List UInt8) (v : Int) (w : World) (hL : Laid w) (hl : l.length ≤ 30000) (hv : numOf l = some v) :
    Calls Tryz.prog 50 #[.string ⟨l.toArray⟩] w fun e w' => e = .returned (.tuple #[.int .i64 v, .bool true]) ∧ Below w.heap.size w w' := by
  have hi := itoa_numOf l v hv
  have ha : Lib.atoiAll l = .ok v := by
    unfold numOf at hv
    split at hv
    · rename_i x hx
      split at hv
      · cases hv; exact hx
      · cases hv
    · cases hv
  have hb := Lib.atoiAll_bounds ha
  have hp := fun W => Tryz.strconv_ParseInt_10_at64_ok ⟨l.toArray⟩ (by rw [Lib.size_eq]; show l.length ≤ _; omega) v (by rw [Lib.parseIntB_64]; exact ha) W
  clear hv ha
  go_enter Tryz.func50, Tryz.ntmps50
  go_wp2_with fail
  refine (hp _).mono ?_
  rintro e w1 ⟨rfl, hw⟩
  have hb1 : Below w.heap.size w w1 := by
    rcases hw with rfl | ⟨t, rfl⟩
    · exact Below.refl _ _
    · exact Lib.bytesWorld_below _ _ _
  clear hw hp
  go_wp2_with fail
  refine (Tryz.strconv_FormatInt_10 v hb.1 hb.2 _ (hL.later hb1).pow).mono ?_
  rintro e w2 ⟨rfl, hw2⟩
  have hb2 := hb1.trans ((below_itoa hw2).mono hb1.size)
  clear hw2
  go_wp2
  go_ret2
  exact ⟨rfl, hb2⟩

set_option maxHeartbeats 1000000 in
theorem whole_no (l : List UInt8) (w : World) (hL : Laid w) (hl : l.length ≤ 30000) (hv : numOf l = none) :
    Calls Tryz.prog 50 #[.string ⟨l.toArray⟩] w fun e w' => ∃ n, e = .returned (.tuple #[.int .i64 n, .bool false]) ∧ Below w.heap.size w w' := by
  have hsz : (⟨l.toArray⟩ : ByteArray).size ≤ 30000 := by rw [Lib.size_eq]; exact hl
  cases h : Lib.atoiAll l with
  | ok v =>
    have hi : ¬ Lib.itoa v = l := by
      intro e
      unfold numOf at hv
      rw [h] at hv
      simp only [if_pos e] at hv
      cases hv
    have hne : (Lib.itoa v == l) = false := by simpa using hi
    have hb := Lib.atoiAll_bounds h
    have hp := fun W => Tryz.strconv_ParseInt_10_at64_ok ⟨l.toArray⟩ (by omega) v (by rw [Lib.parseIntB_64]; exact h) W
    clear hv h hi
    go_enter Tryz.func50, Tryz.ntmps50
    go_wp2_with fail
    refine (hp _).mono ?_
    rintro e w1 ⟨rfl, hw⟩
    have hb1 : Below w.heap.size w w1 := by
      rcases hw with rfl | ⟨t, rfl⟩
      · exact Below.refl _ _
      · exact Lib.bytesWorld_below _ _ _
    clear hw hp
    go_wp2_with fail
    refine (Tryz.strconv_FormatInt_10 v hb.1 hb.2 _ (hL.later hb1).pow).mono ?_
    rintro e w2 ⟨rfl, hw2⟩
    have hb2 := hb1.trans ((below_itoa hw2).mono hb1.size)
    clear hw2
    go_wp2
    go_ret2
    exact ⟨_, rfl, hb2⟩
  | «syntax» =>
    obtain ⟨tp, p, hvr⟩ := hL.syn
    have hv0 : w.cell? ⟨6, 0, none⟩ = some (.iface tp p) := by have h0 := World.var?_cell gSyn hvr 0; simpa using h0
    have hh : Lib.parseIntB 64 (⟨l.toArray⟩ : ByteArray).data.toList = .«syntax» := by rw [Lib.parseIntB_64]; exact h
    go_enter Tryz.func50, Tryz.ntmps50
    go_wp2_with fail
    refine (Tryz.strconv_ParseInt_10_at64_syntax ⟨l.toArray⟩ (by omega) hh _ _ hv0 (Or.inr ⟨_, _, rfl⟩)).mono ?_
    rintro e w1 ⟨N, rfl, -, -, hb⟩
    go_wp2
    go_ret2
    exact ⟨_, rfl, hb⟩
  | range =>
    obtain ⟨tp, p, hvr⟩ := hL.rng
    have hv0 : w.cell? ⟨7, 0, none⟩ = some (.iface tp p) := by have h0 := World.var?_cell gRng hvr 0; simpa using h0
    have hh : Lib.parseIntB 64 (⟨l.toArray⟩ : ByteArray).data.toList = .range := by rw [Lib.parseIntB_64]; exact h
    go_enter Tryz.func50, Tryz.ntmps50
    go_wp2_with fail
    refine (Tryz.strconv_ParseInt_10_at64_range ⟨l.toArray⟩ (by omega) hh _ _ hv0 (Or.inr ⟨_, _, rfl⟩)).mono ?_
    rintro e w1 ⟨N, rfl, -, -, hb⟩
    go_wp2
    go_ret2
    exact ⟨_, rfl, hb⟩

theorem data_append (a b : ByteArray) : (a ++ b).data.toList = a.data.toList ++ b.data.toList := by
  simp [ByteArray.data_append]
theorem ret_str {s : ByteArray} {l : List UInt8} (h : s.data.toList = l) : Ending.returned (.string s) = .returned (.string ⟨l.toArray⟩) := by
  obtain ⟨⟨x⟩⟩ := s
  subst h; rfl

theorem text_step {w W W' : World} {x : En} (h : (Laid W ∧ Below w.heap.size w W ∧ W.cell? ⟨w.heap.size, 0, none⟩ = some (.int .i64 x.k)) ∧ W.cell? ⟨w.heap.size, 1, none⟩ = some (.int .i64 x.j) ∧ W.cell? ⟨w.heap.size, 2, none⟩ = some (.int .i64 x.v) ∧ W.cell? ⟨w.heap.size, 3, none⟩ = some (.int .i64 x.t) ∧ W.cell? ⟨w.heap.size, 4, none⟩ = some (.int .i64 x.c)) (hb : Below W.heap.size W W') :
    (Laid W' ∧ Below w.heap.size w W' ∧ W'.cell? ⟨w.heap.size, 0, none⟩ = some (.int .i64 x.k)) ∧ W'.cell? ⟨w.heap.size, 1, none⟩ = some (.int .i64 x.j) ∧ W'.cell? ⟨w.heap.size, 2, none⟩ = some (.int .i64 x.v) ∧ W'.cell? ⟨w.heap.size, 3, none⟩ = some (.int .i64 x.t) ∧ W'.cell? ⟨w.heap.size, 4, none⟩ = some (.int .i64 x.c) :=
  ⟨⟨h.1.1.later hb, h.1.2.1.trans (hb.mono h.1.2.1.size), cell_later hb h.1.2.2⟩, cell_later hb h.2.1, cell_later hb h.2.2.1, cell_later hb h.2.2.2.1, cell_later hb h.2.2.2.2⟩
theorem text_laid {w W : World} {x : En} (h : (Laid W ∧ Below w.heap.size w W ∧ W.cell? ⟨w.heap.size, 0, none⟩ = some (.int .i64 x.k)) ∧ W.cell? ⟨w.heap.size, 1, none⟩ = some (.int .i64 x.j) ∧ W.cell? ⟨w.heap.size, 2, none⟩ = some (.int .i64 x.v) ∧ W.cell? ⟨w.heap.size, 3, none⟩ = some (.int .i64 x.t) ∧ W.cell? ⟨w.heap.size, 4, none⟩ = some (.int .i64 x.c)) : Laid W := h.1.1

set_option maxHeartbeats 1000000 in
theorem ref_text (x : En) (w : World) (hL : Laid w) (hx : x.chk = 0) :
    Calls Tryz.prog 36 #[x.val] w fun e w' => e = .returned (.string ⟨x.txt.toArray⟩) ∧ Below w.heap.size w w' := by
  obtain ⟨h0, h3, hr, hl, _⟩ := chk_zero hx
  obtain ⟨r1, r2, r3, r4, r5, r6, r7, r8⟩ := of_decide_eq_true hr
  have hL0 : Laid (w.alloc (boxE x.k x.j x.v x.t x.c)) := hL.later (grew (Below.refl _ _) _)
  have hB0 : Below w.heap.size w (w.alloc (boxE x.k x.j x.v x.t x.c)) := grew (Below.refl _ _) _
  have hE0 := heap_new w (boxE x.k x.j x.v x.t x.c)
  have q1 := fun W hW => itoa_any x.j W hW (by omega) (by omega)
  have q2 := fun W hW => itoa_any x.v W hW (by omega) (by omega)
  have q3 := fun W hW => itoa_any x.t W hW (by omega) (by omega)
  have q4 := fun W hW => itoa_any x.c W hW (by omega) (by omega)
  have l1 := Lib.itoa_length_le x.j (by omega) (by omega)
  have l2 := Lib.itoa_length_le x.v (by omega) (by omega)
  have l3 := Lib.itoa_length_le x.t (by omega) (by omega)
  have l4 := Lib.itoa_length_le x.c (by omega) (by omega)
  have HT : ∀ k : Int, x.k = k → Hid (x.txt = Lib.join ([nameL k, Lib.itoa (num0 k x.j), Lib.itoa (num1 k x.v x.t), Lib.itoa (num2 k x.t x.c)].take (1 + cntOf k)) [32]) := fun k hk => by subst hk; rfl
  have T0 := HT 0
  have T1 := HT 1
  have T2 := HT 2
  have T3 := HT 3
  rw [show num0 1 x.j = x.j from rfl, show num1 1 x.v x.t = x.v from rfl, show num2 1 x.t x.c = x.t from rfl] at T1
  rw [show num0 2 x.j = x.j from rfl] at T2
  rw [show num0 3 x.j = x.j from rfl, show num1 3 x.v x.t = x.t from rfl, show num2 3 x.t x.c = x.c from rfl] at T3
  clear HT
  generalize Lib.itoa x.j = p1 at *
  generalize Lib.itoa x.v = p2 at *
  generalize Lib.itoa x.t = p3 at *
  generalize Lib.itoa x.c = p4 at *
  clear hr hl
  go_enter Tryz.func36, Tryz.ntmps36
  go_wp2_with fail
  generalize hW0 : w.alloc (boxE x.k x.j x.v x.t x.c) = W0 at *
  have k1 : W0.cell? ⟨w.heap.size, 1, none⟩ = some (.int .i64 x.j) := Joins.cell_of_block hE0 1
  have k2 : W0.cell? ⟨w.heap.size, 2, none⟩ = some (.int .i64 x.v) := Joins.cell_of_block hE0 2
  have k3 : W0.cell? ⟨w.heap.size, 3, none⟩ = some (.int .i64 x.t) := Joins.cell_of_block hE0 3
  have k4 : W0.cell? ⟨w.heap.size, 4, none⟩ = some (.int .i64 x.c) := Joins.cell_of_block hE0 4
  have k0 : W0.cell? ⟨w.heap.size, 0, none⟩ = some (.int .i64 x.k) := Joins.cell_of_block hE0 0
  clear hE0 hW0 hL
  have hS0 : (Laid W0 ∧ Below w.heap.size w W0 ∧ W0.cell? ⟨w.heap.size, 0, none⟩ = some (.int .i64 x.k)) ∧ W0.cell? ⟨w.heap.size, 1, none⟩ = some (.int .i64 x.j) ∧ W0.cell? ⟨w.heap.size, 2, none⟩ = some (.int .i64 x.v) ∧ W0.cell? ⟨w.heap.size, 3, none⟩ = some (.int .i64 x.t) ∧ W0.cell? ⟨w.heap.size, 4, none⟩ = some (.int .i64 x.c) := ⟨⟨hL0, hB0, k0⟩, k1, k2, k3, k4⟩
  have hbd : Below W0.heap.size W0 W0.drew := (Below.refl _ _).drew
  clear k0 k1 k2 k3 k4 hL0 hB0
  go_region_held3 (fun w' => (Laid w' ∧ Below w.heap.size w w' ∧ w'.cell? ⟨w.heap.size, 0, none⟩ = some (.int .i64 x.k)) ∧ w'.cell? ⟨w.heap.size, 1, none⟩ = some (.int .i64 x.j) ∧ w'.cell? ⟨w.heap.size, 2, none⟩ = some (.int .i64 x.v) ∧ w'.cell? ⟨w.heap.size, 3, none⟩ = some (.int .i64 x.t) ∧ w'.cell? ⟨w.heap.size, 4, none⟩ = some (.int .i64 x.c)) (exact text_step (by assumption) (by assumption)) (first | (go_at_call_of 28 (Value.int .i64 x.j); refine (q1 _ ?_).mono ?_; (exact text_laid (by assumption)); rintro e w' ⟨rfl, hb'⟩) | (go_at_call_of 28 (Value.int .i64 x.v); refine (q2 _ ?_).mono ?_; (exact text_laid (by assumption)); rintro e w' ⟨rfl, hb'⟩) | (go_at_call_of 28 (Value.int .i64 x.t); refine (q3 _ ?_).mono ?_; (exact text_laid (by assumption)); rintro e w' ⟨rfl, hb'⟩) | (go_at_call_of 28 (Value.int .i64 x.c); refine (q4 _ ?_).mono ?_; (exact text_laid (by assumption)); rintro e w' ⟨rfl, hb'⟩))
  all_goals
    rename_i hS
    have hk : x.k = 0 ∨ x.k = 1 ∨ x.k = 2 ∨ x.k = 3 := by omega
    obtain ⟨⟨_, hB, hk0⟩, _⟩ := hS
    clear q1 q2 q3 q4 hS0 hbd
    rcases hk with hk | hk | hk | hk
    · have T := T0 hk
      rw [hk] at hk0
      clear T0 T1 T2 T3 hk h0 h3 hx
      have hlt : w.heap.size < w'.heap.size := World.block_lt_of_cell? _ _ hk0
      go_wp2
      go_ret
      refine ⟨ret_str ?_, grew hB _⟩
      rw [T.out]
      rfl
    · have T := T1 hk
      rw [hk] at hk0
      clear T0 T1 T2 T3 hk h0 h3 hx
      have hlt : w.heap.size < w'.heap.size := World.block_lt_of_cell? _ _ hk0
      go_wp2
      go_ret
      refine ⟨ret_str ?_, grew hB _⟩
      rw [T.out]
      simp only [data_append]
      simp [cntOf, nameL, Lib.join_cons, Lib.joinTail]
    · have T := T2 hk
      rw [hk] at hk0
      clear T0 T1 T2 T3 hk h0 h3 hx
      have hlt : w.heap.size < w'.heap.size := World.block_lt_of_cell? _ _ hk0
      go_wp2
      go_ret
      refine ⟨ret_str ?_, grew hB _⟩
      rw [T.out]
      simp only [data_append]
      simp [cntOf, nameL, Lib.join_cons, Lib.joinTail]
    · have T := T3 hk
      rw [hk] at hk0
      clear T0 T1 T2 T3 hk h0 h3 hx
      have hlt : w.heap.size < w'.heap.size := World.block_lt_of_cell? _ _ hk0
      go_wp2
      go_ret
      refine ⟨ret_str ?_, grew hB _⟩
      rw [T.out]
      simp only [data_append]
      simp [cntOf, nameL, Lib.join_cons, Lib.joinTail]

end Go.Proofs.YtknjdbpdlodpbacGreatDoor
