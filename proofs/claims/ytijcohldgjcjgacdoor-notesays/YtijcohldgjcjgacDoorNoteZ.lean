/- Package note's read and Parse; its contracts. -/
import Derived.Test.YtijcohldgjcjgacDoorNoteZb
namespace Go.Proofs.YtijcohldgjcjgacDoor
open Go.RowKit

theorem cutColon (l : List UInt8) (w : World) (hL : Laid w) (hl : l.length ≤ 30000) :
    Calls Tryd.prog 29 #[.string ⟨l.toArray⟩, .string ⟨#[58, 32]⟩] w fun e w' => e = .returned (.tuple #[.string ⟨(Lib.cut l [58, 32]).1.toArray⟩, .string ⟨(Lib.cut l [58, 32]).2.1.toArray⟩, .bool (Lib.cut l [58, 32]).2.2]) ∧ Below w.heap.size w w' := by
  obtain ⟨m, hm⟩ := hL.most
  have h := Tryd.strings_Cut ⟨l.toArray⟩ ⟨#[58, 32]⟩ m w (by simp [Lib.size_eq]; omega) hm
  refine h.mono ?_
  rintro e w' ⟨he, q, rfl⟩
  exact ⟨he, below_drewN (Below.refl _ _) _⟩

theorem cut_fst_len (l s : List UInt8) : (Lib.cut l s).1.length ≤ l.length := by
  unfold Lib.cut
  split
  · simp only [List.length_take]; omega
  · exact Nat.le_refl _

theorem tuple_pair {r : Rc × Int} : (Value.tuple #[r.1.val, .int .i64 r.2]) = .tuple #[r.1.val, .int .i64 r.2] := rfl

set_option maxHeartbeats 4000000 in
set_option maxRecDepth 100000 in
theorem noteRead_any (l : List UInt8) (w : World) (hL : Laid w) (hl : l.length ≤ 30000) :
    Calls Tryd.prog 13 #[.string ⟨l.toArray⟩] w fun e w' => e = .returned (.tuple #[(rdRaw l).1.val, .int .i64 (rdRaw l).2]) ∧ Below w.heap.size w w' := by
  have HX0 : Aside ((w.alloc (boxRc Rc.zero)).heap[w.heap.size]? = some (boxRc Rc.zero)) := heap_new _ _
  have HB0 : Aside (Below w.heap.size w (w.alloc (boxRc Rc.zero))) := grew (Below.refl _ _) _
  have HL : Aside (Laid w) := hL
  cases hp : sealL.isPrefixOf l with
  | true =>
    have hcp := cutPre_yes l (w.alloc (boxRc Rc.zero)) hp hl
    have HF : Hid (rdRaw l = rdSeal (l.drop 5)) := by rw [Hid, rdRaw, if_pos hp]
    rw [HF.out]
    have hrs := readSeal_any (l.drop 5) (w.alloc (boxRc Rc.zero)) (hL.later HB0.out) (by rw [List.length_drop]; omega)
    generalize l.drop 5 = l5 at *
    generalize (rdSeal l5).1 = y at *
    generalize (rdSeal l5).2 = f at *
    clear hp HF hL hl HL
    go_enter Tryd.func13, Tryd.ntmps13
    go_wp2_with fail
    refine hcp.mono ?_
    rintro e w1 ⟨rfl, rfl⟩
    clear hcp
    go_wp2_with fail
    refine hrs.mono ?_
    rintro e w1 ⟨rfl, hb1⟩
    have y0 := heap_below HX0.out hb1 (heap_lt HX0.out)
    have HB1 : Aside (Below w.heap.size w w1) := step_below1 HB0.out hb1
    have HX1 : Aside _ := y0
    have z0 : ∀ i, w1.cell? ⟨w.heap.size, i, none⟩ = #[Value.int .i64 0, .int .i64 0, .int .i64 0, .int .i64 0, .int .i64 0, .int .i64 0, .int .i64 0, .int .i64 0][i]? := fun i => Joins.cell_of_block y0 i
    have f0 : ∀ i, w1.frozen? ⟨w.heap.size, i, none⟩ = false := fun i => Joins.unfrozen_of_block y0 i
    clear hb1 y0 HX0 HB0 hrs
    go_wp2
    exact ret_rec (p := 2) (q := 3) Tryd.results13 rfl rfl rfl (eight_stores HX1.out y) ⟨rfl, below_eight HB1.out (Nat.le_refl _) _ _ _ _ _ _ _ _⟩
  | false =>
    have hcp := cutPre_no l (w.alloc (boxRc Rc.zero)) hp
    have hcc := cutColon l (w.alloc (boxRc Rc.zero)) (hL.later HB0.out) hl
    have HF : Hid (rdRaw l = if (Lib.cut l [58, 32]).2.2 = false then (Rc.zero, 1) else rdWrite (Lib.cut l [58, 32]).1 (Lib.cut l [58, 32]).2.1) := by rw [Hid, rdRaw, if_neg (by rw [hp]; simp)]
    have hal := Nat.le_trans (cut_fst_len l [58, 32]) hl
    generalize (Lib.cut l [58, 32]).1 = la at *
    generalize (Lib.cut l [58, 32]).2.1 = lb at *
    generalize (Lib.cut l [58, 32]).2.2 = bb at *
    clear hp hL hl
    cases bb with
    | false =>
      rw [if_pos rfl] at HF
      rw [HF.out]
      clear hal HL HF
      go_enter Tryd.func13, Tryd.ntmps13
      go_wp2_with fail
      refine hcp.mono ?_
      rintro e w1 ⟨rfl, rfl⟩
      clear hcp
      go_wp2_with fail
      refine hcc.mono ?_
      rintro e w1 ⟨rfl, hb1⟩
      have y0 := heap_below HX0.out hb1 (heap_lt HX0.out)
      have HB1 : Aside (Below w.heap.size w w1) := step_below1 HB0.out hb1
      have HX1 : Aside _ := y0
      have z0 : ∀ i, w1.cell? ⟨w.heap.size, i, none⟩ = #[Value.int .i64 0, .int .i64 0, .int .i64 0, .int .i64 0, .int .i64 0, .int .i64 0, .int .i64 0, .int .i64 0][i]? := fun i => Joins.cell_of_block y0 i
      have f0 : ∀ i, w1.frozen? ⟨w.heap.size, i, none⟩ = false := fun i => Joins.unfrozen_of_block y0 i
      clear hb1 y0 HX0 HB0 hcc
      go_wp2
      exact ret_rec (p := 2) (q := 3) Tryd.results13 rfl rfl rfl (eight_stores HX1.out Rc.zero) ⟨rfl, below_eight HB1.out (Nat.le_refl _) _ _ _ _ _ _ _ _⟩
    | true =>
      rw [if_neg (by simp)] at HF
      rw [HF.out]
      have hrw := fun W hW => readWrite_any la lb W hW hal
      generalize (rdWrite la lb).1 = y at *
      generalize (rdWrite la lb).2 = f at *
      clear hal HF
      go_enter Tryd.func13, Tryd.ntmps13
      go_wp2_with fail
      refine hcp.mono ?_
      rintro e w1 ⟨rfl, rfl⟩
      clear hcp
      go_wp2_with fail
      refine hcc.mono ?_
      rintro e w1 ⟨rfl, hb1⟩
      have y0 := heap_below HX0.out hb1 (heap_lt HX0.out)
      have HB1 : Aside (Below w.heap.size w w1) := step_below1 HB0.out hb1
      have HX1 : Aside _ := y0
      have hL1 := HL.out.later HB1.out
      clear hb1 y0 HX0 HB0 hcc HL
      go_wp2_with fail
      refine (hrw _ hL1).mono ?_
      rintro e w2 ⟨rfl, hb2⟩
      have y0 := heap_below HX1.out hb2 (heap_lt HX1.out)
      have HB2 : Aside (Below w.heap.size w w2) := step_below1 HB1.out hb2
      have HX2 : Aside _ := y0
      have z0 : ∀ i, w2.cell? ⟨w.heap.size, i, none⟩ = #[Value.int .i64 0, .int .i64 0, .int .i64 0, .int .i64 0, .int .i64 0, .int .i64 0, .int .i64 0, .int .i64 0][i]? := fun i => Joins.cell_of_block y0 i
      have f0 : ∀ i, w2.frozen? ⟨w.heap.size, i, none⟩ = false := fun i => Joins.unfrozen_of_block y0 i
      clear hb2 y0 HX1 HB1 hrw hL1
      go_wp2
      exact ret_rec (p := 2) (q := 3) Tryd.results13 rfl rfl rfl (eight_stores HX2.out y) ⟨rfl, below_eight HB2.out (Nat.le_refl _) _ _ _ _ _ _ _ _⟩

set_option maxHeartbeats 4000000 in
set_option maxRecDepth 100000 in
theorem noteParse_few (l : List UInt8) (w : World) (hL : Laid w) (hl : l.length ≤ 30000) :
    Calls Tryd.prog 6 #[.string ⟨l.toArray⟩] w fun e w' => e = .returned (.tuple #[(rcRead l).1.val, .int .i64 (rcRead l).2]) ∧ Below w.heap.size w w' := by
  have HX0 : Aside ((w.alloc (boxRc Rc.zero)).heap[w.heap.size]? = some (boxRc Rc.zero)) := heap_new _ _
  have HB0 : Aside (Below w.heap.size w (w.alloc (boxRc Rc.zero))) := grew (Below.refl _ _) _
  have hrd := noteRead_any l (w.alloc (boxRc Rc.zero)) (hL.later HB0.out) hl
  have HF : Hid (rcRead l = if ¬ (rdRaw l).2 = 0 then (Rc.zero, (rdRaw l).2) else (rdRaw l).1.fin) := read_raw l
  rw [HF.out]
  generalize (rdRaw l).1 = y at *
  generalize (rdRaw l).2 = f at *
  have hle : (l.length : Int) ≤ 30000 := by omega
  have hck := fun W => noteCheck_any y W
  have HC : Hid (y.fin = if y.chk = 0 then (y, 0) else (Rc.zero, y.chk)) := rfl
  generalize y.chk = d at *
  obtain ⟨rr, HRR⟩ : ∃ rr, Hid ((if ¬ f = 0 then (Rc.zero, f) else y.fin) = rr) := ⟨_, rfl⟩
  rw [HRR.out]
  clear hL hl HF
  go_enter Tryd.func6, Tryd.ntmps6
  go_wp2_with fail
  refine hrd.mono ?_
  rintro e w1 ⟨rfl, hb1⟩
  have y0 := heap_below HX0.out hb1 (heap_lt HX0.out)
  have HB1 : Aside (Below w.heap.size w (w1.alloc (boxRc y))) := grew (step_below1 HB0.out hb1) _
  have HX1 : Aside ((w1.alloc (boxRc y)).heap[w.heap.size]? = some (boxRc Rc.zero)) := heap_old y0 _
  have HY1 : Aside ((w1.alloc (boxRc y)).heap[w1.heap.size]? = some (boxRc y)) := heap_new _ _
  clear hb1 y0 HX0 HB0 hrd
  go_upto_region 4 with fail
  generalize w1.alloc (boxRc y) = V at *
  generalize w1.heap.size = yb at *
  have z0 : ∀ i, V.cell? ⟨w.heap.size, i, none⟩ = #[Value.int .i64 0, .int .i64 0, .int .i64 0, .int .i64 0, .int .i64 0, .int .i64 0, .int .i64 0, .int .i64 0][i]? := fun i => Joins.cell_of_block HX1.out i
  have f0 : ∀ i, V.frozen? ⟨w.heap.size, i, none⟩ = false := fun i => Joins.unfrozen_of_block HX1.out i
  have z1 : ∀ i, V.cell? ⟨yb, i, none⟩ = #[Value.int .i64 y.k, .int .i64 y.a, .int .i64 y.p, .int .i64 y.e.k, .int .i64 y.e.j, .int .i64 y.e.v, .int .i64 y.e.t, .int .i64 y.e.c][i]? := fun i => Joins.cell_of_block HY1.out i
  by_cases hf : f = 0
  · have hfb : (f != 0) = false := by rw [hf]; rfl
    have HF3 : Hid (rr = y.fin) := by rw [Hid, ← HRR.out, if_neg (by simpa using hf)]
    clear hf HRR
    go_wp2_with fail
    refine (hck _).mono ?_
    rintro e w5 ⟨rfl, hb5⟩
    have y0 := heap_below HX1.out hb5 (heap_lt HX1.out)
    have y1 := heap_below HY1.out hb5 (heap_lt HY1.out)
    have HB5 : Aside (Below w.heap.size w w5) := step_below1 HB1.out hb5
    have HR5 : Aside _ := y0
    clear z0 f0 z1 hb5 HX1 HY1 HB1 hck
    have z0 : ∀ i, w5.cell? ⟨w.heap.size, i, none⟩ = #[Value.int .i64 0, .int .i64 0, .int .i64 0, .int .i64 0, .int .i64 0, .int .i64 0, .int .i64 0, .int .i64 0][i]? := fun i => Joins.cell_of_block y0 i
    have f0 : ∀ i, w5.frozen? ⟨w.heap.size, i, none⟩ = false := fun i => Joins.unfrozen_of_block y0 i
    have z1 : ∀ i, w5.cell? ⟨yb, i, none⟩ = #[Value.int .i64 y.k, .int .i64 y.a, .int .i64 y.p, .int .i64 y.e.k, .int .i64 y.e.j, .int .i64 y.e.v, .int .i64 y.e.t, .int .i64 y.e.c][i]? := fun i => Joins.cell_of_block y1 i
    clear y0 y1
    by_cases hd : d = 0
    · subst hd
      have HF2 : Hid (y.fin = (y, 0)) := by rw [Hid, HC.out, if_pos rfl]
      clear HC
      go_wp2
      exact ret_rec (p := 2) (q := 3) Tryd.results6 rfl rfl rfl (eight_stores HR5.out y) ⟨by rw [HF3.out, HF2.out]; rfl, below_eight HB5.out (Nat.le_refl _) _ _ _ _ _ _ _ _⟩
    · have HF2 : Hid (y.fin = (Rc.zero, d)) := by rw [Hid, HC.out, if_neg hd]
      have hdb : (d != 0) = true := by rw [bne_iff_ne]; exact hd
      clear HC
      go_wp2
      exact ret_rec (p := 2) (q := 3) Tryd.results6 rfl rfl rfl (eight_stores HR5.out Rc.zero) ⟨by rw [HF3.out, HF2.out]; rfl, below_eight HB5.out (Nat.le_refl _) _ _ _ _ _ _ _ _⟩
  · have hfb : (f != 0) = true := by rw [bne_iff_ne]; exact hf
    have HF3 : Hid (rr = (Rc.zero, f)) := by rw [Hid, ← HRR.out, if_pos hf]
    clear HC hck hf HRR
    go_wp2
    exact ret_rec (p := 2) (q := 3) Tryd.results6 rfl rfl rfl (eight_stores HX1.out Rc.zero) ⟨by rw [HF3.out]; rfl, below_eight HB1.out (Nat.le_refl _) _ _ _ _ _ _ _ _⟩

theorem noteParse_long (s : ByteArray) (w : World) (hs : 30000 < (s.size : Int)) :
    Calls Tryd.prog 6 #[.string s] w fun e w' => e = .returned (.tuple #[Rc.zero.val, .int .i64 2]) ∧ Below w.heap.size w w' := by
  go_enter Tryd.func6, Tryd.ntmps6
  go_wp2
  exact ret_rec (p := 2) (q := 3) (r := Rc.zero) Tryd.results6 rfl rfl rfl (heap_new _ _) ⟨rfl, grew (Below.refl _ _) _⟩

theorem noteParse_any (s : ByteArray) (w : World) (hL : Laid w) :
    Calls Tryd.prog 6 #[.string s] w fun e w' => e = .returned (.tuple #[(rcPrs s.data.toList).1.val, .int .i64 (rcPrs s.data.toList).2]) ∧ Below w.heap.size w w' := by
  by_cases hs : 30000 < s.data.toList.length
  · have hp : rcPrs s.data.toList = (Rc.zero, 2) := if_pos hs
    rw [hp]
    exact noteParse_long s w (by rw [Lib.size_eq]; omega)
  · obtain ⟨⟨l⟩⟩ := s
    have hs' : ¬ 30000 < l.length := hs
    have hp : rcPrs l = rcRead l := if_neg hs'
    show Calls Tryd.prog 6 #[.string ⟨l.toArray⟩] w fun e w' => e = .returned (.tuple #[(rcPrs l).1.val, .int .i64 (rcPrs l).2]) ∧ Below w.heap.size w w'
    rw [hp]
    exact noteParse_few l w hL (by omega)

/-- Package note keeps what the laws ask of it. -/
theorem notes_any : Notes where
  check := fun r W _ => noteCheck_any r W
  print := notePrint_any
  parse := noteParse_any

end Go.Proofs.YtijcohldgjcjgacDoor
