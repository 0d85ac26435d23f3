/- The reference's RecRead, a record that is written; RecRead whole. -/
import Derived.Test.YtijcohldgjcjgacDoorNoteD
namespace Go.Proofs.YtijcohldgjcjgacDoor
open Go.RowKit

set_option maxHeartbeats 1500000 in
set_option maxRecDepth 100000 in
theorem read_entry (l : List UInt8) (k : Nat) (w : World) (hL : Laid w) (hl : l.length ≤ 30000) (hp : sealL.isPrefixOf l = false) (hi : Lib.index l [58, 32] = k) (hk : k + 2 ≤ l.length) (a : Int) (hn : numOf (l.take k) = some a) :
    Calls Tryd.prog 10 #[.string ⟨l.toArray⟩] w fun e w' => e = .returned (.tuple #[(rcRead l).1.val, .int .i64 (rcRead l).2]) ∧ Below w.heap.size w w' := by
  have hpr := fun W => hasPre l W
  rw [hp] at hpr
  have hidx := fun W hW => idx_ref l hl W hW
  rw [hi] at hidx
  have hcut : Lib.cut l [58, 32] = (l.take k, l.drop (k + 2), true) := by
    unfold Lib.cut
    rw [hi, if_pos (by omega)]
    rfl
  have HF : Hid (rcRead l = if ¬ (prs (l.drop (k + 2))).2 = 0 then (Rc.zero, (prs (l.drop (k + 2))).2) else (⟨1, a, 0, (prs (l.drop (k + 2))).1⟩ : Rc).fin) := by
    rw [Hid, rcRead, if_neg (by rw [hp]; simp), hcut, if_neg (by simp)]
    simp only
    rw [hn]
  rw [HF.out]
  have hex := ext_upto l k
  have hex2 := ext_from l (k + 2)
  have hk2' : (k : Int) ≤ (l.length : Int) := by omega
  have hk3' : (k : Int) + 2 ≤ (l.length : Int) := by omega
  have hk0' : (0 : Int) ≤ (k : Int) := by omega
  have hkd : decide ((k : Int) < 0) = false := decide_eq_false (by omega)
  have hkw : IntKind.i64.wrap ((k : Int) + 2) = (k : Int) + 2 := by rw [IntKind.wrap_i64]; omega
  have htl : (l.take k).length ≤ 30000 := by rw [List.length_take]; omega
  have hdl : (l.drop (k + 2)).length ≤ 30000 := by rw [List.length_drop]; omega
  have hwh := fun W hW => whole_yes (l.take k) a W hW htl hn
  have hrr := fun W hW => ref_read (l.drop (k + 2)) W hW hdl
  generalize (prs (l.drop (k + 2))).1 = y at *
  generalize (prs (l.drop (k + 2))).2 = f at *
  have hck := fun W => ref_chkRec ⟨1, a, 0, y⟩ W
  have HC : Hid ((⟨1, a, 0, y⟩ : Rc).fin = if (⟨1, a, 0, y⟩ : Rc).chk = 0 then (⟨1, a, 0, y⟩, 0) else (Rc.zero, (⟨1, a, 0, y⟩ : Rc).chk)) := rfl
  generalize (⟨1, a, 0, y⟩ : Rc).chk = d at *
  generalize l.drop (k + 2) = l6 at *
  generalize l.take k = l5 at *
  have W0 : ((w.alloc zB).alloc wB).heap[w.heap.size]? = some (boxRc Rc.zero) := heap_old (heap_new _ _) _
  have W1 : ((w.alloc zB).alloc wB).heap[w.heap.size + 1]? = some (boxRc ⟨1, 0, 0, En.zero⟩) := by
    have := heap_new (w.alloc zB) wB
    rwa [World.size_alloc] at this
  have WB : Below w.heap.size w ((w.alloc zB).alloc wB) := grew (grew (Below.refl _ _) _) _
  clear hp hi HF hcut hn htl hdl
  obtain ⟨rr, HRR⟩ : ∃ rr, Hid ((if ¬ f = 0 then (Rc.zero, f) else (⟨1, a, 0, y⟩ : Rc).fin) = rr) := ⟨_, rfl⟩
  rw [HRR.out]
  go_enter Tryd.func10, Tryd.ntmps10
  go_wp2_with fail
  refine (hpr _).mono ?_
  rintro e w1 ⟨rfl, rfl⟩
  go_wp2_with fail
  refine (hidx _ (by exact hL.later WB)).mono ?_
  rintro e w1 ⟨rfl, rfl⟩
  have hLV := hL.later WB
  generalize (w.alloc zB).alloc wB = V at *
  have y0 := W0
  have y1 := W1
  have z0 : ∀ i, V.cell? ⟨w.heap.size, i, none⟩ = #[Value.int .i64 0, .int .i64 0, .int .i64 0, .int .i64 0, .int .i64 0, .int .i64 0, .int .i64 0, .int .i64 0][i]? := fun i => Joins.cell_of_block y0 i
  have f0 : ∀ i, V.frozen? ⟨w.heap.size, i, none⟩ = false := fun i => Joins.unfrozen_of_block y0 i
  have z1 : ∀ i, V.cell? ⟨w.heap.size + 1, i, none⟩ = #[Value.int .i64 1, .int .i64 0, .int .i64 0, .int .i64 0, .int .i64 0, .int .i64 0, .int .i64 0, .int .i64 0][i]? := fun i => Joins.cell_of_block y1 i
  have f1 : ∀ i, V.frozen? ⟨w.heap.size + 1, i, none⟩ = false := fun i => Joins.unfrozen_of_block y1 i
  replace W0 : Aside _ := W0
  replace W1 : Aside _ := W1
  replace WB : Aside _ := WB
  clear y0 y1 hpr hidx
  go_wp2_with fail
  refine (hwh _ hLV).mono ?_
  rintro e w2 ⟨rfl, hb2⟩
  clear z0 f0 z1 f1
  have y0 := heap_below W0.out hb2 (heap_lt W0.out)
  have y1 := heap_below W1.out hb2 (heap_lt W1.out)
  have hB2 : Below w.heap.size w w2 := step_below1 WB.out hb2
  have hne : w.heap.size ≠ w.heap.size + 1 := by omega
  have z0 : ∀ i, w2.cell? ⟨w.heap.size, i, none⟩ = #[Value.int .i64 0, .int .i64 0, .int .i64 0, .int .i64 0, .int .i64 0, .int .i64 0, .int .i64 0, .int .i64 0][i]? := fun i => Joins.cell_of_block y0 i
  have f0 : ∀ i, w2.frozen? ⟨w.heap.size, i, none⟩ = false := fun i => Joins.unfrozen_of_block y0 i
  have z1 : ∀ i, w2.cell? ⟨w.heap.size + 1, i, none⟩ = #[Value.int .i64 1, .int .i64 0, .int .i64 0, .int .i64 0, .int .i64 0, .int .i64 0, .int .i64 0, .int .i64 0][i]? := fun i => Joins.cell_of_block y1 i
  have f1 : ∀ i, w2.frozen? ⟨w.heap.size + 1, i, none⟩ = false := fun i => Joins.unfrozen_of_block y1 i
  have HR : (w2.setCell ⟨w.heap.size + 1, 1, none⟩ (.int .i64 a)).heap[w.heap.size]? = some (boxRc Rc.zero) := (Below.heap_setCell _ _ _ _ (by exact hne)).trans y0
  have HQ : (w2.setCell ⟨w.heap.size + 1, 1, none⟩ (.int .i64 a)).heap[w.heap.size + 1]? = some (boxRc ⟨1, a, 0, En.zero⟩) := Joins.block_setCell y1 _
  have HB : Below w.heap.size w (w2.setCell ⟨w.heap.size + 1, 1, none⟩ (.int .i64 a)) := hB2.setCell (p := ⟨w.heap.size + 1, 1, none⟩) (by show w.heap.size ≤ w.heap.size + 1; omega) _
  have hLW := hL.later HB
  replace HR : Aside _ := HR
  replace HQ : Aside _ := HQ
  replace HB : Aside _ := HB
  clear W0 W1 WB hb2 y0 y1 hB2 hwh hLV
  go_wp2_with fail
  refine (hrr _ hLW).mono ?_
  rintro e w3 ⟨rfl, hb3⟩
  have y0 := heap_below HR.out hb3 (heap_lt HR.out)
  have y1 := heap_below HQ.out hb3 (heap_lt HQ.out)
  have HB3 : Aside (Below w.heap.size w w3) := step_below1 HB.out hb3
  clear z0 f0 z1 f1 hb3 HR HQ HB hrr hLW hL
  have z0 : ∀ i, w3.cell? ⟨w.heap.size, i, none⟩ = #[Value.int .i64 0, .int .i64 0, .int .i64 0, .int .i64 0, .int .i64 0, .int .i64 0, .int .i64 0, .int .i64 0][i]? := fun i => Joins.cell_of_block y0 i
  have f0 : ∀ i, w3.frozen? ⟨w.heap.size, i, none⟩ = false := fun i => Joins.unfrozen_of_block y0 i
  have z1 : ∀ i, w3.cell? ⟨w.heap.size + 1, i, none⟩ = #[Value.int .i64 1, .int .i64 a, .int .i64 0, .int .i64 0, .int .i64 0, .int .i64 0, .int .i64 0, .int .i64 0][i]? := fun i => Joins.cell_of_block y1 i
  have f1 : ∀ i, w3.frozen? ⟨w.heap.size + 1, i, none⟩ = false := fun i => Joins.unfrozen_of_block y1 i
  have HR4 : Aside _ := (five_other (W := w3) hne (.int .i64 y.k) (.int .i64 y.j) (.int .i64 y.v) (.int .i64 y.t) (.int .i64 y.c)).trans y0
  have HQ4 : Aside _ := five_tail y1 y
  have HB4 : Aside (Below w.heap.size w _) := below_tail (b := w.heap.size + 1) HB3.out (by omega) (.int .i64 y.k) (.int .i64 y.j) (.int .i64 y.v) (.int .i64 y.t) (.int .i64 y.c)
  clear y0 y1 HB3
  go_upto_region 16 with fail
  generalize ((((w3.setCell ⟨w.heap.size + 1, 3, none⟩ (.int .i64 y.k)).setCell ⟨w.heap.size + 1, 4, none⟩ (.int .i64 y.j)).setCell ⟨w.heap.size + 1, 5, none⟩ (.int .i64 y.v)).setCell ⟨w.heap.size + 1, 6, none⟩ (.int .i64 y.t)).setCell ⟨w.heap.size + 1, 7, none⟩ (.int .i64 y.c) = V4 at *
  clear z0 f0 z1 f1
  have z0 : ∀ i, V4.cell? ⟨w.heap.size, i, none⟩ = #[Value.int .i64 0, .int .i64 0, .int .i64 0, .int .i64 0, .int .i64 0, .int .i64 0, .int .i64 0, .int .i64 0][i]? := fun i => Joins.cell_of_block HR4.out i
  have f0 : ∀ i, V4.frozen? ⟨w.heap.size, i, none⟩ = false := fun i => Joins.unfrozen_of_block HR4.out i
  have z1 : ∀ i, V4.cell? ⟨w.heap.size + 1, i, none⟩ = #[Value.int .i64 1, .int .i64 a, .int .i64 0, .int .i64 y.k, .int .i64 y.j, .int .i64 y.v, .int .i64 y.t, .int .i64 y.c][i]? := fun i => Joins.cell_of_block HQ4.out i
  by_cases hf : f = 0
  · have hfb : (f != 0) = false := by rw [hf]; rfl
    have HF3 : Hid (rr = (⟨1, a, 0, y⟩ : Rc).fin) := by rw [Hid, ← HRR.out, if_neg (by simpa using hf)]
    clear hf HRR
    go_wp2_with fail
    refine (hck _).mono ?_
    rintro e w5 ⟨rfl, hb5⟩
    have y0 := heap_below HR4.out hb5 (heap_lt HR4.out)
    have y1 := heap_below HQ4.out hb5 (heap_lt HQ4.out)
    have HB5 : Aside (Below w.heap.size w w5) := step_below1 HB4.out hb5
    have HR5 : Aside _ := y0
    clear z0 f0 z1 hb5 HR4 HQ4 HB4 hck
    have z0 : ∀ i, w5.cell? ⟨w.heap.size, i, none⟩ = #[Value.int .i64 0, .int .i64 0, .int .i64 0, .int .i64 0, .int .i64 0, .int .i64 0, .int .i64 0, .int .i64 0][i]? := fun i => Joins.cell_of_block y0 i
    have f0 : ∀ i, w5.frozen? ⟨w.heap.size, i, none⟩ = false := fun i => Joins.unfrozen_of_block y0 i
    have z1 : ∀ i, w5.cell? ⟨w.heap.size + 1, i, none⟩ = #[Value.int .i64 1, .int .i64 a, .int .i64 0, .int .i64 y.k, .int .i64 y.j, .int .i64 y.v, .int .i64 y.t, .int .i64 y.c][i]? := fun i => Joins.cell_of_block y1 i
    have f1 : ∀ i, w5.frozen? ⟨w.heap.size + 1, i, none⟩ = false := fun i => Joins.unfrozen_of_block y1 i
    clear y0 y1
    by_cases hd : d = 0
    · subst hd
      have HF2 : Hid ((⟨1, a, 0, y⟩ : Rc).fin = (⟨1, a, 0, y⟩, 0)) := by rw [Hid, HC.out, if_pos rfl]
      clear HC
      go_wp2
      exact ret_rec (p := 2) (q := 3) Tryd.results10 rfl rfl rfl (eight_stores HR5.out ⟨1, a, 0, y⟩) ⟨by rw [HF3.out, HF2.out]; rfl, below_eight HB5.out (Nat.le_refl _) _ _ _ _ _ _ _ _⟩
    · have HF2 : Hid ((⟨1, a, 0, y⟩ : Rc).fin = (Rc.zero, d)) := by rw [Hid, HC.out, if_neg hd]
      have hdb : (d != 0) = true := by rw [bne_iff_ne]; exact hd
      clear HC
      go_wp2
      exact ret_rec (p := 2) (q := 3) Tryd.results10 rfl rfl rfl (eight_stores HR5.out Rc.zero) ⟨by rw [HF3.out, HF2.out]; rfl, below_eight HB5.out (Nat.le_refl _) _ _ _ _ _ _ _ _⟩
  · have hfb : (f != 0) = true := by rw [bne_iff_ne]; exact hf
    have HF3 : Hid (rr = (Rc.zero, f)) := by rw [Hid, ← HRR.out, if_pos hf]
    clear HC hck hf HRR
    go_wp2
    exact ret_rec (p := 2) (q := 3) Tryd.results10 rfl rfl rfl (eight_stores HR4.out Rc.zero) ⟨by rw [HF3.out]; rfl, below_eight HB4.out (Nat.le_refl _) _ _ _ _ _ _ _ _⟩

/-- The reference's RecRead. -/
theorem ref_recRead (l : List UInt8) (w : World) (hL : Laid w) (hl : l.length ≤ 30000) :
    Calls Tryd.prog 10 #[.string ⟨l.toArray⟩] w fun e w' => e = .returned (.tuple #[(rcRead l).1.val, .int .i64 (rcRead l).2]) ∧ Below w.heap.size w w' := by
  cases hp : sealL.isPrefixOf l with
  | true => exact read_seal l w hL hl hp
  | false =>
    rcases Lib.index_spec l [58, 32] with ⟨h1, _⟩ | ⟨i, h1, h2, h3, _⟩
    · exact read_none_colon l w hL hl hp h1
    · have hi2 : i + 2 ≤ l.length := by
        unfold Lib.occAt at h3
        obtain ⟨t, ht⟩ := List.isPrefixOf_iff_prefix.1 h3
        have := congrArg List.length ht
        rw [List.length_drop] at this
        simp at this
        omega
      cases hn : numOf (l.take i) with
      | none => exact read_bad_at l i w hL hl hp h1 hi2 hn
      | some a => exact read_entry l i w hL hl hp h1 hi2 a hn

end Go.Proofs.YtijcohldgjcjgacDoor
