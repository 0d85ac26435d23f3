/- The reference's RecText and RecRead. The reference's RecRead. The reference's RecRead, a record that is written; RecRead whole. What the laws on records ask of package note; the closed fact 'noted'; the walk of NoteSays. -/
import Derived.Test.YtknjdbpdlodpbacGreatDoorNoteA
import Derived.Test.YtknjdbpdlodpbacGreatDoorNoteB
import Derived.Test.YtknjdbpdlodpbacGreatDoorEntryN
import Derived.Test.YtknjdbpdlodpbacGreatDoorRefJ
namespace Go.Proofs.YtknjdbpdlodpbacGreatDoor
open Go.RowKit

theorem bytes_eq {a b : ByteArray} (h : a.data.toList = b.data.toList) : a = b := by
  rw [bytes_eta a, bytes_eta b, h]

theorem ret_pair {fn : Func} {R : Ending → World → Prop} {a : Act} {W : World} {p q : Nat} {x y : Value} (hf : fn.results = #[.tmp p, .tmp q]) (hd : a.defers = [])
    (h1 : a.tmps.getD p undef = x) (h2 : a.tmps.getD q undef = y) (hp : R (.returned (.tuple #[x, y])) W) : bodyPost Tryz.prog fn R .ret a W := by
  have h1' : a.tmps[p]?.getD undef = x := by simpa using h1
  have h2' : a.tmps[q]?.getD undef = y := by simpa using h2
  refine bodyPost_ret (v := .tuple #[x, y]) ?_ hd hp
  simp [results, hf, h1', h2', go_sem]

theorem tup_str {a b : ByteArray} {v : Value} (h : a.data.toList = b.data.toList) : Ending.returned (.tuple #[.string a, v]) = .returned (.tuple #[.string b, v]) := by rw [bytes_eq h]

/-- What RecText reads. -/
abbrev RtS (W w : World) (b : Nat) (r : Rc) : Prop :=
  (Laid w ∧ Below W.heap.size W w) ∧ w.cell? ⟨b, 1, none⟩ = some (.int .i64 r.a) ∧ w.cell? ⟨b, 3, none⟩ = some (.int .i64 r.e.k) ∧ w.cell? ⟨b, 4, none⟩ = some (.int .i64 r.e.j) ∧ w.cell? ⟨b, 5, none⟩ = some (.int .i64 r.e.v) ∧ w.cell? ⟨b, 6, none⟩ = some (.int .i64 r.e.t) ∧ w.cell? ⟨b, 7, none⟩ = some (.int .i64 r.e.c)

theorem rtS_step {W w w' : World} {b : Nat} {r : Rc} (h : RtS W w b r) (hb : Below w.heap.size w w') : RtS W w' b r :=
  ⟨⟨h.1.1.later hb, h.1.2.trans (hb.mono h.1.2.size)⟩, cell_later hb h.2.1, cell_later hb h.2.2.1, cell_later hb h.2.2.2.1, cell_later hb h.2.2.2.2.1, cell_later hb h.2.2.2.2.2.1, cell_later hb h.2.2.2.2.2.2⟩

theorem rtS_laid {W w : World} {b : Nat} {r : Rc} (h : RtS W w b r) : Laid w := h.1.1

set_option maxHeartbeats 4000000 in
set_option maxRecDepth 100000 in
theorem ref_recText (r : Rc) (w : World) (hL : Laid w) :
    Calls Tryz.prog 24 #[r.val] w fun e w' => e = .returned (.tuple #[.string ⟨r.ptx.toArray⟩, .int .i64 r.chk]) ∧ Below w.heap.size w w' := by
  have hB0 := grew (Below.refl w.heap.size w) (boxRc r)
  have hck := ref_chkRec r (w.alloc (boxRc r))
  have hx0 : (w.alloc (boxRc r)).heap[w.heap.size]? = some (boxRc r) := heap_new _ _
  have hL0 := hL.later hB0
  have HB0 : Aside _ := hB0
  have HL0 : Aside _ := hL0
  have HX0 : Aside _ := hx0
  clear hB0 hL0 hx0
  by_cases hz : r.chk = 0
  · have HP : Hid (r.ptx = r.txt) := by rw [Hid, Rc.ptx, if_pos hz]
    rw [HP.out, hz]
    rw [hz] at hck
    by_cases hk : r.k = 2
    · have hp := (Rc.seal hz hk).1
      have HT : Hid (r.txt = sealL ++ Lib.itoa r.p) := by rw [Hid, Rc.txt, if_pos hk]
      have hit := fun W hW => itoa_any r.p W hW (by omega) (by omega)
      have hlen := Lib.itoa_length_le r.p (by omega) (by omega)
      have hkb : (r.k == 2) = true := by rw [hk]; rfl
      generalize Lib.itoa r.p = px at *
      have hd1 : ¬ (9223372036854775807 < 5 + px.length) := by omega
      have hd3 : 5 + px.length ≤ 9223372036854775807 := by omega
      clear hz hk
      go_enter Tryz.func24, Tryz.ntmps24
      go_wp2_with fail
      refine hck.mono ?_
      rintro e w1 ⟨rfl, hb1⟩
      have hx1 := heap_below HX0.out hb1 (heap_lt HX0.out)
      have z1 : ∀ i, w1.cell? ⟨w.heap.size, i, none⟩ = #[Value.int .i64 r.k, .int .i64 r.a, .int .i64 r.p, .int .i64 r.e.k, .int .i64 r.e.j, .int .i64 r.e.v, .int .i64 r.e.t, .int .i64 r.e.c][i]? := fun i => Joins.cell_of_block hx1 i
      have HB1 : Aside (Below w.heap.size w w1) := step_below1 HB0.out hb1
      have hit1 := hit w1 (HL0.out.later hb1)
      clear hck hx1 hb1 hit HB0 HL0 HX0 hL
      go_wp2_with fail
      refine hit1.mono ?_
      rintro e w2 ⟨rfl, hb2⟩
      have HB2 : Aside (Below w.heap.size w w2) := step_below1 HB1.out hb2
      clear hit1 hb2 HB1 z1
      go_wp2
      refine ret_pair (p := 2) (q := 3) rfl rfl rfl rfl ⟨tup_str ?_, HB2.out⟩
      rw [HT.out, data_append]
      rfl
    · obtain ⟨h1, ha, hp, he⟩ := Rc.write hz hk
      have HT : Hid (r.txt = Lib.itoa r.a ++ ([58, 32] ++ r.e.txt)) := by rw [Hid, Rc.txt, if_neg hk]
      have hit := fun W hW => itoa_any r.a W hW (by omega) (by omega)
      have htx := fun W hW => ref_text r.e W hW he
      have hlen := Lib.itoa_length_le r.a (by omega) (by omega)
      have hlen2 := txt_len r.e he
      have hkb : (r.k == 2) = false := by rw [beq_eq_false_iff_ne]; exact hk
      generalize Lib.itoa r.a = px at *
      generalize r.e.txt = tx at *
      have hd1 : ¬ (9223372036854775807 < px.length + 2) := by omega
      have hd2 : ¬ (9223372036854775807 < px.length + 2 + tx.length) := by omega
      have hd3 : px.length + 2 ≤ 9223372036854775807 := by omega
      have hd4 : px.length + 2 + tx.length ≤ 9223372036854775807 := by omega
      have hd5 : ¬ (9223372036854775807 < px.length + (2 + tx.length)) := by omega
      have hd6 : px.length + (2 + tx.length) ≤ 9223372036854775807 := by omega
      clear hz h1 hp he hk
      go_enter Tryz.func24, Tryz.ntmps24
      go_wp2_with fail
      refine hck.mono ?_
      rintro e w1 ⟨rfl, hb1⟩
      have hx1 := heap_below HX0.out hb1 (heap_lt HX0.out)
      have z1 : ∀ i, w1.cell? ⟨w.heap.size, i, none⟩ = #[Value.int .i64 r.k, .int .i64 r.a, .int .i64 r.p, .int .i64 r.e.k, .int .i64 r.e.j, .int .i64 r.e.v, .int .i64 r.e.t, .int .i64 r.e.c][i]? := fun i => Joins.cell_of_block hx1 i
      have HB1 : Aside (Below w.heap.size w w1) := step_below1 HB0.out hb1
      have hS0 : RtS w1 w1 w.heap.size r := ⟨⟨HL0.out.later hb1, Below.refl _ _⟩, z1 1, z1 3, z1 4, z1 5, z1 6, z1 7⟩
      clear hck hx1 hb1 HB0 HL0 HX0 hL
      have hbd : Below w1.heap.size w1 w1.drew := (Below.refl _ _).drew
      go_wp2_with fail
      clear z1
      go_region_held3 (fun w' => RtS w1 w' w.heap.size r) (exact rtS_step (by assumption) (by assumption)) (first | (go_at_call 28; refine (hit _ (rtS_laid (by assumption))).mono ?_; rintro e w' ⟨rfl, hb'⟩) | (go_at_call 36; refine (htx _ (rtS_laid (by assumption))).mono ?_; rintro e w' ⟨rfl, hb'⟩))
      all_goals
        rename_i hS
        have HB2 : Aside (Below w.heap.size w _) := HB1.out.trans (hS.1.2.mono HB1.out.size)
        clear hS hS0 hbd hit htx HB1
        go_wp2
        refine ret_pair (p := 2) (q := 3) rfl rfl rfl rfl ⟨tup_str ?_, HB2.out⟩
        rw [HT.out, data_append, data_append]
        simp
  · have HP : Hid (r.ptx = []) := by rw [Hid, Rc.ptx, if_neg hz]
    rw [HP.out]
    have hzb : (r.chk != 0) = true := by rw [bne_iff_ne]; exact hz
    generalize r.chk = d at *
    go_enter Tryz.func24, Tryz.ntmps24
    go_wp2_with fail
    refine hck.mono ?_
    rintro e w1 ⟨rfl, hb1⟩
    have HB1 : Aside (Below w.heap.size w w1) := step_below1 HB0.out hb1
    clear hck hb1 HB0 HL0 HX0 hL
    go_wp2
    exact ret_pair (p := 2) (q := 3) rfl rfl rfl rfl ⟨rfl, HB1.out⟩

end Go.Proofs.YtknjdbpdlodpbacGreatDoor
namespace Go.Proofs.YtknjdbpdlodpbacGreatDoor
open Go.RowKit

theorem ext_from (l : List UInt8) (k : Nat) : (⟨l.toArray⟩ : ByteArray).extract k l.length = ⟨(l.drop k).toArray⟩ := by
  rw [bytes_eta (ByteArray.extract _ _ _), Lib.extract_data]
  simp only
  rw [List.take_of_length_le (by rw [List.length_drop]; exact Nat.le_refl _)]

theorem ext_upto (l : List UInt8) (k : Nat) : (⟨l.toArray⟩ : ByteArray).extract 0 k = ⟨(l.take k).toArray⟩ := by
  rw [bytes_eta (ByteArray.extract _ _ _), Lib.extract_data]
  simp

theorem five_tail {W : World} {b : Nat} {q : Rc} (h : W.heap[b]? = some (boxRc q)) (y : En) :
    (((((W.setCell ⟨b, 3, none⟩ (.int .i64 y.k)).setCell ⟨b, 4, none⟩ (.int .i64 y.j)).setCell ⟨b, 5, none⟩ (.int .i64 y.v)).setCell ⟨b, 6, none⟩ (.int .i64 y.t)).setCell ⟨b, 7, none⟩ (.int .i64 y.c)).heap[b]? = some (boxRc ⟨q.k, q.a, q.p, y⟩) := by
  have h4 := Joins.block_setCell h (i := 3) (.int .i64 y.k)
  have h5 := Joins.block_setCell h4 (i := 4) (.int .i64 y.j)
  have h6 := Joins.block_setCell h5 (i := 5) (.int .i64 y.v)
  have h7 := Joins.block_setCell h6 (i := 6) (.int .i64 y.t)
  have h8 := Joins.block_setCell h7 (i := 7) (.int .i64 y.c)
  simp only [List.setIfInBounds_toArray, List.set_cons_zero, List.set_cons_succ] at h8
  exact h8

theorem five_other {W : World} {b g : Nat} (hne : g ≠ b) (v3 v4 v5 v6 v7 : Value) :
    (((((W.setCell ⟨b, 3, none⟩ v3).setCell ⟨b, 4, none⟩ v4).setCell ⟨b, 5, none⟩ v5).setCell ⟨b, 6, none⟩ v6).setCell ⟨b, 7, none⟩ v7).heap[g]? = W.heap[g]? := by
  rw [Below.heap_setCell _ _ _ _ (by exact hne), Below.heap_setCell _ _ _ _ (by exact hne), Below.heap_setCell _ _ _ _ (by exact hne), Below.heap_setCell _ _ _ _ (by exact hne), Below.heap_setCell _ _ _ _ (by exact hne)]

theorem below_tail {B : Nat} {a W : World} {b : Nat} (h : Below B a W) (hb : B ≤ b) (v3 v4 v5 v6 v7 : Value) :
    Below B a (((((W.setCell ⟨b, 3, none⟩ v3).setCell ⟨b, 4, none⟩ v4).setCell ⟨b, 5, none⟩ v5).setCell ⟨b, 6, none⟩ v6).setCell ⟨b, 7, none⟩ v7) :=
  ((((h.setCell hb _).setCell hb _).setCell hb _).setCell hb _).setCell hb _

/-- The end of a function whose results are a record in memory and a slot. -/
theorem ret_rec {fn : Func} {R : Ending → World → Prop} {a : Act} {W : World} {b p q : Nat} {r : Rc} {y : Value} (hf : fn.results = #[.cell p 28, .tmp q]) (hd : a.defers = [])
    (h2 : a.tmps.getD p undef = .pointer (some ⟨b, 0, none⟩)) (h3 : a.tmps.getD q undef = y) (hR : W.heap[b]? = some (boxRc r)) (hp : R (.returned (.tuple #[r.val, y])) W) :
    bodyPost Tryz.prog fn R .ret a W := by
  have c0 : ∀ i, W.cell? ⟨b, i, none⟩ = #[Value.int .i64 r.k, .int .i64 r.a, .int .i64 r.p, .int .i64 r.e.k, .int .i64 r.e.j, .int .i64 r.e.v, .int .i64 r.e.t, .int .i64 r.e.c][i]? := fun i => Joins.cell_of_block hR i
  refine bodyPost_ret (v := .tuple #[r.val, y]) ?_ hd hp
  rw [results_cell_tmp hf, h2, h3]
  simp [go_sem, c0]

theorem hasPre (l : List UInt8) (w : World) : Calls Tryz.prog 49 #[.string ⟨l.toArray⟩, .string ⟨#[115, 101, 97, 108, 32]⟩] w fun e w' => e = .returned (.bool (sealL.isPrefixOf l)) ∧ w' = w := Tryz.strings_HasPrefix ⟨l.toArray⟩ ⟨#[115, 101, 97, 108, 32]⟩ w

abbrev sealR : Rc := ⟨2, 0, 0, En.zero⟩
abbrev zB : Obj := .cells #[.int .i64 0, .int .i64 0, .int .i64 0, .int .i64 0, .int .i64 0, .int .i64 0, .int .i64 0, .int .i64 0] 28
abbrev wB : Obj := .cells #[.int .i64 1, .int .i64 0, .int .i64 0, .int .i64 0, .int .i64 0, .int .i64 0, .int .i64 0, .int .i64 0] 28

set_option maxHeartbeats 4000000 in
set_option maxRecDepth 100000 in
theorem read_seal (l : List UInt8) (w : World) (hL : Laid w) (hl : l.length ≤ 30000) (hp : sealL.isPrefixOf l = true) :
    Calls Tryz.prog 34 #[.string ⟨l.toArray⟩] w fun e w' => e = .returned (.tuple #[(rcRead l).1.val, .int .i64 (rcRead l).2]) ∧ Below w.heap.size w w' := by
  have hpr := fun W => hasPre l W
  rw [hp] at hpr
  have hlen5 : 5 ≤ l.length := by have := congrArg List.length (seal_prefix hp); rw [List.length_append] at this; have h5 : sealL.length = 5 := rfl; omega
  have hsl := ext_from l 5
  have hl5 : (5 : Int) ≤ (l.length : Int) := by omega
  have HRd : Hid (rcRead l = match numOf (l.drop 5) with | none => (Rc.zero, 1) | some p => (⟨2, 0, p, En.zero⟩ : Rc).fin) := by rw [Hid, rcRead, if_pos hp]; rfl
  have hdl : (l.drop 5).length ≤ 30000 := by rw [List.length_drop]; omega
  have W0 : ((w.alloc (boxRc Rc.zero)).alloc (boxRc sealR)).heap[w.heap.size]? = some (boxRc Rc.zero) := heap_old (heap_new _ _) _
  have W1 : ((w.alloc (boxRc Rc.zero)).alloc (boxRc sealR)).heap[w.heap.size + 1]? = some (boxRc sealR) := by
    have := heap_new (w.alloc (boxRc Rc.zero)) (boxRc sealR)
    rwa [World.size_alloc] at this
  have WB : Below w.heap.size w ((w.alloc (boxRc Rc.zero)).alloc (boxRc sealR)) := grew (grew (Below.refl _ _) _) _
  clear hp hlen5
  cases hn : numOf (l.drop 5) with
  | none =>
    have HF : Hid (rcRead l = (Rc.zero, 1)) := by rw [Hid, HRd.out, hn]
    rw [HF.out]
    have hwh := fun W hW => whole_no (l.drop 5) W hW hdl hn
    generalize l.drop 5 = l5 at *
    clear HF HRd hn hdl
    go_enter Tryz.func34, Tryz.ntmps34
    go_wp2_with fail
    refine (hpr _).mono ?_
    rintro e w1 ⟨rfl, rfl⟩
    go_wp2_with fail
    refine (hwh _ (hL.later WB)).mono ?_
    rintro e w2 ⟨nn, rfl, hb2⟩
    have y0 := heap_below W0 hb2 (heap_lt W0)
    have y1 := heap_below W1 hb2 (heap_lt W1)
    have hB2 : Below w.heap.size w w2 := step_below1 WB hb2
    have z0 : ∀ i, w2.cell? ⟨w.heap.size, i, none⟩ = #[Value.int .i64 0, .int .i64 0, .int .i64 0, .int .i64 0, .int .i64 0, .int .i64 0, .int .i64 0, .int .i64 0][i]? := fun i => Joins.cell_of_block y0 i
    have f0 : ∀ i, w2.frozen? ⟨w.heap.size, i, none⟩ = false := fun i => Joins.unfrozen_of_block y0 i
    have z1 : ∀ i, w2.cell? ⟨w.heap.size + 1, i, none⟩ = #[Value.int .i64 2, .int .i64 0, .int .i64 0, .int .i64 0, .int .i64 0, .int .i64 0, .int .i64 0, .int .i64 0][i]? := fun i => Joins.cell_of_block y1 i
    have f1 : ∀ i, w2.frozen? ⟨w.heap.size + 1, i, none⟩ = false := fun i => Joins.unfrozen_of_block y1 i
    have hne : w.heap.size ≠ w.heap.size + 1 := by omega
    have HR : Aside ((w2.setCell ⟨w.heap.size + 1, 2, none⟩ (.int .i64 nn)).heap[w.heap.size]? = some (boxRc Rc.zero)) := (Below.heap_setCell _ _ _ _ (by exact hne)).trans y0
    have HB : Aside (Below w.heap.size w (w2.setCell ⟨w.heap.size + 1, 2, none⟩ (.int .i64 nn))) := hB2.setCell (p := ⟨w.heap.size + 1, 2, none⟩) (by show w.heap.size ≤ w.heap.size + 1; omega) _
    clear W0 W1 WB hb2 y0 y1 hB2 hwh hpr hL hsl
    go_wp2
    exact ret_rec (p := 2) (q := 3) Tryz.results34 rfl rfl rfl (eight_stores HR.out Rc.zero) ⟨rfl, below_eight HB.out (Nat.le_refl _) _ _ _ _ _ _ _ _⟩
  | some p =>
    have HF : Hid (rcRead l = (⟨2, 0, p, En.zero⟩ : Rc).fin) := by rw [Hid, HRd.out, hn]
    rw [HF.out]
    have hwh := fun W hW => whole_yes (l.drop 5) p W hW hdl hn
    have hck := fun W => ref_chkRec ⟨2, 0, p, En.zero⟩ W
    have HC : Hid ((⟨2, 0, p, En.zero⟩ : Rc).fin = if (⟨2, 0, p, En.zero⟩ : Rc).chk = 0 then (⟨2, 0, p, En.zero⟩, 0) else (Rc.zero, (⟨2, 0, p, En.zero⟩ : Rc).chk)) := rfl
    generalize (⟨2, 0, p, En.zero⟩ : Rc).chk = d at *
    generalize l.drop 5 = l5 at *
    clear HF HRd hn hdl
    go_enter Tryz.func34, Tryz.ntmps34
    go_wp2_with fail
    refine (hpr _).mono ?_
    rintro e w1 ⟨rfl, rfl⟩
    go_wp2_with fail
    refine (hwh _ (hL.later WB)).mono ?_
    rintro e w2 ⟨rfl, hb2⟩
    have y0 := heap_below W0 hb2 (heap_lt W0)
    have y1 := heap_below W1 hb2 (heap_lt W1)
    have hB2 : Below w.heap.size w w2 := step_below1 WB hb2
    have z0 : ∀ i, w2.cell? ⟨w.heap.size, i, none⟩ = #[Value.int .i64 0, .int .i64 0, .int .i64 0, .int .i64 0, .int .i64 0, .int .i64 0, .int .i64 0, .int .i64 0][i]? := fun i => Joins.cell_of_block y0 i
    have f0 : ∀ i, w2.frozen? ⟨w.heap.size, i, none⟩ = false := fun i => Joins.unfrozen_of_block y0 i
    have z1 : ∀ i, w2.cell? ⟨w.heap.size + 1, i, none⟩ = #[Value.int .i64 2, .int .i64 0, .int .i64 0, .int .i64 0, .int .i64 0, .int .i64 0, .int .i64 0, .int .i64 0][i]? := fun i => Joins.cell_of_block y1 i
    have f1 : ∀ i, w2.frozen? ⟨w.heap.size + 1, i, none⟩ = false := fun i => Joins.unfrozen_of_block y1 i
    have hne : w.heap.size ≠ w.heap.size + 1 := by omega
    have HR : Aside ((w2.setCell ⟨w.heap.size + 1, 2, none⟩ (.int .i64 p)).heap[w.heap.size]? = some (boxRc Rc.zero)) := (Below.heap_setCell _ _ _ _ (by exact hne)).trans y0
    have HQ : Aside ((w2.setCell ⟨w.heap.size + 1, 2, none⟩ (.int .i64 p)).heap[w.heap.size + 1]? = some (boxRc ⟨2, 0, p, En.zero⟩)) := Joins.block_setCell y1 _
    have HB : Aside (Below w.heap.size w (w2.setCell ⟨w.heap.size + 1, 2, none⟩ (.int .i64 p))) := hB2.setCell (p := ⟨w.heap.size + 1, 2, none⟩) (by show w.heap.size ≤ w.heap.size + 1; omega) _
    clear W0 W1 WB hb2 y0 y1 hB2 hwh hpr hL hsl
    go_wp2_with fail
    refine (hck _).mono ?_
    rintro e w3 ⟨rfl, hb3⟩
    have y0 := heap_below HR.out hb3 (heap_lt HR.out)
    have y1 := heap_below HQ.out hb3 (heap_lt HQ.out)
    have HB3 : Aside (Below w.heap.size w w3) := step_below1 HB.out hb3
    have HR3 : Aside _ := y0
    clear z0 f0 z1 f1 hb3 HR HQ HB hck
    have z0 : ∀ i, w3.cell? ⟨w.heap.size, i, none⟩ = #[Value.int .i64 0, .int .i64 0, .int .i64 0, .int .i64 0, .int .i64 0, .int .i64 0, .int .i64 0, .int .i64 0][i]? := fun i => Joins.cell_of_block y0 i
    have f0 : ∀ i, w3.frozen? ⟨w.heap.size, i, none⟩ = false := fun i => Joins.unfrozen_of_block y0 i
    have z1 : ∀ i, w3.cell? ⟨w.heap.size + 1, i, none⟩ = #[Value.int .i64 2, .int .i64 0, .int .i64 p, .int .i64 0, .int .i64 0, .int .i64 0, .int .i64 0, .int .i64 0][i]? := fun i => Joins.cell_of_block y1 i
    clear y0 y1
    by_cases hd : d = 0
    · subst hd
      have HF2 : Hid ((⟨2, 0, p, En.zero⟩ : Rc).fin = (⟨2, 0, p, En.zero⟩, 0)) := by rw [Hid, HC.out, if_pos rfl]
      clear HC
      go_wp2
      exact ret_rec (p := 2) (q := 3) Tryz.results34 rfl rfl rfl (eight_stores HR3.out ⟨2, 0, p, En.zero⟩) ⟨by rw [HF2.out]; rfl, below_eight HB3.out (Nat.le_refl _) _ _ _ _ _ _ _ _⟩
    · have HF2 : Hid ((⟨2, 0, p, En.zero⟩ : Rc).fin = (Rc.zero, d)) := by rw [Hid, HC.out, if_neg hd]
      have hdb : (d != 0) = true := by rw [bne_iff_ne]; exact hd
      clear HC
      go_wp2
      exact ret_rec (p := 2) (q := 3) Tryz.results34 rfl rfl rfl (eight_stores HR3.out Rc.zero) ⟨by rw [HF2.out]; rfl, below_eight HB3.out (Nat.le_refl _) _ _ _ _ _ _ _ _⟩

theorem idx_ref (l : List UInt8) (hl : l.length ≤ 30000) (W : World) (hW : Laid W) : Calls Tryz.prog 51 #[.string ⟨l.toArray⟩, .string ⟨#[58, 32]⟩] W fun e w' => e = .returned (.int .i64 (Lib.index l [58, 32])) ∧ w' = W := by
  obtain ⟨m, hm⟩ := hW.most
  exact Tryz.strings_Index ⟨l.toArray⟩ ⟨#[58, 32]⟩ m W (by rw [Lib.size_eq]; show l.length < _; omega) hm

set_option maxHeartbeats 4000000 in
set_option maxRecDepth 100000 in
theorem read_none_colon (l : List UInt8) (w : World) (hL : Laid w) (hl : l.length ≤ 30000) (hp : sealL.isPrefixOf l = false) (hi : Lib.index l [58, 32] = -1) :
    Calls Tryz.prog 34 #[.string ⟨l.toArray⟩] w fun e w' => e = .returned (.tuple #[(rcRead l).1.val, .int .i64 (rcRead l).2]) ∧ Below w.heap.size w w' := by
  have hpr := fun W => hasPre l W
  rw [hp] at hpr
  have hidx := fun W hW => idx_ref l hl W hW
  rw [hi] at hidx
  have HF : Hid (rcRead l = (Rc.zero, 1)) := by
    rw [Hid, rcRead, if_neg (by rw [hp]; simp), if_pos]
    unfold Lib.cut
    rw [hi, if_neg (by omega)]
  rw [HF.out]
  have W0 : ((w.alloc zB).alloc wB).heap[w.heap.size]? = some (boxRc Rc.zero) := heap_old (heap_new _ _) _
  have W1 : ((w.alloc zB).alloc wB).heap[w.heap.size + 1]? = some (boxRc ⟨1, 0, 0, En.zero⟩) := by
    have := heap_new (w.alloc zB) wB
    rwa [World.size_alloc] at this
  have WB : Below w.heap.size w ((w.alloc zB).alloc wB) := grew (grew (Below.refl _ _) _) _
  clear hp hi HF
  go_enter Tryz.func34, Tryz.ntmps34
  go_wp2_with fail
  refine (hpr _).mono ?_
  rintro e w1 ⟨rfl, rfl⟩
  go_wp2_with fail
  refine (hidx _ (by exact hL.later WB)).mono ?_
  rintro e w1 ⟨rfl, rfl⟩
  have hLV := hL.later WB
  generalize (w.alloc zB).alloc wB = V at *
  have y0 := W0
  have y1 := W1
  have z0 : ∀ i, V.cell? ⟨w.heap.size, i, none⟩ = #[Value.int .i64 0, .int .i64 0, .int .i64 0, .int .i64 0, .int .i64 0, .int .i64 0, .int .i64 0, .int .i64 0][i]? := fun i => Joins.cell_of_block y0 i
  have f0 : ∀ i, V.frozen? ⟨w.heap.size, i, none⟩ = false := fun i => Joins.unfrozen_of_block y0 i
  have z1 : ∀ i, V.cell? ⟨w.heap.size + 1, i, none⟩ = #[Value.int .i64 1, .int .i64 0, .int .i64 0, .int .i64 0, .int .i64 0, .int .i64 0, .int .i64 0, .int .i64 0][i]? := fun i => Joins.cell_of_block y1 i
  have f1 : ∀ i, V.frozen? ⟨w.heap.size + 1, i, none⟩ = false := fun i => Joins.unfrozen_of_block y1 i
  replace W0 : Aside _ := W0
  replace WB : Aside _ := WB
  clear W1 y0 y1 hL hLV hpr hidx
  go_wp2
  exact ret_rec (p := 2) (q := 3) Tryz.results34 rfl rfl rfl (eight_stores W0.out Rc.zero) ⟨rfl, below_eight WB.out (Nat.le_refl _) _ _ _ _ _ _ _ _⟩

set_option maxHeartbeats 4000000 in
set_option maxRecDepth 100000 in
theorem read_bad_at (l : List UInt8) (k : Nat) (w : World) (hL : Laid w) (hl : l.length ≤ 30000) (hp : sealL.isPrefixOf l = false) (hi : Lib.index l [58, 32] = k) (hk : k + 2 ≤ l.length) (hn : numOf (l.take k) = none) :
    Calls Tryz.prog 34 #[.string ⟨l.toArray⟩] w fun e w' => e = .returned (.tuple #[(rcRead l).1.val, .int .i64 (rcRead l).2]) ∧ Below w.heap.size w w' := by
  have hpr := fun W => hasPre l W
  rw [hp] at hpr
  have hidx := fun W hW => idx_ref l hl W hW
  rw [hi] at hidx
  have hcut : Lib.cut l [58, 32] = (l.take k, l.drop (k + 2), true) := by
    unfold Lib.cut
    rw [hi, if_pos (by omega)]
    rfl
  have HF : Hid (rcRead l = (Rc.zero, 1)) := by
    rw [Hid, rcRead, if_neg (by rw [hp]; simp), hcut, if_neg (by simp)]
    simp only
    rw [hn]
  rw [HF.out]
  have hex := ext_upto l k
  have hex2 := ext_from l (k + 2)
  have hk2' : (k : Int) ≤ (l.length : Int) := by omega
  have hk3' : (k : Int) + 2 ≤ (l.length : Int) := by omega
  have hk0' : (0 : Int) ≤ (k : Int) := by omega
  have hkd : decide ((k : Int) < 0) = false := decide_eq_false (by omega)
  have hkw : IntKind.i64.wrap ((k : Int) + 2) = (k : Int) + 2 := by rw [IntKind.wrap_i64]; omega
  have htl : (l.take k).length ≤ 30000 := by rw [List.length_take]; omega
  have hdl : (l.drop (k + 2)).length ≤ 30000 := by rw [List.length_drop]; omega
  have hwh := fun W hW => whole_no (l.take k) W hW htl hn
  generalize l.take k = l5 at *
  have W0 : ((w.alloc zB).alloc wB).heap[w.heap.size]? = some (boxRc Rc.zero) := heap_old (heap_new _ _) _
  have W1 : ((w.alloc zB).alloc wB).heap[w.heap.size + 1]? = some (boxRc ⟨1, 0, 0, En.zero⟩) := by
    have := heap_new (w.alloc zB) wB
    rwa [World.size_alloc] at this
  have WB : Below w.heap.size w ((w.alloc zB).alloc wB) := grew (grew (Below.refl _ _) _) _
  clear hp hi HF hcut hn htl hdl hex2
  go_enter Tryz.func34, Tryz.ntmps34
  go_wp2_with fail
  refine (hpr _).mono ?_
  rintro e w1 ⟨rfl, rfl⟩
  go_wp2_with fail
  refine (hidx _ (by exact hL.later WB)).mono ?_
  rintro e w1 ⟨rfl, rfl⟩
  have hLV := hL.later WB
  generalize (w.alloc zB).alloc wB = V at *
  have y0 := W0
  have y1 := W1
  have z0 : ∀ i, V.cell? ⟨w.heap.size, i, none⟩ = #[Value.int .i64 0, .int .i64 0, .int .i64 0, .int .i64 0, .int .i64 0, .int .i64 0, .int .i64 0, .int .i64 0][i]? := fun i => Joins.cell_of_block y0 i
  have f0 : ∀ i, V.frozen? ⟨w.heap.size, i, none⟩ = false := fun i => Joins.unfrozen_of_block y0 i
  have z1 : ∀ i, V.cell? ⟨w.heap.size + 1, i, none⟩ = #[Value.int .i64 1, .int .i64 0, .int .i64 0, .int .i64 0, .int .i64 0, .int .i64 0, .int .i64 0, .int .i64 0][i]? := fun i => Joins.cell_of_block y1 i
  have f1 : ∀ i, V.frozen? ⟨w.heap.size + 1, i, none⟩ = false := fun i => Joins.unfrozen_of_block y1 i
  replace W0 : Aside _ := W0
  replace W1 : Aside _ := W1
  replace WB : Aside _ := WB
  clear y0 y1 hL hpr hidx
  go_wp2_with fail
  refine (hwh _ hLV).mono ?_
  rintro e w2 ⟨nn, rfl, hb2⟩
  clear z0 f0 z1 f1
  have y0 := heap_below W0.out hb2 (heap_lt W0.out)
  have y1 := heap_below W1.out hb2 (heap_lt W1.out)
  have hB2 : Below w.heap.size w w2 := step_below1 WB.out hb2
  have hne : w.heap.size ≠ w.heap.size + 1 := by omega
  have z0 : ∀ i, w2.cell? ⟨w.heap.size, i, none⟩ = #[Value.int .i64 0, .int .i64 0, .int .i64 0, .int .i64 0, .int .i64 0, .int .i64 0, .int .i64 0, .int .i64 0][i]? := fun i => Joins.cell_of_block y0 i
  have f0 : ∀ i, w2.frozen? ⟨w.heap.size, i, none⟩ = false := fun i => Joins.unfrozen_of_block y0 i
  have z1 : ∀ i, w2.cell? ⟨w.heap.size + 1, i, none⟩ = #[Value.int .i64 1, .int .i64 0, .int .i64 0, .int .i64 0, .int .i64 0, .int .i64 0, .int .i64 0, .int .i64 0][i]? := fun i => Joins.cell_of_block y1 i
  have f1 : ∀ i, w2.frozen? ⟨w.heap.size + 1, i, none⟩ = false := fun i => Joins.unfrozen_of_block y1 i
  have HR : Aside ((w2.setCell ⟨w.heap.size + 1, 1, none⟩ (.int .i64 nn)).heap[w.heap.size]? = some (boxRc Rc.zero)) := (Below.heap_setCell _ _ _ _ (by exact hne)).trans y0
  have HB : Aside (Below w.heap.size w (w2.setCell ⟨w.heap.size + 1, 1, none⟩ (.int .i64 nn))) := hB2.setCell (p := ⟨w.heap.size + 1, 1, none⟩) (by show w.heap.size ≤ w.heap.size + 1; omega) _
  clear W0 W1 WB hb2 y0 y1 hB2 hwh hLV
  go_wp2
  exact ret_rec (p := 2) (q := 3) Tryz.results34 rfl rfl rfl (eight_stores HR.out Rc.zero) ⟨rfl, below_eight HB.out (Nat.le_refl _) _ _ _ _ _ _ _ _⟩

end Go.Proofs.YtknjdbpdlodpbacGreatDoor
namespace Go.Proofs.YtknjdbpdlodpbacGreatDoor
open Go.RowKit

set_option maxHeartbeats 1500000 in
set_option maxRecDepth 100000 in
theorem read_entry (l : List UInt8) (k : Nat) (w : World) (hL : Laid w) (hl : l.length ≤ 30000) (hp : sealL.isPrefixOf l = false) (hi : Lib.index l [58, 32] = k) (hk : k + 2 ≤ l.length) (a : Int) (hn : numOf (l.take k) = some a) :
    Calls Tryz.prog 34 #[.string ⟨l.toArray⟩] w fun e w' => e = .returned (.tuple #[(rcRead l).1.val, .int .i64 (rcRead l).2]) ∧ Below w.heap.size w w' := by
  have hpr := fun W => hasPre l W
  rw [hp] at hpr
  have hidx := fun W hW => idx_ref l hl W hW
  rw [hi] at hidx
  have hcut : Lib.cut l [58, 32] = (l.take k, l.drop (k + 2), true) := by
    unfold Lib.cut
    rw [hi, if_pos (by omega)]
    rfl
  have HF : Hid (rcRead l = if ¬ (prs (l.drop (k + 2))).2 = 0 then (Rc.zero, (prs (l.drop (k + 2))).2) else (⟨1, a, 0, (prs (l.drop (k + 2))).1⟩ : Rc).fin) := by
    rw [Hid, rcRead, if_neg (by rw [hp]; simp), hcut, if_neg (by simp)]
    simp only
    rw [hn]
  rw [HF.out]
  have hex := ext_upto l k
  have hex2 := ext_from l (k + 2)
  have hk2' : (k : Int) ≤ (l.length : Int) := by omega
  have hk3' : (k : Int) + 2 ≤ (l.length : Int) := by omega
  have hk0' : (0 : Int) ≤ (k : Int) := by omega
  have hkd : decide ((k : Int) < 0) = false := decide_eq_false (by omega)
  have hkw : IntKind.i64.wrap ((k : Int) + 2) = (k : Int) + 2 := by rw [IntKind.wrap_i64]; omega
  have htl : (l.take k).length ≤ 30000 := by rw [List.length_take]; omega
  have hdl : (l.drop (k + 2)).length ≤ 30000 := by rw [List.length_drop]; omega
  have hwh := fun W hW => whole_yes (l.take k) a W hW htl hn
  have hrr := fun W hW => ref_read (l.drop (k + 2)) W hW hdl
  generalize (prs (l.drop (k + 2))).1 = y at *
  generalize (prs (l.drop (k + 2))).2 = f at *
  have hck := fun W => ref_chkRec ⟨1, a, 0, y⟩ W
  have HC : Hid ((⟨1, a, 0, y⟩ : Rc).fin = if (⟨1, a, 0, y⟩ : Rc).chk = 0 then (⟨1, a, 0, y⟩, 0) else (Rc.zero, (⟨1, a, 0, y⟩ : Rc).chk)) := rfl
  generalize (⟨1, a, 0, y⟩ : Rc).chk = d at *
  generalize l.drop (k + 2) = l6 at *
  generalize l.take k = l5 at *
  have W0 : ((w.alloc zB).alloc wB).heap[w.heap.size]? = some (boxRc Rc.zero) := heap_old (heap_new _ _) _
  have W1 : ((w.alloc zB).alloc wB).heap[w.heap.size + 1]? = some (boxRc ⟨1, 0, 0, En.zero⟩) := by
    have := heap_new (w.alloc zB) wB
    rwa [World.size_alloc] at this
  have WB : Below w.heap.size w ((w.alloc zB).alloc wB) := grew (grew (Below.refl _ _) _) _
  clear hp hi HF hcut hn htl hdl
  obtain ⟨rr, HRR⟩ : ∃ rr, Hid ((if ¬ f = 0 then (Rc.zero, f) else (⟨1, a, 0, y⟩ : Rc).fin) = rr) := ⟨_, rfl⟩
  rw [HRR.out]
  go_enter Tryz.func34, Tryz.ntmps34
  go_wp2_with fail
  refine (hpr _).mono ?_
  rintro e w1 ⟨rfl, rfl⟩
  go_wp2_with fail
  refine (hidx _ (by exact hL.later WB)).mono ?_
  rintro e w1 ⟨rfl, rfl⟩
  have hLV := hL.later WB
  generalize (w.alloc zB).alloc wB = V at *
  have y0 := W0
  have y1 := W1
  have z0 : ∀ i, V.cell? ⟨w.heap.size, i, none⟩ = #[Value.int .i64 0, .int .i64 0, .int .i64 0, .int .i64 0, .int .i64 0, .int .i64 0, .int .i64 0, .int .i64 0][i]? := fun i => Joins.cell_of_block y0 i
  have f0 : ∀ i, V.frozen? ⟨w.heap.size, i, none⟩ = false := fun i => Joins.unfrozen_of_block y0 i
  have z1 : ∀ i, V.cell? ⟨w.heap.size + 1, i, none⟩ = #[Value.int .i64 1, .int .i64 0, .int .i64 0, .int .i64 0, .int .i64 0, .int .i64 0, .int .i64 0, .int .i64 0][i]? := fun i => Joins.cell_of_block y1 i
  have f1 : ∀ i, V.frozen? ⟨w.heap.size + 1, i, none⟩ = false := fun i => Joins.unfrozen_of_block y1 i
  replace W0 : Aside _ := W0
  replace W1 : Aside _ := W1
  replace WB : Aside _ := WB
  clear y0 y1 hpr hidx
  go_wp2_with fail
  refine (hwh _ hLV).mono ?_
  rintro e w2 ⟨rfl, hb2⟩
  clear z0 f0 z1 f1
  have y0 := heap_below W0.out hb2 (heap_lt W0.out)
  have y1 := heap_below W1.out hb2 (heap_lt W1.out)
  have hB2 : Below w.heap.size w w2 := step_below1 WB.out hb2
  have hne : w.heap.size ≠ w.heap.size + 1 := by omega
  have z0 : ∀ i, w2.cell? ⟨w.heap.size, i, none⟩ = #[Value.int .i64 0, .int .i64 0, .int .i64 0, .int .i64 0, .int .i64 0, .int .i64 0, .int .i64 0, .int .i64 0][i]? := fun i => Joins.cell_of_block y0 i
  have f0 : ∀ i, w2.frozen? ⟨w.heap.size, i, none⟩ = false := fun i => Joins.unfrozen_of_block y0 i
  have z1 : ∀ i, w2.cell? ⟨w.heap.size + 1, i, none⟩ = #[Value.int .i64 1, .int .i64 0, .int .i64 0, .int .i64 0, .int .i64 0, .int .i64 0, .int .i64 0, .int .i64 0][i]? := fun i => Joins.cell_of_block y1 i
  have f1 : ∀ i, w2.frozen? ⟨w.heap.size + 1, i, none⟩ = false := fun i => Joins.unfrozen_of_block y1 i
  have HR : (w2.setCell ⟨w.heap.size + 1, 1, none⟩ (.int .i64 a)).heap[w.heap.size]? = some (boxRc Rc.zero) := (Below.heap_setCell _ _ _ _ (by exact hne)).trans y0
  have HQ : (w2.setCell ⟨w.heap.size + 1, 1, none⟩ (.int .i64 a)).heap[w.heap.size + 1]? = some (boxRc ⟨1, a, 0, En.zero⟩) := Joins.block_setCell y1 _
  have HB : Below w.heap.size w (w2.setCell ⟨w.heap.size + 1, 1, none⟩ (.int .i64 a)) := hB2.setCell (p := ⟨w.heap.size + 1, 1, none⟩) (by show w.heap.size ≤ w.heap.size + 1; omega) _
  have hLW := hL.later HB
  replace HR : Aside _ := HR
  replace HQ : Aside _ := HQ
  replace HB : Aside _ := HB
  clear W0 W1 WB hb2 y0 y1 hB2 hwh hLV
  go_wp2_with fail
  refine (hrr _ hLW).mono ?_
  rintro e w3 ⟨rfl, hb3⟩
  have y0 := heap_below HR.out hb3 (heap_lt HR.out)
  have y1 := heap_below HQ.out hb3 (heap_lt HQ.out)
  have HB3 : Aside (Below w.heap.size w w3) := step_below1 HB.out hb3
  clear z0 f0 z1 f1 hb3 HR HQ HB hrr hLW hL
  have z0 : ∀ i, w3.cell? ⟨w.heap.size, i, none⟩ = #[Value.int .i64 0, .int .i64 0, .int .i64 0, .int .i64 0, .int .i64 0, .int .i64 0, .int .i64 0, .int .i64 0][i]? := fun i => Joins.cell_of_block y0 i
  have f0 : ∀ i, w3.frozen? ⟨w.heap.size, i, none⟩ = false := fun i => Joins.unfrozen_of_block y0 i
  have z1 : ∀ i, w3.cell? ⟨w.heap.size + 1, i, none⟩ = #[Value.int .i64 1, .int .i64 a, .int .i64 0, .int .i64 0, .int .i64 0, .int .i64 0, .int .i64 0, .int .i64 0][i]? := fun i => Joins.cell_of_block y1 i
  have f1 : ∀ i, w3.frozen? ⟨w.heap.size + 1, i, none⟩ = false := fun i => Joins.unfrozen_of_block y1 i
  have HR4 : Aside _ := (five_other (W := w3) hne (.int .i64 y.k) (.int .i64 y.j) (.int .i64 y.v) (.int .i64 y.t) (.int .i64 y.c)).trans y0
  have HQ4 : Aside _ := five_tail y1 y
  have HB4 : Aside (Below w.heap.size w _) := below_tail (b := w.heap.size + 1) HB3.out (by omega) (.int .i64 y.k) (.int .i64 y.j) (.int .i64 y.v) (.int .i64 y.t) (.int .i64 y.c)
  clear y0 y1 HB3
  go_upto_region 16 with fail
  generalize ((((w3.setCell ⟨w.heap.size + 1, 3, none⟩ (.int .i64 y.k)).setCell ⟨w.heap.size + 1, 4, none⟩ (.int .i64 y.j)).setCell ⟨w.heap.size + 1, 5, none⟩ (.int .i64 y.v)).setCell ⟨w.heap.size + 1, 6, none⟩ (.int .i64 y.t)).setCell ⟨w.heap.size + 1, 7, none⟩ (.int .i64 y.c) = V4 at *
  clear z0 f0 z1 f1
  have z0 : ∀ i, V4.cell? ⟨w.heap.size, i, none⟩ = #[Value.int .i64 0, .int .i64 0, .int .i64 0, .int .i64 0, .int .i64 0, .int .i64 0, .int .i64 0, .int .i64 0][i]? := fun i => Joins.cell_of_block HR4.out i
  have f0 : ∀ i, V4.frozen? ⟨w.heap.size, i, none⟩ = false := fun i => Joins.unfrozen_of_block HR4.out i
  have z1 : ∀ i, V4.cell? ⟨w.heap.size + 1, i, none⟩ = #[Value.int .i64 1, .int .i64 a, .int .i64 0, .int .i64 y.k, .int .i64 y.j, .int .i64 y.v, .int .i64 y.t, .int .i64 y.c][i]? := fun i => Joins.cell_of_block HQ4.out i
  by_cases hf : f = 0
  · have hfb : (f != 0) = false := by rw [hf]; rfl
    have HF3 : Hid (rr = (⟨1, a, 0, y⟩ : Rc).fin) := by rw [Hid, ← HRR.out, if_neg (by simpa using hf)]
    clear hf HRR
    go_wp2_with fail
    refine (hck _).mono ?_
    rintro e w5 ⟨rfl, hb5⟩
    have y0 := heap_below HR4.out hb5 (heap_lt HR4.out)
    have y1 := heap_below HQ4.out hb5 (heap_lt HQ4.out)
    have HB5 : Aside (Below w.heap.size w w5) := step_below1 HB4.out hb5
    have HR5 : Aside _ := y0
    clear z0 f0 z1 hb5 HR4 HQ4 HB4 hck
    have z0 : ∀ i, w5.cell? ⟨w.heap.size, i, none⟩ = #[Value.int .i64 0, .int .i64 0, .int .i64 0, .int .i64 0, .int .i64 0, .int .i64 0, .int .i64 0, .int .i64 0][i]? := fun i => Joins.cell_of_block y0 i
    have f0 : ∀ i, w5.frozen? ⟨w.heap.size, i, none⟩ = false := fun i => Joins.unfrozen_of_block y0 i
    have z1 : ∀ i, w5.cell? ⟨w.heap.size + 1, i, none⟩ = #[Value.int .i64 1, .int .i64 a, .int .i64 0, .int .i64 y.k, .int .i64 y.j, .int .i64 y.v, .int .i64 y.t, .int .i64 y.c][i]? := fun i => Joins.cell_of_block y1 i
    have f1 : ∀ i, w5.frozen? ⟨w.heap.size + 1, i, none⟩ = false := fun i => Joins.unfrozen_of_block y1 i
    clear y0 y1
    by_cases hd : d = 0
    · subst hd
      have HF2 : Hid ((⟨1, a, 0, y⟩ : Rc).fin = (⟨1, a, 0, y⟩, 0)) := by rw [Hid, HC.out, if_pos rfl]
      clear HC
      go_wp2
      exact ret_rec (p := 2) (q := 3) Tryz.results34 rfl rfl rfl (eight_stores HR5.out ⟨1, a, 0, y⟩) ⟨by rw [HF3.out, HF2.out]; rfl, below_eight HB5.out (Nat.le_refl _) _ _ _ _ _ _ _ _⟩
    · have HF2 : Hid ((⟨1, a, 0, y⟩ : Rc).fin = (Rc.zero, d)) := by rw [Hid, HC.out, if_neg hd]
      have hdb : (d != 0) = true := by rw [bne_iff_ne]; exact hd
      clear HC
      go_wp2
      exact ret_rec (p := 2) (q := 3) Tryz.results34 rfl rfl rfl (eight_stores HR5.out Rc.zero) ⟨by rw [HF3.out, HF2.out]; rfl, below_eight HB5.out (Nat.le_refl _) _ _ _ _ _ _ _ _⟩
  · have hfb : (f != 0) = true := by rw [bne_iff_ne]; exact hf
    have HF3 : Hid (rr = (Rc.zero, f)) := by rw [Hid, ← HRR.out, if_pos hf]
    clear HC hck hf HRR
    go_wp2
    exact ret_rec (p := 2) (q := 3) Tryz.results34 rfl rfl rfl (eight_stores HR4.out Rc.zero) ⟨by rw [HF3.out]; rfl, below_eight HB4.out (Nat.le_refl _) _ _ _ _ _ _ _ _⟩

/-- The reference's RecRead. -/
theorem ref_recRead (l : List UInt8) (w : World) (hL : Laid w) (hl : l.length ≤ 30000) :
    Calls Tryz.prog 34 #[.string ⟨l.toArray⟩] w fun e w' => e = .returned (.tuple #[(rcRead l).1.val, .int .i64 (rcRead l).2]) ∧ Below w.heap.size w w' := by
  cases hp : sealL.isPrefixOf l with
  | true => exact read_seal l w hL hl hp
  | false =>
    rcases Lib.index_spec l [58, 32] with ⟨h1, _⟩ | ⟨i, h1, h2, h3, _⟩
    · exact read_none_colon l w hL hl hp h1
    · have hi2 : i + 2 ≤ l.length := by
        unfold Lib.occAt at h3
        obtain ⟨t, ht⟩ := List.isPrefixOf_iff_prefix.1 h3
        have := congrArg List.length ht
        rw [List.length_drop] at this
        simp at this
        omega
      cases hn : numOf (l.take i) with
      | none => exact read_bad_at l i w hL hl hp h1 hi2 hn
      | some a => exact read_entry l i w hL hl hp h1 hi2 a hn

end Go.Proofs.YtknjdbpdlodpbacGreatDoor
namespace Go.Proofs.YtknjdbpdlodpbacGreatDoor
open Go.RowKit

/-- Package note's three functions, at every record and text. -/
structure Notes : Prop where
  check : ∀ (r : Rc) (W : World), Laid W → Calls Tryz.prog 27 #[r.val] W fun e w' => e = .returned (.int .i64 r.chk) ∧ Below W.heap.size W w'
  print : ∀ (r : Rc) (W : World), Laid W → Calls Tryz.prog 17 #[r.val] W fun e w' => e = .returned (.tuple #[.string ⟨r.ptx.toArray⟩, .int .i64 r.chk]) ∧ Below W.heap.size W w'
  parse : ∀ (s : ByteArray) (W : World), Laid W → Calls Tryz.prog 31 #[.string s] W fun e w' => e = .returned (.tuple #[(rcPrs s.data.toList).1.val, .int .i64 (rcPrs s.data.toList).2]) ∧ Below W.heap.size W w'

def r1 : Rc := ⟨1, 7, 0, e1⟩
def r2 : Rc := ⟨2, 0, 3, En.zero⟩
theorem r1_chk : r1.chk = 0 := by decide
theorem r2_chk : r2.chk = 0 := by decide
theorem r1_ptx : r1.ptx = [55, 58, 32, 112, 117, 116, 32, 50, 32, 53, 32, 49, 48] := by
  rw [Rc.ptx, if_pos r1_chk, Rc.txt, if_neg (by decide)]
  show Lib.itoa ((7 : Nat) : Int) ++ ([58, 32] ++ e1.txt) = _
  rw [itoa1 7 (by omega), e1_txt]
  decide
theorem r2_ptx : r2.ptx = [115, 101, 97, 108, 32, 51] := by
  rw [Rc.ptx, if_pos r2_chk, Rc.txt, if_pos (by decide)]
  show sealL ++ Lib.itoa ((3 : Nat) : Int) = _
  rw [itoa1 3 (by omega)]
  decide
theorem r1_prs : rcPrs [55, 58, 32, 112, 117, 116, 32, 50, 32, 53, 32, 49, 48] = (r1, 0) := by
  have h := read_txt r1_chk
  have e : r1.txt = [55, 58, 32, 112, 117, 116, 32, 50, 32, 53, 32, 49, 48] := by rw [← r1_ptx, Rc.ptx, if_pos r1_chk]
  rw [e] at h
  rw [rcPrs, if_neg (by decide), h]

/-- A record in its box. -/
abbrev BxS (W w : World) (b : Nat) (r : Rc) : Prop :=
  Below W.heap.size W w ∧ w.cell? ⟨b, 0, none⟩ = some (.int .i64 r.k) ∧ w.cell? ⟨b, 1, none⟩ = some (.int .i64 r.a) ∧ w.cell? ⟨b, 2, none⟩ = some (.int .i64 r.p) ∧ w.cell? ⟨b, 3, none⟩ = some (.int .i64 r.e.k) ∧ w.cell? ⟨b, 4, none⟩ = some (.int .i64 r.e.j) ∧ w.cell? ⟨b, 5, none⟩ = some (.int .i64 r.e.v) ∧ w.cell? ⟨b, 6, none⟩ = some (.int .i64 r.e.t) ∧ w.cell? ⟨b, 7, none⟩ = some (.int .i64 r.e.c)

theorem bxS_step {W w w' : World} {b : Nat} {r : Rc} (h : BxS W w b r) (hb : Below w.heap.size w w') : BxS W w' b r :=
  ⟨h.1.trans (hb.mono h.1.size), cell_later hb h.2.1, cell_later hb h.2.2.1, cell_later hb h.2.2.2.1, cell_later hb h.2.2.2.2.1, cell_later hb h.2.2.2.2.2.1, cell_later hb h.2.2.2.2.2.2.1, cell_later hb h.2.2.2.2.2.2.2.1, cell_later hb h.2.2.2.2.2.2.2.2⟩

theorem bxS_new (w : World) (r : Rc) : BxS (w.alloc (boxRc r)) (w.alloc (boxRc r)) w.heap.size r := by
  have hx : (w.alloc (boxRc r)).heap[w.heap.size]? = some (boxRc r) := heap_new _ _
  exact ⟨Below.refl _ _, Joins.cell_of_block hx 0, Joins.cell_of_block hx 1, Joins.cell_of_block hx 2, Joins.cell_of_block hx 3, Joins.cell_of_block hx 4, Joins.cell_of_block hx 5, Joins.cell_of_block hx 6, Joins.cell_of_block hx 7⟩

end Go.Proofs.YtknjdbpdlodpbacGreatDoor
