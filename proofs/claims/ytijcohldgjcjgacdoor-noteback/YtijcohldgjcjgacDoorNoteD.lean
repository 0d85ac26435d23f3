/- The reference's RecRead. -/
import Derived.Test.YtijcohldgjcjgacDoorNoteC
namespace Go.Proofs.YtijcohldgjcjgacDoor
open Go.RowKit

theorem ext_from (l : List UInt8) (k : Nat) : (⟨l.toArray⟩ : ByteArray).extract k l.length = ⟨(l.drop k).toArray⟩ := by
  rw [bytes_eta (ByteArray.extract _ _ _), Lib.extract_data]
  simp only
  rw [List.take_of_length_le (by rw [List.length_drop]; exact Nat.le_refl _)]

theorem ext_upto (l : List UInt8) (k : Nat) : (⟨l.toArray⟩ : ByteArray).extract 0 k = ⟨(l.take k).toArray⟩ := by
  rw [bytes_eta (ByteArray.extract _ _ _), Lib.extract_data]
  simp

theorem eight_stores {W : World} {b : Nat} {q : Rc} (h : W.heap[b]? = some (boxRc q)) (r : Rc) :
    ((((((((W.setCell ⟨b, 0, none⟩ (.int .i64 r.k)).setCell ⟨b, 1, none⟩ (.int .i64 r.a)).setCell ⟨b, 2, none⟩ (.int .i64 r.p)).setCell ⟨b, 3, none⟩ (.int .i64 r.e.k)).setCell ⟨b, 4, none⟩ (.int .i64 r.e.j)).setCell ⟨b, 5, none⟩ (.int .i64 r.e.v)).setCell ⟨b, 6, none⟩ (.int .i64 r.e.t)).setCell ⟨b, 7, none⟩ (.int .i64 r.e.c)).heap[b]? = some (boxRc r) := by
  have h1 := Joins.block_setCell h (i := 0) (.int .i64 r.k)
  have h2 := Joins.block_setCell h1 (i := 1) (.int .i64 r.a)
  have h3 := Joins.block_setCell h2 (i := 2) (.int .i64 r.p)
  have h4 := Joins.block_setCell h3 (i := 3) (.int .i64 r.e.k)
  have h5 := Joins.block_setCell h4 (i := 4) (.int .i64 r.e.j)
  have h6 := Joins.block_setCell h5 (i := 5) (.int .i64 r.e.v)
  have h7 := Joins.block_setCell h6 (i := 6) (.int .i64 r.e.t)
  have h8 := Joins.block_setCell h7 (i := 7) (.int .i64 r.e.c)
  simp only [List.setIfInBounds_toArray, List.set_cons_zero, List.set_cons_succ] at h8
  exact h8

theorem five_tail {W : World} {b : Nat} {q : Rc} (h : W.heap[b]? = some (boxRc q)) (y : En) :
    (((((W.setCell ⟨b, 3, none⟩ (.int .i64 y.k)).setCell ⟨b, 4, none⟩ (.int .i64 y.j)).setCell ⟨b, 5, none⟩ (.int .i64 y.v)).setCell ⟨b, 6, none⟩ (.int .i64 y.t)).setCell ⟨b, 7, none⟩ (.int .i64 y.c)).heap[b]? = some (boxRc ⟨q.k, q.a, q.p, y⟩) := by
  have h4 := Joins.block_setCell h (i := 3) (.int .i64 y.k)
  have h5 := Joins.block_setCell h4 (i := 4) (.int .i64 y.j)
  have h6 := Joins.block_setCell h5 (i := 5) (.int .i64 y.v)
  have h7 := Joins.block_setCell h6 (i := 6) (.int .i64 y.t)
  have h8 := Joins.block_setCell h7 (i := 7) (.int .i64 y.c)
  simp only [List.setIfInBounds_toArray, List.set_cons_zero, List.set_cons_succ] at h8
  exact h8

theorem five_other {W : World} {b g : Nat} (hne : g ≠ b) (v3 v4 v5 v6 v7 : Value) :
    (((((W.setCell ⟨b, 3, none⟩ v3).setCell ⟨b, 4, none⟩ v4).setCell ⟨b, 5, none⟩ v5).setCell ⟨b, 6, none⟩ v6).setCell ⟨b, 7, none⟩ v7).heap[g]? = W.heap[g]? := by
  rw [Below.heap_setCell _ _ _ _ (by exact hne), Below.heap_setCell _ _ _ _ (by exact hne), Below.heap_setCell _ _ _ _ (by exact hne), Below.heap_setCell _ _ _ _ (by exact hne), Below.heap_setCell _ _ _ _ (by exact hne)]

theorem below_tail {B : Nat} {a W : World} {b : Nat} (h : Below B a W) (hb : B ≤ b) (v3 v4 v5 v6 v7 : Value) :
    Below B a (((((W.setCell ⟨b, 3, none⟩ v3).setCell ⟨b, 4, none⟩ v4).setCell ⟨b, 5, none⟩ v5).setCell ⟨b, 6, none⟩ v6).setCell ⟨b, 7, none⟩ v7) :=
  ((((h.setCell hb _).setCell hb _).setCell hb _).setCell hb _).setCell hb _

theorem below_eight {B : Nat} {a W : World} {b : Nat} (h : Below B a W) (hb : B ≤ b) (v0 v1 v2 v3 v4 v5 v6 v7 : Value) :
    Below B a ((((((((W.setCell ⟨b, 0, none⟩ v0).setCell ⟨b, 1, none⟩ v1).setCell ⟨b, 2, none⟩ v2).setCell ⟨b, 3, none⟩ v3).setCell ⟨b, 4, none⟩ v4).setCell ⟨b, 5, none⟩ v5).setCell ⟨b, 6, none⟩ v6).setCell ⟨b, 7, none⟩ v7) :=
  (((((((h.setCell hb _).setCell hb _).setCell hb _).setCell hb _).setCell hb _).setCell hb _).setCell hb _).setCell hb _

/-- The end of a function whose results are a record in memory and a slot. -/
theorem ret_rec {fn : Func} {R : Ending → World → Prop} {a : Act} {W : World} {b p q : Nat} {r : Rc} {y : Value} (hf : fn.results = #[.cell p 25, .tmp q]) (hd : a.defers = [])
    (h2 : a.tmps.getD p undef = .pointer (some ⟨b, 0, none⟩)) (h3 : a.tmps.getD q undef = y) (hR : W.heap[b]? = some (boxRc r)) (hp : R (.returned (.tuple #[r.val, y])) W) :
    bodyPost Tryd.prog fn R .ret a W := by
  have c0 : ∀ i, W.cell? ⟨b, i, none⟩ = #[Value.int .i64 r.k, .int .i64 r.a, .int .i64 r.p, .int .i64 r.e.k, .int .i64 r.e.j, .int .i64 r.e.v, .int .i64 r.e.t, .int .i64 r.e.c][i]? := fun i => Joins.cell_of_block hR i
  refine bodyPost_ret (v := .tuple #[r.val, y]) ?_ hd hp
  rw [results_cell_tmp hf, h2, h3]
  simp [go_sem, c0]

theorem hasPre (l : List UInt8) (w : World) : Calls Tryd.prog 19 #[.string ⟨l.toArray⟩, .string ⟨#[115, 101, 97, 108, 32]⟩] w fun e w' => e = .returned (.bool (sealL.isPrefixOf l)) ∧ w' = w := Tryd.strings_HasPrefix ⟨l.toArray⟩ ⟨#[115, 101, 97, 108, 32]⟩ w

abbrev sealR : Rc := ⟨2, 0, 0, En.zero⟩
abbrev zB : Obj := .cells #[.int .i64 0, .int .i64 0, .int .i64 0, .int .i64 0, .int .i64 0, .int .i64 0, .int .i64 0, .int .i64 0] 25
abbrev wB : Obj := .cells #[.int .i64 1, .int .i64 0, .int .i64 0, .int .i64 0, .int .i64 0, .int .i64 0, .int .i64 0, .int .i64 0] 25

set_option maxHeartbeats 4000000 in
set_option maxRecDepth 100000 in
theorem read_seal (l : List UInt8) (w : World) (hL : Laid w) (hl : l.length ≤ 30000) (hp : sealL.isPrefixOf l = true) :
    Calls Tryd.prog 10 #[.string ⟨l.toArray⟩] w fun e w' => e = .returned (.tuple #[(rcRead l).1.val, .int .i64 (rcRead l).2]) ∧ Below w.heap.size w w' := by
  have hpr := fun W => hasPre l W
  rw [hp] at hpr
  have hlen5 : 5 ≤ l.length := by have := congrArg List.length (seal_prefix hp); rw [List.length_append] at this; have h5 : sealL.length = 5 := rfl; omega
  have hsl := ext_from l 5
  have hl5 : (5 : Int) ≤ (l.length : Int) := by omega
  have HRd : Hid (rcRead l = match numOf (l.drop 5) with | none => (Rc.zero, 1) | some p => (⟨2, 0, p, En.zero⟩ : Rc).fin) := by rw [Hid, rcRead, if_pos hp]; rfl
  have hdl : (l.drop 5).length ≤ 30000 := by rw [List.length_drop]; omega
  have W0 : ((w.alloc (boxRc Rc.zero)).alloc (boxRc sealR)).heap[w.heap.size]? = some (boxRc Rc.zero) := heap_old (heap_new _ _) _
  have W1 : ((w.alloc (boxRc Rc.zero)).alloc (boxRc sealR)).heap[w.heap.size + 1]? = some (boxRc sealR) := by
    have := heap_new (w.alloc (boxRc Rc.zero)) (boxRc sealR)
    rwa [World.size_alloc] at this
  have WB : Below w.heap.size w ((w.alloc (boxRc Rc.zero)).alloc (boxRc sealR)) := grew (grew (Below.refl _ _) _) _
  clear hp hlen5
  cases hn : numOf (l.drop 5) with
  | none =>
    have HF : Hid (rcRead l = (Rc.zero, 1)) := by rw [Hid, HRd.out, hn]
    rw [HF.out]
    have hwh := fun W hW => whole_no (l.drop 5) W hW hdl hn
    generalize l.drop 5 = l5 at *
    clear HF HRd hn hdl
    go_enter Tryd.func10, Tryd.ntmps10
    go_wp2_with fail
    refine (hpr _).mono ?_
    rintro e w1 ⟨rfl, rfl⟩
    go_wp2_with fail
    refine (hwh _ (hL.later WB)).mono ?_
    rintro e w2 ⟨nn, rfl, hb2⟩
    have y0 := heap_below W0 hb2 (heap_lt W0)
    have y1 := heap_below W1 hb2 (heap_lt W1)
    have hB2 : Below w.heap.size w w2 := step_below1 WB hb2
    have z0 : ∀ i, w2.cell? ⟨w.heap.size, i, none⟩ = #[Value.int .i64 0, .int .i64 0, .int .i64 0, .int .i64 0, .int .i64 0, .int .i64 0, .int .i64 0, .int .i64 0][i]? := fun i => Joins.cell_of_block y0 i
    have f0 : ∀ i, w2.frozen? ⟨w.heap.size, i, none⟩ = false := fun i => Joins.unfrozen_of_block y0 i
    have z1 : ∀ i, w2.cell? ⟨w.heap.size + 1, i, none⟩ = #[Value.int .i64 2, .int .i64 0, .int .i64 0, .int .i64 0, .int .i64 0, .int .i64 0, .int .i64 0, .int .i64 0][i]? := fun i => Joins.cell_of_block y1 i
    have f1 : ∀ i, w2.frozen? ⟨w.heap.size + 1, i, none⟩ = false := fun i => Joins.unfrozen_of_block y1 i
    have hne : w.heap.size ≠ w.heap.size + 1 := by omega
    have HR : Aside ((w2.setCell ⟨w.heap.size + 1, 2, none⟩ (.int .i64 nn)).heap[w.heap.size]? = some (boxRc Rc.zero)) := (Below.heap_setCell _ _ _ _ (by exact hne)).trans y0
    have HB : Aside (Below w.heap.size w (w2.setCell ⟨w.heap.size + 1, 2, none⟩ (.int .i64 nn))) := hB2.setCell (p := ⟨w.heap.size + 1, 2, none⟩) (by show w.heap.size ≤ w.heap.size + 1; omega) _
    clear W0 W1 WB hb2 y0 y1 hB2 hwh hpr hL hsl
    go_wp2
    exact ret_rec (p := 2) (q := 3) Tryd.results10 rfl rfl rfl (eight_stores HR.out Rc.zero) ⟨rfl, below_eight HB.out (Nat.le_refl _) _ _ _ _ _ _ _ _⟩
  | some p =>
    have HF : Hid (rcRead l = (⟨2, 0, p, En.zero⟩ : Rc).fin) := by rw [Hid, HRd.out, hn]
    rw [HF.out]
    have hwh := fun W hW => whole_yes (l.drop 5) p W hW hdl hn
    have hck := fun W => ref_chkRec ⟨2, 0, p, En.zero⟩ W
    have HC : Hid ((⟨2, 0, p, En.zero⟩ : Rc).fin = if (⟨2, 0, p, En.zero⟩ : Rc).chk = 0 then (⟨2, 0, p, En.zero⟩, 0) else (Rc.zero, (⟨2, 0, p, En.zero⟩ : Rc).chk)) := rfl
    generalize (⟨2, 0, p, En.zero⟩ : Rc).chk = d at *
    generalize l.drop 5 = l5 at *
    clear HF HRd hn hdl
    go_enter Tryd.func10, Tryd.ntmps10
    go_wp2_with fail
    refine (hpr _).mono ?_
    rintro e w1 ⟨rfl, rfl⟩
    go_wp2_with fail
    refine (hwh _ (hL.later WB)).mono ?_
    rintro e w2 ⟨rfl, hb2⟩
    have y0 := heap_below W0 hb2 (heap_lt W0)
    have y1 := heap_below W1 hb2 (heap_lt W1)
    have hB2 : Below w.heap.size w w2 := step_below1 WB hb2
    have z0 : ∀ i, w2.cell? ⟨w.heap.size, i, none⟩ = #[Value.int .i64 0, .int .i64 0, .int .i64 0, .int .i64 0, .int .i64 0, .int .i64 0, .int .i64 0, .int .i64 0][i]? := fun i => Joins.cell_of_block y0 i
    have f0 : ∀ i, w2.frozen? ⟨w.heap.size, i, none⟩ = false := fun i => Joins.unfrozen_of_block y0 i
    have z1 : ∀ i, w2.cell? ⟨w.heap.size + 1, i, none⟩ = #[Value.int .i64 2, .int .i64 0, .int .i64 0, .int .i64 0, .int .i64 0, .int .i64 0, .int .i64 0, .int .i64 0][i]? := fun i => Joins.cell_of_block y1 i
    have f1 : ∀ i, w2.frozen? ⟨w.heap.size + 1, i, none⟩ = false := fun i => Joins.unfrozen_of_block y1 i
    have hne : w.heap.size ≠ w.heap.size + 1 := by omega
    have HR : Aside ((w2.setCell ⟨w.heap.size + 1, 2, none⟩ (.int .i64 p)).heap[w.heap.size]? = some (boxRc Rc.zero)) := (Below.heap_setCell _ _ _ _ (by exact hne)).trans y0
    have HQ : Aside ((w2.setCell ⟨w.heap.size + 1, 2, none⟩ (.int .i64 p)).heap[w.heap.size + 1]? = some (boxRc ⟨2, 0, p, En.zero⟩)) := Joins.block_setCell y1 _
    have HB : Aside (Below w.heap.size w (w2.setCell ⟨w.heap.size + 1, 2, none⟩ (.int .i64 p))) := hB2.setCell (p := ⟨w.heap.size + 1, 2, none⟩) (by show w.heap.size ≤ w.heap.size + 1; omega) _
    clear W0 W1 WB hb2 y0 y1 hB2 hwh hpr hL hsl
    go_wp2_with fail
    refine (hck _).mono ?_
    rintro e w3 ⟨rfl, hb3⟩
    have y0 := heap_below HR.out hb3 (heap_lt HR.out)
    have y1 := heap_below HQ.out hb3 (heap_lt HQ.out)
    have HB3 : Aside (Below w.heap.size w w3) := step_below1 HB.out hb3
    have HR3 : Aside _ := y0
    clear z0 f0 z1 f1 hb3 HR HQ HB hck
    have z0 : ∀ i, w3.cell? ⟨w.heap.size, i, none⟩ = #[Value.int .i64 0, .int .i64 0, .int .i64 0, .int .i64 0, .int .i64 0, .int .i64 0, .int .i64 0, .int .i64 0][i]? := fun i => Joins.cell_of_block y0 i
    have f0 : ∀ i, w3.frozen? ⟨w.heap.size, i, none⟩ = false := fun i => Joins.unfrozen_of_block y0 i
    have z1 : ∀ i, w3.cell? ⟨w.heap.size + 1, i, none⟩ = #[Value.int .i64 2, .int .i64 0, .int .i64 p, .int .i64 0, .int .i64 0, .int .i64 0, .int .i64 0, .int .i64 0][i]? := fun i => Joins.cell_of_block y1 i
    clear y0 y1
    by_cases hd : d = 0
    · subst hd
      have HF2 : Hid ((⟨2, 0, p, En.zero⟩ : Rc).fin = (⟨2, 0, p, En.zero⟩, 0)) := by rw [Hid, HC.out, if_pos rfl]
      clear HC
      go_wp2
      exact ret_rec (p := 2) (q := 3) Tryd.results10 rfl rfl rfl (eight_stores HR3.out ⟨2, 0, p, En.zero⟩) ⟨by rw [HF2.out]; rfl, below_eight HB3.out (Nat.le_refl _) _ _ _ _ _ _ _ _⟩
    · have HF2 : Hid ((⟨2, 0, p, En.zero⟩ : Rc).fin = (Rc.zero, d)) := by rw [Hid, HC.out, if_neg hd]
      have hdb : (d != 0) = true := by rw [bne_iff_ne]; exact hd
      clear HC
      go_wp2
      exact ret_rec (p := 2) (q := 3) Tryd.results10 rfl rfl rfl (eight_stores HR3.out Rc.zero) ⟨by rw [HF2.out]; rfl, below_eight HB3.out (Nat.le_refl _) _ _ _ _ _ _ _ _⟩

theorem idx_ref (l : List UInt8) (hl : l.length ≤ 30000) (W : World) (hW : Laid W) : Calls Tryd.prog 21 #[.string ⟨l.toArray⟩, .string ⟨#[58, 32]⟩] W fun e w' => e = .returned (.int .i64 (Lib.index l [58, 32])) ∧ w' = W := by
  obtain ⟨m, hm⟩ := hW.most
  exact Tryd.strings_Index ⟨l.toArray⟩ ⟨#[58, 32]⟩ m W (by rw [Lib.size_eq]; show l.length < _; omega) hm

set_option maxHeartbeats 4000000 in
set_option maxRecDepth 100000 in
theorem read_none_colon (l : List UInt8) (w : World) (hL : Laid w) (hl : l.length ≤ 30000) (hp : sealL.isPrefixOf l = false) (hi : Lib.index l [58, 32] = -1) :
    Calls Tryd.prog 10 #[.string ⟨l.toArray⟩] w fun e w' => e = .returned (.tuple #[(rcRead l).1.val, .int .i64 (rcRead l).2]) ∧ Below w.heap.size w w' := by
  have hpr := fun W => hasPre l W
  rw [hp] at hpr
  have hidx := fun W hW => idx_ref l hl W hW
  rw [hi] at hidx
  have HF : Hid (rcRead l = (Rc.zero, 1)) := by
    rw [Hid, rcRead, if_neg (by rw [hp]; simp), if_pos]
    unfold Lib.cut
    rw [hi, if_neg (by omega)]
  rw [HF.out]
  have W0 : ((w.alloc zB).alloc wB).heap[w.heap.size]? = some (boxRc Rc.zero) := heap_old (heap_new _ _) _
  have W1 : ((w.alloc zB).alloc wB).heap[w.heap.size + 1]? = some (boxRc ⟨1, 0, 0, En.zero⟩) := by
    have := heap_new (w.alloc zB) wB
    rwa [World.size_alloc] at this
  have WB : Below w.heap.size w ((w.alloc zB).alloc wB) := grew (grew (Below.refl _ _) _) _
  clear hp hi HF
  go_enter Tryd.func10, Tryd.ntmps10
  go_wp2_with fail
  refine (hpr _).mono ?_
  rintro e w1 ⟨rfl, rfl⟩
  go_wp2_with fail
  refine (hidx _ (by exact hL.later WB)).mono ?_
  rintro e w1 ⟨rfl, rfl⟩
  have hLV := hL.later WB
  generalize (w.alloc zB).alloc wB = V at *
  have y0 := W0
  have y1 := W1
  have z0 : ∀ i, V.cell? ⟨w.heap.size, i, none⟩ = #[Value.int .i64 0, .int .i64 0, .int .i64 0, .int .i64 0, .int .i64 0, .int .i64 0, .int .i64 0, .int .i64 0][i]? := fun i => Joins.cell_of_block y0 i
  have f0 : ∀ i, V.frozen? ⟨w.heap.size, i, none⟩ = false := fun i => Joins.unfrozen_of_block y0 i
  have z1 : ∀ i, V.cell? ⟨w.heap.size + 1, i, none⟩ = #[Value.int .i64 1, .int .i64 0, .int .i64 0, .int .i64 0, .int .i64 0, .int .i64 0, .int .i64 0, .int .i64 0][i]? := fun i => Joins.cell_of_block y1 i
  have f1 : ∀ i, V.frozen? ⟨w.heap.size + 1, i, none⟩ = false := fun i => Joins.unfrozen_of_block y1 i
  replace W0 : Aside _ := W0
  replace WB : Aside _ := WB
  clear W1 y0 y1 hL hLV hpr hidx
  go_wp2
  exact ret_rec (p := 2) (q := 3) Tryd.results10 rfl rfl rfl (eight_stores W0.out Rc.zero) ⟨rfl, below_eight WB.out (Nat.le_refl _) _ _ _ _ _ _ _ _⟩

set_option maxHeartbeats 4000000 in
set_option maxRecDepth 100000 in
theorem read_bad_at (l : List UInt8) (k : Nat) (w : World) (hL : Laid w) (hl : l.length ≤ 30000) (hp : sealL.isPrefixOf l = false) (hi : Lib.index l [58, 32] = k) (hk : k + 2 ≤ l.length) (hn : numOf (l.take k) = none) :
    Calls Tryd.prog 10 #[.string ⟨l.toArray⟩] w fun e w' => e = .returned (.tuple #[(rcRead l).1.val, .int .i64 (rcRead l).2]) ∧ Below w.heap.size w w' := by
  have hpr := fun W => hasPre l W
  rw [hp] at hpr
  have hidx := fun W hW => idx_ref l hl W hW
  rw [hi] at hidx
  have hcut : Lib.cut l [58, 32] = (l.take k, l.drop (k + 2), true) := by
    unfold Lib.cut
    rw [hi, if_pos (by omega)]
    rfl
  have HF : Hid (rcRead l = (Rc.zero, 1)) := by
    rw [Hid, rcRead, if_neg (by rw [hp]; simp), hcut, if_neg (by simp)]
    simp only
    rw [hn]
  rw [HF.out]
  have hex := ext_upto l k
  have hex2 := ext_from l (k + 2)
  have hk2' : (k : Int) ≤ (l.length : Int) := by omega
  have hk3' : (k : Int) + 2 ≤ (l.length : Int) := by omega
  have hk0' : (0 : Int) ≤ (k : Int) := by omega
  have hkd : decide ((k : Int) < 0) = false := decide_eq_false (by omega)
  have hkw : IntKind.i64.wrap ((k : Int) + 2) = (k : Int) + 2 := by rw [IntKind.wrap_i64]; omega
  have htl : (l.take k).length ≤ 30000 := by rw [List.length_take]; omega
  have hdl : (l.drop (k + 2)).length ≤ 30000 := by rw [List.length_drop]; omega
  have hwh := fun W hW => whole_no (l.take k) W hW htl hn
  generalize l.take k = l5 at *
  have W0 : ((w.alloc zB).alloc wB).heap[w.heap.size]? = some (boxRc Rc.zero) := heap_old (heap_new _ _) _
  have W1 : ((w.alloc zB).alloc wB).heap[w.heap.size + 1]? = some (boxRc ⟨1, 0, 0, En.zero⟩) := by
    have := heap_new (w.alloc zB) wB
    rwa [World.size_alloc] at this
  have WB : Below w.heap.size w ((w.alloc zB).alloc wB) := grew (grew (Below.refl _ _) _) _
  clear hp hi HF hcut hn htl hdl hex2
  go_enter Tryd.func10, Tryd.ntmps10
  go_wp2_with fail
  refine (hpr _).mono ?_
  rintro e w1 ⟨rfl, rfl⟩
  go_wp2_with fail
  refine (hidx _ (by exact hL.later WB)).mono ?_
  rintro e w1 ⟨rfl, rfl⟩
  have hLV := hL.later WB
  generalize (w.alloc zB).alloc wB = V at *
  have y0 := W0
  have y1 := W1
  have z0 : ∀ i, V.cell? ⟨w.heap.size, i, none⟩ = #[Value.int .i64 0, .int .i64 0, .int .i64 0, .int .i64 0, .int .i64 0, .int .i64 0, .int .i64 0, .int .i64 0][i]? := fun i => Joins.cell_of_block y0 i
  have f0 : ∀ i, V.frozen? ⟨w.heap.size, i, none⟩ = false := fun i => Joins.unfrozen_of_block y0 i
  have z1 : ∀ i, V.cell? ⟨w.heap.size + 1, i, none⟩ = #[Value.int .i64 1, .int .i64 0, .int .i64 0, .int .i64 0, .int .i64 0, .int .i64 0, .int .i64 0, .int .i64 0][i]? := fun i => Joins.cell_of_block y1 i
  have f1 : ∀ i, V.frozen? ⟨w.heap.size + 1, i, none⟩ = false := fun i => Joins.unfrozen_of_block y1 i
  replace W0 : Aside _ := W0
  replace W1 : Aside _ := W1
  replace WB : Aside _ := WB
  clear y0 y1 hL hpr hidx
  go_wp2_with fail
  refine (hwh _ hLV).mono ?_
  rintro e w2 ⟨nn, rfl, hb2⟩
  clear z0 f0 z1 f1
  have y0 := heap_below W0.out hb2 (heap_lt W0.out)
  have y1 := heap_below W1.out hb2 (heap_lt W1.out)
  have hB2 : Below w.heap.size w w2 := step_below1 WB.out hb2
  have hne : w.heap.size ≠ w.heap.size + 1 := by omega
  have z0 : ∀ i, w2.cell? ⟨w.heap.size, i, none⟩ = #[Value.int .i64 0, .int .i64 0, .int .i64 0, .int .i64 0, .int .i64 0, .int .i64 0, .int .i64 0, .int .i64 0][i]? := fun i => Joins.cell_of_block y0 i
  have f0 : ∀ i, w2.frozen? ⟨w.heap.size, i, none⟩ = false := fun i => Joins.unfrozen_of_block y0 i
  have z1 : ∀ i, w2.cell? ⟨w.heap.size + 1, i, none⟩ = #[Value.int .i64 1, .int .i64 0, .int .i64 0, .int .i64 0, .int .i64 0, .int .i64 0, .int .i64 0, .int .i64 0][i]? := fun i => Joins.cell_of_block y1 i
  have f1 : ∀ i, w2.frozen? ⟨w.heap.size + 1, i, none⟩ = false := fun i => Joins.unfrozen_of_block y1 i
  have HR : Aside ((w2.setCell ⟨w.heap.size + 1, 1, none⟩ (.int .i64 nn)).heap[w.heap.size]? = some (boxRc Rc.zero)) := (Below.heap_setCell _ _ _ _ (by exact hne)).trans y0
  have HB : Aside (Below w.heap.size w (w2.setCell ⟨w.heap.size + 1, 1, none⟩ (.int .i64 nn))) := hB2.setCell (p := ⟨w.heap.size + 1, 1, none⟩) (by show w.heap.size ≤ w.heap.size + 1; omega) _
  clear W0 W1 WB hb2 y0 y1 hB2 hwh hLV
  go_wp2
  exact ret_rec (p := 2) (q := 3) Tryd.results10 rfl rfl rfl (eight_stores HR.out Rc.zero) ⟨rfl, below_eight HB.out (Nat.le_refl _) _ _ _ _ _ _ _ _⟩

end Go.Proofs.YtijcohldgjcjgacDoor
