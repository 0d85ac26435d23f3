/- For the law. -/
import Derived.Test.YtmoaobfmopimlafGreatDoorM20
set_option linter.unusedSimpArgs false
set_option linter.unusedVariables false
namespace Go.Proofs.YtmoaobfmopimlafGreatDoor
open Go.RowKit
theorem cutColon (l : List UInt8) (w : World) (hL : Laid w) (hl : l.length ≤ 30000) :
  Calls Tryz.prog 235 #[.string ⟨l.toArray⟩, .string ⟨#[58, 32]⟩] w fun e w' => e = .returned (.tuple #[.string ⟨(Lib.cut l [58, 32]).1.toArray⟩, .string ⟨(Lib.cut l [58, 32]).2.1.toArray⟩, .bool (Lib.cut l [58, 32]).2.2]) ∧ Below w.heap.size w w' := by
 obtain ⟨m, hm⟩ := hL.most
 have h := Tryz.strings_Cut ⟨l.toArray⟩ ⟨#[58, 32]⟩ m w (by simp [Lib.size_eq]; omega) hm
 refine h.mono ?_
 rintro e w' ⟨he, q, rfl⟩
 exact ⟨he, below_drewN (Below.refl _ _) _⟩
theorem cut_fst_len (l s : List UInt8) : (Lib.cut l s).1.length ≤ l.length := by
 unfold Lib.cut
 split
 ·simp only [List.length_take]; omega
 ·exact Nat.le_refl _
set_option maxHeartbeats 4000000 in
set_option maxRecDepth 100000 in
theorem noteRead_any (l : List UInt8) (w : World) (hL : Laid w) (hl : l.length ≤ 30000) :
  Calls Tryz.prog 207 #[.string ⟨l.toArray⟩] w fun e w' => e = .returned (.tuple #[(rdRaw l).1.val, .int .i64 (rdRaw l).2]) ∧ Below w.heap.size w w' := by
 have HX0 : Aside ((w.alloc (boxRc Rc.zero)).heap[w.heap.size]? = some (boxRc Rc.zero)) := heap_new _ _
 have HB0 : Aside (Below w.heap.size w (w.alloc (boxRc Rc.zero))) := grew (Below.refl _ _) _
 have HL : Aside (Laid w) := hL
 cases hp : sealL.isPrefixOf l with
 | true =>
  have hcp := cutPre_yes l (w.alloc (boxRc Rc.zero)) hp hl
  have HF : Hid (rdRaw l = rdSeal (l.drop 5)) := by rw [Hid, rdRaw, if_pos hp]
  rw [HF.out]
  have hrs := readSeal_any (l.drop 5) (w.alloc (boxRc Rc.zero)) (hL.later HB0.out) (by rw [List.length_drop]; omega)
  generalize l.drop 5 = l5 at *
  generalize (rdSeal l5).1 = y at *
  generalize (rdSeal l5).2 = f at *
  clear hp HF hL hl HL
  go_enter Tryz.func207, Tryz.ntmps207
  go_wp2_with fail
  refine hcp.mono ?_
  rintro e w1 ⟨rfl, rfl⟩
  clear hcp
  go_wp2_with fail
  refine hrs.mono ?_
  rintro e w1 ⟨rfl, hb1⟩
  have y0 := heap_below HX0.out hb1 (heap_lt HX0.out)
  have HB1 := sb HB0 hb1
  have HX1 : Aside _ := y0
  have z0 := fun i => Joins.cell_of_block y0 i
  have f0 := fun i => Joins.unfrozen_of_block y0 i
  clear hb1 y0 HX0 HB0 hrs
  go_wp2
  exact ret_rec (p := 2) (q := 3) Tryz.results207 rfl rfl rfl (eight_stores HX1.out y) ⟨rfl, below_eight HB1.out (Nat.le_refl _) _ _ _ _ _ _ _ _⟩
 | false =>
  have hcp := cutPre_no l (w.alloc (boxRc Rc.zero)) hp
  have hcc := cutColon l (w.alloc (boxRc Rc.zero)) (hL.later HB0.out) hl
  have HF : Hid (rdRaw l = if (Lib.cut l [58, 32]).2.2 = false then (Rc.zero, 1) else rdWrite (Lib.cut l [58, 32]).1 (Lib.cut l [58, 32]).2.1) := by rw [Hid, rdRaw, if_neg (by rw [hp]; simp)]
  have hal := Nat.le_trans (cut_fst_len l [58, 32]) hl
  generalize (Lib.cut l [58, 32]).1 = la at *
  generalize (Lib.cut l [58, 32]).2.1 = lb at *
  generalize (Lib.cut l [58, 32]).2.2 = bb at *
  clear hp hL hl
  cases bb with
  | false =>
   rw [if_pos rfl] at HF
   rw [HF.out]
   clear hal HL HF
   go_enter Tryz.func207, Tryz.ntmps207
   go_wp2_with fail
   refine hcp.mono ?_
   rintro e w1 ⟨rfl, rfl⟩
   clear hcp
   go_wp2_with fail
   refine hcc.mono ?_
   rintro e w1 ⟨rfl, hb1⟩
   have y0 := heap_below HX0.out hb1 (heap_lt HX0.out)
   have HB1 := sb HB0 hb1
   have HX1 : Aside _ := y0
   have z0 := fun i => Joins.cell_of_block y0 i
   have f0 := fun i => Joins.unfrozen_of_block y0 i
   clear hb1 y0 HX0 HB0 hcc
   go_wp2
   exact ret_rec (p := 2) (q := 3) Tryz.results207 rfl rfl rfl (eight_stores HX1.out Rc.zero) ⟨rfl, below_eight HB1.out (Nat.le_refl _) _ _ _ _ _ _ _ _⟩
  | true =>
   rw [if_neg (by simp)] at HF
   rw [HF.out]
   have hrw := fun W hW => readWrite_any la lb W hW hal
   generalize (rdWrite la lb).1 = y at *
   generalize (rdWrite la lb).2 = f at *
   clear hal HF
   go_enter Tryz.func207, Tryz.ntmps207
   go_wp2_with fail
   refine hcp.mono ?_
   rintro e w1 ⟨rfl, rfl⟩
   clear hcp
   go_wp2_with fail
   refine hcc.mono ?_
   rintro e w1 ⟨rfl, hb1⟩
   have y0 := heap_below HX0.out hb1 (heap_lt HX0.out)
   have HB1 := sb HB0 hb1
   have HX1 : Aside _ := y0
   have hL1 := HL.out.later HB1.out
   clear hb1 y0 HX0 HB0 hcc HL
   go_wp2_with fail
   refine (hrw _ hL1).mono ?_
   rintro e w2 ⟨rfl, hb2⟩
   have y0 := heap_below HX1.out hb2 (heap_lt HX1.out)
   have HB2 := sb HB1 hb2
   have HX2 : Aside _ := y0
   have z0 := fun i => Joins.cell_of_block y0 i
   have f0 := fun i => Joins.unfrozen_of_block y0 i
   clear hb2 y0 HX1 HB1 hrw hL1
   go_wp2
   exact ret_rec (p := 2) (q := 3) Tryz.results207 rfl rfl rfl (eight_stores HX2.out y) ⟨rfl, below_eight HB2.out (Nat.le_refl _) _ _ _ _ _ _ _ _⟩
set_option maxHeartbeats 4000000 in
set_option maxRecDepth 100000 in
theorem noteParse_few (l : List UInt8) (w : World) (hL : Laid w) (hl : l.length ≤ 30000) :
  Calls Tryz.prog 181 #[.string ⟨l.toArray⟩] w fun e w' => e = .returned (.tuple #[(rcRead l).1.val, .int .i64 (rcRead l).2]) ∧ Below w.heap.size w w' := by
 have HX0 : Aside ((w.alloc (boxRc Rc.zero)).heap[w.heap.size]? = some (boxRc Rc.zero)) := heap_new _ _
 have HB0 : Aside (Below w.heap.size w (w.alloc (boxRc Rc.zero))) := grew (Below.refl _ _) _
 have hrd := noteRead_any l (w.alloc (boxRc Rc.zero)) (hL.later HB0.out) hl
 have HF : Hid (rcRead l = if ¬ (rdRaw l).2 = 0 then (Rc.zero, (rdRaw l).2) else (rdRaw l).1.fin) := read_raw l
 rw [HF.out]
 generalize (rdRaw l).1 = y at *
 generalize (rdRaw l).2 = f at *
 have hle : (l.length : Int) ≤ 30000 := by omega
 have hck := fun W => noteCheck_any y W
 have HC : Hid (y.fin = if y.chk = 0 then (y, 0) else (Rc.zero, y.chk)) := rfl
 generalize y.chk = d at *
 obtain ⟨rr, HRR⟩ : ∃ rr, Hid ((if ¬ f = 0 then (Rc.zero, f) else y.fin) = rr) := ⟨_, rfl⟩
 rw [HRR.out]
 clear hL hl HF
 go_enter Tryz.func181, Tryz.ntmps181
 go_wp2_with fail
 refine hrd.mono ?_
 rintro e w1 ⟨rfl, hb1⟩
 have y0 := heap_below HX0.out hb1 (heap_lt HX0.out)
 have HB1 : Aside (Below w.heap.size w (w1.alloc (boxRc y))) := grew (step_below1 HB0.out hb1) _
 have HX1 : Aside ((w1.alloc (boxRc y)).heap[w.heap.size]? = some (boxRc Rc.zero)) := heap_old y0 _
 have HY1 : Aside ((w1.alloc (boxRc y)).heap[w1.heap.size]? = some (boxRc y)) := heap_new _ _
 clear hb1 y0 HX0 HB0 hrd
 go_upto_region 4 with fail
 generalize w1.alloc (boxRc y) = V at *
 generalize w1.heap.size = yb at *
 have z0 := cb HX1
 have f0 := cf HX1
 have z1 := cb HY1
 by_cases hf : f = 0
 ·have hfb : (f != 0) = false := by rw [hf]; rfl
  have HF3 : Hid (rr = y.fin) := by rw [Hid, ← HRR.out, if_neg (by simpa using hf)]
  clear hf HRR
  go_wp2_with fail
  refine (hck _).mono ?_
  rintro e w5 ⟨rfl, hb5⟩
  have y0 := heap_below HX1.out hb5 (heap_lt HX1.out)
  have y1 := heap_below HY1.out hb5 (heap_lt HY1.out)
  have HB5 := sb HB1 hb5
  have HR5 : Aside _ := y0
  clear z0 f0 z1 hb5 HX1 HY1 HB1 hck
  have z0 := fun i => Joins.cell_of_block y0 i
  have f0 := fun i => Joins.unfrozen_of_block y0 i
  have z1 := fun i => Joins.cell_of_block y1 i
  clear y0 y1
  by_cases hd : d = 0
  ·subst hd
   have HF2 : Hid (y.fin = (y, 0)) := by rw [Hid, HC.out, if_pos rfl]
   clear HC
   go_wp2
   exact ret_rec (p := 2) (q := 3) Tryz.results181 rfl rfl rfl (eight_stores HR5.out y) ⟨by rw [HF3.out, HF2.out]; rfl, below_eight HB5.out (Nat.le_refl _) _ _ _ _ _ _ _ _⟩
  ·have HF2 : Hid (y.fin = (Rc.zero, d)) := by rw [Hid, HC.out, if_neg hd]
   have hdb : (d != 0) = true := by rw [bne_iff_ne]; exact hd
   clear HC
   go_wp2
   exact ret_rec (p := 2) (q := 3) Tryz.results181 rfl rfl rfl (eight_stores HR5.out Rc.zero) ⟨by rw [HF3.out, HF2.out]; rfl, below_eight HB5.out (Nat.le_refl _) _ _ _ _ _ _ _ _⟩
 ·have hfb : (f != 0) = true := by rw [bne_iff_ne]; exact hf
  have HF3 : Hid (rr = (Rc.zero, f)) := by rw [Hid, ← HRR.out, if_pos hf]
  clear HC hck hf HRR
  go_wp2
  exact ret_rec (p := 2) (q := 3) Tryz.results181 rfl rfl rfl (eight_stores HX1.out Rc.zero) ⟨by rw [HF3.out]; rfl, below_eight HB1.out (Nat.le_refl _) _ _ _ _ _ _ _ _⟩
theorem bytesOf_back (l : List UInt8) : Lib.bytesOf (l.map fun x => (x.toNat : Int)) = l := by
 unfold Lib.bytesOf
 rw [List.map_map]
 conv => rhs; rw [← List.map_id l]
 apply List.map_congr_left
 intro x _
 simp
theorem idx_nl (l : List UInt8) (b off c : Nat) (w : World) (h : RowAt bt 1 w b off l) :
  Calls Tryz.prog 180 #[.slice (some ⟨b, off, none⟩) l.length c, .int .u8 10] w fun e w' => e = .returned (.int .i64 (Lib.indexByte l 10)) ∧ w' = w := by
 have k := Tryz.bytes_IndexByte b off l.length c (l.map fun x => (x.toNat : Int)) 10 w (by simp) (fun i hi => by
  have := h i l[i] (List.getElem?_eq_getElem hi) 0 _ rfl
  rw [Nat.mul_one, Nat.add_zero] at this
  rw [this, List.getD_eq_getElem?_getD, List.getElem?_map, List.getElem?_eq_getElem hi]
  rfl)
 rw [bytesOf_back] at k
 exact k
theorem nl_at {l a b : List UInt8} (h : Lib.cut l [10] = (a, b, true)) : Lib.indexByte l 10 = a.length := by rw [← Lib.index_one]; exact (nl_first h).2
theorem nl_at_none {l a b : List UInt8} (h : Lib.cut l [10] = (a, b, false)) : Lib.indexByte l 10 = -1 := by rw [← Lib.index_one]; exact nl_index_no (by rw [h])
theorem elemY : Tryz.prog.underlying 45 = some (.slice (Tryz.prog.elem 45)) := by kernel_rfl
theorem oneBy (W : World) : (sizeOf (Tryz.prog.elem 45)).run Tryz.prog W = .ok 1 W := by kernel_rfl
theorem sl_rest (b off n c t : Nat) (ht : t < n) (hc : n ≤ c) (W : World) : (Instr.slice 45 (.slice (some ⟨b, off, none⟩) n c) (some (.int .i64 t)) none none).run Tryz.prog W = .ok (.slice (some ⟨b, off + t, none⟩) (n - t) (c - t)) W := by
 rw [run_slice_l (ht := elemY) (h0 := by omega) (h1 := by omega)]
 have hne : ¬ c = t := by omega
 rw [oneBy]
 simp [Result.andThen, sliced, Lib.add_plain, hne]
theorem sl_piece (b off n c t u : Nat) (ht : t < n) (hu : t + u ≤ n) (hc : n ≤ c) (W : World) : (Instr.slice 45 (.slice (some ⟨b, off, none⟩) n c) (some (.int .i64 t)) (some (.int .i64 ((t + u : Nat) : Int))) none).run Tryz.prog W = .ok (.slice (some ⟨b, off + t, none⟩) u (c - t)) W := by
 rw [run_slice_lh (ht := elemY) (h0 := by omega) (h1 := by omega) (h2 := by omega)]
 have hne : ¬ c = t := by omega
 rw [oneBy]
 have e : t + u - t = u := by omega
 simp only [Result.andThen, sliced, Int.toNat_natCast, Lib.add_plain, Nat.mul_one, if_neg hne, Option.map_some, e]
set_option maxHeartbeats 2000000 in
set_option maxRecDepth 100000 in
theorem read_at (b off n c : Nat) (l : List UInt8) (w : World) (hL : Laid w) (hT : RowAt bt 1 w b off l) (hn : l.length = n) (hn0 : 0 < n) (hc : n ≤ c) (hl : n ≤ 30000) :
  Calls Tryz.prog 142 #[.slice (some ⟨b, off, none⟩) n c] w fun e w' => ∃ v, e = .returned (.tuple #[v, .int .i64 (linesOf l 160).2.1, .int .i64 (linesOf l 160).2.2]) ∧ w'.ownsRow w.heap.size 94 8 v (linesOf l 160).1.length ((linesOf l 160).1.flatMap Rc.cells) ∧ Below w.heap.size w w' := by
 have HR : Hid (linesOf l 160 = dl 160 (l.length + 1) l [] 0) := rfl
 have HT : Hid (RowAt bt 1 w b off l) := hT
 have HN : Hid (l.length = n) := hn
 have HF0 : Hid (l.length < l.length + 1) := Nat.lt_succ_self _
 clear hT hn
 go_enter Tryz.func142, Tryz.ntmps142
 go_wp2
 go_loopw [5, 6] (fun v z wr => ∃ (f cnt m : Nat) (acc : List Rc) (r : List UInt8) (ao : Option Addr) (cv : Nat), z = .int .i64 cnt ∧ v = .slice ao m cv ∧ wr.ownsRow w.heap.size 94 8 (.slice ao m cv) m (acc.flatMap Rc.cells) ∧ Hid (acc.length = m) ∧
  m ≤ 160 ∧ Below w.heap.size w wr ∧ Hid (cnt + r.length = n) ∧ Hid (l.drop cnt = r ∧ r.length < f ∧ linesOf l 160 = dl 160 f r acc cnt)) (fun _ z _ => n - (intOf z).toNat)
 case atStart => exact ⟨l.length + 1, 0, 0, [], l, none, 0, rfl, rfl, World.ownsRow_nil _ _ _ _, rfl, Nat.zero_le _, Below.refl _ _, by rw [Hid, Nat.zero_add]; exact HN.out, rfl, HF0.out, HR.out⟩
 case round =>
  clear HR HF0
  obtain ⟨f, cnt, m, acc, r, ao, cv, rfl, rfl, hown, HM, hacc, hB, hr3, hst⟩ := hrel
  have hLr := hL.later hB
  by_cases hr : r = []
  ·have hcn : cnt = n := by have := hr3.out; rw [hr] at this; simpa using this
   obtain ⟨f', hf'⟩ : ∃ f', f = f' + 1 := ⟨f - 1, by have := hst.out.2.1; omega⟩
   have HF : Hid (linesOf l 160 = (acc, cnt, 0)) := by rw [Hid, hst.out.2.2, hr, hf']; exact dl_nil _ _ _ _
   have hge : (n : Int) ≤ (cnt : Int) := by omega
   have HO : Aside _ := hown
   clear hst hr hown hr3 hcn
   go_wp2
   go_ret3
   exact ⟨.slice ao m cv, by rw [HF.out]; rfl, by rw [HF.out]; show wr.ownsRow _ _ _ _ acc.length _; rw [HM.out]; exact HO.out, hB⟩
  ·have hcn : cnt < n := by
    have := hr3.out
    have : 0 < r.length := List.length_pos_iff.2 hr
    omega
   have hlt : (cnt : Int) < (n : Int) := by omega
   have hrow : RowAt bt 1 wr b (off + cnt) r := by
    have := (HT.out.later hB).drop cnt
    rw [hst.out.1, Nat.mul_one] at this
    exact this
   have hidx := idx_nl r b (off + cnt) (c - cnt) wr hrow
   have hsl := fun W => sl_rest b off n c cnt hcn hc W
   rw [show n - cnt = r.length by have := hr3.out; omega] at hsl
   have hrl : r.length ≤ 30000 := by have := hr3.out; omega
   rcases hcut : Lib.cut r [10] with ⟨a, z, g⟩
   cases g with
   | false =>
    obtain ⟨f', hf'⟩ : ∃ f', f = f' + 1 := ⟨f - 1, by have := hst.out.2.1; omega⟩
    have HF : Hid (linesOf l 160 = (acc, cnt, 9)) := by rw [Hid, hst.out.2.2, hf']; exact dl_torn _ _ _ _ hr hcut
    rw [nl_at_none hcut] at hidx
    have HO : Aside _ := hown
    clear hst hr hown hr3 hcut hrow
    generalize r.length = k at *
    go_wp2_with fail
    refine hidx.mono ?_
    rintro e w2 ⟨rfl, rfl⟩
    clear hidx hsl
    go_wp2
    go_ret3
    exact ⟨.slice ao m cv, by rw [HF.out]; rfl, by rw [HF.out]; show World.ownsRow _ _ _ _ _ acc.length _; rw [HM.out]; exact HO.out, hB⟩
   | true =>
    have hra := nl_back r a z hcut
    have hlen : r.length = a.length + 1 + z.length := by rw [hra]; simp; omega
    rw [nl_at hcut] at hidx
    have hal : a.length ≤ 30000 := by omega
    have hpiece := fun W => sl_piece b off n c cnt a.length hcn (by have := hr3.out; omega) hc W
    rw [Int.natCast_add] at hpiece
    have hta : r.take a.length = a := by rw [hra, List.take_left']; rfl
    have hby : ByteSl wr (.slice (some ⟨b, off + cnt, none⟩) a.length (c - cnt)) a := by
     have := hrow.take a.length
     rw [hta] at this
     exact ⟨_, _, rfl, Or.inr ⟨b, off + cnt, rfl, this⟩⟩
    have hcv := str_of hby
    have hps := fun W hW => noteParse_few a W hW hal
    obtain ⟨f', hf'⟩ : ∃ f', f = f' + 1 := ⟨f - 1, by have := hst.out.2.1; omega⟩
    subst hf'
    have hF1 : Hid ((rcRead a).2 ≠ 0 → linesOf l 160 = (acc, cnt, (rcRead a).2)) := fun h => by rw [hst.out.2.2]; exact dl_bad _ _ _ _ hr hcut h
    have hF2 : Hid ((rcRead a).2 = 0 → m = 160 → linesOf l 160 = (acc, cnt, 2)) := fun h h' => by rw [hst.out.2.2]; exact dl_many _ _ _ _ hr hcut h (by rw [HM.out]; omega)
    have hF3 : Hid ((rcRead a).2 = 0 → ¬ m = 160 → linesOf l 160 = dl 160 f' z (acc ++ [(rcRead a).1]) (cnt + a.length + 1)) := fun h h' => by rw [hst.out.2.2]; exact dl_more _ _ _ _ hr hcut h (by rw [HM.out]; omega)
    have HZ : Hid (l.drop (cnt + a.length + 1) = z ∧ z.length < f' ∧ cnt + a.length + 1 + z.length = n) := by
     refine ⟨?_, by have := hst.out.2.1; omega, by have := hr3.out; omega⟩
     rw [show cnt + a.length + 1 = cnt + (a.length + 1) by omega, ← List.drop_drop, hst.out.1, hra]
     rw [show a ++ 10 :: z = (a ++ [10]) ++ z by simp, List.drop_left']
     simp
    have HO : Aside (wr.ownsRow w.heap.size 94 8 (.slice ao m cv) m (acc.flatMap Rc.cells)) := hown
    have hsum1 : IntKind.i64.wrap ((cnt : Int) + ((a.length : Int) + 1)) = ((cnt + a.length + 1 : Nat) : Int) := by rw [IntKind.wrap_i64]; omega
    have hcb : cnt ≤ 30000 := by omega
    clear hst hr hown hr3 hcut hrow hra hlen hta hby
    generalize r.length = k at *
    generalize (rcRead a).1 = y at *
    generalize (rcRead a).2 = cd at *
    generalize a.length = al at *
    go_wp2_with fail
    refine hidx.mono ?_
    rintro e w2 ⟨rfl, rfl⟩
    clear hidx hsl
    go_wp2_with fail
    refine (hps _ hLr).mono ?_
    rintro e w3 ⟨rfl, hB3⟩
    have hB3' := hB.trans (hB3.mono hB.size)
    have HO3 : Aside (w3.ownsRow w.heap.size 94 8 (.slice ao m cv) m (acc.flatMap Rc.cells)) := ownsRow_later HO.out hB3
    clear hps hpiece hcv hB hB3 HO hLr
    by_cases hcd : cd = 0
    ·subst hcd
     by_cases hm : m = 160
     ·have HF : Hid (linesOf l 160 = (acc, cnt, 2)) := hF2.out rfl hm
      have hmb : ((m : Int) == 160) = true := by rw [hm]; rfl
      have HOA : Aside ((w3.alloc (boxRc y)).ownsRow w.heap.size 94 8 (.slice ao m cv) m (acc.flatMap Rc.cells)) := ownsRow_later HO3.out (grew (Below.refl _ _) _)
      clear hF1 hF2 hF3 hm
      go_wp2
      go_ret3
      exact ⟨.slice ao m cv, by rw [HF.out]; rfl, by rw [HF.out]; show World.ownsRow _ _ _ _ _ acc.length _; rw [HM.out]; exact HOA.out, grew hB3' _⟩
     ·have HF : Hid (linesOf l 160 = dl 160 f' z (acc ++ [y]) (cnt + al + 1)) := hF3.out rfl hm
      have hmb : ((m : Int) == 160) = false := by rw [beq_eq_false_iff_ne]; omega
      have hm1 : m + 1 ≤ 160 := by omega
      have hes : Hid (RecSl ((w3.alloc (boxRc y)).alloc (boxRc y)) (.slice (some ⟨w3.heap.size + 1, 0, none⟩) 1 1) [y]) := by
       have := slOf_lit Rc.eight (w := (w3.alloc (boxRc y)).alloc (boxRc y)) (c := 1) (xs := [y]) (heap_new (w3.alloc (boxRc y)) (boxRc y)) rfl
       rwa [World.size_alloc] at this
      have own3 : Hid (((w3.alloc (boxRc y)).alloc (boxRc y)).ownsRow w.heap.size 94 8 (.slice ao m cv) m (acc.flatMap Rc.cells)) := (HO3.out.alloc _).alloc _
      clear hF1 hF2 hF3 hm
      go_wp2_with (at_builtin; refine appendC rfl _ _ rfl w.heap.size _ _ m _ rfl own3.out [y] rfl hes.out (by simp; omega) (by have := hB3'.size; simp only [World.size_alloc]; omega) ?_; intro v' w4 hown' hgrow)
      have hB4 : Below w.heap.size w w4 := (grew (grew hB3' _) _).grown hgrow (by have := hB3'.size; simp only [World.size_alloc]; omega) (fun q hq => by have := (HO3.out.lt q hq).1; omega)
      obtain ⟨g4, cap4, hv4⟩ := Joins.ownsRow_form hown' (by simp)
      rw [hv4] at hown'
      have hO4 : w4.ownsRow w.heap.size 94 8 (.slice (some ⟨g4, 0, none⟩) (m + 1) cap4) (m + 1) ((acc ++ [y]).flatMap Rc.cells) := by
       rw [List.flatMap_append]
       simpa using hown'
      have HM4 : Hid ((acc ++ [y]).length = m + 1) := by rw [Hid, List.length_append, HM.out]; rfl
      go_roundw
      case rel => exact ⟨f', cnt + al + 1, m + 1, acc ++ [y], z, some ⟨g4, 0, none⟩, cap4, by first | rfl | (rw [hsum1]) | (go_num), by rw [hv4]; rfl, hO4, HM4, hm1, hB4, HZ.out.2.2, ⟨HZ.out.1, HZ.out.2.1, HF.out⟩⟩
      case measure => have := HZ.out.2.2; simp [intOf]; omega
    ·have HF : Hid (linesOf l 160 = (acc, cnt, cd)) := hF1.out hcd
     have hcn2 : (cd != 0) = true := by rw [bne_iff_ne]; exact hcd
     have HOA : Aside ((w3.alloc (boxRc y)).ownsRow w.heap.size 94 8 (.slice ao m cv) m (acc.flatMap Rc.cells)) := ownsRow_later HO3.out (grew (Below.refl _ _) _)
     clear hF1 hF2 hF3 hcd
     go_wp2
     go_ret3
     exact ⟨.slice ao m cv, by rw [HF.out]; rfl, by rw [HF.out]; show World.ownsRow _ _ _ _ _ acc.length _; rw [HM.out]; exact HOA.out, grew hB3' _⟩
theorem diskRead_any (v : Value) (l : List UInt8) (w : World) (hL : Laid w) (h : ByteSl w v l) (hr : Roomy v) (hl : l.length ≤ 30000) :
  Calls Tryz.prog 142 #[v] w fun e w' => ∃ u, e = .returned (.tuple #[u, .int .i64 (linesOf l 160).2.1, .int .i64 (linesOf l 160).2.2]) ∧ w'.ownsRow w.heap.size 94 8 u (linesOf l 160).1.length ((linesOf l 160).1.flatMap Rc.cells) ∧ Below w.heap.size w w' := by
 by_cases h0 : l = []
 ·subst h0
  obtain ⟨a, c, rfl, _⟩ := h
  have e : linesOf [] 160 = ([], 0, 0) := dl_nil _ _ _ _
  rw [e]
  go_enter Tryz.func142, Tryz.ntmps142
  go_wp2
  go_loopw [5, 6] (fun v z wr => v = nilB ∧ z = .int .i64 0 ∧ wr = w) (fun _ _ _ => 0)
  case atStart => exact ⟨rfl, rfl, rfl⟩
  case round =>
   obtain ⟨rfl, rfl, rfl⟩ := hrel
   go_wp2
   go_ret3
   exact ⟨nilB, rfl, World.ownsRow_nil _ _ _ _, Below.refl _ _⟩
 ·obtain ⟨a, n, c, rfl, hc⟩ := hr
  have hn := h.len
  have hn0 : 0 < n := by rw [← hn]; exact List.length_pos_iff.2 h0
  obtain ⟨b, off, rfl, hE⟩ := h.at hn0
  exact read_at b off n c l w hL hE hn hn0 hc (by omega)
set_option maxHeartbeats 1000000 in
set_option maxRecDepth 100000 in
theorem diskCheck_any (v1 v2 : Value) (d : Dk) (w : World) (hL : Laid w) (h : DiskR w v1 v2 d) (hn1 : d.1.length ≤ topLen) (hn2 : d.2.length ≤ topLen) :
  Calls Tryz.prog 112 #[.agg #[v1, v2]] w fun e w' => e = .returned (.int .i64 (ckDisk d.1 d.2)) ∧ Below w.heap.size w w' := by
 obtain ⟨s, t⟩ := d
 dsimp only at hn1 hn2 ⊢
 have hB := grew (Below.refl w.heap.size w) (boxD v1 v2)
 have hrd := fun hl => diskRead_any v1 s _ (hL.later hB) (h.safe.later hB) h.room1 hl
 obtain ⟨a1, c1, rfl, _⟩ := h.safe
 obtain ⟨a2, c2, rfl, _⟩ := h.wait
 clear h
 dsimp only at hrd ⊢
 change s.length ≤ 140737488351232 at hn1
 change t.length ≤ 140737488351232 at hn2
 by_cases hk : 30000 < s.length + t.length
 ·have hr : ckDisk s t = 2 := by rw [ckDisk, if_pos (by omega)]
  rw [hr]
  clear hr hrd
  generalize s.length = n at *
  generalize t.length = m at *
  have h1 : 30000 < (n : Int) + (m : Int) := by omega
  go_enter Tryz.func112, Tryz.ntmps112
  go_wp2
  go_ret
  exact ⟨rfl, grew (Below.refl _ _) _⟩
 ·have hr : ckDisk s t = (linesOf s 160).2.2 := by rw [ckDisk, if_neg (by omega)]
  have hcall := hrd (by omega)
  rw [hr]
  clear hr hrd
  generalize (linesOf s 160).2.2 = d at *
  generalize (linesOf s 160).2.1 = z at *
  generalize (linesOf s 160).1 = rs at *
  generalize s.length = n at *
  generalize t.length = m at *
  have h1 : (n : Int) + (m : Int) ≤ 30000 := by omega
  have h2 : (n : Int) ≤ 30000 := by omega
  have h3 : (m : Int) ≤ 30000 := by omega
  go_enter Tryz.func112, Tryz.ntmps112
  go_wp2_with (go_at_call 142; refine hcall.mono ?_; rintro e w1 ⟨u, rfl, _, hb1⟩)
  go_ret
  exact ⟨rfl, hB.trans (hb1.mono hB.size)⟩
set_option maxHeartbeats 2000000 in
theorem diskSame_any (v1 v2 u1 u2 : Value) (d x : Dk) (w : World) (h1 : DiskR w v1 v2 d) (h2 : DiskR w u1 u2 x) :
  Calls Tryz.prog 14 #[.agg #[v1, v2], .agg #[u1, u2]] w fun e w' => e = .returned (.bool (decide (d = x))) ∧ Below w.heap.size w w' := by
 obtain ⟨s, t⟩ := d
 obtain ⟨s', t'⟩ := x
 have hB := grew (grew (Below.refl w.heap.size w) (boxD v1 v2)) (boxD u1 u2)
 have e1 := bytesEqual v1 u1 s s' _ (h1.safe.later hB) (h2.safe.later hB)
 have e2 := bytesEqual v2 u2 t t' _ (h1.wait.later hB) (h2.wait.later hB)
 obtain ⟨a1, c1, rfl, _⟩ := h1.safe
 obtain ⟨a2, c2, rfl, _⟩ := h1.wait
 obtain ⟨a3, c3, rfl, _⟩ := h2.safe
 obtain ⟨a4, c4, rfl, _⟩ := h2.wait
 have hd : decide ((s, t) = (s', t')) = (decide (s = s') && decide (t = t')) := by
  by_cases g1 : s = s' <;> by_cases g2 : t = t' <;> simp [g1, g2]
 rw [hd]
 have HB : Aside _ := hB
 clear h1 h2 hd hB
 dsimp only at e1 e2 ⊢
 generalize decide (s = s') = b1 at *
 generalize decide (t = t') = b2 at *
 generalize s.length = n1 at *
 generalize t.length = n2 at *
 generalize s'.length = n3 at *
 generalize t'.length = n4 at *
 go_enter Tryz.func14, Tryz.ntmps14
 go_wp2_with fail
 refine e1.mono ?_
 rintro e w1 ⟨rfl, hw1⟩
 subst hw1
 cases b1 with
 | false =>
  clear e1 e2
  go_wp2
  go_ret
  exact ⟨rfl, HB.out⟩
 | true =>
  clear e1
  go_wp2_with fail
  refine e2.mono ?_
  rintro e w2 ⟨rfl, hw2⟩
  subst hw2
  clear e2
  go_wp2
  go_ret
  exact ⟨rfl, HB.out⟩
section
variable {P : Program}
theorem store_marked (g o : Nat) (t : TypeId) (fz : Nat × Nat) : ∀ (vs : List Value) (i : Nat) (cur : Array Value) (w : World), w.heap[g]? = some (.cells cur t fz) → cur.size ≤ fz.1 → o + i + vs.length ≤ cur.size → (∀ v ∈ vs, v.oneCell' = true) →
  (storeCells ⟨g, o, none⟩ vs i).run P w = .ok () (w.setRow g (cur.toList.take (o + i) ++ vs ++ cur.toList.drop (o + i + vs.length)).toArray)
 | [], i, cur, w, hg, _, _, _ => by
  simp only [storeCells, List.append_nil, List.length_nil, Nat.add_zero, List.take_append_drop, Array.toArray_toList]
  rw [setRow_self w g cur t fz hg]
  rfl
 | v :: rest, i, cur, w, hg, hfz, hl, h1 => by
  have hi : o + i < cur.size := by simp at hl; omega
  have hadd : (⟨g, o, none⟩ : Addr).add i = ⟨g, o + i, none⟩ := by unfold Addr.add; split <;> simp_all
  have hcell : w.cell? ⟨g, o + i, none⟩ = some cur[o + i] := by simp [World.cell?, hg, hi]
  have hfro : w.frozen? ⟨g, o + i, none⟩ = false := by
   obtain ⟨lo, hi'⟩ := fz
   simp only [World.frozen?, hg, Bool.and_eq_false_iff, decide_eq_false_iff_not]
   left
   simp only at hfz
   omega
  have hst : (store ((⟨g, o, none⟩ : Addr).add i) v).run P w = .ok () (w.setRow g (cur.setIfInBounds (o + i) v)) := by
   rw [hadd, run_store P w _ v _ (h1 v (by simp)), hcell]
   simp [hfro, setCell_eq_setRow w g (o + i) cur t fz v hg]
  have ih := store_marked g o t fz rest (i + 1) (cur.setIfInBounds (o + i) v) (w.setRow g (cur.setIfInBounds (o + i) v)) (setRow_heap w g cur _ t _ hg) (by simpa using hfz) (by simp at hl ⊢; omega) (fun x hx => h1 x (by simp [hx]))
  simp only [storeCells, Sem.run_bind, hst, Result.andThen_ok, ih, setRow_setRow]
  congr 3
  have e := list_seg_step cur.toList (o + i) v rest (by simp at hl ⊢; omega)
  simpa [Array.toList_setIfInBounds, Nat.add_assoc] using e
structure Appd (w0 w' : World) (B : Nat) (v : Value) (n : Nat) (xs : List Value) (g cap : Nat) : Prop where
 out : v = .slice (some ⟨g, 0, none⟩) n cap
 new : B ≤ g
 lt : g < w'.heap.size
 room : n ≤ cap
 cells : ∀ j u, xs[j]? = some u → w'.cell? ⟨g, j, none⟩ = some u
 below : Below B w0 w'
theorem wpList_append_marked {w : World} {ops : Array Oper} {rest : List Oper} {o : Oper} {a : Act} {Q : Exit → Act → World → Prop} (hgd : o.guard = none) (s x : Operand) (T : TypeId)
  (ho : o.op = .call { callee := .builtin .append, args := #[s, x], argTypes := #[T, T] }) (e : TypeId) (i : TypeInfo) (z : Value) (ht : P.underlying T = some (.slice e)) (hi : P.info? e = some i) (hz : i.zero = some z) (hi1 : i.size = 1) (hi2 : i.bytes = 1)
  (g n cap : Nat) (cur : Array Value) (fz : Nat × Nat) (hg : w.heap[g]? = some (.cells cur e fz)) (hfz : cur.size ≤ fz.1) (hcs : cur.size = cap) (hnc : n ≤ cap) (xs : List Value) (hxs : cur.toList.take n = xs)
  (hs : a.eval s = .slice (some ⟨g, 0, none⟩) n cap) (ad : Addr) (m c : Nat) (hx : a.eval x = .slice (some ad) m c) (news : List Value) (hl : news.length = m) (hnews : ∀ j u, news[j]? = some u → w.cell? (ad.add j) = some u) (h1 : ∀ u ∈ news, u.oneCell' = true)
  (hlen : n + m ≤ 1000000) (B : Nat) (w0 : World) (hb : Below B w0 w) (hBg : B ≤ g)
  (h : ∀ v' w' g' cap', Appd w0 w' B v' (n + m) (xs ++ news) g' cap' → wpList P ops Q rest (a.put o.dst v') w') :
  wpList P ops Q (o :: rest) a w := by
 have hgl := heap_lt hg
 have hxl : xs.length = n := by rw [← hxs, List.length_take]; simp; omega
 refine wpList_plain hgd fun K hK => ?_
 by_cases hroom : n + m ≤ cap
 ·have hf := run_firstCells_some (P := P) w i.size m ad m c news (by rw [hi1, hl, Nat.mul_one]) hnews
  have hst := store_marked (P := P) g n e fz news 0 cur w hg hfz (by omega) h1
  simp only [Nat.add_zero] at hst
  rw [hi1] at hf
  have hr : (Builtin.append_ #[T, T] o.type #[.slice (some ⟨g, 0, none⟩) n cap, .slice (some ad) m c]).run P w =
    .ok (.slice (some ⟨g, 0, none⟩) (n + m) cap) (w.setRow g (cur.toList.take n ++ news ++ cur.toList.drop (n + news.length)).toArray) := by
   simp [Builtin.append_, run_underlying ht, sizeOf, typeInfo, hi, hi1, Builtin.lenOf, hroom, hf, Addr.add_lit, hst]
  unfold Oper.wp execOp
  simp only [ho, resolve, invoke, builtin, Sem.run_bind, Sem.run_pure, Result.andThen_ok, List.map_toArray, List.map_cons, List.map_nil, hs, hx, hr]
  refine hK _ _ (h _ _ g cap ⟨rfl, hBg, by simpa [World.setRow] using hgl, hroom, fun j u hj => ?_, below_setRow hb hBg _⟩)
  rw [cell_setRow_same w g j cur _ e fz hg, List.getElem?_toArray, hxs, List.getElem?_append_left]
  ·exact hj
  ·exact (List.getElem?_eq_some_iff.1 hj).1
 ·have holds : ∀ j u, xs[j]? = some u → w.cell? ((⟨g, 0, none⟩ : Addr).add j) = some u := fun j u hj => by
   rw [Lib.add_plain, Nat.zero_add]
   rw [← hxs, List.getElem?_take] at hj
   split at hj
   ·simpa [World.cell?, hg] using hj
   ·cases hj
  have hr := run_append_grow (P := P) w T o.type e i z ht hi hz ⟨g, 0, none⟩ n cap xs (by rw [hi1, hxl, Nat.mul_one]) holds ad m c news (by rw [hi1, hl, Nat.mul_one]) hnews (by omega) (by omega) (by rw [hi2]; exact growslice_fits (by omega) (by omega))
  have hge := grownCap_ge w (n + m) cap e
  unfold Oper.wp execOp
  simp only [ho, resolve, invoke, builtin, Sem.run_bind, Sem.run_pure, Result.andThen_ok, List.map_toArray, List.map_cons, List.map_nil, hs, hx, hr]
  refine hK _ _ (h _ _ w.heap.size _ ⟨rfl, Nat.le_trans hBg (Nat.le_of_lt hgl), by show w.heap.size < (w.heap.push _).size; simp, hge, fun j u hj => ?_, hb.drew.alloc (Nat.le_trans hBg (Nat.le_of_lt hgl)) _⟩)
  have hw : (w.drew.alloc (.cells (xs.toArray ++ news.toArray ++ Builtin.zeroCells z.cells (grownCap w (n + m) cap e - (n + m))) e)).heap[w.heap.size]? = some (.cells (xs.toArray ++ news.toArray ++ Builtin.zeroCells z.cells (grownCap w (n + m) cap e - (n + m))) e) := heap_new w.drew _
  have hlt := (List.getElem?_eq_some_iff.1 hj).1
  rw [Joins.cell_of_block hw, Array.getElem?_append_left (by simpa using hlt)]
  simpa using hj
end
end Go.Proofs.YtmoaobfmopimlafGreatDoor
