/- For the law. -/
import Derived.Test.YtmoaobfmopimlafGreatDoorM47
set_option linter.unusedSimpArgs false
set_option linter.unusedVariables false
namespace Go.Proofs.YtmoaobfmopimlafGreatDoor
open Go.RowKit
section
open Go.Shelf
theorem compare_b (x y : Int) (w : World) : Calls Tryz.prog 227 #[.int .i64 x, .int .i64 y] w fun e w' => e = .returned (.int .i64 (cmp3 x y)) ∧ Below w.heap.size w w' :=
 (compare_any x y w).mono fun _ _ ⟨h1, h2⟩ => ⟨h1, by rw [h2]; exact Below.refl _ _⟩
abbrev Pair (W w : World) (b c : Nat) (x y : Jb) : Prop :=
 Below W.heap.size W w ∧ w.cell? ⟨b, 0, none⟩ = some (.int .i64 x.i) ∧ w.cell? ⟨b, 2, none⟩ = some (.int .i64 x.n) ∧ w.cell? ⟨c, 0, none⟩ = some (.int .i64 y.i) ∧ w.cell? ⟨c, 2, none⟩ = some (.int .i64 y.n)
theorem pair_step {W w w' : World} {b c : Nat} {x y : Jb} (h : Pair W w b c x y) (hb : Below w.heap.size w w') : Pair W w' b c x y :=
 ⟨h.1.trans (hb.mono h.1.size), cell_later hb h.2.1, cell_later hb h.2.2.1, cell_later hb h.2.2.2.1, cell_later hb h.2.2.2.2⟩
theorem or_new (x y : Int) (w : World) (T : TypeId) : Calls Tryz.prog 226 #[.slice (some ⟨w.heap.size, 0, none⟩) 2 2] (w.alloc (.cells #[.int .i64 x, .int .i64 y] T)) fun e w' => e = .returned (.int .i64 (if x = 0 then y else x)) ∧ Below (w.alloc (.cells #[.int .i64 x, .int .i64 y] T)).heap.size (w.alloc (.cells #[.int .i64 x, .int .i64 y] T)) w' :=
 (or_any x y w.heap.size 2 _ (Joins.cell_of_block (heap_new _ _) 0) (Joins.cell_of_block (heap_new _ _) 1)).mono fun _ _ ⟨h1, h2⟩ => ⟨h1, by rw [h2]; exact Below.refl _ _⟩
set_option maxHeartbeats 2000000 in
theorem inTurn_any (x y : Jb) (w : World) :
  Calls Tryz.prog 204 #[x.val, y.val] w fun e w' => e = .returned (.int .i64 (turn x y)) ∧ Below w.heap.size w w' := by
 have hS0 : Pair ((w.alloc (boxJ x)).alloc (boxJ y)) ((w.alloc (boxJ x)).alloc (boxJ y)) w.heap.size (w.heap.size + 1) x y := by
  have h1 : ((w.alloc (boxJ x)).alloc (boxJ y)).heap[w.heap.size]? = some (boxJ x) := heap_old (heap_new _ _) _
  have h2 : ((w.alloc (boxJ x)).alloc (boxJ y)).heap[w.heap.size + 1]? = some (boxJ y) := by
   have := heap_new (w.alloc (boxJ x)) (boxJ y)
   rwa [World.size_alloc] at this
  exact ⟨Below.refl _ _, Joins.cell_of_block h1 0, Joins.cell_of_block h1 2, Joins.cell_of_block h2 0, Joins.cell_of_block h2 2⟩
 have HB : Hid (Below w.heap.size w ((w.alloc (boxJ x)).alloc (boxJ y))) := grew (grew (Below.refl _ _) _) _
 have hor : ∀ (W : World) (T : TypeId), _ := fun W T => or_new (cmp3 x.n y.n) (cmp3 x.i y.i) W T
 have hc1 := fun W => compare_b x.n y.n W
 have hc2 := fun W => compare_b x.i y.i W
 change ∀ (W : World) (T : TypeId), Calls _ _ _ _ fun e w' => e = .returned (.int .i64 (turn x y)) ∧ _ at hor
 generalize turn x y = r at *
 generalize cmp3 x.n y.n = r1 at *
 generalize cmp3 x.i y.i = r2 at *
 go_enter Tryz.func204, Tryz.ntmps204
 go_wp2_with fail
 generalize (w.alloc (boxJ x)).alloc (boxJ y) = W0 at *
 have hbd : Below W0.heap.size W0 W0.drew := (Below.refl _ _).drew
 go_region_held3 (fun w' => Pair W0 w' w.heap.size (w.heap.size + 1) x y) (first | exact pair_step (by assumption) (by assumption) | exact pair_step (by assumption) (grew (Below.refl _ _) _)) (first | (go_at_call 227; with_reducible refine (hc1 _).mono ?_; rintro e w' ⟨rfl, hb'⟩) | (go_at_call 227; with_reducible refine (hc2 _).mono ?_; rintro e w' ⟨rfl, hb'⟩) | (go_at_call 226; refine (hor _ _).mono ?_; rintro e w' ⟨rfl, hb'⟩))
 all_goals
  rename_i hS
  have HB2 : Hid (Below w.heap.size w _) := HB.out.trans (hS.1.mono HB.out.size)
  clear hS hor hc1 hc2 hS0 hbd HB
  go_wp2
  go_ret
  exact ⟨rfl, HB2.out⟩
end
section
open Go.Shelf
theorem ret_two {fn : Func} {R : Ending → World → Prop} {a : Act} {W : World} {p q : Nat} {x y : Value} (hf : fn.results = #[.tmp p, .tmp q]) (hd : a.defers = [])
  (h1 : a.tmps.getD p undef = x) (h2 : a.tmps.getD q undef = y) (hp : R (.returned (.tuple #[x, y])) W) : bodyPost Tryz.prog fn R .ret a W := by
 have h1' : a.tmps[p]?.getD undef = x := by simpa using h1
 have h2' : a.tmps[q]?.getD undef = y := by simpa using h2
 refine bodyPost_ret (v := .tuple #[x, y]) ?_ hd hp
 simp [results, hf, h1', h2', go_sem]
set_option maxHeartbeats 2000000 in
theorem due_check (a1 a2 : Option Addr) (n1 n2 c1 c2 : Nat) (js : List Jb) (rs : List Rg) (t : Int) (w : World) (h1 : JobSl w (.slice a1 n1 c1) js) (h2 : RungSl w (.slice a2 n2 c2) rs) :
  Calls Tryz.prog 200 #[.agg #[.slice a1 n1 c1, .slice a2 n2 c2], .int .i64 t] w fun e w' => e = .returned (.int .i64 (dueErr js rs t)) ∧ Below w.heap.size w w' := by
 have hB0 := grew (Below.refl w.heap.size w) (boxB (.slice a1 n1 c1) (.slice a2 n2 c2))
 have hck := bk_check (.slice a1 n1 c1) (.slice a2 n2 c2) js rs _ (h1.later hB0) (h2.later hB0)
 have HD : Hid (dueErr js rs t = if ckBook js rs ≠ 0 then ckBook js rs else if t < 0 ∨ 100000 < t then 3 else 0) := rfl
 have HB0 : Aside _ := hB0
 generalize dueErr js rs t = d at *
 generalize ckBook js rs = n at *
 clear h1 h2 hB0
 by_cases hn : n = 0
 ·subst hn
  by_cases h0 : t < 0
  ·have HR : Hid (d = 3) := by rw [Hid, HD.out, if_neg (by simp), if_pos (Or.inl h0)]
   go_enter Tryz.func200, Tryz.ntmps200
   go_wp2_with fail
   refine hck.mono ?_
   rintro e w1 ⟨rfl, hb1⟩
   have HB1 : Aside _ := HB0.out.trans (hb1.mono HB0.out.size)
   clear hck HB0 hb1
   go_wp2
   go_ret
   exact ⟨by rw [HR.out]; rfl, HB1.out⟩
  ·by_cases h3 : 100000 < t
   ·have HR : Hid (d = 3) := by rw [Hid, HD.out, if_neg (by simp), if_pos (Or.inr h3)]
    go_enter Tryz.func200, Tryz.ntmps200
    go_wp2_with fail
    refine hck.mono ?_
    rintro e w1 ⟨rfl, hb1⟩
    have HB1 : Aside _ := HB0.out.trans (hb1.mono HB0.out.size)
    clear hck HB0 hb1
    go_wp2
    go_ret
    exact ⟨by rw [HR.out]; rfl, HB1.out⟩
   ·have HR : Hid (d = 0) := by rw [Hid, HD.out, if_neg (by simp), if_neg (by omega)]
    go_enter Tryz.func200, Tryz.ntmps200
    go_wp2_with fail
    refine hck.mono ?_
    rintro e w1 ⟨rfl, hb1⟩
    have HB1 : Aside _ := HB0.out.trans (hb1.mono HB0.out.size)
    clear hck HB0 hb1
    go_wp2
    go_ret
    exact ⟨by rw [HR.out]; rfl, HB1.out⟩
 ·have HR : Hid (d = n) := by rw [Hid, HD.out, if_pos hn]
  have hnb : (n != 0) = true := by rw [bne_iff_ne]; exact hn
  go_enter Tryz.func200, Tryz.ntmps200
  go_wp2_with fail
  refine hck.mono ?_
  rintro e w1 ⟨rfl, hb1⟩
  have HB1 : Aside _ := HB0.out.trans (hb1.mono HB0.out.size)
  clear hck HB0 hb1
  go_wp2
  go_ret
  exact ⟨by rw [HR.out]; rfl, HB1.out⟩
theorem dueErr_zero {js : List Jb} {rs : List Rg} {t : Int} (h : dueErr js rs t = 0) : ckBook js rs = 0 ∧ 0 ≤ t ∧ t ≤ 100000 := by
 unfold dueErr at h
 split at h
 ·exact absurd h (by assumption)
 ·rename_i h1
  split at h
  ·cases h
  ·exact ⟨by simpa using h1, by omega, by omega⟩
end
section
open Go.Shelf
set_option maxHeartbeats 1000000 in
theorem due_pred (t : Int) (eb : Nat) (W : World) (y : Jb) (h : W.heap[eb]? = some (.cells #[.int .i64 t] 3)) :
  Calls Tryz.prog 202 (#[y.val] ++ #[.pointer (some ⟨eb, 0, none⟩)]) W fun e w' => e = .returned (.bool (decide (t < y.n))) ∧ Below W.heap.size W w' := by
 have hlt := heap_lt h
 have hne : eb ≠ W.heap.size := by omega
 have c0 : W.cell? ⟨eb, 0, none⟩ = some (.int .i64 t) := Joins.cell_of_block h 0
 show Calls Tryz.prog 202 #[y.val, .pointer (some ⟨eb, 0, none⟩)] W _
 go_enter Tryz.func202, Tryz.ntmps202
 go_wp2
 all_goals (go_ret; exact ⟨by simp_all, grew (Below.refl _ _) _⟩)
set_option maxHeartbeats 2000000 in
theorem due_bad (a1 a2 : Option Addr) (n1 n2 c1 c2 : Nat) (js : List Jb) (rs : List Rg) (t : Int) (w : World) (h1 : JobSl w (.slice a1 n1 c1) js) (h2 : RungSl w (.slice a2 n2 c2) rs) (hbad : dueErr js rs t ≠ 0) :
  Calls Tryz.prog 174 #[.agg #[.slice a1 n1 c1, .slice a2 n2 c2], .int .i64 t] w fun e w' => e = .returned (.tuple #[nil0, .int .i64 (dueErr js rs t)]) ∧ Below w.heap.size w w' := by
 have hB0 := grew (grew (Below.refl w.heap.size w) (boxB (.slice a1 n1 c1) (.slice a2 n2 c2))) (.cells #[.int .i64 t] 3)
 have hck := due_check a1 a2 n1 n2 c1 c2 js rs t _ (h1.later hB0) (h2.later hB0)
 have hb : (dueErr js rs t != 0) = true := by rw [bne_iff_ne]; exact hbad
 have HB0 : Aside _ := hB0
 generalize dueErr js rs t = d at *
 clear h1 h2 hB0 hbad
 go_enter Tryz.func174, Tryz.ntmps174
 go_wp2_with fail
 refine hck.mono ?_
 rintro e w1 ⟨rfl, hb1⟩
 have HB1 : Aside _ := HB0.out.trans (hb1.mono HB0.out.size)
 clear hck HB0 hb1
 go_wp2
 refine ret_two (p := 4) (q := 5) rfl rfl rfl rfl ⟨rfl, HB1.out⟩
theorem late_filter (t : Int) (js : List Jb) : js.filter (fun x => !decide (t < x.n)) = late t js := by
 unfold late
 refine List.filter_congr fun x _ => ?_
 by_cases h : t < x.n
 ·simp [h]
 ·simp [h]; omega
set_option maxHeartbeats 4000000 in
set_option maxRecDepth 100000 in
theorem due_ok (a1 a2 : Option Addr) (n1 n2 c1 c2 : Nat) (js : List Jb) (rs : List Rg) (t : Int) (w : World) (h1 : JobSl w (.slice a1 n1 c1) js) (h2 : RungSl w (.slice a2 n2 c2) rs) (hz : dueErr js rs t = 0) :
  Calls Tryz.prog 174 #[.agg #[.slice a1 n1 c1, .slice a2 n2 c2], .int .i64 t] w fun e w' => ∃ u, e = .returned (.tuple #[u, .int .i64 0]) ∧ JobSl w' u (dueOf js t) ∧ Below w.heap.size w w' ∧ Roomy u := by
 obtain ⟨i0, hi, hz0, hz1, hz2⟩ := info_parts infoJ
 have hB0 := grew (grew (Below.refl w.heap.size w) (boxB (.slice a1 n1 c1) (.slice a2 n2 c2))) (.cells #[.int .i64 t] 3)
 have hck := due_check a1 a2 n1 n2 c1 c2 js rs t _ (h1.later hB0) (h2.later hB0)
 rw [hz] at hck
 have hok := ckBook_zero.1 (dueErr_zero hz).1
 have HO : Hid (Ok js rs) := hok
 have hn : n1 ≤ 6 := by have := hok.few; rwa [h1.len] at this
 have L1 : Hid (js.length = n1) := h1.len
 have H1 : Hid (JobSl w (.slice a1 n1 c1) js) := h1
 obtain ⟨cs, hcs⟩ : ∃ cs, Hid (js.flatMap Jb.cells = cs) := ⟨_, rfl⟩
 have hone : ∀ u ∈ cs, u.oneCell' = true := by rw [← hcs.out]; exact oneJ js
 have hlen : cs.length = n1 * 3 := by rw [← hcs.out, row_len Jb.three js, L1.out]
 have HW : Aside (((w.alloc (boxB (.slice a1 n1 c1) (.slice a2 n2 c2))).alloc (.cells #[.int .i64 t] 3)).heap[w.heap.size]? = some (boxB (.slice a1 n1 c1) (.slice a2 n2 c2))) := heap_old (heap_new _ _) _
 have HT : Aside (((w.alloc (boxB (.slice a1 n1 c1) (.slice a2 n2 c2))).alloc (.cells #[.int .i64 t] 3)).heap[w.heap.size + 1]? = some (.cells #[.int .i64 t] 3)) := by
  have := heap_new (w.alloc (boxB (.slice a1 n1 c1) (.slice a2 n2 c2))) (.cells #[.int .i64 t] 3)
  rwa [World.size_alloc] at this
 have HB0 : Aside _ := hB0
 clear h1 h2 hB0 hz hok
 go_enter Tryz.func174, Tryz.ntmps174
 go_wp2_with fail
 refine hck.mono ?_
 rintro e w1 ⟨rfl, hb1⟩
 have HB1 : Aside (Below w.heap.size w w1) := HB0.out.trans (hb1.mono HB0.out.size)
 have hw1 : w1.heap[w.heap.size]? = some (boxB (.slice a1 n1 c1) (.slice a2 n2 c2)) := heap_below HW.out hb1 (heap_lt HW.out)
 have ht1 : w1.heap[w.heap.size + 1]? = some (.cells #[.int .i64 t] 3) := heap_below HT.out hb1 (heap_lt HT.out)
 have z1 := fun i => Joins.cell_of_block hw1 i
 have HW1 : Aside (w1.heap[w.heap.size]? = some (boxB (.slice a1 n1 c1) (.slice a2 n2 c2))) := hw1
 have HT1 : Aside (w1.heap[w.heap.size + 1]? = some (.cells #[.int .i64 t] 3)) := ht1
 clear hck HB0 hb1 HW hw1 HT ht1
 go_wp2_with (at_make; refine wpList_make_full _ rfl _ _ 36 rfl w1.heap.size 120 i0 (valJ 0 0 0) 3 Tryz.underlying36 hi hz0 hz1 _ _ _ _ n1 rfl rfl rfl rfl (by rw [hz2]; omega) (by unfold maxLen; omega) (Nat.le_refl _) ?_)
 intro w2 hown hgrow
 obtain ⟨hl0, ho⟩ := hown
 rcases ho with ⟨h, _⟩ | ⟨g, cap, cur, hv', _, hg, _, _, hsz, htake⟩
 ·cases h
 injection hv' with ha _ hc
 injection ha with ha
 injection ha with ha _ _
 subst ha hc
 have hb2 : Below w1.heap.size w1 w2 := ⟨hgrow.os, hgrow.tape, hgrow.output, hgrow.size, fun k hk => hgrow.block k hk (fun h => by cases h)⟩
 have HB2 : Aside (Below w.heap.size w w2) := HB1.out.trans (hb2.mono HB1.out.size)
 have hcur : cur.toList.length = n1 * 3 := by simpa using hsz
 have hg' : w2.heap[w1.heap.size]? = some (.cells cur.toList.toArray 120 (0, 0)) := by simpa using hg
 have hw2 : w2.heap[w.heap.size]? = some (boxB (.slice a1 n1 c1) (.slice a2 n2 c2)) := heap_below HW1.out hb2 (heap_lt HW1.out)
 have z2 := fun i => Joins.cell_of_block hw2 i
 have HT2 := hv HT1 hb2
 have hne1 : w.heap.size + 1 < w1.heap.size := heap_lt HT1.out
 clear hi hz0 hz1 hz2 hl0 htake hgrow hg hsz z1 HW1 hw2
 have hpos : 0 < Nat.min n1 n1 → (some ⟨w1.heap.size, 0, none⟩ : Option Addr) = some ⟨w1.heap.size, 0, none⟩ ∧ ∃ ad, a1 = some ad ∧ ∀ j v, cs[j]? = some v → w2.cell? (ad.add j) = some v := fun h0 => by
  have h0' : 0 < n1 := by
   have : 0 < min n1 n1 := h0
   omega
  obtain ⟨b, off, rfl, hE⟩ := H1.out.at h0'
  refine ⟨rfl, _, rfl, fun j u hj => ?_⟩
  rw [Lib.add_plain]
  rw [← hcs.out] at hj
  exact rows_flat Jb.three js off (hE.later HB2.out) j u hj
 have hmin : cs.length = Nat.min n1 n1 * 3 := by rw [hlen]; show _ = min n1 n1 * 3; rw [Nat.min_self]
 have hfit : 0 + cs.length ≤ cur.toList.length := by rw [hcur, hlen]; omega
 have hall := splice_all (hcur.trans hlen.symm)
 obtain ⟨cl, hcl⟩ : ∃ cl, Hid (cur.toList = cl) := ⟨_, rfl⟩
 rw [hcl.out] at hg' hfit hall
 clear hcur hcl
 go_wp2_with ((with_reducible show wpList _ _ _ (Oper.mk (some 21) _ _ _ _ _ :: _) _ _); refine wpList_copyK rfl _ _ 36 36 rfl 120 3 Tryz.underlying36 sizeJ (some ⟨w1.heap.size, 0, none⟩) a1 n1 n1 n1 c1 rfl rfl w1.heap.size 0 cl 120 hg' cs hmin hpos hfit hone w1.heap.size w1 hb2 (Nat.le_refl _) ?_)
 intro w3 hg3 hB3
 have HG3 : w3.heap[w1.heap.size]? = some (.cells (js.flatMap Jb.cells).toArray 120) := by rw [hcs.out]; exact hg3.out
 have HT3 : w3.heap[w.heap.size + 1]? = some (.cells #[.int .i64 t] 3) := heap_below HT1.out hB3 (by omega)
 have HB3 : Aside (Below w.heap.size w w3) := HB1.out.trans (hB3.mono HB1.out.size)
 have eg : ∀ args w, (callFunc 202 args).run Tryz.prog w = .ok (.enter 202 args) w := enters_of Tryz.func202 (by kernel_rfl) rfl
 have hdel := delG (fun y => decide (t < y.n)) 202 #[.pointer (some ⟨w.heap.size + 1, 0, none⟩)] eg (w.heap.size + 1) _ w1.heap.size n1 js w3 (by omega) HT3 HG3 (by rw [L1.out]; omega) (by rw [L1.out]; exact Nat.le_refl _) (fun W y hW => due_pred t (w.heap.size + 1) W y hW)
 rw [late_filter, L1.out] at hdel
 have hlm : (late t js).length ≤ n1 := by rw [← L1.out]; exact List.length_filter_le _ _
 obtain ⟨m, hml⟩ : ∃ m, Hid ((late t js).length = m) := ⟨_, rfl⟩
 rw [hml.out] at hdel hlm
 have hsz1 := HB1.out.size
 clear hg3 HG3 HT3 hB3 eg HT1 HT2 z2 hb2 HB2 hcs hone hlen hmin hall hfit hg' hpos HB1 H1
 go_wp2_with fail
 refine hdel.mono ?_
 rintro e w4 ⟨rfl, ⟨tl, hg4⟩, hk4⟩
 have eg2 : ∀ args w, (callFunc 204 args).run Tryz.prog w = .ok (.enter 204 args) w := enters_of Tryz.func204 (by kernel_rfl) rfl
 have his := isort 204 #[] eg2 w1.heap.size n1 m (late t js) tl w4 hml.out (by omega) ((srt_apart HO.out.srt).filter _) hg4 (fun W x y _ _ => (inTurn_any x y W).mono fun _ _ ⟨h1, h2⟩ => ⟨turn x y, h1, turn_neg x y, h2⟩)
 have hs := sortF 204 #[] (.slice (some ⟨w1.heap.size, 0, none⟩) m n1) m w4 _ ⟨_, _, rfl⟩ (by omega) his
 have HK4 : Aside (Kept [w1.heap.size] w3 w4) := hk4
 clear hdel hg4 hk4 eg2 his
 go_wp2_with fail
 refine hs.mono ?_
 rintro e w5 ⟨rfl, ys, hr, hmem, hyl, hg5, hk5⟩
 have hyd := late_row HO.out hr hmem
 have J5 : Aside (JobSl w5 (.slice (some ⟨w1.heap.size, 0, none⟩) m n1) (dueOf js t)) := by
  rw [← hyd, ← hyl]
  exact slOf_block Jb.three hg5 ⟨_, rfl⟩
 have hs3 := HB3.out.size
 have B5 : Aside (Below w.heap.size w w5) := (HB3.out.trans (HK4.out.to hs3 (fun k hk => by simp at hk; omega))).trans (hk5.to (by have := HK4.out.size; omega) (fun k hk => by simp at hk; omega))
 clear hr hmem hyl hg5 hk5 hyd hs HK4 HB3
 go_wp2
 refine ret_two (p := 4) (q := 5) rfl rfl rfl rfl ⟨_, rfl, J5.out, B5.out, ⟨_, _, _, rfl, hlm⟩⟩
end
section
open Go.Shelf
theorem due_any (v1 v2 : Value) (js : List Jb) (rs : List Rg) (t : Int) (w : World) (h1 : JobSl w v1 js) (h2 : RungSl w v2 rs) :
  Calls Tryz.prog 174 #[.agg #[v1, v2], .int .i64 t] w fun e w' => ∃ u, e = .returned (.tuple #[u, .int .i64 (dueErr js rs t)]) ∧ JobSl w' u (if dueErr js rs t = 0 then dueOf js t else []) ∧ Below w.heap.size w w' ∧ Roomy u := by
 obtain ⟨a1, c1, a2, c2, rfl, rfl⟩ := bk_slices h1 h2
 by_cases hz : dueErr js rs t = 0
 ·rw [if_pos hz, hz]
  exact due_ok a1 a2 _ _ c1 c2 js rs t w h1 h2 hz
 ·rw [if_neg hz]
  exact (due_bad a1 a2 _ _ c1 c2 js rs t w h1 h2 hz).mono fun _ _ ⟨he, hb⟩ => ⟨_, he, SlOf.nil _ _, hb, ⟨_, _, _, rfl, Nat.le_refl _⟩⟩
end
end Go.Proofs.YtmoaobfmopimlafGreatDoor
