/- For the law. -/
import Derived.Test.YtmoaobfmopimlafGreatDoorM14
set_option linter.unusedSimpArgs false
set_option linter.unusedVariables false
namespace Go.Proofs.YtmoaobfmopimlafGreatDoor
open Go.RowKit
theorem name_world {P : World → Prop} {W : World} (h : P W) : ∃ V, V = W ∧ P V := ⟨W, rfl, h⟩
theorem ents_front {W : World} {g n cap : Nat} {T : TypeId} {es : List En} {tl : List Value} (hl : es.length = n) (h : W.heap[g]? = some (.cells (es.flatMap En.cells ++ tl).toArray T)) : EntSl W (.slice (some ⟨g, 0, none⟩) n cap) es := by
 refine ⟨some ⟨g, 0, none⟩, cap, by rw [hl], Or.inr ⟨g, 0, rfl, fun j x hj i u hi => ?_⟩⟩
 have hf := row_flat En.five es j x hj i u hi
 have hlt := (List.getElem?_eq_some_iff.1 hf).1
 rw [Joins.cell_of_block h, Nat.zero_add, List.getElem?_toArray, List.getElem?_append_left hlt]
 exact hf
def utake (u : Un) (r : Rc) : Un × Int := if r.chk ≠ 0 then (u, r.chk) else if (uwrite u r).2 ≠ 0 then (u, (uwrite u r).2) else uwrite u r
theorem uwrite_bad {u : Un} {r : Rc} (h : (uwrite u r).2 ≠ 0) : (uwrite u r).1 = Un.zero := by
 unfold uwrite at h ⊢
 split at h <;> rename_i h1
 ·rw [if_pos h1]
  split at h <;> rename_i h2
  ·rw [if_pos h2]
  ·exact absurd rfl h
 ·rw [if_neg h1]
  split at h <;> rename_i h2
  ·rw [if_pos h2]
  ·exact absurd rfl h
theorem unext_of {u : Un} (r : Rc) (h : u.ck = 0) : unext u r = if r.chk ≠ 0 then (Un.zero, r.chk) else uwrite u r := by
 rw [unext, if_neg (by simpa using h)]
theorem utake_err (u : Un) (r : Rc) (h : u.ck = 0) : (utake u r).2 = (unext u r).2 := by
 rw [unext_of r h, utake]
 by_cases h1 : r.chk = 0
 ·rw [if_neg (c := r.chk ≠ 0) (by simpa using h1), if_neg (c := r.chk ≠ 0) (by simpa using h1)]
  split <;> rfl
 ·rw [if_pos h1, if_pos h1]
theorem utake_ok {u : Un} {r : Rc} (h : u.ck = 0) (h2 : (utake u r).2 = 0) : utake u r = unext u r := by
 rw [unext_of r h]
 rw [utake] at h2 ⊢
 by_cases h1 : r.chk = 0
 ·rw [if_neg (c := r.chk ≠ 0) (by simpa using h1)] at h2 ⊢
  rw [if_neg (c := r.chk ≠ 0) (by simpa using h1)]
  split
  ·rename_i h4
   rw [if_pos h4] at h2
   exact absurd h2 h4
  ·rfl
 ·rw [if_pos h1] at h2
  exact absurd h2 h1
theorem unext_bad {u : Un} {r : Rc} (h : u.ck = 0) (h2 : (unext u r).2 ≠ 0) : (unext u r).1 = Un.zero := by
 rw [unext_of r h] at h2 ⊢
 by_cases h1 : r.chk = 0
 ·rw [if_neg (c := r.chk ≠ 0) (by simpa using h1)] at h2 ⊢
  exact uwrite_bad h2
 ·rw [if_pos h1]
def Rc.cw (r : Rc) : Int := if ¬(0 ≤ r.a ∧ r.a ≤ 59) then 3 else if ¬ r.p = 0 then 4 else r.e.chk
def Rc.cs (r : Rc) : Int := if ¬(1 ≤ r.p ∧ r.p ≤ 20) then 3 else if ¬ r.a = 0 ∨ r.e.some_ = true then 4 else 0
set_option maxHeartbeats 2000000 in
theorem checkWrite_any (r : Rc) (w : World) :
  Calls Tryz.prog 221 #[r.val] w fun e w' => e = .returned (.int .i64 r.cw) ∧ Below w.heap.size w w' := by
 have hB0 : Aside (Below w.heap.size w (w.alloc (boxRc r))) := grew (Below.refl _ _) _
 have hce := check_any r.e.k r.e.j r.e.v r.e.t r.e.c (w.alloc (boxRc r))
 change Calls _ _ _ _ fun e w' => e = .returned (.int .i64 r.e.chk) ∧ _ at hce
 have HC : Hid (r.cw = if ¬(0 ≤ r.a ∧ r.a ≤ 59) then 3 else if ¬ r.p = 0 then 4 else r.e.chk) := rfl
 generalize r.cw = d at *
 generalize r.e.chk = d' at *
 have hc : r.a < 0 ∨ (0 ≤ r.a ∧ 60 ≤ r.a) ∨ (0 ≤ r.a ∧ r.a < 60) := by omega
 rcases hc with h | ⟨h, h'⟩ | ⟨h, h'⟩
 ·have HR : Hid (d = 3) := by rw [Hid, HC.out, if_pos (by omega)]
  clear HC
  go_enter Tryz.func221, Tryz.ntmps221
  go_wp2
  go_ret
  exact ⟨by rw [HR.out]; rfl, hB0.out⟩
 ·have HR : Hid (d = 3) := by rw [Hid, HC.out, if_pos (by omega)]
  clear HC
  go_enter Tryz.func221, Tryz.ntmps221
  go_wp2
  go_ret
  exact ⟨by rw [HR.out]; rfl, hB0.out⟩
 ·rw [if_neg (by omega)] at HC
  by_cases hp : r.p = 0
  ·have HR : Hid (d = d') := by rw [Hid, HC.out, if_neg (by simpa using hp)]
   have hpb : (r.p != 0) = false := by rw [hp]; rfl
   clear HC hp
   go_enter Tryz.func221, Tryz.ntmps221
   go_wp2_with fail
   refine hce.mono ?_
   rintro e w2 ⟨rfl, hb2⟩
   have HB2 := sb hB0 hb2
   clear hb2 hce
   go_wp2
   go_ret
   exact ⟨by rw [HR.out]; rfl, HB2.out⟩
  ·have HR : Hid (d = 4) := by rw [Hid, HC.out, if_pos hp]
   have hpb : (r.p != 0) = true := by rw [bne_iff_ne]; exact hp
   clear HC hp
   go_enter Tryz.func221, Tryz.ntmps221
   go_wp2
   go_ret
   exact ⟨by rw [HR.out]; rfl, hB0.out⟩
set_option maxHeartbeats 2000000 in
theorem checkSeal_any (r : Rc) (w : World) :
  Calls Tryz.prog 222 #[r.val] w fun e w' => e = .returned (.int .i64 r.cs) ∧ Below w.heap.size w w' := by
 have hB0 : Aside (Below w.heap.size w (w.alloc (boxRc r))) := grew (Below.refl _ _) _
 have hne : ∀ W, (binOp .neq 27 (ev r.e.k r.e.j r.e.v r.e.t r.e.c) (ev 0 0 0 0 0)).run Tryz.prog W = .ok (.bool r.e.some_) W := fun W => neq_entry r.e.k r.e.j r.e.v r.e.t r.e.c 0 0 0 0 0 W
 have HC : Hid (r.cs = if ¬(1 ≤ r.p ∧ r.p ≤ 20) then 3 else if ¬ r.a = 0 ∨ r.e.some_ = true then 4 else 0) := rfl
 generalize r.cs = d at *
 generalize r.e.some_ = so at *
 have hc : r.p < 1 ∨ (1 ≤ r.p ∧ 20 < r.p) ∨ (1 ≤ r.p ∧ r.p ≤ 20) := by omega
 rcases hc with h | ⟨h, h'⟩ | ⟨h, h'⟩
 ·have HR : Hid (d = 3) := by rw [Hid, HC.out, if_pos (by omega)]
  clear HC
  go_enter Tryz.func222, Tryz.ntmps222
  go_wp2
  go_ret
  exact ⟨by rw [HR.out]; rfl, hB0.out⟩
 ·have HR : Hid (d = 3) := by rw [Hid, HC.out, if_pos (by omega)]
  clear HC
  go_enter Tryz.func222, Tryz.ntmps222
  go_wp2
  go_ret
  exact ⟨by rw [HR.out]; rfl, hB0.out⟩
 ·rw [if_neg (by omega)] at HC
  by_cases ha : r.a = 0
  ·cases so with
   | true =>
    have HR : Hid (d = 4) := by rw [Hid, HC.out, if_pos (Or.inr rfl)]
    have hab : (r.a != 0) = false := by rw [ha]; rfl
    clear HC ha
    go_enter Tryz.func222, Tryz.ntmps222
    go_wp2
    go_ret
    exact ⟨by rw [HR.out]; rfl, hB0.out⟩
   | false =>
    have HR : Hid (d = 0) := by rw [Hid, HC.out, if_neg (by simp [ha])]
    have hab : (r.a != 0) = false := by rw [ha]; rfl
    clear HC ha
    go_enter Tryz.func222, Tryz.ntmps222
    go_wp2
    go_ret
    exact ⟨by rw [HR.out]; rfl, hB0.out⟩
  ·have HR : Hid (d = 4) := by rw [Hid, HC.out, if_pos (Or.inl ha)]
   have hab : (r.a != 0) = true := by rw [bne_iff_ne]; exact ha
   clear HC ha
   go_enter Tryz.func222, Tryz.ntmps222
   go_wp2
   go_ret
   exact ⟨by rw [HR.out]; rfl, hB0.out⟩
set_option maxHeartbeats 2000000 in
theorem noteCheck_any (r : Rc) (w : World) :
  Calls Tryz.prog 193 #[r.val] w fun e w' => e = .returned (.int .i64 r.chk) ∧ Below w.heap.size w w' := by
 have hB0 : Aside (Below w.heap.size w (w.alloc (boxRc r))) := grew (Below.refl _ _) _
 have hcw := checkWrite_any r (w.alloc (boxRc r))
 have hcs := checkSeal_any r (w.alloc (boxRc r))
 have HC : Hid (r.chk = if r.k = 2 then r.cs else if ¬ r.k = 1 then 4 else r.cw) := rfl
 generalize r.chk = d at *
 generalize r.cw = d1 at *
 generalize r.cs = d2 at *
 by_cases h1 : r.k = 1
 ·have HR : Hid (d = d1) := by rw [Hid, HC.out, if_neg (by omega), if_neg (by simpa using h1)]
  have hb1 : (r.k == 1) = true := by rw [h1]; rfl
  clear HC h1 hcs
  go_enter Tryz.func193, Tryz.ntmps193
  go_wp2_with fail
  refine hcw.mono ?_
  rintro e w2 ⟨rfl, hb2⟩
  have HB2 := sb hB0 hb2
  clear hb2 hcw
  go_wp2
  go_ret
  exact ⟨by rw [HR.out]; rfl, HB2.out⟩
 ·have hb1 : (r.k == 1) = false := by rw [beq_eq_false_iff_ne]; exact h1
  by_cases h2 : r.k = 2
  ·have HR : Hid (d = d2) := by rw [Hid, HC.out, if_pos h2]
   have hb2 : (r.k == 2) = true := by rw [h2]; rfl
   clear HC h1 h2 hcw
   go_enter Tryz.func193, Tryz.ntmps193
   go_wp2_with fail
   refine hcs.mono ?_
   rintro e w2 ⟨rfl, hb3⟩
   have HB2 := sb hB0 hb3
   clear hb3 hcs
   go_wp2
   go_ret
   exact ⟨by rw [HR.out]; rfl, HB2.out⟩
  ·have HR : Hid (d = 4) := by rw [Hid, HC.out, if_neg h2, if_pos h1]
   have hb2 : (r.k == 2) = false := by rw [beq_eq_false_iff_ne]; exact h2
   clear HC h1 h2 hcw hcs
   go_enter Tryz.func193, Tryz.ntmps193
   go_wp2
   go_ret
   exact ⟨by rw [HR.out]; rfl, hB0.out⟩
theorem ublank_any (w : World) :
  Calls Tryz.prog 111 #[] w fun e w' => e = .returned (ev 4 0 0 0 0) ∧ Below w.heap.size w w' := by
 go_enter Tryz.func111, Tryz.ntmps111
 go_wp2
 exact bodyPost_ret (v := ev 4 0 0 0 0) (by simp [results, Tryz.results111, go_sem]) rfl ⟨rfl, grew (Below.refl _ _) _⟩
def NewAt (W : World) (g n : Nat) : Prop := ∃ es : List En, es.length = 60 ∧ (∀ j, j < n → es[j]? = some blankE) ∧ W.heap[g]? = some (.cells (es.flatMap En.cells ++ []).toArray 27)
theorem newAt_all {W : World} {g : Nat} (h : NewAt W g 60) : W.heap[g]? = some (.cells ((List.replicate 60 blankE).flatMap En.cells).toArray 27) := by
 obtain ⟨es, hl, he, hW⟩ := h
 have e : es = List.replicate 60 blankE := by
  apply List.ext_getElem?
  intro j
  by_cases hj : j < 60
  ·rw [he j hj, List.getElem?_replicate, if_pos hj]
  ·rw [List.getElem?_eq_none (by omega), List.getElem?_eq_none (by rw [List.length_replicate]; omega)]
 rw [hW, e, List.append_nil]
theorem newAt_step {W : World} {g n : Nat} (h : NewAt W g n) (hn : n < 60) : NewAt (((((W.setCell ⟨g, n * 5, none⟩ (.int .i64 4)).setCell ⟨g, n * 5 + 1, none⟩ (.int .i64 0)).setCell ⟨g, n * 5 + 2, none⟩ (.int .i64 0)).setCell ⟨g, n * 5 + 3, none⟩ (.int .i64 0)).setCell ⟨g, n * 5 + 4, none⟩ (.int .i64 0)) g (n + 1) := by
 obtain ⟨es, hl, he, hW⟩ := h
 refine ⟨es.set n blankE, by rw [List.length_set]; exact hl, fun j hj => ?_, stored_five hW (by omega) blankE⟩
 by_cases hjn : n = j
 ·subst hjn
  exact List.getElem?_set_self (by omega)
 ·rw [List.getElem?_set_ne hjn]
  exact he j (by omega)
theorem newAt_later {W W' : World} {g n : Nat} (h : NewAt W g n) (hb : Below W.heap.size W W') : NewAt W' g n := by
 obtain ⟨es, hl, he, hW⟩ := h
 exact ⟨es, hl, he, heap_below hW hb (heap_lt hW)⟩
theorem newAt_cells {W : World} {g n : Nat} (h : NewAt W g n) {k o : Nat} (hk : k < 60) (ho : o < 5) : ∃ v, W.cell? ⟨g, k * 5 + o, none⟩ = some v := by
 obtain ⟨es, hl, _, hW⟩ := h
 rw [Joins.cell_of_block hW]
 have hll : k * 5 + o < (es.flatMap En.cells ++ []).length := by rw [List.append_nil, row_len En.five, hl]; omega
 exact ⟨_, by rw [List.getElem?_toArray]; exact List.getElem?_eq_getElem hll⟩
theorem newAt_thaw {W : World} {g n : Nat} (h : NewAt W g n) (i : Nat) : W.frozen? ⟨g, i, none⟩ = false := by
 obtain ⟨es, _, _, hW⟩ := h
 exact Joins.unfrozen_of_block hW i
theorem made60 : (madeCells (ev 0 0 0 0 0).cells (60 * 5)).toList = (List.replicate 60 En.zero).flatMap En.cells := by kernel_rfl
set_option maxHeartbeats 4000000 in
set_option maxRecDepth 100000 in
theorem unitNew_own (w : World) :
  Calls Tryz.prog 76 #[] w fun e w' => ∃ g, e = .returned (.agg #[.int .i64 1, .slice (some ⟨g, 0, none⟩) 60 60]) ∧ w.heap.size ≤ g ∧ w'.heap[g]? = some (.cells (unew.cells.flatMap En.cells ++ []).toArray 27) ∧ Below w.heap.size w w' := by
 obtain ⟨i0, hi, hz0, hz1, hz2⟩ := info_parts infoE
 have HX0 : Aside ((w.alloc (boxU 0 (.slice none 0 0))).heap[w.heap.size]? = some (boxU 0 (.slice none 0 0))) := heap_new _ _
 have HB0 : Aside (Below w.heap.size w (w.alloc (boxU 0 (.slice none 0 0)))) := grew (Below.refl _ _) _
 go_enter Tryz.func76, Tryz.ntmps76
 go_upto_region 1 with fail
 generalize w.alloc (boxU 0 (.slice none 0 0)) = W0 at *
 go_wp2_with (at_make; refine wpList_make_full _ rfl _ _ 42 rfl W0.heap.size 27 i0 (ev 0 0 0 0 0) 5 Tryz.underlying42 hi hz0 hz1 _ _ _ _ 60 rfl rfl rfl rfl (by rw [hz2]; omega) (by unfold maxLen; omega) (Nat.le_refl _) ?_)
 intro w1 hown hgrow
 obtain ⟨hl0, ho⟩ := hown
 rcases ho with ⟨h, _⟩ | ⟨g, cap, cur, hv', _, hg, _, _, hsz, htake⟩
 ·cases h
 injection hv' with ha _ hc
 injection ha with ha
 injection ha with ha _ _
 subst ha hc
 have hB1 : Below W0.heap.size W0 w1 := ⟨hgrow.os, hgrow.tape, hgrow.output, hgrow.size, fun k hk => hgrow.block k hk (fun h => by cases h)⟩
 have hN1 : NewAt w1 W0.heap.size 0 := by
  refine ⟨List.replicate 60 En.zero, List.length_replicate .., fun j hj => absurd hj (Nat.not_lt_zero j), ?_⟩
  have h2 : cur.toList = (List.replicate 60 En.zero).flatMap En.cells := by
   rw [← made60]
   rw [List.take_of_length_le (by rw [Array.length_toList, hsz]; omega)] at htake
   exact htake
  rw [List.append_nil, ← h2]
  simpa using hg
 have hX1 := heap_below HX0.out hB1 (heap_lt HX0.out)
 have hlt := heap_lt HX0.out
 have HB1 : Below w.heap.size w w1 := HB0.out.trans (hB1.mono HB0.out.size)
 have hgw : w.heap.size ≠ W0.heap.size := by omega
 have HLE : Hid (w.heap.size ≤ W0.heap.size) := by show _ ≤ _; omega
 clear hi hz0 hz1 hz2 hl0 htake hgrow hg hsz hB1 HX0 HB0 hlt
 generalize W0.heap.size = g at *
 go_wp2
 go_loopw [6] (fun s wr => ∃ n : Nat, n ≤ 60 ∧ s = .int .i64 n ∧ NewAt wr g n ∧ wr.heap[w.heap.size]? = some (boxU 0 (.slice none 0 0)) ∧ Below w.heap.size w wr) (fun s _ => 60 - (intOf s).toNat)
 case atStart => exact ⟨0, by omega, rfl, hN1, hX1, HB1⟩
 case round =>
  clear hN1 hX1 HB1
  obtain ⟨n, h60, rfl, hN, hX, hB⟩ := hrel
  have HN : Aside (NewAt wr g n) := hN
  have HX : Aside (wr.heap[w.heap.size]? = some (boxU 0 (.slice none 0 0))) := hX
  have HB : Aside (Below w.heap.size w wr) := hB
  clear hN hX hB
  by_cases hlt : n < 60
  ·have hni : (n : Int) < 60 := by omega
   go_wp2_with fail
   refine (ublank_any _).mono ?_
   rintro e w2 ⟨rfl, hb2⟩
   have hN2 := newAt_later HN.out hb2
   have HX2 := hv HX hb2
   have HB2 := sb HB hb2
   obtain ⟨q0, g0⟩ := newAt_cells hN2 hlt (o := 0) (by omega)
   obtain ⟨q1, g1⟩ := newAt_cells hN2 hlt (o := 1) (by omega)
   obtain ⟨q2, g2⟩ := newAt_cells hN2 hlt (o := 2) (by omega)
   obtain ⟨q3, g3⟩ := newAt_cells hN2 hlt (o := 3) (by omega)
   obtain ⟨q4, g4⟩ := newAt_cells hN2 hlt (o := 4) (by omega)
   rw [Nat.add_zero] at g0
   have fg := fun i => newAt_thaw hN2 i
   have HN2 : Aside _ := newAt_step hN2 hlt
   have HX3 : Aside _ := (other_fiveE (W := w2) hgw (n * 5) (.int .i64 4) (.int .i64 0) (.int .i64 0) (.int .i64 0) (.int .i64 0)).trans HX2.out
   have HB3 : Aside _ := below_fiveE HB2.out HLE.out (n * 5) (.int .i64 4) (.int .i64 0) (.int .i64 0) (.int .i64 0) (.int .i64 0)
   clear hb2 hN2 HN HX HB
   go_wp2
   go_roundw
   case rel => exact ⟨n + 1, by omega, by go_num, HN2.out, HX3.out, HB3.out⟩
   case measure => simp [intOf]; omega
  ·obtain rfl : n = 60 := by omega
   have hG := newAt_all HN.out
   have z0 := cb HX
   have f0 := cf HX
   have HG : Aside _ := hG
   clear hG HN
   go_wp2
   have hX := unit_stored HX.out 1 (.slice (some ⟨g, 0, none⟩) 60 60)
   have hBB := below_two2 HB.out (Nat.le_refl _) (.int .i64 1) (.slice (some ⟨g, 0, none⟩) 60 60)
   have hGG : ((wr.setCell ⟨w.heap.size, 0, none⟩ (.int .i64 1)).setCell ⟨w.heap.size, 1, none⟩ (.slice (some ⟨g, 0, none⟩) 60 60)).heap[g]? = some (.cells ((List.replicate 60 blankE).flatMap En.cells).toArray 27) := by
    rw [Below.heap_setCell _ _ _ _ (by exact hgw.symm), Below.heap_setCell _ _ _ _ (by exact hgw.symm)]
    exact HG.out
   have c0 := fun i => Joins.cell_of_block hX i
   refine bodyPost_ret (v := .agg #[.int .i64 1, .slice (some ⟨g, 0, none⟩) 60 60]) (by simp [results, Tryz.results76, go_sem, c0]) rfl ⟨_, rfl, HLE.out, ?_, hBB⟩
   rw [hGG, List.append_nil]
   rfl
open scoped Classical in
theorem unitSame_any (v v' : Value) (u x : Un) (w : World) (h : EntSl w v u.cells) (h' : EntSl w v' x.cells) (hn : u.cells.length ≤ topN) :
  Calls Tryz.prog 13 #[.agg #[.int .i64 u.p, v], .agg #[.int .i64 x.p, v']] w fun e w' => e = .returned (.bool (decide (u = x))) ∧ Below w.heap.size w w' := by
 obtain ⟨p, es⟩ := u
 obtain ⟨p', fs⟩ := x
 have hB2 : Below w.heap.size w ((w.alloc (boxU p v)).alloc (boxU p' v')) := grew (grew (Below.refl _ _) _) _
 have HB2 : Aside _ := hB2
 have heq := equalE v v' es fs ((w.alloc (boxU p v)).alloc (boxU p' v')) (h.later hB2) (h'.later hB2) hn
 clear hB2
 obtain ⟨a, c, rfl, _⟩ := h
 obtain ⟨a', c', rfl, _⟩ := h'
 have hd : decide ((⟨p, es⟩ : Un) = ⟨p', fs⟩) = (decide (p = p') && decide (es = fs)) := by
  by_cases h1 : p = p' <;> by_cases h2 : es = fs <;> simp [h1, h2]
 rw [hd]
 show Calls _ _ #[.agg #[.int .i64 p, .slice a es.length c], .agg #[.int .i64 p', .slice a' fs.length c']] _ _
 generalize decide (es = fs) = ef at *
 change Calls _ _ #[.slice a es.length c, .slice a' fs.length c'] _ _ at heq
 clear hn
 generalize es.length = n at *
 generalize fs.length = n' at *
 by_cases hp : p = p'
 ·subst hp
  go_enter Tryz.func13, Tryz.ntmps13
  go_wp2_with fail
  refine heq.mono ?_
  rintro e w1 ⟨rfl, hb1⟩
  have HB3 := sb HB2 hb1
  clear hb1 heq HB2
  go_wp2
  go_ret
  exact ⟨by simp, HB3.out⟩
 ·have hpb : (p == p') = false := by rw [beq_eq_false_iff_ne]; exact hp
  rw [decide_eq_false hp]
  clear hp heq
  go_enter Tryz.func13, Tryz.ntmps13
  go_wp2
  go_ret
  exact ⟨rfl, HB2.out⟩
set_option maxHeartbeats 4000000 in
set_option maxRecDepth 100000 in
theorem unitCheck60 (a : Option Addr) (c : Nat) (p : Int) (es : List En) (w : World) (h : EntSl w (.slice a 60 c) es) (hl : es.length = 60) (hp : 1 ≤ p) (hp2 : p ≤ 20) :
  Calls Tryz.prog 163 #[.agg #[.int .i64 p, .slice a 60 c]] w fun e w' => e = .returned (.int .i64 (ckCells es)) ∧ Below w.heap.size w w' := by
 have H : Hid (EntSl w (.slice a 60 c) es) := h
 have HL : Hid (es.length = 60) := hl
 clear h hl
 go_enter Tryz.func163, Tryz.ntmps163
 go_wp2
 go_loopw [21] (fun i wr => ∃ k : Nat, k ≤ 60 ∧ i = .int .i64 k ∧ Below w.heap.size w wr ∧ Hid (ckCells es = ckCells (es.drop k))) (fun i _ => 60 - (intOf i).toNat)
 case atStart => exact ⟨0, Nat.zero_le _, rfl, grew (Below.refl _ _) _, rfl⟩
 case round =>
  obtain ⟨k, hk, rfl, hB, hst⟩ := hrel
  by_cases hlt : k < 60
  ·obtain ⟨x, hx⟩ : ∃ x, es[k]? = some x := ⟨es[k]'(by have := HL.out; omega), List.getElem?_eq_getElem _⟩
   obtain ⟨b, off, rfl, hE0⟩ := SlOf.at (cs := En.cells) (k := 5) H.out (by omega)
   have hE := RowAt.later hE0 hB
   have c0 : wr.cell? ⟨b, off + k * 5, none⟩ = some (.int .i64 x.k) := hE k x hx 0 _ rfl
   have c1 : wr.cell? ⟨b, off + k * 5 + 1, none⟩ = some (.int .i64 x.j) := hE k x hx 1 _ rfl
   have c2 : wr.cell? ⟨b, off + k * 5 + 2, none⟩ = some (.int .i64 x.v) := hE k x hx 2 _ rfl
   have c3 : wr.cell? ⟨b, off + k * 5 + 3, none⟩ = some (.int .i64 x.t) := hE k x hx 3 _ rfl
   have c4 : wr.cell? ⟨b, off + k * 5 + 4, none⟩ = some (.int .i64 x.c) := hE k x hx 4 _ rfl
   have hd : Hid (ckCells es = if x.isB = true then ckCells (es.drop (k + 1)) else if x.chk ≠ 0 then x.chk else ckCells (es.drop (k + 1))) := by
    rw [Hid, hst.out, drop_en hx, ckCells]
   have hce : ∀ W, Calls Tryz.prog 115 #[ev x.k x.j x.v x.t x.c] W fun e w' => e = .returned (.int .i64 x.chk) ∧ Below W.heap.size W w' := fun W => check_any x.k x.j x.v x.t x.c W
   have heq : ∀ W, (binOp .eql 27 (ev x.k x.j x.v x.t x.c) (ev 4 0 0 0 0)).run Tryz.prog W = .ok (.bool x.isB) W := fun W => eql_entry x.k x.j x.v x.t x.c 4 0 0 0 0 W
   have HX1 : Aside ((wr.alloc (boxE x.k x.j x.v x.t x.c)).heap[wr.heap.size]? = some (boxE x.k x.j x.v x.t x.c)) := heap_new _ _
   have HB1 : Aside (Below w.heap.size w (wr.alloc (boxE x.k x.j x.v x.t x.c))) := grew hB _
   have hki : (k : Int) < 60 := by omega
   clear hE hE0 hst hx hB
   generalize x.isB = ib at *
   generalize x.chk = d at *
   go_upto_region 8 with fail
   have HS0 : Aside (BeS (wr.alloc (boxE x.k x.j x.v x.t x.c)) (wr.alloc (boxE x.k x.j x.v x.t x.c)) wr.heap.size x) := beS_of HX1.out
   generalize wr.alloc (boxE x.k x.j x.v x.t x.c) = W1 at *
   generalize wr.heap.size = bx at *
   have hS0 := HS0.out
   have hbd : Below W1.heap.size W1 W1.drew := (Below.refl _ _).drew
   clear c0 c1 c2 c3 c4 HX1
   cases ib with
   | true =>
    have HN : Hid (ckCells es = ckCells (es.drop (k + 1))) := by rw [Hid, hd.out, if_pos rfl]
    clear hd hce
    go_region_held3 (fun w' => BeS W1 w' bx x) (exact beS_step (by assumption) (by assumption)) (first | (go_at_call 111; refine (ublank_any _).mono ?_; rintro e w' ⟨rfl, hb'⟩))
    all_goals
     rename_i hS
     have HB3 : Aside (Below w.heap.size w _) := HB1.out.trans (hS.1.mono HB1.out.size)
     clear hS hS0 hbd HS0 HB1
     go_wp2
     go_roundw
     case rel => exact ⟨k + 1, by omega, by go_num, HB3.out, HN⟩
     case measure => simp [intOf]; omega
   | false =>
    rw [if_neg (by simp)] at hd
    go_region_held3 (fun w' => BeS W1 w' bx x) (exact beS_step (by assumption) (by assumption)) (first | (go_at_call 111; refine (ublank_any _).mono ?_; rintro e w' ⟨rfl, hb'⟩))
    all_goals
     rename_i hS
     obtain ⟨V, hVe, hSV⟩ := name_world (P := fun W => BeS W1 W bx x) hS
     subst hVe
     have HB3 : Aside (Below w.heap.size w V) := HB1.out.trans (hSV.1.mono HB1.out.size)
     obtain ⟨_, k0, k1, k2, k3, k4⟩ := hSV
     clear hS hS0 hbd HS0 HB1 heq
     go_wp2_with fail
     refine (hce _).mono ?_
     rintro e w4 ⟨rfl, hb4⟩
     have HB4 := sb HB3 hb4
     clear hce hb4 HB3 k0 k1 k2 k3 k4
     by_cases hz : d = 0
     ·have HN : Hid (ckCells es = ckCells (es.drop (k + 1))) := by rw [Hid, hd.out, if_neg (by simpa using hz)]
      have hzb : (d != 0) = false := by rw [hz]; rfl
      clear hd hz
      go_wp2
      go_roundw
      case rel => exact ⟨k + 1, by omega, by go_num, HB4.out, HN⟩
      case measure => simp [intOf]; omega
     ·have HR : Hid (ckCells es = d) := by rw [Hid, hd.out, if_pos hz]
      have hzb : (d != 0) = true := by rw [bne_iff_ne]; exact hz
      clear hd hz
      go_wp2
      go_ret
      exact ⟨by rw [HR.out]; rfl, HB4.out⟩
  ·obtain rfl : k = 60 := by omega
   have HR : Hid (ckCells es = 0) := by
    rw [Hid, hst.out, List.drop_eq_nil_of_le (by have := HL.out; omega)]; rfl
   clear hst
   go_wp2
   go_ret
   exact ⟨by rw [HR.out]; rfl, hB⟩
theorem unitCheck_any (v : Value) (u : Un) (w : World) (h : EntSl w v u.cells) :
  Calls Tryz.prog 163 #[.agg #[.int .i64 u.p, v]] w fun e w' => e = .returned (.int .i64 u.ck) ∧ Below w.heap.size w w' := by
 obtain ⟨p, es⟩ := u
 have h' := h
 obtain ⟨a, c, rfl, _⟩ := h
 show Calls _ _ _ _ fun e w' => e = .returned (.int .i64 (Un.ck ⟨p, es⟩)) ∧ _
 have hc : p < 1 ∨ (1 ≤ p ∧ 20 < p) ∨ (1 ≤ p ∧ p ≤ 20) := by omega
 rcases hc with hp | ⟨hp, hp2⟩ | ⟨hp, hp2⟩
 ·rw [Un.ck, if_pos (by simp; omega)]
  show Calls _ _ #[.agg #[.int .i64 p, .slice a es.length c]] _ _
  clear h'
  generalize es.length = n at *
  go_enter Tryz.func163, Tryz.ntmps163
  go_wp2
  go_ret
  exact ⟨rfl, grew (Below.refl _ _) _⟩
 ·rw [Un.ck, if_pos (by simp; omega)]
  show Calls _ _ #[.agg #[.int .i64 p, .slice a es.length c]] _ _
  clear h'
  generalize es.length = n at *
  go_enter Tryz.func163, Tryz.ntmps163
  go_wp2
  go_ret
  exact ⟨rfl, grew (Below.refl _ _) _⟩
 ·by_cases hl : es.length = 60
  ·rw [Un.ck, if_neg (by simp; omega), if_neg (by simpa using hl)]
   have h2 : EntSl w (.slice a es.length c) es := h'
   show Calls _ _ #[.agg #[.int .i64 p, .slice a es.length c]] _ _
   rw [hl] at h2 ⊢
   exact unitCheck60 a c p es w h2 hl hp hp2
  ·rw [Un.ck, if_neg (by simp; omega), if_pos hl]
   have hlb : ((es.length : Int) != 60) = true := by rw [bne_iff_ne]; omega
   show Calls _ _ #[.agg #[.int .i64 p, .slice a es.length c]] _ _
   clear h' hl
   generalize es.length = n at *
   go_enter Tryz.func163, Tryz.ntmps163
   go_wp2
   go_ret
   exact ⟨rfl, grew (Below.refl _ _) _⟩
end Go.Proofs.YtmoaobfmopimlafGreatDoor
