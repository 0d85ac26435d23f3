/- For the law. -/
import Derived.Test.YtmoaobfmopimlafGreatDoorM31
set_option linter.unusedSimpArgs false
set_option linter.unusedVariables false
namespace Go.Proofs.YtmoaobfmopimlafGreatDoor
open Go.RowKit
section
open scoped Classical
open Go.Shelf
set_option maxHeartbeats 1000000 in
theorem bk_many (a1 a2 : Option Addr) (n1 n2 c1 c2 : Nat) (w : World) (h : 6 < (n1 : Int) ∨ ((n1 : Int) ≤ 6 ∧ 60 < (n2 : Int))) :
  Calls Tryz.prog 117 #[.agg #[.slice a1 n1 c1, .slice a2 n2 c2]] w fun e w' => e = .returned (.int .i64 2) ∧ Below w.heap.size w w' := by
 rcases h with h | ⟨h, h'⟩
 ·go_enter Tryz.func117, Tryz.ntmps117
  go_wp2
  go_ret
  exact ⟨rfl, grew (Below.refl _ _) _⟩
 ·go_enter Tryz.func117, Tryz.ntmps117
  go_wp2
  go_ret
  exact ⟨rfl, grew (Below.refl _ _) _⟩
theorem ckRungs_idx (rs : List Rg) : ckRungs rs = if 0 ≤ idx Rg.bad rs then 3 else 0 := by
 rcases idx_ways Rg.bad rs with ⟨h, hn⟩ | ⟨k, x, h, hk, hx, hb, hz⟩
 ·rw [h, if_neg (by omega)]
  exact (ckRungs_zero rs).2 hn
 ·rw [h, if_pos (by omega)]
  have hx' : x ∈ rs := List.mem_of_getElem? hx
  clear h hk hx hz
  induction rs with
  | nil => cases hx'
  | cons y r ih =>
   rw [ckRungs]
   by_cases hy : y.bad = true
   ·rw [if_pos hy]
   ·rw [if_neg hy]
    rcases List.mem_cons.1 hx' with rfl | hx'
    ·exact absurd hb hy
    ·exact ih hx'
set_option maxHeartbeats 1000000 in
theorem check_pred (w : World) (W : World) (x : Rg) (hb : Below w.heap.size w W) :
  Calls Tryz.prog 153 (#[x.val] ++ #[]) W fun e w' => e = .returned (.bool x.bad) ∧ Below w.heap.size w w' := by
 have hin := fun W => rungIn x W
 generalize x.bad = b at *
 show Calls Tryz.prog 153 #[x.val] W _
 go_enter Tryz.func153, Tryz.ntmps153
 go_wp2_with fail
 refine (hin _).mono ?_
 rintro e w' ⟨rfl, hb'⟩
 go_wp2
 go_ret
 exact ⟨by cases b <;> rfl, (hb.alloc hb.size _).trans (hb'.mono (by have := hb.size; simp; omega))⟩
set_option maxHeartbeats 1000000 in
theorem contR (v : Value) (rs : List Rg) (w : World) (hv : RungSl w v rs) (hn : rs.length ≤ most) :
  Calls Tryz.prog 152 #[v, .func (.func 153) #[] #[]] w fun e w' => e = .returned (.bool (decide (0 ≤ idx Rg.bad rs))) ∧ Below w.heap.size w w' := by
 have eg : ∀ args w, (callFunc 153 args).run Tryz.prog w = .ok (.enter 153 args) w := enters_of Tryz.func153 (by kernel_rfl) rfl
 have hcon := idxFR Rg.bad 153 #[] eg v rs w hv hn (check_pred w)
 obtain ⟨a1, c1, rfl, _⟩ := hv
 generalize idx Rg.bad rs = r at hcon ⊢
 generalize rs.length = n1 at *
 go_enter Tryz.func152, Tryz.ntmps152
 go_wp2_with (go_at_call 182; refine hcon.mono ?_; rintro e w' ⟨rfl, hb'⟩)
 all_goals
  go_ret
  exact ⟨by simp_all, hb'⟩
set_option maxHeartbeats 4000000 in
theorem bk_few (a1 a2 : Option Addr) (n1 n2 c1 c2 : Nat) (js : List Jb) (rs : List Rg) (w : World) (h1 : JobSl w (.slice a1 n1 c1) js) (h2 : RungSl w (.slice a2 n2 c2) rs) (hn1 : (n1 : Int) ≤ 6) (hn2 : (n2 : Int) ≤ 60) :
  Calls Tryz.prog 117 #[.agg #[.slice a1 n1 c1, .slice a2 n2 c2]] w fun e w' => e = .returned (.int .i64 (ckBook js rs)) ∧ Below w.heap.size w w' := by
 have L1 : Hid (js.length = n1) := h1.len
 have H1 : Hid (JobSl w (.slice a1 n1 c1) js) := h1
 have HC : Hid (ckBook js rs = if ckJobs (-1) js ≠ 0 then ckJobs (-1) js else ckRungs rs) := by
  have := L1.out; have := h2.len
  rw [Hid, ckBook, if_neg (by omega)]
 have hcont : Aside (∀ W, Below w.heap.size w W → Calls Tryz.prog 152 #[.slice a2 n2 c2, .func (.func 153) #[] #[]] W fun e w' => e = .returned (.bool (decide (0 ≤ idx Rg.bad rs))) ∧ Below W.heap.size W w') :=
  fun W hb => contR _ rs W (h2.later hb) (by have := h2.len; unfold most; omega)
 clear h1 h2
 go_enter Tryz.func117, Tryz.ntmps117
 go_wp2
 go_loopw [3, 19] (fun l i wr => ∃ (k : Nat) (lv : Int), k ≤ n1 ∧ i = .int .i64 k ∧ l = .int .i64 lv ∧ wr.heap[w.heap.size]? = some (boxB (.slice a1 n1 c1) (.slice a2 n2 c2)) ∧ Below w.heap.size w wr ∧ Hid (ckJobs (-1) js = ckJobs lv (js.drop k))) (fun _ i _ => n1 - (intOf i).toNat)
 case atStart => exact ⟨0, -1, Nat.zero_le _, rfl, rfl, heap_new _ _, grew (Below.refl _ _) _, rfl⟩
 case round =>
  obtain ⟨k, lv, hk, rfl, rfl, hb, hB, hst⟩ := hrel
  by_cases hlt : k < n1
  ·obtain ⟨x, hx⟩ : ∃ x, js[k]? = some x := ⟨js[k]'(by have := L1.out; omega), List.getElem?_eq_getElem _⟩
   obtain ⟨b, off, rfl, hE0⟩ := H1.out.at (by omega)
   have hE := hE0.later hB
   have c0 : wr.cell? ⟨b, off + k * 3, none⟩ = some (.int .i64 x.i) := hE k x hx 0 _ rfl
   have c1 : wr.cell? ⟨b, off + k * 3 + 1, none⟩ = some (.int .i64 x.e) := hE k x hx 1 _ rfl
   have c2 : wr.cell? ⟨b, off + k * 3 + 2, none⟩ = some (.int .i64 x.n) := hE k x hx 2 _ rfl
   have hd : Hid (ckJobs (-1) js = if x.bad = true then 3 else if x.i ≤ lv then 6 else ckJobs x.i (js.drop (k + 1))) := by
    rw [Hid, hst.out, drop_at hx, ckJobs]
   have hin := fun W => jobIn x W
   clear hE hE0 hst hx H1 hcont
   cases hbad : x.bad with
   | true =>
    have HF : Hid (ckBook js rs = 3) := by rw [Hid, HC.out, hd.out, if_pos hbad]; rfl
    rw [hbad] at hin
    clear hd hbad HC
    go_wp2_with fail
    refine (hin _).mono ?_
    rintro e w1 ⟨rfl, hb1⟩
    have hB1 := step_below' (grew hB (boxJ x)) hb1
    clear hb1 hin
    go_wp2
    go_ret
    exact ⟨by rw [HF.out]; rfl, hB1⟩
   | false =>
    rw [hbad] at hin
    by_cases hle : x.i ≤ lv
    ·have HF : Hid (ckBook js rs = 6) := by
      have hv : ckJobs (-1) js = 6 := by rw [hd.out, if_neg (by simp [hbad]), if_pos hle]
      rw [Hid, HC.out, hv]; rfl
     clear hd hbad HC
     go_wp2_with fail
     refine (hin _).mono ?_
     rintro e w1 ⟨rfl, hb1⟩
     have hB1 := step_below' (grew hB (boxJ x)) hb1
     have x1 : w1.heap[wr.heap.size]? = some (boxJ x) := heap_below (heap_new _ _) hb1 (by rw [World.size_alloc]; omega)
     have y1 := fun i => Joins.cell_of_block x1 i
     clear hb1 hin x1
     go_wp2
     go_ret
     exact ⟨by rw [HF.out]; rfl, hB1⟩
    ·have HF : Hid (ckJobs (-1) js = ckJobs x.i (js.drop (k + 1))) := by rw [Hid, hd.out, if_neg (by simp [hbad]), if_neg hle]
     have hgt : lv < x.i := by omega
     clear hd hbad hle
     go_wp2_with fail
     refine (hin _).mono ?_
     rintro e w1 ⟨rfl, hb1⟩
     have hB1 := step_below' (grew hB (boxJ x)) hb1
     have x1 : w1.heap[wr.heap.size]? = some (boxJ x) := heap_below (heap_new _ _) hb1 (by rw [World.size_alloc]; omega)
     have hbx : w1.heap[w.heap.size]? = some (boxB (.slice (some ⟨b, off, none⟩) n1 _) (.slice a2 n2 _)) := heap_below (heap_old hb _) hb1 (by rw [World.size_alloc]; have := heap_lt hb; omega)
     have y1 := fun i => Joins.cell_of_block x1 i
     clear hb1 hin x1
     go_wp2
     go_roundw
     case rel => exact ⟨k + 1, x.i, by omega, by go_num, rfl, hbx, hB1, HF.out⟩
     case measure => simp [intOf]; omega
  ·have hkn : k = n1 := by omega
   subst hkn
   have HJ : Hid (ckBook js rs = if 0 ≤ idx Rg.bad rs then 3 else 0) := by
    have : ckJobs (-1) js = 0 := by rw [hst.out, List.drop_of_length_le (by have := L1.out; omega)]; rfl
    rw [Hid, HC.out, if_neg (by simp [this]), ckRungs_idx]
   have cB := fun i => Joins.cell_of_block hb i
   have hc := hcont.out wr hB
   clear hst HC H1 hcont
   by_cases hi : 0 ≤ idx Rg.bad rs
   all_goals
    have HF := HJ.out
    first | rw [if_pos hi] at HF | rw [if_neg hi] at HF
    first | rw [decide_eq_true hi] at hc | rw [decide_eq_false hi] at hc
    replace HF : Hid _ := HF
    clear HJ hi
    go_wp2_with (go_at_call 152; refine hc.mono ?_; rintro e w' ⟨rfl, hb'⟩)
    go_ret
    exact ⟨by rw [HF.out]; rfl, step_below' hB hb'⟩
theorem bk_check (v1 v2 : Value) (js : List Jb) (rs : List Rg) (w : World) (h1 : JobSl w v1 js) (h2 : RungSl w v2 rs) :
  Calls Tryz.prog 117 #[.agg #[v1, v2]] w fun e w' => e = .returned (.int .i64 (ckBook js rs)) ∧ Below w.heap.size w w' := by
 have h1' := h1
 have h2' := h2
 obtain ⟨a1, c1, rfl, _⟩ := h1
 obtain ⟨a2, c2, rfl, _⟩ := h2
 by_cases hm : 6 < js.length ∨ 60 < rs.length
 ·rw [ckBook_many hm]
  exact bk_many a1 a2 _ _ c1 c2 w (by omega)
 ·exact bk_few a1 a2 _ _ c1 c2 js rs w h1' h2' (by omega) (by omega)
set_option maxHeartbeats 2000000 in
theorem bk_same (v1 v2 u1 u2 : Value) (js js' : List Jb) (rs rs' : List Rg) (w : World) (h1 : JobSl w v1 js) (h2 : RungSl w v2 rs) (k1 : JobSl w u1 js') (k2 : RungSl w u2 rs') (hn1 : js.length ≤ most) (hn2 : rs.length ≤ most) :
  Calls Tryz.prog 34 #[.agg #[v1, v2], .agg #[u1, u2]] w fun e w' => e = .returned (.bool (decide (js = js') && decide (rs = rs'))) ∧ Below w.heap.size w w' := by
 have H1 : Hid (JobSl w v1 js) := h1
 have H2 : Hid (RungSl w v2 rs) := h2
 have K1 : Hid (JobSl w u1 js') := k1
 have K2 : Hid (RungSl w u2 rs') := k2
 obtain ⟨a1, c1, rfl, _⟩ := h1
 obtain ⟨a2, c2, rfl, _⟩ := h2
 obtain ⟨b1, d1, rfl, _⟩ := k1
 obtain ⟨b2, d2, rfl, _⟩ := k2
 have hq1 := fun W g1 g2 => equalJ (.slice a1 js.length c1) (.slice b1 js'.length d1) js js' W g1 g2 hn1
 have hq2 := fun W g1 g2 => equalR (.slice a2 rs.length c2) (.slice b2 rs'.length d2) rs rs' W g1 g2 hn2
 clear hn1 hn2
 generalize hm1 : js.length = n1 at *
 generalize hm2 : rs.length = n2 at *
 generalize hm3 : js'.length = n3 at *
 generalize hm4 : rs'.length = n4 at *
 clear hm1 hm2 hm3 hm4
 generalize decide (js = js') = p at *
 generalize decide (rs = rs') = q at *
 go_enter Tryz.func34, Tryz.ntmps34
 go_wp2_with fail
 have hB0 := grew (grew (Below.refl w.heap.size w) (boxB (.slice a1 n1 c1) (.slice a2 n2 c2))) (boxB (.slice b1 n3 d1) (.slice b2 n4 d2))
 refine (hq1 _ (by exact H1.out.later hB0) (by exact K1.out.later hB0)).mono ?_
 rintro e w1 ⟨rfl, hb1⟩
 have x1 : w1.heap[w.heap.size]? = some (boxB (.slice a1 n1 c1) (.slice a2 n2 c2)) := by rw [hb1.block _ (by simp only [World.size_alloc]; omega)]; exact heap_old (heap_new _ _) _
 have x2 : w1.heap[w.heap.size + 1]? = some (boxB (.slice b1 n3 d1) (.slice b2 n4 d2)) := by
  rw [hb1.block _ (by simp only [World.size_alloc]; omega)]
  have := heap_new (w.alloc (boxB (.slice a1 n1 c1) (.slice a2 n2 c2))) (boxB (.slice b1 n3 d1) (.slice b2 n4 d2))
  rwa [World.size_alloc] at this
 have hB1 : Below w.heap.size w w1 := hB0.trans (hb1.mono (by simp; omega))
 clear hb1 hB0 hq1
 have y1 := fun i => Joins.cell_of_block x1 i
 have y2 := fun i => Joins.cell_of_block x2 i
 clear x1 x2
 cases p with
 | false =>
  clear hq2
  go_wp2
  go_ret
  exact ⟨rfl, hB1⟩
 | true =>
  go_wp2_with fail
  refine (hq2 _ (by exact H2.out.later hB1) (by exact K2.out.later hB1)).mono ?_
  rintro e w2 ⟨rfl, hb2⟩
  have hB2 := hB1.trans (hb2.mono hB1.size)
  clear hb2 hq2 hB1 y1 y2
  go_wp2
  go_ret
  exact ⟨by cases q <;> rfl, hB2⟩
end
end Go.Proofs.YtmoaobfmopimlafGreatDoor
