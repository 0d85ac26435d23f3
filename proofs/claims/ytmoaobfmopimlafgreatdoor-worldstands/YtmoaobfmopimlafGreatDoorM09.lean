/- For the law. -/
import Derived.Test.YtmoaobfmopimlafGreatDoorM08
set_option linter.unusedSimpArgs false
set_option linter.unusedVariables false
set_option maxHeartbeats 16000000
set_option maxRecDepth 100000
namespace Go.Proofs.YtmoaobfmopimlafGreatDoor
open Go Go.ChangeShapes Go.WideShapes Go.ChangeAt Go.RowKit
section
open Go.Shelf
theorem srt_apart : ∀ {l : Int} {js : List Jb}, Srt l js → js.Pairwise (fun y z => y.i ≠ z.i)
 | _, [], _ => List.Pairwise.nil
 | _, x :: r, h => List.Pairwise.cons (fun y hy => by have := Srt.above h.2 y hy; omega) (srt_apart h.2)
def late (t : Int) (js : List Jb) : List Jb := js.filter fun y => decide (y.n ≤ t)
theorem late_row {js ys : List Jb} {rs : List Rg} {t : Int} (hok : Ok js rs) (hr : Row ys) (hm : ∀ z, z ∈ ys ↔ z ∈ late t js) : ys = dueOf js t := by
 refine row_ext hr (dueOf_row t hok.srt) fun z => ?_
 rw [hm z, dueOf_mem, late, List.mem_filter]
 simp
end
section
open Go.Shelf
theorem isNaN_any (x : Int) (w : World) : Calls Tryz.prog 262 #[.int .i64 x] w fun e w' => e = .returned (.bool false) ∧ w' = w := by
 go_enter Tryz.func262, Tryz.ntmps262
 go_wp2
 go_ret
 exact ⟨by simp, rfl⟩
def cmp3 (x y : Int) : Int := if x < y then -1 else if y < x then 1 else 0
theorem compare_any (x y : Int) (w : World) : Calls Tryz.prog 227 #[.int .i64 x, .int .i64 y] w fun e w' => e = .returned (.int .i64 (cmp3 x y)) ∧ w' = w := by
 have h1 := isNaN_any x w
 have h2 := isNaN_any y w
 obtain ⟨r, hr⟩ : ∃ r, Hid (cmp3 x y = r) := ⟨_, rfl⟩
 rw [hr.out]
 by_cases hlt : x < y
 · have HR : Hid (r = -1) := by rw [Hid, ← hr.out, cmp3, if_pos hlt]
  go_enter Tryz.func227, Tryz.ntmps227
  go_wp2_with fail
  refine h1.mono ?_
  rintro e w1 ⟨rfl, rfl⟩
  go_wp2_with fail
  refine h2.mono ?_
  rintro e w2 ⟨rfl, rfl⟩
  go_wp2
  go_ret
  exact ⟨by rw [HR.out]; rfl, rfl⟩
 · by_cases hgt : y < x
  · have HR : Hid (r = 1) := by rw [Hid, ← hr.out, cmp3, if_neg hlt, if_pos hgt]
   go_enter Tryz.func227, Tryz.ntmps227
   go_wp2_with fail
   refine h1.mono ?_
   rintro e w1 ⟨rfl, rfl⟩
   go_wp2_with fail
   refine h2.mono ?_
   rintro e w2 ⟨rfl, rfl⟩
   go_wp2
   go_ret
   exact ⟨by rw [HR.out]; rfl, rfl⟩
  · have HR : Hid (r = 0) := by rw [Hid, ← hr.out, cmp3, if_neg hlt, if_neg hgt]
   go_enter Tryz.func227, Tryz.ntmps227
   go_wp2_with fail
   refine h1.mono ?_
   rintro e w1 ⟨rfl, rfl⟩
   go_wp2_with fail
   refine h2.mono ?_
   rintro e w2 ⟨rfl, rfl⟩
   go_wp2
   go_ret
   exact ⟨by rw [HR.out]; rfl, rfl⟩
theorem or_any (x y : Int) (b c : Nat) (w : World) (c0 : w.cell? ⟨b, 0, none⟩ = some (.int .i64 x)) (c1 : w.cell? ⟨b, 1, none⟩ = some (.int .i64 y)) :
  Calls Tryz.prog 226 #[.slice (some ⟨b, 0, none⟩) 2 c] w fun e w' => e = .returned (.int .i64 (if x = 0 then y else x)) ∧ w' = w := by
 obtain ⟨r, hr⟩ : ∃ r, Hid ((if x = 0 then y else x) = r) := ⟨_, rfl⟩
 rw [hr.out]
 by_cases hx : x = 0
 · have HR : Hid (r = y) := by rw [Hid, ← hr.out, if_pos hx]
  subst hx
  by_cases hy : y = 0
  · subst hy
   go_enter Tryz.func226, Tryz.ntmps226
   go_wp2_with fail
   refine wp_loop_rounds 3 ?_
   rw [rounds_succ]
   go_wp2
   rw [rounds_succ]
   go_wp2
   rw [rounds_succ]
   go_wp2
   go_ret
   exact ⟨by rw [HR.out]; rfl, rfl⟩
  · have hyb : (y == 0) = false := by rw [beq_eq_false_iff_ne]; exact hy
   go_enter Tryz.func226, Tryz.ntmps226
   go_wp2_with fail
   refine wp_loop_rounds 3 ?_
   rw [rounds_succ]
   go_wp2
   rw [rounds_succ]
   go_wp2
   go_ret
   exact ⟨by rw [HR.out]; rfl, rfl⟩
 · have HR : Hid (r = x) := by rw [Hid, ← hr.out, if_neg hx]
  have hxb : (x == 0) = false := by rw [beq_eq_false_iff_ne]; exact hx
  go_enter Tryz.func226, Tryz.ntmps226
  go_wp2_with fail
  refine wp_loop_rounds 3 ?_
  rw [rounds_succ]
  go_wp2
  go_ret
  exact ⟨by rw [HR.out]; rfl, rfl⟩
def turn (x y : Jb) : Int := if cmp3 x.n y.n = 0 then cmp3 x.i y.i else cmp3 x.n y.n
theorem turn_neg (x y : Jb) : turn x y < 0 ↔ x.ahead y := by
 unfold turn cmp3 Jb.ahead
 repeat' split <;> omega
end
section
open Go.Shelf
theorem compare_b (x y : Int) (w : World) : Calls Tryz.prog 227 #[.int .i64 x, .int .i64 y] w fun e w' => e = .returned (.int .i64 (cmp3 x y)) ∧ Below w.heap.size w w' :=
 (compare_any x y w).mono fun _ _ ⟨h1, h2⟩ => ⟨h1, by rw [h2]; exact Below.refl _ _⟩
abbrev Pair (W w : World) (b c : Nat) (x y : Jb) : Prop :=
 Below W.heap.size W w ∧ w.cell? ⟨b, 0, none⟩ = some (.int .i64 x.i) ∧ w.cell? ⟨b, 2, none⟩ = some (.int .i64 x.n) ∧ w.cell? ⟨c, 0, none⟩ = some (.int .i64 y.i) ∧ w.cell? ⟨c, 2, none⟩ = some (.int .i64 y.n)
theorem pair_step {W w w' : World} {b c : Nat} {x y : Jb} (h : Pair W w b c x y) (hb : Below w.heap.size w w') : Pair W w' b c x y :=
 ⟨h.1.trans (hb.mono h.1.size), cell_later hb h.2.1, cell_later hb h.2.2.1, cell_later hb h.2.2.2.1, cell_later hb h.2.2.2.2⟩
theorem or_new (x y : Int) (w : World) (T : TypeId) : Calls Tryz.prog 226 #[.slice (some ⟨w.heap.size, 0, none⟩) 2 2] (w.alloc (.cells #[.int .i64 x, .int .i64 y] T)) fun e w' => e = .returned (.int .i64 (if x = 0 then y else x)) ∧ Below (w.alloc (.cells #[.int .i64 x, .int .i64 y] T)).heap.size (w.alloc (.cells #[.int .i64 x, .int .i64 y] T)) w' :=
 (or_any x y w.heap.size 2 _ (Joins.cell_of_block (heap_new _ _) 0) (Joins.cell_of_block (heap_new _ _) 1)).mono fun _ _ ⟨h1, h2⟩ => ⟨h1, by rw [h2]; exact Below.refl _ _⟩
theorem inTurn_any (x y : Jb) (w : World) :
  Calls Tryz.prog 204 #[x.val, y.val] w fun e w' => e = .returned (.int .i64 (turn x y)) ∧ Below w.heap.size w w' := by
 have hS0 : Pair ((w.alloc (boxJ x)).alloc (boxJ y)) ((w.alloc (boxJ x)).alloc (boxJ y)) w.heap.size (w.heap.size + 1) x y := by
  have h1 : ((w.alloc (boxJ x)).alloc (boxJ y)).heap[w.heap.size]? = some (boxJ x) := heap_old (heap_new _ _) _
  have h2 : ((w.alloc (boxJ x)).alloc (boxJ y)).heap[w.heap.size + 1]? = some (boxJ y) := by
   have := heap_new (w.alloc (boxJ x)) (boxJ y)
   rwa [World.size_alloc] at this
  exact ⟨Below.refl _ _, Joins.cell_of_block h1 0, Joins.cell_of_block h1 2, Joins.cell_of_block h2 0, Joins.cell_of_block h2 2⟩
 have HB : Hid (Below w.heap.size w ((w.alloc (boxJ x)).alloc (boxJ y))) := grew (grew (Below.refl _ _) _) _
 have hor : ∀ (W : World) (T : TypeId), _ := fun W T => or_new (cmp3 x.n y.n) (cmp3 x.i y.i) W T
 have hc1 := fun W => compare_b x.n y.n W
 have hc2 := fun W => compare_b x.i y.i W
 change ∀ (W : World) (T : TypeId), Calls _ _ _ _ fun e w' => e = .returned (.int .i64 (turn x y)) ∧ _ at hor
 generalize turn x y = r at *
 generalize cmp3 x.n y.n = r1 at *
 generalize cmp3 x.i y.i = r2 at *
 go_enter Tryz.func204, Tryz.ntmps204
 go_wp2_with fail
 generalize (w.alloc (boxJ x)).alloc (boxJ y) = W0 at *
 have hbd : Below W0.heap.size W0 W0.drew := (Below.refl _ _).drew
 go_region_held3 (fun w' => Pair W0 w' w.heap.size (w.heap.size + 1) x y) (first | exact pair_step (by assumption) (by assumption) | exact pair_step (by assumption) (grew (Below.refl _ _) _)) (first | (go_at_call 227; with_reducible refine (hc1 _).mono ?_; rintro e w' ⟨rfl, hb'⟩) | (go_at_call 227; with_reducible refine (hc2 _).mono ?_; rintro e w' ⟨rfl, hb'⟩) | (go_at_call 226; refine (hor _ _).mono ?_; rintro e w' ⟨rfl, hb'⟩))
 all_goals
  rename_i hS
  have HB2 : Hid (Below w.heap.size w _) := HB.out.trans (hS.1.mono HB.out.size)
  clear hS hor hc1 hc2 hS0 hbd HB
  go_wp2
  go_ret
  exact ⟨rfl, HB2.out⟩
end
section
open Go.Shelf
theorem ret_two {fn : Func} {R : Ending → World → Prop} {a : Act} {W : World} {p q : Nat} {x y : Value} (hf : fn.results = #[.tmp p, .tmp q]) (hd : a.defers = [])
  (h1 : a.tmps.getD p undef = x) (h2 : a.tmps.getD q undef = y) (hp : R (.returned (.tuple #[x, y])) W) : bodyPost Tryz.prog fn R .ret a W := by
 have h1' : a.tmps[p]?.getD undef = x := by simpa using h1
 have h2' : a.tmps[q]?.getD undef = y := by simpa using h2
 refine bodyPost_ret (v := .tuple #[x, y]) ?_ hd hp
 simp [results, hf, h1', h2', go_sem]
theorem due_check (a1 a2 : Option Addr) (n1 n2 c1 c2 : Nat) (js : List Jb) (rs : List Rg) (t : Int) (w : World) (h1 : JobSl w (.slice a1 n1 c1) js) (h2 : RungSl w (.slice a2 n2 c2) rs) :
  Calls Tryz.prog 200 #[.agg #[.slice a1 n1 c1, .slice a2 n2 c2], .int .i64 t] w fun e w' => e = .returned (.int .i64 (dueErr js rs t)) ∧ Below w.heap.size w w' := by
 have hB0 := grew (Below.refl w.heap.size w) (boxB (.slice a1 n1 c1) (.slice a2 n2 c2))
 have hck := bk_check (.slice a1 n1 c1) (.slice a2 n2 c2) js rs _ (h1.later hB0) (h2.later hB0)
 have HD : Hid (dueErr js rs t = if ckBook js rs ≠ 0 then ckBook js rs else if t < 0 ∨ 100000 < t then 3 else 0) := rfl
 have HB0 : Aside _ := hB0
 generalize dueErr js rs t = d at *
 generalize ckBook js rs = n at *
 clear h1 h2 hB0
 by_cases hn : n = 0
 · subst hn
  by_cases h0 : t < 0
  · have HR : Hid (d = 3) := by rw [Hid, HD.out, if_neg (by simp), if_pos (Or.inl h0)]
   go_enter Tryz.func200, Tryz.ntmps200
   go_wp2_with fail
   refine hck.mono ?_
   rintro e w1 ⟨rfl, hb1⟩
   have HB1 : Aside _ := HB0.out.trans (hb1.mono HB0.out.size)
   clear hck HB0 hb1
   go_wp2
   go_ret
   exact ⟨by rw [HR.out]; rfl, HB1.out⟩
  · by_cases h3 : 100000 < t
   · have HR : Hid (d = 3) := by rw [Hid, HD.out, if_neg (by simp), if_pos (Or.inr h3)]
    go_enter Tryz.func200, Tryz.ntmps200
    go_wp2_with fail
    refine hck.mono ?_
    rintro e w1 ⟨rfl, hb1⟩
    have HB1 : Aside _ := HB0.out.trans (hb1.mono HB0.out.size)
    clear hck HB0 hb1
    go_wp2
    go_ret
    exact ⟨by rw [HR.out]; rfl, HB1.out⟩
   · have HR : Hid (d = 0) := by rw [Hid, HD.out, if_neg (by simp), if_neg (by omega)]
    go_enter Tryz.func200, Tryz.ntmps200
    go_wp2_with fail
    refine hck.mono ?_
    rintro e w1 ⟨rfl, hb1⟩
    have HB1 : Aside _ := HB0.out.trans (hb1.mono HB0.out.size)
    clear hck HB0 hb1
    go_wp2
    go_ret
    exact ⟨by rw [HR.out]; rfl, HB1.out⟩
 · have HR : Hid (d = n) := by rw [Hid, HD.out, if_pos hn]
  have hnb : (n != 0) = true := by rw [bne_iff_ne]; exact hn
  go_enter Tryz.func200, Tryz.ntmps200
  go_wp2_with fail
  refine hck.mono ?_
  rintro e w1 ⟨rfl, hb1⟩
  have HB1 : Aside _ := HB0.out.trans (hb1.mono HB0.out.size)
  clear hck HB0 hb1
  go_wp2
  go_ret
  exact ⟨by rw [HR.out]; rfl, HB1.out⟩
theorem dueErr_zero {js : List Jb} {rs : List Rg} {t : Int} (h : dueErr js rs t = 0) : ckBook js rs = 0 ∧ 0 ≤ t ∧ t ≤ 100000 := by
 unfold dueErr at h
 split at h
 · exact absurd h (by assumption)
 · rename_i h1
  split at h
  · cases h
  · exact ⟨by simpa using h1, by omega, by omega⟩
end
section
open Go.Shelf
theorem due_pred (t : Int) (eb : Nat) (W : World) (y : Jb) (h : W.heap[eb]? = some (.cells #[.int .i64 t] 3)) :
  Calls Tryz.prog 202 (#[y.val] ++ #[.pointer (some ⟨eb, 0, none⟩)]) W fun e w' => e = .returned (.bool (decide (t < y.n))) ∧ Below W.heap.size W w' := by
 have hlt := heap_lt h
 have hne : eb ≠ W.heap.size := by omega
 have c0 : W.cell? ⟨eb, 0, none⟩ = some (.int .i64 t) := Joins.cell_of_block h 0
 show Calls Tryz.prog 202 #[y.val, .pointer (some ⟨eb, 0, none⟩)] W _
 go_enter Tryz.func202, Tryz.ntmps202
 go_wp2
 all_goals (go_ret; exact ⟨by simp_all, grew (Below.refl _ _) _⟩)
theorem due_bad (a1 a2 : Option Addr) (n1 n2 c1 c2 : Nat) (js : List Jb) (rs : List Rg) (t : Int) (w : World) (h1 : JobSl w (.slice a1 n1 c1) js) (h2 : RungSl w (.slice a2 n2 c2) rs) (hbad : dueErr js rs t ≠ 0) :
  Calls Tryz.prog 174 #[.agg #[.slice a1 n1 c1, .slice a2 n2 c2], .int .i64 t] w fun e w' => e = .returned (.tuple #[nil0, .int .i64 (dueErr js rs t)]) ∧ Below w.heap.size w w' := by
 have hB0 := grew (grew (Below.refl w.heap.size w) (boxB (.slice a1 n1 c1) (.slice a2 n2 c2))) (.cells #[.int .i64 t] 3)
 have hck := due_check a1 a2 n1 n2 c1 c2 js rs t _ (h1.later hB0) (h2.later hB0)
 have hb : (dueErr js rs t != 0) = true := by rw [bne_iff_ne]; exact hbad
 have HB0 : Aside _ := hB0
 generalize dueErr js rs t = d at *
 clear h1 h2 hB0 hbad
 go_enter Tryz.func174, Tryz.ntmps174
 go_wp2_with fail
 refine hck.mono ?_
 rintro e w1 ⟨rfl, hb1⟩
 have HB1 : Aside _ := HB0.out.trans (hb1.mono HB0.out.size)
 clear hck HB0 hb1
 go_wp2
 refine ret_two (p := 4) (q := 5) rfl rfl rfl rfl ⟨rfl, HB1.out⟩
theorem late_filter (t : Int) (js : List Jb) : js.filter (fun x => !decide (t < x.n)) = late t js := by
 unfold late
 refine List.filter_congr fun x _ => ?_
 by_cases h : t < x.n
 · simp [h]
 · simp [h]; omega
theorem due_ok (a1 a2 : Option Addr) (n1 n2 c1 c2 : Nat) (js : List Jb) (rs : List Rg) (t : Int) (w : World) (h1 : JobSl w (.slice a1 n1 c1) js) (h2 : RungSl w (.slice a2 n2 c2) rs) (hz : dueErr js rs t = 0) :
  Calls Tryz.prog 174 #[.agg #[.slice a1 n1 c1, .slice a2 n2 c2], .int .i64 t] w fun e w' => ∃ u, e = .returned (.tuple #[u, .int .i64 0]) ∧ JobSl w' u (dueOf js t) ∧ Below w.heap.size w w' ∧ Roomy u := by
 obtain ⟨i0, hi, hz0, hz1, hz2⟩ := info_parts infoJ
 have hB0 := grew (grew (Below.refl w.heap.size w) (boxB (.slice a1 n1 c1) (.slice a2 n2 c2))) (.cells #[.int .i64 t] 3)
 have hck := due_check a1 a2 n1 n2 c1 c2 js rs t _ (h1.later hB0) (h2.later hB0)
 rw [hz] at hck
 have hok := ckBook_zero.1 (dueErr_zero hz).1
 have HO : Hid (Ok js rs) := hok
 have hn : n1 ≤ 6 := by have := hok.few; rwa [h1.len] at this
 have L1 : Hid (js.length = n1) := h1.len
 have H1 : Hid (JobSl w (.slice a1 n1 c1) js) := h1
 obtain ⟨cs, hcs⟩ : ∃ cs, Hid (js.flatMap Jb.cells = cs) := ⟨_, rfl⟩
 have hone : ∀ u ∈ cs, u.oneCell' = true := by rw [← hcs.out]; exact oneJ js
 have hlen : cs.length = n1 * 3 := by rw [← hcs.out, row_len Jb.three js, L1.out]
 have HW : Aside (((w.alloc (boxB (.slice a1 n1 c1) (.slice a2 n2 c2))).alloc (.cells #[.int .i64 t] 3)).heap[w.heap.size]? = some (boxB (.slice a1 n1 c1) (.slice a2 n2 c2))) := heap_old (heap_new _ _) _
 have HT : Aside (((w.alloc (boxB (.slice a1 n1 c1) (.slice a2 n2 c2))).alloc (.cells #[.int .i64 t] 3)).heap[w.heap.size + 1]? = some (.cells #[.int .i64 t] 3)) := by
  have := heap_new (w.alloc (boxB (.slice a1 n1 c1) (.slice a2 n2 c2))) (.cells #[.int .i64 t] 3)
  rwa [World.size_alloc] at this
 have HB0 : Aside _ := hB0
 clear h1 h2 hB0 hz hok
 go_enter Tryz.func174, Tryz.ntmps174
 go_wp2_with fail
 refine hck.mono ?_
 rintro e w1 ⟨rfl, hb1⟩
 have HB1 : Aside (Below w.heap.size w w1) := HB0.out.trans (hb1.mono HB0.out.size)
 have hw1 : w1.heap[w.heap.size]? = some (boxB (.slice a1 n1 c1) (.slice a2 n2 c2)) := heap_below HW.out hb1 (heap_lt HW.out)
 have ht1 : w1.heap[w.heap.size + 1]? = some (.cells #[.int .i64 t] 3) := heap_below HT.out hb1 (heap_lt HT.out)
 have z1 := fun i => Joins.cell_of_block hw1 i
 have HW1 : Aside (w1.heap[w.heap.size]? = some (boxB (.slice a1 n1 c1) (.slice a2 n2 c2))) := hw1
 have HT1 : Aside (w1.heap[w.heap.size + 1]? = some (.cells #[.int .i64 t] 3)) := ht1
 clear hck HB0 hb1 HW hw1 HT ht1
 go_wp2_with (at_make; refine wpList_make_full _ rfl _ _ 36 rfl w1.heap.size 120 i0 (valJ 0 0 0) 3 Tryz.underlying36 hi hz0 hz1 _ _ _ _ n1 rfl rfl rfl rfl (by rw [hz2]; omega) (by unfold maxLen; omega) (Nat.le_refl _) ?_)
 intro w2 hown hgrow
 obtain ⟨hl0, ho⟩ := hown
 rcases ho with ⟨h, _⟩ | ⟨g, cap, cur, hv', _, hg, _, _, hsz, htake⟩
 · cases h
 injection hv' with ha _ hc
 injection ha with ha
 injection ha with ha _ _
 subst ha hc
 have hb2 : Below w1.heap.size w1 w2 := ⟨hgrow.os, hgrow.tape, hgrow.output, hgrow.size, fun k hk => hgrow.block k hk (fun h => by cases h)⟩
 have HB2 : Aside (Below w.heap.size w w2) := HB1.out.trans (hb2.mono HB1.out.size)
 have hcur : cur.toList.length = n1 * 3 := by simpa using hsz
 have hg' : w2.heap[w1.heap.size]? = some (.cells cur.toList.toArray 120 (0, 0)) := by simpa using hg
 have hw2 : w2.heap[w.heap.size]? = some (boxB (.slice a1 n1 c1) (.slice a2 n2 c2)) := heap_below HW1.out hb2 (heap_lt HW1.out)
 have z2 := fun i => Joins.cell_of_block hw2 i
 have HT2 : Aside _ := heap_below HT1.out hb2 (heap_lt HT1.out)
 have hne1 : w.heap.size + 1 < w1.heap.size := heap_lt HT1.out
 clear hi hz0 hz1 hz2 hl0 htake hgrow hg hsz z1 HW1 hw2
 have hpos : 0 < Nat.min n1 n1 → (some ⟨w1.heap.size, 0, none⟩ : Option Addr) = some ⟨w1.heap.size, 0, none⟩ ∧ ∃ ad, a1 = some ad ∧ ∀ j v, cs[j]? = some v → w2.cell? (ad.add j) = some v := fun h0 => by
  have h0' : 0 < n1 := by
   have : 0 < min n1 n1 := h0
   omega
  obtain ⟨b, off, rfl, hE⟩ := H1.out.at h0'
  refine ⟨rfl, _, rfl, fun j u hj => ?_⟩
  rw [Lib.add_plain]
  rw [← hcs.out] at hj
  exact rows_flat Jb.three js off (hE.later HB2.out) j u hj
 have hmin : cs.length = Nat.min n1 n1 * 3 := by rw [hlen]; show _ = min n1 n1 * 3; rw [Nat.min_self]
 have hfit : 0 + cs.length ≤ cur.toList.length := by rw [hcur, hlen]; omega
 have hall := splice_all (hcur.trans hlen.symm)
 obtain ⟨cl, hcl⟩ : ∃ cl, Hid (cur.toList = cl) := ⟨_, rfl⟩
 rw [hcl.out] at hg' hfit hall
 clear hcur hcl
 go_wp2_with ((with_reducible show wpList _ _ _ (Oper.mk (some 21) _ _ _ _ _ :: _) _ _); refine wpList_copyK rfl _ _ 36 36 rfl 120 3 Tryz.underlying36 sizeJ (some ⟨w1.heap.size, 0, none⟩) a1 n1 n1 n1 c1 rfl rfl w1.heap.size 0 cl 120 hg' cs hmin hpos hfit hone w1.heap.size w1 hb2 (Nat.le_refl _) ?_)
 intro w3 hg3 hB3
 have HG3 : w3.heap[w1.heap.size]? = some (.cells (js.flatMap Jb.cells).toArray 120) := by rw [hcs.out]; exact hg3.out
 have HT3 : w3.heap[w.heap.size + 1]? = some (.cells #[.int .i64 t] 3) := heap_below HT1.out hB3 (by omega)
 have HB3 : Aside (Below w.heap.size w w3) := HB1.out.trans (hB3.mono HB1.out.size)
 have eg : ∀ args w, (callFunc 202 args).run Tryz.prog w = .ok (.enter 202 args) w := enters_of Tryz.func202 (by kernel_rfl) rfl
 have hdel := delG (fun y => decide (t < y.n)) 202 #[.pointer (some ⟨w.heap.size + 1, 0, none⟩)] eg (w.heap.size + 1) _ w1.heap.size n1 js w3 (by omega) HT3 HG3 (by rw [L1.out]; omega) (by rw [L1.out]; exact Nat.le_refl _) (fun W y hW => due_pred t (w.heap.size + 1) W y hW)
 rw [late_filter, L1.out] at hdel
 have hlm : (late t js).length ≤ n1 := by rw [← L1.out]; exact List.length_filter_le _ _
 obtain ⟨m, hml⟩ : ∃ m, Hid ((late t js).length = m) := ⟨_, rfl⟩
 rw [hml.out] at hdel hlm
 have hsz1 := HB1.out.size
 clear hg3 HG3 HT3 hB3 eg HT1 HT2 z2 hb2 HB2 hcs hone hlen hmin hall hfit hg' hpos HB1 H1
 go_wp2_with fail
 refine hdel.mono ?_
 rintro e w4 ⟨rfl, ⟨tl, hg4⟩, hk4⟩
 have eg2 : ∀ args w, (callFunc 204 args).run Tryz.prog w = .ok (.enter 204 args) w := enters_of Tryz.func204 (by kernel_rfl) rfl
 have his := isort 204 #[] eg2 w1.heap.size n1 m (late t js) tl w4 hml.out (by omega) ((srt_apart HO.out.srt).filter _) hg4 (fun W x y _ _ => (inTurn_any x y W).mono fun _ _ ⟨h1, h2⟩ => ⟨turn x y, h1, turn_neg x y, h2⟩)
 have hs := sortF 204 #[] (.slice (some ⟨w1.heap.size, 0, none⟩) m n1) m w4 _ ⟨_, _, rfl⟩ (by omega) his
 have HK4 : Aside (Kept [w1.heap.size] w3 w4) := hk4
 clear hdel hg4 hk4 eg2 his
 go_wp2_with fail
 refine hs.mono ?_
 rintro e w5 ⟨rfl, ys, hr, hmem, hyl, hg5, hk5⟩
 have hyd := late_row HO.out hr hmem
 have J5 : Aside (JobSl w5 (.slice (some ⟨w1.heap.size, 0, none⟩) m n1) (dueOf js t)) := by
  rw [← hyd, ← hyl]
  exact slOf_block Jb.three hg5 ⟨_, rfl⟩
 have hs3 := HB3.out.size
 have B5 : Aside (Below w.heap.size w w5) := (HB3.out.trans (HK4.out.to hs3 (fun k hk => by simp at hk; omega))).trans (hk5.to (by have := HK4.out.size; omega) (fun k hk => by simp at hk; omega))
 clear hr hmem hyl hg5 hk5 hyd hs HK4 HB3
 go_wp2
 refine ret_two (p := 4) (q := 5) rfl rfl rfl rfl ⟨_, rfl, J5.out, B5.out, ⟨_, _, _, rfl, hlm⟩⟩
end
section
open Go.Shelf
theorem due_any (v1 v2 : Value) (js : List Jb) (rs : List Rg) (t : Int) (w : World) (h1 : JobSl w v1 js) (h2 : RungSl w v2 rs) :
  Calls Tryz.prog 174 #[.agg #[v1, v2], .int .i64 t] w fun e w' => ∃ u, e = .returned (.tuple #[u, .int .i64 (dueErr js rs t)]) ∧ JobSl w' u (if dueErr js rs t = 0 then dueOf js t else []) ∧ Below w.heap.size w w' ∧ Roomy u := by
 obtain ⟨a1, c1, a2, c2, rfl, rfl⟩ := bk_slices h1 h2
 by_cases hz : dueErr js rs t = 0
 · rw [if_pos hz, hz]
  exact due_ok a1 a2 _ _ c1 c2 js rs t w h1 h2 hz
 · rw [if_neg hz]
  exact (due_bad a1 a2 _ _ c1 c2 js rs t w h1 h2 hz).mono fun _ _ ⟨he, hb⟩ => ⟨_, he, SlOf.nil _ _, hb, ⟨_, _, _, rfl, Nat.le_refl _⟩⟩
end
theorem zg_ck (c : Cl) (a1 a2 : Option Addr) (m1 k1 m2 k2 : Nat) (me j t : Int) (w : World) (hb : BkAt w (.slice a1 m1 k1) (.slice a2 m2 k2) c) (d : Int) (hck : restErr c = d) (hz : (d != 0) = true) :
  AnsX 138 #[c.val (.slice a1 m1 k1) (.slice a2 m2 k2), .int .i64 me, .int .i64 j, .int .i64 t] w (Cl.zero, d) nil0 nil0 := by
 have HB0 : Aside (Below w.heap.size w (((w.alloc (boxC c (.slice a1 m1 k1) (.slice a2 m2 k2))).alloc (.cells #[.int .i64 j] 3)).alloc (boxC Cl.zero nil0 nil0))) := grew (grew (grew (Below.refl _ _) _) _) _
 have HX0 : Aside ((((w.alloc (boxC c (.slice a1 m1 k1) (.slice a2 m2 k2))).alloc (.cells #[.int .i64 j] 3)).alloc (boxC Cl.zero nil0 nil0)).heap[w.heap.size]? = some (boxC c (.slice a1 m1 k1) (.slice a2 m2 k2))) := heap_old (heap_old (heap_new _ _) _) _
 have HJ0 : Aside ((((w.alloc (boxC c (.slice a1 m1 k1) (.slice a2 m2 k2))).alloc (.cells #[.int .i64 j] 3)).alloc (boxC Cl.zero nil0 nil0)).heap[w.heap.size + 1]? = some (.cells #[.int .i64 j] 3)) := by
  have := heap_new (w.alloc (boxC c (.slice a1 m1 k1) (.slice a2 m2 k2))) (.cells #[.int .i64 j] 3)
  rw [World.size_alloc] at this
  exact heap_old (this) _
 have HR0 : Aside ((((w.alloc (boxC c (.slice a1 m1 k1) (.slice a2 m2 k2))).alloc (.cells #[.int .i64 j] 3)).alloc (boxC Cl.zero nil0 nil0)).heap[w.heap.size + 1 + 1]? = some (boxC Cl.zero nil0 nil0)) := by
  have := heap_new ((w.alloc (boxC c (.slice a1 m1 k1) (.slice a2 m2 k2))).alloc (.cells #[.int .i64 j] 3)) (boxC Cl.zero nil0 nil0)
  rw [World.size_alloc, World.size_alloc] at this
  exact this
 have kc := cl_rest c (.slice a1 m1 k1) (.slice a2 m2 k2) _ (bkAt_later hb HB0.out)
 rw [hck] at kc
 have HK : Aside (BkAt w (.slice a1 m1 k1) (.slice a2 m2 k2) c) := hb
 clear hb hck
 go_enter Tryz.func138, Tryz.ntmps138
 go_wp2_with fail
 refine kc.mono ?_
 rintro r w1 ⟨rfl, hb1⟩
 have HX1 : Aside _ := heap_below HX0.out hb1 (heap_lt HX0.out)
 have HJ1 : Aside _ := heap_below HJ0.out hb1 (heap_lt HJ0.out)
 have HR1 : Aside _ := heap_below HR0.out hb1 (heap_lt HR0.out)
 have HB1 : Aside _ := step_below HB0.out hb1
 clear hb1 HB0 HX0 HJ0 HR0
 clear kc
 have zr := fun i => Joins.cell_of_block HR1.out i
 have fzr := fun i => Joins.unfrozen_of_block HR1.out i
 go_wp2
 refine ret_st (p := 8) (q := 9) w1 (w.heap.size + 1 + 1) (Cl.zero) nil0 nil0 (o := Cl.zero) (u1 := nil0) (u2 := nil0) Tryz.results138 rfl rfl rfl HR1.out rfl ?_
 exact ⟨rfl, st12_below HB1.out (by omega) _ _ _⟩
theorem zg_due (c : Cl) (a1 a2 : Option Addr) (m1 k1 m2 k2 : Nat) (me j t : Int) (w : World) (hb : BkAt w (.slice a1 m1 k1) (.slice a2 m2 k2) c) (hck : restErr c = 0) (q : Int) (hd : dueErr c.js c.rs t = q) (hz : (q != 0) = true) :
  AnsX 138 #[c.val (.slice a1 m1 k1) (.slice a2 m2 k2), .int .i64 me, .int .i64 j, .int .i64 t] w (Cl.zero, q) nil0 nil0 := by
 have HB0 : Aside (Below w.heap.size w (((w.alloc (boxC c (.slice a1 m1 k1) (.slice a2 m2 k2))).alloc (.cells #[.int .i64 j] 3)).alloc (boxC Cl.zero nil0 nil0))) := grew (grew (grew (Below.refl _ _) _) _) _
 have HX0 : Aside ((((w.alloc (boxC c (.slice a1 m1 k1) (.slice a2 m2 k2))).alloc (.cells #[.int .i64 j] 3)).alloc (boxC Cl.zero nil0 nil0)).heap[w.heap.size]? = some (boxC c (.slice a1 m1 k1) (.slice a2 m2 k2))) := heap_old (heap_old (heap_new _ _) _) _
 have HJ0 : Aside ((((w.alloc (boxC c (.slice a1 m1 k1) (.slice a2 m2 k2))).alloc (.cells #[.int .i64 j] 3)).alloc (boxC Cl.zero nil0 nil0)).heap[w.heap.size + 1]? = some (.cells #[.int .i64 j] 3)) := by
  have := heap_new (w.alloc (boxC c (.slice a1 m1 k1) (.slice a2 m2 k2))) (.cells #[.int .i64 j] 3)
  rw [World.size_alloc] at this
  exact heap_old (this) _
 have HR0 : Aside ((((w.alloc (boxC c (.slice a1 m1 k1) (.slice a2 m2 k2))).alloc (.cells #[.int .i64 j] 3)).alloc (boxC Cl.zero nil0 nil0)).heap[w.heap.size + 1 + 1]? = some (boxC Cl.zero nil0 nil0)) := by
  have := heap_new ((w.alloc (boxC c (.slice a1 m1 k1) (.slice a2 m2 k2))).alloc (.cells #[.int .i64 j] 3)) (boxC Cl.zero nil0 nil0)
  rw [World.size_alloc, World.size_alloc] at this
  exact this
 have kc := cl_rest c (.slice a1 m1 k1) (.slice a2 m2 k2) _ (bkAt_later hb HB0.out)
 have kd : ∀ W, Below w.heap.size w W → Calls Tryz.prog 174 #[.agg #[(.slice a1 m1 k1), (.slice a2 m2 k2)], .int .i64 t] W fun e w' => ∃ ua n uc, e = .returned (.tuple #[.slice ua n uc, .int .i64 q]) ∧ Aside (JobSl w' (.slice ua n uc) (if q = 0 then dueOf c.js t else [])) ∧ Below W.heap.size W w' := fun W hB =>
  (due_any (.slice a1 m1 k1) (.slice a2 m2 k2) c.js c.rs t W (hb.1.later hB) (hb.2.later hB)).mono fun e w' ⟨u, g1, g2, g3, _⟩ => by
   rw [hd] at g1 g2
   obtain ⟨ua, uc, rfl⟩ : ∃ ua uc, u = .slice ua (if q = 0 then dueOf c.js t else []).length uc := by
    obtain ⟨ua, uc, e, _⟩ := g2
    exact ⟨ua, uc, e⟩
   exact ⟨ua, _, uc, g1, g2, g3⟩
 clear hd
 rw [hck] at kc
 have HK : Aside (BkAt w (.slice a1 m1 k1) (.slice a2 m2 k2) c) := hb
 clear hb hck
 go_enter Tryz.func138, Tryz.ntmps138
 go_wp2_with fail
 refine kc.mono ?_
 rintro r w1 ⟨rfl, hb1⟩
 have HX1 : Aside _ := heap_below HX0.out hb1 (heap_lt HX0.out)
 have HJ1 : Aside _ := heap_below HJ0.out hb1 (heap_lt HJ0.out)
 have HR1 : Aside _ := heap_below HR0.out hb1 (heap_lt HR0.out)
 have HB1 : Aside _ := step_below HB0.out hb1
 clear hb1 HB0 HX0 HJ0 HR0
 clear kc
 have z := fun i => Joins.cell_of_block HX1.out i
 go_wp2_with fail
 refine (kd w1 HB1.out).mono ?_
 rintro r w2 ⟨ua, n, uc, rfl, JL2, hb2⟩
 have HX2 : Aside _ := heap_below HX1.out hb2 (heap_lt HX1.out)
 have HJ2 : Aside _ := heap_below HJ1.out hb2 (heap_lt HJ1.out)
 have HR2 : Aside _ := heap_below HR1.out hb2 (heap_lt HR1.out)
 have HB2 : Aside _ := step_below HB1.out hb2
 clear hb2 kd HB1 z HX1 HJ1 HR1
 have zr := fun i => Joins.cell_of_block HR2.out i
 have fzr := fun i => Joins.unfrozen_of_block HR2.out i
 go_wp2
 refine ret_st (p := 8) (q := 9) w2 (w.heap.size + 1 + 1) (Cl.zero) nil0 nil0 (o := Cl.zero) (u1 := nil0) (u2 := nil0) Tryz.results138 rfl rfl rfl HR2.out rfl ?_
 exact ⟨rfl, st12_below HB2.out (by omega) _ _ _⟩
theorem zg_who (c : Cl) (a1 a2 : Option Addr) (m1 k1 m2 k2 : Nat) (me j t : Int) (w : World) (hb : BkAt w (.slice a1 m1 k1) (.slice a2 m2 k2) c) (hck : restErr c = 0) (q : Int) (hd : dueErr c.js c.rs t = q) (hq : q = 0) (hm : (dueOf c.js t).length ≤ most) (hi : idx (fun y => y.i == j) (dueOf c.js t) = -1) :
  AnsX 138 #[c.val (.slice a1 m1 k1) (.slice a2 m2 k2), .int .i64 me, .int .i64 j, .int .i64 t] w (Cl.zero, 5) nil0 nil0 := by
 have HB0 : Aside (Below w.heap.size w (((w.alloc (boxC c (.slice a1 m1 k1) (.slice a2 m2 k2))).alloc (.cells #[.int .i64 j] 3)).alloc (boxC Cl.zero nil0 nil0))) := grew (grew (grew (Below.refl _ _) _) _) _
 have HX0 : Aside ((((w.alloc (boxC c (.slice a1 m1 k1) (.slice a2 m2 k2))).alloc (.cells #[.int .i64 j] 3)).alloc (boxC Cl.zero nil0 nil0)).heap[w.heap.size]? = some (boxC c (.slice a1 m1 k1) (.slice a2 m2 k2))) := heap_old (heap_old (heap_new _ _) _) _
 have HJ0 : Aside ((((w.alloc (boxC c (.slice a1 m1 k1) (.slice a2 m2 k2))).alloc (.cells #[.int .i64 j] 3)).alloc (boxC Cl.zero nil0 nil0)).heap[w.heap.size + 1]? = some (.cells #[.int .i64 j] 3)) := by
  have := heap_new (w.alloc (boxC c (.slice a1 m1 k1) (.slice a2 m2 k2))) (.cells #[.int .i64 j] 3)
  rw [World.size_alloc] at this
  exact heap_old (this) _
 have HR0 : Aside ((((w.alloc (boxC c (.slice a1 m1 k1) (.slice a2 m2 k2))).alloc (.cells #[.int .i64 j] 3)).alloc (boxC Cl.zero nil0 nil0)).heap[w.heap.size + 1 + 1]? = some (boxC Cl.zero nil0 nil0)) := by
  have := heap_new ((w.alloc (boxC c (.slice a1 m1 k1) (.slice a2 m2 k2))).alloc (.cells #[.int .i64 j] 3)) (boxC Cl.zero nil0 nil0)
  rw [World.size_alloc, World.size_alloc] at this
  exact this
 have kc := cl_rest c (.slice a1 m1 k1) (.slice a2 m2 k2) _ (bkAt_later hb HB0.out)
 have kd : ∀ W, Below w.heap.size w W → Calls Tryz.prog 174 #[.agg #[(.slice a1 m1 k1), (.slice a2 m2 k2)], .int .i64 t] W fun e w' => ∃ ua n uc, e = .returned (.tuple #[.slice ua n uc, .int .i64 q]) ∧ Aside (JobSl w' (.slice ua n uc) (if q = 0 then dueOf c.js t else [])) ∧ Below W.heap.size W w' := fun W hB =>
  (due_any (.slice a1 m1 k1) (.slice a2 m2 k2) c.js c.rs t W (hb.1.later hB) (hb.2.later hB)).mono fun e w' ⟨u, g1, g2, g3, _⟩ => by
   rw [hd] at g1 g2
   obtain ⟨ua, uc, rfl⟩ : ∃ ua uc, u = .slice ua (if q = 0 then dueOf c.js t else []).length uc := by
    obtain ⟨ua, uc, e, _⟩ := g2
    exact ⟨ua, uc, e⟩
   exact ⟨ua, _, uc, g1, g2, g3⟩
 clear hd
 subst hq
 rw [hck] at kc
 have HK : Aside (BkAt w (.slice a1 m1 k1) (.slice a2 m2 k2) c) := hb
 clear hb hck
 go_enter Tryz.func138, Tryz.ntmps138
 go_wp2_with fail
 refine kc.mono ?_
 rintro r w1 ⟨rfl, hb1⟩
 have HX1 : Aside _ := heap_below HX0.out hb1 (heap_lt HX0.out)
 have HJ1 : Aside _ := heap_below HJ0.out hb1 (heap_lt HJ0.out)
 have HR1 : Aside _ := heap_below HR0.out hb1 (heap_lt HR0.out)
 have HB1 : Aside _ := step_below HB0.out hb1
 clear hb1 HB0 HX0 HJ0 HR0
 clear kc
 have z := fun i => Joins.cell_of_block HX1.out i
 go_wp2_with fail
 refine (kd w1 HB1.out).mono ?_
 rintro r w2 ⟨ua, n, uc, rfl, JL2, hb2⟩
 have HX2 : Aside _ := heap_below HX1.out hb2 (heap_lt HX1.out)
 have HJ2 : Aside _ := heap_below HJ1.out hb2 (heap_lt HJ1.out)
 have HR2 : Aside _ := heap_below HR1.out hb2 (heap_lt HR1.out)
 have HB2 : Aside _ := step_below HB1.out hb2
 clear hb2 kd HB1 z HX1 HJ1 HR1
 rw [if_pos trivial] at JL2
 have hlen : (dueOf c.js t).length = n := JL2.out.len
 have eg : ∀ args w, (callFunc 176 args).run Tryz.prog w = .ok (.enter 176 args) w := enters_of Tryz.func176 (by kernel_rfl) rfl
 have ki : Calls Tryz.prog 175 #[.slice ua n uc, .func (.func 176) #[] #[.pointer (some ⟨w.heap.size + 1, 0, none⟩)]] w2 fun e w' => e = .returned (.int .i64 (-1)) ∧ Below w2.heap.size w2 w' := by
  have := idxFJ (fun y => y.i == j) 176 #[.pointer (some ⟨w.heap.size + 1, 0, none⟩)] eg (.slice ua n uc) (dueOf c.js t) w2 JL2.out hm (ring_pred j (w.heap.size + 1) w2 (heap_lt HJ2.out) (Joins.cell_of_block HJ2.out 0))
  rw [hi] at this
  exact this
 clear eg hm hi
 go_wp2_with fail
 refine ki.mono ?_
 rintro r w3 ⟨rfl, hb3⟩
 have HX3 : Aside _ := heap_below HX2.out hb3 (heap_lt HX2.out)
 have HJ3 : Aside _ := heap_below HJ2.out hb3 (heap_lt HJ2.out)
 have HR3 : Aside _ := heap_below HR2.out hb3 (heap_lt HR2.out)
 have HB3 : Aside _ := step_below HB2.out hb3
 have JL3 : Aside _ := JL2.out.later hb3
 clear hb3 ki HB2 JL2 HX2 HJ2 HR2
 clear JL3 hlen
 have zr := fun i => Joins.cell_of_block HR3.out i
 have fzr := fun i => Joins.unfrozen_of_block HR3.out i
 go_wp2
 refine ret_st (p := 8) (q := 9) w3 (w.heap.size + 1 + 1) (Cl.zero) nil0 nil0 (o := Cl.zero) (u1 := nil0) (u2 := nil0) Tryz.results138 rfl rfl rfl HR3.out rfl ?_
 exact ⟨rfl, st12_below HB3.out (by omega) _ _ _⟩
theorem zg_ok (c : Cl) (a1 a2 : Option Addr) (m1 k1 m2 k2 : Nat) (me j t : Int) (w : World) (hb : BkAt w (.slice a1 m1 k1) (.slice a2 m2 k2) c) (hck : restErr c = 0) (q : Int) (hd : dueErr c.js c.rs t = q) (hq : q = 0) (hm : (dueOf c.js t).length ≤ most) (k : Nat) (z0 : Jb) (hi : idx (fun y => y.i == j) (dueOf c.js t) = (k : Nat)) (hk : k < (dueOf c.js t).length) (hz0 : (dueOf c.js t)[k]? = some z0) (R : Cl) (d : Int) (hW : wantOf c ⟨3, j, 0, z0.n, me⟩ = (R, d)) :
  AnsT 138 #[c.val (.slice a1 m1 k1) (.slice a2 m2 k2), .int .i64 me, .int .i64 j, .int .i64 t] w (R, d) := by
 have HB0 : Aside (Below w.heap.size w (((w.alloc (boxC c (.slice a1 m1 k1) (.slice a2 m2 k2))).alloc (.cells #[.int .i64 j] 3)).alloc (boxC Cl.zero nil0 nil0))) := grew (grew (grew (Below.refl _ _) _) _) _
 have HX0 : Aside ((((w.alloc (boxC c (.slice a1 m1 k1) (.slice a2 m2 k2))).alloc (.cells #[.int .i64 j] 3)).alloc (boxC Cl.zero nil0 nil0)).heap[w.heap.size]? = some (boxC c (.slice a1 m1 k1) (.slice a2 m2 k2))) := heap_old (heap_old (heap_new _ _) _) _
 have HJ0 : Aside ((((w.alloc (boxC c (.slice a1 m1 k1) (.slice a2 m2 k2))).alloc (.cells #[.int .i64 j] 3)).alloc (boxC Cl.zero nil0 nil0)).heap[w.heap.size + 1]? = some (.cells #[.int .i64 j] 3)) := by
  have := heap_new (w.alloc (boxC c (.slice a1 m1 k1) (.slice a2 m2 k2))) (.cells #[.int .i64 j] 3)
  rw [World.size_alloc] at this
  exact heap_old (this) _
 have HR0 : Aside ((((w.alloc (boxC c (.slice a1 m1 k1) (.slice a2 m2 k2))).alloc (.cells #[.int .i64 j] 3)).alloc (boxC Cl.zero nil0 nil0)).heap[w.heap.size + 1 + 1]? = some (boxC Cl.zero nil0 nil0)) := by
  have := heap_new ((w.alloc (boxC c (.slice a1 m1 k1) (.slice a2 m2 k2))).alloc (.cells #[.int .i64 j] 3)) (boxC Cl.zero nil0 nil0)
  rw [World.size_alloc, World.size_alloc] at this
  exact this
 have kc := cl_rest c (.slice a1 m1 k1) (.slice a2 m2 k2) _ (bkAt_later hb HB0.out)
 have kd : ∀ W, Below w.heap.size w W → Calls Tryz.prog 174 #[.agg #[(.slice a1 m1 k1), (.slice a2 m2 k2)], .int .i64 t] W fun e w' => ∃ ua n uc, e = .returned (.tuple #[.slice ua n uc, .int .i64 q]) ∧ Aside (JobSl w' (.slice ua n uc) (if q = 0 then dueOf c.js t else [])) ∧ Below W.heap.size W w' := fun W hB =>
  (due_any (.slice a1 m1 k1) (.slice a2 m2 k2) c.js c.rs t W (hb.1.later hB) (hb.2.later hB)).mono fun e w' ⟨u, g1, g2, g3, _⟩ => by
   rw [hd] at g1 g2
   obtain ⟨ua, uc, rfl⟩ : ∃ ua uc, u = .slice ua (if q = 0 then dueOf c.js t else []).length uc := by
    obtain ⟨ua, uc, e, _⟩ := g2
    exact ⟨ua, uc, e⟩
   exact ⟨ua, _, uc, g1, g2, g3⟩
 clear hd
 subst hq
 have kw : Aside (∀ W, Below w.heap.size w W → AnsT 172 #[c.val (.slice a1 m1 k1) (.slice a2 m2 k2), (⟨3, j, 0, z0.n, me⟩ : En).val] W (R, d)) := fun W hB => by
  have := cl_want c ⟨3, j, 0, z0.n, me⟩ (.slice a1 m1 k1) (.slice a2 m2 k2) W (bkAt_later hb hB)
  rw [hW] at this
  exact this
 clear hW
 rw [hck] at kc
 have HK : Aside (BkAt w (.slice a1 m1 k1) (.slice a2 m2 k2) c) := hb
 clear hb hck
 go_enter Tryz.func138, Tryz.ntmps138
 go_wp2_with fail
 refine kc.mono ?_
 rintro r w1 ⟨rfl, hb1⟩
 have HX1 : Aside _ := heap_below HX0.out hb1 (heap_lt HX0.out)
 have HJ1 : Aside _ := heap_below HJ0.out hb1 (heap_lt HJ0.out)
 have HR1 : Aside _ := heap_below HR0.out hb1 (heap_lt HR0.out)
 have HB1 : Aside _ := step_below HB0.out hb1
 clear hb1 HB0 HX0 HJ0 HR0
 clear kc
 have z := fun i => Joins.cell_of_block HX1.out i
 go_wp2_with fail
 refine (kd w1 HB1.out).mono ?_
 rintro r w2 ⟨ua, n, uc, rfl, JL2, hb2⟩
 have HX2 : Aside _ := heap_below HX1.out hb2 (heap_lt HX1.out)
 have HJ2 : Aside _ := heap_below HJ1.out hb2 (heap_lt HJ1.out)
 have HR2 : Aside _ := heap_below HR1.out hb2 (heap_lt HR1.out)
 have HB2 : Aside _ := step_below HB1.out hb2
 clear hb2 kd HB1 z HX1 HJ1 HR1
 rw [if_pos trivial] at JL2
 have hlen : (dueOf c.js t).length = n := JL2.out.len
 have eg : ∀ args w, (callFunc 176 args).run Tryz.prog w = .ok (.enter 176 args) w := enters_of Tryz.func176 (by kernel_rfl) rfl
 have ki : Calls Tryz.prog 175 #[.slice ua n uc, .func (.func 176) #[] #[.pointer (some ⟨w.heap.size + 1, 0, none⟩)]] w2 fun e w' => e = .returned (.int .i64 (k : Nat)) ∧ Below w2.heap.size w2 w' := by
  have := idxFJ (fun y => y.i == j) 176 #[.pointer (some ⟨w.heap.size + 1, 0, none⟩)] eg (.slice ua n uc) (dueOf c.js t) w2 JL2.out hm (ring_pred j (w.heap.size + 1) w2 (heap_lt HJ2.out) (Joins.cell_of_block HJ2.out 0))
  rw [hi] at this
  exact this
 clear eg hm hi
 go_wp2_with fail
 refine ki.mono ?_
 rintro r w3 ⟨rfl, hb3⟩
 have HX3 : Aside _ := heap_below HX2.out hb3 (heap_lt HX2.out)
 have HJ3 : Aside _ := heap_below HJ2.out hb3 (heap_lt HJ2.out)
 have HR3 : Aside _ := heap_below HR2.out hb3 (heap_lt HR2.out)
 have HB3 : Aside _ := step_below HB2.out hb3
 have JL3 : Aside _ := JL2.out.later hb3
 clear hb3 ki HB2 JL2 HX2 HJ2 HR2
 rw [hlen] at hk
 obtain ⟨b, off, rfl, hE⟩ := JL3.out.at (by omega)
 have hrow : w3.cell? ⟨b, off + k * 3 + 2, none⟩ = some (.int .i64 z0.n) := hE k z0 hz0 2 _ rfl
 have hkn : ¬ ((k : Int) < 0) := by omega
 clear hE JL3 hlen hz0
 go_upto_region 10 with fail
 have HXd : Aside (w3.drew.heap[w.heap.size]? = some (boxC c (.slice a1 m1 k1) (.slice a2 m2 k2))) := HX3.out
 have HRd : Aside (w3.drew.heap[w.heap.size + 1 + 1]? = some (boxC Cl.zero nil0 nil0)) := HR3.out
 have HBd : Aside (Below w.heap.size w w3.drew) := HB3.out.drew
 have hS0 : w3.drew.cell? ⟨w.heap.size + 1, 0, none⟩ = some (.int .i64 j) ∧ w3.drew.cell? ⟨b, off + k * 3 + 2, none⟩ = some (.int .i64 z0.n) := ⟨Joins.cell_of_block HJ3.out 0, hrow⟩
 clear HX3 HR3 HB3 HJ3 hrow
 refine wp_region_noPanic ?_
 refine region_L (fun w' => w'.cell? ⟨w.heap.size + 1, 0, none⟩ = some (.int .i64 j) ∧ w'.cell? ⟨b, off + k * 3 + 2, none⟩ = some (.int .i64 z0.n)) 12 (by kernel_rfl) (hS0) (fun hHeld => ?_)
 clear hS0
 generalize w3.drew = X at *
 refine tl 1 (v := ?_) rfl (by kernel_rfl) (by rfl) (by assumption) (fun _ _ _ h => h) ?_ ?_
 rotate_left
 · (intro w0 hSw; (try dsimp only at hSw); go_simp; first | done | with_reducible rfl)
 try simp only [Act.put, qa, qb, qc]
 refine tl 2 (v := ?_) rfl (by kernel_rfl) (by rfl) (by assumption) (fun _ _ _ h => h) ?_ ?_
 rotate_left
 · (intro w0 hSw; (try dsimp only at hSw); go_simp; first | done | with_reducible rfl)
 try simp only [Act.put, qa, qb, qc]
 refine tl 3 (v := ?_) rfl (by kernel_rfl) (by rfl) (by assumption) (fun _ _ _ h => h) ?_ ?_
 rotate_left
 · (intro w0 hSw; (try dsimp only at hSw); go_simp; first | done | with_reducible rfl)
 try simp only [Act.put, qa, qb, qc]
 refine tl 4 (v := ?_) rfl (by kernel_rfl) (by rfl) (by assumption) (fun _ _ _ h => h) ?_ ?_
 rotate_left
 · (intro w0 hSw; (try dsimp only at hSw); go_simp; first | done | with_reducible rfl)
 try simp only [Act.put, qa, qb, qc]
 refine tl 5 (v := ?_) rfl (by kernel_rfl) (by rfl) (by assumption) (fun _ _ _ h => h) ?_ ?_
 rotate_left
 · (intro w0 hSw; (try dsimp only at hSw); go_simp; first | done | with_reducible rfl)
 try simp only [Act.put, qa, qb, qc]
 refine tl 6 (v := ?_) rfl (by kernel_rfl) (by rfl) (by assumption) (fun _ _ _ h => h) ?_ ?_
 rotate_left
 · (intro w0 hSw; (try dsimp only at hSw); go_simp; first | done | with_reducible rfl)
 try simp only [Act.put, qa, qb, qc]
 refine tl 7 (v := ?_) rfl (by kernel_rfl) (by rfl) (by assumption) (fun _ _ _ h => h) ?_ ?_
 rotate_left
 · (intro w0 hSw; (try dsimp only at hSw); go_simp; first | done | with_reducible rfl)
 try simp only [Act.put, qa, qb, qc]
 refine tl 8 (v := ?_) rfl (by kernel_rfl) (by rfl) (by assumption) (fun _ _ _ h => h) ?_ ?_
 rotate_left
 · (intro w0 hSw; (try dsimp only at hSw); go_simp; first | done | with_reducible rfl)
 try simp only [Act.put, qa, qb, qc]
 have z := fun i => Joins.cell_of_block HXd.out i
 refine anyL_one (i := 0) (by kernel_rfl) rfl (fun K hK => ?_)
 go_simp
 refine hK.out _ _ (fun _ => by assumption) (fun hNext => ?_)
 replace hNext := hNext (by kernel_rfl)
 clear hK K hHeld z
 try simp only [Act.put, qa, qb, qc]
 refine anyL_one (i := 9) (by kernel_rfl) rfl (fun K hK => ?_)
 go_simp
 refine (kw.out _ HBd.out).mono ?_
 rintro r w4 ⟨u1, u2, rfl, hT4, hb4⟩
 have HR4 : Aside _ := heap_below HRd.out hb4 (heap_lt HRd.out)
 have HB4 : Aside (Below w.heap.size w w4) := HBd.out.trans (hb4.mono HBd.out.size)
 have HT4 : Aside (BkT w4 u1 u2 R) := hT4
 obtain ⟨s1, o1, s2, o2, rfl, rfl⟩ := bk_slices hT4.1.1 hT4.1.2
 refine hK.out _ _ (fun _ => ⟨cell_later hb4 hNext.1, cell_later hb4 hNext.2⟩) (fun hNext => ?_)
 replace hNext := hNext (by kernel_rfl)
 clear hK K hb4 HRd HBd HXd hT4
 try simp only [Act.put, qa, qb, qc]
 obtain ⟨n1, hn1⟩ : ∃ n, Hid (R.js.length = n) := ⟨_, rfl⟩
 obtain ⟨n2, hn2⟩ : ∃ n, Hid (R.rs.length = n) := ⟨_, rfl⟩
 rw [hn1.out, hn2.out] at HT4 ⊢
 have zr := fun i => Joins.cell_of_block HR4.out i
 have fzr := fun i => Joins.unfrozen_of_block HR4.out i
 refine tl 10 (v := ?_) rfl (by kernel_rfl) (by rfl) (by assumption) (fun _ _ _ h => h) ?_ ?_
 rotate_left
 · (intro w0 hSw; (try dsimp only at hSw); go_simp; first | done | with_reducible rfl)
 try simp only [Act.put, qa, qb, qc]
 refine tl 11 (v := ?_) rfl (by kernel_rfl) (by rfl) (by assumption) (fun _ _ _ h => h) ?_ ?_
 rotate_left
 · (intro w0 hSw; (try dsimp only at hSw); go_simp; first | done | with_reducible rfl)
 try simp only [Act.put, qa, qb, qc]
 refine anyL_one (i := 12) (by kernel_rfl) rfl (fun K hK => ?_)
 go_simp
 refine hK.out _ _ (fun h => absurd h (by decide +kernel)) (fun _ => ?_)
 clear hK K
 try simp only [Act.put, qa, qb, qc]
 refine anyL_one (i := 13) (by kernel_rfl) rfl (fun K hK => ?_)
 go_simp
 refine hK.out _ _ (fun h => absurd h (by decide +kernel)) (fun _ => ?_)
 clear hK K
 try simp only [Act.put, qa, qb, qc]
 refine anyL_done (by kernel_rfl) ?_ _
 refine NoPanic.normal ?_
 try simp only [Act.put, qa, qb, qc]
 clear hNext
 go_wp2
 refine ret_st (p := 8) (q := 9) w4 (w.heap.size + 1 + 1) R (.slice s1 n1 o1) (.slice s2 n2 o2) (o := Cl.zero) (u1 := nil0) (u2 := nil0) Tryz.results138 rfl rfl rfl HR4.out rfl ?_
 exact ⟨(.slice s1 n1 o1), (.slice s2 n2 o2), rfl, bkT_st12 ⟨_, HR4.out⟩ HT4.out _ _ _, st12_below HB4.out (by omega) _ _ _⟩
theorem due_ok_err {c : Cl} (hc : c.ck = 0) (t : Int) : dueErr c.js c.rs t = if t < 0 ∨ 100000 < t then 3 else 0 := by
 rw [dueErr, if_neg (by simpa using ckBook_zero.2 (Cl.ck_zero.1 hc).2.2.2)]
theorem cl_ring (c : Cl) (me j t : Int) (v1 v2 : Value) (w : World) (hb : BkAt w v1 v2 c) : AnsT 138 #[c.val v1 v2, .int .i64 me, .int .i64 j, .int .i64 t] w (ringOf c me j t) := by
 obtain ⟨a1, k1, a2, k2, rfl, rfl⟩ := bk_slices hb.1 hb.2
 unfold ringOf
 by_cases hc : c.ck = 0
 · rw [if_neg (by simpa using hc)]
  by_cases hd : c.d = 0
  · have hr : restErr c = 0 := by rw [restErr, if_neg (by simpa using hc), if_neg (by simpa using hd)]
   have hok := (Cl.ck_zero.1 hc).2.2.2
   rw [if_neg (by simpa using hd)]
   by_cases ht : t < 0 ∨ 100000 < t
   · rw [if_pos ht]
    exact ansT_zero <| zg_due c a1 a2 _ k1 _ k2 me j t w hb hr 3 (by rw [due_ok_err hc, if_pos ht]) rfl
   · rw [if_neg ht]
    have he : dueErr c.js c.rs t = 0 := by rw [due_ok_err hc, if_neg ht]
    have hm : (dueOf c.js t).length ≤ most := by have := dueOf_few t c.js; have := hok.few; unfold most; omega
    rcases due_find hok t j with ⟨hi, hno⟩ | ⟨k, z, hi, hk, hz, htab, hn, _, _⟩
    · have h := ansT_zero <| zg_who c a1 a2 _ k1 _ k2 me j t w hb hr 0 he rfl hm hi
     cases htab : tab c.js j with
     | none => exact h
     | some z =>
      show AnsT _ _ _ (if t < z.n then _ else _)
      rw [if_pos (hno z htab)]
      exact h
    · rw [htab]
     show AnsT _ _ _ (if t < z.n then _ else _)
     rw [if_neg (by omega)]
     exact zg_ok c a1 a2 _ k1 _ k2 me j t w hb hr 0 he rfl hm k z hi hk hz _ _ rfl
  · rw [if_pos hd]
   exact ansT_zero <| zg_ck c a1 a2 _ k1 _ k2 me j t w hb 7 (by rw [restErr, if_neg (by simpa using hc), if_pos hd]) rfl
 · rw [if_pos hc]
  exact ansT_zero <| zg_ck c a1 a2 _ k1 _ k2 me j t w hb _ (by rw [restErr, if_pos hc]) (by rw [bne_iff_ne]; exact hc)
theorem w_want_ring (c : Cl) (a1 a2 : Option Addr) (m1 k1 m2 k2 : Nat) (x : En) (w : World) (hb : BkAt w (.slice a1 m1 k1) (.slice a2 m2 k2) c) (hx : (x.k == 3) = true) :
  AnsT 137 #[c.val (.slice a1 m1 k1) (.slice a2 m2 k2), x.val] w (Cl.zero, 4) := by
 have B0 : Aside (Below w.heap.size w (((w.alloc (boxC c (.slice a1 m1 k1) (.slice a2 m2 k2))).alloc (boxE x.k x.j x.v x.t x.c)).alloc (boxZ))) := grew (grew (grew (Below.refl _ _) _) _) _
 have h0_0 : Aside ((((w.alloc (boxC c (.slice a1 m1 k1) (.slice a2 m2 k2))).alloc (boxE x.k x.j x.v x.t x.c)).alloc (boxZ)).heap[w.heap.size]? = some (boxC c (.slice a1 m1 k1) (.slice a2 m2 k2))) := by
  have := heap_new w (boxC c (.slice a1 m1 k1) (.slice a2 m2 k2))
  exact heap_old (heap_old (this) _) _
 have h1_0 : Aside ((((w.alloc (boxC c (.slice a1 m1 k1) (.slice a2 m2 k2))).alloc (boxE x.k x.j x.v x.t x.c)).alloc (boxZ)).heap[w.heap.size + 1]? = some (boxE x.k x.j x.v x.t x.c)) := by
  have := heap_new (w.alloc (boxC c (.slice a1 m1 k1) (.slice a2 m2 k2))) (boxE x.k x.j x.v x.t x.c)
  rw [World.size_alloc] at this
  exact heap_old (this) _
 have h2_0 : Aside ((((w.alloc (boxC c (.slice a1 m1 k1) (.slice a2 m2 k2))).alloc (boxE x.k x.j x.v x.t x.c)).alloc (boxZ)).heap[w.heap.size + 1 + 1]? = some (boxZ)) := by
  have := heap_new ((w.alloc (boxC c (.slice a1 m1 k1) (.slice a2 m2 k2))).alloc (boxE x.k x.j x.v x.t x.c)) (boxZ)
  rw [World.size_alloc, World.size_alloc] at this
  exact this
 have HK : Aside (BkAt (((w.alloc (boxC c (.slice a1 m1 k1) (.slice a2 m2 k2))).alloc (boxE x.k x.j x.v x.t x.c)).alloc (boxZ)) (.slice a1 m1 k1) (.slice a2 m2 k2) c) := bkAt_later hb B0.out
 clear hb
 go_enter Tryz.func137, Tryz.ntmps137
 go_upto_region 1 with fail
 generalize (((w.alloc (boxC c (.slice a1 m1 k1) (.slice a2 m2 k2))).alloc (boxE x.k x.j x.v x.t x.c)).alloc (boxZ)) = w0 at *
 have z0 := fun i => Joins.cell_of_block h0_0.out i
 have z1 := fun i => Joins.cell_of_block h1_0.out i
 clear HK z0
 have z2 := fun i => Joins.cell_of_block h2_0.out i
 have fz2 := fun i => Joins.unfrozen_of_block h2_0.out i
 go_wp2
 refine ret_st (p := 4) (q := 5) w0 (w.heap.size + 1 + 1) Cl.zero nil0 nil0 (o := Cl.zero) (u1 := nil0) (u2 := nil0) Tryz.results137 rfl rfl rfl h2_0.out rfl ?_
 exact ⟨nil0, nil0, rfl, bkT_nil _ rfl rfl, st12_below B0.out (by omega) _ _ _⟩
theorem w_want_other (c : Cl) (a1 a2 : Option Addr) (m1 k1 m2 k2 : Nat) (x : En) (w : World) (hb : BkAt w (.slice a1 m1 k1) (.slice a2 m2 k2) c) (hx : (x.k == 3) = false) :
  AnsT 137 #[c.val (.slice a1 m1 k1) (.slice a2 m2 k2), x.val] w (wantOf c x) := by
 obtain ⟨⟨R, d⟩, hq⟩ : ∃ q, wantOf c x = q := ⟨_, rfl⟩
 rw [hq]
 have B0 : Aside (Below w.heap.size w (((w.alloc (boxC c (.slice a1 m1 k1) (.slice a2 m2 k2))).alloc (boxE x.k x.j x.v x.t x.c)).alloc (boxZ))) := grew (grew (grew (Below.refl _ _) _) _) _
 have h0_0 : Aside ((((w.alloc (boxC c (.slice a1 m1 k1) (.slice a2 m2 k2))).alloc (boxE x.k x.j x.v x.t x.c)).alloc (boxZ)).heap[w.heap.size]? = some (boxC c (.slice a1 m1 k1) (.slice a2 m2 k2))) := by
  have := heap_new w (boxC c (.slice a1 m1 k1) (.slice a2 m2 k2))
  exact heap_old (heap_old (this) _) _
 have h1_0 : Aside ((((w.alloc (boxC c (.slice a1 m1 k1) (.slice a2 m2 k2))).alloc (boxE x.k x.j x.v x.t x.c)).alloc (boxZ)).heap[w.heap.size + 1]? = some (boxE x.k x.j x.v x.t x.c)) := by
  have := heap_new (w.alloc (boxC c (.slice a1 m1 k1) (.slice a2 m2 k2))) (boxE x.k x.j x.v x.t x.c)
  rw [World.size_alloc] at this
  exact heap_old (this) _
 have h2_0 : Aside ((((w.alloc (boxC c (.slice a1 m1 k1) (.slice a2 m2 k2))).alloc (boxE x.k x.j x.v x.t x.c)).alloc (boxZ)).heap[w.heap.size + 1 + 1]? = some (boxZ)) := by
  have := heap_new ((w.alloc (boxC c (.slice a1 m1 k1) (.slice a2 m2 k2))).alloc (boxE x.k x.j x.v x.t x.c)) (boxZ)
  rw [World.size_alloc, World.size_alloc] at this
  exact this
 have kc := cl_want c x _ _ (((w.alloc (boxC c (.slice a1 m1 k1) (.slice a2 m2 k2))).alloc (boxE x.k x.j x.v x.t x.c)).alloc (boxZ)) (bkAt_later hb B0.out)
 rw [hq] at kc
 clear hb hq
 go_enter Tryz.func137, Tryz.ntmps137
 go_upto_region 1 with fail
 generalize (((w.alloc (boxC c (.slice a1 m1 k1) (.slice a2 m2 k2))).alloc (boxE x.k x.j x.v x.t x.c)).alloc (boxZ)) = w0 at *
 have z0 := fun i => Joins.cell_of_block h0_0.out i
 have z1 := fun i => Joins.cell_of_block h1_0.out i
 go_wp2_with fail
 refine (kc).mono ?_
 rintro e w1 ⟨u1, u2, rfl, hT, hb1⟩
 have hR : Aside _ := heap_below h2_0.out hb1 (heap_lt h2_0.out)
 have hB : Aside _ := step_below1 B0.out hb1
 have HT : Aside (BkT w1 u1 u2 R) := hT
 obtain ⟨s1, o1, s2, o2, rfl, rfl⟩ := bk_slices hT.1.1 hT.1.2
 clear hb1 B0 hT h0_0 h1_0 h2_0 z0 z1 kc
 obtain ⟨n1, hn1⟩ : ∃ n, Hid ((R).js.length = n) := ⟨_, rfl⟩
 obtain ⟨n2, hn2⟩ : ∃ n, Hid ((R).rs.length = n) := ⟨_, rfl⟩
 rw [hn1.out, hn2.out] at HT ⊢
 have zr := fun i => Joins.cell_of_block hR.out i
 have fzr := fun i => Joins.unfrozen_of_block hR.out i
 go_wp2
 refine ret_st (p := 4) (q := 5) w1 (w.heap.size + 1 + 1) (R) (.slice s1 n1 o1) (.slice s2 n2 o2) (o := Cl.zero) (u1 := nil0) (u2 := nil0) Tryz.results137 rfl rfl rfl hR.out rfl ?_
 exact ⟨(.slice s1 n1 o1), (.slice s2 n2 o2), rfl, bkT_st12 ⟨_, hR.out⟩ HT.out _ _ _, st12_below hB.out (by omega) _ _ _⟩
theorem w_place_full (c : Cl) (a1 a2 : Option Addr) (m1 k1 m2 k2 : Nat) (a : Int) (w : World) (_ : BkAt w (.slice a1 m1 k1) (.slice a2 m2 k2) c) (hx : (a == 60) = true) :
  AnsT 139 #[c.val (.slice a1 m1 k1) (.slice a2 m2 k2), .int .i64 a] w (Cl.zero, 2) := by
 have B0 : Aside (Below w.heap.size w ((w.alloc (boxC c (.slice a1 m1 k1) (.slice a2 m2 k2))).alloc (boxZ))) := grew (grew (Below.refl _ _) _) _
 have h0_0 : Aside (((w.alloc (boxC c (.slice a1 m1 k1) (.slice a2 m2 k2))).alloc (boxZ)).heap[w.heap.size]? = some (boxC c (.slice a1 m1 k1) (.slice a2 m2 k2))) := by
  have := heap_new w (boxC c (.slice a1 m1 k1) (.slice a2 m2 k2))
  exact heap_old (this) _
 have h1_0 : Aside (((w.alloc (boxC c (.slice a1 m1 k1) (.slice a2 m2 k2))).alloc (boxZ)).heap[w.heap.size + 1]? = some (boxZ)) := by
  have := heap_new (w.alloc (boxC c (.slice a1 m1 k1) (.slice a2 m2 k2))) (boxZ)
  rw [World.size_alloc] at this
  exact this
 go_enter Tryz.func139, Tryz.ntmps139
 go_upto_region 1 with fail
 generalize ((w.alloc (boxC c (.slice a1 m1 k1) (.slice a2 m2 k2))).alloc (boxZ)) = w0 at *
 have z1 := fun i => Joins.cell_of_block h1_0.out i
 have fz1 := fun i => Joins.unfrozen_of_block h1_0.out i
 go_wp2
 refine ret_st (p := 4) (q := 5) w0 (w.heap.size + 1) Cl.zero nil0 nil0 (o := Cl.zero) (u1 := nil0) (u2 := nil0) Tryz.results139 rfl rfl rfl h1_0.out rfl ?_
 exact ⟨nil0, nil0, rfl, bkT_nil _ rfl rfl, st12_below B0.out (by omega) _ _ _⟩
theorem w_place_other (c : Cl) (a1 a2 : Option Addr) (m1 k1 m2 k2 : Nat) (a : Int) (w : World) (hb : BkAt w (.slice a1 m1 k1) (.slice a2 m2 k2) c) (hx : (a == 60) = false) :
  AnsT 139 #[c.val (.slice a1 m1 k1) (.slice a2 m2 k2), .int .i64 a] w (placeOf 1 c a) := by
 obtain ⟨⟨R, d⟩, hq⟩ : ∃ q, placeOf 1 c a = q := ⟨_, rfl⟩
 rw [hq]
 have B0 : Aside (Below w.heap.size w ((w.alloc (boxC c (.slice a1 m1 k1) (.slice a2 m2 k2))).alloc (boxZ))) := grew (grew (Below.refl _ _) _) _
 have h0_0 : Aside (((w.alloc (boxC c (.slice a1 m1 k1) (.slice a2 m2 k2))).alloc (boxZ)).heap[w.heap.size]? = some (boxC c (.slice a1 m1 k1) (.slice a2 m2 k2))) := by
  have := heap_new w (boxC c (.slice a1 m1 k1) (.slice a2 m2 k2))
  exact heap_old (this) _
 have h1_0 : Aside (((w.alloc (boxC c (.slice a1 m1 k1) (.slice a2 m2 k2))).alloc (boxZ)).heap[w.heap.size + 1]? = some (boxZ)) := by
  have := heap_new (w.alloc (boxC c (.slice a1 m1 k1) (.slice a2 m2 k2))) (boxZ)
  rw [World.size_alloc] at this
  exact this
 have kc := cl_place c a _ _ ((w.alloc (boxC c (.slice a1 m1 k1) (.slice a2 m2 k2))).alloc (boxZ)) (bkAt_later hb B0.out)
 rw [hq] at kc
 clear hb hq
 go_enter Tryz.func139, Tryz.ntmps139
 go_upto_region 1 with fail
 generalize ((w.alloc (boxC c (.slice a1 m1 k1) (.slice a2 m2 k2))).alloc (boxZ)) = w0 at *
 have z0 := fun i => Joins.cell_of_block h0_0.out i
 go_wp2_with fail
 refine (kc).mono ?_
 rintro e w1 ⟨u1, u2, rfl, hT, hb1⟩
 have hR : Aside _ := heap_below h1_0.out hb1 (heap_lt h1_0.out)
 have hB : Aside _ := step_below1 B0.out hb1
 have HT : Aside (BkT w1 u1 u2 R) := hT
 obtain ⟨s1, o1, s2, o2, rfl, rfl⟩ := bk_slices hT.1.1 hT.1.2
 clear hb1 B0 hT h0_0 h1_0 z0 kc
 obtain ⟨n1, hn1⟩ : ∃ n, Hid ((R).js.length = n) := ⟨_, rfl⟩
 obtain ⟨n2, hn2⟩ : ∃ n, Hid ((R).rs.length = n) := ⟨_, rfl⟩
 rw [hn1.out, hn2.out] at HT ⊢
 have zr := fun i => Joins.cell_of_block hR.out i
 have fzr := fun i => Joins.unfrozen_of_block hR.out i
 go_wp2
 refine ret_st (p := 4) (q := 5) w1 (w.heap.size + 1) (R) (.slice s1 n1 o1) (.slice s2 n2 o2) (o := Cl.zero) (u1 := nil0) (u2 := nil0) Tryz.results139 rfl rfl rfl hR.out rfl ?_
 exact ⟨(.slice s1 n1 o1), (.slice s2 n2 o2), rfl, bkT_st12 ⟨_, hR.out⟩ HT.out _ _ _, st12_below hB.out (by omega) _ _ _⟩
theorem w_want (c : Cl) (x : En) (v1 v2 : Value) (w : World) (hb : BkAt w v1 v2 c) : AnsT 137 #[c.val v1 v2, x.val] w (if x.k = 3 then (Cl.zero, 4) else wantOf c x) := by
 obtain ⟨a1, k1, a2, k2, rfl, rfl⟩ := bk_slices hb.1 hb.2
 by_cases h : x.k = 3
 · rw [if_pos h]
  exact w_want_ring c a1 a2 _ k1 _ k2 x w hb (by rw [h]; rfl)
 · rw [if_neg h]
  exact w_want_other c a1 a2 _ k1 _ k2 x w hb (by rw [beq_eq_false_iff_ne]; exact h)
theorem w_place (c : Cl) (a : Int) (v1 v2 : Value) (w : World) (hb : BkAt w v1 v2 c) : AnsT 139 #[c.val v1 v2, .int .i64 a] w (if a = 60 then (Cl.zero, 2) else placeOf 1 c a) := by
 obtain ⟨a1, k1, a2, k2, rfl, rfl⟩ := bk_slices hb.1 hb.2
 by_cases h : a = 60
 · rw [if_pos h]
  exact w_place_full c a1 a2 _ k1 _ k2 a w hb (by rw [h]; rfl)
 · rw [if_neg h]
  exact w_place_other c a1 a2 _ k1 _ k2 a w hb (by rw [beq_eq_false_iff_ne]; exact h)
section
open scoped Classical
theorem stands_any (x : En) (w : World) :
  Calls Tryz.prog 133 #[ev x.k x.j x.v x.t x.c] w fun e w' => e = .returned (.bool (!x.isB)) ∧ Below w.heap.size w w' := by
 have hn : ∀ W, (binOp .neq 27 (ev x.k x.j x.v x.t x.c) (ev 4 0 0 0 0)).run Tryz.prog W = .ok (.bool (!x.isB)) W := fun W => by
  rw [neq_entry x.k x.j x.v x.t x.c 4 0 0 0 0 W, En.isB, Bool.not_not]
 generalize x.isB = ib at *
 have HB : Aside (Below w.heap.size w (w.alloc (boxE x.k x.j x.v x.t x.c))) := grew (Below.refl _ _) _
 go_enter Tryz.func133, Tryz.ntmps133
 go_wp2
 go_ret
 exact ⟨rfl, HB.out⟩
theorem isPlace_any (a : Int) (w : World) :
  Calls Tryz.prog 170 #[.int .i64 a] w fun e w' => e = .returned (.bool (decide (0 ≤ a ∧ a ≤ 59))) ∧ w' = w := by
 have hc : ¬ 0 ≤ a ∨ (0 ≤ a ∧ ¬ a < 60) ∨ (0 ≤ a ∧ a < 60) := by omega
 rcases hc with h | ⟨h, h'⟩ | ⟨h, h'⟩
 · rw [decide_eq_false (by omega)]
  go_enter Tryz.func170, Tryz.ntmps170
  go_wp2
  go_ret
  exact ⟨rfl, rfl⟩
 · rw [decide_eq_false (by omega)]
  go_enter Tryz.func170, Tryz.ntmps170
  go_wp2
  go_ret
  exact ⟨rfl, rfl⟩
 · rw [decide_eq_true (by omega)]
  go_enter Tryz.func170, Tryz.ntmps170
  go_wp2
  go_ret
  exact ⟨rfl, rfl⟩
theorem follows_any (au aa : Option Addr) (cu ca : Nat) (p q : Int) (us ah : List En) (w : World) (hu : EntSl w (.slice au 60 cu) us) (ha : EntSl w (.slice aa 60 ca) ah) (lu : us.length = 60) (la : ah.length = 60) :
  Calls Tryz.prog 199 #[.agg #[.int .i64 p, .slice au 60 cu], .agg #[.int .i64 q, .slice aa 60 ca]] w fun e w' => e = .returned (.bool (decide (Within us ah))) ∧ Below w.heap.size w w' := by
 obtain ⟨bu, ou, rfl, hEu⟩ := SlOf.at (cs := En.cells) (k := 5) hu (by omega)
 obtain ⟨bv, ov, rfl, hEv⟩ := SlOf.at (cs := En.cells) (k := 5) ha (by omega)
 have HEu : Aside (RowAt En.cells 5 w bu ou us) := hEu
 have HEv : Aside (RowAt En.cells 5 w bv ov ah) := hEv
 have HL : Hid (us.length = 60 ∧ ah.length = 60) := ⟨lu, la⟩
 have HB0 : Aside (Below w.heap.size w ((w.alloc (boxU p (.slice (some ⟨bu, ou, none⟩) 60 cu))).alloc (boxU q (.slice (some ⟨bv, ov, none⟩) 60 ca)))) := grew (grew (Below.refl _ _) _) _
 have HX0 : Aside (((w.alloc (boxU p (.slice (some ⟨bu, ou, none⟩) 60 cu))).alloc (boxU q (.slice (some ⟨bv, ov, none⟩) 60 ca))).heap[w.heap.size + 1]? = some (boxU q (.slice (some ⟨bv, ov, none⟩) 60 ca))) := by
  have := heap_new (w.alloc (boxU p (.slice (some ⟨bu, ou, none⟩) 60 cu))) (boxU q (.slice (some ⟨bv, ov, none⟩) 60 ca))
  rwa [World.size_alloc] at this
 obtain ⟨bb, HBB⟩ : ∃ bb, Hid (decide (Within us ah) = bb) := ⟨_, rfl⟩
 rw [HBB.out]
 clear hu ha lu la hEu hEv
 go_enter Tryz.func199, Tryz.ntmps199
 go_wp2
 go_loopw [10] (fun i wr => ∃ k : Nat, k ≤ 60 ∧ i = .int .i64 k ∧ Below w.heap.size w wr ∧ wr.heap[w.heap.size + 1]? = some (boxU q (.slice (some ⟨bv, ov, none⟩) 60 ca)) ∧ Hid (∀ (j : Nat) (c : En), j < k → us[j]? = some c → c.isB = true ∨ ah[j]? = some c)) (fun i _ => 60 - (intOf i).toNat)
 case atStart => exact ⟨0, Nat.zero_le _, rfl, HB0.out, HX0.out, fun j c hj => absurd hj (Nat.not_lt_zero j)⟩
 case round =>
  clear HB0 HX0
  obtain ⟨k, hk, rfl, hB, hX, hst⟩ := hrel
  by_cases hlt : k < 60
  · obtain ⟨x, hx⟩ : ∃ x, us[k]? = some x := ⟨us[k]'(by have := HL.out.1; omega), List.getElem?_eq_getElem _⟩
   obtain ⟨y, hy⟩ : ∃ y, ah[k]? = some y := ⟨ah[k]'(by have := HL.out.2; omega), List.getElem?_eq_getElem _⟩
   have hE := RowAt.later HEu.out hB
   have c0 : wr.cell? ⟨bu, ou + k * 5, none⟩ = some (.int .i64 x.k) := hE k x hx 0 _ rfl
   have c1 : wr.cell? ⟨bu, ou + k * 5 + 1, none⟩ = some (.int .i64 x.j) := hE k x hx 1 _ rfl
   have c2 : wr.cell? ⟨bu, ou + k * 5 + 2, none⟩ = some (.int .i64 x.v) := hE k x hx 2 _ rfl
   have c3 : wr.cell? ⟨bu, ou + k * 5 + 3, none⟩ = some (.int .i64 x.t) := hE k x hx 3 _ rfl
   have c4 : wr.cell? ⟨bu, ou + k * 5 + 4, none⟩ = some (.int .i64 x.c) := hE k x hx 4 _ rfl
   have hB1 := grew hB (boxE x.k x.j x.v x.t x.c)
   have hF := RowAt.later HEv.out hB1
   have hX1 := heap_old hX (boxE x.k x.j x.v x.t x.c)
   have hS1 : WiS (wr.alloc (boxE x.k x.j x.v x.t x.c)) (wr.alloc (boxE x.k x.j x.v x.t x.c)) wr.heap.size (w.heap.size + 1) (.slice (some ⟨bv, ov, none⟩) 60 ca) bv ov k x y := ⟨beS_of (heap_new _ _), Joins.cell_of_block hX1 1, hF k y hy 0 _ rfl, hF k y hy 1 _ rfl, hF k y hy 2 _ rfl, hF k y hy 3 _ rfl, hF k y hy 4 _ rfl⟩
   have kst := fun W => stands_any x W
   have hn2 := fun W => neq_entry x.k x.j x.v x.t x.c y.k y.j y.v y.t y.c W
   have HST : Hid (us[k]? = some x ∧ ah[k]? = some y ∧ ∀ (j : Nat) (c : En), j < k → us[j]? = some c → c.isB = true ∨ ah[j]? = some c) := ⟨hx, hy, hst.out⟩
   have nxt : Hid (x.isB = true ∨ ah[k]? = some x → ∀ (j : Nat) (c : En), j < k + 1 → us[j]? = some c → c.isB = true ∨ ah[j]? = some c) := fun h j c hj hc => by
    by_cases hjk : j < k
    · exact HST.out.2.2 j c hjk hc
    · obtain rfl : j = k := by omega
     obtain rfl := Option.some.inj (hc.symm.trans HST.out.1)
     exact h
   have HB1 : Aside _ := hB1
   have HX1 : Aside _ := hX1
   have hki : (k : Int) < 60 := by omega
   have hk0 : (0 : Int) ≤ (k : Int) := by omega
   clear hE hF hst hx hy hB hX hB1 hX1
   go_upto_region 4 with fail
   generalize wr.alloc (boxE x.k x.j x.v x.t x.c) = Z at *
   generalize wr.heap.size = cb at *
   have hbd : Below Z.heap.size Z Z.drew := (Below.refl _ _).drew
   clear c0 c1 c2 c3 c4
   cases hib : x.isB with
   | true =>
    rw [hib, Bool.not_true] at kst
    have hN := nxt.out (Or.inl hib)
    have HN : Hid _ := hN
    have hS0 : BeS Z Z cb x := hS1.1
    clear nxt hib hN hS1 hn2
    refine wp_region_held_drew (S := fun w' => BeS Z w' cb x) (by kernel_rfl) (beS_step hS0 hbd) (fun hHeld => ?_)
    refine tk 0 (v := ?_) rfl (by kernel_rfl) (by rfl) (by assumption) (fun _ _ _ h => h) ?_ ?_
    rotate_left
    · intro w0 hSw; (try dsimp only at hSw); go_simp; first | done | with_reducible rfl
    try simp only [Act.put, qa, qb, qc]
    refine rdy 1 (by kernel_rfl) rfl (fun K hK => ?_)
    go_simp
    refine (kst _).mono ?_
    rintro e y1 ⟨rfl, hb1⟩
    refine hK.out _ _ (beS_step hHeld hb1) (fun hHeld => ?_)
    clear hK K
    try simp only [Act.put, qa, qb, qc]
    refine tk 2 (v := ?_) rfl (by kernel_rfl) (by rfl) (by assumption) (fun _ _ _ h => h) ?_ ?_
    rotate_left
    · intro w0 hSw; (try dsimp only at hSw); go_simp; first | done | with_reducible rfl
    try simp only [Act.put, qa, qb, qc]
    refine wpAnyH_take (i := 3) (oi := ?oi3) (v := undef) ?hi3 ?hs3 ?hf3 ?hr3 ?hQ3 (Or.inr ⟨?hw3, rfl⟩) (by assumption) ?h3
    case hi3 => (simp only [List.getElem?_toArray, List.getElem?_cons_succ, List.getElem?_cons_zero]; rfl)
    case hs3 => kernel_rfl
    case hf3 => kernel_rfl
    case hr3 => kernel_rfl
    case hw3 => rfl
    case hQ3 => exact fun _ _ _ h => h
    try simp only [Act.put, qa, qb, qc]
    refine wpAnyH_take (i := 4) (oi := ?oi4) (v := undef) ?hi4 ?hs4 ?hf4 ?hr4 ?hQ4 (Or.inr ⟨?hw4, rfl⟩) (by assumption) ?h4
    case hi4 => (simp only [List.getElem?_toArray, List.getElem?_cons_succ, List.getElem?_cons_zero]; rfl)
    case hs4 => kernel_rfl
    case hf4 => kernel_rfl
    case hr4 => kernel_rfl
    case hw4 => rfl
    case hQ4 => exact fun _ _ _ h => h
    try simp only [Act.put, qa, qb, qc]
    refine wpAnyH_take (i := 5) (oi := ?oi5) (v := undef) ?hi5 ?hs5 ?hf5 ?hr5 ?hQ5 (Or.inr ⟨?hw5, rfl⟩) (by assumption) ?h5
    case hi5 => (simp only [List.getElem?_toArray, List.getElem?_cons_succ, List.getElem?_cons_zero]; rfl)
    case hs5 => kernel_rfl
    case hf5 => kernel_rfl
    case hr5 => kernel_rfl
    case hw5 => rfl
    case hQ5 => exact fun _ _ _ h => h
    try simp only [Act.put, qa, qb, qc]
    refine wpAnyH_take (i := 6) (oi := ?oi6) (v := undef) ?hi6 ?hs6 ?hf6 ?hr6 ?hQ6 (Or.inr ⟨?hw6, rfl⟩) (by assumption) ?h6
    case hi6 => (simp only [List.getElem?_toArray, List.getElem?_cons_succ, List.getElem?_cons_zero]; rfl)
    case hs6 => kernel_rfl
    case hf6 => kernel_rfl
    case hr6 => kernel_rfl
    case hw6 => rfl
    case hQ6 => exact fun _ _ _ h => h
    try simp only [Act.put, qa, qb, qc]
    refine wpAnyH_take (i := 7) (oi := ?oi7) (v := undef) ?hi7 ?hs7 ?hf7 ?hr7 ?hQ7 (Or.inr ⟨?hw7, rfl⟩) (by assumption) ?h7
    case hi7 => (simp only [List.getElem?_toArray, List.getElem?_cons_succ, List.getElem?_cons_zero]; rfl)
    case hs7 => kernel_rfl
    case hf7 => kernel_rfl
    case hr7 => kernel_rfl
    case hw7 => rfl
    case hQ7 => exact fun _ _ _ h => h
    try simp only [Act.put, qa, qb, qc]
    refine wpAnyH_take (i := 8) (oi := ?oi8) (v := undef) ?hi8 ?hs8 ?hf8 ?hr8 ?hQ8 (Or.inr ⟨?hw8, rfl⟩) (by assumption) ?h8
    case hi8 => (simp only [List.getElem?_toArray, List.getElem?_cons_succ, List.getElem?_cons_zero]; rfl)
    case hs8 => kernel_rfl
    case hf8 => kernel_rfl
    case hr8 => kernel_rfl
    case hw8 => rfl
    case hQ8 => exact fun _ _ _ h => h
    try simp only [Act.put, qa, qb, qc]
    refine wpAnyH_take (i := 9) (oi := ?oi9) (v := undef) ?hi9 ?hs9 ?hf9 ?hr9 ?hQ9 (Or.inr ⟨?hw9, rfl⟩) (by assumption) ?h9
    case hi9 => (simp only [List.getElem?_toArray, List.getElem?_cons_succ, List.getElem?_cons_zero]; rfl)
    case hs9 => kernel_rfl
    case hf9 => kernel_rfl
    case hr9 => kernel_rfl
    case hw9 => rfl
    case hQ9 => exact fun _ _ _ h => h
    try simp only [Act.put, qa, qb, qc]
    refine tk 10 (v := ?_) rfl (by kernel_rfl) (by rfl) (by assumption) (fun _ _ _ h => h) ?_ ?_
    rotate_left
    · intro w0 hSw; (try dsimp only at hSw); go_simp; first | done | with_reducible rfl
    try simp only [Act.put, qa, qb, qc]
    refine wpAnyH_done (by kernel_rfl) ?_ _
    have HBE : Aside (Below w.heap.size w y1) := HB1.out.trans (hHeld.1.mono HB1.out.size)
    have HXE : Aside _ := heap_below HX1.out hHeld.1 (heap_lt HX1.out)
    clear hHeld hb1 hS0 hbd kst
    go_wp2
    go_roundw
    case rel => exact ⟨k + 1, by omega, by go_num, HBE.out, HXE.out, HN⟩
    case measure => simp [intOf]; omega
   | false =>
    rw [hib, Bool.not_false] at kst
    by_cases hxy : x = y
    · rw [show unlike x.k x.j x.v x.t x.c y.k y.j y.v y.t y.c = false by rw [hxy]; simp [unlike]] at hn2
     have HN : Hid _ := nxt.out (Or.inr (by rw [HST.out.2.1, hxy]))
     clear nxt hib hxy
     go_region_held3 (fun w' => WiS Z w' cb (w.heap.size + 1) (.slice (some ⟨bv, ov, none⟩) 60 ca) bv ov k x y) (exact wiS_step (by assumption) (by assumption)) (first | (go_at_call 133; refine (kst _).mono ?_; rintro e y1 ⟨rfl, hb1⟩))
     all_goals
      rename_i hS
      have HBE : Aside (Below w.heap.size w _) := HB1.out.trans (hS.1.1.mono HB1.out.size)
      have HXE : Aside _ := heap_below HX1.out hS.1.1 (heap_lt HX1.out)
      clear hS hS1 hbd kst
      go_wp2
      go_roundw
      case rel => exact ⟨k + 1, by omega, by go_num, HBE.out, HXE.out, HN⟩
      case measure => simp [intOf]; omega
    · rw [show unlike x.k x.j x.v x.t x.c y.k y.j y.v y.t y.c = true by rw [← Bool.not_eq_false]; exact fun h => hxy (en_eq h)] at hn2
     have HR : Hid (bb = false) := by
      rw [Hid, ← HBB.out, decide_eq_false]
      intro hw
      rcases hw k x HST.out.1 with h | h
      · rw [hib] at h; cases h
      · exact hxy (Option.some.inj (h.symm.trans HST.out.2.1))
     clear nxt hib hxy HBB
     go_region_held3 (fun w' => WiS Z w' cb (w.heap.size + 1) (.slice (some ⟨bv, ov, none⟩) 60 ca) bv ov k x y) (exact wiS_step (by assumption) (by assumption)) (first | (go_at_call 133; refine (kst _).mono ?_; rintro e y1 ⟨rfl, hb1⟩))
     all_goals
      rename_i hS
      have HBE : Aside (Below w.heap.size w _) := HB1.out.trans (hS.1.1.mono HB1.out.size)
      clear hS hS1 hbd kst
      go_wp2
      go_ret
      exact ⟨by rw [HR.out]; rfl, HBE.out⟩
  · have HR : Hid (bb = true) := by
    rw [Hid, ← HBB.out, decide_eq_true]
    exact fun j c hc => hst.out j c (by have := (List.getElem?_eq_some_iff.1 hc).1; have := HL.out.1; omega) hc
   obtain rfl : k = 60 := by omega
   clear hst HBB
   go_wp2
   go_ret
   exact ⟨by rw [HR.out]; rfl, hB⟩
abbrev TrS (W w : World) (b o o' : Nat) (p q : Int) (s t : Value) : Prop :=
 Below W.heap.size W w ∧ w.cell? ⟨b, o, none⟩ = some (.int .i64 p) ∧ w.cell? ⟨b, o + 1, none⟩ = some s ∧ w.cell? ⟨b, o', none⟩ = some (.int .i64 q) ∧ w.cell? ⟨b, o' + 1, none⟩ = some t
theorem trS_step {W w w' : World} {b o o' : Nat} {p q : Int} {s t : Value} (h : TrS W w b o o' p q s t) (hb : Below w.heap.size w w') : TrS W w' b o o' p q s t :=
 ⟨h.1.trans (hb.mono h.1.size), cell_later hb h.2.1, cell_later hb h.2.2.1, cell_later hb h.2.2.2.1, cell_later hb h.2.2.2.2⟩
theorem chCheck3 (b off c : Nat) (U0 U1 U2 : Un) (a0 a1 a2 : Option Addr) (n0 c0 n1 c1 n2 c2 : Nat) (w : World) (hE : RowAt Ub.cells 2 w b off [⟨U0, .slice a0 n0 c0⟩, ⟨U1, .slice a1 n1 c1⟩, ⟨U2, .slice a2 n2 c2⟩])
  (h0 : UnitAt w (.slice a0 n0 c0) U0) (h1 : UnitAt w (.slice a1 n1 c1) U1) (h2 : UnitAt w (.slice a2 n2 c2) U2) (l0 : U0.cells.length = n0) (l1 : U1.cells.length = n1) (l2 : U2.cells.length = n2) :
  Calls Tryz.prog 169 #[.slice (some ⟨b, off, none⟩) 3 c] w fun e w' => e = .returned (.int .i64 (ck3 U0 U1 U2)) ∧ Below w.heap.size w w' := by
 have HE : Aside (∀ W, Below w.heap.size w W → RowAt Ub.cells 2 W b off [⟨U0, .slice a0 n0 c0⟩, ⟨U1, .slice a1 n1 c1⟩, ⟨U2, .slice a2 n2 c2⟩]) := fun W hb => hE.later hb
 have H0 : Aside (∀ W, Below w.heap.size w W → UnitAt W (.slice a0 n0 c0) U0) := fun W hb => h0.later hb
 have H1 : Aside (∀ W, Below w.heap.size w W → UnitAt W (.slice a1 n1 c1) U1) := fun W hb => h1.later hb
 have H2 : Aside (∀ W, Below w.heap.size w W → UnitAt W (.slice a2 n2 c2) U2) := fun W hb => h2.later hb
 have L0 : Hid (U0.ck = 0 → n0 = 60) := fun h => by rw [← l0]; exact (Un.ck_zero.1 h).2.1
 have L1 : Hid (U1.ck = 0 → n1 = 60) := fun h => by rw [← l1]; exact (Un.ck_zero.1 h).2.1
 have L2 : Hid (U2.ck = 0 → n2 = 60) := fun h => by rw [← l2]; exact (Un.ck_zero.1 h).2.1
 have HC : Hid (ck3 U0 U1 U2 = if U0.ck ≠ 0 then U0.ck else if U1.ck ≠ 0 then U1.ck else if U2.ck ≠ 0 then U2.ck else if ¬ Within U1.cells U0.cells then 4 else if ¬ Within U2.cells U1.cells then 4 else 0) := rfl
 obtain ⟨cc, HCC⟩ : ∃ cc, Hid (ck3 U0 U1 U2 = cc) := ⟨_, rfl⟩
 rw [HCC.out] at HC ⊢
 clear hE h0 h1 h2 l0 l1 l2 HCC
 go_enter Tryz.func169, Tryz.ntmps169
 go_wp2
 go_loopw [12] (fun i wr => ∃ k : Nat, ((k = 0 ∧ i = .int .i64 0) ∨ (k = 1 ∧ i = .int .i64 1) ∨ (k = 2 ∧ i = .int .i64 2) ∨ (k = 3 ∧ i = .int .i64 3)) ∧ Below w.heap.size w wr ∧ Hid ((1 ≤ k → U0.ck = 0) ∧ (2 ≤ k → U1.ck = 0) ∧ (3 ≤ k → U2.ck = 0))) (fun i _ => 3 - (intOf i).toNat)
 case atStart => exact ⟨0, Or.inl ⟨rfl, rfl⟩, Below.refl _ _, ⟨fun h => (by omega), fun h => (by omega), fun h => (by omega)⟩⟩
 case round =>
  obtain ⟨k, hk', hB, hst⟩ := hrel
  obtain ⟨⟨p0, s0⟩, ⟨p1, s1⟩, ⟨p2, s2⟩⟩ := row_three (HE.out _ hB)
  rcases hk' with ⟨rfl, rfl⟩ | ⟨rfl, rfl⟩ | ⟨rfl, rfl⟩ | ⟨rfl, rfl⟩
  · have hB1 := grew hB (boxU U0.p (.slice a0 n0 c0))
   have kc := unitCheck_any _ U0 _ (H0.out _ hB1).ents
   have HB1 : Aside _ := hB1
   have HS : Hid _ := hst.out
   obtain ⟨d, HD⟩ : ∃ d, Hid (U0.ck = d) := ⟨_, rfl⟩
   rw [HD.out] at kc
   clear hB hB1
   by_cases hd : d = 0
   · have hdb : (d != 0) = false := by rw [hd]; rfl
    have HZ : Hid (U0.ck = 0) := by rw [Hid, HD.out]; exact hd
    clear hd
    go_wp2_with fail
    refine kc.mono ?_
    rintro e w1 ⟨rfl, hb1⟩
    have HB2 : Aside _ := step_below1 HB1.out hb1
    clear kc HB1 p0 s0 p1 s1 p2 s2 hb1
    go_wp2
    go_roundw
    case rel => exact ⟨1, Or.inr (Or.inl ⟨rfl, rfl⟩), HB2.out, ⟨fun _ => HZ.out, fun h => (by omega), fun h => (by omega)⟩⟩
    case measure => simp [intOf]
   · have hdb : (d != 0) = true := by rw [bne_iff_ne]; exact hd
    have HR : Hid (cc = d) := by rw [Hid, HC.out, if_pos (by rw [HD.out]; exact hd), HD.out]
    clear hd HC
    go_wp2_with fail
    refine kc.mono ?_
    rintro e w1 ⟨rfl, hb1⟩
    have HB2 : Aside _ := step_below1 HB1.out hb1
    clear kc HB1 p0 s0 p1 s1 p2 s2 hb1
    go_wp2
    go_ret
    exact ⟨by rw [HR.out]; rfl, HB2.out⟩
  · have hB1 := grew hB (boxU U1.p (.slice a1 n1 c1))
   have kc := unitCheck_any _ U1 _ (H1.out _ hB1).ents
   have HB1 : Aside _ := hB1
   have HS : Hid _ := hst.out
   obtain ⟨d, HD⟩ : ∃ d, Hid (U1.ck = d) := ⟨_, rfl⟩
   rw [HD.out] at kc
   clear hB hB1
   by_cases hd : d = 0
   · have hdb : (d != 0) = false := by rw [hd]; rfl
    have HZ : Hid (U1.ck = 0) := by rw [Hid, HD.out]; exact hd
    clear hd
    go_wp2_with fail
    refine kc.mono ?_
    rintro e w1 ⟨rfl, hb1⟩
    have HB2 : Aside _ := step_below1 HB1.out hb1
    clear kc HB1 p0 s0 p1 s1 p2 s2 hb1
    go_wp2
    go_roundw
    case rel => exact ⟨2, Or.inr (Or.inr (Or.inl ⟨rfl, rfl⟩)), HB2.out, ⟨fun _ => HS.out.1 (by omega), fun _ => HZ.out, fun h => (by omega)⟩⟩
    case measure => simp [intOf]
   · have hdb : (d != 0) = true := by rw [bne_iff_ne]; exact hd
    have HR : Hid (cc = d) := by rw [Hid, HC.out, if_neg (by simpa using hst.out.1 (by omega)), if_pos (by rw [HD.out]; exact hd), HD.out]
    clear hd HC
    go_wp2_with fail
    refine kc.mono ?_
    rintro e w1 ⟨rfl, hb1⟩
    have HB2 : Aside _ := step_below1 HB1.out hb1
    clear kc HB1 p0 s0 p1 s1 p2 s2 hb1
    go_wp2
    go_ret
    exact ⟨by rw [HR.out]; rfl, HB2.out⟩
  · have hB1 := grew hB (boxU U2.p (.slice a2 n2 c2))
   have kc := unitCheck_any _ U2 _ (H2.out _ hB1).ents
   have HB1 : Aside _ := hB1
   have HS : Hid _ := hst.out
   obtain ⟨d, HD⟩ : ∃ d, Hid (U2.ck = d) := ⟨_, rfl⟩
   rw [HD.out] at kc
   clear hB hB1
   by_cases hd : d = 0
   · have hdb : (d != 0) = false := by rw [hd]; rfl
    have HZ : Hid (U2.ck = 0) := by rw [Hid, HD.out]; exact hd
    clear hd
    go_wp2_with fail
    refine kc.mono ?_
    rintro e w1 ⟨rfl, hb1⟩
    have HB2 : Aside _ := step_below1 HB1.out hb1
    clear kc HB1 p0 s0 p1 s1 p2 s2 hb1
    go_wp2
    go_roundw
    case rel => exact ⟨3, Or.inr (Or.inr (Or.inr ⟨rfl, rfl⟩)), HB2.out, ⟨fun _ => HS.out.1 (by omega), fun _ => HS.out.2.1 (by omega), fun _ => HZ.out⟩⟩
    case measure => simp [intOf]
   · have hdb : (d != 0) = true := by rw [bne_iff_ne]; exact hd
    have HR : Hid (cc = d) := by rw [Hid, HC.out, if_neg (by simpa using hst.out.1 (by omega)), if_neg (by simpa using hst.out.2.1 (by omega)), if_pos (by rw [HD.out]; exact hd), HD.out]
    clear hd HC
    go_wp2_with fail
    refine kc.mono ?_
    rintro e w1 ⟨rfl, hb1⟩
    have HB2 : Aside _ := step_below1 HB1.out hb1
    clear kc HB1 p0 s0 p1 s1 p2 s2 hb1
    go_wp2
    go_ret
    exact ⟨by rw [HR.out]; rfl, HB2.out⟩
  · have z0 := hst.out.1 (by omega)
   have z1 := hst.out.2.1 (by omega)
   have z2 := hst.out.2.2 (by omega)
   obtain rfl := L0.out z0
   obtain rfl := L1.out z1
   obtain rfl := L2.out z2
   have HZ : Hid (U0.ck = 0 ∧ U1.ck = 0 ∧ U2.ck = 0) := ⟨z0, z1, z2⟩
   have HC2 : Hid (cc = if ¬ Within U1.cells U0.cells then 4 else if ¬ Within U2.cells U1.cells then 4 else 0) := by
    rw [Hid, HC.out, if_neg (by simpa using z0), if_neg (by simpa using z1), if_neg (by simpa using z2)]
   have HB2 : Aside (Below w.heap.size w wr) := hB
   clear hst HC z0 z1 z2 p0 s0 p1 s1 p2 s2 hB L0 L1 L2
   go_wp2
   go_loopw [6] (fun i wr => ∃ k : Nat, ((k = 1 ∧ i = .int .i64 1) ∨ (k = 2 ∧ i = .int .i64 2) ∨ (k = 3 ∧ i = .int .i64 3)) ∧ Below w.heap.size w wr ∧ Hid ((2 ≤ k → Within U1.cells U0.cells) ∧ (3 ≤ k → Within U2.cells U1.cells))) (fun i _ => 3 - (intOf i).toNat)
   case atStart => exact ⟨1, Or.inl ⟨rfl, rfl⟩, HB2.out, ⟨fun h => (by omega), fun h => (by omega)⟩⟩
   case round =>
    clear HB2
    obtain ⟨k, hk', hB, hst⟩ := hrel
    obtain ⟨⟨p0, s0⟩, ⟨p1, s1⟩, ⟨p2, s2⟩⟩ := row_three (HE.out _ hB)
    have hwr0 : IntKind.i64.wrap 0 = 0 := rfl
    have hwr1 : IntKind.i64.wrap 1 = 1 := rfl
    rcases hk' with ⟨rfl, rfl⟩ | ⟨rfl, rfl⟩ | ⟨rfl, rfl⟩
    · have kw := fun W (h : Below wr.heap.size wr W) => follows_any a1 a0 c1 c0 U1.p U0.p U1.cells U0.cells W (H1.out W (hB.trans (h.mono hB.size))).ents (H0.out W (hB.trans (h.mono hB.size))).ents (Un.ck_zero.1 HZ.out.2.1).2.1 (Un.ck_zero.1 HZ.out.1).2.1
     have hS0 : TrS wr wr b (off + 2) (off) U1.p U0.p (.slice a1 60 c1) (.slice a0 60 c0) := ⟨Below.refl _ _, p1, s1, p0, s0⟩
     have hbd : Below wr.heap.size wr wr.drew := (Below.refl _ _).drew
     have HB3 : Aside _ := hB
     have HS : Hid _ := hst.out
     by_cases hw : Within U1.cells U0.cells
     · rw [decide_eq_true hw] at kw
      have HW : Hid (Within U1.cells U0.cells) := hw
      clear hw hB hst p0 s0 p1 s1 p2 s2
      go_wp2_with fail
      go_region_held3 (fun w' => TrS wr w' b (off + 2) (off) U1.p U0.p (.slice a1 60 c1) (.slice a0 60 c0)) (exact trS_step (by assumption) (by assumption)) (first | (go_at_call 199; refine (kw _ (by exact (‹TrS _ _ _ _ _ _ _ _ _›).1)).mono ?_; rintro e y1 ⟨rfl, hb2⟩))
      rename_i hHeld
      have HB4 : Aside (Below w.heap.size w _) := HB3.out.trans (hHeld.1.mono HB3.out.size)
      clear hHeld hS0 hbd kw
      go_wp2
      go_roundw
      case rel => exact ⟨2, Or.inr (Or.inl ⟨rfl, rfl⟩), HB4.out, ⟨fun _ => HW.out, fun h => (by omega)⟩⟩
      case measure => simp [intOf]
     · rw [decide_eq_false hw] at kw
      have HR : Hid (cc = 4) := by rw [Hid, HC2.out, if_pos hw]
      clear hw hB hst HC2 p0 s0 p1 s1 p2 s2
      go_wp2_with fail
      go_region_held3 (fun w' => TrS wr w' b (off + 2) (off) U1.p U0.p (.slice a1 60 c1) (.slice a0 60 c0)) (exact trS_step (by assumption) (by assumption)) (first | (go_at_call 199; refine (kw _ (by exact (‹TrS _ _ _ _ _ _ _ _ _›).1)).mono ?_; rintro e y1 ⟨rfl, hb2⟩))
      rename_i hHeld
      have HB4 : Aside (Below w.heap.size w _) := HB3.out.trans (hHeld.1.mono HB3.out.size)
      clear hHeld hS0 hbd kw
      go_wp2
      go_ret
      exact ⟨by rw [HR.out]; rfl, HB4.out⟩
    · have kw := fun W (h : Below wr.heap.size wr W) => follows_any a2 a1 c2 c1 U2.p U1.p U2.cells U1.cells W (H2.out W (hB.trans (h.mono hB.size))).ents (H1.out W (hB.trans (h.mono hB.size))).ents (Un.ck_zero.1 HZ.out.2.2).2.1 (Un.ck_zero.1 HZ.out.2.1).2.1
     have hS0 : TrS wr wr b (off + 4) (off + 2) U2.p U1.p (.slice a2 60 c2) (.slice a1 60 c1) := ⟨Below.refl _ _, p2, s2, p1, s1⟩
     have hbd : Below wr.heap.size wr wr.drew := (Below.refl _ _).drew
     have HB3 : Aside _ := hB
     have HS : Hid _ := hst.out
     by_cases hw : Within U2.cells U1.cells
     · rw [decide_eq_true hw] at kw
      have HW : Hid (Within U2.cells U1.cells) := hw
      clear hw hB hst p0 s0 p1 s1 p2 s2
      go_wp2_with fail
      go_region_held3 (fun w' => TrS wr w' b (off + 4) (off + 2) U2.p U1.p (.slice a2 60 c2) (.slice a1 60 c1)) (exact trS_step (by assumption) (by assumption)) (first | (go_at_call 199; refine (kw _ (by exact (‹TrS _ _ _ _ _ _ _ _ _›).1)).mono ?_; rintro e y1 ⟨rfl, hb2⟩))
      rename_i hHeld
      have HB4 : Aside (Below w.heap.size w _) := HB3.out.trans (hHeld.1.mono HB3.out.size)
      clear hHeld hS0 hbd kw
      go_wp2
      go_roundw
      case rel => exact ⟨3, Or.inr (Or.inr ⟨rfl, rfl⟩), HB4.out, ⟨fun _ => HS.out.1 (by omega), fun _ => HW.out⟩⟩
      case measure => simp [intOf]
     · rw [decide_eq_false hw] at kw
      have HR : Hid (cc = 4) := by rw [Hid, HC2.out, if_neg (by simpa using hst.out.1 (by omega)), if_pos hw]
      clear hw hB hst HC2 p0 s0 p1 s1 p2 s2
      go_wp2_with fail
      go_region_held3 (fun w' => TrS wr w' b (off + 4) (off + 2) U2.p U1.p (.slice a2 60 c2) (.slice a1 60 c1)) (exact trS_step (by assumption) (by assumption)) (first | (go_at_call 199; refine (kw _ (by exact (‹TrS _ _ _ _ _ _ _ _ _›).1)).mono ?_; rintro e y1 ⟨rfl, hb2⟩))
      rename_i hHeld
      have HB4 : Aside (Below w.heap.size w _) := HB3.out.trans (hHeld.1.mono HB3.out.size)
      clear hHeld hS0 hbd kw
      go_wp2
      go_ret
      exact ⟨by rw [HR.out]; rfl, HB4.out⟩
    · have HR : Hid (cc = 0) := by rw [Hid, HC2.out, if_neg (by simpa using hst.out.1 (by omega)), if_neg (by simpa using hst.out.2 (by omega))]
     have HB3 : Aside _ := hB
     clear hst HC2 p0 s0 p1 s1 p2 s2 hB
     go_wp2
     go_ret
     exact ⟨by rw [HR.out]; rfl, HB3.out⟩
theorem ckChain_other {us : List Un} (h : us.length ≠ 3) : ckChain us = 4 := by
 match us, h with
 | [], _ => rfl
 | [_], _ => rfl
 | [_, _], _ => rfl
 | [_, _, _], h => exact absurd rfl h
 | _ :: _ :: _ :: _ :: _, _ => rfl
theorem chCheck_any (v : Value) (xs : List Ub) (w : World) (h : ChAt w v xs) :
  Calls Tryz.prog 169 #[v] w fun e w' => e = .returned (.int .i64 (ckChain (unitsOf xs))) ∧ Below w.heap.size w w' := by
 obtain ⟨a, n, c, rfl, _⟩ := id h.room
 have hl := h.rows.len
 by_cases hn : n = 3
 · subst hn
  obtain ⟨u0, u1, u2, a0, n0, c0, a1, n1, c1, a2, n2, c2, b, off, rfl, rfl, hE, ⟨g0, g1, g2⟩, l0, l1, l2⟩ := three_of h
  exact chCheck3 b off c u0 u1 u2 a0 a1 a2 n0 c0 n1 c1 n2 c2 w hE g0 g1 g2 l0 l1 l2
 · rw [ckChain_other (by rw [List.length_map]; omega)]
  have hnb : ((n : Int) != 3) = true := by rw [bne_iff_ne]; omega
  clear h hl hn
  go_enter Tryz.func169, Tryz.ntmps169
  go_wp2
  go_ret
  exact ⟨rfl, Below.refl _ _⟩
end
section
open scoped Classical
theorem linkOf_err (us : List Un) (k a : Int) (x : En) (ep : Int) : (linkOf us k a x ep).2.2 = if ckChain us ≠ 0 then ckChain us else if ¬ (0 ≤ k ∧ k ≤ 2) ∨ ¬ (0 ≤ a ∧ a ≤ 59) then 5 else if x.chk ≠ 0 then x.chk else if (us.getD k.toNat Un.zero).p ≠ ep then 8 else if 1 ≤ k ∧ ¬ x = plc us (k.toNat - 1) a.toNat then 7 else 0 := by
 unfold linkOf
 iterate 5 (split; · rfl)
 split <;> rfl
theorem linkOf_bad {us : List Un} {k a : Int} {x : En} {ep : Int} (h : (linkOf us k a x ep).2.2 ≠ 0) : linkOf us k a x ep = (Rc.zero, En.zero, (linkOf us k a x ep).2.2) := by
 unfold linkOf at h ⊢
 by_cases h1 : ckChain us ≠ 0
 · rw [if_pos h1]
 · rw [if_neg h1] at h ⊢
  by_cases h2 : ¬ (0 ≤ k ∧ k ≤ 2) ∨ ¬ (0 ≤ a ∧ a ≤ 59)
  · rw [if_pos h2]
  · rw [if_neg h2] at h ⊢
   by_cases h3 : x.chk ≠ 0
   · rw [if_pos h3]
   · rw [if_neg h3] at h ⊢
    by_cases h4 : (us.getD k.toNat Un.zero).p ≠ ep
    · rw [if_pos h4]
    · rw [if_neg h4] at h ⊢
     by_cases h5 : 1 ≤ k ∧ ¬ x = plc us (k.toNat - 1) a.toNat
     · rw [if_pos h5]
     · rw [if_neg h5] at h
      split at h <;> exact absurd rfl h
theorem may_ck (v : Value) (xs : List Ub) (k a ep : Int) (x : En) (w : World) (h : ChAt w v xs) (d : Int) (hd : ckChain (unitsOf xs) = d) (hz : (d != 0) = true) :
  Calls Tryz.prog 132 #[v, .int .i64 k, .int .i64 a, x.val, .int .i64 ep] w fun e w' => e = .returned (.int .i64 (d)) ∧ Below w.heap.size w w' := by
 have HB0 : Aside (Below w.heap.size w (w.alloc (boxE x.k x.j x.v x.t x.c))) := grew (Below.refl _ _) _
 have HX0 : Aside ((w.alloc (boxE x.k x.j x.v x.t x.c)).heap[w.heap.size]? = some (boxE x.k x.j x.v x.t x.c)) := heap_new _ _
 have hck := chCheck_any v xs _ (h.later HB0.out)
 rw [hd] at hck
 clear h hd
 go_enter Tryz.func132, Tryz.ntmps132
 go_wp2_with fail
 refine hck.mono ?_
 rintro e w1 ⟨rfl, hb1⟩
 have HX1 : Aside _ := heap_below HX0.out hb1 (heap_lt HX0.out)
 have HB1 : Aside _ := step_below1 HB0.out hb1
 clear hb1 HX0 HB0
 clear hck
 go_wp2
 go_ret
 exact ⟨rfl, HB1.out⟩
theorem may_who (b off c : Nat) (k a ep : Int) (x : En) (xs : List Ub) (w : World) (h : ChAt w (.slice (some ⟨b, off, none⟩) 3 c) xs) (hd : ckChain (unitsOf xs) = 0) (hr : k < 0 ∨ (¬ k < 0 ∧ 3 ≤ k) ∨ (¬ k < 0 ∧ ¬ 3 ≤ k ∧ ¬ (0 ≤ a ∧ a ≤ 59))) :
  Calls Tryz.prog 132 #[.slice (some ⟨b, off, none⟩) 3 c, .int .i64 k, .int .i64 a, x.val, .int .i64 ep] w fun e w' => e = .returned (.int .i64 (5)) ∧ Below w.heap.size w w' := by
 have HB0 : Aside (Below w.heap.size w (w.alloc (boxE x.k x.j x.v x.t x.c))) := grew (Below.refl _ _) _
 have HX0 : Aside ((w.alloc (boxE x.k x.j x.v x.t x.c)).heap[w.heap.size]? = some (boxE x.k x.j x.v x.t x.c)) := heap_new _ _
 have hck := chCheck_any _ xs _ (h.later HB0.out)
 rw [hd] at hck
 clear h hd
 go_enter Tryz.func132, Tryz.ntmps132
 go_wp2_with fail
 refine hck.mono ?_
 rintro e w1 ⟨rfl, hb1⟩
 have HX1 : Aside _ := heap_below HX0.out hb1 (heap_lt HX0.out)
 have HB1 : Aside _ := step_below1 HB0.out hb1
 clear hb1 HX0 HB0
 clear hck
 rcases hr with hr | ⟨hr, hr2⟩ | ⟨hr, hr2, hr3⟩
 · go_wp2
  go_ret
  exact ⟨rfl, HB1.out⟩
 · go_wp2
  go_ret
  exact ⟨rfl, HB1.out⟩
 · have kp := fun W => isPlace_any a W
  rw [decide_eq_false hr3] at kp
  clear hr3
  go_wp2_with fail
  refine (kp _).mono ?_
  rintro e w2 ⟨rfl, rfl⟩
  go_wp2
  go_ret
  exact ⟨rfl, HB1.out⟩
theorem may_chk (b off c : Nat) (k a ep : Int) (x : En) (xs : List Ub) (w : World) (h : ChAt w (.slice (some ⟨b, off, none⟩) 3 c) xs) (hd : ckChain (unitsOf xs) = 0) (hk : ¬ k < 0) (hk2 : ¬ 3 ≤ k) (ha : 0 ≤ a ∧ a ≤ 59) (d : Int) (hx : x.chk = d) (hz : (d != 0) = true) :
  Calls Tryz.prog 132 #[.slice (some ⟨b, off, none⟩) 3 c, .int .i64 k, .int .i64 a, x.val, .int .i64 ep] w fun e w' => e = .returned (.int .i64 (d)) ∧ Below w.heap.size w w' := by
 have HB0 : Aside (Below w.heap.size w (w.alloc (boxE x.k x.j x.v x.t x.c))) := grew (Below.refl _ _) _
 have HX0 : Aside ((w.alloc (boxE x.k x.j x.v x.t x.c)).heap[w.heap.size]? = some (boxE x.k x.j x.v x.t x.c)) := heap_new _ _
 have hck := chCheck_any _ xs _ (h.later HB0.out)
 rw [hd] at hck
 have kp := fun W => isPlace_any a W
 rw [decide_eq_true ha] at kp
 have hce : ∀ W, Calls Tryz.prog 115 #[ev x.k x.j x.v x.t x.c] W fun e w' => e = .returned (.int .i64 x.chk) ∧ Below W.heap.size W w' := fun W => check_any x.k x.j x.v x.t x.c W
 rw [hx] at hce
 clear h hd ha hx
 go_enter Tryz.func132, Tryz.ntmps132
 go_wp2_with fail
 refine hck.mono ?_
 rintro e w1 ⟨rfl, hb1⟩
 have HX1 : Aside _ := heap_below HX0.out hb1 (heap_lt HX0.out)
 have HB1 : Aside _ := step_below1 HB0.out hb1
 clear hb1 HX0 HB0
 clear hck
 go_wp2_with fail
 refine (kp _).mono ?_
 rintro e w1 ⟨rfl, rfl⟩
 have zx := fun i => Joins.cell_of_block HX1.out i
 go_wp2_with fail
 refine (hce _).mono ?_
 rintro e w3 ⟨rfl, hb3⟩
 have HX3 : Aside _ := heap_below HX1.out hb3 (heap_lt HX1.out)
 have HB3 : Aside _ := step_below1 HB1.out hb3
 clear hb3 HX1 HB1
 clear hce zx kp
 go_wp2
 go_ret
 exact ⟨rfl, HB3.out⟩
theorem may0_old (b off c m : Nat) (ep : Int) (x : En) (U0 U1 U2 : Un) (a0 a1 a2 : Option Addr) (c0 c1 c2 : Nat) (w : World) (hch : ChAt w (.slice (some ⟨b, off, none⟩) 3 c) [⟨U0, .slice a0 60 c0⟩, ⟨U1, .slice a1 60 c1⟩, ⟨U2, .slice a2 60 c2⟩]) (hd : ckChain [U0, U1, U2] = 0) (hm : m < 60) (hx : x.chk = 0) (hep : (ep != U0.p) = true) :
  Calls Tryz.prog 132 #[.slice (some ⟨b, off, none⟩) 3 c, .int .i64 0, .int .i64 (m : Int), x.val, .int .i64 ep] w fun e w' => e = .returned (.int .i64 (8)) ∧ Below w.heap.size w w' := by
 have HB0 : Aside (Below w.heap.size w (w.alloc (boxE x.k x.j x.v x.t x.c))) := grew (Below.refl _ _) _
 have HX0 : Aside ((w.alloc (boxE x.k x.j x.v x.t x.c)).heap[w.heap.size]? = some (boxE x.k x.j x.v x.t x.c)) := heap_new _ _
 have hck := chCheck_any _ _ _ (hch.later HB0.out)
 rw [show ckChain (unitsOf [⟨U0, .slice a0 60 c0⟩, ⟨U1, .slice a1 60 c1⟩, ⟨U2, .slice a2 60 c2⟩]) = 0 from hd] at hck
 have kp := fun W => isPlace_any (m : Int) W
 rw [decide_eq_true (by omega)] at kp
 have hce : ∀ W, Calls Tryz.prog 115 #[ev x.k x.j x.v x.t x.c] W fun e w' => e = .returned (.int .i64 x.chk) ∧ Below W.heap.size W w' := fun W => check_any x.k x.j x.v x.t x.c W
 rw [hx] at hce
 have HCH : Aside (ChAt w (.slice (some ⟨b, off, none⟩) 3 c) [⟨U0, .slice a0 60 c0⟩, ⟨U1, .slice a1 60 c1⟩, ⟨U2, .slice a2 60 c2⟩]) := hch
 have hmi : (m : Int) < 60 := by omega
 have hm0 : (0 : Int) ≤ (m : Int) := by omega
 clear hch hd hx
 go_enter Tryz.func132, Tryz.ntmps132
 go_wp2_with fail
 refine hck.mono ?_
 rintro e w1 ⟨rfl, hb1⟩
 have HX1 : Aside _ := heap_below HX0.out hb1 (heap_lt HX0.out)
 have HB1 : Aside _ := step_below1 HB0.out hb1
 clear hb1 HX0 HB0
 clear hck
 go_wp2_with fail
 refine (kp _).mono ?_
 rintro e w1 ⟨rfl, rfl⟩
 have zx := fun i => Joins.cell_of_block HX1.out i
 go_wp2_with fail
 refine (hce _).mono ?_
 rintro e w3 ⟨rfl, hb3⟩
 have HX3 : Aside _ := heap_below HX1.out hb3 (heap_lt HX1.out)
 have HB3 : Aside _ := step_below1 HB1.out hb3
 clear hb3 HX1 HB1
 clear hce zx kp
 have hc3 := HCH.out.later HB3.out
 obtain ⟨b3, off3, eb3, hrow3⟩ := hc3.rows.at (by omega)
 injection eb3 with eb3
 injection eb3 with eb4 eb5 _
 subst eb4 eb5
 obtain ⟨⟨p0, s0⟩, ⟨p1, s1⟩, ⟨p2, s2⟩⟩ := row_three hrow3
 clear hrow3 hc3 HCH
 go_wp2
 go_ret
 exact ⟨rfl, HB3.out⟩
theorem may0_ok (b off c m : Nat) (ep : Int) (x : En) (U0 U1 U2 : Un) (a0 a1 a2 : Option Addr) (c0 c1 c2 : Nat) (w : World) (hch : ChAt w (.slice (some ⟨b, off, none⟩) 3 c) [⟨U0, .slice a0 60 c0⟩, ⟨U1, .slice a1 60 c1⟩, ⟨U2, .slice a2 60 c2⟩]) (hd : ckChain [U0, U1, U2] = 0) (hm : m < 60) (hx : x.chk = 0) (hep : (ep != U0.p) = false) :
  Calls Tryz.prog 132 #[.slice (some ⟨b, off, none⟩) 3 c, .int .i64 0, .int .i64 (m : Int), x.val, .int .i64 ep] w fun e w' => e = .returned (.int .i64 (0)) ∧ Below w.heap.size w w' := by
 have HB0 : Aside (Below w.heap.size w (w.alloc (boxE x.k x.j x.v x.t x.c))) := grew (Below.refl _ _) _
 have HX0 : Aside ((w.alloc (boxE x.k x.j x.v x.t x.c)).heap[w.heap.size]? = some (boxE x.k x.j x.v x.t x.c)) := heap_new _ _
 have hck := chCheck_any _ _ _ (hch.later HB0.out)
 rw [show ckChain (unitsOf [⟨U0, .slice a0 60 c0⟩, ⟨U1, .slice a1 60 c1⟩, ⟨U2, .slice a2 60 c2⟩]) = 0 from hd] at hck
 have kp := fun W => isPlace_any (m : Int) W
 rw [decide_eq_true (by omega)] at kp
 have hce : ∀ W, Calls Tryz.prog 115 #[ev x.k x.j x.v x.t x.c] W fun e w' => e = .returned (.int .i64 x.chk) ∧ Below W.heap.size W w' := fun W => check_any x.k x.j x.v x.t x.c W
 rw [hx] at hce
 have HCH : Aside (ChAt w (.slice (some ⟨b, off, none⟩) 3 c) [⟨U0, .slice a0 60 c0⟩, ⟨U1, .slice a1 60 c1⟩, ⟨U2, .slice a2 60 c2⟩]) := hch
 have hmi : (m : Int) < 60 := by omega
 have hm0 : (0 : Int) ≤ (m : Int) := by omega
 clear hch hd hx
 go_enter Tryz.func132, Tryz.ntmps132
 go_wp2_with fail
 refine hck.mono ?_
 rintro e w1 ⟨rfl, hb1⟩
 have HX1 : Aside _ := heap_below HX0.out hb1 (heap_lt HX0.out)
 have HB1 : Aside _ := step_below1 HB0.out hb1
 clear hb1 HX0 HB0
 clear hck
 go_wp2_with fail
 refine (kp _).mono ?_
 rintro e w1 ⟨rfl, rfl⟩
 have zx := fun i => Joins.cell_of_block HX1.out i
 go_wp2_with fail
 refine (hce _).mono ?_
 rintro e w3 ⟨rfl, hb3⟩
 have HX3 : Aside _ := heap_below HX1.out hb3 (heap_lt HX1.out)
 have HB3 : Aside _ := step_below1 HB1.out hb3
 clear hb3 HX1 HB1
 clear hce zx kp
 have hc3 := HCH.out.later HB3.out
 obtain ⟨b3, off3, eb3, hrow3⟩ := hc3.rows.at (by omega)
 injection eb3 with eb3
 injection eb3 with eb4 eb5 _
 subst eb4 eb5
 obtain ⟨⟨p0, s0⟩, ⟨p1, s1⟩, ⟨p2, s2⟩⟩ := row_three hrow3
 clear hrow3 hc3 HCH
 have zx := fun i => Joins.cell_of_block HX3.out i
 go_wp2_with fail
 go_quiet (fail)
 go_wp2
 go_ret
 exact ⟨rfl, below_drewN HB3.out _⟩
theorem may1_old (b off c m : Nat) (ep : Int) (x : En) (U0 U1 U2 : Un) (a0 a1 a2 : Option Addr) (c0 c1 c2 : Nat) (w : World) (hch : ChAt w (.slice (some ⟨b, off, none⟩) 3 c) [⟨U0, .slice a0 60 c0⟩, ⟨U1, .slice a1 60 c1⟩, ⟨U2, .slice a2 60 c2⟩]) (hd : ckChain [U0, U1, U2] = 0) (hm : m < 60) (hx : x.chk = 0) (hep : (ep != U1.p) = true) :
  Calls Tryz.prog 132 #[.slice (some ⟨b, off, none⟩) 3 c, .int .i64 1, .int .i64 (m : Int), x.val, .int .i64 ep] w fun e w' => e = .returned (.int .i64 (8)) ∧ Below w.heap.size w w' := by
 have HB0 : Aside (Below w.heap.size w (w.alloc (boxE x.k x.j x.v x.t x.c))) := grew (Below.refl _ _) _
 have HX0 : Aside ((w.alloc (boxE x.k x.j x.v x.t x.c)).heap[w.heap.size]? = some (boxE x.k x.j x.v x.t x.c)) := heap_new _ _
 have hck := chCheck_any _ _ _ (hch.later HB0.out)
 rw [show ckChain (unitsOf [⟨U0, .slice a0 60 c0⟩, ⟨U1, .slice a1 60 c1⟩, ⟨U2, .slice a2 60 c2⟩]) = 0 from hd] at hck
 have kp := fun W => isPlace_any (m : Int) W
 rw [decide_eq_true (by omega)] at kp
 have hce : ∀ W, Calls Tryz.prog 115 #[ev x.k x.j x.v x.t x.c] W fun e w' => e = .returned (.int .i64 x.chk) ∧ Below W.heap.size W w' := fun W => check_any x.k x.j x.v x.t x.c W
 rw [hx] at hce
 have HCH : Aside (ChAt w (.slice (some ⟨b, off, none⟩) 3 c) [⟨U0, .slice a0 60 c0⟩, ⟨U1, .slice a1 60 c1⟩, ⟨U2, .slice a2 60 c2⟩]) := hch
 have hmi : (m : Int) < 60 := by omega
 have hm0 : (0 : Int) ≤ (m : Int) := by omega
 clear hch hd hx
 go_enter Tryz.func132, Tryz.ntmps132
 go_wp2_with fail
 refine hck.mono ?_
 rintro e w1 ⟨rfl, hb1⟩
 have HX1 : Aside _ := heap_below HX0.out hb1 (heap_lt HX0.out)
 have HB1 : Aside _ := step_below1 HB0.out hb1
 clear hb1 HX0 HB0
 clear hck
 go_wp2_with fail
 refine (kp _).mono ?_
 rintro e w1 ⟨rfl, rfl⟩
 have zx := fun i => Joins.cell_of_block HX1.out i
 go_wp2_with fail
 refine (hce _).mono ?_
 rintro e w3 ⟨rfl, hb3⟩
 have HX3 : Aside _ := heap_below HX1.out hb3 (heap_lt HX1.out)
 have HB3 : Aside _ := step_below1 HB1.out hb3
 clear hb3 HX1 HB1
 clear hce zx kp
 have hc3 := HCH.out.later HB3.out
 obtain ⟨b3, off3, eb3, hrow3⟩ := hc3.rows.at (by omega)
 injection eb3 with eb3
 injection eb3 with eb4 eb5 _
 subst eb4 eb5
 obtain ⟨⟨p0, s0⟩, ⟨p1, s1⟩, ⟨p2, s2⟩⟩ := row_three hrow3
 clear hrow3 hc3 HCH
 go_wp2
 go_ret
 exact ⟨rfl, HB3.out⟩
theorem may1_late (b off c m : Nat) (ep : Int) (x : En) (U0 U1 U2 : Un) (a0 a1 a2 : Option Addr) (c0 c1 c2 : Nat) (w : World) (hch : ChAt w (.slice (some ⟨b, off, none⟩) 3 c) [⟨U0, .slice a0 60 c0⟩, ⟨U1, .slice a1 60 c1⟩, ⟨U2, .slice a2 60 c2⟩]) (hd : ckChain [U0, U1, U2] = 0) (hm : m < 60) (hx : x.chk = 0) (z : En) (hzz : U0.cells[m]? = some z) (hep : (ep != U1.p) = false) (hun : unlike z.k z.j z.v z.t z.c x.k x.j x.v x.t x.c = true) :
  Calls Tryz.prog 132 #[.slice (some ⟨b, off, none⟩) 3 c, .int .i64 1, .int .i64 (m : Int), x.val, .int .i64 ep] w fun e w' => e = .returned (.int .i64 (7)) ∧ Below w.heap.size w w' := by
 have HB0 : Aside (Below w.heap.size w (w.alloc (boxE x.k x.j x.v x.t x.c))) := grew (Below.refl _ _) _
 have HX0 : Aside ((w.alloc (boxE x.k x.j x.v x.t x.c)).heap[w.heap.size]? = some (boxE x.k x.j x.v x.t x.c)) := heap_new _ _
 have hck := chCheck_any _ _ _ (hch.later HB0.out)
 rw [show ckChain (unitsOf [⟨U0, .slice a0 60 c0⟩, ⟨U1, .slice a1 60 c1⟩, ⟨U2, .slice a2 60 c2⟩]) = 0 from hd] at hck
 have kp := fun W => isPlace_any (m : Int) W
 rw [decide_eq_true (by omega)] at kp
 have hce : ∀ W, Calls Tryz.prog 115 #[ev x.k x.j x.v x.t x.c] W fun e w' => e = .returned (.int .i64 x.chk) ∧ Below W.heap.size W w' := fun W => check_any x.k x.j x.v x.t x.c W
 rw [hx] at hce
 have HCH : Aside (ChAt w (.slice (some ⟨b, off, none⟩) 3 c) [⟨U0, .slice a0 60 c0⟩, ⟨U1, .slice a1 60 c1⟩, ⟨U2, .slice a2 60 c2⟩]) := hch
 have HZ : Hid (U0.cells[m]? = some z) := hzz
 have hmi : (m : Int) < 60 := by omega
 have hm0 : (0 : Int) ≤ (m : Int) := by omega
 clear hch hd hx hzz
 go_enter Tryz.func132, Tryz.ntmps132
 go_wp2_with fail
 refine hck.mono ?_
 rintro e w1 ⟨rfl, hb1⟩
 have HX1 : Aside _ := heap_below HX0.out hb1 (heap_lt HX0.out)
 have HB1 : Aside _ := step_below1 HB0.out hb1
 clear hb1 HX0 HB0
 clear hck
 go_wp2_with fail
 refine (kp _).mono ?_
 rintro e w1 ⟨rfl, rfl⟩
 have zx := fun i => Joins.cell_of_block HX1.out i
 go_wp2_with fail
 refine (hce _).mono ?_
 rintro e w3 ⟨rfl, hb3⟩
 have HX3 : Aside _ := heap_below HX1.out hb3 (heap_lt HX1.out)
 have HB3 : Aside _ := step_below1 HB1.out hb3
 clear hb3 HX1 HB1
 clear hce zx kp
 have hc3 := HCH.out.later HB3.out
 obtain ⟨b3, off3, eb3, hrow3⟩ := hc3.rows.at (by omega)
 injection eb3 with eb3
 injection eb3 with eb4 eb5 _
 subst eb4 eb5
 obtain ⟨⟨p0, s0⟩, ⟨p1, s1⟩, ⟨p2, s2⟩⟩ := row_three hrow3
 obtain ⟨bz, oz, ez, hEz⟩ := SlOf.at (cs := En.cells) (k := 5) (hc3.each ⟨U0, .slice a0 60 c0⟩ (by simp)).ents (by omega)
 subst ez
 have q0 : w3.cell? ⟨bz, oz + m * 5, none⟩ = some (.int .i64 z.k) := hEz m z HZ.out 0 _ rfl
 have q1 : w3.cell? ⟨bz, oz + m * 5 + 1, none⟩ = some (.int .i64 z.j) := hEz m z HZ.out 1 _ rfl
 have q2 : w3.cell? ⟨bz, oz + m * 5 + 2, none⟩ = some (.int .i64 z.v) := hEz m z HZ.out 2 _ rfl
 have q3 : w3.cell? ⟨bz, oz + m * 5 + 3, none⟩ = some (.int .i64 z.t) := hEz m z HZ.out 3 _ rfl
 have q4 : w3.cell? ⟨bz, oz + m * 5 + 4, none⟩ = some (.int .i64 z.c) := hEz m z HZ.out 4 _ rfl
 have hn1 := fun W => neq_entry z.k z.j z.v z.t z.c x.k x.j x.v x.t x.c W
 rw [hun] at hn1
 have hwr0 : IntKind.i64.wrap 0 = 0 := rfl
 have hwr1 : IntKind.i64.wrap 1 = 1 := rfl
 clear hEz
 clear hrow3 hc3 HCH
 have zx := fun i => Joins.cell_of_block HX3.out i
 go_wp2_with fail
 go_quiet (fail)
 go_wp2
 go_ret
 exact ⟨rfl, below_drewN HB3.out _⟩
theorem may1_ok (b off c m : Nat) (ep : Int) (x : En) (U0 U1 U2 : Un) (a0 a1 a2 : Option Addr) (c0 c1 c2 : Nat) (w : World) (hch : ChAt w (.slice (some ⟨b, off, none⟩) 3 c) [⟨U0, .slice a0 60 c0⟩, ⟨U1, .slice a1 60 c1⟩, ⟨U2, .slice a2 60 c2⟩]) (hd : ckChain [U0, U1, U2] = 0) (hm : m < 60) (hx : x.chk = 0) (z : En) (hzz : U0.cells[m]? = some z) (hep : (ep != U1.p) = false) (hun : unlike z.k z.j z.v z.t z.c x.k x.j x.v x.t x.c = false) :
  Calls Tryz.prog 132 #[.slice (some ⟨b, off, none⟩) 3 c, .int .i64 1, .int .i64 (m : Int), x.val, .int .i64 ep] w fun e w' => e = .returned (.int .i64 (0)) ∧ Below w.heap.size w w' := by
 have HB0 : Aside (Below w.heap.size w (w.alloc (boxE x.k x.j x.v x.t x.c))) := grew (Below.refl _ _) _
 have HX0 : Aside ((w.alloc (boxE x.k x.j x.v x.t x.c)).heap[w.heap.size]? = some (boxE x.k x.j x.v x.t x.c)) := heap_new _ _
 have hck := chCheck_any _ _ _ (hch.later HB0.out)
 rw [show ckChain (unitsOf [⟨U0, .slice a0 60 c0⟩, ⟨U1, .slice a1 60 c1⟩, ⟨U2, .slice a2 60 c2⟩]) = 0 from hd] at hck
 have kp := fun W => isPlace_any (m : Int) W
 rw [decide_eq_true (by omega)] at kp
 have hce : ∀ W, Calls Tryz.prog 115 #[ev x.k x.j x.v x.t x.c] W fun e w' => e = .returned (.int .i64 x.chk) ∧ Below W.heap.size W w' := fun W => check_any x.k x.j x.v x.t x.c W
 rw [hx] at hce
 have HCH : Aside (ChAt w (.slice (some ⟨b, off, none⟩) 3 c) [⟨U0, .slice a0 60 c0⟩, ⟨U1, .slice a1 60 c1⟩, ⟨U2, .slice a2 60 c2⟩]) := hch
 have HZ : Hid (U0.cells[m]? = some z) := hzz
 have hmi : (m : Int) < 60 := by omega
 have hm0 : (0 : Int) ≤ (m : Int) := by omega
 clear hch hd hx hzz
 go_enter Tryz.func132, Tryz.ntmps132
 go_wp2_with fail
 refine hck.mono ?_
 rintro e w1 ⟨rfl, hb1⟩
 have HX1 : Aside _ := heap_below HX0.out hb1 (heap_lt HX0.out)
 have HB1 : Aside _ := step_below1 HB0.out hb1
 clear hb1 HX0 HB0
 clear hck
 go_wp2_with fail
 refine (kp _).mono ?_
 rintro e w1 ⟨rfl, rfl⟩
 have zx := fun i => Joins.cell_of_block HX1.out i
 go_wp2_with fail
 refine (hce _).mono ?_
 rintro e w3 ⟨rfl, hb3⟩
 have HX3 : Aside _ := heap_below HX1.out hb3 (heap_lt HX1.out)
 have HB3 : Aside _ := step_below1 HB1.out hb3
 clear hb3 HX1 HB1
 clear hce zx kp
 have hc3 := HCH.out.later HB3.out
 obtain ⟨b3, off3, eb3, hrow3⟩ := hc3.rows.at (by omega)
 injection eb3 with eb3
 injection eb3 with eb4 eb5 _
 subst eb4 eb5
 obtain ⟨⟨p0, s0⟩, ⟨p1, s1⟩, ⟨p2, s2⟩⟩ := row_three hrow3
 obtain ⟨bz, oz, ez, hEz⟩ := SlOf.at (cs := En.cells) (k := 5) (hc3.each ⟨U0, .slice a0 60 c0⟩ (by simp)).ents (by omega)
 subst ez
 have q0 : w3.cell? ⟨bz, oz + m * 5, none⟩ = some (.int .i64 z.k) := hEz m z HZ.out 0 _ rfl
 have q1 : w3.cell? ⟨bz, oz + m * 5 + 1, none⟩ = some (.int .i64 z.j) := hEz m z HZ.out 1 _ rfl
 have q2 : w3.cell? ⟨bz, oz + m * 5 + 2, none⟩ = some (.int .i64 z.v) := hEz m z HZ.out 2 _ rfl
 have q3 : w3.cell? ⟨bz, oz + m * 5 + 3, none⟩ = some (.int .i64 z.t) := hEz m z HZ.out 3 _ rfl
 have q4 : w3.cell? ⟨bz, oz + m * 5 + 4, none⟩ = some (.int .i64 z.c) := hEz m z HZ.out 4 _ rfl
 have hn1 := fun W => neq_entry z.k z.j z.v z.t z.c x.k x.j x.v x.t x.c W
 rw [hun] at hn1
 have hwr0 : IntKind.i64.wrap 0 = 0 := rfl
 have hwr1 : IntKind.i64.wrap 1 = 1 := rfl
 clear hEz
 clear hrow3 hc3 HCH
 have zx := fun i => Joins.cell_of_block HX3.out i
 go_wp2_with fail
 go_quiet (fail)
 go_wp2
 go_ret
 exact ⟨rfl, below_drewN HB3.out _⟩
theorem may2_old (b off c m : Nat) (ep : Int) (x : En) (U0 U1 U2 : Un) (a0 a1 a2 : Option Addr) (c0 c1 c2 : Nat) (w : World) (hch : ChAt w (.slice (some ⟨b, off, none⟩) 3 c) [⟨U0, .slice a0 60 c0⟩, ⟨U1, .slice a1 60 c1⟩, ⟨U2, .slice a2 60 c2⟩]) (hd : ckChain [U0, U1, U2] = 0) (hm : m < 60) (hx : x.chk = 0) (hep : (ep != U2.p) = true) :
  Calls Tryz.prog 132 #[.slice (some ⟨b, off, none⟩) 3 c, .int .i64 2, .int .i64 (m : Int), x.val, .int .i64 ep] w fun e w' => e = .returned (.int .i64 (8)) ∧ Below w.heap.size w w' := by
 have HB0 : Aside (Below w.heap.size w (w.alloc (boxE x.k x.j x.v x.t x.c))) := grew (Below.refl _ _) _
 have HX0 : Aside ((w.alloc (boxE x.k x.j x.v x.t x.c)).heap[w.heap.size]? = some (boxE x.k x.j x.v x.t x.c)) := heap_new _ _
 have hck := chCheck_any _ _ _ (hch.later HB0.out)
 rw [show ckChain (unitsOf [⟨U0, .slice a0 60 c0⟩, ⟨U1, .slice a1 60 c1⟩, ⟨U2, .slice a2 60 c2⟩]) = 0 from hd] at hck
 have kp := fun W => isPlace_any (m : Int) W
 rw [decide_eq_true (by omega)] at kp
 have hce : ∀ W, Calls Tryz.prog 115 #[ev x.k x.j x.v x.t x.c] W fun e w' => e = .returned (.int .i64 x.chk) ∧ Below W.heap.size W w' := fun W => check_any x.k x.j x.v x.t x.c W
 rw [hx] at hce
 have HCH : Aside (ChAt w (.slice (some ⟨b, off, none⟩) 3 c) [⟨U0, .slice a0 60 c0⟩, ⟨U1, .slice a1 60 c1⟩, ⟨U2, .slice a2 60 c2⟩]) := hch
 have hmi : (m : Int) < 60 := by omega
 have hm0 : (0 : Int) ≤ (m : Int) := by omega
 clear hch hd hx
 go_enter Tryz.func132, Tryz.ntmps132
 go_wp2_with fail
 refine hck.mono ?_
 rintro e w1 ⟨rfl, hb1⟩
 have HX1 : Aside _ := heap_below HX0.out hb1 (heap_lt HX0.out)
 have HB1 : Aside _ := step_below1 HB0.out hb1
 clear hb1 HX0 HB0
 clear hck
 go_wp2_with fail
 refine (kp _).mono ?_
 rintro e w1 ⟨rfl, rfl⟩
 have zx := fun i => Joins.cell_of_block HX1.out i
 go_wp2_with fail
 refine (hce _).mono ?_
 rintro e w3 ⟨rfl, hb3⟩
 have HX3 : Aside _ := heap_below HX1.out hb3 (heap_lt HX1.out)
 have HB3 : Aside _ := step_below1 HB1.out hb3
 clear hb3 HX1 HB1
 clear hce zx kp
 have hc3 := HCH.out.later HB3.out
 obtain ⟨b3, off3, eb3, hrow3⟩ := hc3.rows.at (by omega)
 injection eb3 with eb3
 injection eb3 with eb4 eb5 _
 subst eb4 eb5
 obtain ⟨⟨p0, s0⟩, ⟨p1, s1⟩, ⟨p2, s2⟩⟩ := row_three hrow3
 clear hrow3 hc3 HCH
 go_wp2
 go_ret
 exact ⟨rfl, HB3.out⟩
theorem may2_late (b off c m : Nat) (ep : Int) (x : En) (U0 U1 U2 : Un) (a0 a1 a2 : Option Addr) (c0 c1 c2 : Nat) (w : World) (hch : ChAt w (.slice (some ⟨b, off, none⟩) 3 c) [⟨U0, .slice a0 60 c0⟩, ⟨U1, .slice a1 60 c1⟩, ⟨U2, .slice a2 60 c2⟩]) (hd : ckChain [U0, U1, U2] = 0) (hm : m < 60) (hx : x.chk = 0) (z : En) (hzz : U1.cells[m]? = some z) (hep : (ep != U2.p) = false) (hun : unlike z.k z.j z.v z.t z.c x.k x.j x.v x.t x.c = true) :
  Calls Tryz.prog 132 #[.slice (some ⟨b, off, none⟩) 3 c, .int .i64 2, .int .i64 (m : Int), x.val, .int .i64 ep] w fun e w' => e = .returned (.int .i64 (7)) ∧ Below w.heap.size w w' := by
 have HB0 : Aside (Below w.heap.size w (w.alloc (boxE x.k x.j x.v x.t x.c))) := grew (Below.refl _ _) _
 have HX0 : Aside ((w.alloc (boxE x.k x.j x.v x.t x.c)).heap[w.heap.size]? = some (boxE x.k x.j x.v x.t x.c)) := heap_new _ _
 have hck := chCheck_any _ _ _ (hch.later HB0.out)
 rw [show ckChain (unitsOf [⟨U0, .slice a0 60 c0⟩, ⟨U1, .slice a1 60 c1⟩, ⟨U2, .slice a2 60 c2⟩]) = 0 from hd] at hck
 have kp := fun W => isPlace_any (m : Int) W
 rw [decide_eq_true (by omega)] at kp
 have hce : ∀ W, Calls Tryz.prog 115 #[ev x.k x.j x.v x.t x.c] W fun e w' => e = .returned (.int .i64 x.chk) ∧ Below W.heap.size W w' := fun W => check_any x.k x.j x.v x.t x.c W
 rw [hx] at hce
 have HCH : Aside (ChAt w (.slice (some ⟨b, off, none⟩) 3 c) [⟨U0, .slice a0 60 c0⟩, ⟨U1, .slice a1 60 c1⟩, ⟨U2, .slice a2 60 c2⟩]) := hch
 have HZ : Hid (U1.cells[m]? = some z) := hzz
 have hmi : (m : Int) < 60 := by omega
 have hm0 : (0 : Int) ≤ (m : Int) := by omega
 clear hch hd hx hzz
 go_enter Tryz.func132, Tryz.ntmps132
 go_wp2_with fail
 refine hck.mono ?_
 rintro e w1 ⟨rfl, hb1⟩
 have HX1 : Aside _ := heap_below HX0.out hb1 (heap_lt HX0.out)
 have HB1 : Aside _ := step_below1 HB0.out hb1
 clear hb1 HX0 HB0
 clear hck
 go_wp2_with fail
 refine (kp _).mono ?_
 rintro e w1 ⟨rfl, rfl⟩
 have zx := fun i => Joins.cell_of_block HX1.out i
 go_wp2_with fail
 refine (hce _).mono ?_
 rintro e w3 ⟨rfl, hb3⟩
 have HX3 : Aside _ := heap_below HX1.out hb3 (heap_lt HX1.out)
 have HB3 : Aside _ := step_below1 HB1.out hb3
 clear hb3 HX1 HB1
 clear hce zx kp
 have hc3 := HCH.out.later HB3.out
 obtain ⟨b3, off3, eb3, hrow3⟩ := hc3.rows.at (by omega)
 injection eb3 with eb3
 injection eb3 with eb4 eb5 _
 subst eb4 eb5
 obtain ⟨⟨p0, s0⟩, ⟨p1, s1⟩, ⟨p2, s2⟩⟩ := row_three hrow3
 obtain ⟨bz, oz, ez, hEz⟩ := SlOf.at (cs := En.cells) (k := 5) (hc3.each ⟨U1, .slice a1 60 c1⟩ (by simp)).ents (by omega)
 subst ez
 have q0 : w3.cell? ⟨bz, oz + m * 5, none⟩ = some (.int .i64 z.k) := hEz m z HZ.out 0 _ rfl
 have q1 : w3.cell? ⟨bz, oz + m * 5 + 1, none⟩ = some (.int .i64 z.j) := hEz m z HZ.out 1 _ rfl
 have q2 : w3.cell? ⟨bz, oz + m * 5 + 2, none⟩ = some (.int .i64 z.v) := hEz m z HZ.out 2 _ rfl
 have q3 : w3.cell? ⟨bz, oz + m * 5 + 3, none⟩ = some (.int .i64 z.t) := hEz m z HZ.out 3 _ rfl
 have q4 : w3.cell? ⟨bz, oz + m * 5 + 4, none⟩ = some (.int .i64 z.c) := hEz m z HZ.out 4 _ rfl
 have hn1 := fun W => neq_entry z.k z.j z.v z.t z.c x.k x.j x.v x.t x.c W
 rw [hun] at hn1
 have hwr0 : IntKind.i64.wrap 0 = 0 := rfl
 have hwr1 : IntKind.i64.wrap 1 = 1 := rfl
 clear hEz
 clear hrow3 hc3 HCH
 have zx := fun i => Joins.cell_of_block HX3.out i
 go_wp2_with fail
 go_quiet (fail)
 go_wp2
 go_ret
 exact ⟨rfl, below_drewN HB3.out _⟩
theorem may2_ok (b off c m : Nat) (ep : Int) (x : En) (U0 U1 U2 : Un) (a0 a1 a2 : Option Addr) (c0 c1 c2 : Nat) (w : World) (hch : ChAt w (.slice (some ⟨b, off, none⟩) 3 c) [⟨U0, .slice a0 60 c0⟩, ⟨U1, .slice a1 60 c1⟩, ⟨U2, .slice a2 60 c2⟩]) (hd : ckChain [U0, U1, U2] = 0) (hm : m < 60) (hx : x.chk = 0) (z : En) (hzz : U1.cells[m]? = some z) (hep : (ep != U2.p) = false) (hun : unlike z.k z.j z.v z.t z.c x.k x.j x.v x.t x.c = false) :
  Calls Tryz.prog 132 #[.slice (some ⟨b, off, none⟩) 3 c, .int .i64 2, .int .i64 (m : Int), x.val, .int .i64 ep] w fun e w' => e = .returned (.int .i64 (0)) ∧ Below w.heap.size w w' := by
 have HB0 : Aside (Below w.heap.size w (w.alloc (boxE x.k x.j x.v x.t x.c))) := grew (Below.refl _ _) _
 have HX0 : Aside ((w.alloc (boxE x.k x.j x.v x.t x.c)).heap[w.heap.size]? = some (boxE x.k x.j x.v x.t x.c)) := heap_new _ _
 have hck := chCheck_any _ _ _ (hch.later HB0.out)
 rw [show ckChain (unitsOf [⟨U0, .slice a0 60 c0⟩, ⟨U1, .slice a1 60 c1⟩, ⟨U2, .slice a2 60 c2⟩]) = 0 from hd] at hck
 have kp := fun W => isPlace_any (m : Int) W
 rw [decide_eq_true (by omega)] at kp
 have hce : ∀ W, Calls Tryz.prog 115 #[ev x.k x.j x.v x.t x.c] W fun e w' => e = .returned (.int .i64 x.chk) ∧ Below W.heap.size W w' := fun W => check_any x.k x.j x.v x.t x.c W
 rw [hx] at hce
 have HCH : Aside (ChAt w (.slice (some ⟨b, off, none⟩) 3 c) [⟨U0, .slice a0 60 c0⟩, ⟨U1, .slice a1 60 c1⟩, ⟨U2, .slice a2 60 c2⟩]) := hch
 have HZ : Hid (U1.cells[m]? = some z) := hzz
 have hmi : (m : Int) < 60 := by omega
 have hm0 : (0 : Int) ≤ (m : Int) := by omega
 clear hch hd hx hzz
 go_enter Tryz.func132, Tryz.ntmps132
 go_wp2_with fail
 refine hck.mono ?_
 rintro e w1 ⟨rfl, hb1⟩
 have HX1 : Aside _ := heap_below HX0.out hb1 (heap_lt HX0.out)
 have HB1 : Aside _ := step_below1 HB0.out hb1
 clear hb1 HX0 HB0
 clear hck
 go_wp2_with fail
 refine (kp _).mono ?_
 rintro e w1 ⟨rfl, rfl⟩
 have zx := fun i => Joins.cell_of_block HX1.out i
 go_wp2_with fail
 refine (hce _).mono ?_
 rintro e w3 ⟨rfl, hb3⟩
 have HX3 : Aside _ := heap_below HX1.out hb3 (heap_lt HX1.out)
 have HB3 : Aside _ := step_below1 HB1.out hb3
 clear hb3 HX1 HB1
 clear hce zx kp
 have hc3 := HCH.out.later HB3.out
 obtain ⟨b3, off3, eb3, hrow3⟩ := hc3.rows.at (by omega)
 injection eb3 with eb3
 injection eb3 with eb4 eb5 _
 subst eb4 eb5
 obtain ⟨⟨p0, s0⟩, ⟨p1, s1⟩, ⟨p2, s2⟩⟩ := row_three hrow3
 obtain ⟨bz, oz, ez, hEz⟩ := SlOf.at (cs := En.cells) (k := 5) (hc3.each ⟨U1, .slice a1 60 c1⟩ (by simp)).ents (by omega)
 subst ez
 have q0 : w3.cell? ⟨bz, oz + m * 5, none⟩ = some (.int .i64 z.k) := hEz m z HZ.out 0 _ rfl
 have q1 : w3.cell? ⟨bz, oz + m * 5 + 1, none⟩ = some (.int .i64 z.j) := hEz m z HZ.out 1 _ rfl
 have q2 : w3.cell? ⟨bz, oz + m * 5 + 2, none⟩ = some (.int .i64 z.v) := hEz m z HZ.out 2 _ rfl
 have q3 : w3.cell? ⟨bz, oz + m * 5 + 3, none⟩ = some (.int .i64 z.t) := hEz m z HZ.out 3 _ rfl
 have q4 : w3.cell? ⟨bz, oz + m * 5 + 4, none⟩ = some (.int .i64 z.c) := hEz m z HZ.out 4 _ rfl
 have hn1 := fun W => neq_entry z.k z.j z.v z.t z.c x.k x.j x.v x.t x.c W
 rw [hun] at hn1
 have hwr0 : IntKind.i64.wrap 0 = 0 := rfl
 have hwr1 : IntKind.i64.wrap 1 = 1 := rfl
 clear hEz
 clear hrow3 hc3 HCH
 have zx := fun i => Joins.cell_of_block HX3.out i
 go_wp2_with fail
 go_quiet (fail)
 go_wp2
 go_ret
 exact ⟨rfl, below_drewN HB3.out _⟩
theorem may_any (v : Value) (xs : List Ub) (k a ep : Int) (x : En) (w : World) (h : ChAt w v xs) :
  Calls Tryz.prog 132 #[v, .int .i64 k, .int .i64 a, x.val, .int .i64 ep] w fun e w' => e = .returned (.int .i64 (linkOf (unitsOf xs) k a x ep).2.2) ∧ Below w.heap.size w w' := by
 rw [linkOf_err]
 by_cases hd : ckChain (unitsOf xs) = 0
 · rw [if_neg (by simpa using hd)]
  obtain ⟨U0, U1, U2, a0, c0, a1, c1, a2, c2, b, off, c, rfl, rfl, d0, d1, d2⟩ := right_three h hd
  by_cases hr : ¬ (0 ≤ k ∧ k ≤ 2) ∨ ¬ (0 ≤ a ∧ a ≤ 59)
  · rw [if_pos hr]
   exact may_who b off c k a ep x _ w h hd (by omega)
  · rw [if_neg hr]
   have hk : 0 ≤ k ∧ k ≤ 2 := Classical.byContradiction fun e => hr (Or.inl e)
   have ha : 0 ≤ a ∧ a ≤ 59 := Classical.byContradiction fun e => hr (Or.inr e)
   by_cases hx : x.chk = 0
   · rw [if_neg (by simpa using hx)]
    obtain ⟨m, rfl⟩ : ∃ m : Nat, a = m := ⟨a.toNat, by omega⟩
    have hm : m < 60 := by omega
    have hd' : ckChain [U0, U1, U2] = 0 := hd
    obtain ⟨y0, hy0⟩ : ∃ y, U0.cells[m]? = some y := ⟨_, plc_some (us := [U0]) (k := 0) rfl d0 hm⟩
    obtain ⟨y1, hy1⟩ : ∃ y, U1.cells[m]? = some y := ⟨_, plc_some (us := [U1]) (k := 0) rfl d1 hm⟩
    have e0 : plc (unitsOf [⟨U0, .slice a0 60 c0⟩, ⟨U1, .slice a1 60 c1⟩, ⟨U2, .slice a2 60 c2⟩]) 0 m = y0 := plc_eq (u := U0) rfl hy0
    have e1 : plc (unitsOf [⟨U0, .slice a0 60 c0⟩, ⟨U1, .slice a1 60 c1⟩, ⟨U2, .slice a2 60 c2⟩]) 1 m = y1 := plc_eq (u := U1) rfl hy1
    have hk' : k = 0 ∨ k = 1 ∨ k = 2 := by omega
    rcases hk' with rfl | rfl | rfl
    · rw [show ((m : Int).toNat) = m from rfl, show ((0 : Int).toNat) = 0 from rfl, show (0 - 1 : Nat) = 0 from rfl]
     show Calls _ _ _ _ fun e w' => e = .returned (.int .i64 (if U0.p ≠ ep then 8 else _)) ∧ _
     by_cases hp : U0.p = ep
     · have hpb : (ep != U0.p) = false := by rw [hp]; simp
      rw [if_neg (by simpa using hp)]
      rw [if_neg (by omega)]
      exact may0_ok b off c m ep x U0 U1 U2 a0 a1 a2 c0 c1 c2 w h hd' hm hx hpb
     · rw [if_pos hp]
      exact may0_old b off c m ep x U0 U1 U2 a0 a1 a2 c0 c1 c2 w h hd' hm hx (by rw [bne_iff_ne]; exact fun hh => hp hh.symm)
    · rw [show ((m : Int).toNat) = m from rfl, show ((1 : Int).toNat) = 1 from rfl, show (1 - 1 : Nat) = 0 from rfl, e0]
     show Calls _ _ _ _ fun e w' => e = .returned (.int .i64 (if U1.p ≠ ep then 8 else _)) ∧ _
     by_cases hp : U1.p = ep
     · have hpb : (ep != U1.p) = false := by rw [hp]; simp
      rw [if_neg (by simpa using hp)]
      by_cases hxz : x = y0
      · have hun : unlike y0.k y0.j y0.v y0.t y0.c x.k x.j x.v x.t x.c = false := by rw [hxz]; simp [unlike]
       rw [if_neg (fun hh => hh.2 hxz)]
       exact may1_ok b off c m ep x U0 U1 U2 a0 a1 a2 c0 c1 c2 w h hd' hm hx y0 hy0 hpb hun
      · have hun : unlike y0.k y0.j y0.v y0.t y0.c x.k x.j x.v x.t x.c = true := by rw [← Bool.not_eq_false]; exact fun hh => hxz (en_eq hh).symm
       rw [if_pos ⟨by omega, hxz⟩]
       exact may1_late b off c m ep x U0 U1 U2 a0 a1 a2 c0 c1 c2 w h hd' hm hx y0 hy0 hpb hun
     · rw [if_pos hp]
      exact may1_old b off c m ep x U0 U1 U2 a0 a1 a2 c0 c1 c2 w h hd' hm hx (by rw [bne_iff_ne]; exact fun hh => hp hh.symm)
    · rw [show ((m : Int).toNat) = m from rfl, show ((2 : Int).toNat) = 2 from rfl, show (2 - 1 : Nat) = 1 from rfl, e1]
     show Calls _ _ _ _ fun e w' => e = .returned (.int .i64 (if U2.p ≠ ep then 8 else _)) ∧ _
     by_cases hp : U2.p = ep
     · have hpb : (ep != U2.p) = false := by rw [hp]; simp
      rw [if_neg (by simpa using hp)]
      by_cases hxz : x = y1
      · have hun : unlike y1.k y1.j y1.v y1.t y1.c x.k x.j x.v x.t x.c = false := by rw [hxz]; simp [unlike]
       rw [if_neg (fun hh => hh.2 hxz)]
       exact may2_ok b off c m ep x U0 U1 U2 a0 a1 a2 c0 c1 c2 w h hd' hm hx y1 hy1 hpb hun
      · have hun : unlike y1.k y1.j y1.v y1.t y1.c x.k x.j x.v x.t x.c = true := by rw [← Bool.not_eq_false]; exact fun hh => hxz (en_eq hh).symm
       rw [if_pos ⟨by omega, hxz⟩]
       exact may2_late b off c m ep x U0 U1 U2 a0 a1 a2 c0 c1 c2 w h hd' hm hx y1 hy1 hpb hun
     · rw [if_pos hp]
      exact may2_old b off c m ep x U0 U1 U2 a0 a1 a2 c0 c1 c2 w h hd' hm hx (by rw [bne_iff_ne]; exact fun hh => hp hh.symm)
   · rw [if_pos hx]
    exact may_chk b off c k a ep x _ w h hd (by omega) (by omega) ha x.chk rfl (by rw [bne_iff_ne]; exact hx)
 · rw [if_pos hd]
  exact may_ck v xs k a ep x w h _ rfl (by rw [bne_iff_ne]; exact hd)
end
end Go.Proofs.YtmoaobfmopimlafGreatDoor
