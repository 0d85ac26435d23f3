/- For the law. -/
import Derived.Test.YtmoaobfmopimlafGreatDoorM41
set_option linter.unusedSimpArgs false
set_option linter.unusedVariables false
namespace Go.Proofs.YtmoaobfmopimlafGreatDoor
open Go.RowKit
section
open Go.Shelf
theorem left_same {w w1 : World} {ab gj gr : Nat} {js : List Jb} {rs : List Rg} {S : List Nat} (h : Own w1 ab gj gr js rs) (hb : Below w.heap.size w w1) (q : Nat) : ∃ u1 u2, Left w (w1.drewN q) ab S js rs u1 u2 :=
 have h' := h.later (below_drewN (Below.refl _ w1) q)
 ⟨_, _, h'.head, h'.sj, h'.sr, ⟨_, _, _, rfl, Nat.le_refl _⟩, kept_of_below (below_drewN hb q), h'.tj _ _, h'.tr _ _⟩
set_option maxHeartbeats 4000000 in
theorem ring_lost (x : En) (ab gj gr : Nat) (js : List Jb) (rs : List Rg) (w : World) (h : Own w ab gj gr js rs) (hn : js.length ≤ 6) (hj : jobAt js x.j = -1) :
  Calls Tryz.prog 232 #[.pointer (some ⟨ab, 0, none⟩), x.val] w fun e w' => e = .returned (.tuple #[]) ∧ ∃ u1 u2, Left w w' ab [ab, gj] js rs u1 u2 := by
 have hB := grew (Below.refl w.heap.size w) (boxE x.k x.j x.v x.t x.c)
 have h' := h.later hB
 obtain ⟨n, hnn⟩ : ∃ n, Hid (js.length = n) := ⟨_, rfl⟩
 obtain ⟨m, hmm⟩ : ∃ m, Hid (rs.length = m) := ⟨_, rfl⟩
 have hS0 : Reads (w.alloc (boxE x.k x.j x.v x.t x.c)) (w.alloc (boxE x.k x.j x.v x.t x.c)) ab gj gr w.heap.size n m x := by
  refine ⟨Below.refl _ _, ?_, ?_, ?_⟩
  ·rw [Joins.cell_of_block h'.head, ← hnn.out]; rfl
  ·rw [Joins.cell_of_block h'.head, ← hmm.out]; rfl
  ·rw [Joins.cell_of_block (heap_new _ _)]; rfl
 have hfind := fun (W : World) (hb : Below (w.alloc (boxE x.k x.j x.v x.t x.c)).heap.size (w.alloc (boxE x.k x.j x.v x.t x.c)) W) => find_any (.slice (some ⟨gj, 0, none⟩) js.length js.length) (.slice (some ⟨gr, 0, none⟩) rs.length rs.length) js x.j W (h'.sj.later hb) (by unfold most; omega)
 rw [hnn.out, hmm.out, hj] at hfind
 have HO : Aside (Own (w.alloc (boxE x.k x.j x.v x.t x.c)) ab gj gr js rs ∧ Below w.heap.size w (w.alloc (boxE x.k x.j x.v x.t x.c)) ∧ (w.alloc (boxE x.k x.j x.v x.t x.c)).heap[w.heap.size]? = some (boxE x.k x.j x.v x.t x.c)) := ⟨h', hB, heap_new _ _⟩
 have hab := heap_lt h.head
 have ne1 := h.ne1
 have ne3 := h.ne3
 have ne2 := h.ne2
 have hgj := heap_lt h.jobs
 have hgr := heap_lt h.rungs
 rw [hnn.out] at hn
 clear h h' hB hj
 go_enter Tryz.func232, Tryz.ntmps232
 go_wp2_with fail
 generalize w.alloc (boxE x.k x.j x.v x.t x.c) = W0 at *
 have hbd : Below W0.heap.size W0 W0.drew := (Below.refl _ _).drew
 go_region_held3 (fun w' => Reads W0 w' ab gj gr w.heap.size n m x) (exact reads_step (by assumption) (by assumption)) (first | (go_at_call 263; refine (hfind _ (reads_below (by assumption))).mono ?_; rintro e w1 ⟨rfl, hb'⟩))
 all_goals
  rename_i hS
  clear hb'
  obtain ⟨hB1, y0, y1, y2⟩ := hS
  have hw1 : w.heap.size < w1.heap.size := by have := heap_lt HO.out.2.2; have := hB1.size; omega
  have O1 : Own w1 ab gj gr js rs := HO.out.1.later hB1
  have E1 : w1.heap[w.heap.size]? = some (boxE x.k x.j x.v x.t x.c) := heap_below HO.out.2.2 hB1 (heap_lt HO.out.2.2)
  have B1 : Aside (Below w.heap.size w w1) := HO.out.2.1.trans (hB1.mono HO.out.2.1.size)
  have A1 : Aside (Own w1 ab gj gr js rs ∧ w1.heap[w.heap.size]? = some (boxE x.k x.j x.v x.t x.c)) := ⟨O1, E1⟩
  have e1 := fun i => Joins.cell_of_block E1 i
  clear hS0 hfind hbd hB1 O1 E1 HO y2
  go_wp2_with fail
  go_quiet (fail)
  go_wp2
  exact bodyPost_ret (v := .tuple #[]) (by simp [results, go_sem]) rfl ⟨rfl, left_same A1.out.1 B1.out _⟩
set_option maxHeartbeats 4000000 in
theorem ring_other (x : En) (ab gj gr : Nat) (js : List Jb) (rs : List Rg) (w : World) (h : Own w ab gj gr js rs) (hn : js.length ≤ 6) (k : Nat) (y : Jb) (hj : jobAt js x.j = (k : Nat)) (hx : js[k]? = some y) (hne : y.n ≠ x.t) :
  Calls Tryz.prog 232 #[.pointer (some ⟨ab, 0, none⟩), x.val] w fun e w' => e = .returned (.tuple #[]) ∧ ∃ u1 u2, Left w w' ab [ab, gj] js rs u1 u2 := by
 have hB := grew (Below.refl w.heap.size w) (boxE x.k x.j x.v x.t x.c)
 have h' := h.later hB
 obtain ⟨n, hnn⟩ : ∃ n, Hid (js.length = n) := ⟨_, rfl⟩
 obtain ⟨m, hmm⟩ : ∃ m, Hid (rs.length = m) := ⟨_, rfl⟩
 have hS0 : Reads (w.alloc (boxE x.k x.j x.v x.t x.c)) (w.alloc (boxE x.k x.j x.v x.t x.c)) ab gj gr w.heap.size n m x := by
  refine ⟨Below.refl _ _, ?_, ?_, ?_⟩
  ·rw [Joins.cell_of_block h'.head, ← hnn.out]; rfl
  ·rw [Joins.cell_of_block h'.head, ← hmm.out]; rfl
  ·rw [Joins.cell_of_block (heap_new _ _)]; rfl
 have hfind := fun (W : World) (hb : Below (w.alloc (boxE x.k x.j x.v x.t x.c)).heap.size (w.alloc (boxE x.k x.j x.v x.t x.c)) W) => find_any (.slice (some ⟨gj, 0, none⟩) js.length js.length) (.slice (some ⟨gr, 0, none⟩) rs.length rs.length) js x.j W (h'.sj.later hb) (by unfold most; omega)
 rw [hnn.out, hmm.out, hj] at hfind
 have HO : Aside (Own (w.alloc (boxE x.k x.j x.v x.t x.c)) ab gj gr js rs ∧ Below w.heap.size w (w.alloc (boxE x.k x.j x.v x.t x.c)) ∧ (w.alloc (boxE x.k x.j x.v x.t x.c)).heap[w.heap.size]? = some (boxE x.k x.j x.v x.t x.c)) := ⟨h', hB, heap_new _ _⟩
 have hab := heap_lt h.head
 have ne1 := h.ne1
 have ne3 := h.ne3
 have ne2 := h.ne2
 have hgj := heap_lt h.jobs
 have hgr := heap_lt h.rungs
 have hkn : k < n := by rw [← hnn.out]; exact (List.getElem?_eq_some_iff.1 hx).1
 have HX : Hid (js[k]? = some y) := hx
 have kd : decide ((k : Int) < 0) = false := by rw [decide_eq_false_iff_not]; omega
 have kk0 : (0 : Int) ≤ (k : Int) := by omega
 have kk1 : (k : Int) < (n : Int) := by omega
 have hnb : (y.n != x.t) = true := by rw [bne_iff_ne]; exact hne
 clear hne
 rw [hnn.out] at hn
 clear h h' hB hj
 go_enter Tryz.func232, Tryz.ntmps232
 go_wp2_with fail
 generalize w.alloc (boxE x.k x.j x.v x.t x.c) = W0 at *
 have hbd : Below W0.heap.size W0 W0.drew := (Below.refl _ _).drew
 go_region_held3 (fun w' => Reads W0 w' ab gj gr w.heap.size n m x) (exact reads_step (by assumption) (by assumption)) (first | (go_at_call 263; refine (hfind _ (reads_below (by assumption))).mono ?_; rintro e w1 ⟨rfl, hb'⟩))
 all_goals
  rename_i hS
  clear hb'
  obtain ⟨hB1, y0, y1, y2⟩ := hS
  have hw1 : w.heap.size < w1.heap.size := by have := heap_lt HO.out.2.2; have := hB1.size; omega
  have O1 : Own w1 ab gj gr js rs := HO.out.1.later hB1
  have E1 : w1.heap[w.heap.size]? = some (boxE x.k x.j x.v x.t x.c) := heap_below HO.out.2.2 hB1 (heap_lt HO.out.2.2)
  have B1 : Aside (Below w.heap.size w w1) := HO.out.2.1.trans (hB1.mono HO.out.2.1.size)
  have A1 : Aside (Own w1 ab gj gr js rs ∧ w1.heap[w.heap.size]? = some (boxE x.k x.j x.v x.t x.c)) := ⟨O1, E1⟩
  have e1 := fun i => Joins.cell_of_block E1 i
  have hrow : RowAt Jb.cells 3 w1 gj 0 js := rowAt_block Jb.three O1.jobs ⟨[], by simp⟩
  have j1 : w1.cell? ⟨gj, k * 3 + 1, none⟩ = some (.int .i64 y.e) := by have := hrow k y HX.out 1 _ rfl; rwa [Nat.zero_add] at this
  have j2 : w1.cell? ⟨gj, k * 3 + 2, none⟩ = some (.int .i64 y.n) := by have := hrow k y HX.out 2 _ rfl; rwa [Nat.zero_add] at this
  clear hrow
  clear hS0 hfind hbd hB1 O1 E1 HO y2
  go_wp2_with fail
  go_quiet (fail)
  go_wp2
  exact bodyPost_ret (v := .tuple #[]) (by simp [results, go_sem]) rfl ⟨rfl, left_same A1.out.1 B1.out _⟩
set_option maxHeartbeats 4000000 in
theorem ring_full (x : En) (ab gj gr : Nat) (js : List Jb) (rs : List Rg) (w : World) (h : Own w ab gj gr js rs) (hn : js.length ≤ 6) (k : Nat) (y : Jb) (hj : jobAt js x.j = (k : Nat)) (hx : js[k]? = some y) (hne : y.n = x.t) (hf : 60 ≤ rs.length) :
  Calls Tryz.prog 232 #[.pointer (some ⟨ab, 0, none⟩), x.val] w fun e w' => e = .returned (.tuple #[]) ∧ ∃ u1 u2, Left w w' ab [ab, gj] js rs u1 u2 := by
 have hB := grew (Below.refl w.heap.size w) (boxE x.k x.j x.v x.t x.c)
 have h' := h.later hB
 obtain ⟨n, hnn⟩ : ∃ n, Hid (js.length = n) := ⟨_, rfl⟩
 obtain ⟨m, hmm⟩ : ∃ m, Hid (rs.length = m) := ⟨_, rfl⟩
 have hS0 : Reads (w.alloc (boxE x.k x.j x.v x.t x.c)) (w.alloc (boxE x.k x.j x.v x.t x.c)) ab gj gr w.heap.size n m x := by
  refine ⟨Below.refl _ _, ?_, ?_, ?_⟩
  ·rw [Joins.cell_of_block h'.head, ← hnn.out]; rfl
  ·rw [Joins.cell_of_block h'.head, ← hmm.out]; rfl
  ·rw [Joins.cell_of_block (heap_new _ _)]; rfl
 have hfind := fun (W : World) (hb : Below (w.alloc (boxE x.k x.j x.v x.t x.c)).heap.size (w.alloc (boxE x.k x.j x.v x.t x.c)) W) => find_any (.slice (some ⟨gj, 0, none⟩) js.length js.length) (.slice (some ⟨gr, 0, none⟩) rs.length rs.length) js x.j W (h'.sj.later hb) (by unfold most; omega)
 rw [hnn.out, hmm.out, hj] at hfind
 have HO : Aside (Own (w.alloc (boxE x.k x.j x.v x.t x.c)) ab gj gr js rs ∧ Below w.heap.size w (w.alloc (boxE x.k x.j x.v x.t x.c)) ∧ (w.alloc (boxE x.k x.j x.v x.t x.c)).heap[w.heap.size]? = some (boxE x.k x.j x.v x.t x.c)) := ⟨h', hB, heap_new _ _⟩
 have hab := heap_lt h.head
 have ne1 := h.ne1
 have ne3 := h.ne3
 have ne2 := h.ne2
 have hgj := heap_lt h.jobs
 have hgr := heap_lt h.rungs
 have hkn : k < n := by rw [← hnn.out]; exact (List.getElem?_eq_some_iff.1 hx).1
 have HX : Hid (js[k]? = some y) := hx
 have kd : decide ((k : Int) < 0) = false := by rw [decide_eq_false_iff_not]; omega
 have kk0 : (0 : Int) ≤ (k : Int) := by omega
 have kk1 : (k : Int) < (n : Int) := by omega
 have hnb : (y.n != x.t) = false := by rw [bne_eq_false_iff_eq]; exact hne
 clear hne
 rw [hmm.out] at hf
 have hfi : (60 : Int) ≤ (m : Int) := by omega
 have hfd : decide ((60 : Int) ≤ (m : Int)) = true := by rw [decide_eq_true_eq]; exact hfi
 rw [hnn.out] at hn
 clear h h' hB hj
 go_enter Tryz.func232, Tryz.ntmps232
 go_wp2_with fail
 generalize w.alloc (boxE x.k x.j x.v x.t x.c) = W0 at *
 have hbd : Below W0.heap.size W0 W0.drew := (Below.refl _ _).drew
 go_region_held3 (fun w' => Reads W0 w' ab gj gr w.heap.size n m x) (exact reads_step (by assumption) (by assumption)) (first | (go_at_call 263; refine (hfind _ (reads_below (by assumption))).mono ?_; rintro e w1 ⟨rfl, hb'⟩))
 all_goals
  rename_i hS
  clear hb'
  obtain ⟨hB1, y0, y1, y2⟩ := hS
  have hw1 : w.heap.size < w1.heap.size := by have := heap_lt HO.out.2.2; have := hB1.size; omega
  have O1 : Own w1 ab gj gr js rs := HO.out.1.later hB1
  have E1 : w1.heap[w.heap.size]? = some (boxE x.k x.j x.v x.t x.c) := heap_below HO.out.2.2 hB1 (heap_lt HO.out.2.2)
  have B1 : Aside (Below w.heap.size w w1) := HO.out.2.1.trans (hB1.mono HO.out.2.1.size)
  have A1 : Aside (Own w1 ab gj gr js rs ∧ w1.heap[w.heap.size]? = some (boxE x.k x.j x.v x.t x.c)) := ⟨O1, E1⟩
  have e1 := fun i => Joins.cell_of_block E1 i
  have hrow : RowAt Jb.cells 3 w1 gj 0 js := rowAt_block Jb.three O1.jobs ⟨[], by simp⟩
  have j1 : w1.cell? ⟨gj, k * 3 + 1, none⟩ = some (.int .i64 y.e) := by have := hrow k y HX.out 1 _ rfl; rwa [Nat.zero_add] at this
  have j2 : w1.cell? ⟨gj, k * 3 + 2, none⟩ = some (.int .i64 y.n) := by have := hrow k y HX.out 2 _ rfl; rwa [Nat.zero_add] at this
  clear hrow
  clear hS0 hfind hbd hB1 O1 E1 HO y2
  go_wp2_with fail
  go_quiet (fail)
  go_wp2
  exact bodyPost_ret (v := .tuple #[]) (by simp [results, go_sem]) rfl ⟨rfl, left_same A1.out.1 B1.out _⟩
end
section
open Go.Shelf
set_option maxHeartbeats 2000000 in
theorem bk_app_book (a1 a2 : Option Addr) (n1 n2 c1 c2 : Nat) (js : List Jb) (rs : List Rg) (x : En) (w : World) (h1 : JobSl w (.slice a1 n1 c1) js) (h2 : RungSl w (.slice a2 n2 c2) rs) (hbad : ckBook js rs ≠ 0) :
  Calls Tryz.prog 205 #[.agg #[.slice a1 n1 c1, .slice a2 n2 c2], x.val] w fun e w' => e = .returned (.tuple #[.agg #[nil0, nil0], .int .i64 (ckBook js rs)]) ∧ Below w.heap.size w w' := by
 have hck := fun W hb => bk_check (.slice a1 n1 c1) (.slice a2 n2 c2) js rs W (h1.later hb) (h2.later hb)
 have hb : (ckBook js rs != 0) = true := by rw [bne_iff_ne]; exact hbad
 clear h1 h2 hbad
 generalize ckBook js rs = n at *
 have hB0 := grew (grew (grew (Below.refl w.heap.size w) (boxB (.slice a1 n1 c1) (.slice a2 n2 c2))) (boxE x.k x.j x.v x.t x.c)) (boxB nil0 nil0)
 have HB0 : Aside _ := hB0
 have hck' := hck _ hB0
 have hr0 : ∀ (i : Nat), (((w.alloc (boxB (.slice a1 n1 c1) (.slice a2 n2 c2))).alloc (boxE x.k x.j x.v x.t x.c)).alloc (boxB nil0 nil0)).heap[w.heap.size + 2]? = some (boxB nil0 nil0) := fun _ => by
  have := heap_new ((w.alloc (boxB (.slice a1 n1 c1) (.slice a2 n2 c2))).alloc (boxE x.k x.j x.v x.t x.c)) (boxB nil0 nil0)
  rwa [World.size_alloc, World.size_alloc] at this
 have HR0 : Aside _ := hr0 0
 clear hck hB0 hr0
 go_enter Tryz.func205, Tryz.ntmps205
 go_wp2_with fail
 refine hck'.mono ?_
 rintro e w1 ⟨rfl, hb1⟩
 have hB1 := HB0.out.trans (hb1.mono HB0.out.size)
 have hr1 : w1.heap[w.heap.size + 2]? = some (boxB nil0 nil0) := heap_below HR0.out hb1 (heap_lt HR0.out)
 have z1 := fun i => Joins.cell_of_block hr1 i
 have f1 := fun i => Joins.unfrozen_of_block hr1 i
 clear hb1 hck' HB0 HR0 hr1
 go_wp2
 refine bodyPost_ret (v := .tuple #[.agg #[nil0, nil0], .int .i64 n]) (by simp [results, Tryz.results205, go_sem, z1]) rfl ⟨rfl, ?_⟩
 exact (hB1.setCell (p := ⟨w.heap.size + 2, 0, none⟩) (by show w.heap.size ≤ w.heap.size + 2; omega) _).setCell (p := ⟨w.heap.size + 2, 1, none⟩) (by show w.heap.size ≤ w.heap.size + 2; omega) _
set_option maxHeartbeats 2000000 in
theorem bk_app_entry (a1 a2 : Option Addr) (n1 n2 c1 c2 : Nat) (js : List Jb) (rs : List Rg) (x : En) (w : World) (h1 : JobSl w (.slice a1 n1 c1) js) (h2 : RungSl w (.slice a2 n2 c2) rs) (hok : ckBook js rs = 0) (hbad : x.chk ≠ 0) :
  Calls Tryz.prog 205 #[.agg #[.slice a1 n1 c1, .slice a2 n2 c2], x.val] w fun e w' => e = .returned (.tuple #[.agg #[nil0, nil0], .int .i64 x.chk]) ∧ Below w.heap.size w w' := by
 have hck := fun W hb => bk_check (.slice a1 n1 c1) (.slice a2 n2 c2) js rs W (h1.later hb) (h2.later hb)
 rw [hok] at hck
 have hce : ∀ W, Calls Tryz.prog 115 #[ev x.k x.j x.v x.t x.c] W fun e w' => e = .returned (.int .i64 x.chk) ∧ Below W.heap.size W w' := fun W => check_any x.k x.j x.v x.t x.c W
 have hb : (x.chk != 0) = true := by rw [bne_iff_ne]; exact hbad
 clear h1 h2 hbad hok
 generalize x.chk = n at *
 have hB0 := grew (grew (grew (Below.refl w.heap.size w) (boxB (.slice a1 n1 c1) (.slice a2 n2 c2))) (boxE x.k x.j x.v x.t x.c)) (boxB nil0 nil0)
 have HB0 : Aside _ := hB0
 have hck' := hck _ hB0
 have hr0 : ∀ (i : Nat), (((w.alloc (boxB (.slice a1 n1 c1) (.slice a2 n2 c2))).alloc (boxE x.k x.j x.v x.t x.c)).alloc (boxB nil0 nil0)).heap[w.heap.size + 2]? = some (boxB nil0 nil0) := fun _ => by
  have := heap_new ((w.alloc (boxB (.slice a1 n1 c1) (.slice a2 n2 c2))).alloc (boxE x.k x.j x.v x.t x.c)) (boxB nil0 nil0)
  rwa [World.size_alloc, World.size_alloc] at this
 have HR0 : Aside _ := hr0 0
 clear hck hB0 hr0
 go_enter Tryz.func205, Tryz.ntmps205
 go_wp2_with fail
 refine hck'.mono ?_
 rintro e w1 ⟨rfl, hb1⟩
 have hB1 := HB0.out.trans (hb1.mono HB0.out.size)
 have hr1 : w1.heap[w.heap.size + 2]? = some (boxB nil0 nil0) := heap_below HR0.out hb1 (heap_lt HR0.out)
 have z1 := fun i => Joins.cell_of_block hr1 i
 have f1 := fun i => Joins.unfrozen_of_block hr1 i
 have e1 : w1.heap[w.heap.size + 1]? = some (boxE x.k x.j x.v x.t x.c) := by
  rw [hb1.block _ (by simp only [World.size_alloc]; omega)]
  have := heap_new (w.alloc (boxB (.slice a1 n1 c1) (.slice a2 n2 c2))) (boxE x.k x.j x.v x.t x.c)
  rw [World.size_alloc] at this
  exact heap_old this _
 have y1 := fun i => Joins.cell_of_block e1 i
 clear hb1 hck' HB0 HR0 z1 f1
 go_wp2_with fail
 refine (hce _).mono ?_
 rintro e w2 ⟨rfl, hb2⟩
 have hB2 := hB1.trans (hb2.mono hB1.size)
 have hr2 := heap_below hr1 hb2 (heap_lt hr1)
 have z1 := fun i => Joins.cell_of_block hr2 i
 have f1 := fun i => Joins.unfrozen_of_block hr2 i
 clear hb2 hB1 hr1 hr2 e1 y1 hce
 go_wp2
 refine bodyPost_ret (v := .tuple #[.agg #[nil0, nil0], .int .i64 n]) (by simp [results, Tryz.results205, go_sem, z1]) rfl ⟨rfl, ?_⟩
 exact (hB2.setCell (p := ⟨w.heap.size + 2, 0, none⟩) (by show w.heap.size ≤ w.heap.size + 2; omega) _).setCell (p := ⟨w.heap.size + 2, 1, none⟩) (by show w.heap.size ≤ w.heap.size + 2; omega) _
end
end Go.Proofs.YtmoaobfmopimlafGreatDoor
