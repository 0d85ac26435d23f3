/- Package book: the walk of ring, where nothing is rung. -/
import Derived.Test.YtbokdcdnandgbaeBookZh
import Derived.Deep.QuietTactic
import Derived.BigQuiet
namespace Go.Proofs.Ytbokdcdnandgbae
open Go.RowKit Go.Shelf

theorem left_same {w w1 : World} {ab gj gr : Nat} {js : List Jb} {rs : List Rg} {S : List Nat} (h : Own w1 ab gj gr js rs) (hb : Below w.heap.size w w1) (q : Nat) : ∃ u1 u2, Left w (w1.drewN q) ab S js rs u1 u2 :=
  have h' := h.later (below_drewN (Below.refl _ w1) q)
  ⟨_, _, h'.head, h'.sj, h'.sr, ⟨_, _, _, rfl, Nat.le_refl _⟩, kept_of_below (below_drewN hb q), h'.tj _ _, h'.tr _ _⟩

set_option maxHeartbeats 4000000 in
theorem ring_lost (x : En) (ab gj gr : Nat) (js : List Jb) (rs : List Rg) (w : World) (h : Own w ab gj gr js rs) (hn : js.length ≤ 6) (hj : jobAt js x.j = -1) :
    Calls Try.prog 91 #[.pointer (some ⟨ab, 0, none⟩), x.val] w fun e w' => e = .returned (.tuple #[]) ∧ ∃ u1 u2, Left w w' ab [ab, gj] js rs u1 u2 := by
  have hB := grew (Below.refl w.heap.size w) (boxE x.k x.j x.v x.t x.c)
  have h' := h.later hB
  obtain ⟨n, hnn⟩ : ∃ n, Hid (js.length = n) := ⟨_, rfl⟩
  obtain ⟨m, hmm⟩ : ∃ m, Hid (rs.length = m) := ⟨_, rfl⟩
  have hS0 : Reads (w.alloc (boxE x.k x.j x.v x.t x.c)) (w.alloc (boxE x.k x.j x.v x.t x.c)) ab gj gr w.heap.size n m x := by
    refine ⟨Below.refl _ _, ?_, ?_, ?_⟩
    · rw [Joins.cell_of_block h'.head, ← hnn.out]; rfl
    · rw [Joins.cell_of_block h'.head, ← hmm.out]; rfl
    · rw [Joins.cell_of_block (heap_new _ _)]; rfl
  have hfind := fun (W : World) (hb : Below (w.alloc (boxE x.k x.j x.v x.t x.c)).heap.size (w.alloc (boxE x.k x.j x.v x.t x.c)) W) => find_any (.slice (some ⟨gj, 0, none⟩) js.length js.length) (.slice (some ⟨gr, 0, none⟩) rs.length rs.length) js x.j W (h'.sj.later hb) (by unfold most; omega)
  rw [hnn.out, hmm.out, hj] at hfind
  have HO : Aside (Own (w.alloc (boxE x.k x.j x.v x.t x.c)) ab gj gr js rs ∧ Below w.heap.size w (w.alloc (boxE x.k x.j x.v x.t x.c)) ∧ (w.alloc (boxE x.k x.j x.v x.t x.c)).heap[w.heap.size]? = some (boxE x.k x.j x.v x.t x.c)) := ⟨h', hB, heap_new _ _⟩
  have hab := heap_lt h.head
  have ne1 := h.ne1
  have ne3 := h.ne3
  have ne2 := h.ne2
  have hgj := heap_lt h.jobs
  have hgr := heap_lt h.rungs
  rw [hnn.out] at hn
  clear h h' hB hj
  go_enter Try.func91, Try.ntmps91
  go_wp2_with fail
  generalize w.alloc (boxE x.k x.j x.v x.t x.c) = W0 at *
  have hbd : Below W0.heap.size W0 W0.drew := (Below.refl _ _).drew
  go_region_held3 (fun w' => Reads W0 w' ab gj gr w.heap.size n m x) (exact reads_step (by assumption) (by assumption)) (first | (go_at_call 102; refine (hfind _ (reads_below (by assumption))).mono ?_; rintro e w1 ⟨rfl, hb'⟩))
  all_goals
    rename_i hS
    clear hb'
    obtain ⟨hB1, y0, y1, y2⟩ := hS
    have hw1 : w.heap.size < w1.heap.size := by have := heap_lt HO.out.2.2; have := hB1.size; omega
    have O1 : Own w1 ab gj gr js rs := HO.out.1.later hB1
    have E1 : w1.heap[w.heap.size]? = some (boxE x.k x.j x.v x.t x.c) := heap_below HO.out.2.2 hB1 (heap_lt HO.out.2.2)
    have B1 : Aside (Below w.heap.size w w1) := HO.out.2.1.trans (hB1.mono HO.out.2.1.size)
    have A1 : Aside (Own w1 ab gj gr js rs ∧ w1.heap[w.heap.size]? = some (boxE x.k x.j x.v x.t x.c)) := ⟨O1, E1⟩
    have e1 : ∀ i, w1.cell? ⟨w.heap.size, i, none⟩ = #[Value.int .i64 x.k, .int .i64 x.j, .int .i64 x.v, .int .i64 x.t, .int .i64 x.c][i]? := fun i => Joins.cell_of_block E1 i
    clear hS0 hfind hbd hB1 O1 E1 HO y2
    go_wp2_with fail
    go_quiet (fail)
    go_wp2
    exact bodyPost_ret (v := .tuple #[]) (by simp [results, go_sem]) rfl ⟨rfl, left_same A1.out.1 B1.out _⟩

set_option maxHeartbeats 4000000 in
theorem ring_other (x : En) (ab gj gr : Nat) (js : List Jb) (rs : List Rg) (w : World) (h : Own w ab gj gr js rs) (hn : js.length ≤ 6) (k : Nat) (y : Jb) (hj : jobAt js x.j = (k : Nat)) (hx : js[k]? = some y) (hne : y.n ≠ x.t) :
    Calls Try.prog 91 #[.pointer (some ⟨ab, 0, none⟩), x.val] w fun e w' => e = .returned (.tuple #[]) ∧ ∃ u1 u2, Left w w' ab [ab, gj] js rs u1 u2 := by
  have hB := grew (Below.refl w.heap.size w) (boxE x.k x.j x.v x.t x.c)
  have h' := h.later hB
  obtain ⟨n, hnn⟩ : ∃ n, Hid (js.length = n) := ⟨_, rfl⟩
  obtain ⟨m, hmm⟩ : ∃ m, Hid (rs.length = m) := ⟨_, rfl⟩
  have hS0 : Reads (w.alloc (boxE x.k x.j x.v x.t x.c)) (w.alloc (boxE x.k x.j x.v x.t x.c)) ab gj gr w.heap.size n m x := by
    refine ⟨Below.refl _ _, ?_, ?_, ?_⟩
    · rw [Joins.cell_of_block h'.head, ← hnn.out]; rfl
    · rw [Joins.cell_of_block h'.head, ← hmm.out]; rfl
    · rw [Joins.cell_of_block (heap_new _ _)]; rfl
  have hfind := fun (W : World) (hb : Below (w.alloc (boxE x.k x.j x.v x.t x.c)).heap.size (w.alloc (boxE x.k x.j x.v x.t x.c)) W) => find_any (.slice (some ⟨gj, 0, none⟩) js.length js.length) (.slice (some ⟨gr, 0, none⟩) rs.length rs.length) js x.j W (h'.sj.later hb) (by unfold most; omega)
  rw [hnn.out, hmm.out, hj] at hfind
  have HO : Aside (Own (w.alloc (boxE x.k x.j x.v x.t x.c)) ab gj gr js rs ∧ Below w.heap.size w (w.alloc (boxE x.k x.j x.v x.t x.c)) ∧ (w.alloc (boxE x.k x.j x.v x.t x.c)).heap[w.heap.size]? = some (boxE x.k x.j x.v x.t x.c)) := ⟨h', hB, heap_new _ _⟩
  have hab := heap_lt h.head
  have ne1 := h.ne1
  have ne3 := h.ne3
  have ne2 := h.ne2
  have hgj := heap_lt h.jobs
  have hgr := heap_lt h.rungs
  have hkn : k < n := by rw [← hnn.out]; exact (List.getElem?_eq_some_iff.1 hx).1
  have HX : Hid (js[k]? = some y) := hx
  have kd : decide ((k : Int) < 0) = false := by rw [decide_eq_false_iff_not]; omega
  have kk0 : (0 : Int) ≤ (k : Int) := by omega
  have kk1 : (k : Int) < (n : Int) := by omega
  have hnb : (y.n != x.t) = true := by rw [bne_iff_ne]; exact hne
  clear hne
  rw [hnn.out] at hn
  clear h h' hB hj
  go_enter Try.func91, Try.ntmps91
  go_wp2_with fail
  generalize w.alloc (boxE x.k x.j x.v x.t x.c) = W0 at *
  have hbd : Below W0.heap.size W0 W0.drew := (Below.refl _ _).drew
  go_region_held3 (fun w' => Reads W0 w' ab gj gr w.heap.size n m x) (exact reads_step (by assumption) (by assumption)) (first | (go_at_call 102; refine (hfind _ (reads_below (by assumption))).mono ?_; rintro e w1 ⟨rfl, hb'⟩))
  all_goals
    rename_i hS
    clear hb'
    obtain ⟨hB1, y0, y1, y2⟩ := hS
    have hw1 : w.heap.size < w1.heap.size := by have := heap_lt HO.out.2.2; have := hB1.size; omega
    have O1 : Own w1 ab gj gr js rs := HO.out.1.later hB1
    have E1 : w1.heap[w.heap.size]? = some (boxE x.k x.j x.v x.t x.c) := heap_below HO.out.2.2 hB1 (heap_lt HO.out.2.2)
    have B1 : Aside (Below w.heap.size w w1) := HO.out.2.1.trans (hB1.mono HO.out.2.1.size)
    have A1 : Aside (Own w1 ab gj gr js rs ∧ w1.heap[w.heap.size]? = some (boxE x.k x.j x.v x.t x.c)) := ⟨O1, E1⟩
    have e1 : ∀ i, w1.cell? ⟨w.heap.size, i, none⟩ = #[Value.int .i64 x.k, .int .i64 x.j, .int .i64 x.v, .int .i64 x.t, .int .i64 x.c][i]? := fun i => Joins.cell_of_block E1 i
    have hrow : RowAt Jb.cells 3 w1 gj 0 js := rowAt_block Jb.three O1.jobs ⟨[], by simp⟩
    have j1 : w1.cell? ⟨gj, k * 3 + 1, none⟩ = some (.int .i64 y.e) := by have := hrow k y HX.out 1 _ rfl; rwa [Nat.zero_add] at this
    have j2 : w1.cell? ⟨gj, k * 3 + 2, none⟩ = some (.int .i64 y.n) := by have := hrow k y HX.out 2 _ rfl; rwa [Nat.zero_add] at this
    clear hrow
    clear hS0 hfind hbd hB1 O1 E1 HO y2
    go_wp2_with fail
    go_quiet (fail)
    go_wp2
    exact bodyPost_ret (v := .tuple #[]) (by simp [results, go_sem]) rfl ⟨rfl, left_same A1.out.1 B1.out _⟩

set_option maxHeartbeats 4000000 in
theorem ring_full (x : En) (ab gj gr : Nat) (js : List Jb) (rs : List Rg) (w : World) (h : Own w ab gj gr js rs) (hn : js.length ≤ 6) (k : Nat) (y : Jb) (hj : jobAt js x.j = (k : Nat)) (hx : js[k]? = some y) (hne : y.n = x.t) (hf : 60 ≤ rs.length) :
    Calls Try.prog 91 #[.pointer (some ⟨ab, 0, none⟩), x.val] w fun e w' => e = .returned (.tuple #[]) ∧ ∃ u1 u2, Left w w' ab [ab, gj] js rs u1 u2 := by
  have hB := grew (Below.refl w.heap.size w) (boxE x.k x.j x.v x.t x.c)
  have h' := h.later hB
  obtain ⟨n, hnn⟩ : ∃ n, Hid (js.length = n) := ⟨_, rfl⟩
  obtain ⟨m, hmm⟩ : ∃ m, Hid (rs.length = m) := ⟨_, rfl⟩
  have hS0 : Reads (w.alloc (boxE x.k x.j x.v x.t x.c)) (w.alloc (boxE x.k x.j x.v x.t x.c)) ab gj gr w.heap.size n m x := by
    refine ⟨Below.refl _ _, ?_, ?_, ?_⟩
    · rw [Joins.cell_of_block h'.head, ← hnn.out]; rfl
    · rw [Joins.cell_of_block h'.head, ← hmm.out]; rfl
    · rw [Joins.cell_of_block (heap_new _ _)]; rfl
  have hfind := fun (W : World) (hb : Below (w.alloc (boxE x.k x.j x.v x.t x.c)).heap.size (w.alloc (boxE x.k x.j x.v x.t x.c)) W) => find_any (.slice (some ⟨gj, 0, none⟩) js.length js.length) (.slice (some ⟨gr, 0, none⟩) rs.length rs.length) js x.j W (h'.sj.later hb) (by unfold most; omega)
  rw [hnn.out, hmm.out, hj] at hfind
  have HO : Aside (Own (w.alloc (boxE x.k x.j x.v x.t x.c)) ab gj gr js rs ∧ Below w.heap.size w (w.alloc (boxE x.k x.j x.v x.t x.c)) ∧ (w.alloc (boxE x.k x.j x.v x.t x.c)).heap[w.heap.size]? = some (boxE x.k x.j x.v x.t x.c)) := ⟨h', hB, heap_new _ _⟩
  have hab := heap_lt h.head
  have ne1 := h.ne1
  have ne3 := h.ne3
  have ne2 := h.ne2
  have hgj := heap_lt h.jobs
  have hgr := heap_lt h.rungs
  have hkn : k < n := by rw [← hnn.out]; exact (List.getElem?_eq_some_iff.1 hx).1
  have HX : Hid (js[k]? = some y) := hx
  have kd : decide ((k : Int) < 0) = false := by rw [decide_eq_false_iff_not]; omega
  have kk0 : (0 : Int) ≤ (k : Int) := by omega
  have kk1 : (k : Int) < (n : Int) := by omega
  have hnb : (y.n != x.t) = false := by rw [bne_eq_false_iff_eq]; exact hne
  clear hne
  rw [hmm.out] at hf
  have hfi : (60 : Int) ≤ (m : Int) := by omega
  have hfd : decide ((60 : Int) ≤ (m : Int)) = true := by rw [decide_eq_true_eq]; exact hfi
  rw [hnn.out] at hn
  clear h h' hB hj
  go_enter Try.func91, Try.ntmps91
  go_wp2_with fail
  generalize w.alloc (boxE x.k x.j x.v x.t x.c) = W0 at *
  have hbd : Below W0.heap.size W0 W0.drew := (Below.refl _ _).drew
  go_region_held3 (fun w' => Reads W0 w' ab gj gr w.heap.size n m x) (exact reads_step (by assumption) (by assumption)) (first | (go_at_call 102; refine (hfind _ (reads_below (by assumption))).mono ?_; rintro e w1 ⟨rfl, hb'⟩))
  all_goals
    rename_i hS
    clear hb'
    obtain ⟨hB1, y0, y1, y2⟩ := hS
    have hw1 : w.heap.size < w1.heap.size := by have := heap_lt HO.out.2.2; have := hB1.size; omega
    have O1 : Own w1 ab gj gr js rs := HO.out.1.later hB1
    have E1 : w1.heap[w.heap.size]? = some (boxE x.k x.j x.v x.t x.c) := heap_below HO.out.2.2 hB1 (heap_lt HO.out.2.2)
    have B1 : Aside (Below w.heap.size w w1) := HO.out.2.1.trans (hB1.mono HO.out.2.1.size)
    have A1 : Aside (Own w1 ab gj gr js rs ∧ w1.heap[w.heap.size]? = some (boxE x.k x.j x.v x.t x.c)) := ⟨O1, E1⟩
    have e1 : ∀ i, w1.cell? ⟨w.heap.size, i, none⟩ = #[Value.int .i64 x.k, .int .i64 x.j, .int .i64 x.v, .int .i64 x.t, .int .i64 x.c][i]? := fun i => Joins.cell_of_block E1 i
    have hrow : RowAt Jb.cells 3 w1 gj 0 js := rowAt_block Jb.three O1.jobs ⟨[], by simp⟩
    have j1 : w1.cell? ⟨gj, k * 3 + 1, none⟩ = some (.int .i64 y.e) := by have := hrow k y HX.out 1 _ rfl; rwa [Nat.zero_add] at this
    have j2 : w1.cell? ⟨gj, k * 3 + 2, none⟩ = some (.int .i64 y.n) := by have := hrow k y HX.out 2 _ rfl; rwa [Nat.zero_add] at this
    clear hrow
    clear hS0 hfind hbd hB1 O1 E1 HO y2
    go_wp2_with fail
    go_quiet (fail)
    go_wp2
    exact bodyPost_ret (v := .tuple #[]) (by simp [results, go_sem]) rfl ⟨rfl, left_same A1.out.1 B1.out _⟩

end Go.Proofs.Ytbokdcdnandgbae
