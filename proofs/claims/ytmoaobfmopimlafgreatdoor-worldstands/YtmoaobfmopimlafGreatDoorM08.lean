/- For the law. -/
import Derived.Test.YtmoaobfmopimlafGreatDoorM07
import Derived.Deep.AppendLies
set_option linter.unusedSimpArgs false
set_option linter.unusedVariables false
set_option maxHeartbeats 16000000
set_option maxRecDepth 100000
namespace Go.Proofs.YtmoaobfmopimlafGreatDoor
open Go Go.ChangeShapes Go.WideShapes Go.ChangeAt Go.RowKit
section
open Go.Shelf
theorem put_pred (x : En) (eb : Nat) (W : World) (y : Jb) (h : W.heap[eb]? = some (boxE x.k x.j x.v x.t x.c)) :
  Calls Tryz.prog 264 (#[y.val] ++ #[.pointer (some ⟨eb, 0, none⟩)]) W fun e w' => e = .returned (.bool (decide (x.j < y.i))) ∧ Below W.heap.size W w' := by
 have hlt := heap_lt h
 have hne : eb ≠ W.heap.size := by omega
 have c0 := fun i => Joins.cell_of_block h i
 show Calls Tryz.prog 264 #[y.val, .pointer (some ⟨eb, 0, none⟩)] W _
 go_enter Tryz.func264, Tryz.ntmps264
 go_wp2
 all_goals (go_ret; exact ⟨by simp_all, grew (Below.refl _ _) _⟩)
abbrev Reads (W w : World) (ab gj gr eb n m : Nat) (x : En) : Prop :=
 Below W.heap.size W w ∧ w.cell? ⟨ab, 0, none⟩ = some (.slice (some ⟨gj, 0, none⟩) n n) ∧ w.cell? ⟨ab, 1, none⟩ = some (.slice (some ⟨gr, 0, none⟩) m m) ∧ w.cell? ⟨eb, 1, none⟩ = some (.int .i64 x.j)
theorem reads_below {W w : World} {ab gj gr eb n m : Nat} {x : En} (h : Reads W w ab gj gr eb n m x) : Below W.heap.size W w := h.1
theorem reads_step {W w w' : World} {ab gj gr eb n m : Nat} {x : En} (h : Reads W w ab gj gr eb n m x) (hb : Below w.heap.size w w') : Reads W w' ab gj gr eb n m x :=
 ⟨h.1.trans (hb.mono h.1.size), cell_later hb h.2.1, cell_later hb h.2.2.1, cell_later hb h.2.2.2⟩
theorem put_there (x : En) (ab gj gr : Nat) (js : List Jb) (rs : List Rg) (w : World) (h : Own w ab gj gr js rs) (hn : js.length ≤ 6) (hj : 0 ≤ jobAt js x.j) :
  Calls Tryz.prog 230 #[.pointer (some ⟨ab, 0, none⟩), x.val] w fun e w' => e = .returned (.tuple #[]) ∧ ∃ u1 u2, Left w w' ab [ab, gj] js rs u1 u2 := by
 have hB := grew (Below.refl w.heap.size w) (boxE x.k x.j x.v x.t x.c)
 have h' := h.later hB
 obtain ⟨n, hnn⟩ : ∃ n, Hid (js.length = n) := ⟨_, rfl⟩
 obtain ⟨m, hmm⟩ : ∃ m, Hid (rs.length = m) := ⟨_, rfl⟩
 have hS0 : Reads (w.alloc (boxE x.k x.j x.v x.t x.c)) (w.alloc (boxE x.k x.j x.v x.t x.c)) ab gj gr w.heap.size n m x := by
  refine ⟨Below.refl _ _, ?_, ?_, ?_⟩
  · rw [Joins.cell_of_block h'.head, ← hnn.out]; rfl
  · rw [Joins.cell_of_block h'.head, ← hmm.out]; rfl
  · rw [Joins.cell_of_block (heap_new _ _)]; rfl
 have hfind := fun (W : World) (hb : Below (w.alloc (boxE x.k x.j x.v x.t x.c)).heap.size (w.alloc (boxE x.k x.j x.v x.t x.c)) W) => find_any (.slice (some ⟨gj, 0, none⟩) js.length js.length) (.slice (some ⟨gr, 0, none⟩) rs.length rs.length) js x.j W (h'.sj.later hb) (by unfold most; omega)
 rw [hnn.out, hmm.out] at hfind
 have HO : Aside (Own w ab gj gr js rs ∧ Below w.heap.size w (w.alloc (boxE x.k x.j x.v x.t x.c))) := ⟨h, hB⟩
 generalize jobAt js x.j = r at *
 clear h h' hB
 go_enter Tryz.func230, Tryz.ntmps230
 go_wp2_with fail
 generalize w.alloc (boxE x.k x.j x.v x.t x.c) = W0 at *
 have hbd : Below W0.heap.size W0 W0.drew := (Below.refl _ _).drew
 go_region_held3 (fun w' => Reads W0 w' ab gj gr w.heap.size n m x) (exact reads_step (by assumption) (by assumption)) (first | (go_at_call 263; refine (hfind _ (reads_below (by assumption))).mono ?_; rintro e w' ⟨rfl, hb'⟩))
 all_goals
  rename_i hS
  have hB := HO.out.2.trans (hS.1.mono HO.out.2.size)
  have HR : Aside (Below w.heap.size w _) := hB
  clear hS0 hS hfind hbd hB
  go_wp2
  refine bodyPost_ret (v := .tuple #[]) (by simp [results, go_sem]) rfl ⟨rfl, _, _, ⟨(HO.out.1.later HR.out).head, (HO.out.1.later HR.out).sj, (HO.out.1.later HR.out).sr, ⟨_, _, _, rfl, Nat.le_refl _⟩, (Kept.refl _ _).below HR.out, (HO.out.1.later HR.out).tj _ _, (HO.out.1.later HR.out).tr _ _⟩⟩
theorem insJ (z : Jb) (gb vb k : Nat) (js : List Jb) (w : World) (hk : k ≤ js.length) (hg : w.heap[gb]? = some (.cells (js.flatMap Jb.cells).toArray 120)) (hv : w.heap[vb]? = some (.cells #[.int .i64 z.i, .int .i64 z.e, .int .i64 z.n] 120)) (hn : js.length ≤ 6) :
  Calls Tryz.prog 265 #[.slice (some ⟨gb, 0, none⟩) js.length js.length, .int .i64 k, .slice (some ⟨vb, 0, none⟩) 1 1] w fun e w' => ∃ u, e = .returned u ∧ (JobSl w' u (js.take k ++ z :: js.drop k) ∧ Typed 120 w' u) ∧ Kept [gb] w w' := by
 rcases Nat.lt_or_eq_of_le hk with hk | rfl
 · exact insMid z gb vb k js w hk hg hv hn
 · rw [List.take_length, List.drop_length]
  exact insEnd z gb vb js w hg hv hn
theorem kept_of_below {S : List Nat} {w w' : World} (h : Below w.heap.size w w') : Kept S w w' := (Kept.refl S w).below h
theorem Kept.trans {S S' : List Nat} {a b c : World} (h : Kept S a b) (h' : Kept S' b c) (hs : ∀ k, k ∈ S' → k ∈ S) : Kept S a c :=
 ⟨h'.os.trans h.os, h'.tape.trans h.tape, h'.output.trans h.output, Nat.le_trans h.size h'.size, fun k hk hS => (h'.block k (Nat.lt_of_lt_of_le hk h.size) (fun e => hS (hs k e))).trans (h.block k hk hS)⟩
theorem Kept.more {S S' : List Nat} {a b : World} (h : Kept S a b) (hs : ∀ k, k ∈ S → k ∈ S') : Kept S' a b :=
 ⟨h.os, h.tape, h.output, h.size, fun k hk hS => h.block k hk (fun e => hS (hs k e))⟩
def place (js : List Jb) (i : Int) : Nat := if idx (fun y => decide (i < y.i)) js < 0 then js.length else (idx (fun y => decide (i < y.i)) js).toNat
theorem place_le (js : List Jb) (i : Int) : place js i ≤ js.length := by
 unfold place
 rcases idx_ways (fun y : Jb => decide (i < y.i)) js with ⟨h, _⟩ | ⟨k, x, h, hk, _⟩
 · rw [h]; simp
 · rw [h, if_neg (by omega)]; simp; omega
abbrev PutS (w : World) (eb : Nat) (x : En) : Prop :=
 w.cell? ⟨eb, 1, none⟩ = some (.int .i64 x.j) ∧ w.cell? ⟨eb, 2, none⟩ = some (.int .i64 x.v) ∧ w.cell? ⟨eb, 3, none⟩ = some (.int .i64 x.t)
theorem putS_step {w w' : World} {eb : Nat} {x : En} (h : PutS w eb x) (hb : Below w.heap.size w w') : PutS w' eb x :=
 ⟨cell_later hb h.1, cell_later hb h.2.1, cell_later hb h.2.2⟩
theorem putS_new {w : World} {eb : Nat} {x : En} {o : Obj} (h : PutS w eb x) : PutS (w.alloc o) eb x := putS_step h (grew (Below.refl _ _) o)
theorem putS_of {w : World} {eb : Nat} {x : En} (h : w.heap[eb]? = some (boxE x.k x.j x.v x.t x.c)) : PutS w eb x :=
 ⟨by rw [Joins.cell_of_block h]; rfl, by rw [Joins.cell_of_block h]; rfl, by rw [Joins.cell_of_block h]; rfl⟩
theorem ins_left (z : Jb) (x : En) (eb ab gj gr vb k n m : Nat) (js J' : List Jb) (rs : List Rg) (w W : World) (hn : js.length = n) (hm : rs.length = m) (hk : k ≤ n) (hn6 : n ≤ 6) (hJ : js.take k ++ z :: js.drop k = J') (hO : Own W ab gj gr js rs) (hb : Below w.heap.size w W) (hE : W.heap[eb]? = some (boxE x.k x.j x.v x.t x.c)) (hne : eb ≠ gj)
  (hv : W.heap[vb]? = some (.cells #[.int .i64 z.i, .int .i64 z.e, .int .i64 z.n] 120)) :
  Calls Tryz.prog 265 #[.slice (some ⟨gj, 0, none⟩) n n, .int .i64 k, .slice (some ⟨vb, 0, none⟩) 1 1] W fun e w3 => ∃ a c, e = .returned (.slice a J'.length c) ∧
   (∀ i, w3.cell? ⟨ab, i, none⟩ = #[Value.slice (some ⟨gj, 0, none⟩) n n, .slice (some ⟨gr, 0, none⟩) m m][i]?) ∧ (∀ i, w3.frozen? ⟨ab, i, none⟩ = false) ∧ PutS w3 eb x ∧
   Aside (w3.heap[ab]? = some (boxB (.slice (some ⟨gj, 0, none⟩) n n) (.slice (some ⟨gr, 0, none⟩) m m)) ∧ (JobSl w3 (.slice a J'.length c) J' ∧ Typed 120 w3 (.slice a J'.length c)) ∧ (RungSl w3 (.slice (some ⟨gr, 0, none⟩) m m) rs ∧ Typed 76 w3 (.slice (some ⟨gr, 0, none⟩) m m)) ∧ Kept [ab, gj] w w3) := by
 subst hn hm hJ
 refine (insJ z gj vb k js W hk hO.jobs hv hn6).mono ?_
 rintro e w3 ⟨u, rfl, J3, K3⟩
 have hA3 := K3.old hO.head (by simpa using hO.ne1)
 have R3 : RungSl w3 (.slice (some ⟨gr, 0, none⟩) rs.length rs.length) rs := slOf_block Rg.three (K3.old hO.rungs (by simpa using Ne.symm hO.ne3)) ⟨[], by simp⟩
 have K3' := ((kept_of_below (S := [ab, gj]) hb).trans K3 (fun k hk => by simp at hk; simp [hk]))
 have T3 : Typed 76 w3 (.slice (some ⟨gr, 0, none⟩) rs.length rs.length) := typed_block (K3.old hO.rungs (by simpa using Ne.symm hO.ne3)) _ _ _
 obtain ⟨⟨a3, c3, rfl, hcase⟩, TJ⟩ := J3
 exact ⟨a3, c3, rfl, fun i => Joins.cell_of_block hA3 i, fun i => Joins.unfrozen_of_block hA3 i, putS_of (K3.old hE (by simpa using hne)), hA3, ⟨⟨a3, c3, rfl, hcase⟩, TJ⟩, ⟨R3, T3⟩, K3'⟩
theorem put_left {w w3 : World} {ab gj gr n m : Nat} {J' : List Jb} {rs : List Rg} {a : Option Addr} {c l : Nat} (n1 : ab ≠ gr) (h : w3.heap[ab]? = some (boxB (.slice (some ⟨gj, 0, none⟩) n n) (.slice (some ⟨gr, 0, none⟩) m m)) ∧ (JobSl w3 (.slice a l c) J' ∧ Typed 120 w3 (.slice a l c)) ∧ (RungSl w3 (.slice (some ⟨gr, 0, none⟩) m m) rs ∧ Typed 76 w3 (.slice (some ⟨gr, 0, none⟩) m m)) ∧ Kept [ab, gj] w w3) :
  Left w (w3.setCell ⟨ab, 0, none⟩ (.slice a l c)) ab [ab, gj] J' rs (.slice a l c) (.slice (some ⟨gr, 0, none⟩) m m) := by
 obtain ⟨h1, ⟨h2, h5⟩, ⟨h3, h6⟩, h4⟩ := h
 refine ⟨Joins.block_setCell (i := 0) h1 _, ?_, sl_beside h3 n1 _, ⟨_, _, _, rfl, Nat.le_refl _⟩, h4.setCell (by simp) _, h5.setCell _ _ _, h6.setCell _ _ _⟩
 obtain ⟨a', c', hv, hh⟩ := h2
 refine ⟨a', c', hv, ?_⟩
 rcases hh with hh | ⟨b', off, ha, hE⟩
 · exact Or.inl hh
 · refine Or.inr ⟨b', off, ha, fun j e hj i u hi => ?_⟩
  have hp : 0 < J'.length := by have := (List.getElem?_eq_some_iff.1 hj).1; omega
  have : ab ≠ b' := fun e => by
   obtain ⟨y, hy⟩ : ∃ y, J'[0]? = some y := ⟨J'[0], List.getElem?_eq_getElem hp⟩
   have h0 := hE 0 y hy 0 _ rfl
   rw [← e, Joins.cell_of_block h1] at h0
   generalize off + 0 * 3 + 0 = q at h0
   match q, h0 with
   | 0, h0 => simp at h0
   | 1, h0 => simp at h0
   | q + 2, h0 => simp at h0
  rw [World.cell?_of_block (Below.heap_setCell _ _ _ _ (by exact fun e => this e.symm))]
  exact hE j e hj i u hi
end
section
open Go.Shelf
theorem left_same {w w1 : World} {ab gj gr : Nat} {js : List Jb} {rs : List Rg} {S : List Nat} (h : Own w1 ab gj gr js rs) (hb : Below w.heap.size w w1) (q : Nat) : ∃ u1 u2, Left w (w1.drewN q) ab S js rs u1 u2 :=
 have h' := h.later (below_drewN (Below.refl _ w1) q)
 ⟨_, _, h'.head, h'.sj, h'.sr, ⟨_, _, _, rfl, Nat.le_refl _⟩, kept_of_below (below_drewN hb q), h'.tj _ _, h'.tr _ _⟩
theorem ring_lost (x : En) (ab gj gr : Nat) (js : List Jb) (rs : List Rg) (w : World) (h : Own w ab gj gr js rs) (hn : js.length ≤ 6) (hj : jobAt js x.j = -1) :
  Calls Tryz.prog 232 #[.pointer (some ⟨ab, 0, none⟩), x.val] w fun e w' => e = .returned (.tuple #[]) ∧ ∃ u1 u2, Left w w' ab [ab, gj] js rs u1 u2 := by
 have hB := grew (Below.refl w.heap.size w) (boxE x.k x.j x.v x.t x.c)
 have h' := h.later hB
 obtain ⟨n, hnn⟩ : ∃ n, Hid (js.length = n) := ⟨_, rfl⟩
 obtain ⟨m, hmm⟩ : ∃ m, Hid (rs.length = m) := ⟨_, rfl⟩
 have hS0 : Reads (w.alloc (boxE x.k x.j x.v x.t x.c)) (w.alloc (boxE x.k x.j x.v x.t x.c)) ab gj gr w.heap.size n m x := by
  refine ⟨Below.refl _ _, ?_, ?_, ?_⟩
  · rw [Joins.cell_of_block h'.head, ← hnn.out]; rfl
  · rw [Joins.cell_of_block h'.head, ← hmm.out]; rfl
  · rw [Joins.cell_of_block (heap_new _ _)]; rfl
 have hfind := fun (W : World) (hb : Below (w.alloc (boxE x.k x.j x.v x.t x.c)).heap.size (w.alloc (boxE x.k x.j x.v x.t x.c)) W) => find_any (.slice (some ⟨gj, 0, none⟩) js.length js.length) (.slice (some ⟨gr, 0, none⟩) rs.length rs.length) js x.j W (h'.sj.later hb) (by unfold most; omega)
 rw [hnn.out, hmm.out, hj] at hfind
 have HO : Aside (Own (w.alloc (boxE x.k x.j x.v x.t x.c)) ab gj gr js rs ∧ Below w.heap.size w (w.alloc (boxE x.k x.j x.v x.t x.c)) ∧ (w.alloc (boxE x.k x.j x.v x.t x.c)).heap[w.heap.size]? = some (boxE x.k x.j x.v x.t x.c)) := ⟨h', hB, heap_new _ _⟩
 have hab := heap_lt h.head
 have ne1 := h.ne1
 have ne3 := h.ne3
 have ne2 := h.ne2
 have hgj := heap_lt h.jobs
 have hgr := heap_lt h.rungs
 rw [hnn.out] at hn
 clear h h' hB hj
 go_enter Tryz.func232, Tryz.ntmps232
 go_wp2_with fail
 generalize w.alloc (boxE x.k x.j x.v x.t x.c) = W0 at *
 have hbd : Below W0.heap.size W0 W0.drew := (Below.refl _ _).drew
 go_region_held3 (fun w' => Reads W0 w' ab gj gr w.heap.size n m x) (exact reads_step (by assumption) (by assumption)) (first | (go_at_call 263; refine (hfind _ (reads_below (by assumption))).mono ?_; rintro e w1 ⟨rfl, hb'⟩))
 all_goals
  rename_i hS
  clear hb'
  obtain ⟨hB1, y0, y1, y2⟩ := hS
  have hw1 : w.heap.size < w1.heap.size := by have := heap_lt HO.out.2.2; have := hB1.size; omega
  have O1 : Own w1 ab gj gr js rs := HO.out.1.later hB1
  have E1 : w1.heap[w.heap.size]? = some (boxE x.k x.j x.v x.t x.c) := heap_below HO.out.2.2 hB1 (heap_lt HO.out.2.2)
  have B1 : Aside (Below w.heap.size w w1) := HO.out.2.1.trans (hB1.mono HO.out.2.1.size)
  have A1 : Aside (Own w1 ab gj gr js rs ∧ w1.heap[w.heap.size]? = some (boxE x.k x.j x.v x.t x.c)) := ⟨O1, E1⟩
  have e1 := fun i => Joins.cell_of_block E1 i
  clear hS0 hfind hbd hB1 O1 E1 HO y2
  go_wp2_with fail
  go_quiet (fail)
  go_wp2
  exact bodyPost_ret (v := .tuple #[]) (by simp [results, go_sem]) rfl ⟨rfl, left_same A1.out.1 B1.out _⟩
theorem ring_other (x : En) (ab gj gr : Nat) (js : List Jb) (rs : List Rg) (w : World) (h : Own w ab gj gr js rs) (hn : js.length ≤ 6) (k : Nat) (y : Jb) (hj : jobAt js x.j = (k : Nat)) (hx : js[k]? = some y) (hne : y.n ≠ x.t) :
  Calls Tryz.prog 232 #[.pointer (some ⟨ab, 0, none⟩), x.val] w fun e w' => e = .returned (.tuple #[]) ∧ ∃ u1 u2, Left w w' ab [ab, gj] js rs u1 u2 := by
 have hB := grew (Below.refl w.heap.size w) (boxE x.k x.j x.v x.t x.c)
 have h' := h.later hB
 obtain ⟨n, hnn⟩ : ∃ n, Hid (js.length = n) := ⟨_, rfl⟩
 obtain ⟨m, hmm⟩ : ∃ m, Hid (rs.length = m) := ⟨_, rfl⟩
 have hS0 : Reads (w.alloc (boxE x.k x.j x.v x.t x.c)) (w.alloc (boxE x.k x.j x.v x.t x.c)) ab gj gr w.heap.size n m x := by
  refine ⟨Below.refl _ _, ?_, ?_, ?_⟩
  · rw [Joins.cell_of_block h'.head, ← hnn.out]; rfl
  · rw [Joins.cell_of_block h'.head, ← hmm.out]; rfl
  · rw [Joins.cell_of_block (heap_new _ _)]; rfl
 have hfind := fun (W : World) (hb : Below (w.alloc (boxE x.k x.j x.v x.t x.c)).heap.size (w.alloc (boxE x.k x.j x.v x.t x.c)) W) => find_any (.slice (some ⟨gj, 0, none⟩) js.length js.length) (.slice (some ⟨gr, 0, none⟩) rs.length rs.length) js x.j W (h'.sj.later hb) (by unfold most; omega)
 rw [hnn.out, hmm.out, hj] at hfind
 have HO : Aside (Own (w.alloc (boxE x.k x.j x.v x.t x.c)) ab gj gr js rs ∧ Below w.heap.size w (w.alloc (boxE x.k x.j x.v x.t x.c)) ∧ (w.alloc (boxE x.k x.j x.v x.t x.c)).heap[w.heap.size]? = some (boxE x.k x.j x.v x.t x.c)) := ⟨h', hB, heap_new _ _⟩
 have hab := heap_lt h.head
 have ne1 := h.ne1
 have ne3 := h.ne3
 have ne2 := h.ne2
 have hgj := heap_lt h.jobs
 have hgr := heap_lt h.rungs
 have hkn : k < n := by rw [← hnn.out]; exact (List.getElem?_eq_some_iff.1 hx).1
 have HX : Hid (js[k]? = some y) := hx
 have kd : decide ((k : Int) < 0) = false := by rw [decide_eq_false_iff_not]; omega
 have kk0 : (0 : Int) ≤ (k : Int) := by omega
 have kk1 : (k : Int) < (n : Int) := by omega
 have hnb : (y.n != x.t) = true := by rw [bne_iff_ne]; exact hne
 clear hne
 rw [hnn.out] at hn
 clear h h' hB hj
 go_enter Tryz.func232, Tryz.ntmps232
 go_wp2_with fail
 generalize w.alloc (boxE x.k x.j x.v x.t x.c) = W0 at *
 have hbd : Below W0.heap.size W0 W0.drew := (Below.refl _ _).drew
 go_region_held3 (fun w' => Reads W0 w' ab gj gr w.heap.size n m x) (exact reads_step (by assumption) (by assumption)) (first | (go_at_call 263; refine (hfind _ (reads_below (by assumption))).mono ?_; rintro e w1 ⟨rfl, hb'⟩))
 all_goals
  rename_i hS
  clear hb'
  obtain ⟨hB1, y0, y1, y2⟩ := hS
  have hw1 : w.heap.size < w1.heap.size := by have := heap_lt HO.out.2.2; have := hB1.size; omega
  have O1 : Own w1 ab gj gr js rs := HO.out.1.later hB1
  have E1 : w1.heap[w.heap.size]? = some (boxE x.k x.j x.v x.t x.c) := heap_below HO.out.2.2 hB1 (heap_lt HO.out.2.2)
  have B1 : Aside (Below w.heap.size w w1) := HO.out.2.1.trans (hB1.mono HO.out.2.1.size)
  have A1 : Aside (Own w1 ab gj gr js rs ∧ w1.heap[w.heap.size]? = some (boxE x.k x.j x.v x.t x.c)) := ⟨O1, E1⟩
  have e1 := fun i => Joins.cell_of_block E1 i
  have hrow : RowAt Jb.cells 3 w1 gj 0 js := rowAt_block Jb.three O1.jobs ⟨[], by simp⟩
  have j1 : w1.cell? ⟨gj, k * 3 + 1, none⟩ = some (.int .i64 y.e) := by have := hrow k y HX.out 1 _ rfl; rwa [Nat.zero_add] at this
  have j2 : w1.cell? ⟨gj, k * 3 + 2, none⟩ = some (.int .i64 y.n) := by have := hrow k y HX.out 2 _ rfl; rwa [Nat.zero_add] at this
  clear hrow
  clear hS0 hfind hbd hB1 O1 E1 HO y2
  go_wp2_with fail
  go_quiet (fail)
  go_wp2
  exact bodyPost_ret (v := .tuple #[]) (by simp [results, go_sem]) rfl ⟨rfl, left_same A1.out.1 B1.out _⟩
theorem ring_full (x : En) (ab gj gr : Nat) (js : List Jb) (rs : List Rg) (w : World) (h : Own w ab gj gr js rs) (hn : js.length ≤ 6) (k : Nat) (y : Jb) (hj : jobAt js x.j = (k : Nat)) (hx : js[k]? = some y) (hne : y.n = x.t) (hf : 60 ≤ rs.length) :
  Calls Tryz.prog 232 #[.pointer (some ⟨ab, 0, none⟩), x.val] w fun e w' => e = .returned (.tuple #[]) ∧ ∃ u1 u2, Left w w' ab [ab, gj] js rs u1 u2 := by
 have hB := grew (Below.refl w.heap.size w) (boxE x.k x.j x.v x.t x.c)
 have h' := h.later hB
 obtain ⟨n, hnn⟩ : ∃ n, Hid (js.length = n) := ⟨_, rfl⟩
 obtain ⟨m, hmm⟩ : ∃ m, Hid (rs.length = m) := ⟨_, rfl⟩
 have hS0 : Reads (w.alloc (boxE x.k x.j x.v x.t x.c)) (w.alloc (boxE x.k x.j x.v x.t x.c)) ab gj gr w.heap.size n m x := by
  refine ⟨Below.refl _ _, ?_, ?_, ?_⟩
  · rw [Joins.cell_of_block h'.head, ← hnn.out]; rfl
  · rw [Joins.cell_of_block h'.head, ← hmm.out]; rfl
  · rw [Joins.cell_of_block (heap_new _ _)]; rfl
 have hfind := fun (W : World) (hb : Below (w.alloc (boxE x.k x.j x.v x.t x.c)).heap.size (w.alloc (boxE x.k x.j x.v x.t x.c)) W) => find_any (.slice (some ⟨gj, 0, none⟩) js.length js.length) (.slice (some ⟨gr, 0, none⟩) rs.length rs.length) js x.j W (h'.sj.later hb) (by unfold most; omega)
 rw [hnn.out, hmm.out, hj] at hfind
 have HO : Aside (Own (w.alloc (boxE x.k x.j x.v x.t x.c)) ab gj gr js rs ∧ Below w.heap.size w (w.alloc (boxE x.k x.j x.v x.t x.c)) ∧ (w.alloc (boxE x.k x.j x.v x.t x.c)).heap[w.heap.size]? = some (boxE x.k x.j x.v x.t x.c)) := ⟨h', hB, heap_new _ _⟩
 have hab := heap_lt h.head
 have ne1 := h.ne1
 have ne3 := h.ne3
 have ne2 := h.ne2
 have hgj := heap_lt h.jobs
 have hgr := heap_lt h.rungs
 have hkn : k < n := by rw [← hnn.out]; exact (List.getElem?_eq_some_iff.1 hx).1
 have HX : Hid (js[k]? = some y) := hx
 have kd : decide ((k : Int) < 0) = false := by rw [decide_eq_false_iff_not]; omega
 have kk0 : (0 : Int) ≤ (k : Int) := by omega
 have kk1 : (k : Int) < (n : Int) := by omega
 have hnb : (y.n != x.t) = false := by rw [bne_eq_false_iff_eq]; exact hne
 clear hne
 rw [hmm.out] at hf
 have hfi : (60 : Int) ≤ (m : Int) := by omega
 have hfd : decide ((60 : Int) ≤ (m : Int)) = true := by rw [decide_eq_true_eq]; exact hfi
 rw [hnn.out] at hn
 clear h h' hB hj
 go_enter Tryz.func232, Tryz.ntmps232
 go_wp2_with fail
 generalize w.alloc (boxE x.k x.j x.v x.t x.c) = W0 at *
 have hbd : Below W0.heap.size W0 W0.drew := (Below.refl _ _).drew
 go_region_held3 (fun w' => Reads W0 w' ab gj gr w.heap.size n m x) (exact reads_step (by assumption) (by assumption)) (first | (go_at_call 263; refine (hfind _ (reads_below (by assumption))).mono ?_; rintro e w1 ⟨rfl, hb'⟩))
 all_goals
  rename_i hS
  clear hb'
  obtain ⟨hB1, y0, y1, y2⟩ := hS
  have hw1 : w.heap.size < w1.heap.size := by have := heap_lt HO.out.2.2; have := hB1.size; omega
  have O1 : Own w1 ab gj gr js rs := HO.out.1.later hB1
  have E1 : w1.heap[w.heap.size]? = some (boxE x.k x.j x.v x.t x.c) := heap_below HO.out.2.2 hB1 (heap_lt HO.out.2.2)
  have B1 : Aside (Below w.heap.size w w1) := HO.out.2.1.trans (hB1.mono HO.out.2.1.size)
  have A1 : Aside (Own w1 ab gj gr js rs ∧ w1.heap[w.heap.size]? = some (boxE x.k x.j x.v x.t x.c)) := ⟨O1, E1⟩
  have e1 := fun i => Joins.cell_of_block E1 i
  have hrow : RowAt Jb.cells 3 w1 gj 0 js := rowAt_block Jb.three O1.jobs ⟨[], by simp⟩
  have j1 : w1.cell? ⟨gj, k * 3 + 1, none⟩ = some (.int .i64 y.e) := by have := hrow k y HX.out 1 _ rfl; rwa [Nat.zero_add] at this
  have j2 : w1.cell? ⟨gj, k * 3 + 2, none⟩ = some (.int .i64 y.n) := by have := hrow k y HX.out 2 _ rfl; rwa [Nat.zero_add] at this
  clear hrow
  clear hS0 hfind hbd hB1 O1 E1 HO y2
  go_wp2_with fail
  go_quiet (fail)
  go_wp2
  exact bodyPost_ret (v := .tuple #[]) (by simp [results, go_sem]) rfl ⟨rfl, left_same A1.out.1 B1.out _⟩
end
section
open Go.Shelf
theorem bk_app_book (a1 a2 : Option Addr) (n1 n2 c1 c2 : Nat) (js : List Jb) (rs : List Rg) (x : En) (w : World) (h1 : JobSl w (.slice a1 n1 c1) js) (h2 : RungSl w (.slice a2 n2 c2) rs) (hbad : ckBook js rs ≠ 0) :
  Calls Tryz.prog 205 #[.agg #[.slice a1 n1 c1, .slice a2 n2 c2], x.val] w fun e w' => e = .returned (.tuple #[.agg #[nil0, nil0], .int .i64 (ckBook js rs)]) ∧ Below w.heap.size w w' := by
 have hck := fun W hb => bk_check (.slice a1 n1 c1) (.slice a2 n2 c2) js rs W (h1.later hb) (h2.later hb)
 have hb : (ckBook js rs != 0) = true := by rw [bne_iff_ne]; exact hbad
 clear h1 h2 hbad
 generalize ckBook js rs = n at *
 have hB0 := grew (grew (grew (Below.refl w.heap.size w) (boxB (.slice a1 n1 c1) (.slice a2 n2 c2))) (boxE x.k x.j x.v x.t x.c)) (boxB nil0 nil0)
 have HB0 : Aside _ := hB0
 have hck' := hck _ hB0
 have hr0 : ∀ (i : Nat), (((w.alloc (boxB (.slice a1 n1 c1) (.slice a2 n2 c2))).alloc (boxE x.k x.j x.v x.t x.c)).alloc (boxB nil0 nil0)).heap[w.heap.size + 2]? = some (boxB nil0 nil0) := fun _ => by
  have := heap_new ((w.alloc (boxB (.slice a1 n1 c1) (.slice a2 n2 c2))).alloc (boxE x.k x.j x.v x.t x.c)) (boxB nil0 nil0)
  rwa [World.size_alloc, World.size_alloc] at this
 have HR0 : Aside _ := hr0 0
 clear hck hB0 hr0
 go_enter Tryz.func205, Tryz.ntmps205
 go_wp2_with fail
 refine hck'.mono ?_
 rintro e w1 ⟨rfl, hb1⟩
 have hB1 := HB0.out.trans (hb1.mono HB0.out.size)
 have hr1 : w1.heap[w.heap.size + 2]? = some (boxB nil0 nil0) := heap_below HR0.out hb1 (heap_lt HR0.out)
 have z1 := fun i => Joins.cell_of_block hr1 i
 have f1 := fun i => Joins.unfrozen_of_block hr1 i
 clear hb1 hck' HB0 HR0 hr1
 go_wp2
 refine bodyPost_ret (v := .tuple #[.agg #[nil0, nil0], .int .i64 n]) (by simp [results, Tryz.results205, go_sem, z1]) rfl ⟨rfl, ?_⟩
 exact (hB1.setCell (p := ⟨w.heap.size + 2, 0, none⟩) (by show w.heap.size ≤ w.heap.size + 2; omega) _).setCell (p := ⟨w.heap.size + 2, 1, none⟩) (by show w.heap.size ≤ w.heap.size + 2; omega) _
theorem bk_app_entry (a1 a2 : Option Addr) (n1 n2 c1 c2 : Nat) (js : List Jb) (rs : List Rg) (x : En) (w : World) (h1 : JobSl w (.slice a1 n1 c1) js) (h2 : RungSl w (.slice a2 n2 c2) rs) (hok : ckBook js rs = 0) (hbad : x.chk ≠ 0) :
  Calls Tryz.prog 205 #[.agg #[.slice a1 n1 c1, .slice a2 n2 c2], x.val] w fun e w' => e = .returned (.tuple #[.agg #[nil0, nil0], .int .i64 x.chk]) ∧ Below w.heap.size w w' := by
 have hck := fun W hb => bk_check (.slice a1 n1 c1) (.slice a2 n2 c2) js rs W (h1.later hb) (h2.later hb)
 rw [hok] at hck
 have hce : ∀ W, Calls Tryz.prog 115 #[ev x.k x.j x.v x.t x.c] W fun e w' => e = .returned (.int .i64 x.chk) ∧ Below W.heap.size W w' := fun W => check_any x.k x.j x.v x.t x.c W
 have hb : (x.chk != 0) = true := by rw [bne_iff_ne]; exact hbad
 clear h1 h2 hbad hok
 generalize x.chk = n at *
 have hB0 := grew (grew (grew (Below.refl w.heap.size w) (boxB (.slice a1 n1 c1) (.slice a2 n2 c2))) (boxE x.k x.j x.v x.t x.c)) (boxB nil0 nil0)
 have HB0 : Aside _ := hB0
 have hck' := hck _ hB0
 have hr0 : ∀ (i : Nat), (((w.alloc (boxB (.slice a1 n1 c1) (.slice a2 n2 c2))).alloc (boxE x.k x.j x.v x.t x.c)).alloc (boxB nil0 nil0)).heap[w.heap.size + 2]? = some (boxB nil0 nil0) := fun _ => by
  have := heap_new ((w.alloc (boxB (.slice a1 n1 c1) (.slice a2 n2 c2))).alloc (boxE x.k x.j x.v x.t x.c)) (boxB nil0 nil0)
  rwa [World.size_alloc, World.size_alloc] at this
 have HR0 : Aside _ := hr0 0
 clear hck hB0 hr0
 go_enter Tryz.func205, Tryz.ntmps205
 go_wp2_with fail
 refine hck'.mono ?_
 rintro e w1 ⟨rfl, hb1⟩
 have hB1 := HB0.out.trans (hb1.mono HB0.out.size)
 have hr1 : w1.heap[w.heap.size + 2]? = some (boxB nil0 nil0) := heap_below HR0.out hb1 (heap_lt HR0.out)
 have z1 := fun i => Joins.cell_of_block hr1 i
 have f1 := fun i => Joins.unfrozen_of_block hr1 i
 have e1 : w1.heap[w.heap.size + 1]? = some (boxE x.k x.j x.v x.t x.c) := by
  rw [hb1.block _ (by simp only [World.size_alloc]; omega)]
  have := heap_new (w.alloc (boxB (.slice a1 n1 c1) (.slice a2 n2 c2))) (boxE x.k x.j x.v x.t x.c)
  rw [World.size_alloc] at this
  exact heap_old this _
 have y1 := fun i => Joins.cell_of_block e1 i
 clear hb1 hck' HB0 HR0 z1 f1
 go_wp2_with fail
 refine (hce _).mono ?_
 rintro e w2 ⟨rfl, hb2⟩
 have hB2 := hB1.trans (hb2.mono hB1.size)
 have hr2 := heap_below hr1 hb2 (heap_lt hr1)
 have z1 := fun i => Joins.cell_of_block hr2 i
 have f1 := fun i => Joins.unfrozen_of_block hr2 i
 clear hb2 hB1 hr1 hr2 e1 y1 hce
 go_wp2
 refine bodyPost_ret (v := .tuple #[.agg #[nil0, nil0], .int .i64 n]) (by simp [results, Tryz.results205, go_sem, z1]) rfl ⟨rfl, ?_⟩
 exact (hB2.setCell (p := ⟨w.heap.size + 2, 0, none⟩) (by show w.heap.size ≤ w.heap.size + 2; omega) _).setCell (p := ⟨w.heap.size + 2, 1, none⟩) (by show w.heap.size ≤ w.heap.size + 2; omega) _
end
section
open Go.Shelf
abbrev Copies (W w : World) (b : Nat) (v1 v2 : Value) : Prop :=
 Below W.heap.size W w ∧ w.cell? ⟨b, 0, none⟩ = some v1 ∧ w.cell? ⟨b, 1, none⟩ = some v2
theorem copies_step {W w w' : World} {b : Nat} {v1 v2 : Value} (h : Copies W w b v1 v2) (hb : Below w.heap.size w w') : Copies W w' b v1 v2 :=
 ⟨h.1.trans (hb.mono h.1.size), cell_later hb h.2.1, cell_later hb h.2.2⟩
theorem copies_new {W w : World} {b : Nat} {v1 v2 : Value} {o : Obj} (h : Copies W w b v1 v2) : Copies W (w.alloc o) b v1 v2 := copies_step h (grew (Below.refl _ _) o)
theorem copies_below {W w : World} {b : Nat} {v1 v2 : Value} (h : Copies W w b v1 v2) : Below W.heap.size W w := h.1
theorem copies_set {W w : World} {b b8 o : Nat} {v1 v2 v : Value} (h : Copies W w b v1 v2) (hb8 : W.heap.size ≤ b8) (hb : b < W.heap.size) : Copies W (w.setCell ⟨b8, o, none⟩ v) b v1 v2 := by
 have hc : ∀ i, (w.setCell ⟨b8, o, none⟩ v).cell? ⟨b, i, none⟩ = w.cell? ⟨b, i, none⟩ := fun i => World.cell?_of_block (Below.heap_setCell _ _ _ _ (by show b ≠ b8; omega))
 exact ⟨h.1.setCell (p := ⟨b8, o, none⟩) hb8 _, (hc 0).trans h.2.1, (hc 1).trans h.2.2⟩
theorem copyJ_at (v : Value) (js : List Jb) (n : Nat) (w W : World) (b : Nat) (hl : js.length = n) (hn : n ≤ 1000000) (hv : JobSl w v js) (hb : Below w.heap.size w W) (hh : W.heap[b]? = some (boxB nil0 nil0)) :
  Calls Tryz.prog 228 #[v] W fun e w' => ∃ g, e = .returned (.slice (some ⟨g, 0, none⟩) n n) ∧ W.heap.size ≤ g ∧ w'.heap[g]? = some (.cells (js.flatMap Jb.cells).toArray 120) ∧ Below W.heap.size W w' ∧
   w'.heap[b]? = some (boxB nil0 nil0) ∧ (∀ i, w'.cell? ⟨b, i, none⟩ = #[nil0, nil0][i]?) ∧ (∀ i, w'.frozen? ⟨b, i, none⟩ = false) := by
 subst hl
 refine (copyJ v js W (hv.later hb) hn).mono ?_
 rintro e w' ⟨g, rfl, h1, h2, h3⟩
 have h4 := heap_below hh h3 (heap_lt hh)
 exact ⟨g, rfl, h1, h2, h3, h4, fun i => Joins.cell_of_block h4 i, fun i => Joins.unfrozen_of_block h4 i⟩
theorem copyR_at (v : Value) (rs : List Rg) (n : Nat) (w W : World) (b : Nat) (hl : rs.length = n) (hn : n ≤ 1000000) (hv : RungSl w v rs) (hb : Below w.heap.size w W) (hh : W.heap[b]? = some (boxB nil0 nil0)) :
  Calls Tryz.prog 229 #[v] W fun e w' => ∃ g, e = .returned (.slice (some ⟨g, 0, none⟩) n n) ∧ W.heap.size ≤ g ∧ w'.heap[g]? = some (.cells (rs.flatMap Rg.cells).toArray 76) ∧ Below W.heap.size W w' ∧
   w'.heap[b]? = some (boxB nil0 nil0) ∧ (∀ i, w'.cell? ⟨b, i, none⟩ = #[nil0, nil0][i]?) ∧ (∀ i, w'.frozen? ⟨b, i, none⟩ = false) := by
 subst hl
 refine (copyR v rs W (hv.later hb) hn).mono ?_
 rintro e w' ⟨g, rfl, h1, h2, h3⟩
 have h4 := heap_below hh h3 (heap_lt hh)
 exact ⟨g, rfl, h1, h2, h3, h4, fun i => Joins.cell_of_block h4 i, fun i => Joins.unfrozen_of_block h4 i⟩
theorem head_set {w : World} {b : Nat} {o1 o2 v1 v2 : Value} (h : w.heap[b]? = some (boxB o1 o2)) : ((w.setCell ⟨b, 0, none⟩ v1).setCell ⟨b, 1, none⟩ v2).heap[b]? = some (boxB v1 v2) := by
 have e0 := Joins.block_setCell (i := 0) h v1
 rw [Joins.block_setCell (i := 1) e0 v2]
 rfl
theorem heap_set2 {w : World} {b k : Nat} {o : Obj} {v1 v2 : Value} (h : w.heap[k]? = some o) (hne : k ≠ b) : ((w.setCell ⟨b, 0, none⟩ v1).setCell ⟨b, 1, none⟩ v2).heap[k]? = some o := by
 rw [Below.heap_setCell _ _ _ _ (by exact hne), Below.heap_setCell _ _ _ _ (by exact hne)]; exact h
theorem ne_of_type {w : World} {b k : Nat} {v1 v2 : Value} {A : Array Value} {T : TypeId} (h : w.heap[b]? = some (boxB v1 v2)) (h' : w.heap[k]? = some (.cells A T)) (hT : T ≠ 39) : k ≠ b := fun e => by
 rw [e, h] at h'
 injection h' with h'
 injection h' with _ h' _
 exact hT h'.symm
structure Does (js : List Jb) (rs : List Rg) (x : En) : Prop where
 put : x.k = 1 → ∀ (W : World) (ab gj gr : Nat), Own W ab gj gr js rs → Calls Tryz.prog 230 #[.pointer (some ⟨ab, 0, none⟩), x.val] W fun e w' => e = .returned (.tuple #[]) ∧ ∃ u1 u2, Left W w' ab [ab, gj, gr] (step js rs x).1 (step js rs x).2 u1 u2
 drop : x.k = 2 → ∀ (W : World) (ab gj gr : Nat), Own W ab gj gr js rs → Calls Tryz.prog 231 #[.pointer (some ⟨ab, 0, none⟩), x.val] W fun e w' => e = .returned (.tuple #[]) ∧ ∃ u1 u2, Left W w' ab [ab, gj, gr] (step js rs x).1 (step js rs x).2 u1 u2
 ring : x.k = 3 → ∀ (W : World) (ab gj gr : Nat), Own W ab gj gr js rs → Calls Tryz.prog 232 #[.pointer (some ⟨ab, 0, none⟩), x.val] W fun e w' => e = .returned (.tuple #[]) ∧ ∃ u1 u2, Left W w' ab [ab, gj, gr] (step js rs x).1 (step js rs x).2 u1 u2
theorem app_end {w W4 w5 : World} {ab rb : Nat} {S : List Nat} {J : List Jb} {R : List Rg} {u1 u2 : Value} (hL : Left W4 w5 ab S J R u1 u2) (hB : Below w.heap.size w W4) (hrb : W4.heap[rb]? = some (boxB nil0 nil0)) (hS : ∀ k, k ∈ S → rb < k) (hw : w.heap.size ≤ rb) :
  ((w5.setCell ⟨rb, 0, none⟩ u1).setCell ⟨rb, 1, none⟩ u2).heap[rb]? = some (boxB u1 u2) ∧ JobSl ((w5.setCell ⟨rb, 0, none⟩ u1).setCell ⟨rb, 1, none⟩ u2) u1 J ∧ RungSl ((w5.setCell ⟨rb, 0, none⟩ u1).setCell ⟨rb, 1, none⟩ u2) u2 R ∧ Below w.heap.size w ((w5.setCell ⟨rb, 0, none⟩ u1).setCell ⟨rb, 1, none⟩ u2) ∧ Roomy u2 ∧ Typed 120 ((w5.setCell ⟨rb, 0, none⟩ u1).setCell ⟨rb, 1, none⟩ u2) u1 ∧ Typed 76 ((w5.setCell ⟨rb, 0, none⟩ u1).setCell ⟨rb, 1, none⟩ u2) u2 := by
 have h5 : w5.heap[rb]? = some (boxB nil0 nil0) := hL.kept.old hrb (fun e => by have := hS rb e; omega)
 obtain ⟨b1, d1, b2, d2, rfl, rfl⟩ := bk_slices hL.jobs hL.rungs
 have h6 : (w5.setCell ⟨rb, 0, none⟩ (.slice b1 J.length d1)).heap[rb]? = some (boxB (.slice b1 J.length d1) nil0) := Joins.block_setCell (i := 0) h5 _
 have hk : Below w.heap.size w w5 := hB.trans (hL.kept.to hB.size (fun k hk => by have := hS k hk; omega))
 refine ⟨head_set h5, (hL.jobs.beside Jb.ints h5 0 _).beside Jb.ints h6 1 _, (hL.rungs.beside Rg.ints h5 0 _).beside Rg.ints h6 1 _, ?_, hL.room, (hL.tj.setCell _ _ _).setCell _ _ _, (hL.tr.setCell _ _ _).setCell _ _ _⟩
 exact (hk.setCell (p := ⟨rb, 0, none⟩) hw _).setCell (p := ⟨rb, 1, none⟩) hw _
theorem bk_app_ok (a1 a2 : Option Addr) (n1 n2 c1 c2 : Nat) (js : List Jb) (rs : List Rg) (x : En) (w : World) (h1 : JobSl w (.slice a1 n1 c1) js) (h2 : RungSl w (.slice a2 n2 c2) rs) (hok : Ok js rs) (hx : x.chk = 0) (hD : Does js rs x) :
  Calls Tryz.prog 205 #[.agg #[.slice a1 n1 c1, .slice a2 n2 c2], x.val] w fun e w' => ∃ u1 u2, e = .returned (.tuple #[.agg #[u1, u2], .int .i64 0]) ∧ JobSl w' u1 (step js rs x).1 ∧ RungSl w' u2 (step js rs x).2 ∧ Below w.heap.size w w' ∧ Roomy u2 ∧ Typed 120 w' u1 ∧ Typed 76 w' u2 := by
 have hck := fun W hb => bk_check (.slice a1 n1 c1) (.slice a2 n2 c2) js rs W (h1.later hb) (h2.later hb)
 rw [ckBook_zero.2 hok] at hck
 have hce : ∀ W, Calls Tryz.prog 115 #[ev x.k x.j x.v x.t x.c] W fun e w' => e = .returned (.int .i64 x.chk) ∧ Below W.heap.size W w' := fun W => check_any x.k x.j x.v x.t x.c W
 rw [hx] at hce
 have HJ : Hid (JobSl w (.slice a1 n1 c1) js ∧ RungSl w (.slice a2 n2 c2) rs ∧ Ok js rs ∧ x.chk = 0) := ⟨h1, h2, hok, hx⟩
 have l1 := h1.len
 have l2 := h2.len
 have hcJ := fun (W : World) (hb : Below w.heap.size w W) => copyJ _ js W (h1.later hb) (by have := hok.few; omega)
 have hcR := fun (W : World) (hb : Below w.heap.size w W) => copyR _ rs W (h2.later hb) (by have := hok.room; omega)
 have hcJ8 := fun (W : World) (b : Nat) (hb : Below w.heap.size w W) (hh : W.heap[b]? = some (boxB nil0 nil0)) => copyJ_at _ js n1 w W b l1 (by have := hok.few; omega) h1 hb hh
 have hcR8 := fun (W : World) (b : Nat) (hb : Below w.heap.size w W) (hh : W.heap[b]? = some (boxB nil0 nil0)) => copyR_at _ rs n2 w W b l2 (by have := hok.room; omega) h2 hb hh
 rw [l1] at hcJ
 rw [l2] at hcR
 clear h1 h2 hok hx
 have hB0 := grew (grew (grew (Below.refl w.heap.size w) (boxB (.slice a1 n1 c1) (.slice a2 n2 c2))) (boxE x.k x.j x.v x.t x.c)) (boxB nil0 nil0)
 have HB0 : Aside _ := hB0
 have hck' := hck _ hB0
 have hr0 : (((w.alloc (boxB (.slice a1 n1 c1) (.slice a2 n2 c2))).alloc (boxE x.k x.j x.v x.t x.c)).alloc (boxB nil0 nil0)).heap[w.heap.size + 2]? = some (boxB nil0 nil0) := by
  have := heap_new ((w.alloc (boxB (.slice a1 n1 c1) (.slice a2 n2 c2))).alloc (boxE x.k x.j x.v x.t x.c)) (boxB nil0 nil0)
  rwa [World.size_alloc, World.size_alloc] at this
 have HR0 : Aside _ := hr0
 clear hck hB0 hr0
 go_enter Tryz.func205, Tryz.ntmps205
 go_wp2_with fail
 refine hck'.mono ?_
 rintro e w1 ⟨rfl, hb1⟩
 have hB1 := HB0.out.trans (hb1.mono HB0.out.size)
 have hr1 : w1.heap[w.heap.size + 2]? = some (boxB nil0 nil0) := heap_below HR0.out hb1 (heap_lt HR0.out)
 have e1 : w1.heap[w.heap.size + 1]? = some (boxE x.k x.j x.v x.t x.c) := by
  rw [hb1.block _ (by simp only [World.size_alloc]; omega)]
  have := heap_new (w.alloc (boxB (.slice a1 n1 c1) (.slice a2 n2 c2))) (boxE x.k x.j x.v x.t x.c)
  rw [World.size_alloc] at this
  exact heap_old this _
 have b1 : w1.heap[w.heap.size]? = some (boxB (.slice a1 n1 c1) (.slice a2 n2 c2)) := by
  rw [hb1.block _ (by simp only [World.size_alloc]; omega)]
  exact heap_old (heap_old (heap_new _ _) _) _
 have y1 := fun i => Joins.cell_of_block e1 i
 clear hb1 hck' HB0 HR0
 go_wp2_with fail
 refine (hce _).mono ?_
 rintro e w2 ⟨rfl, hb2⟩
 have hB2 := hB1.trans (hb2.mono hB1.size)
 have hr2 := heap_below hr1 hb2 (heap_lt hr1)
 have e2 := heap_below e1 hb2 (heap_lt e1)
 have b2 := heap_below b1 hb2 (heap_lt b1)
 have HW : Aside (w2.heap[w.heap.size + 2]? = some (boxB nil0 nil0) ∧ w2.heap[w.heap.size + 1]? = some (boxE x.k x.j x.v x.t x.c) ∧ Below w.heap.size w w2) := ⟨hr2, e2, hB2⟩
 have hS0 : Copies w2 w2 w.heap.size (.slice a1 n1 c1) (.slice a2 n2 c2) := ⟨Below.refl _ _, by rw [Joins.cell_of_block b2]; rfl, by rw [Joins.cell_of_block b2]; rfl⟩
 have hbd : Below w2.heap.size w2 w2.drew := (Below.refl _ _).drew
 have cJ := fun (W : World) (hb : Below w2.heap.size w2 W) => hcJ W (hB2.trans (hb.mono hB2.size))
 have cR := fun (W : World) (hb : Below w2.heap.size w2 W) => hcR W (hB2.trans (hb.mono hB2.size))
 have cJ8 := fun (W : World) (b : Nat) (hb : Below w2.heap.size w2 W) => hcJ8 W b (hB2.trans (hb.mono hB2.size))
 have cR8 := fun (W : World) (b : Nat) (hb : Below w2.heap.size w2 W) => hcR8 W b (hB2.trans (hb.mono hB2.size))
 have hws : w.heap.size < w2.heap.size := by have := heap_lt b2; omega
 clear hcJ8 hcR8
 clear hb2 hB1 hr1 hr2 e1 y1 hce b1 e2 b2 hB2 hcJ hcR
 go_wp2_with fail
 go_region_held3 (fun w' => Copies w2 w' w.heap.size (.slice a1 n1 c1) (.slice a2 n2 c2)) (first | exact copies_step (by assumption) (by assumption) | exact copies_new (by assumption) | exact copies_new (copies_step (copies_step (copies_step hS0 hbd) hbj) hbr) | exact copies_set (copies_set (by assumption) (by exact hbj.size) hws) (by exact hbj.size) hws | exact copies_set (copies_set (by assumption) (by exact Nat.le_refl _) hws) (by exact Nat.le_refl _) hws) (first | (go_at_call 228; refine (cJ8 _ w2.heap.size (copies_below (by assumption)) (by exact heap_new w2 _)).mono ?_; rintro e wj ⟨gj, rfl, hgj, hJ, hbj, h8, z8, f8⟩) | (go_at_call 228; refine (cJ _ (copies_below (by assumption))).mono ?_; rintro e wj ⟨gj, rfl, hgj, hJ, hbj⟩) | (go_at_call 229; refine (cR8 _ _ (copies_below (by assumption)) (heap_new _ _)).mono ?_; rintro e wr ⟨gr, rfl, hgr, hR, hbr, h9, z9, f9⟩) | (go_at_call 229; refine (cR8 _ _ (copies_below (by assumption)) (by assumption)).mono ?_; rintro e wr ⟨gr, rfl, hgr, hR, hbr, h9, z9, f9⟩) | (go_at_call 229; refine (cR _ (copies_below (by assumption))).mono ?_; rintro e wr ⟨gr, rfl, hgr, hR, hbr⟩))
 rename_i hHeld
 have hO : Own (wr.alloc (boxB (.slice (some ⟨gj, 0, none⟩) n1 n1) (.slice (some ⟨gr, 0, none⟩) n2 n2))) wr.heap.size gj gr js rs :=
  ⟨by rw [l1, l2]; exact heap_new _ _, heap_old (heap_below hJ hbr (heap_lt hJ)) _, heap_old hR _⟩
 have hB4 : Below w2.heap.size w2 (wr.alloc (boxB (.slice (some ⟨gj, 0, none⟩) n1 n1) (.slice (some ⟨gr, 0, none⟩) n2 n2))) := hHeld.1
 have s1 : w2.heap.size ≤ wj.heap.size := hbj.size
 have ha : w2.heap.size ≤ wr.heap.size := Nat.le_trans s1 hbr.size
 have hj : w2.heap.size ≤ gj := hgj
 have hr : w2.heap.size ≤ gr := Nat.le_trans s1 hgr
 clear hHeld hJ hR hbj hbr hgj hgr s1 cJ cR cJ8 cR8 hS0 hbd
 generalize wr.alloc (boxB (.slice (some ⟨gj, 0, none⟩) n1 n1) (.slice (some ⟨gr, 0, none⟩) n2 n2)) = W4 at *
 generalize wr.heap.size = ab at *
 clear wr wj
 rotate_left
 rename_i hHeld
 have hJ' := heap_below (heap_old hJ (boxB nil0 nil0)) hbr (by rw [World.size_alloc]; have := heap_lt hJ; omega)
 have hO : Own ((wr.setCell ⟨wj.heap.size, 0, none⟩ (.slice (some ⟨gj, 0, none⟩) n1 n1)).setCell ⟨wj.heap.size, 1, none⟩ (.slice (some ⟨gr, 0, none⟩) n2 n2)) wj.heap.size gj gr js rs :=
  ⟨by rw [l1, l2]; exact head_set h9, heap_set2 hJ' (ne_of_type h9 hJ' (by decide)), heap_set2 hR (ne_of_type h9 hR (by decide))⟩
 have hB4 : Below w2.heap.size w2 ((wr.setCell ⟨wj.heap.size, 0, none⟩ (.slice (some ⟨gj, 0, none⟩) n1 n1)).setCell ⟨wj.heap.size, 1, none⟩ (.slice (some ⟨gr, 0, none⟩) n2 n2)) := hHeld.1
 have ha : w2.heap.size ≤ wj.heap.size := hbj.size
 have hj : w2.heap.size ≤ gj := hgj
 have hr : w2.heap.size ≤ gr := by rw [World.size_alloc] at hgr; omega
 clear hHeld hJ hR hbj hbr hgj hgr hJ' h9 z9 f9 cJ cR cJ8 cR8 hS0 hbd
 generalize (wr.setCell ⟨wj.heap.size, 0, none⟩ (.slice (some ⟨gj, 0, none⟩) n1 n1)).setCell ⟨wj.heap.size, 1, none⟩ (.slice (some ⟨gr, 0, none⟩) n2 n2) = W4 at *
 generalize wj.heap.size = ab at *
 clear wr wj
 rotate_left
 rename_i hHeld
 have hJ' := heap_below hJ hbr (heap_lt hJ)
 have hO : Own ((wr.setCell ⟨w2.heap.size, 0, none⟩ (.slice (some ⟨gj, 0, none⟩) n1 n1)).setCell ⟨w2.heap.size, 1, none⟩ (.slice (some ⟨gr, 0, none⟩) n2 n2)) w2.heap.size gj gr js rs :=
  ⟨by rw [l1, l2]; exact head_set h9, heap_set2 hJ' (ne_of_type h9 hJ' (by decide)), heap_set2 hR (ne_of_type h9 hR (by decide))⟩
 have hB4 : Below w2.heap.size w2 ((wr.setCell ⟨w2.heap.size, 0, none⟩ (.slice (some ⟨gj, 0, none⟩) n1 n1)).setCell ⟨w2.heap.size, 1, none⟩ (.slice (some ⟨gr, 0, none⟩) n2 n2)) := hHeld.1
 have s1 : w2.heap.size ≤ (w2.alloc (boxB nil0 nil0)).drew.heap.size := by show w2.heap.size ≤ (w2.alloc (boxB nil0 nil0)).heap.size; rw [World.size_alloc]; omega
 have hj : w2.heap.size ≤ gj := Nat.le_trans s1 hgj
 have hr : w2.heap.size ≤ gr := Nat.le_trans (Nat.le_trans s1 hbj.size) hgr
 have ha : w2.heap.size ≤ w2.heap.size := Nat.le_refl _
 clear hHeld hJ hR hbj hbr hgj hgr hJ' h8 z8 f8 h9 z9 f9 s1 cJ cR cJ8 cR8 hS0 hbd
 generalize (wr.setCell ⟨w2.heap.size, 0, none⟩ (.slice (some ⟨gj, 0, none⟩) n1 n1)).setCell ⟨w2.heap.size, 1, none⟩ (.slice (some ⟨gr, 0, none⟩) n2 n2) = W4 at *
 obtain ⟨ab, hab⟩ : ∃ ab, ab = w2.heap.size := ⟨_, rfl⟩
 rw [← hab] at hO ⊢
 rw [show w2.heap.size ≤ w2.heap.size ↔ w2.heap.size ≤ ab by rw [hab]] at ha
 clear wr wj hab
 rotate_left
 all_goals
  have heb : W4.heap[w.heap.size + 1]? = some (boxE x.k x.j x.v x.t x.c) := heap_below HW.out.2.1 hB4 (heap_lt HW.out.2.1)
  have hrb : W4.heap[w.heap.size + 2]? = some (boxB nil0 nil0) := heap_below HW.out.1 hB4 (heap_lt HW.out.1)
  have hws2 : w.heap.size + 2 < w2.heap.size := heap_lt HW.out.1
  have hBw : Below w.heap.size w W4 := HW.out.2.2.trans (hB4.mono HW.out.2.2.size)
  have yb := fun i => Joins.cell_of_block heb i
  have AA : Aside (Own W4 ab gj gr js rs ∧ Below w.heap.size w W4 ∧ W4.heap[w.heap.size + 2]? = some (boxB nil0 nil0) ∧ (∀ k, k ∈ [ab, gj, gr] → w.heap.size + 2 < k)) := ⟨hO, hBw, hrb, fun k hk => by simp at hk; omega⟩
  have hkk := (En.right HJ.out.2.2.2).1
  clear hO hB4 ha hj hr heb hrb hBw HW
  obtain hk | hk | hk | hk : x.k = 0 ∨ x.k = 1 ∨ x.k = 2 ∨ x.k = 3 := by omega
  · have HF : Hid (step js rs x = (js, rs)) := by
    rw [Hid, step, if_neg (by omega), if_neg (by omega), if_neg (by omega)]
   have k1 : (x.k == 1) = false := by rw [hk]; rfl
   have k2 : (x.k == 2) = false := by rw [hk]; rfl
   have k3 : (x.k == 3) = false := by rw [hk]; rfl
   have hL : Left W4 W4 ab [ab, gj, gr] js rs (.slice (some ⟨gj, 0, none⟩) n1 n1) (.slice (some ⟨gr, 0, none⟩) n2 n2) := by
    have h0 := AA.out.1
    have e1 := h0.head
    have e2 := h0.sj
    have e3 := h0.sr
    rw [l1] at e1 e2
    rw [l2] at e1 e3
    exact ⟨e1, e2, e3, ⟨_, _, _, rfl, Nat.le_refl _⟩, Kept.refl _ _, h0.tj _ _, h0.tr _ _⟩
   have z5 := fun i => Joins.cell_of_block hL.head i
   have r5 := fun i => Joins.cell_of_block AA.out.2.2.1 i
   have f5 := fun i => Joins.unfrozen_of_block AA.out.2.2.1 i
   obtain ⟨q1, q2, q3, q4, q5⟩ := app_end hL AA.out.2.1 AA.out.2.2.1 AA.out.2.2.2 (by omega)
   have QQ : Aside (_ ∧ _ ∧ _ ∧ _ ∧ _) := ⟨q1, q2, q3, q4, q5⟩
   clear hL q1 q2 q3 q4 q5 hD hk hkk
   go_wp2
   rw [HF.out]
   exact ret_book Tryz.results205 rfl rfl rfl QQ.out.1 ⟨_, _, rfl, QQ.out.2.1, QQ.out.2.2.1, QQ.out.2.2.2.1, QQ.out.2.2.2.2⟩
  · have hL0 := hD.put hk W4 ab gj gr AA.out.1
   have k1 : (x.k == 1) = true := by rw [hk]; rfl
   clear hD hk hkk
   go_wp2_with fail
   refine hL0.mono ?_
   rintro e w5 ⟨rfl, u1, u2, hL⟩
   have z5 := fun i => Joins.cell_of_block hL.head i
   have h5 : w5.heap[w.heap.size + 2]? = some (boxB nil0 nil0) := hL.kept.old AA.out.2.2.1 (fun e => by have := AA.out.2.2.2 _ e; omega)
   have r5 := fun i => Joins.cell_of_block h5 i
   have f5 := fun i => Joins.unfrozen_of_block h5 i
   have QQ : Aside _ := app_end hL AA.out.2.1 AA.out.2.2.1 AA.out.2.2.2 (by omega)
   obtain ⟨b1, d1, b2, d2, rfl, rfl⟩ := bk_slices hL.jobs hL.rungs
   clear hL hL0 h5 yb
   generalize (step js rs x).1.length = m1 at *
   generalize (step js rs x).2.length = m2 at *
   go_wp2
   exact ret_book Tryz.results205 rfl rfl rfl QQ.out.1 ⟨_, _, rfl, QQ.out.2.1, QQ.out.2.2.1, QQ.out.2.2.2.1, QQ.out.2.2.2.2⟩
  · have hL0 := hD.drop hk W4 ab gj gr AA.out.1
   have k1 : (x.k == 1) = false := by rw [hk]; rfl
   have k2 : (x.k == 2) = true := by rw [hk]; rfl
   clear hD hk hkk
   go_wp2_with fail
   refine hL0.mono ?_
   rintro e w5 ⟨rfl, u1, u2, hL⟩
   have z5 := fun i => Joins.cell_of_block hL.head i
   have h5 : w5.heap[w.heap.size + 2]? = some (boxB nil0 nil0) := hL.kept.old AA.out.2.2.1 (fun e => by have := AA.out.2.2.2 _ e; omega)
   have r5 := fun i => Joins.cell_of_block h5 i
   have f5 := fun i => Joins.unfrozen_of_block h5 i
   have QQ : Aside _ := app_end hL AA.out.2.1 AA.out.2.2.1 AA.out.2.2.2 (by omega)
   obtain ⟨b1, d1, b2, d2, rfl, rfl⟩ := bk_slices hL.jobs hL.rungs
   clear hL hL0 h5 yb
   generalize (step js rs x).1.length = m1 at *
   generalize (step js rs x).2.length = m2 at *
   go_wp2
   exact ret_book Tryz.results205 rfl rfl rfl QQ.out.1 ⟨_, _, rfl, QQ.out.2.1, QQ.out.2.2.1, QQ.out.2.2.2.1, QQ.out.2.2.2.2⟩
  · have hL0 := hD.ring hk W4 ab gj gr AA.out.1
   have k1 : (x.k == 1) = false := by rw [hk]; rfl
   have k2 : (x.k == 2) = false := by rw [hk]; rfl
   have k3 : (x.k == 3) = true := by rw [hk]; rfl
   clear hD hk hkk
   go_wp2_with fail
   refine hL0.mono ?_
   rintro e w5 ⟨rfl, u1, u2, hL⟩
   have z5 := fun i => Joins.cell_of_block hL.head i
   have h5 : w5.heap[w.heap.size + 2]? = some (boxB nil0 nil0) := hL.kept.old AA.out.2.2.1 (fun e => by have := AA.out.2.2.2 _ e; omega)
   have r5 := fun i => Joins.cell_of_block h5 i
   have f5 := fun i => Joins.unfrozen_of_block h5 i
   have QQ : Aside _ := app_end hL AA.out.2.1 AA.out.2.2.1 AA.out.2.2.2 (by omega)
   obtain ⟨b1, d1, b2, d2, rfl, rfl⟩ := bk_slices hL.jobs hL.rungs
   clear hL hL0 h5 yb
   generalize (step js rs x).1.length = m1 at *
   generalize (step js rs x).2.length = m2 at *
   go_wp2
   exact ret_book Tryz.results205 rfl rfl rfl QQ.out.1 ⟨_, _, rfl, QQ.out.2.1, QQ.out.2.2.1, QQ.out.2.2.2.1, QQ.out.2.2.2.2⟩
end
section
open Go.Shelf
theorem put_mid (x : En) (ab gj gr : Nat) (js : List Jb) (rs : List Rg) (w : World) (h : Own w ab gj gr js rs) (hn : js.length ≤ 6) (hj : jobAt js x.j = -1) (hr : 0 ≤ idx (fun y => decide (x.j < y.i)) js) :
  Calls Tryz.prog 230 #[.pointer (some ⟨ab, 0, none⟩), x.val] w fun e w' => e = .returned (.tuple #[]) ∧ ∃ u1 u2, Left w w' ab [ab, gj] (js.take (place js x.j) ++ ⟨x.j, x.v, x.t⟩ :: js.drop (place js x.j)) rs u1 u2 := by
 have hB := grew (Below.refl w.heap.size w) (boxE x.k x.j x.v x.t x.c)
 have h' := h.later hB
 have hpl := place_le js x.j
 have hpd : Hid (place js x.j = if idx (fun y => decide (x.j < y.i)) js < 0 then js.length else (idx (fun y => decide (x.j < y.i)) js).toNat) := rfl
 obtain ⟨n, hnn⟩ : ∃ n, Hid (js.length = n) := ⟨_, rfl⟩
 obtain ⟨m, hmm⟩ : ∃ m, Hid (rs.length = m) := ⟨_, rfl⟩
 have hS0 : Reads (w.alloc (boxE x.k x.j x.v x.t x.c)) (w.alloc (boxE x.k x.j x.v x.t x.c)) ab gj gr w.heap.size n m x := by
  refine ⟨Below.refl _ _, ?_, ?_, ?_⟩
  · rw [Joins.cell_of_block h'.head, ← hnn.out]; rfl
  · rw [Joins.cell_of_block h'.head, ← hmm.out]; rfl
  · rw [Joins.cell_of_block (heap_new _ _)]; rfl
 have hfind := fun (W : World) (hb : Below (w.alloc (boxE x.k x.j x.v x.t x.c)).heap.size (w.alloc (boxE x.k x.j x.v x.t x.c)) W) => find_any (.slice (some ⟨gj, 0, none⟩) js.length js.length) (.slice (some ⟨gr, 0, none⟩) rs.length rs.length) js x.j W (h'.sj.later hb) (by unfold most; omega)
 rw [hnn.out, hmm.out, hj] at hfind
 have eg : ∀ args w, (callFunc 264 args).run Tryz.prog w = .ok (.enter 264 args) w := enters_of Tryz.func264 (by kernel_rfl) rfl
 have hix : ∀ (W : World), Own W ab gj gr js rs → W.heap[w.heap.size]? = some (boxE x.k x.j x.v x.t x.c) → _ := fun W hO hE => idxFJ (fun y => decide (x.j < y.i)) 264 #[.pointer (some ⟨w.heap.size, 0, none⟩)] eg _ js W hO.sj (by unfold most; omega) (fun W' y hb => (put_pred x w.heap.size W' y (heap_below hE hb (heap_lt hE))).mono fun e w' ⟨h1, h2⟩ => ⟨h1, hb.trans (h2.mono hb.size)⟩)
 rw [hnn.out] at hix
 rw [hnn.out] at hpl hpd
 obtain ⟨p, hpp⟩ : ∃ p, Hid (place js x.j = p) := ⟨_, rfl⟩
 rw [hpp.out] at hpl hpd ⊢
 obtain ⟨J', hJ'⟩ : ∃ J', Hid (js.take p ++ ⟨x.j, x.v, x.t⟩ :: js.drop p = J') := ⟨_, rfl⟩
 rw [hJ'.out]
 have hins := fun (W : World) (vb : Nat) (hO : Own W ab gj gr js rs) (hb : Below w.heap.size w W) (hE : W.heap[w.heap.size]? = some (boxE x.k x.j x.v x.t x.c)) hv => ins_left ⟨x.j, x.v, x.t⟩ x w.heap.size ab gj gr vb p n m js J' rs w W hnn.out hmm.out hpl (by rw [← hnn.out]; exact hn) hJ'.out hO hb hE (by have := heap_lt h.jobs; omega) hv
 have HO : Aside (Own (w.alloc (boxE x.k x.j x.v x.t x.c)) ab gj gr js rs ∧ Below w.heap.size w (w.alloc (boxE x.k x.j x.v x.t x.c)) ∧ (w.alloc (boxE x.k x.j x.v x.t x.c)).heap[w.heap.size]? = some (boxE x.k x.j x.v x.t x.c)) := ⟨h', hB, heap_new _ _⟩
 have hab := heap_lt h.head
 have ne1 := h.ne1
 have ne3 := h.ne3
 have ne2 := h.ne2
 have hgj := heap_lt h.jobs
 have HI : Aside _ := hix
 have HN : Aside _ := hins
 clear h h' hB hj hix hins
 go_enter Tryz.func230, Tryz.ntmps230
 go_wp2_with fail
 generalize w.alloc (boxE x.k x.j x.v x.t x.c) = W0 at *
 have hbd : Below W0.heap.size W0 W0.drew := (Below.refl _ _).drew
 go_region_held3 (fun w' => Reads W0 w' ab gj gr w.heap.size n m x) (exact reads_step (by assumption) (by assumption)) (first | (go_at_call 263; refine (hfind _ (reads_below (by assumption))).mono ?_; rintro e w1 ⟨rfl, hb'⟩))
 all_goals
  rename_i hS
  clear hb'
  obtain ⟨hB1, y0, y1, y2⟩ := hS
  have hw1 : w.heap.size < w1.heap.size := by have := heap_lt HO.out.2.2; have := hB1.size; omega
  have O1 : Own w1 ab gj gr js rs := HO.out.1.later hB1
  have E1 : w1.heap[w.heap.size]? = some (boxE x.k x.j x.v x.t x.c) := heap_below HO.out.2.2 hB1 (heap_lt HO.out.2.2)
  have B1 : Aside (Below w.heap.size w w1) := HO.out.2.1.trans (hB1.mono HO.out.2.1.size)
  have hix := HI.out w1 O1 E1
  have A1 : Aside (Own w1 ab gj gr js rs ∧ w1.heap[w.heap.size]? = some (boxE x.k x.j x.v x.t x.c)) := ⟨O1, E1⟩
  clear hS0 hfind hbd hB1 O1 E1 HI HO y2
  generalize idx (fun y => decide (x.j < y.i)) js = r at *
  have HR0 : Hid (r = (p : Nat)) := by
   have h0 := hpd.out
   rw [if_neg (by omega)] at h0
   rw [Hid]; omega
  clear hpd
  go_wp2_with fail
  refine hix.mono ?_
  rintro e w2 ⟨rfl, hb2⟩
  have O2 : Own w2 ab gj gr js rs := A1.out.1.later hb2
  have E2 : w2.heap[w.heap.size]? = some (boxE x.k x.j x.v x.t x.c) := heap_below A1.out.2 hb2 (heap_lt A1.out.2)
  have B2 : Aside (Below w.heap.size w w2) := B1.out.trans (hb2.mono B1.out.size)
  have A2 : Aside (Own w2 ab gj gr js rs ∧ w2.heap[w.heap.size]? = some (boxE x.k x.j x.v x.t x.c)) := ⟨O2, E2⟩
  have hw2 : w.heap.size < w2.heap.size := by have := hb2.size; omega
  have z0 : w2.cell? ⟨ab, 0, none⟩ = some (.slice (some ⟨gj, 0, none⟩) n n) := by rw [Joins.cell_of_block O2.head, ← hnn.out]; rfl
  have e0 := fun i => Joins.cell_of_block E2 i
  clear hix hb2 O2 E2 A1 B1 y0 y1
  have hOa : Aside (∀ o, Own (w2.alloc o).drew ab gj gr js rs) := fun o => A2.out.1.later (grew (Below.refl _ _) _).drew
  have hBa : Aside (∀ o, Below w.heap.size w (w2.alloc o).drew) := fun o => (grew B2.out _).drew
  have hEa : Aside (∀ o, (w2.alloc o).drew.heap[w.heap.size]? = some (boxE x.k x.j x.v x.t x.c)) := fun o => heap_old A2.out.2 _
  have hS0 : PutS w2 w.heap.size x := putS_of A2.out.2
  have hbd : Below w2.heap.size w2 w2.drew := (Below.refl _ _).drew
  have q0 : ab < w2.heap.size := by omega
  have q1 : ab ≠ w2.heap.size := by omega
  have q2 : ab ≠ w.heap.size := by omega
  obtain rfl := HR0.out
  go_wp2_with fail
  refine wp_region_noPanic ?_
  refine region_L (fun w' => w'.cell? ⟨ab, 0, none⟩ = some (.slice (some ⟨gj, 0, none⟩) n n) ∧ PutS w' w.heap.size x) 17 (by kernel_rfl) (⟨z0, hS0⟩) (fun hHeld => ?_)
  refine tl 0 (v := ?_) rfl (by kernel_rfl) (by rfl) (by assumption) (fun _ _ _ h => h) ?_ ?_
  rotate_left
  · (intro w0 hSw; (try dsimp only at hSw); go_simp; first | done | with_reducible rfl)
  try simp only [Act.put, qa, qb, qc]
  refine tl 1 (v := ?_) rfl (by kernel_rfl) (by rfl) (by assumption) (fun _ _ _ h => h) ?_ ?_
  rotate_left
  · (intro w0 hSw; (try dsimp only at hSw); go_simp; first | done | with_reducible rfl)
  try simp only [Act.put, qa, qb, qc]
  refine tl 2 (v := ?_) rfl (by kernel_rfl) (by rfl) (by assumption) (fun _ _ _ h => h) ?_ ?_
  rotate_left
  · (intro w0 hSw; (try dsimp only at hSw); go_simp; first | done | with_reducible rfl)
  try simp only [Act.put, qa, qb, qc]
  refine tl 3 (v := ?_) rfl (by kernel_rfl) (by rfl) (by assumption) (fun _ _ _ h => h) ?_ ?_
  rotate_left
  · (intro w0 hSw; (try dsimp only at hSw); go_simp; first | done | with_reducible rfl)
  try simp only [Act.put, qa, qb, qc]
  refine tl 4 (v := ?_) rfl (by kernel_rfl) (by rfl) (by assumption) (fun _ _ _ h => h) ?_ ?_
  rotate_left
  · (intro w0 hSw; (try dsimp only at hSw); go_simp; first | done | with_reducible rfl)
  try simp only [Act.put, qa, qb, qc]
  refine tl 5 (v := ?_) rfl (by kernel_rfl) (by rfl) (by assumption) (fun _ _ _ h => h) ?_ ?_
  rotate_left
  · (intro w0 hSw; (try dsimp only at hSw); go_simp; first | done | with_reducible rfl)
  try simp only [Act.put, qa, qb, qc]
  refine tl 6 (v := ?_) rfl (by kernel_rfl) (by rfl) (by assumption) (fun _ _ _ h => h) ?_ ?_
  rotate_left
  · (intro w0 hSw; (try dsimp only at hSw); go_simp; first | done | with_reducible rfl)
  try simp only [Act.put, qa, qb, qc]
  refine tl 7 (v := ?_) rfl (by kernel_rfl) (by rfl) (by assumption) (fun _ _ _ h => h) ?_ ?_
  rotate_left
  · (intro w0 hSw; (try dsimp only at hSw); go_simp; first | done | with_reducible rfl)
  try simp only [Act.put, qa, qb, qc]
  refine tl 8 (v := ?_) rfl (by kernel_rfl) (by rfl) (by assumption) (fun _ _ _ h => h) ?_ ?_
  rotate_left
  · (intro w0 hSw; (try dsimp only at hSw); go_simp; first | done | with_reducible rfl)
  try simp only [Act.put, qa, qb, qc]
  refine tl 9 (v := ?_) rfl (by kernel_rfl) (by rfl) (by assumption) (fun _ _ _ h => h) ?_ ?_
  rotate_left
  · (intro w0 hSw; (try dsimp only at hSw); go_simp; first | done | with_reducible rfl)
  try simp only [Act.put, qa, qb, qc]
  refine tl 10 (v := ?_) rfl (by kernel_rfl) (by rfl) (by assumption) (fun _ _ _ h => h) ?_ ?_
  rotate_left
  · (intro w0 hSw; (try dsimp only at hSw); go_simp; first | done | with_reducible rfl)
  try simp only [Act.put, qa, qb, qc]
  refine tl 11 (v := ?_) rfl (by kernel_rfl) (by rfl) (by assumption) (fun _ _ _ h => h) ?_ ?_
  rotate_left
  · (intro w0 hSw; (try dsimp only at hSw); go_simp; first | done | with_reducible rfl)
  try simp only [Act.put, qa, qb, qc]
  refine tl 12 (v := ?_) rfl (by kernel_rfl) (by rfl) (by assumption) (fun _ _ _ h => h) ?_ ?_
  rotate_left
  · (intro w0 hSw; (try dsimp only at hSw); go_simp; first | done | with_reducible rfl)
  try simp only [Act.put, qa, qb, qc]
  refine anyL_one (i := 13) (by kernel_rfl) rfl (fun K hK => ?_)
  go_simp
  refine hK.out _ _ (fun _ => ⟨cell_later (grew (Below.refl _ _) _) hHeld.1, putS_new hHeld.2⟩) (fun hNext => ?_)
  replace hNext := hNext (by kernel_rfl)
  clear hK K hHeld
  try simp only [Act.put, qa, qb, qc]
  refine anyL_one (i := 14) (by kernel_rfl) rfl (fun K hK => ?_)
  go_simp
  refine (HN.out _ _ (hOa.out _) (hBa.out _) (hEa.out _) (heap_new w2 _)).mono ?_
  rintro e w3 ⟨a3, c3, rfl, z3, f3, p3, AA⟩
  refine hK.out _ _ (fun _ => ⟨by rw [z3]; rfl, p3⟩) (fun hNext => ?_)
  replace hNext := hNext (by kernel_rfl)
  clear hK K
  try simp only [Act.put, qa, qb, qc]
  refine anyL_one (i := 15) (by kernel_rfl) rfl (fun K hK => ?_)
  go_simp
  refine hK.out _ _ (fun _ => hNext) (fun _ => ?_)
  clear hK K
  try simp only [Act.put, qa, qb, qc]
  refine anyL_one (i := 16) (by kernel_rfl) rfl (fun K hK => ?_)
  go_simp
  refine hK.out _ _ (fun _ => hNext) (fun _ => ?_)
  clear hK K
  try simp only [Act.put, qa, qb, qc]
  refine anyL_one (i := 17) (by kernel_rfl) rfl (fun K hK => ?_)
  go_simp
  refine hK.out _ _ (fun h => absurd h (by decide +kernel)) (fun _ => ?_)
  clear hK K
  refine anyL_done (by kernel_rfl) ?_ _
  refine NoPanic.normal ?_
  try simp only [Act.put, qa, qb, qc]
  go_wp2
  exact bodyPost_end (v := .tuple #[]) (by simp [results, go_sem]) rfl ⟨rfl, _, _, put_left ne2 AA.out⟩
end
section
open Go.Shelf
theorem put_end (x : En) (ab gj gr : Nat) (js : List Jb) (rs : List Rg) (w : World) (h : Own w ab gj gr js rs) (hn : js.length ≤ 6) (hj : jobAt js x.j = -1) (hr : idx (fun y => decide (x.j < y.i)) js < 0) :
  Calls Tryz.prog 230 #[.pointer (some ⟨ab, 0, none⟩), x.val] w fun e w' => e = .returned (.tuple #[]) ∧ ∃ u1 u2, Left w w' ab [ab, gj] (js.take (place js x.j) ++ ⟨x.j, x.v, x.t⟩ :: js.drop (place js x.j)) rs u1 u2 := by
 have hB := grew (Below.refl w.heap.size w) (boxE x.k x.j x.v x.t x.c)
 have h' := h.later hB
 have hpl := place_le js x.j
 have hpd : Hid (place js x.j = if idx (fun y => decide (x.j < y.i)) js < 0 then js.length else (idx (fun y => decide (x.j < y.i)) js).toNat) := rfl
 obtain ⟨n, hnn⟩ : ∃ n, Hid (js.length = n) := ⟨_, rfl⟩
 obtain ⟨m, hmm⟩ : ∃ m, Hid (rs.length = m) := ⟨_, rfl⟩
 have hS0 : Reads (w.alloc (boxE x.k x.j x.v x.t x.c)) (w.alloc (boxE x.k x.j x.v x.t x.c)) ab gj gr w.heap.size n m x := by
  refine ⟨Below.refl _ _, ?_, ?_, ?_⟩
  · rw [Joins.cell_of_block h'.head, ← hnn.out]; rfl
  · rw [Joins.cell_of_block h'.head, ← hmm.out]; rfl
  · rw [Joins.cell_of_block (heap_new _ _)]; rfl
 have hfind := fun (W : World) (hb : Below (w.alloc (boxE x.k x.j x.v x.t x.c)).heap.size (w.alloc (boxE x.k x.j x.v x.t x.c)) W) => find_any (.slice (some ⟨gj, 0, none⟩) js.length js.length) (.slice (some ⟨gr, 0, none⟩) rs.length rs.length) js x.j W (h'.sj.later hb) (by unfold most; omega)
 rw [hnn.out, hmm.out, hj] at hfind
 have eg : ∀ args w, (callFunc 264 args).run Tryz.prog w = .ok (.enter 264 args) w := enters_of Tryz.func264 (by kernel_rfl) rfl
 have hix : ∀ (W : World), Own W ab gj gr js rs → W.heap[w.heap.size]? = some (boxE x.k x.j x.v x.t x.c) → _ := fun W hO hE => idxFJ (fun y => decide (x.j < y.i)) 264 #[.pointer (some ⟨w.heap.size, 0, none⟩)] eg _ js W hO.sj (by unfold most; omega) (fun W' y hb => (put_pred x w.heap.size W' y (heap_below hE hb (heap_lt hE))).mono fun e w' ⟨h1, h2⟩ => ⟨h1, hb.trans (h2.mono hb.size)⟩)
 rw [hnn.out] at hix
 rw [hnn.out] at hpl hpd
 obtain ⟨p, hpp⟩ : ∃ p, Hid (place js x.j = p) := ⟨_, rfl⟩
 rw [hpp.out] at hpl hpd ⊢
 obtain ⟨J', hJ'⟩ : ∃ J', Hid (js.take p ++ ⟨x.j, x.v, x.t⟩ :: js.drop p = J') := ⟨_, rfl⟩
 rw [hJ'.out]
 have hins := fun (W : World) (vb : Nat) (hO : Own W ab gj gr js rs) (hb : Below w.heap.size w W) (hE : W.heap[w.heap.size]? = some (boxE x.k x.j x.v x.t x.c)) hv => ins_left ⟨x.j, x.v, x.t⟩ x w.heap.size ab gj gr vb p n m js J' rs w W hnn.out hmm.out hpl (by rw [← hnn.out]; exact hn) hJ'.out hO hb hE (by have := heap_lt h.jobs; omega) hv
 have HO : Aside (Own (w.alloc (boxE x.k x.j x.v x.t x.c)) ab gj gr js rs ∧ Below w.heap.size w (w.alloc (boxE x.k x.j x.v x.t x.c)) ∧ (w.alloc (boxE x.k x.j x.v x.t x.c)).heap[w.heap.size]? = some (boxE x.k x.j x.v x.t x.c)) := ⟨h', hB, heap_new _ _⟩
 have hab := heap_lt h.head
 have ne1 := h.ne1
 have ne3 := h.ne3
 have ne2 := h.ne2
 have hgj := heap_lt h.jobs
 have HI : Aside _ := hix
 have HN : Aside _ := hins
 clear h h' hB hj hix hins
 go_enter Tryz.func230, Tryz.ntmps230
 go_wp2_with fail
 generalize w.alloc (boxE x.k x.j x.v x.t x.c) = W0 at *
 have hbd : Below W0.heap.size W0 W0.drew := (Below.refl _ _).drew
 go_region_held3 (fun w' => Reads W0 w' ab gj gr w.heap.size n m x) (exact reads_step (by assumption) (by assumption)) (first | (go_at_call 263; refine (hfind _ (reads_below (by assumption))).mono ?_; rintro e w1 ⟨rfl, hb'⟩))
 all_goals
  rename_i hS
  clear hb'
  obtain ⟨hB1, y0, y1, y2⟩ := hS
  have hw1 : w.heap.size < w1.heap.size := by have := heap_lt HO.out.2.2; have := hB1.size; omega
  have O1 : Own w1 ab gj gr js rs := HO.out.1.later hB1
  have E1 : w1.heap[w.heap.size]? = some (boxE x.k x.j x.v x.t x.c) := heap_below HO.out.2.2 hB1 (heap_lt HO.out.2.2)
  have B1 : Aside (Below w.heap.size w w1) := HO.out.2.1.trans (hB1.mono HO.out.2.1.size)
  have hix := HI.out w1 O1 E1
  have A1 : Aside (Own w1 ab gj gr js rs ∧ w1.heap[w.heap.size]? = some (boxE x.k x.j x.v x.t x.c)) := ⟨O1, E1⟩
  clear hS0 hfind hbd hB1 O1 E1 HI HO y2
  generalize idx (fun y => decide (x.j < y.i)) js = r at *
  have HR0 : Hid (p = n) := by
   have h0 := hpd.out
   rw [if_pos hr] at h0
   exact h0
  clear hpd
  go_wp2_with fail
  refine hix.mono ?_
  rintro e w2 ⟨rfl, hb2⟩
  have O2 : Own w2 ab gj gr js rs := A1.out.1.later hb2
  have E2 : w2.heap[w.heap.size]? = some (boxE x.k x.j x.v x.t x.c) := heap_below A1.out.2 hb2 (heap_lt A1.out.2)
  have B2 : Aside (Below w.heap.size w w2) := B1.out.trans (hb2.mono B1.out.size)
  have A2 : Aside (Own w2 ab gj gr js rs ∧ w2.heap[w.heap.size]? = some (boxE x.k x.j x.v x.t x.c)) := ⟨O2, E2⟩
  have hw2 : w.heap.size < w2.heap.size := by have := hb2.size; omega
  have z0 : w2.cell? ⟨ab, 0, none⟩ = some (.slice (some ⟨gj, 0, none⟩) n n) := by rw [Joins.cell_of_block O2.head, ← hnn.out]; rfl
  have e0 := fun i => Joins.cell_of_block E2 i
  clear hix hb2 O2 E2 A1 B1 y0 y1
  have hOa : Aside (∀ o, Own (w2.alloc o).drew ab gj gr js rs) := fun o => A2.out.1.later (grew (Below.refl _ _) _).drew
  have hBa : Aside (∀ o, Below w.heap.size w (w2.alloc o).drew) := fun o => (grew B2.out _).drew
  have hEa : Aside (∀ o, (w2.alloc o).drew.heap[w.heap.size]? = some (boxE x.k x.j x.v x.t x.c)) := fun o => heap_old A2.out.2 _
  have hS0 : PutS w2 w.heap.size x := putS_of A2.out.2
  have hbd : Below w2.heap.size w2 w2.drew := (Below.refl _ _).drew
  have q0 : ab < w2.heap.size := by omega
  have q1 : ab ≠ w2.heap.size := by omega
  have q2 : ab ≠ w.heap.size := by omega
  obtain rfl := HR0.out
  go_wp2_with fail
  refine wp_region_noPanic ?_
  refine region_L (fun w' => w'.cell? ⟨ab, 0, none⟩ = some (.slice (some ⟨gj, 0, none⟩) p p) ∧ PutS w' w.heap.size x) 17 (by kernel_rfl) (⟨z0, hS0⟩) (fun hHeld => ?_)
  refine tl 0 (v := ?_) rfl (by kernel_rfl) (by rfl) (by assumption) (fun _ _ _ h => h) ?_ ?_
  rotate_left
  · (intro w0 hSw; (try dsimp only at hSw); go_simp; first | done | with_reducible rfl)
  try simp only [Act.put, qa, qb, qc]
  refine tl 1 (v := ?_) rfl (by kernel_rfl) (by rfl) (by assumption) (fun _ _ _ h => h) ?_ ?_
  rotate_left
  · (intro w0 hSw; (try dsimp only at hSw); go_simp; first | done | with_reducible rfl)
  try simp only [Act.put, qa, qb, qc]
  refine tl 2 (v := ?_) rfl (by kernel_rfl) (by rfl) (by assumption) (fun _ _ _ h => h) ?_ ?_
  rotate_left
  · (intro w0 hSw; (try dsimp only at hSw); go_simp; first | done | with_reducible rfl)
  try simp only [Act.put, qa, qb, qc]
  refine tl 3 (v := ?_) rfl (by kernel_rfl) (by rfl) (by assumption) (fun _ _ _ h => h) ?_ ?_
  rotate_left
  · (intro w0 hSw; (try dsimp only at hSw); go_simp; first | done | with_reducible rfl)
  try simp only [Act.put, qa, qb, qc]
  refine tl 4 (v := ?_) rfl (by kernel_rfl) (by rfl) (by assumption) (fun _ _ _ h => h) ?_ ?_
  rotate_left
  · (intro w0 hSw; (try dsimp only at hSw); go_simp; first | done | with_reducible rfl)
  try simp only [Act.put, qa, qb, qc]
  refine tl 5 (v := ?_) rfl (by kernel_rfl) (by rfl) (by assumption) (fun _ _ _ h => h) ?_ ?_
  rotate_left
  · (intro w0 hSw; (try dsimp only at hSw); go_simp; first | done | with_reducible rfl)
  try simp only [Act.put, qa, qb, qc]
  refine tl 6 (v := ?_) rfl (by kernel_rfl) (by rfl) (by assumption) (fun _ _ _ h => h) ?_ ?_
  rotate_left
  · (intro w0 hSw; (try dsimp only at hSw); go_simp; first | done | with_reducible rfl)
  try simp only [Act.put, qa, qb, qc]
  refine tl 7 (v := ?_) rfl (by kernel_rfl) (by rfl) (by assumption) (fun _ _ _ h => h) ?_ ?_
  rotate_left
  · (intro w0 hSw; (try dsimp only at hSw); go_simp; first | done | with_reducible rfl)
  try simp only [Act.put, qa, qb, qc]
  refine tl 8 (v := ?_) rfl (by kernel_rfl) (by rfl) (by assumption) (fun _ _ _ h => h) ?_ ?_
  rotate_left
  · (intro w0 hSw; (try dsimp only at hSw); go_simp; first | done | with_reducible rfl)
  try simp only [Act.put, qa, qb, qc]
  refine tl 9 (v := ?_) rfl (by kernel_rfl) (by rfl) (by assumption) (fun _ _ _ h => h) ?_ ?_
  rotate_left
  · (intro w0 hSw; (try dsimp only at hSw); go_simp; first | done | with_reducible rfl)
  try simp only [Act.put, qa, qb, qc]
  refine tl 10 (v := ?_) rfl (by kernel_rfl) (by rfl) (by assumption) (fun _ _ _ h => h) ?_ ?_
  rotate_left
  · (intro w0 hSw; (try dsimp only at hSw); go_simp; first | done | with_reducible rfl)
  try simp only [Act.put, qa, qb, qc]
  refine tl 11 (v := ?_) rfl (by kernel_rfl) (by rfl) (by assumption) (fun _ _ _ h => h) ?_ ?_
  rotate_left
  · (intro w0 hSw; (try dsimp only at hSw); go_simp; first | done | with_reducible rfl)
  try simp only [Act.put, qa, qb, qc]
  refine tl 12 (v := ?_) rfl (by kernel_rfl) (by rfl) (by assumption) (fun _ _ _ h => h) ?_ ?_
  rotate_left
  · (intro w0 hSw; (try dsimp only at hSw); go_simp; first | done | with_reducible rfl)
  try simp only [Act.put, qa, qb, qc]
  refine anyL_one (i := 13) (by kernel_rfl) rfl (fun K hK => ?_)
  go_simp
  refine hK.out _ _ (fun _ => ⟨cell_later (grew (Below.refl _ _) _) hHeld.1, putS_new hHeld.2⟩) (fun hNext => ?_)
  replace hNext := hNext (by kernel_rfl)
  clear hK K hHeld
  try simp only [Act.put, qa, qb, qc]
  refine anyL_one (i := 14) (by kernel_rfl) rfl (fun K hK => ?_)
  go_simp
  refine (HN.out _ _ (hOa.out _) (hBa.out _) (hEa.out _) (heap_new w2 _)).mono ?_
  rintro e w3 ⟨a3, c3, rfl, z3, f3, p3, AA⟩
  refine hK.out _ _ (fun _ => ⟨by rw [z3]; rfl, p3⟩) (fun hNext => ?_)
  replace hNext := hNext (by kernel_rfl)
  clear hK K
  try simp only [Act.put, qa, qb, qc]
  refine anyL_one (i := 15) (by kernel_rfl) rfl (fun K hK => ?_)
  go_simp
  refine hK.out _ _ (fun _ => hNext) (fun _ => ?_)
  clear hK K
  try simp only [Act.put, qa, qb, qc]
  refine anyL_one (i := 16) (by kernel_rfl) rfl (fun K hK => ?_)
  go_simp
  refine hK.out _ _ (fun _ => hNext) (fun _ => ?_)
  clear hK K
  try simp only [Act.put, qa, qb, qc]
  refine anyL_one (i := 17) (by kernel_rfl) rfl (fun K hK => ?_)
  go_simp
  refine hK.out _ _ (fun h => absurd h (by decide +kernel)) (fun _ => ?_)
  clear hK K
  refine anyL_done (by kernel_rfl) ?_ _
  refine NoPanic.normal ?_
  try simp only [Act.put, qa, qb, qc]
  go_wp2
  exact bodyPost_end (v := .tuple #[]) (by simp [results, go_sem]) rfl ⟨rfl, _, _, put_left ne2 AA.out⟩
end
section
open Go.Shelf
theorem ownsR_of_block {w : World} {base gb : Nat} {rs : List Rg} (hb : base ≤ gb) (hg : w.heap[gb]? = some (.cells (rs.flatMap Rg.cells).toArray 76)) (hn : rs.length ≤ 1000000) :
  w.ownsRow base 76 3 (.slice (some ⟨gb, 0, none⟩) rs.length rs.length) rs.length (rs.flatMap Rg.cells) := by
 have hl := row_len Rg.three rs
 refine ⟨hl, .inr ⟨gb, rs.length, _, rfl, hb, hg, Nat.le_refl _, by unfold maxLen; omega, by simpa using hl, ?_⟩⟩
 exact List.take_of_length_le (by simpa using Nat.le_of_eq hl)
structure Rang (w w5 : World) (ab gj gr g cap n m : Nat) (js : List Jb) (rs : List Rg) (z : Rg) (x : En) : Prop where
 box : w5.heap[w.heap.size]? = some (boxE x.k x.j x.v x.t x.c)
 head : w5.heap[ab]? = some (boxB (.slice (some ⟨gj, 0, none⟩) n n) (.slice (some ⟨gr, 0, none⟩) m m))
 jobs : w5.heap[gj]? = some (.cells (js.flatMap Jb.cells).toArray 120)
 rungs : RungSl w5 (.slice (some ⟨g, 0, none⟩) (m + 1) cap) (rs ++ [z])
 room : m + 1 ≤ cap
 kept : Kept [ab, gj, gr] w w5
 ne1 : ab ≠ g
 ne2 : gj ≠ g
 ne3 : ab ≠ gj
 ty : Typed 76 w5 (.slice (some ⟨g, 0, none⟩) (m + 1) cap)
theorem step_ring {ops : Array Oper} {o : Oper} {a : Act} {W : World} {K : Act → World → Prop} {Q : Exit → Act → World → Prop} {E : Prop} (hgd : o.guard = none) (s t : Operand)
  (ho : o.op = .call { callee := .builtin .append, args := #[s, t], argTypes := #[37, 37] }) (w : World) (ab gj gr vb n m : Nat) (js : List Jb) (rs : List Rg) (z : Rg) (x : En)
  (hs : a.eval s = .slice (some ⟨gr, 0, none⟩) m m) (hx : a.eval t = .slice (some ⟨vb, 0, none⟩) 1 1) (hO : Own W ab gj gr js rs) (hb : Below w.heap.size w W) (hE : W.heap[w.heap.size]? = some (boxE x.k x.j x.v x.t x.c)) (hne : w.heap.size ≠ gr) (hv : W.heap[vb]? = some (.cells #[.int .i64 z.j, .int .i64 z.t, .int .i64 z.c] 76))
  (hn : js.length = n) (hm : rs.length = m) (hm60 : m ≤ 60)
  (h : ∀ g cap w5, (∀ i, w5.cell? ⟨ab, i, none⟩ = #[Value.slice (some ⟨gj, 0, none⟩) n n, .slice (some ⟨gr, 0, none⟩) m m][i]?) → (∀ i, w5.frozen? ⟨ab, i, none⟩ = false) → Aside (Rang w w5 ab gj gr g cap n m js rs z x) → K (a.put o.dst (.slice (some ⟨g, 0, none⟩) (m + 1) cap)) w5) :
  if Region.wanted o (yielded ops a.tmps) = true then Oper.wp Tryz.prog o a W K Q else E := by
 obtain ⟨i0, hi, hz0, hz1, hz2⟩ := info_parts infoR
 subst hn hm
 have hgr := heap_lt hO.rungs
 have hgj := heap_lt hO.jobs
 have hab := heap_lt hO.head
 refine step_append_lies W hgd s t 37 ho gr 76 i0 (valR 0 0 0) 3 24 Tryz.underlying37 hi hz0 hz1 hz2 rfl (by decide) (.slice (some ⟨gr, 0, none⟩) rs.length rs.length) rs.length _ hs (ownsR_of_block (Nat.le_refl _) hO.rungs (by omega)) ⟨vb, 0, none⟩ 1 1 z.cells hx rfl (fun j u hj => ?_) (fun u hu => oneR [z] u (by simpa using hu)) (by omega) (by unfold maxLen; omega) (by omega) (by omega) _ rfl ?_
 · rw [Lib.add_plain, Joins.cell_of_block hv, Nat.zero_add]
  simpa [Rg.cells] using hj
 · intro g cap w5 hown hgrow hat hlt
  have hat' : g = gr ∨ g = W.heap.size := by
   rcases hat with hat | hat
   · simp [Value.ownBlock] at hat; exact Or.inl hat.symm
   · exact Or.inr hat
  have hA5 := (hgrow.block ab hab (fun e => by simp [Value.ownBlock] at e; exact hO.ne2 e)).trans hO.head
  have hJ5 := (hgrow.block gj hgj (fun e => by simp [Value.ownBlock] at e; exact hO.ne3 e)).trans hO.jobs
  have hE5 := (hgrow.block w.heap.size (heap_lt hE) (fun e => by simp [Value.ownBlock] at e; exact hne e)).trans hE
  have hR5 : RungSl w5 (.slice (some ⟨g, 0, none⟩) (rs.length + 1) cap) (rs ++ [z]) := by
   have h0 : w5.ownsRow gr 76 3 (.slice (some ⟨g, 0, none⟩) (rs.length + 1) cap) (rs ++ [z]).length ((rs ++ [z]).flatMap Rg.cells) := by
    simpa using hown
   exact slOf_of_owns Rg.three h0
  have hroom : rs.length + 1 ≤ cap := by
   rcases hown.2 with ⟨h0, _⟩ | ⟨g', cap', cur, h0, _, _, hle, _⟩
   · cases h0
   · injection h0 with _ _ h2; omega
  have hk : Kept [ab, gj, gr] w w5 := (kept_of_below (S := [ab, gj, gr]) hb).trans (S' := [gr]) ⟨hgrow.os, hgrow.tape, hgrow.output, hgrow.size, fun k hk hS => hgrow.block k hk (fun e => by simp [Value.ownBlock] at e; exact hS (by simp [e]))⟩ (fun k hk => by simp at hk; simp [hk])
  exact h g cap w5 (fun i => Joins.cell_of_block hA5 i) (fun i => Joins.unfrozen_of_block hA5 i) ⟨hE5, hA5, hJ5, hR5, hroom, hk, by rcases hat' with rfl | rfl; exact hO.ne2; omega, by rcases hat' with rfl | rfl; exact hO.ne3; omega, hO.ne1, typed_owns hown⟩
theorem set_next {js : List Jb} {k : Nat} {y : Jb} (hx : js[k]? = some y) (v : Int) : (js.flatMap Jb.cells).set (k * 3 + 2) (.int .i64 v) = (js.set k ⟨y.i, y.e, v⟩).flatMap Jb.cells := by
 have hlt := (List.getElem?_eq_some_iff.1 hx).1
 have e : js = js.take k ++ y :: js.drop (k + 1) := by rw [← drop_at hx, List.take_append_drop]
 have hl : (js.take k).length = k := by rw [List.length_take]; omega
 have hfl : ((js.take k).flatMap Jb.cells).length = k * 3 := by rw [row_len Jb.three, hl]
 have e2 : js.set k ⟨y.i, y.e, v⟩ = js.take k ++ ⟨y.i, y.e, v⟩ :: js.drop (k + 1) := List.set_eq_take_append_cons_drop.trans (by rw [if_pos hlt])
 rw [e2]
 conv => lhs; rw [e]
 rw [List.flatMap_append, List.flatMap_append, List.flatMap_cons, List.flatMap_cons, List.set_append_right _ _ (by omega), hfl, show k * 3 + 2 - k * 3 = 2 by omega]
 rfl
theorem Rang.head6 {w w5 : World} {ab gj gr g cap n m : Nat} {js : List Jb} {rs : List Rg} {z : Rg} {x : En} (h : Rang w w5 ab gj gr g cap n m js rs z x) :
  (w5.setCell ⟨ab, 1, none⟩ (.slice (some ⟨g, 0, none⟩) (m + 1) cap)).heap[ab]? = some (boxB (.slice (some ⟨gj, 0, none⟩) n n) (.slice (some ⟨g, 0, none⟩) (m + 1) cap)) := Joins.block_setCell (i := 1) h.head _
theorem Rang.jobs6 {w w5 : World} {ab gj gr g cap n m : Nat} {js : List Jb} {rs : List Rg} {z : Rg} {x : En} (h : Rang w w5 ab gj gr g cap n m js rs z x) :
  (w5.setCell ⟨ab, 1, none⟩ (.slice (some ⟨g, 0, none⟩) (m + 1) cap)).heap[gj]? = some (.cells (js.flatMap Jb.cells).toArray 120) := by
 rw [Below.heap_setCell _ _ _ _ (by exact Ne.symm h.ne3)]; exact h.jobs
abbrev RingS (w : World) (ab gr eb m : Nat) (x : En) : Prop :=
 w.cell? ⟨ab, 1, none⟩ = some (.slice (some ⟨gr, 0, none⟩) m m) ∧ w.cell? ⟨eb, 1, none⟩ = some (.int .i64 x.j) ∧ w.cell? ⟨eb, 3, none⟩ = some (.int .i64 x.t) ∧ w.cell? ⟨eb, 4, none⟩ = some (.int .i64 x.c)
theorem ringS_new {w : World} {ab gr eb m : Nat} {x : En} {o : Obj} (h : RingS w ab gr eb m x) : RingS (w.alloc o) ab gr eb m x :=
 have hb := grew (Below.refl w.heap.size w) o
 ⟨cell_later hb h.1, cell_later hb h.2.1, cell_later hb h.2.2.1, cell_later hb h.2.2.2⟩
theorem Left.later {w W W' : World} {ab : Nat} {S : List Nat} {js : List Jb} {rs : List Rg} {u1 u2 : Value} (h : Left w W ab S js rs u1 u2) (hb : Below W.heap.size W W') : Left w W' ab S js rs u1 u2 :=
 ⟨heap_below h.head hb (heap_lt h.head), h.jobs.later hb, h.rungs.later hb, h.room, h.kept.below hb, h.tj.later hb, h.tr.later hb⟩
theorem Rang.done {w w5 : World} {ab gj gr g cap n m k : Nat} {js : List Jb} {rs : List Rg} {z : Rg} {x : En} {y : Jb} (h : Rang w w5 ab gj gr g cap n m js rs z x) (hn : js.length = n) (hx : js[k]? = some y) (v : Int) :
  ∃ u1 u2, Left w ((w5.setCell ⟨ab, 1, none⟩ (.slice (some ⟨g, 0, none⟩) (m + 1) cap)).setCell ⟨gj, k * 3 + 2, none⟩ (.int .i64 v)).drew ab [ab, gj, gr] (js.set k ⟨y.i, y.e, v⟩) (rs ++ [z]) u1 u2 := by
 have a1 := h.head6
 have j1 := h.jobs6
 have r1 := sl_beside (o := 1) h.rungs h.ne1 (.slice (some ⟨g, 0, none⟩) (m + 1) cap)
 have t1 := h.ty.setCell ab 1 (.slice (some ⟨g, 0, none⟩) (m + 1) cap)
 have k1 := h.kept.setCell (g := ab) (o := 1) (by simp) (.slice (some ⟨g, 0, none⟩) (m + 1) cap)
 generalize w5.setCell ⟨ab, 1, none⟩ (.slice (some ⟨g, 0, none⟩) (m + 1) cap) = w7 at *
 have j3 := block_set (o := k * 3 + 2) j1 (.int .i64 v)
 rw [set_next hx] at j3
 refine ⟨.slice (some ⟨gj, 0, none⟩) (js.set k ⟨y.i, y.e, v⟩).length n, .slice (some ⟨g, 0, none⟩) (m + 1) cap, Left.later ⟨?_, slOf_block Jb.three j3 ⟨[], by simp⟩, sl_beside r1 h.ne2 _, ⟨_, _, _, rfl, h.room⟩, k1.setCell (by simp) _, typed_block j3 _ _ _, t1.setCell _ _ _⟩ (Below.refl _ _).drew⟩
 rw [Below.heap_setCell _ _ _ _ (by exact h.ne3), List.length_set, hn]
 exact a1
theorem ring_do (x : En) (ab gj gr : Nat) (js : List Jb) (rs : List Rg) (w : World) (h : Own w ab gj gr js rs) (hn : js.length ≤ 6) (k : Nat) (y : Jb) (hj : jobAt js x.j = (k : Nat)) (hx : js[k]? = some y) (hne : y.n = x.t) (hm : rs.length < 60) (hy : y.bad = false) :
  Calls Tryz.prog 232 #[.pointer (some ⟨ab, 0, none⟩), x.val] w fun e w' => e = .returned (.tuple #[]) ∧ ∃ u1 u2, Left w w' ab [ab, gj, gr] (js.set k ⟨y.i, y.e, y.n + y.e⟩) (rs ++ [⟨x.j, x.t, x.c⟩]) u1 u2 := by
 have hB := grew (Below.refl w.heap.size w) (boxE x.k x.j x.v x.t x.c)
 have h' := h.later hB
 obtain ⟨n, hnn⟩ : ∃ n, Hid (js.length = n) := ⟨_, rfl⟩
 obtain ⟨m, hmm⟩ : ∃ m, Hid (rs.length = m) := ⟨_, rfl⟩
 have hS0 : Reads (w.alloc (boxE x.k x.j x.v x.t x.c)) (w.alloc (boxE x.k x.j x.v x.t x.c)) ab gj gr w.heap.size n m x := by
  refine ⟨Below.refl _ _, ?_, ?_, ?_⟩
  · rw [Joins.cell_of_block h'.head, ← hnn.out]; rfl
  · rw [Joins.cell_of_block h'.head, ← hmm.out]; rfl
  · rw [Joins.cell_of_block (heap_new _ _)]; rfl
 have hfind := fun (W : World) (hb : Below (w.alloc (boxE x.k x.j x.v x.t x.c)).heap.size (w.alloc (boxE x.k x.j x.v x.t x.c)) W) => find_any (.slice (some ⟨gj, 0, none⟩) js.length js.length) (.slice (some ⟨gr, 0, none⟩) rs.length rs.length) js x.j W (h'.sj.later hb) (by unfold most; omega)
 rw [hnn.out, hmm.out, hj] at hfind
 have HO : Aside (Own (w.alloc (boxE x.k x.j x.v x.t x.c)) ab gj gr js rs ∧ Below w.heap.size w (w.alloc (boxE x.k x.j x.v x.t x.c)) ∧ (w.alloc (boxE x.k x.j x.v x.t x.c)).heap[w.heap.size]? = some (boxE x.k x.j x.v x.t x.c)) := ⟨h', hB, heap_new _ _⟩
 have hab := heap_lt h.head
 have ne1 := h.ne1
 have ne3 := h.ne3
 have ne2 := h.ne2
 have hgj := heap_lt h.jobs
 have hgr := heap_lt h.rungs
 have hkn : k < n := by rw [← hnn.out]; exact (List.getElem?_eq_some_iff.1 hx).1
 have HX : Hid (js[k]? = some y) := hx
 have kd : decide ((k : Int) < 0) = false := by rw [decide_eq_false_iff_not]; omega
 have kk0 : (0 : Int) ≤ (k : Int) := by omega
 have kk1 : (k : Int) < (n : Int) := by omega
 have hnb : (y.n != x.t) = false := by rw [bne_eq_false_iff_eq]; exact hne
 clear hne hx
 obtain ⟨_, ⟨ye0, ye1⟩, ⟨yn0, yn1⟩⟩ := Jb.good hy
 have hfi : ¬ (60 : Int) ≤ (m : Int) := by have := hmm.out; omega
 have hfd : decide ((60 : Int) ≤ (m : Int)) = false := by rw [decide_eq_false_iff_not]; exact hfi
 rw [hnn.out] at hn
 rw [hmm.out] at hm
 clear h h' hB hj
 go_enter Tryz.func232, Tryz.ntmps232
 go_wp2_with fail
 generalize w.alloc (boxE x.k x.j x.v x.t x.c) = W0 at *
 have hbd : Below W0.heap.size W0 W0.drew := (Below.refl _ _).drew
 go_region_held3 (fun w' => Reads W0 w' ab gj gr w.heap.size n m x) (exact reads_step (by assumption) (by assumption)) (first | (go_at_call 263; refine (hfind _ (reads_below (by assumption))).mono ?_; rintro e w1 ⟨rfl, hb'⟩))
 all_goals
  rename_i hS
  clear hb'
  obtain ⟨hB1, y0, y1, y2⟩ := hS
  have hw1 : w.heap.size < w1.heap.size := by have := heap_lt HO.out.2.2; have := hB1.size; omega
  have O1 : Own w1 ab gj gr js rs := HO.out.1.later hB1
  have E1 : w1.heap[w.heap.size]? = some (boxE x.k x.j x.v x.t x.c) := heap_below HO.out.2.2 hB1 (heap_lt HO.out.2.2)
  have B1 : Aside (Below w.heap.size w w1) := HO.out.2.1.trans (hB1.mono HO.out.2.1.size)
  have A1 : Aside (Own w1 ab gj gr js rs ∧ w1.heap[w.heap.size]? = some (boxE x.k x.j x.v x.t x.c)) := ⟨O1, E1⟩
  have e1 := fun i => Joins.cell_of_block E1 i
  have hrow : RowAt Jb.cells 3 w1 gj 0 js := rowAt_block Jb.three O1.jobs ⟨[], by simp⟩
  have j1 : w1.cell? ⟨gj, k * 3 + 1, none⟩ = some (.int .i64 y.e) := by have := hrow k y HX.out 1 _ rfl; rwa [Nat.zero_add] at this
  have j2 : w1.cell? ⟨gj, k * 3 + 2, none⟩ = some (.int .i64 y.n) := by have := hrow k y HX.out 2 _ rfl; rwa [Nat.zero_add] at this
  clear hrow
  clear hS0 hfind hbd hB1 O1 E1 HO y2
  go_wp2_with fail
  go_quiet (fail)
  have A2 : Aside (Own (w1.drewN nq) ab gj gr js rs ∧ (w1.drewN nq).heap[w.heap.size]? = some (boxE x.k x.j x.v x.t x.c)) := ⟨A1.out.1.later (below_drewN (Below.refl _ _) nq), A1.out.2⟩
  have B2 : Aside (Below w.heap.size w (w1.drewN nq)) := below_drewN B1.out nq
  have hw2 : w.heap.size < (w1.drewN nq).heap.size := hw1
  clear A1 B1 y0 y1 e1 j1 j2 hw1
  generalize w1.drewN nq = w2 at *
  have O2 := A2.out.1
  have y1 : w2.cell? ⟨ab, 1, none⟩ = some (.slice (some ⟨gr, 0, none⟩) m m) := by rw [Joins.cell_of_block O2.head, ← hmm.out]; rfl
  have e1 := fun i => Joins.cell_of_block A2.out.2 i
  have q0 : ab < w2.heap.size := by omega
  have q1 : ab ≠ w2.heap.size := by omega
  have q2 : w.heap.size ≠ w2.heap.size := by omega
  have hOa : Aside (∀ o, Own (w2.alloc o).drew ab gj gr js rs) := fun o => A2.out.1.later (grew (Below.refl _ _) _).drew
  have hBa : Aside (∀ o, Below w.heap.size w (w2.alloc o).drew) := fun o => (grew B2.out _).drew
  have hEa : Aside (∀ o, (w2.alloc o).drew.heap[w.heap.size]? = some (boxE x.k x.j x.v x.t x.c)) := fun o => heap_old A2.out.2 _
  have hS0 : RingS w2 ab gr w.heap.size m x := ⟨y1, by rw [e1]; rfl, by rw [e1]; rfl, by rw [e1]; rfl⟩
  clear O2
  go_wp2_with fail
  refine wp_region_noPanic ?_
  refine region_L (fun w' => RingS w' ab gr w.heap.size m x) 16 (by kernel_rfl) (hS0) (fun hHeld => ?_)
  refine tl 0 (v := ?_) rfl (by kernel_rfl) (by rfl) (by assumption) (fun _ _ _ h => h) ?_ ?_
  rotate_left
  · (intro w0 hSw; (try dsimp only at hSw); go_simp; first | done | with_reducible rfl)
  try simp only [Act.put, qa, qb, qc]
  refine tl 1 (v := ?_) rfl (by kernel_rfl) (by rfl) (by assumption) (fun _ _ _ h => h) ?_ ?_
  rotate_left
  · (intro w0 hSw; (try dsimp only at hSw); go_simp; first | done | with_reducible rfl)
  try simp only [Act.put, qa, qb, qc]
  refine tl 2 (v := ?_) rfl (by kernel_rfl) (by rfl) (by assumption) (fun _ _ _ h => h) ?_ ?_
  rotate_left
  · (intro w0 hSw; (try dsimp only at hSw); go_simp; first | done | with_reducible rfl)
  try simp only [Act.put, qa, qb, qc]
  refine tl 3 (v := ?_) rfl (by kernel_rfl) (by rfl) (by assumption) (fun _ _ _ h => h) ?_ ?_
  rotate_left
  · (intro w0 hSw; (try dsimp only at hSw); go_simp; first | done | with_reducible rfl)
  try simp only [Act.put, qa, qb, qc]
  refine tl 4 (v := ?_) rfl (by kernel_rfl) (by rfl) (by assumption) (fun _ _ _ h => h) ?_ ?_
  rotate_left
  · (intro w0 hSw; (try dsimp only at hSw); go_simp; first | done | with_reducible rfl)
  try simp only [Act.put, qa, qb, qc]
  refine tl 5 (v := ?_) rfl (by kernel_rfl) (by rfl) (by assumption) (fun _ _ _ h => h) ?_ ?_
  rotate_left
  · (intro w0 hSw; (try dsimp only at hSw); go_simp; first | done | with_reducible rfl)
  try simp only [Act.put, qa, qb, qc]
  refine tl 6 (v := ?_) rfl (by kernel_rfl) (by rfl) (by assumption) (fun _ _ _ h => h) ?_ ?_
  rotate_left
  · (intro w0 hSw; (try dsimp only at hSw); go_simp; first | done | with_reducible rfl)
  try simp only [Act.put, qa, qb, qc]
  refine tl 7 (v := ?_) rfl (by kernel_rfl) (by rfl) (by assumption) (fun _ _ _ h => h) ?_ ?_
  rotate_left
  · (intro w0 hSw; (try dsimp only at hSw); go_simp; first | done | with_reducible rfl)
  try simp only [Act.put, qa, qb, qc]
  refine tl 8 (v := ?_) rfl (by kernel_rfl) (by rfl) (by assumption) (fun _ _ _ h => h) ?_ ?_
  rotate_left
  · (intro w0 hSw; (try dsimp only at hSw); go_simp; first | done | with_reducible rfl)
  try simp only [Act.put, qa, qb, qc]
  refine tl 9 (v := ?_) rfl (by kernel_rfl) (by rfl) (by assumption) (fun _ _ _ h => h) ?_ ?_
  rotate_left
  · (intro w0 hSw; (try dsimp only at hSw); go_simp; first | done | with_reducible rfl)
  try simp only [Act.put, qa, qb, qc]
  refine tl 10 (v := ?_) rfl (by kernel_rfl) (by rfl) (by assumption) (fun _ _ _ h => h) ?_ ?_
  rotate_left
  · (intro w0 hSw; (try dsimp only at hSw); go_simp; first | done | with_reducible rfl)
  try simp only [Act.put, qa, qb, qc]
  refine tl 11 (v := ?_) rfl (by kernel_rfl) (by rfl) (by assumption) (fun _ _ _ h => h) ?_ ?_
  rotate_left
  · (intro w0 hSw; (try dsimp only at hSw); go_simp; first | done | with_reducible rfl)
  try simp only [Act.put, qa, qb, qc]
  refine anyL_one (i := 12) (by kernel_rfl) rfl (fun K hK => ?_)
  go_simp
  refine hK.out _ _ (fun _ => ringS_new hHeld) (fun hNext => ?_)
  replace hNext := hNext (by kernel_rfl)
  clear hK K hHeld
  try simp only [Act.put, qa, qb, qc]
  refine anyL_one (i := 13) (by kernel_rfl) rfl (fun K hK => ?_)
  refine step_ring rfl _ _ rfl w ab gj gr _ n m js rs ⟨x.j, x.t, x.c⟩ x (by simp [Act.eval]) (by simp [Act.eval]) (hOa.out _) (hBa.out _) (hEa.out _) (by omega) (heap_new w2 _) hnn.out hmm.out (by omega) ?_
  intro g cap w5 z5 f5 RR
  have hE5 : w5.heap[w.heap.size]? = some (boxE x.k x.j x.v x.t x.c) := RR.out.box
  refine hK.out _ _ (fun _ => ⟨by rw [z5]; rfl, by rw [Joins.cell_of_block hE5]; rfl, by rw [Joins.cell_of_block hE5]; rfl, by rw [Joins.cell_of_block hE5]; rfl⟩) (fun hNext => ?_)
  replace hNext := hNext (by kernel_rfl)
  clear hK K
  try simp only [Act.put, qa, qb, qc]
  refine anyL_one (i := 14) (by kernel_rfl) rfl (fun K hK => ?_)
  go_simp
  refine hK.out _ _ (fun _ => hNext) (fun _ => ?_)
  clear hK K
  try simp only [Act.put, qa, qb, qc]
  refine anyL_one (i := 15) (by kernel_rfl) rfl (fun K hK => ?_)
  go_simp
  refine hK.out _ _ (fun _ => hNext) (fun _ => ?_)
  clear hK K
  try simp only [Act.put, qa, qb, qc]
  refine anyL_one (i := 16) (by kernel_rfl) rfl (fun K hK => ?_)
  go_simp
  refine hK.out _ _ (fun h => absurd h (by decide +kernel)) (fun _ => ?_)
  clear hK K
  refine anyL_done (by kernel_rfl) ?_ _
  refine NoPanic.normal ?_
  try simp only [Act.put, qa, qb, qc]
  clear z5 f5 hNext hE5 y1 e1 hS0
  have j6 := RR.out.jobs6
  have a6 := RR.out.head6
  generalize hw6 : w5.setCell ⟨ab, 1, none⟩ (.slice (some ⟨g, 0, none⟩) (m + 1) cap) = w6 at *
  have HW6 : Hid (w5.setCell ⟨ab, 1, none⟩ (.slice (some ⟨g, 0, none⟩) (m + 1) cap) = w6) := hw6
  clear hw6
  have hrow : RowAt Jb.cells 3 w6 gj 0 js := rowAt_block Jb.three j6 ⟨[], by simp⟩
  have j1 : w6.cell? ⟨gj, k * 3 + 1, none⟩ = some (.int .i64 y.e) := by have := hrow k y HX.out 1 _ rfl; rwa [Nat.zero_add] at this
  have j2 : w6.cell? ⟨gj, k * 3 + 2, none⟩ = some (.int .i64 y.n) := by have := hrow k y HX.out 2 _ rfl; rwa [Nat.zero_add] at this
  have fj := fun i => Joins.unfrozen_of_block j6 i
  have c6 : w6.cell? ⟨ab, 0, none⟩ = some (.slice (some ⟨gj, 0, none⟩) n n) := by rw [Joins.cell_of_block a6]; rfl
  clear hrow j6 a6
  go_wp2_with fail
  refine wp_region_noPanic ?_
  refine region_L (fun w' => w'.cell? ⟨ab, 0, none⟩ = some (.slice (some ⟨gj, 0, none⟩) n n) ∧ w'.cell? ⟨gj, k * 3 + 1, none⟩ = some (.int .i64 y.e) ∧ w'.cell? ⟨gj, k * 3 + 2, none⟩ = some (.int .i64 y.n)) 19 (by kernel_rfl) (⟨c6, j1, j2⟩) (fun hHeld => ?_)
  refine tl 0 (v := ?_) rfl (by kernel_rfl) (by rfl) (by assumption) (fun _ _ _ h => h) ?_ ?_
  rotate_left
  · (intro w0 hSw; (try dsimp only at hSw); go_simp; first | done | with_reducible rfl)
  try simp only [Act.put, qa, qb, qc]
  refine tl 1 (v := ?_) rfl (by kernel_rfl) (by rfl) (by assumption) (fun _ _ _ h => h) ?_ ?_
  rotate_left
  · (intro w0 hSw; (try dsimp only at hSw); go_simp; first | done | with_reducible rfl)
  try simp only [Act.put, qa, qb, qc]
  refine tl 2 (v := ?_) rfl (by kernel_rfl) (by rfl) (by assumption) (fun _ _ _ h => h) ?_ ?_
  rotate_left
  · (intro w0 hSw; (try dsimp only at hSw); go_simp; first | done | with_reducible rfl)
  try simp only [Act.put, qa, qb, qc]
  refine tl 3 (v := ?_) rfl (by kernel_rfl) (by rfl) (by assumption) (fun _ _ _ h => h) ?_ ?_
  rotate_left
  · (intro w0 hSw; (try dsimp only at hSw); go_simp; first | done | with_reducible rfl)
  try simp only [Act.put, qa, qb, qc]
  refine tl 4 (v := ?_) rfl (by kernel_rfl) (by rfl) (by assumption) (fun _ _ _ h => h) ?_ ?_
  rotate_left
  · (intro w0 hSw; (try dsimp only at hSw); go_simp; first | done | with_reducible rfl)
  try simp only [Act.put, qa, qb, qc]
  refine tl 5 (v := ?_) rfl (by kernel_rfl) (by rfl) (by assumption) (fun _ _ _ h => h) ?_ ?_
  rotate_left
  · (intro w0 hSw; (try dsimp only at hSw); go_simp; first | done | with_reducible rfl)
  try simp only [Act.put, qa, qb, qc]
  refine tl 6 (v := ?_) rfl (by kernel_rfl) (by rfl) (by assumption) (fun _ _ _ h => h) ?_ ?_
  rotate_left
  · (intro w0 hSw; (try dsimp only at hSw); go_simp; first | done | with_reducible rfl)
  try simp only [Act.put, qa, qb, qc]
  refine tl 7 (v := ?_) rfl (by kernel_rfl) (by rfl) (by assumption) (fun _ _ _ h => h) ?_ ?_
  rotate_left
  · (intro w0 hSw; (try dsimp only at hSw); go_simp; first | done | with_reducible rfl)
  try simp only [Act.put, qa, qb, qc]
  refine tl 8 (v := ?_) rfl (by kernel_rfl) (by rfl) (by assumption) (fun _ _ _ h => h) ?_ ?_
  rotate_left
  · (intro w0 hSw; (try dsimp only at hSw); go_simp; first | done | with_reducible rfl)
  try simp only [Act.put, qa, qb, qc]
  refine tl 9 (v := ?_) rfl (by kernel_rfl) (by rfl) (by assumption) (fun _ _ _ h => h) ?_ ?_
  rotate_left
  · (intro w0 hSw; (try dsimp only at hSw); go_simp; first | done | with_reducible rfl)
  try simp only [Act.put, qa, qb, qc]
  refine tl 10 (v := ?_) rfl (by kernel_rfl) (by rfl) (by assumption) (fun _ _ _ h => h) ?_ ?_
  rotate_left
  · (intro w0 hSw; (try dsimp only at hSw); go_simp; first | done | with_reducible rfl)
  try simp only [Act.put, qa, qb, qc]
  refine tl 11 (v := ?_) rfl (by kernel_rfl) (by rfl) (by assumption) (fun _ _ _ h => h) ?_ ?_
  rotate_left
  · (intro w0 hSw; (try dsimp only at hSw); go_simp; first | done | with_reducible rfl)
  try simp only [Act.put, qa, qb, qc]
  refine tl 12 (v := ?_) rfl (by kernel_rfl) (by rfl) (by assumption) (fun _ _ _ h => h) ?_ ?_
  rotate_left
  · (intro w0 hSw; (try dsimp only at hSw); go_simp; first | done | with_reducible rfl)
  try simp only [Act.put, qa, qb, qc]
  refine tl 13 (v := ?_) rfl (by kernel_rfl) (by rfl) (by assumption) (fun _ _ _ h => h) ?_ ?_
  rotate_left
  · (intro w0 hSw; (try dsimp only at hSw); go_simp; first | done | with_reducible rfl)
  try simp only [Act.put, qa, qb, qc]
  refine tl 14 (v := ?_) rfl (by kernel_rfl) (by rfl) (by assumption) (fun _ _ _ h => h) ?_ ?_
  rotate_left
  · (intro w0 hSw; (try dsimp only at hSw); go_simp; first | done | with_reducible rfl)
  try simp only [Act.put, qa, qb, qc]
  refine tl 15 (v := ?_) rfl (by kernel_rfl) (by rfl) (by assumption) (fun _ _ _ h => h) ?_ ?_
  rotate_left
  · (intro w0 hSw; (try dsimp only at hSw); go_simp; first | done | with_reducible rfl)
  try simp only [Act.put, qa, qb, qc]
  refine tl 16 (v := ?_) rfl (by kernel_rfl) (by rfl) (by assumption) (fun _ _ _ h => h) ?_ ?_
  rotate_left
  · (intro w0 hSw; (try dsimp only at hSw); go_simp; first | done | with_reducible rfl)
  try simp only [Act.put, qa, qb, qc]
  refine anyL_one (i := 17) (by kernel_rfl) rfl (fun K hK => ?_)
  go_simp
  refine hK.out _ _ (fun _ => hHeld) (fun _ => ?_)
  clear hK K
  try simp only [Act.put, qa, qb, qc]
  refine anyL_one (i := 18) (by kernel_rfl) rfl (fun K hK => ?_)
  go_simp
  refine hK.out _ _ (fun _ => hHeld) (fun _ => ?_)
  clear hK K
  try simp only [Act.put, qa, qb, qc]
  refine anyL_one (i := 19) (by kernel_rfl) rfl (fun K hK => ?_)
  go_simp
  refine hK.out _ _ (fun h => absurd h (by decide +kernel)) (fun _ => ?_)
  clear hK K
  refine anyL_done (by kernel_rfl) ?_ _
  refine NoPanic.normal ?_
  try simp only [Act.put, qa, qb, qc]
  go_wp2
  have hwrp : IntKind.i64.wrap (y.n + y.e) = y.n + y.e := by rw [IntKind.wrap_i64]; omega
  rw [← HW6.out, hwrp]
  exact bodyPost_end (v := .tuple #[]) (by simp [results, go_sem]) rfl ⟨rfl, RR.out.done hnn.out HX.out _⟩
end
section
open Go.Shelf
theorem Left.more {w W : World} {ab : Nat} {S S' : List Nat} {js : List Jb} {rs : List Rg} {u1 u2 : Value} (h : Left w W ab S js rs u1 u2) (hs : ∀ k, k ∈ S → k ∈ S') : Left w W ab S' js rs u1 u2 :=
 ⟨h.head, h.jobs, h.rungs, h.room, h.kept.more hs, h.tj, h.tr⟩
theorem left_more {fn : FuncId} {args : Array Value} {W : World} {ab gj gr : Nat} {js : List Jb} {rs : List Rg} (h : Calls Tryz.prog fn args W fun e w' => e = .returned (.tuple #[]) ∧ ∃ u1 u2, Left W w' ab [ab, gj] js rs u1 u2) :
  Calls Tryz.prog fn args W fun e w' => e = .returned (.tuple #[]) ∧ ∃ u1 u2, Left W w' ab [ab, gj, gr] js rs u1 u2 :=
 h.mono fun _ _ ⟨he, u1, u2, hL⟩ => ⟨he, u1, u2, hL.more (fun k hk => by simp at hk ⊢; rcases hk with h | h <;> simp [h])⟩
theorem place_alt {js : List Jb} {i : Int} {z : Jb} (hs : Srt (-1) js) (hn : tab js i = none) : js.take (place js i) ++ z :: js.drop (place js i) = alt js i (some z) := by
 have hne := tab_none.1 hn
 have e : js = js.take (place js i) ++ js.drop (place js i) := (List.take_append_drop _ _).symm
 have ha : ∀ x, x ∈ js.take (place js i) → x.i < i := fun x hx => by
  have hm := List.mem_of_mem_take hx
  have h1 := hne x hm
  have h2 : decide (i < x.i) = false := by
   unfold place at hx
   rcases idx_ways (fun y : Jb => decide (i < y.i)) js with ⟨_, hall⟩ | ⟨k, y, hi, _, _, _, hb⟩
   · exact hall x hm
   · rw [hi, if_neg (by omega)] at hx
    exact hb x (by simpa using hx)
  have : ¬ i < x.i := by simpa using h2
  omega
 have hb : ∀ x, x ∈ js.drop (place js i) → i < x.i := fun x hx => by
  unfold place at hx
  rcases idx_ways (fun y : Jb => decide (i < y.i)) js with ⟨hi, _⟩ | ⟨k, y, hi, _, hy, hp, _⟩
  · rw [hi] at hx
   simp at hx
  · rw [hi, if_neg (by omega)] at hx
   exact srt_above_at hs hy (by simpa using hp) x (by simpa using hx)
 have h := alt_gap ha hb (some z)
 rw [← e] at h
 rw [h]
 simp
theorem set_alt {js : List Jb} {k : Nat} {y z : Jb} (hs : Srt (-1) js) (hy : js[k]? = some y) : js.set k z = alt js y.i (some z) := by
 have hlt := (List.getElem?_eq_some_iff.1 hy).1
 have e : js = js.take k ++ y :: js.drop (k + 1) := by rw [← drop_at hy, List.take_append_drop]
 have e2 : js.set k z = js.take k ++ z :: js.drop (k + 1) := List.set_eq_take_append_cons_drop.trans (by rw [if_pos hlt])
 have hs' := hs
 rw [e] at hs'
 have h := alt_mid hs' (some z)
 rw [← e] at h
 rw [e2, h]
 simp
theorem does_any {js : List Jb} {rs : List Rg} {x : En} (hok : Ok js rs) (hx : x.chk = 0) : Does js rs x := by
 obtain ⟨_, ⟨hj0, _⟩, _⟩ := En.right hx
 refine ⟨fun hk W ab gj gr hO => ?_, fun hk W ab gj gr hO => ?_, fun hk W ab gj gr hO => ?_⟩
 · rcases jobAt_ways js x.j with ⟨hja, htab⟩ | ⟨k, z, hja, hz, htab⟩
  · have hst : step js rs x = (alt js x.j (some ⟨x.j, x.v, x.t⟩), rs) := by rw [step, if_pos hk, htab]
   rw [hst, ← place_alt hok.srt htab]
   refine left_more ?_
   by_cases hr : 0 ≤ idx (fun y => decide (x.j < y.i)) js
   · exact put_mid x ab gj gr js rs W hO hok.few hja hr
   · exact put_end x ab gj gr js rs W hO hok.few hja (by omega)
  · have hst : step js rs x = (js, rs) := by rw [step, if_pos hk, htab]
   rw [hst]
   exact left_more (put_there x ab gj gr js rs W hO hok.few (by rw [hja]; omega))
 · have hst : step js rs x = (js.filter (fun y => !(y.i == x.j)), rs) := by rw [step, if_neg (by omega), if_pos hk, alt_filter hok.srt (by omega)]
  rw [hst]
  exact left_more (drop_any x ab gj gr js rs W hO hok.few)
 · rcases jobAt_ways js x.j with ⟨hja, htab⟩ | ⟨k, z, hja, hz, htab⟩
  · have hst : step js rs x = (js, rs) := by rw [step, if_neg (by omega), if_neg (by omega), if_pos hk, htab]
   rw [hst]
   exact left_more (ring_lost x ab gj gr js rs W hO hok.few hja)
  · have hst : step js rs x = if z.n = x.t ∧ rs.length < 60 then (alt js x.j (some ⟨x.j, z.e, x.t + z.e⟩), rs ++ [⟨x.j, x.t, x.c⟩]) else (js, rs) := by
    rw [step, if_neg (by omega), if_neg (by omega), if_pos hk, htab]
   rw [hst]
   by_cases hn : z.n = x.t
   · by_cases hf : rs.length < 60
    · rw [if_pos ⟨hn, hf⟩]
     have hzi := (tab_id htab).1
     have h := ring_do x ab gj gr js rs W hO hok.few k z hja hz hn hf (hok.jobs z (tab_id htab).2)
     rw [set_alt hok.srt hz, hzi, hn] at h
     exact h
    · rw [if_neg (fun h => hf h.2)]
     exact left_more (ring_full x ab gj gr js rs W hO hok.few k z hja hz hn (by omega))
   · rw [if_neg (fun h => hn h.1)]
    exact left_more (ring_other x ab gj gr js rs W hO hok.few k z hja hz hn)
theorem bk_applyT (v1 v2 : Value) (js : List Jb) (rs : List Rg) (x : En) (w : World) (h1 : JobSl w v1 js) (h2 : RungSl w v2 rs) :
  Calls Tryz.prog 205 #[.agg #[v1, v2], x.val] w fun e w' => ∃ u1 u2, e = .returned (.tuple #[.agg #[u1, u2], .int .i64 (app js rs x).2]) ∧ JobSl w' u1 (app js rs x).1.1 ∧ RungSl w' u2 (app js rs x).1.2 ∧ Below w.heap.size w w' ∧ Roomy u2 ∧ Typed 120 w' u1 ∧ Typed 76 w' u2 := by
 obtain ⟨a1, c1, a2, c2, rfl, rfl⟩ := bk_slices h1 h2
 unfold app
 by_cases hb : ckBook js rs = 0
 · rw [if_neg (by simpa using hb)]
  by_cases hx : x.chk = 0
  · rw [if_neg (by simpa using hx)]
   exact bk_app_ok a1 a2 _ _ c1 c2 js rs x w h1 h2 (ckBook_zero.1 hb) hx (does_any (ckBook_zero.1 hb) hx)
  · rw [if_pos hx]
   exact zero_typed (bk_app_entry a1 a2 _ _ c1 c2 js rs x w h1 h2 hb hx)
 · rw [if_pos hb]
  exact zero_typed (bk_app_book a1 a2 _ _ c1 c2 js rs x w h1 h2 hb)
end
theorem zl_ck (c : Cl) (a1 a2 : Option Addr) (m1 k1 m2 k2 : Nat) (q : Int) (w : World) (hb : BkAt w (.slice a1 m1 k1) (.slice a2 m2 k2) c) (d : Int) (hck : c.ck = d) (hz : (d != 0) = true) :
  AnsX 131 #[c.val (.slice a1 m1 k1) (.slice a2 m2 k2), .int .i64 q] w (Cl.zero, d) nil0 nil0 := by
 have HB0 : Aside (Below w.heap.size w ((w.alloc (boxC c (.slice a1 m1 k1) (.slice a2 m2 k2))).alloc (boxC Cl.zero nil0 nil0))) := grew (grew (Below.refl _ _) _) _
 have HX0 : Aside (((w.alloc (boxC c (.slice a1 m1 k1) (.slice a2 m2 k2))).alloc (boxC Cl.zero nil0 nil0)).heap[w.heap.size]? = some (boxC c (.slice a1 m1 k1) (.slice a2 m2 k2))) := heap_old (heap_new _ _) _
 have HR0 : Aside (((w.alloc (boxC c (.slice a1 m1 k1) (.slice a2 m2 k2))).alloc (boxC Cl.zero nil0 nil0)).heap[w.heap.size + 1]? = some (boxC Cl.zero nil0 nil0)) := by
  have := heap_new (w.alloc (boxC c (.slice a1 m1 k1) (.slice a2 m2 k2))) (boxC Cl.zero nil0 nil0)
  rw [World.size_alloc] at this
  exact this
 have kc := cl_check c (.slice a1 m1 k1) (.slice a2 m2 k2) _ (bkAt_later hb HB0.out)
 rw [hck] at kc
 have HK : Aside (BkAt w (.slice a1 m1 k1) (.slice a2 m2 k2) c) := hb
 clear hb hck
 go_enter Tryz.func131, Tryz.ntmps131
 go_wp2_with fail
 refine kc.mono ?_
 rintro r w1 ⟨rfl, hb1⟩
 have HX1 : Aside _ := heap_below HX0.out hb1 (heap_lt HX0.out)
 have HR1 : Aside _ := heap_below HR0.out hb1 (heap_lt HR0.out)
 have HB1 : Aside _ := step_below HB0.out hb1
 clear hb1 HB0 HX0 HR0
 clear kc
 have zr := fun i => Joins.cell_of_block HR1.out i
 have fzr := fun i => Joins.unfrozen_of_block HR1.out i
 go_wp2
 refine ret_st (p := 4) (q := 5) w1 (w.heap.size + 1) (Cl.zero) nil0 nil0 (o := Cl.zero) (u1 := nil0) (u2 := nil0) Tryz.results131 rfl rfl rfl HR1.out rfl ?_
 exact ⟨rfl, st12_below HB1.out (by omega) _ _ _⟩
theorem zl_rng (c : Cl) (a1 a2 : Option Addr) (m1 k1 m2 k2 : Nat) (q : Int) (w : World) (hb : BkAt w (.slice a1 m1 k1) (.slice a2 m2 k2) c) (hck : c.ck = 0) (h0 : ¬ (1 ≤ q ∧ q ≤ 20)) :
  AnsX 131 #[c.val (.slice a1 m1 k1) (.slice a2 m2 k2), .int .i64 q] w (Cl.zero, 3) nil0 nil0 := by
 have HB0 : Aside (Below w.heap.size w ((w.alloc (boxC c (.slice a1 m1 k1) (.slice a2 m2 k2))).alloc (boxC Cl.zero nil0 nil0))) := grew (grew (Below.refl _ _) _) _
 have HX0 : Aside (((w.alloc (boxC c (.slice a1 m1 k1) (.slice a2 m2 k2))).alloc (boxC Cl.zero nil0 nil0)).heap[w.heap.size]? = some (boxC c (.slice a1 m1 k1) (.slice a2 m2 k2))) := heap_old (heap_new _ _) _
 have HR0 : Aside (((w.alloc (boxC c (.slice a1 m1 k1) (.slice a2 m2 k2))).alloc (boxC Cl.zero nil0 nil0)).heap[w.heap.size + 1]? = some (boxC Cl.zero nil0 nil0)) := by
  have := heap_new (w.alloc (boxC c (.slice a1 m1 k1) (.slice a2 m2 k2))) (boxC Cl.zero nil0 nil0)
  rw [World.size_alloc] at this
  exact this
 have kc := cl_check c (.slice a1 m1 k1) (.slice a2 m2 k2) _ (bkAt_later hb HB0.out)
 rw [hck] at kc
 have HK : Aside (BkAt w (.slice a1 m1 k1) (.slice a2 m2 k2) c) := hb
 clear hb hck
 have hin := fun W => cepoch_any q W
 rw [decide_eq_false h0] at hin
 clear h0
 go_enter Tryz.func131, Tryz.ntmps131
 go_wp2_with fail
 refine kc.mono ?_
 rintro r w1 ⟨rfl, hb1⟩
 have HX1 : Aside _ := heap_below HX0.out hb1 (heap_lt HX0.out)
 have HR1 : Aside _ := heap_below HR0.out hb1 (heap_lt HR0.out)
 have HB1 : Aside _ := step_below HB0.out hb1
 clear hb1 HB0 HX0 HR0
 clear kc
 go_wp2_with fail
 refine (hin _).mono ?_
 rintro r wx ⟨rfl, hwx⟩
 obtain rfl : w1 = wx := hwx.symm
 have zr := fun i => Joins.cell_of_block HR1.out i
 have fzr := fun i => Joins.unfrozen_of_block HR1.out i
 go_wp2
 refine ret_st (p := 4) (q := 5) w1 (w.heap.size + 1) (Cl.zero) nil0 nil0 (o := Cl.zero) (u1 := nil0) (u2 := nil0) Tryz.results131 rfl rfl rfl HR1.out rfl ?_
 exact ⟨rfl, st12_below HB1.out (by omega) _ _ _⟩
theorem zl_old (c : Cl) (a1 a2 : Option Addr) (m1 k1 m2 k2 : Nat) (q : Int) (w : World) (hb : BkAt w (.slice a1 m1 k1) (.slice a2 m2 k2) c) (hck : c.ck = 0) (h0 : 1 ≤ q ∧ q ≤ 20) (h1 : decide (q ≤ c.p) = true) :
  AnsX 131 #[c.val (.slice a1 m1 k1) (.slice a2 m2 k2), .int .i64 q] w (Cl.zero, 8) nil0 nil0 := by
 have HB0 : Aside (Below w.heap.size w ((w.alloc (boxC c (.slice a1 m1 k1) (.slice a2 m2 k2))).alloc (boxC Cl.zero nil0 nil0))) := grew (grew (Below.refl _ _) _) _
 have HX0 : Aside (((w.alloc (boxC c (.slice a1 m1 k1) (.slice a2 m2 k2))).alloc (boxC Cl.zero nil0 nil0)).heap[w.heap.size]? = some (boxC c (.slice a1 m1 k1) (.slice a2 m2 k2))) := heap_old (heap_new _ _) _
 have HR0 : Aside (((w.alloc (boxC c (.slice a1 m1 k1) (.slice a2 m2 k2))).alloc (boxC Cl.zero nil0 nil0)).heap[w.heap.size + 1]? = some (boxC Cl.zero nil0 nil0)) := by
  have := heap_new (w.alloc (boxC c (.slice a1 m1 k1) (.slice a2 m2 k2))) (boxC Cl.zero nil0 nil0)
  rw [World.size_alloc] at this
  exact this
 have kc := cl_check c (.slice a1 m1 k1) (.slice a2 m2 k2) _ (bkAt_later hb HB0.out)
 rw [hck] at kc
 have HK : Aside (BkAt w (.slice a1 m1 k1) (.slice a2 m2 k2) c) := hb
 clear hb hck
 have hin := fun W => cepoch_any q W
 rw [decide_eq_true h0] at hin
 clear h0
 go_enter Tryz.func131, Tryz.ntmps131
 go_wp2_with fail
 refine kc.mono ?_
 rintro r w1 ⟨rfl, hb1⟩
 have HX1 : Aside _ := heap_below HX0.out hb1 (heap_lt HX0.out)
 have HR1 : Aside _ := heap_below HR0.out hb1 (heap_lt HR0.out)
 have HB1 : Aside _ := step_below HB0.out hb1
 clear hb1 HB0 HX0 HR0
 clear kc
 have z := fun i => Joins.cell_of_block HX1.out i
 go_wp2_with fail
 refine (hin _).mono ?_
 rintro r wx ⟨rfl, hwx⟩
 obtain rfl : w1 = wx := hwx.symm
 have zr := fun i => Joins.cell_of_block HR1.out i
 have fzr := fun i => Joins.unfrozen_of_block HR1.out i
 go_wp2
 refine ret_st (p := 4) (q := 5) w1 (w.heap.size + 1) (Cl.zero) nil0 nil0 (o := Cl.zero) (u1 := nil0) (u2 := nil0) Tryz.results131 rfl rfl rfl HR1.out rfl ?_
 exact ⟨rfl, st12_below HB1.out (by omega) _ _ _⟩
theorem zl_ok (c : Cl) (a1 a2 : Option Addr) (m1 k1 m2 k2 : Nat) (q : Int) (w : World) (hb : BkAt w (.slice a1 m1 k1) (.slice a2 m2 k2) c) (hck : c.ck = 0) (h0 : 1 ≤ q ∧ q ≤ 20) (h1 : decide (q ≤ c.p) = false) (hn1 : c.js.length ≤ 1000000) (hn2 : c.rs.length ≤ 1000000) :
  AnsT 131 #[c.val (.slice a1 m1 k1) (.slice a2 m2 k2), .int .i64 q] w ((⟨q, c.d, c.e, c.a, c.l, c.n, c.js, c.rs⟩ : Cl), 0) := by
 have HB0 : Aside (Below w.heap.size w ((w.alloc (boxC c (.slice a1 m1 k1) (.slice a2 m2 k2))).alloc (boxC Cl.zero nil0 nil0))) := grew (grew (Below.refl _ _) _) _
 have HX0 : Aside (((w.alloc (boxC c (.slice a1 m1 k1) (.slice a2 m2 k2))).alloc (boxC Cl.zero nil0 nil0)).heap[w.heap.size]? = some (boxC c (.slice a1 m1 k1) (.slice a2 m2 k2))) := heap_old (heap_new _ _) _
 have HR0 : Aside (((w.alloc (boxC c (.slice a1 m1 k1) (.slice a2 m2 k2))).alloc (boxC Cl.zero nil0 nil0)).heap[w.heap.size + 1]? = some (boxC Cl.zero nil0 nil0)) := by
  have := heap_new (w.alloc (boxC c (.slice a1 m1 k1) (.slice a2 m2 k2))) (boxC Cl.zero nil0 nil0)
  rw [World.size_alloc] at this
  exact this
 have kc := cl_check c (.slice a1 m1 k1) (.slice a2 m2 k2) _ (bkAt_later hb HB0.out)
 have kd : ∀ W, Below w.heap.size w W → Calls Tryz.prog 168 #[c.val (.slice a1 m1 k1) (.slice a2 m2 k2)] W fun e w' => ∃ u1 u2, e = .returned (c.val u1 u2) ∧ BkT w' u1 u2 c ∧ Below W.heap.size W w' := fun W hB => cl_apart c a1 a2 m1 k1 m2 k2 W (bkAt_later hb hB) hn1 hn2
 clear hn1 hn2
 rw [hck] at kc
 have HK : Aside (BkAt w (.slice a1 m1 k1) (.slice a2 m2 k2) c) := hb
 clear hb hck
 have hin := fun W => cepoch_any q W
 rw [decide_eq_true h0] at hin
 clear h0
 go_enter Tryz.func131, Tryz.ntmps131
 go_wp2_with fail
 refine kc.mono ?_
 rintro r w1 ⟨rfl, hb1⟩
 have HX1 : Aside _ := heap_below HX0.out hb1 (heap_lt HX0.out)
 have HR1 : Aside _ := heap_below HR0.out hb1 (heap_lt HR0.out)
 have HB1 : Aside _ := step_below HB0.out hb1
 clear hb1 HB0 HX0 HR0
 clear kc
 have z := fun i => Joins.cell_of_block HX1.out i
 go_wp2_with fail
 refine (hin _).mono ?_
 rintro r wx ⟨rfl, hwx⟩
 obtain rfl : w1 = wx := hwx.symm
 go_wp2_with fail
 refine (kd w1 HB1.out).mono ?_
 rintro r w2 ⟨u1, u2, rfl, hT2, hb2⟩
 have HR2 : Aside _ := heap_below HR1.out hb2 (heap_lt HR1.out)
 have HB2 : Aside _ := step_below HB1.out hb2
 have HT2 : Aside (BkT w2 u1 u2 c) := hT2
 obtain ⟨s1, o1, s2, o2, rfl, rfl⟩ := bk_slices hT2.1.1 hT2.1.2
 clear hb2 kd HB1 HR1 hT2
 obtain ⟨n1, hn1⟩ : ∃ n, Hid (c.js.length = n) := ⟨_, rfl⟩
 obtain ⟨n2, hn2⟩ : ∃ n, Hid (c.rs.length = n) := ⟨_, rfl⟩
 rw [hn1.out, hn2.out] at HT2 ⊢
 clear z hin h1
 go_upto_region 9 with fail
 have HA3 : Aside ((w2.alloc (boxC c (.slice s1 n1 o1) (.slice s2 n2 o2))).heap[w2.heap.size]? = some (boxC c (.slice s1 n1 o1) (.slice s2 n2 o2))) := heap_new _ _
 have HD3 : Aside (Below w2.heap.size w2 (w2.alloc (boxC c (.slice s1 n1 o1) (.slice s2 n2 o2)))) := grew (Below.refl _ _) _
 generalize (w2.alloc (boxC c (.slice s1 n1 o1) (.slice s2 n2 o2))) = X at *
 have z := fun i => Joins.cell_of_block HA3.out i
 have fz := fun i => Joins.unfrozen_of_block HA3.out i
 go_upto_region 10 with fail
 have g0 := Joins.block_setCell HA3.out (i := 0) (.int .i64 q)
 simp only [List.setIfInBounds_toArray, List.set_cons_zero, List.set_cons_succ] at g0
 have HX4 : Aside ((X.setCell ⟨w2.heap.size, 0, none⟩ (.int .i64 q)).heap[w2.heap.size]? = some (boxC (⟨q, c.d, c.e, c.a, c.l, c.n, c.js, c.rs⟩ : Cl) (.slice s1 n1 o1) (.slice s2 n2 o2))) := g0
 have HD4 : Aside (Below w2.heap.size w2 (X.setCell ⟨w2.heap.size, 0, none⟩ (.int .i64 q))) := HD3.out.setCell (p := ⟨w2.heap.size, 0, none⟩) (Nat.le_refl _) _
 clear g0 HA3 HD3 z fz
 generalize X.setCell ⟨w2.heap.size, 0, none⟩ (.int .i64 q) = w4 at *
 have HR4 : Aside _ := heap_below HR2.out HD4.out (heap_lt HR2.out)
 have HB4 : Aside _ := step_below HB2.out HD4.out
 have HT4 : Aside _ := bkT_later HT2.out HD4.out
 have z := fun i => Joins.cell_of_block HX4.out i
 clear HR2 HB2 HT2 HD4
 have zr := fun i => Joins.cell_of_block HR4.out i
 have fzr := fun i => Joins.unfrozen_of_block HR4.out i
 go_wp2
 refine ret_st (p := 4) (q := 5) w4 (w.heap.size + 1) ((⟨q, c.d, c.e, c.a, c.l, c.n, c.js, c.rs⟩ : Cl)) (.slice s1 n1 o1) (.slice s2 n2 o2) (o := Cl.zero) (u1 := nil0) (u2 := nil0) Tryz.results131 rfl rfl rfl HR4.out rfl ?_
 exact ⟨(.slice s1 n1 o1), (.slice s2 n2 o2), rfl, bkT_st12 ⟨_, HR4.out⟩ (bkT_cong HT4.out rfl rfl) _ _ _, st12_below HB4.out (by omega) _ _ _⟩
theorem cl_learn (c : Cl) (q : Int) (v1 v2 : Value) (w : World) (hb : BkAt w v1 v2 c) : AnsT 131 #[c.val v1 v2, .int .i64 q] w (learnOf c q) := by
 obtain ⟨a1, k1, a2, k2, rfl, rfl⟩ := bk_slices hb.1 hb.2
 unfold learnOf
 by_cases hc : c.ck = 0
 · rw [if_neg (by simpa using hc)]
  by_cases hq : 1 ≤ q ∧ q ≤ 20
  · rw [if_neg (by simpa using hq)]
   by_cases ho : q ≤ c.p
   · rw [if_pos ho]
    exact ansT_zero <| zl_old c a1 a2 _ k1 _ k2 q w hb hc hq (decide_eq_true ho)
   · rw [if_neg ho]
    exact zl_ok c a1 a2 _ k1 _ k2 q w hb hc hq (decide_eq_false ho) (few_of hc).1 (few_of hc).2
  · rw [if_pos hq]
   exact ansT_zero <| zl_rng c a1 a2 _ k1 _ k2 q w hb hc hq
 · rw [if_pos hc]
  exact ansT_zero <| zl_ck c a1 a2 _ k1 _ k2 q w hb _ rfl (by rw [bne_iff_ne]; exact hc)
theorem zy_ck (c : Cl) (a1 a2 : Option Addr) (m1 k1 m2 k2 : Nat) (x : En) (w : World) (hb : BkAt w (.slice a1 m1 k1) (.slice a2 m2 k2) c) (d : Int) (hck : c.ck = d) (hz : (d != 0) = true) :
  AnsX 179 #[c.val (.slice a1 m1 k1) (.slice a2 m2 k2), x.val] w (Cl.zero, d) nil0 nil0 := by
 have HB0 : Aside (Below w.heap.size w (((w.alloc (boxC c (.slice a1 m1 k1) (.slice a2 m2 k2))).alloc (boxE x.k x.j x.v x.t x.c)).alloc (boxC Cl.zero nil0 nil0))) := grew (grew (grew (Below.refl _ _) _) _) _
 have HX0 : Aside ((((w.alloc (boxC c (.slice a1 m1 k1) (.slice a2 m2 k2))).alloc (boxE x.k x.j x.v x.t x.c)).alloc (boxC Cl.zero nil0 nil0)).heap[w.heap.size]? = some (boxC c (.slice a1 m1 k1) (.slice a2 m2 k2))) := heap_old (heap_old (heap_new _ _) _) _
 have HE0 : Aside ((((w.alloc (boxC c (.slice a1 m1 k1) (.slice a2 m2 k2))).alloc (boxE x.k x.j x.v x.t x.c)).alloc (boxC Cl.zero nil0 nil0)).heap[w.heap.size + 1]? = some (boxE x.k x.j x.v x.t x.c)) := by
  have := heap_new (w.alloc (boxC c (.slice a1 m1 k1) (.slice a2 m2 k2))) (boxE x.k x.j x.v x.t x.c)
  rw [World.size_alloc] at this
  exact heap_old (this) _
 have HR0 : Aside ((((w.alloc (boxC c (.slice a1 m1 k1) (.slice a2 m2 k2))).alloc (boxE x.k x.j x.v x.t x.c)).alloc (boxC Cl.zero nil0 nil0)).heap[w.heap.size + 1 + 1]? = some (boxC Cl.zero nil0 nil0)) := by
  have := heap_new ((w.alloc (boxC c (.slice a1 m1 k1) (.slice a2 m2 k2))).alloc (boxE x.k x.j x.v x.t x.c)) (boxC Cl.zero nil0 nil0)
  rw [World.size_alloc, World.size_alloc] at this
  exact this
 have kc := cl_check c (.slice a1 m1 k1) (.slice a2 m2 k2) _ (bkAt_later hb HB0.out)
 rw [hck] at kc
 have HK : Aside (BkAt w (.slice a1 m1 k1) (.slice a2 m2 k2) c) := hb
 clear hb hck
 go_enter Tryz.func179, Tryz.ntmps179
 go_wp2_with fail
 refine kc.mono ?_
 rintro r w1 ⟨rfl, hb1⟩
 have HX1 : Aside _ := heap_below HX0.out hb1 (heap_lt HX0.out)
 have HE1 : Aside _ := heap_below HE0.out hb1 (heap_lt HE0.out)
 have HR1 : Aside _ := heap_below HR0.out hb1 (heap_lt HR0.out)
 have HB1 : Aside _ := step_below HB0.out hb1
 clear hb1 HB0 HX0 HE0 HR0
 clear kc
 have zr := fun i => Joins.cell_of_block HR1.out i
 have fzr := fun i => Joins.unfrozen_of_block HR1.out i
 go_wp2
 refine ret_st (p := 4) (q := 5) w1 (w.heap.size + 1 + 1) (Cl.zero) nil0 nil0 (o := Cl.zero) (u1 := nil0) (u2 := nil0) Tryz.results179 rfl rfl rfl HR1.out rfl ?_
 exact ⟨rfl, st12_below HB1.out (by omega) _ _ _⟩
theorem zy_full (c : Cl) (a1 a2 : Option Addr) (m1 k1 m2 k2 : Nat) (x : En) (w : World) (hb : BkAt w (.slice a1 m1 k1) (.slice a2 m2 k2) c) (hck : c.ck = 0) (hn : (c.n == 60) = true) :
  AnsX 179 #[c.val (.slice a1 m1 k1) (.slice a2 m2 k2), x.val] w (Cl.zero, 2) nil0 nil0 := by
 have HB0 : Aside (Below w.heap.size w (((w.alloc (boxC c (.slice a1 m1 k1) (.slice a2 m2 k2))).alloc (boxE x.k x.j x.v x.t x.c)).alloc (boxC Cl.zero nil0 nil0))) := grew (grew (grew (Below.refl _ _) _) _) _
 have HX0 : Aside ((((w.alloc (boxC c (.slice a1 m1 k1) (.slice a2 m2 k2))).alloc (boxE x.k x.j x.v x.t x.c)).alloc (boxC Cl.zero nil0 nil0)).heap[w.heap.size]? = some (boxC c (.slice a1 m1 k1) (.slice a2 m2 k2))) := heap_old (heap_old (heap_new _ _) _) _
 have HE0 : Aside ((((w.alloc (boxC c (.slice a1 m1 k1) (.slice a2 m2 k2))).alloc (boxE x.k x.j x.v x.t x.c)).alloc (boxC Cl.zero nil0 nil0)).heap[w.heap.size + 1]? = some (boxE x.k x.j x.v x.t x.c)) := by
  have := heap_new (w.alloc (boxC c (.slice a1 m1 k1) (.slice a2 m2 k2))) (boxE x.k x.j x.v x.t x.c)
  rw [World.size_alloc] at this
  exact heap_old (this) _
 have HR0 : Aside ((((w.alloc (boxC c (.slice a1 m1 k1) (.slice a2 m2 k2))).alloc (boxE x.k x.j x.v x.t x.c)).alloc (boxC Cl.zero nil0 nil0)).heap[w.heap.size + 1 + 1]? = some (boxC Cl.zero nil0 nil0)) := by
  have := heap_new ((w.alloc (boxC c (.slice a1 m1 k1) (.slice a2 m2 k2))).alloc (boxE x.k x.j x.v x.t x.c)) (boxC Cl.zero nil0 nil0)
  rw [World.size_alloc, World.size_alloc] at this
  exact this
 have kc := cl_check c (.slice a1 m1 k1) (.slice a2 m2 k2) _ (bkAt_later hb HB0.out)
 rw [hck] at kc
 have HK : Aside (BkAt w (.slice a1 m1 k1) (.slice a2 m2 k2) c) := hb
 clear hb hck
 go_enter Tryz.func179, Tryz.ntmps179
 go_wp2_with fail
 refine kc.mono ?_
 rintro r w1 ⟨rfl, hb1⟩
 have HX1 : Aside _ := heap_below HX0.out hb1 (heap_lt HX0.out)
 have HE1 : Aside _ := heap_below HE0.out hb1 (heap_lt HE0.out)
 have HR1 : Aside _ := heap_below HR0.out hb1 (heap_lt HR0.out)
 have HB1 : Aside _ := step_below HB0.out hb1
 clear hb1 HB0 HX0 HE0 HR0
 clear kc
 have z := fun i => Joins.cell_of_block HX1.out i
 have zr := fun i => Joins.cell_of_block HR1.out i
 have fzr := fun i => Joins.unfrozen_of_block HR1.out i
 go_wp2
 refine ret_st (p := 4) (q := 5) w1 (w.heap.size + 1 + 1) (Cl.zero) nil0 nil0 (o := Cl.zero) (u1 := nil0) (u2 := nil0) Tryz.results179 rfl rfl rfl HR1.out rfl ?_
 exact ⟨rfl, st12_below HB1.out (by omega) _ _ _⟩
theorem zy_app (c : Cl) (a1 a2 : Option Addr) (m1 k1 m2 k2 : Nat) (x : En) (w : World) (hb : BkAt w (.slice a1 m1 k1) (.slice a2 m2 k2) c) (hck : c.ck = 0) (hn : (c.n == 60) = false) (J : List Jb) (Q : List Rg) (d : Int) (hA : app c.js c.rs x = ((J, Q), d)) (hz : (d != 0) = true) :
  AnsX 179 #[c.val (.slice a1 m1 k1) (.slice a2 m2 k2), x.val] w (Cl.zero, d) nil0 nil0 := by
 have HB0 : Aside (Below w.heap.size w (((w.alloc (boxC c (.slice a1 m1 k1) (.slice a2 m2 k2))).alloc (boxE x.k x.j x.v x.t x.c)).alloc (boxC Cl.zero nil0 nil0))) := grew (grew (grew (Below.refl _ _) _) _) _
 have HX0 : Aside ((((w.alloc (boxC c (.slice a1 m1 k1) (.slice a2 m2 k2))).alloc (boxE x.k x.j x.v x.t x.c)).alloc (boxC Cl.zero nil0 nil0)).heap[w.heap.size]? = some (boxC c (.slice a1 m1 k1) (.slice a2 m2 k2))) := heap_old (heap_old (heap_new _ _) _) _
 have HE0 : Aside ((((w.alloc (boxC c (.slice a1 m1 k1) (.slice a2 m2 k2))).alloc (boxE x.k x.j x.v x.t x.c)).alloc (boxC Cl.zero nil0 nil0)).heap[w.heap.size + 1]? = some (boxE x.k x.j x.v x.t x.c)) := by
  have := heap_new (w.alloc (boxC c (.slice a1 m1 k1) (.slice a2 m2 k2))) (boxE x.k x.j x.v x.t x.c)
  rw [World.size_alloc] at this
  exact heap_old (this) _
 have HR0 : Aside ((((w.alloc (boxC c (.slice a1 m1 k1) (.slice a2 m2 k2))).alloc (boxE x.k x.j x.v x.t x.c)).alloc (boxC Cl.zero nil0 nil0)).heap[w.heap.size + 1 + 1]? = some (boxC Cl.zero nil0 nil0)) := by
  have := heap_new ((w.alloc (boxC c (.slice a1 m1 k1) (.slice a2 m2 k2))).alloc (boxE x.k x.j x.v x.t x.c)) (boxC Cl.zero nil0 nil0)
  rw [World.size_alloc, World.size_alloc] at this
  exact this
 have kc := cl_check c (.slice a1 m1 k1) (.slice a2 m2 k2) _ (bkAt_later hb HB0.out)
 have kp : ∀ W, Below w.heap.size w W → Calls Tryz.prog 205 #[.agg #[(.slice a1 m1 k1), (.slice a2 m2 k2)], x.val] W fun e w' => ∃ u1 u2, e = .returned (.tuple #[.agg #[u1, u2], .int .i64 d]) ∧ BkT w' u1 u2 (⟨c.p, c.d, c.e, c.a, c.l, (c.n + 1), J, Q⟩ : Cl) ∧ Below W.heap.size W w' := fun W hB =>
  (bk_applyT (.slice a1 m1 k1) (.slice a2 m2 k2) c.js c.rs x W (hb.1.later hB) (hb.2.later hB)).mono fun e w' ⟨u1, u2, g1, g2, g3, g4, _, g5, g6⟩ => ⟨u1, u2, by rw [g1, hA], by rw [hA] at g2 g3; exact ⟨⟨g2, g3⟩, g5, g6⟩, g4⟩
 clear hA
 rw [hck] at kc
 have HK : Aside (BkAt w (.slice a1 m1 k1) (.slice a2 m2 k2) c) := hb
 clear hb hck
 go_enter Tryz.func179, Tryz.ntmps179
 go_wp2_with fail
 refine kc.mono ?_
 rintro r w1 ⟨rfl, hb1⟩
 have HX1 : Aside _ := heap_below HX0.out hb1 (heap_lt HX0.out)
 have HE1 : Aside _ := heap_below HE0.out hb1 (heap_lt HE0.out)
 have HR1 : Aside _ := heap_below HR0.out hb1 (heap_lt HR0.out)
 have HB1 : Aside _ := step_below HB0.out hb1
 clear hb1 HB0 HX0 HE0 HR0
 clear kc
 have z := fun i => Joins.cell_of_block HX1.out i
 have ze := fun i => Joins.cell_of_block HE1.out i
 go_wp2_with fail
 refine (kp w1 HB1.out).mono ?_
 rintro r w2 ⟨u1, u2, rfl, hT2, hb2⟩
 have HX2 : Aside _ := heap_below HX1.out hb2 (heap_lt HX1.out)
 have HR2 : Aside _ := heap_below HR1.out hb2 (heap_lt HR1.out)
 have HB2 : Aside _ := step_below HB1.out hb2
 have HT2 : Aside (BkT w2 u1 u2 (⟨c.p, c.d, c.e, c.a, c.l, (c.n + 1), J, Q⟩ : Cl)) := hT2
 obtain ⟨s1, o1, s2, o2, rfl, rfl⟩ := bk_slices hT2.1.1 hT2.1.2
 clear hb2 kp HB1 HR1 HX1 hT2
 obtain ⟨n1, hn1⟩ : ∃ n, Hid (J.length = n) := ⟨_, rfl⟩
 obtain ⟨n2, hn2⟩ : ∃ n, Hid (Q.length = n) := ⟨_, rfl⟩
 rw [hn1.out, hn2.out] at HT2 ⊢
 clear z ze
 go_upto_region 7 with fail
 have HX3 : Aside ((w2.alloc (boxB (.slice s1 n1 o1) (.slice s2 n2 o2))).heap[w.heap.size]? = some (boxC c (.slice a1 m1 k1) (.slice a2 m2 k2))) := heap_old HX2.out _
 have HR3 : Aside ((w2.alloc (boxB (.slice s1 n1 o1) (.slice s2 n2 o2))).heap[w.heap.size + 1 + 1]? = some (boxC Cl.zero nil0 nil0)) := heap_old HR2.out _
 have HB3 : Aside (Below w.heap.size w (w2.alloc (boxB (.slice s1 n1 o1) (.slice s2 n2 o2)))) := grew HB2.out _
 have HT3 : Aside _ := bkT_later HT2.out (grew (Below.refl _ _) (boxB (.slice s1 n1 o1) (.slice s2 n2 o2)))
 have HK3 : Aside ((w2.alloc (boxB (.slice s1 n1 o1) (.slice s2 n2 o2))).heap[w2.heap.size]? = some (boxB (.slice s1 n1 o1) (.slice s2 n2 o2))) := heap_new _ _
 have hne : w2.heap.size ≠ w.heap.size := by have := heap_lt HX2.out; omega
 clear HX2 HR2 HB2 HT2
 generalize (w2.alloc (boxB (.slice s1 n1 o1) (.slice s2 n2 o2))) = w3 at *
 have zr := fun i => Joins.cell_of_block HR3.out i
 have fzr := fun i => Joins.unfrozen_of_block HR3.out i
 go_wp2
 refine ret_st (p := 4) (q := 5) w3 (w.heap.size + 1 + 1) (Cl.zero) nil0 nil0 (o := Cl.zero) (u1 := nil0) (u2 := nil0) Tryz.results179 rfl rfl rfl HR3.out rfl ?_
 exact ⟨rfl, st12_below HB3.out (by omega) _ _ _⟩
theorem zy_ok (c : Cl) (a1 a2 : Option Addr) (m1 k1 m2 k2 : Nat) (x : En) (w : World) (hb : BkAt w (.slice a1 m1 k1) (.slice a2 m2 k2) c) (hck : c.ck = 0) (hn : (c.n == 60) = false) (d : Int) (hd : d = 0) (J : List Jb) (Q : List Rg) (hA : app c.js c.rs x = ((J, Q), d)) (hw : IntKind.i64.wrap (c.n + 1) = c.n + 1) :
  AnsT 179 #[c.val (.slice a1 m1 k1) (.slice a2 m2 k2), x.val] w ((⟨c.p, c.d, c.e, c.a, c.l, (c.n + 1), J, Q⟩ : Cl), 0) := by
 have HB0 : Aside (Below w.heap.size w (((w.alloc (boxC c (.slice a1 m1 k1) (.slice a2 m2 k2))).alloc (boxE x.k x.j x.v x.t x.c)).alloc (boxC Cl.zero nil0 nil0))) := grew (grew (grew (Below.refl _ _) _) _) _
 have HX0 : Aside ((((w.alloc (boxC c (.slice a1 m1 k1) (.slice a2 m2 k2))).alloc (boxE x.k x.j x.v x.t x.c)).alloc (boxC Cl.zero nil0 nil0)).heap[w.heap.size]? = some (boxC c (.slice a1 m1 k1) (.slice a2 m2 k2))) := heap_old (heap_old (heap_new _ _) _) _
 have HE0 : Aside ((((w.alloc (boxC c (.slice a1 m1 k1) (.slice a2 m2 k2))).alloc (boxE x.k x.j x.v x.t x.c)).alloc (boxC Cl.zero nil0 nil0)).heap[w.heap.size + 1]? = some (boxE x.k x.j x.v x.t x.c)) := by
  have := heap_new (w.alloc (boxC c (.slice a1 m1 k1) (.slice a2 m2 k2))) (boxE x.k x.j x.v x.t x.c)
  rw [World.size_alloc] at this
  exact heap_old (this) _
 have HR0 : Aside ((((w.alloc (boxC c (.slice a1 m1 k1) (.slice a2 m2 k2))).alloc (boxE x.k x.j x.v x.t x.c)).alloc (boxC Cl.zero nil0 nil0)).heap[w.heap.size + 1 + 1]? = some (boxC Cl.zero nil0 nil0)) := by
  have := heap_new ((w.alloc (boxC c (.slice a1 m1 k1) (.slice a2 m2 k2))).alloc (boxE x.k x.j x.v x.t x.c)) (boxC Cl.zero nil0 nil0)
  rw [World.size_alloc, World.size_alloc] at this
  exact this
 have kc := cl_check c (.slice a1 m1 k1) (.slice a2 m2 k2) _ (bkAt_later hb HB0.out)
 have kp : ∀ W, Below w.heap.size w W → Calls Tryz.prog 205 #[.agg #[(.slice a1 m1 k1), (.slice a2 m2 k2)], x.val] W fun e w' => ∃ u1 u2, e = .returned (.tuple #[.agg #[u1, u2], .int .i64 d]) ∧ BkT w' u1 u2 (⟨c.p, c.d, c.e, c.a, c.l, (c.n + 1), J, Q⟩ : Cl) ∧ Below W.heap.size W w' := fun W hB =>
  (bk_applyT (.slice a1 m1 k1) (.slice a2 m2 k2) c.js c.rs x W (hb.1.later hB) (hb.2.later hB)).mono fun e w' ⟨u1, u2, g1, g2, g3, g4, _, g5, g6⟩ => ⟨u1, u2, by rw [g1, hA], by rw [hA] at g2 g3; exact ⟨⟨g2, g3⟩, g5, g6⟩, g4⟩
 clear hA
 subst hd
 rw [hck] at kc
 have HK : Aside (BkAt w (.slice a1 m1 k1) (.slice a2 m2 k2) c) := hb
 clear hb hck
 go_enter Tryz.func179, Tryz.ntmps179
 go_wp2_with fail
 refine kc.mono ?_
 rintro r w1 ⟨rfl, hb1⟩
 have HX1 : Aside _ := heap_below HX0.out hb1 (heap_lt HX0.out)
 have HE1 : Aside _ := heap_below HE0.out hb1 (heap_lt HE0.out)
 have HR1 : Aside _ := heap_below HR0.out hb1 (heap_lt HR0.out)
 have HB1 : Aside _ := step_below HB0.out hb1
 clear hb1 HB0 HX0 HE0 HR0
 clear kc
 have z := fun i => Joins.cell_of_block HX1.out i
 have ze := fun i => Joins.cell_of_block HE1.out i
 go_wp2_with fail
 refine (kp w1 HB1.out).mono ?_
 rintro r w2 ⟨u1, u2, rfl, hT2, hb2⟩
 have HX2 : Aside _ := heap_below HX1.out hb2 (heap_lt HX1.out)
 have HR2 : Aside _ := heap_below HR1.out hb2 (heap_lt HR1.out)
 have HB2 : Aside _ := step_below HB1.out hb2
 have HT2 : Aside (BkT w2 u1 u2 (⟨c.p, c.d, c.e, c.a, c.l, (c.n + 1), J, Q⟩ : Cl)) := hT2
 obtain ⟨s1, o1, s2, o2, rfl, rfl⟩ := bk_slices hT2.1.1 hT2.1.2
 clear hb2 kp HB1 HR1 HX1 hT2
 obtain ⟨n1, hn1⟩ : ∃ n, Hid (J.length = n) := ⟨_, rfl⟩
 obtain ⟨n2, hn2⟩ : ∃ n, Hid (Q.length = n) := ⟨_, rfl⟩
 rw [hn1.out, hn2.out] at HT2 ⊢
 clear z ze
 go_upto_region 7 with fail
 have HX3 : Aside ((w2.alloc (boxB (.slice s1 n1 o1) (.slice s2 n2 o2))).heap[w.heap.size]? = some (boxC c (.slice a1 m1 k1) (.slice a2 m2 k2))) := heap_old HX2.out _
 have HR3 : Aside ((w2.alloc (boxB (.slice s1 n1 o1) (.slice s2 n2 o2))).heap[w.heap.size + 1 + 1]? = some (boxC Cl.zero nil0 nil0)) := heap_old HR2.out _
 have HB3 : Aside (Below w.heap.size w (w2.alloc (boxB (.slice s1 n1 o1) (.slice s2 n2 o2)))) := grew HB2.out _
 have HT3 : Aside _ := bkT_later HT2.out (grew (Below.refl _ _) (boxB (.slice s1 n1 o1) (.slice s2 n2 o2)))
 have HK3 : Aside ((w2.alloc (boxB (.slice s1 n1 o1) (.slice s2 n2 o2))).heap[w2.heap.size]? = some (boxB (.slice s1 n1 o1) (.slice s2 n2 o2))) := heap_new _ _
 have hne : w2.heap.size ≠ w.heap.size := by have := heap_lt HX2.out; omega
 clear HX2 HR2 HB2 HT2
 generalize (w2.alloc (boxB (.slice s1 n1 o1) (.slice s2 n2 o2))) = w3 at *
 have z := fun i => Joins.cell_of_block HX3.out i
 have fz := fun i => Joins.unfrozen_of_block HX3.out i
 have zb := fun i => Joins.cell_of_block HK3.out i
 go_upto_region 11 with fail
 clear z fz zb
 have HT4 : Aside _ := (bkT_both (bkT_both (bkT_both ⟨isC_of HX3.out, HT3.out⟩ 10 (.slice s1 n1 o1)) 11 (.slice s2 n2 o2)) 9 (.int .i64 (c.n + 1))).2
 have g0 := Joins.block_setCell HX3.out (i := 10) (.slice s1 n1 o1)
 have g1 := Joins.block_setCell g0 (i := 11) (.slice s2 n2 o2)
 have g2 := Joins.block_setCell g1 (i := 9) (.int .i64 (c.n + 1))
 simp only [List.setIfInBounds_toArray, List.set_cons_zero, List.set_cons_succ] at g2
 have hrs : w.heap.size + 1 + 1 ≠ w.heap.size := by omega
 have HX4 : Aside ((((w3.setCell ⟨w.heap.size, 10, none⟩ (.slice s1 n1 o1)).setCell ⟨w.heap.size, 11, none⟩ (.slice s2 n2 o2)).setCell ⟨w.heap.size, 9, none⟩ (.int .i64 (c.n + 1))).heap[w.heap.size]? = some (boxC (⟨c.p, c.d, c.e, c.a, c.l, (c.n + 1), J, Q⟩ : Cl) (.slice s1 n1 o1) (.slice s2 n2 o2))) := g2
 have HR4 : Aside ((((w3.setCell ⟨w.heap.size, 10, none⟩ (.slice s1 n1 o1)).setCell ⟨w.heap.size, 11, none⟩ (.slice s2 n2 o2)).setCell ⟨w.heap.size, 9, none⟩ (.int .i64 (c.n + 1))).heap[w.heap.size + 1 + 1]? = some (boxC Cl.zero nil0 nil0)) := by
  rw [Aside, Below.heap_setCell _ _ _ _ (by exact hrs), Below.heap_setCell _ _ _ _ (by exact hrs), Below.heap_setCell _ _ _ _ (by exact hrs)]
  exact HR3.out
 have HB4 : Aside (Below w.heap.size w (((w3.setCell ⟨w.heap.size, 10, none⟩ (.slice s1 n1 o1)).setCell ⟨w.heap.size, 11, none⟩ (.slice s2 n2 o2)).setCell ⟨w.heap.size, 9, none⟩ (.int .i64 (c.n + 1)))) := (((HB3.out).setCell (p := ⟨w.heap.size, 10, none⟩) (Nat.le_refl _) _).setCell (p := ⟨w.heap.size, 11, none⟩) (Nat.le_refl _) _).setCell (p := ⟨w.heap.size, 9, none⟩) (Nat.le_refl _) _
 clear g0 g1 g2 HX3 HR3 HB3
 clear HT3
 generalize (((w3.setCell ⟨w.heap.size, 10, none⟩ (.slice s1 n1 o1)).setCell ⟨w.heap.size, 11, none⟩ (.slice s2 n2 o2)).setCell ⟨w.heap.size, 9, none⟩ (.int .i64 (c.n + 1))) = w4 at *
 have z := fun i => Joins.cell_of_block HX4.out i
 have zr := fun i => Joins.cell_of_block HR4.out i
 have fzr := fun i => Joins.unfrozen_of_block HR4.out i
 go_wp2
 refine ret_st (p := 4) (q := 5) w4 (w.heap.size + 1 + 1) ((⟨c.p, c.d, c.e, c.a, c.l, (c.n + 1), J, Q⟩ : Cl)) (.slice s1 n1 o1) (.slice s2 n2 o2) (o := Cl.zero) (u1 := nil0) (u2 := nil0) Tryz.results179 rfl rfl rfl HR4.out rfl ?_
 exact ⟨(.slice s1 n1 o1), (.slice s2 n2 o2), rfl, bkT_st12 ⟨_, HR4.out⟩ HT4.out _ _ _, st12_below HB4.out (by omega) _ _ _⟩
theorem cl_play (c : Cl) (x : En) (v1 v2 : Value) (w : World) (hb : BkAt w v1 v2 c) : AnsT 179 #[c.val v1 v2, x.val] w (playOf c x) := by
 obtain ⟨a1, k1, a2, k2, rfl, rfl⟩ := bk_slices hb.1 hb.2
 unfold playOf
 by_cases hc : c.ck = 0
 · rw [if_neg (by simpa using hc)]
  by_cases hn : c.n = 60
  · rw [if_pos hn]
   exact ansT_zero <| zy_full c a1 a2 _ k1 _ k2 x w hb hc (by rw [hn]; rfl)
  · have hnb : (c.n == 60) = false := by rw [beq_eq_false_iff_ne]; exact hn
   rw [if_neg hn]
   by_cases hd : (app c.js c.rs x).2 = 0
   · rw [if_neg (by simpa using hd)]
    have hg := (Cl.good (Cl.ck_zero.1 hc).1).2.2.2.2
    exact zy_ok c a1 a2 _ k1 _ k2 x w hb hc hnb _ hd _ _ rfl (by rw [IntKind.wrap_i64]; omega)
   · rw [if_pos hd]
    exact ansT_zero <| zy_app c a1 a2 _ k1 _ k2 x w hb hc hnb _ _ _ rfl (by rw [bne_iff_ne]; exact hd)
 · rw [if_pos hc]
  exact ansT_zero <| zy_ck c a1 a2 _ k1 _ k2 x w hb _ rfl (by rw [bne_iff_ne]; exact hc)
theorem into_few (x : Jb) : ∀ l : List Jb, (into x l).length = l.length + 1
 | [] => rfl
 | y :: s => by rw [into]; split <;> simp [into_few x s]
theorem dueOf_few (t : Int) : ∀ js : List Jb, (dueOf js t).length ≤ js.length
 | [] => by simp [dueOf]
 | x :: r => by
  have ih := dueOf_few t r
  rw [dueOf]
  split
  · rw [into_few]; simp; omega
  · simp; omega
theorem due_find {js : List Jb} {rs : List Rg} (hok : Ok js rs) (t j : Int) :
  (idx (fun y => y.i == j) (dueOf js t) = -1 ∧ ∀ z, tab js j = some z → t < z.n) ∨
   ∃ (k : Nat) (z : Jb), idx (fun y => y.i == j) (dueOf js t) = (k : Nat) ∧ k < (dueOf js t).length ∧ (dueOf js t)[k]? = some z ∧ tab js j = some z ∧ z.n ≤ t ∧ z.i = j ∧ z ∈ js := by
 rcases idx_ways (fun y : Jb => y.i == j) (dueOf js t) with ⟨h, hall⟩ | ⟨k, z, h, hk, hz, hp, _⟩
 · refine Or.inl ⟨h, fun z hz => ?_⟩
  have hid := tab_id hz
  by_cases hn : z.n ≤ t
  · have := hall z ((dueOf_mem t z js).2 ⟨hid.2, hn⟩)
   rw [hid.1] at this
   simp at this
  · omega
 · have hm := (dueOf_mem t z js).1 (List.mem_of_getElem? hz)
  have hi : z.i = j := by simpa using hp
  refine Or.inr ⟨k, z, h, hk, hz, ?_, hm.2, hi, hm.1⟩
  rw [← hi]
  exact tab_mem hok.srt z hm.1
theorem ring_pred (id : Int) (B : Nat) (w : World) (hB : B < w.heap.size) (hc : w.cell? ⟨B, 0, none⟩ = some (.int .i64 id)) (W : World) (x : Jb) (hb : Below w.heap.size w W) :
  Calls Tryz.prog 176 (#[x.val] ++ #[.pointer (some ⟨B, 0, none⟩)]) W fun e w' => e = .returned (.bool (x.i == id)) ∧ Below w.heap.size w w' := by
 have hc' : W.cell? ⟨B, 0, none⟩ = some (.int .i64 id) := (hb.cell (p := ⟨B, 0, none⟩) hB).trans hc
 have hBW : B < W.heap.size := Nat.lt_of_lt_of_le hB hb.size
 have hne : B ≠ W.heap.size := by omega
 show Calls Tryz.prog 176 #[x.val, .pointer (some ⟨B, 0, none⟩)] W _
 go_enter Tryz.func176, Tryz.ntmps176
 go_wp2
 all_goals (go_ret; exact ⟨by simp_all, hb.alloc hb.size _⟩)
theorem row_append : ∀ {a b : List Jb}, Row a → Row b → (∀ x, x ∈ a → ∀ y, y ∈ b → x.ahead y) → Row (a ++ b)
 | [], _, _, hb, _ => hb
 | x :: r, b, ha, hb, h => ⟨fun y hy => by
   rcases List.mem_append.1 hy with hy | hy
   · exact ha.1 y hy
   · exact h x (by simp) y hy, row_append ha.2 hb (fun z hz => h z (List.mem_cons_of_mem _ hz))⟩
def dueErr (js : List Jb) (rs : List Rg) (t : Int) : Int := if ckBook js rs ≠ 0 then ckBook js rs else if t < 0 ∨ 100000 < t then 3 else 0
def cJ : List Jb := [⟨1, 7, 3⟩, ⟨2, 5, 2⟩, ⟨4, 1, 12⟩]
section
open Go.Shelf
structure Ins (xs : List Jb) (A : List Jb) (x : Jb) (B R : List Jb) : Prop where
 row : Row (A ++ B)
 ahead : ∀ y, y ∈ B → x.ahead y
 all : ∀ z, z ∈ A ++ x :: (B ++ R) ↔ z ∈ xs
 len : (A ++ x :: (B ++ R)).length = xs.length
 apart : (A ++ x :: (B ++ R)).Pairwise (fun y z => y.i ≠ z.i)
theorem Row.left {a b : List Jb} : Row (a ++ b) → Row a := by
 intro h
 induction a with
 | nil => trivial
 | cons x r ih => exact ⟨fun y hy => h.1 y (List.mem_append_left _ hy), ih h.2⟩
theorem Row.mid : ∀ {a b : List Jb}, Row (a ++ b) → ∀ x, x ∈ a → ∀ y, y ∈ b → x.ahead y
 | [], _, _, x, hx, _, _ => by cases hx
 | z :: r, b, h, x, hx, y, hy => by
  rcases List.mem_cons.1 hx with rfl | hx
  · exact h.1 y (List.mem_append_right _ hy)
  · exact Row.mid (a := r) h.2 x hx y hy
theorem row_right : ∀ {a b : List Jb}, Row (a ++ b) → Row b
 | [], _, h => h
 | _ :: r, _, h => row_right (a := r) h.2
theorem ahead_trans {x y z : Jb} (h1 : x.ahead y) (h2 : y.ahead z) : x.ahead z := by
 unfold Jb.ahead at *
 omega
theorem ahead_total {x y : Jb} (h : x.i ≠ y.i) : ¬ x.ahead y → y.ahead x := by
 unfold Jb.ahead
 omega
theorem Ins.step {xs A B R : List Jb} {x y : Jb} (h : Ins xs (A ++ [y]) x B R) (hxy : x.ahead y) : Ins xs A x (y :: B) R := by
 have e : (A ++ [y]) ++ x :: (B ++ R) = A ++ ([y] ++ x :: (B ++ R)) := by simp
 refine ⟨by simpa using h.row, fun z hz => ?_, fun z => ?_, ?_, ?_⟩
 · rcases List.mem_cons.1 hz with rfl | hz
  · exact hxy
  · exact h.ahead z hz
 · rw [← h.all z]
  simp only [List.mem_append, List.mem_cons, List.not_mem_nil, or_false]
  constructor
  · rintro (h1 | h1 | (h1 | h1) | h1)
   · exact Or.inl (Or.inl h1)
   · exact Or.inr (Or.inl h1)
   · exact Or.inl (Or.inr h1)
   · exact Or.inr (Or.inr (Or.inl h1))
   · exact Or.inr (Or.inr (Or.inr h1))
  · rintro ((h1 | h1) | h1 | h1 | h1)
   · exact Or.inl h1
   · exact Or.inr (Or.inr (Or.inl (Or.inl h1)))
   · exact Or.inr (Or.inl h1)
   · exact Or.inr (Or.inr (Or.inl (Or.inr h1)))
   · exact Or.inr (Or.inr (Or.inr h1))
 · have := h.len
  simp at this ⊢
  omega
 · have hp : (A ++ x :: (y :: B ++ R)).Perm ((A ++ [y]) ++ x :: (B ++ R)) := by
   rw [List.append_assoc]
   refine List.Perm.append_left A ?_
   exact List.Perm.swap y x (B ++ R)
  exact hp.symm.pairwise h.apart (fun h => Ne.symm h)
theorem Ins.atFront {xs B R : List Jb} {x : Jb} (h : Ins xs [] x B R) : Row (x :: B) := ⟨h.ahead, h.row⟩
theorem Ins.placed {xs A B R : List Jb} {x y : Jb} (h : Ins xs (A ++ [y]) x B R) (hxy : ¬ x.ahead y) : Row ((A ++ [y]) ++ x :: B) := by
 have hy : y.ahead x := by
  refine ahead_total ?_ hxy
  have := h.apart
  rw [List.pairwise_append] at this
  exact fun e => this.2.2 y (by simp) x (by simp) e.symm
 refine row_append (Row.left h.row) ⟨h.ahead, ?_⟩ (fun u hu v hv => ?_)
 · have := h.row
  have := row_right this
  exact this
 · have hux : u.ahead x := by
   rcases List.mem_append.1 hu with hu | hu
   · have : Row (A ++ [y]) := Row.left h.row
    exact ahead_trans (Row.mid this u hu y (by simp)) hy
   · obtain rfl : u = y := by simpa using hu
    exact hy
  rcases List.mem_cons.1 hv with rfl | hv
  · exact hux
  · exact Row.mid h.row u hu v hv
theorem Ins.next {xs P R : List Jb} {x : Jb} (hr : Row P) (hall : ∀ z, z ∈ P ++ x :: R ↔ z ∈ xs) (hlen : (P ++ x :: R).length = xs.length) (hap : (P ++ x :: R).Pairwise (fun y z => y.i ≠ z.i)) : Ins xs P x [] R :=
 ⟨by simpa using hr, (fun y hy => by cases hy), by simpa using hall, by simpa using hlen, by simpa using hap⟩
end
section
open Go.Shelf
abbrev SwS (w : World) (gb off j : Nat) (x y : Jb) : Prop :=
 (w.cell? ⟨gb, off + (j + 1) * 3, none⟩ = some (.int .i64 x.i) ∧ w.cell? ⟨gb, off + (j + 1) * 3 + 1, none⟩ = some (.int .i64 x.e) ∧ w.cell? ⟨gb, off + (j + 1) * 3 + 2, none⟩ = some (.int .i64 x.n)) ∧
 w.cell? ⟨gb, off + j * 3, none⟩ = some (.int .i64 y.i) ∧ w.cell? ⟨gb, off + j * 3 + 1, none⟩ = some (.int .i64 y.e) ∧ w.cell? ⟨gb, off + j * 3 + 2, none⟩ = some (.int .i64 y.n)
theorem splice_tailJ {L tl cs : List Value} {o : Nat} (h : o + cs.length ≤ L.length) : splice (L ++ tl) o cs = splice L o cs ++ tl := by
 unfold splice
 rw [List.take_append_of_le_length (by omega), List.drop_append_of_le_length (by omega)]
 simp
theorem swS_of {w : World} {gb : Nat} {A B : List Jb} {x y : Jb} {tl : List Value} (h : w.heap[gb]? = some (.cells ((A ++ y :: x :: B).flatMap Jb.cells ++ tl).toArray 120)) : SwS w gb 0 A.length x y := by
 have hr : RowAt Jb.cells 3 w gb 0 (A ++ y :: x :: B) := rowAt_block Jb.three h ⟨tl, rfl⟩
 have e1 : (A ++ y :: x :: B)[A.length]? = some y := by simp
 have e2 : (A ++ y :: x :: B)[A.length + 1]? = some x := by rw [List.getElem?_append_right (by omega)]; simp
 exact ⟨⟨hr _ x e2 0 _ rfl, hr _ x e2 1 _ rfl, hr _ x e2 2 _ rfl⟩, hr _ y e1 0 _ rfl, hr _ y e1 1 _ rfl, hr _ y e1 2 _ rfl⟩
theorem swS_later {w w' : World} {gb off j : Nat} {x y : Jb} (h : SwS w gb off j x y) (hb : Below w.heap.size w w') : SwS w' gb off j x y :=
 ⟨⟨cell_later hb h.1.1, cell_later hb h.1.2.1, cell_later hb h.1.2.2⟩, cell_later hb h.2.1, cell_later hb h.2.2.1, cell_later hb h.2.2.2⟩
theorem isort (g : Nat) (lb : Array Value) (eg : ∀ args w, (callFunc g args).run Tryz.prog w = .ok (.enter g args) w) (gb c n : Nat) (xs : List Jb) (tl : List Value) (w : World) (hl : xs.length = n) (hn : n ≤ 12) (hap : xs.Pairwise (fun y z => y.i ≠ z.i))
  (hg : w.heap[gb]? = some (.cells (xs.flatMap Jb.cells ++ tl).toArray 120))
  (hp : ∀ (W : World) (x y : Jb), x ∈ xs → y ∈ xs → Calls Tryz.prog g (#[x.val, y.val] ++ lb) W fun e w' => ∃ q : Int, e = .returned (.int .i64 q) ∧ (q < 0 ↔ x.ahead y) ∧ Below W.heap.size W w') :
  Calls Tryz.prog 253 #[.slice (some ⟨gb, 0, none⟩) n c, .int .i64 0, .int .i64 n, .func (.func g) #[] lb] w fun e w' => e = .returned (.tuple #[]) ∧ ∃ ys, Row ys ∧ (∀ z, z ∈ ys ↔ z ∈ xs) ∧ ys.length = n ∧ w'.heap[gb]? = some (.cells (ys.flatMap Jb.cells ++ tl).toArray 120) ∧ Kept [gb] w w' := by
 have HP : Aside _ := hp
 have HG : Aside _ := hg
 have HF : Hid (xs.length = n ∧ xs.Pairwise (fun y z => y.i ≠ z.i)) := ⟨hl, hap⟩
 clear hp hg hl hap
 obtain ⟨off, hoff⟩ : ∃ off : Nat, Hid (0 = off) := ⟨_, rfl⟩
 rw [hoff.out]
 go_enter Tryz.func253, Tryz.ntmps253
 go_wp2
 go_loopg [8, 9] (n + 1) (fun gg s8 _ wr => ∃ (i : Nat) (ys : List Jb), s8 = .int .i64 i ∧ 1 ≤ i ∧ i ≤ n + 1 ∧ n + 1 - i ≤ gg ∧ Aside (wr.heap[gb]? = some (.cells (ys.flatMap Jb.cells ++ tl).toArray 120)) ∧ Aside (Kept [gb] w wr) ∧ Aside (Row (ys.take i) ∧ ys.length = n ∧ (∀ z, z ∈ ys ↔ z ∈ xs) ∧ ys.Pairwise (fun y z => y.i ≠ z.i)))
 case atStart =>
  refine ⟨1, xs, by go_num, Nat.le_refl _, by omega, by omega, HG.out, Kept.refl _ _, ⟨?_, HF.out.1, fun _ => Iff.rfl, HF.out.2⟩⟩
  cases xs with
  | nil => trivial
  | cons x r => exact ⟨fun y hy => by simp at hy, by simp [Row]⟩
 case round =>
  obtain ⟨i, ys, rfl, hi1, hi2, hgg, G, KK, Y⟩ := hrel
  by_cases hlt : i < n
  · obtain ⟨x, hx⟩ : ∃ x, ys[i]? = some x := ⟨ys[i]'(by have := Y.out.2.1; omega), List.getElem?_eq_getElem _⟩
   have e : ys = ys.take i ++ x :: ys.drop (i + 1) := by rw [← drop_at hx, List.take_append_drop]
   have I0 : Aside (Ins xs (ys.take i) x [] (ys.drop (i + 1))) := by
    refine Ins.next Y.out.1 ?_ ?_ ?_
    · rw [← e]; exact Y.out.2.2.1
    · rw [← e, Y.out.2.1, HF.out.1]
    · rw [← e]; exact Y.out.2.2.2
   have hti : (ys.take i).length = i := by rw [List.length_take]; have := Y.out.2.1; omega
   have G0 : Aside (wr.heap[gb]? = some (.cells ((ys.take i ++ x :: ([] ++ ys.drop (i + 1))).flatMap Jb.cells ++ tl).toArray 120)) := by
    rw [List.nil_append, ← e]; exact G.out
   generalize ys.take i = A0 at *
   generalize ys.drop (i + 1) = R0 at *
   clear G Y e hx
   go_wp2_with fail
   go_loopg [9] i (fun gg' s9 wi => ∃ (j : Nat) (A B : List Jb), s9 = .int .i64 j ∧ j ≤ i ∧ j ≤ gg' ∧ A.length = j ∧ Aside (Ins xs A x B R0) ∧ Aside (B.length + j = i) ∧ Aside (wi.heap[gb]? = some (.cells ((A ++ x :: (B ++ R0)).flatMap Jb.cells ++ tl).toArray 120)) ∧ Aside (Kept [gb] w wi))
   case atStart => exact ⟨i, A0, [], rfl, Nat.le_refl _, Nat.le_refl _, hti, I0, (show Aside _ from by simp [Aside]), G0, KK⟩
   case round =>
    obtain ⟨j, A, B, rfl, hji, hgj, hAl, I, hBl, GA, KA⟩ := hrel
    have HX : Hid (∀ W' gg0, Below wr.heap.size wr W' → i + 1 ≤ n + 1 → n + 1 - (i + 1) ≤ gg0 → Row (A ++ x :: B) → ∃ (i' : Nat) (ys : List Jb), Value.int .i64 ((i : Int) + 1) = .int .i64 i' ∧ 1 ≤ i' ∧ i' ≤ n + 1 ∧ n + 1 - i' ≤ gg0 ∧ Aside (W'.heap[gb]? = some (.cells (ys.flatMap Jb.cells ++ tl).toArray 120)) ∧ Aside (Kept [gb] w W') ∧ Aside (Row (ys.take i') ∧ ys.length = n ∧ (∀ z, z ∈ ys ↔ z ∈ xs) ∧ ys.Pairwise (fun y z => y.i ≠ z.i))) := fun W' gg0 q0 q1 q2 q3 => by
     refine ⟨i + 1, A ++ x :: (B ++ R0), by go_num, by omega, q1, q2, heap_below GA.out q0 (heap_lt GA.out), KA.out.below q0, ⟨?_, by rw [I.out.len]; exact HF.out.1, I.out.all, I.out.apart⟩⟩
     have e1 : A ++ x :: (B ++ R0) = (A ++ x :: B) ++ R0 := by simp
     have e2 : (A ++ x :: B).length = i + 1 := by have := hBl.out; rw [List.length_append, List.length_cons, hAl]; omega
     rw [e1, List.take_append_of_le_length (by omega), List.take_of_length_le (by omega)]
     exact q3
    cases j with
    | zero =>
     have hA : A = [] := List.length_eq_zero_iff.1 hAl
     have HR : Hid (Row (A ++ x :: B)) := by rw [Hid, hA]; have := I.out; rw [hA] at this; exact this.atFront
     clear I GA hBl hAl
     go_wp2_with fail
     go_quiet (fail)
     go_wp2
     go_roundg (n + 1 - (i + 1))
     case measure => omega
     case rel => exact HX.out _ _ (below_drewN (Below.refl _ _) _) (by omega) (Nat.le_refl _) HR.out
    | succ j =>
     obtain ⟨A', y, rfl⟩ : ∃ A' y, A = A' ++ [y] := by
      have hne : A ≠ [] := fun h => by rw [h] at hAl; simp at hAl
      exact ⟨A.dropLast, A.getLast hne, (List.dropLast_concat_getLast hne).symm⟩
     have hA' : A'.length = j := by simpa using hAl
     have GB : wr.heap[gb]? = some (.cells ((A' ++ y :: x :: (B ++ R0)).flatMap Jb.cells ++ tl).toArray 120) := by
      have := GA.out
      rw [List.append_assoc] at this
      exact this
     have hS0 : SwS wr gb off j x y := by have := swS_of GB; rwa [hA', hoff.out] at this
     have hbd : Below wr.heap.size wr wr.drew := (Below.refl _ _).drew
     have hcall := fun W => HP.out W x y ((I.out.all x).1 (by simp)) ((I.out.all y).1 (by simp))
     have jn1 : (0 : Int) ≤ (j : Int) + 1 := by omega
     have jn2 : (j : Int) + 1 < (n : Int) := by omega
     have jn3 : (j : Int) < (n : Int) := by omega
     have jn4 : (0 : Int) < (j : Int) + 1 := by omega
     have jn0 : (0 : Int) ≤ (j : Int) := by omega
     have jw3 : IntKind.i64.wrap (j : Int) = (j : Int) := by rw [IntKind.wrap_i64]; omega
     have jn5 : j < n := by omega
     have jn6 : j + 1 < n := by omega
     have jd : decide ((0 : Int) < (j : Int) + 1) = true := by rw [decide_eq_true_eq]; exact jn4
     go_wp2_with fail
     go_region_held3 (fun w' => (Below wr.heap.size wr w' ∧ SwS w' gb off j x y)) (first | exact ⟨(Below.refl _ _).drew, swS_later hS0 hbd⟩ | exact ⟨(Below.refl _ _).drew.trans (by assumption), swS_later (swS_later hS0 hbd) (by assumption)⟩) (first | (refine (hcall _).mono ?_; rintro e w1 ⟨q, rfl, hq, hb1⟩))
     rename_i hS
     have hb01 : Below wr.heap.size wr w1 := hS.1
     have hS0 : SwS w1 gb off j x y := hS.2
     clear hS hb1
     by_cases hxy : x.ahead y
     · have hq0 : q < 0 := hq.2 hxy
      have G1 := heap_below GB hb01 (heap_lt GB)
      have f1 := fun i => Joins.unfrozen_of_block G1 i
      have I1 : Aside (Ins xs A' x (y :: B) R0) := I.out.step hxy
      have hB1 : Aside ((y :: B).length + j = i) := by have := hBl.out; rw [Aside, List.length_cons]; omega
      have hL1' : off + (j + 1) * 3 + 2 < ((A' ++ y :: x :: (B ++ R0)).flatMap Jb.cells).length := by
       rw [row_len Jb.three, ← hoff.out]; simp; omega
      have hL1 : off + (j + 1) * 3 + 2 < ((A' ++ y :: x :: (B ++ R0)).flatMap Jb.cells ++ tl).length := by rw [List.length_append]; omega
      have G2 := block_three G1 (.int .i64 y.i) (.int .i64 y.e) (.int .i64 y.n) hL1
      have hs1 : splice ((A' ++ y :: x :: (B ++ R0)).flatMap Jb.cells) (off + (j + 1) * 3) [.int .i64 y.i, .int .i64 y.e, .int .i64 y.n] = (A' ++ y :: y :: (B ++ R0)).flatMap Jb.cells := by
       have := splice_flat Jb.three (A' ++ [y]) (B ++ R0) x y
       rw [List.length_append, hA', List.append_assoc, List.append_assoc] at this
       rw [← hoff.out, Nat.zero_add]
       exact this
      rw [splice_tailJ (by show _ + 3 ≤ _; omega), hs1] at G2
      have hL2' : off + j * 3 + 2 < ((A' ++ y :: y :: (B ++ R0)).flatMap Jb.cells).length := by
       rw [row_len Jb.three, ← hoff.out]; simp; omega
      have hL2 : off + j * 3 + 2 < ((A' ++ y :: y :: (B ++ R0)).flatMap Jb.cells ++ tl).length := by rw [List.length_append]; omega
      have G3 := block_three G2 (.int .i64 x.i) (.int .i64 x.e) (.int .i64 x.n) hL2
      have hs2 : splice ((A' ++ y :: y :: (B ++ R0)).flatMap Jb.cells) (off + j * 3) [.int .i64 x.i, .int .i64 x.e, .int .i64 x.n] = (A' ++ x :: (y :: B ++ R0)).flatMap Jb.cells := by
       have := splice_flat Jb.three A' (y :: (B ++ R0)) y x
       rw [hA'] at this
       rw [← hoff.out, Nat.zero_add]
       exact this
      rw [splice_tailJ (by show _ + 3 ≤ _; omega), hs2] at G3
      have K3 := (((((KA.out.below hb01).setCell (g := gb) (o := off + (j + 1) * 3) (by simp) (.int .i64 y.i)).setCell (g := gb) (o := off + (j + 1) * 3 + 1) (by simp) (.int .i64 y.e)).setCell (g := gb) (o := off + (j + 1) * 3 + 2) (by simp) (.int .i64 y.n)).setCell (g := gb) (o := off + j * 3) (by simp) (.int .i64 x.i)).setCell (g := gb) (o := off + j * 3 + 1) (by simp) (.int .i64 x.e) |>.setCell (g := gb) (o := off + j * 3 + 2) (by simp) (.int .i64 x.n)
      replace G3 : Aside _ := G3
      replace K3 : Aside _ := K3
      clear HX I hBl GA KA GB G1 G2 hs1 hs2 hL1 hL2 hL1' hL2' hxy hq hb01 hbd hcall HP
      rw [show decide (q < 0) = true from decide_eq_true hq0]
      clear hq0
      go_upto_region 6 with fail
      refine wp_region_noPanic ?_
      refine region_L (fun w' => SwS w' gb off j x y) 15 (by kernel_rfl) (hS0) (fun hHeld => ?_)
      refine tl 0 (v := ?_) rfl (by kernel_rfl) (by rfl) (by assumption) (fun _ _ _ h => h) ?_ ?_
      rotate_left
      · (intro w0 hSw; (try dsimp only at hSw); go_simp; first | done | with_reducible rfl)
      try simp only [Act.put, qa, qb, qc]
      refine tl 1 (v := ?_) rfl (by kernel_rfl) (by rfl) (by assumption) (fun _ _ _ h => h) ?_ ?_
      rotate_left
      · (intro w0 hSw; (try dsimp only at hSw); go_simp; first | done | with_reducible rfl)
      try simp only [Act.put, qa, qb, qc]
      refine anyL_free (i := 2) (v := ?_) rfl (by kernel_rfl) (by kernel_rfl) (by kernel_rfl) (by kernel_rfl) (fun _ _ _ h => h) (Or.inl ⟨by rfl, ?_⟩) (by assumption) ?_
      rotate_left
      · (intro w0 _; go_simp; first | done | with_reducible rfl)
      try simp only [Act.put, qa, qb, qc]
      refine anyL_free (i := 3) (v := ?_) rfl (by kernel_rfl) (by kernel_rfl) (by kernel_rfl) (by kernel_rfl) (fun _ _ _ h => h) (Or.inl ⟨by rfl, ?_⟩) (by assumption) ?_
      rotate_left
      · (intro w0 _; go_simp; first | done | with_reducible rfl)
      try simp only [Act.put, qa, qb, qc]
      refine anyL_free (i := 4) (v := ?_) rfl (by kernel_rfl) (by kernel_rfl) (by kernel_rfl) (by kernel_rfl) (fun _ _ _ h => h) (Or.inl ⟨by rfl, ?_⟩) (by assumption) ?_
      rotate_left
      · (intro w0 _; go_simp; first | done | with_reducible rfl)
      try simp only [Act.put, qa, qb, qc]
      refine tl 5 (v := ?_) rfl (by kernel_rfl) (by rfl) (by assumption) (fun _ _ _ h => h) ?_ ?_
      rotate_left
      · (intro w0 hSw; (try dsimp only at hSw); go_simp; first | done | with_reducible rfl)
      try simp only [Act.put, qa, qb, qc]
      refine tl 6 (v := ?_) rfl (by kernel_rfl) (by rfl) (by assumption) (fun _ _ _ h => h) ?_ ?_
      rotate_left
      · (intro w0 hSw; (try dsimp only at hSw); go_simp; first | done | with_reducible rfl)
      try simp only [Act.put, qa, qb, qc]
      refine tl 7 (v := ?_) rfl (by kernel_rfl) (by rfl) (by assumption) (fun _ _ _ h => h) ?_ ?_
      rotate_left
      · (intro w0 hSw; (try dsimp only at hSw); go_simp; first | done | with_reducible rfl)
      try simp only [Act.put, qa, qb, qc]
      refine tl 8 (v := ?_) rfl (by kernel_rfl) (by rfl) (by assumption) (fun _ _ _ h => h) ?_ ?_
      rotate_left
      · (intro w0 hSw; (try dsimp only at hSw); go_simp; first | done | with_reducible rfl)
      try simp only [Act.put, qa, qb, qc]
      refine tl 9 (v := ?_) rfl (by kernel_rfl) (by rfl) (by assumption) (fun _ _ _ h => h) ?_ ?_
      rotate_left
      · (intro w0 hSw; (try dsimp only at hSw); go_simp; first | done | with_reducible rfl)
      try simp only [Act.put, qa, qb, qc]
      refine anyL_free (i := 10) (v := ?_) rfl (by kernel_rfl) (by kernel_rfl) (by kernel_rfl) (by kernel_rfl) (fun _ _ _ h => h) (Or.inl ⟨by rfl, ?_⟩) (by assumption) ?_
      rotate_left
      · (intro w0 _; go_simp; first | done | with_reducible rfl)
      try simp only [Act.put, qa, qb, qc]
      refine anyL_free (i := 11) (v := ?_) rfl (by kernel_rfl) (by kernel_rfl) (by kernel_rfl) (by kernel_rfl) (fun _ _ _ h => h) (Or.inl ⟨by rfl, ?_⟩) (by assumption) ?_
      rotate_left
      · (intro w0 _; go_simp; first | done | with_reducible rfl)
      try simp only [Act.put, qa, qb, qc]
      refine anyL_free (i := 12) (v := ?_) rfl (by kernel_rfl) (by kernel_rfl) (by kernel_rfl) (by kernel_rfl) (fun _ _ _ h => h) (Or.inl ⟨by rfl, ?_⟩) (by assumption) ?_
      rotate_left
      · (intro w0 _; go_simp; first | done | with_reducible rfl)
      try simp only [Act.put, qa, qb, qc]
      refine tl 13 (v := ?_) rfl (by kernel_rfl) (by rfl) (by assumption) (fun _ _ _ h => h) ?_ ?_
      rotate_left
      · (intro w0 hSw; (try dsimp only at hSw); go_simp; first | done | with_reducible rfl)
      try simp only [Act.put, qa, qb, qc]
      refine tl 14 (v := ?_) rfl (by kernel_rfl) (by rfl) (by assumption) (fun _ _ _ h => h) ?_ ?_
      rotate_left
      · (intro w0 hSw; (try dsimp only at hSw); go_simp; first | done | with_reducible rfl)
      try simp only [Act.put, qa, qb, qc]
      refine anyL_one (i := 15) (by kernel_rfl) rfl (fun K hK => ?_)
      go_simp
      refine hK.out _ _ (fun h => absurd h (by decide +kernel)) (fun _ => ?_)
      clear hK K
      try simp only [Act.put, qa, qb, qc]
      refine anyL_one (i := 16) (by kernel_rfl) rfl (fun K hK => ?_)
      go_simp
      refine hK.out _ _ (fun h => absurd h (by decide +kernel)) (fun _ => ?_)
      clear hK K
      try simp only [Act.put, qa, qb, qc]
      refine anyL_one (i := 17) (by kernel_rfl) rfl (fun K hK => ?_)
      go_simp
      refine hK.out _ _ (fun h => absurd h (by decide +kernel)) (fun _ => ?_)
      clear hK K
      try simp only [Act.put, qa, qb, qc]
      refine anyL_done (by kernel_rfl) ?_ _
      refine NoPanic.normal ?_
      try simp only [Act.put, qa, qb, qc]
      go_wp2
      go_roundg j
      case measure => omega
      case rel => exact ⟨j, A', y :: B, by go_num, by omega, Nat.le_refl _, hA', I1, hB1, heap_below G3.out (Below.refl _ _).drew (heap_lt G3.out), K3.out.below (Below.refl _ _).drew⟩
     · have hq0 : ¬ q < 0 := fun h => hxy (hq.1 h)
      have HR : Hid (Row ((A' ++ [y]) ++ x :: B)) := I.out.placed hxy
      clear I hBl GA KA GB hcall HP hS0 hbd
      rw [show decide (q < 0) = false from decide_eq_false hq0]
      clear hq0
      go_wp2
      go_roundg (n + 1 - (i + 1))
      case measure => omega
      case rel => exact HX.out _ _ hb01 (by omega) (Nat.le_refl _) HR.out
  · have hin : i = n ∨ i = n + 1 := by omega
   have HY : Aside (Row ys) := by
    have := Y.out.1
    rwa [List.take_of_length_le (by have := Y.out.2.1; omega)] at this
   go_wp2
   have h0 : off = 0 := hoff.out.symm
   subst h0
   exact bodyPost_end (v := .tuple #[]) (by simp [results, go_sem]) rfl ⟨rfl, ys, HY.out, Y.out.2.2.1, Y.out.2.1, G.out, KK.out⟩
end
section
open Go.Shelf
theorem pdq (g : Nat) (lb : Array Value) (v : Value) (n : Nat) (lim : Int) (w : World) (R : World → Prop) (hv : ∃ a c, v = .slice a n c) (hn : n ≤ 12)
  (hs : Calls Tryz.prog 253 #[v, .int .i64 0, .int .i64 n, .func (.func g) #[] lb] w fun e w' => e = .returned (.tuple #[]) ∧ R w') :
  Calls Tryz.prog 224 #[v, .int .i64 0, .int .i64 n, .int .i64 lim, .func (.func g) #[] lb] w fun e w' => e = .returned (.tuple #[]) ∧ R w' := by
 obtain ⟨a, c, rfl⟩ := hv
 have hn' : (n : Int) ≤ 12 := by omega
 go_enter Tryz.func224, Tryz.ntmps224
 go_wp2_with fail
 refine wp_loop_once ?_
 go_wp2_with fail
 refine hs.mono ?_
 rintro e w1 ⟨rfl, hR⟩
 go_wp2
 exact bodyPost_ret (v := .tuple #[]) (by simp [results, go_sem]) rfl ⟨rfl, hR⟩
theorem bitsLen64 (n : Nat) (hn : n ≤ 12) (w : World) : Calls Tryz.prog 246 #[.int .u64 n] w fun e w' => ∃ q : Int, e = .returned (.int .i64 q) ∧ w' = w := by
 obtain rfl | rfl | rfl | rfl | rfl | rfl | rfl | rfl | rfl | rfl | rfl | rfl | rfl : n = 0 ∨ n = 1 ∨ n = 2 ∨ n = 3 ∨ n = 4 ∨ n = 5 ∨ n = 6 ∨ n = 7 ∨ n = 8 ∨ n = 9 ∨ n = 10 ∨ n = 11 ∨ n = 12 := by omega
 all_goals
  go_enter Tryz.func246, Tryz.ntmps246
  go_wp2
  go_ret
  exact ⟨_, rfl, rfl⟩
theorem bitsLen (n : Nat) (hn : n ≤ 12) (w : World) : Calls Tryz.prog 225 #[.int .u64 n] w fun e w' => ∃ q : Int, e = .returned (.int .i64 q) ∧ w' = w := by
 have hl := bitsLen64 n hn w
 go_enter Tryz.func225, Tryz.ntmps225
 go_wp2_with fail
 refine hl.mono ?_
 rintro e w1 ⟨q, rfl, rfl⟩
 go_wp2
 go_ret
 exact ⟨_, rfl, rfl⟩
theorem sortF (g : Nat) (lb : Array Value) (v : Value) (n : Nat) (w : World) (R : World → Prop) (hv : ∃ a c, v = .slice a n c) (hn : n ≤ 12)
  (hs : Calls Tryz.prog 253 #[v, .int .i64 0, .int .i64 n, .func (.func g) #[] lb] w fun e w' => e = .returned (.tuple #[]) ∧ R w') :
  Calls Tryz.prog 203 #[v, .func (.func g) #[] lb] w fun e w' => e = .returned (.tuple #[]) ∧ R w' := by
 have hp := fun lim => pdq g lb v n lim w R hv hn hs
 have hl := bitsLen n hn w
 obtain ⟨a, c, rfl⟩ := hv
 have hn' : (n : Int) ≤ 12 := by omega
 clear hs
 go_enter Tryz.func203, Tryz.ntmps203
 go_wp2_with fail
 refine hl.mono ?_
 rintro e w1 ⟨q, rfl, rfl⟩
 go_wp2_with fail
 refine (hp _).mono ?_
 rintro e w2 ⟨rfl, hR⟩
 go_wp2
 exact bodyPost_end (v := .tuple #[]) (by simp [results, go_sem]) rfl ⟨rfl, hR⟩
end
end Go.Proofs.YtmoaobfmopimlafGreatDoor
