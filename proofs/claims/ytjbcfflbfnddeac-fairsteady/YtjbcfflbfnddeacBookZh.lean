/- Package book: the walk of put. -/
import Derived.Test.YtjbcfflbfnddeacBookZg
import Derived.Deep.RegionHeld3
namespace Go.Proofs.Ytjbcfflbfnddeac
open Go.RowKit Go.Shelf

set_option maxHeartbeats 1000000 in
theorem put_pred (x : En) (eb : Nat) (W : World) (y : Jb) (h : W.heap[eb]? = some (boxE x.k x.j x.v x.t x.c)) :
    Calls Try.prog 39 (#[y.val] ++ #[.pointer (some ⟨eb, 0, none⟩)]) W fun e w' => e = .returned (.bool (decide (x.j < y.i))) ∧ Below W.heap.size W w' := by
  have hlt := heap_lt h
  have hne : eb ≠ W.heap.size := by omega
  have c0 : ∀ i, W.cell? ⟨eb, i, none⟩ = #[Value.int .i64 x.k, .int .i64 x.j, .int .i64 x.v, .int .i64 x.t, .int .i64 x.c][i]? := fun i => Joins.cell_of_block h i
  show Calls Try.prog 39 #[y.val, .pointer (some ⟨eb, 0, none⟩)] W _
  go_enter Try.func39, Try.ntmps39
  go_wp2
  all_goals (go_ret; exact ⟨by simp_all, grew (Below.refl _ _) _⟩)

/-- What put and ring read first: the book's head and the entry's box. -/
abbrev Reads (W w : World) (ab gj gr eb n m : Nat) (x : En) : Prop :=
  Below W.heap.size W w ∧ w.cell? ⟨ab, 0, none⟩ = some (.slice (some ⟨gj, 0, none⟩) n n) ∧ w.cell? ⟨ab, 1, none⟩ = some (.slice (some ⟨gr, 0, none⟩) m m) ∧ w.cell? ⟨eb, 1, none⟩ = some (.int .i64 x.j)

theorem reads_below {W w : World} {ab gj gr eb n m : Nat} {x : En} (h : Reads W w ab gj gr eb n m x) : Below W.heap.size W w := h.1

theorem reads_step {W w w' : World} {ab gj gr eb n m : Nat} {x : En} (h : Reads W w ab gj gr eb n m x) (hb : Below w.heap.size w w') : Reads W w' ab gj gr eb n m x :=
  ⟨h.1.trans (hb.mono h.1.size), cell_later hb h.2.1, cell_later hb h.2.2.1, cell_later hb h.2.2.2⟩

set_option maxHeartbeats 2000000 in
/-- put, where the job is there. -/
theorem put_there (x : En) (ab gj gr : Nat) (js : List Jb) (rs : List Rg) (w : World) (h : Own w ab gj gr js rs) (hn : js.length ≤ 6) (hj : 0 ≤ jobAt js x.j) :
    Calls Try.prog 23 #[.pointer (some ⟨ab, 0, none⟩), x.val] w fun e w' => e = .returned (.tuple #[]) ∧ ∃ u1 u2, Left w w' ab [ab, gj] js rs u1 u2 := by
  have hB := grew (Below.refl w.heap.size w) (boxE x.k x.j x.v x.t x.c)
  have h' := h.later hB
  obtain ⟨n, hnn⟩ : ∃ n, Hid (js.length = n) := ⟨_, rfl⟩
  obtain ⟨m, hmm⟩ : ∃ m, Hid (rs.length = m) := ⟨_, rfl⟩
  have hS0 : Reads (w.alloc (boxE x.k x.j x.v x.t x.c)) (w.alloc (boxE x.k x.j x.v x.t x.c)) ab gj gr w.heap.size n m x := by
    refine ⟨Below.refl _ _, ?_, ?_, ?_⟩
    · rw [Joins.cell_of_block h'.head, ← hnn.out]; rfl
    · rw [Joins.cell_of_block h'.head, ← hmm.out]; rfl
    · rw [Joins.cell_of_block (heap_new _ _)]; rfl
  have hfind := fun (W : World) (hb : Below (w.alloc (boxE x.k x.j x.v x.t x.c)).heap.size (w.alloc (boxE x.k x.j x.v x.t x.c)) W) => find_any (.slice (some ⟨gj, 0, none⟩) js.length js.length) (.slice (some ⟨gr, 0, none⟩) rs.length rs.length) js x.j W (h'.sj.later hb) (by unfold most; omega)
  rw [hnn.out, hmm.out] at hfind
  have HO : Aside (Own w ab gj gr js rs ∧ Below w.heap.size w (w.alloc (boxE x.k x.j x.v x.t x.c))) := ⟨h, hB⟩
  generalize jobAt js x.j = r at *
  clear h h' hB
  go_enter Try.func23, Try.ntmps23
  go_wp2_with fail
  generalize w.alloc (boxE x.k x.j x.v x.t x.c) = W0 at *
  have hbd : Below W0.heap.size W0 W0.drew := (Below.refl _ _).drew
  go_region_held3 (fun w' => Reads W0 w' ab gj gr w.heap.size n m x) (exact reads_step (by assumption) (by assumption)) (first | (go_at_call 11; refine (hfind _ (reads_below (by assumption))).mono ?_; rintro e w' ⟨rfl, hb'⟩))
  all_goals
    rename_i hS
    have hB := HO.out.2.trans (hS.1.mono HO.out.2.size)
    have HR : Aside (Below w.heap.size w _) := hB
    clear hS0 hS hfind hbd hB
    go_wp2
    refine bodyPost_ret (v := .tuple #[]) (by simp [results, go_sem]) rfl ⟨rfl, _, _, ⟨(HO.out.1.later HR.out).head, (HO.out.1.later HR.out).sj, (HO.out.1.later HR.out).sr, ⟨_, _, _, rfl, Nat.le_refl _⟩, (Kept.refl _ _).below HR.out⟩⟩

/-- slices.Insert at a full row of jobs: in their midst or at their end. -/
theorem insJ (z : Jb) (gb vb k : Nat) (js : List Jb) (w : World) (hk : k ≤ js.length) (hg : w.heap[gb]? = some (.cells (js.flatMap Jb.cells).toArray 40)) (hv : w.heap[vb]? = some (.cells #[.int .i64 z.i, .int .i64 z.e, .int .i64 z.n] 40)) (hn : js.length ≤ 6) :
    Calls Try.prog 40 #[.slice (some ⟨gb, 0, none⟩) js.length js.length, .int .i64 k, .slice (some ⟨vb, 0, none⟩) 1 1] w fun e w' => ∃ u, e = .returned u ∧ JobSl w' u (js.take k ++ z :: js.drop k) ∧ Kept [gb] w w' := by
  rcases Nat.lt_or_eq_of_le hk with hk | rfl
  · exact insMid z gb vb k js w hk hg hv hn
  · rw [List.take_length, List.drop_length]
    exact insEnd z gb vb js w hg hv hn

theorem kept_of_below {S : List Nat} {w w' : World} (h : Below w.heap.size w w') : Kept S w w' := (Kept.refl S w).below h

theorem Kept.trans {S S' : List Nat} {a b c : World} (h : Kept S a b) (h' : Kept S' b c) (hs : ∀ k, k ∈ S' → k ∈ S) : Kept S a c :=
  ⟨h'.os.trans h.os, h'.tape.trans h.tape, h'.output.trans h.output, Nat.le_trans h.size h'.size, fun k hk hS => (h'.block k (Nat.lt_of_lt_of_le hk h.size) (fun e => hS (hs k e))).trans (h.block k hk hS)⟩

theorem Kept.more {S S' : List Nat} {a b : World} (h : Kept S a b) (hs : ∀ k, k ∈ S → k ∈ S') : Kept S' a b :=
  ⟨h.os, h.tape, h.output, h.size, fun k hk hS => h.block k hk (fun e => hS (hs k e))⟩

/-- Where a new job goes. -/
def place (js : List Jb) (i : Int) : Nat := if idx (fun y => decide (i < y.i)) js < 0 then js.length else (idx (fun y => decide (i < y.i)) js).toNat

theorem place_le (js : List Jb) (i : Int) : place js i ≤ js.length := by
  unfold place
  rcases idx_ways (fun y : Jb => decide (i < y.i)) js with ⟨h, _⟩ | ⟨k, x, h, hk, _⟩
  · rw [h]; simp
  · rw [h, if_neg (by omega)]; simp; omega

/-- What put's last statement reads of the entry. -/
abbrev PutS (w : World) (eb : Nat) (x : En) : Prop :=
  w.cell? ⟨eb, 1, none⟩ = some (.int .i64 x.j) ∧ w.cell? ⟨eb, 2, none⟩ = some (.int .i64 x.v) ∧ w.cell? ⟨eb, 3, none⟩ = some (.int .i64 x.t)

theorem putS_step {w w' : World} {eb : Nat} {x : En} (h : PutS w eb x) (hb : Below w.heap.size w w') : PutS w' eb x :=
  ⟨cell_later hb h.1, cell_later hb h.2.1, cell_later hb h.2.2⟩

theorem putS_new {w : World} {eb : Nat} {x : En} {o : Obj} (h : PutS w eb x) : PutS (w.alloc o) eb x := putS_step h (grew (Below.refl _ _) o)

theorem putS_of {w : World} {eb : Nat} {x : En} (h : w.heap[eb]? = some (boxE x.k x.j x.v x.t x.c)) : PutS w eb x :=
  ⟨by rw [Joins.cell_of_block h]; rfl, by rw [Joins.cell_of_block h]; rfl, by rw [Joins.cell_of_block h]; rfl⟩

theorem putS_set {w : World} {eb ab o : Nat} {x : En} {v : Value} (hne : ab ≠ eb) (h : PutS w eb x) : PutS (w.setCell ⟨ab, o, none⟩ v) eb x := by
  have hc : ∀ i, (w.setCell ⟨ab, o, none⟩ v).cell? ⟨eb, i, none⟩ = w.cell? ⟨eb, i, none⟩ := fun i => World.cell?_of_block (Below.heap_setCell _ _ _ _ (by exact fun e => hne e.symm))
  exact ⟨(hc 1).trans h.1, (hc 2).trans h.2.1, (hc 3).trans h.2.2⟩

/-- What is known behind Insert, in put. -/
theorem ins_left (z : Jb) (x : En) (eb ab gj gr vb k n m : Nat) (js J' : List Jb) (rs : List Rg) (w W : World) (hn : js.length = n) (hm : rs.length = m) (hk : k ≤ n) (hn6 : n ≤ 6) (hJ : js.take k ++ z :: js.drop k = J') (hO : Own W ab gj gr js rs) (hb : Below w.heap.size w W) (hE : W.heap[eb]? = some (boxE x.k x.j x.v x.t x.c)) (hne : eb ≠ gj)
    (hv : W.heap[vb]? = some (.cells #[.int .i64 z.i, .int .i64 z.e, .int .i64 z.n] 40)) :
    Calls Try.prog 40 #[.slice (some ⟨gj, 0, none⟩) n n, .int .i64 k, .slice (some ⟨vb, 0, none⟩) 1 1] W fun e w3 => ∃ a c, e = .returned (.slice a J'.length c) ∧
      (∀ i, w3.cell? ⟨ab, i, none⟩ = #[Value.slice (some ⟨gj, 0, none⟩) n n, .slice (some ⟨gr, 0, none⟩) m m][i]?) ∧ (∀ i, w3.frozen? ⟨ab, i, none⟩ = false) ∧ PutS w3 eb x ∧
      Aside (w3.heap[ab]? = some (boxB (.slice (some ⟨gj, 0, none⟩) n n) (.slice (some ⟨gr, 0, none⟩) m m)) ∧ JobSl w3 (.slice a J'.length c) J' ∧ RungSl w3 (.slice (some ⟨gr, 0, none⟩) m m) rs ∧ Kept [ab, gj] w w3) := by
  subst hn hm hJ
  refine (insJ z gj vb k js W hk hO.jobs hv hn6).mono ?_
  rintro e w3 ⟨u, rfl, J3, K3⟩
  have hA3 := K3.old hO.head (by simpa using hO.ne1)
  have R3 : RungSl w3 (.slice (some ⟨gr, 0, none⟩) rs.length rs.length) rs := slOf_block Rg.three (K3.old hO.rungs (by simpa using Ne.symm hO.ne3)) ⟨[], by simp⟩
  have K3' := ((kept_of_below (S := [ab, gj]) hb).trans K3 (fun k hk => by simp at hk; simp [hk]))
  obtain ⟨a3, c3, rfl, hcase⟩ := J3
  exact ⟨a3, c3, rfl, fun i => Joins.cell_of_block hA3 i, fun i => Joins.unfrozen_of_block hA3 i, putS_of (K3.old hE (by simpa using hne)), hA3, ⟨a3, c3, rfl, hcase⟩, R3, K3'⟩

/-- ..and behind the head's store. -/
theorem put_left {w w3 : World} {ab gj gr n m : Nat} {J' : List Jb} {rs : List Rg} {a : Option Addr} {c l : Nat} (n1 : ab ≠ gr) (h : w3.heap[ab]? = some (boxB (.slice (some ⟨gj, 0, none⟩) n n) (.slice (some ⟨gr, 0, none⟩) m m)) ∧ JobSl w3 (.slice a l c) J' ∧ RungSl w3 (.slice (some ⟨gr, 0, none⟩) m m) rs ∧ Kept [ab, gj] w w3) :
    Left w (w3.setCell ⟨ab, 0, none⟩ (.slice a l c)) ab [ab, gj] J' rs (.slice a l c) (.slice (some ⟨gr, 0, none⟩) m m) := by
  obtain ⟨h1, h2, h3, h4⟩ := h
  refine ⟨Joins.block_setCell (i := 0) h1 _, ?_, sl_beside h3 n1 _, ⟨_, _, _, rfl, Nat.le_refl _⟩, h4.setCell (by simp) _⟩
  obtain ⟨a', c', hv, hh⟩ := h2
  refine ⟨a', c', hv, ?_⟩
  rcases hh with hh | ⟨b', off, ha, hE⟩
  · exact Or.inl hh
  · refine Or.inr ⟨b', off, ha, fun j e hj i u hi => ?_⟩
    have hp : 0 < J'.length := by have := (List.getElem?_eq_some_iff.1 hj).1; omega
    have : ab ≠ b' := fun e => by
      obtain ⟨y, hy⟩ : ∃ y, J'[0]? = some y := ⟨J'[0], List.getElem?_eq_getElem hp⟩
      have h0 := hE 0 y hy 0 _ rfl
      rw [← e, Joins.cell_of_block h1] at h0
      generalize off + 0 * 3 + 0 = q at h0
      match q, h0 with
      | 0, h0 => simp at h0
      | 1, h0 => simp at h0
      | q + 2, h0 => simp at h0
    rw [World.cell?_of_block (Below.heap_setCell _ _ _ _ (by exact fun e => this e.symm))]
    exact hE j e hj i u hi

end Go.Proofs.Ytjbcfflbfnddeac
