/- For the law. -/
import Derived.Test.YtmoaobfmopimlafGreatDoorM44
import Derived.Deep.AppendLies
set_option linter.unusedSimpArgs false
set_option linter.unusedVariables false
namespace Go.Proofs.YtmoaobfmopimlafGreatDoor
open Go.RowKit
section
open Go.Shelf
theorem ownsR_of_block {w : World} {base gb : Nat} {rs : List Rg} (hb : base ≤ gb) (hg : w.heap[gb]? = some (.cells (rs.flatMap Rg.cells).toArray 76)) (hn : rs.length ≤ 1000000) :
  w.ownsRow base 76 3 (.slice (some ⟨gb, 0, none⟩) rs.length rs.length) rs.length (rs.flatMap Rg.cells) := by
 have hl := row_len Rg.three rs
 refine ⟨hl, .inr ⟨gb, rs.length, _, rfl, hb, hg, Nat.le_refl _, by unfold maxLen; omega, by simpa using hl, ?_⟩⟩
 exact List.take_of_length_le (by simpa using Nat.le_of_eq hl)
structure Rang (w w5 : World) (ab gj gr g cap n m : Nat) (js : List Jb) (rs : List Rg) (z : Rg) (x : En) : Prop where
 box : w5.heap[w.heap.size]? = some (boxE x.k x.j x.v x.t x.c)
 head : w5.heap[ab]? = some (boxB (.slice (some ⟨gj, 0, none⟩) n n) (.slice (some ⟨gr, 0, none⟩) m m))
 jobs : w5.heap[gj]? = some (.cells (js.flatMap Jb.cells).toArray 120)
 rungs : RungSl w5 (.slice (some ⟨g, 0, none⟩) (m + 1) cap) (rs ++ [z])
 room : m + 1 ≤ cap
 kept : Kept [ab, gj, gr] w w5
 ne1 : ab ≠ g
 ne2 : gj ≠ g
 ne3 : ab ≠ gj
 ty : Typed 76 w5 (.slice (some ⟨g, 0, none⟩) (m + 1) cap)
theorem step_ring {ops : Array Oper} {o : Oper} {a : Act} {W : World} {K : Act → World → Prop} {Q : Exit → Act → World → Prop} {E : Prop} (hgd : o.guard = none) (s t : Operand)
  (ho : o.op = .call { callee := .builtin .append, args := #[s, t], argTypes := #[37, 37] }) (w : World) (ab gj gr vb n m : Nat) (js : List Jb) (rs : List Rg) (z : Rg) (x : En)
  (hs : a.eval s = .slice (some ⟨gr, 0, none⟩) m m) (hx : a.eval t = .slice (some ⟨vb, 0, none⟩) 1 1) (hO : Own W ab gj gr js rs) (hb : Below w.heap.size w W) (hE : W.heap[w.heap.size]? = some (boxE x.k x.j x.v x.t x.c)) (hne : w.heap.size ≠ gr) (hv : W.heap[vb]? = some (.cells #[.int .i64 z.j, .int .i64 z.t, .int .i64 z.c] 76))
  (hn : js.length = n) (hm : rs.length = m) (hm60 : m ≤ 60)
  (h : ∀ g cap w5, (∀ i, w5.cell? ⟨ab, i, none⟩ = #[Value.slice (some ⟨gj, 0, none⟩) n n, .slice (some ⟨gr, 0, none⟩) m m][i]?) → (∀ i, w5.frozen? ⟨ab, i, none⟩ = false) → Aside (Rang w w5 ab gj gr g cap n m js rs z x) → K (a.put o.dst (.slice (some ⟨g, 0, none⟩) (m + 1) cap)) w5) :
  if Region.wanted o (yielded ops a.tmps) = true then Oper.wp Tryz.prog o a W K Q else E := by
 obtain ⟨i0, hi, hz0, hz1, hz2⟩ := info_parts infoR
 subst hn hm
 have hgr := heap_lt hO.rungs
 have hgj := heap_lt hO.jobs
 have hab := heap_lt hO.head
 refine step_append_lies W hgd s t 37 ho gr 76 i0 (valR 0 0 0) 3 24 Tryz.underlying37 hi hz0 hz1 hz2 rfl (by decide) (.slice (some ⟨gr, 0, none⟩) rs.length rs.length) rs.length _ hs (ownsR_of_block (Nat.le_refl _) hO.rungs (by omega)) ⟨vb, 0, none⟩ 1 1 z.cells hx rfl (fun j u hj => ?_) (fun u hu => oneR [z] u (by simpa using hu)) (by omega) (by unfold maxLen; omega) (by omega) (by omega) _ rfl ?_
 ·rw [Lib.add_plain, Joins.cell_of_block hv, Nat.zero_add]
  simpa [Rg.cells] using hj
 ·intro g cap w5 hown hgrow hat hlt
  have hat' : g = gr ∨ g = W.heap.size := by
   rcases hat with hat | hat
   ·simp [Value.ownBlock] at hat; exact Or.inl hat.symm
   ·exact Or.inr hat
  have hA5 := (hgrow.block ab hab (fun e => by simp [Value.ownBlock] at e; exact hO.ne2 e)).trans hO.head
  have hJ5 := (hgrow.block gj hgj (fun e => by simp [Value.ownBlock] at e; exact hO.ne3 e)).trans hO.jobs
  have hE5 := (hgrow.block w.heap.size (heap_lt hE) (fun e => by simp [Value.ownBlock] at e; exact hne e)).trans hE
  have hR5 : RungSl w5 (.slice (some ⟨g, 0, none⟩) (rs.length + 1) cap) (rs ++ [z]) := by
   have h0 : w5.ownsRow gr 76 3 (.slice (some ⟨g, 0, none⟩) (rs.length + 1) cap) (rs ++ [z]).length ((rs ++ [z]).flatMap Rg.cells) := by
    simpa using hown
   exact slOf_of_owns Rg.three h0
  have hroom : rs.length + 1 ≤ cap := by
   rcases hown.2 with ⟨h0, _⟩ | ⟨g', cap', cur, h0, _, _, hle, _⟩
   ·cases h0
   ·injection h0 with _ _ h2; omega
  have hk : Kept [ab, gj, gr] w w5 := (kept_of_below (S := [ab, gj, gr]) hb).trans (S' := [gr]) ⟨hgrow.os, hgrow.tape, hgrow.output, hgrow.size, fun k hk hS => hgrow.block k hk (fun e => by simp [Value.ownBlock] at e; exact hS (by simp [e]))⟩ (fun k hk => by simp at hk; simp [hk])
  exact h g cap w5 (fun i => Joins.cell_of_block hA5 i) (fun i => Joins.unfrozen_of_block hA5 i) ⟨hE5, hA5, hJ5, hR5, hroom, hk, by rcases hat' with rfl | rfl; exact hO.ne2; omega, by rcases hat' with rfl | rfl; exact hO.ne3; omega, hO.ne1, typed_owns hown⟩
theorem set_next {js : List Jb} {k : Nat} {y : Jb} (hx : js[k]? = some y) (v : Int) : (js.flatMap Jb.cells).set (k * 3 + 2) (.int .i64 v) = (js.set k ⟨y.i, y.e, v⟩).flatMap Jb.cells := by
 have hlt := (List.getElem?_eq_some_iff.1 hx).1
 have e : js = js.take k ++ y :: js.drop (k + 1) := by rw [← drop_at hx, List.take_append_drop]
 have hl : (js.take k).length = k := by rw [List.length_take]; omega
 have hfl : ((js.take k).flatMap Jb.cells).length = k * 3 := by rw [row_len Jb.three, hl]
 have e2 : js.set k ⟨y.i, y.e, v⟩ = js.take k ++ ⟨y.i, y.e, v⟩ :: js.drop (k + 1) := List.set_eq_take_append_cons_drop.trans (by rw [if_pos hlt])
 rw [e2]
 conv => lhs; rw [e]
 rw [List.flatMap_append, List.flatMap_append, List.flatMap_cons, List.flatMap_cons, List.set_append_right _ _ (by omega), hfl, show k * 3 + 2 - k * 3 = 2 by omega]
 rfl
theorem Rang.head6 {w w5 : World} {ab gj gr g cap n m : Nat} {js : List Jb} {rs : List Rg} {z : Rg} {x : En} (h : Rang w w5 ab gj gr g cap n m js rs z x) :
  (w5.setCell ⟨ab, 1, none⟩ (.slice (some ⟨g, 0, none⟩) (m + 1) cap)).heap[ab]? = some (boxB (.slice (some ⟨gj, 0, none⟩) n n) (.slice (some ⟨g, 0, none⟩) (m + 1) cap)) := Joins.block_setCell (i := 1) h.head _
theorem Rang.jobs6 {w w5 : World} {ab gj gr g cap n m : Nat} {js : List Jb} {rs : List Rg} {z : Rg} {x : En} (h : Rang w w5 ab gj gr g cap n m js rs z x) :
  (w5.setCell ⟨ab, 1, none⟩ (.slice (some ⟨g, 0, none⟩) (m + 1) cap)).heap[gj]? = some (.cells (js.flatMap Jb.cells).toArray 120) := by
 rw [Below.heap_setCell _ _ _ _ (by exact Ne.symm h.ne3)]; exact h.jobs
abbrev RingS (w : World) (ab gr eb m : Nat) (x : En) : Prop :=
 w.cell? ⟨ab, 1, none⟩ = some (.slice (some ⟨gr, 0, none⟩) m m) ∧ w.cell? ⟨eb, 1, none⟩ = some (.int .i64 x.j) ∧ w.cell? ⟨eb, 3, none⟩ = some (.int .i64 x.t) ∧ w.cell? ⟨eb, 4, none⟩ = some (.int .i64 x.c)
theorem ringS_new {w : World} {ab gr eb m : Nat} {x : En} {o : Obj} (h : RingS w ab gr eb m x) : RingS (w.alloc o) ab gr eb m x :=
 have hb := grew (Below.refl w.heap.size w) o
 ⟨cell_later hb h.1, cell_later hb h.2.1, cell_later hb h.2.2.1, cell_later hb h.2.2.2⟩
theorem Left.later {w W W' : World} {ab : Nat} {S : List Nat} {js : List Jb} {rs : List Rg} {u1 u2 : Value} (h : Left w W ab S js rs u1 u2) (hb : Below W.heap.size W W') : Left w W' ab S js rs u1 u2 :=
 ⟨heap_below h.head hb (heap_lt h.head), h.jobs.later hb, h.rungs.later hb, h.room, h.kept.below hb, h.tj.later hb, h.tr.later hb⟩
theorem Rang.done {w w5 : World} {ab gj gr g cap n m k : Nat} {js : List Jb} {rs : List Rg} {z : Rg} {x : En} {y : Jb} (h : Rang w w5 ab gj gr g cap n m js rs z x) (hn : js.length = n) (hx : js[k]? = some y) (v : Int) :
  ∃ u1 u2, Left w ((w5.setCell ⟨ab, 1, none⟩ (.slice (some ⟨g, 0, none⟩) (m + 1) cap)).setCell ⟨gj, k * 3 + 2, none⟩ (.int .i64 v)).drew ab [ab, gj, gr] (js.set k ⟨y.i, y.e, v⟩) (rs ++ [z]) u1 u2 := by
 have a1 := h.head6
 have j1 := h.jobs6
 have r1 := sl_beside (o := 1) h.rungs h.ne1 (.slice (some ⟨g, 0, none⟩) (m + 1) cap)
 have t1 := h.ty.setCell ab 1 (.slice (some ⟨g, 0, none⟩) (m + 1) cap)
 have k1 := h.kept.setCell (g := ab) (o := 1) (by simp) (.slice (some ⟨g, 0, none⟩) (m + 1) cap)
 generalize w5.setCell ⟨ab, 1, none⟩ (.slice (some ⟨g, 0, none⟩) (m + 1) cap) = w7 at *
 have j3 := block_set (o := k * 3 + 2) j1 (.int .i64 v)
 rw [set_next hx] at j3
 refine ⟨.slice (some ⟨gj, 0, none⟩) (js.set k ⟨y.i, y.e, v⟩).length n, .slice (some ⟨g, 0, none⟩) (m + 1) cap, Left.later ⟨?_, slOf_block Jb.three j3 ⟨[], by simp⟩, sl_beside r1 h.ne2 _, ⟨_, _, _, rfl, h.room⟩, k1.setCell (by simp) _, typed_block j3 _ _ _, t1.setCell _ _ _⟩ (Below.refl _ _).drew⟩
 rw [Below.heap_setCell _ _ _ _ (by exact h.ne3), List.length_set, hn]
 exact a1
set_option maxHeartbeats 4000000 in
theorem ring_do (x : En) (ab gj gr : Nat) (js : List Jb) (rs : List Rg) (w : World) (h : Own w ab gj gr js rs) (hn : js.length ≤ 6) (k : Nat) (y : Jb) (hj : jobAt js x.j = (k : Nat)) (hx : js[k]? = some y) (hne : y.n = x.t) (hm : rs.length < 60) (hy : y.bad = false) :
  Calls Tryz.prog 232 #[.pointer (some ⟨ab, 0, none⟩), x.val] w fun e w' => e = .returned (.tuple #[]) ∧ ∃ u1 u2, Left w w' ab [ab, gj, gr] (js.set k ⟨y.i, y.e, y.n + y.e⟩) (rs ++ [⟨x.j, x.t, x.c⟩]) u1 u2 := by
 have hB := grew (Below.refl w.heap.size w) (boxE x.k x.j x.v x.t x.c)
 have h' := h.later hB
 obtain ⟨n, hnn⟩ : ∃ n, Hid (js.length = n) := ⟨_, rfl⟩
 obtain ⟨m, hmm⟩ : ∃ m, Hid (rs.length = m) := ⟨_, rfl⟩
 have hS0 : Reads (w.alloc (boxE x.k x.j x.v x.t x.c)) (w.alloc (boxE x.k x.j x.v x.t x.c)) ab gj gr w.heap.size n m x := by
  refine ⟨Below.refl _ _, ?_, ?_, ?_⟩
  ·rw [Joins.cell_of_block h'.head, ← hnn.out]; rfl
  ·rw [Joins.cell_of_block h'.head, ← hmm.out]; rfl
  ·rw [Joins.cell_of_block (heap_new _ _)]; rfl
 have hfind := fun (W : World) (hb : Below (w.alloc (boxE x.k x.j x.v x.t x.c)).heap.size (w.alloc (boxE x.k x.j x.v x.t x.c)) W) => find_any (.slice (some ⟨gj, 0, none⟩) js.length js.length) (.slice (some ⟨gr, 0, none⟩) rs.length rs.length) js x.j W (h'.sj.later hb) (by unfold most; omega)
 rw [hnn.out, hmm.out, hj] at hfind
 have HO : Aside (Own (w.alloc (boxE x.k x.j x.v x.t x.c)) ab gj gr js rs ∧ Below w.heap.size w (w.alloc (boxE x.k x.j x.v x.t x.c)) ∧ (w.alloc (boxE x.k x.j x.v x.t x.c)).heap[w.heap.size]? = some (boxE x.k x.j x.v x.t x.c)) := ⟨h', hB, heap_new _ _⟩
 have hab := heap_lt h.head
 have ne1 := h.ne1
 have ne3 := h.ne3
 have ne2 := h.ne2
 have hgj := heap_lt h.jobs
 have hgr := heap_lt h.rungs
 have hkn : k < n := by rw [← hnn.out]; exact (List.getElem?_eq_some_iff.1 hx).1
 have HX : Hid (js[k]? = some y) := hx
 have kd : decide ((k : Int) < 0) = false := by rw [decide_eq_false_iff_not]; omega
 have kk0 : (0 : Int) ≤ (k : Int) := by omega
 have kk1 : (k : Int) < (n : Int) := by omega
 have hnb : (y.n != x.t) = false := by rw [bne_eq_false_iff_eq]; exact hne
 clear hne hx
 obtain ⟨_, ⟨ye0, ye1⟩, ⟨yn0, yn1⟩⟩ := Jb.good hy
 have hfi : ¬ (60 : Int) ≤ (m : Int) := by have := hmm.out; omega
 have hfd : decide ((60 : Int) ≤ (m : Int)) = false := by rw [decide_eq_false_iff_not]; exact hfi
 rw [hnn.out] at hn
 rw [hmm.out] at hm
 clear h h' hB hj
 go_enter Tryz.func232, Tryz.ntmps232
 go_wp2_with fail
 generalize w.alloc (boxE x.k x.j x.v x.t x.c) = W0 at *
 have hbd : Below W0.heap.size W0 W0.drew := (Below.refl _ _).drew
 go_region_held3 (fun w' => Reads W0 w' ab gj gr w.heap.size n m x) (exact reads_step (by assumption) (by assumption)) (first | (go_at_call 263; refine (hfind _ (reads_below (by assumption))).mono ?_; rintro e w1 ⟨rfl, hb'⟩))
 all_goals
  rename_i hS
  clear hb'
  obtain ⟨hB1, y0, y1, y2⟩ := hS
  have hw1 : w.heap.size < w1.heap.size := by have := heap_lt HO.out.2.2; have := hB1.size; omega
  have O1 : Own w1 ab gj gr js rs := HO.out.1.later hB1
  have E1 : w1.heap[w.heap.size]? = some (boxE x.k x.j x.v x.t x.c) := heap_below HO.out.2.2 hB1 (heap_lt HO.out.2.2)
  have B1 : Aside (Below w.heap.size w w1) := HO.out.2.1.trans (hB1.mono HO.out.2.1.size)
  have A1 : Aside (Own w1 ab gj gr js rs ∧ w1.heap[w.heap.size]? = some (boxE x.k x.j x.v x.t x.c)) := ⟨O1, E1⟩
  have e1 := fun i => Joins.cell_of_block E1 i
  have hrow : RowAt Jb.cells 3 w1 gj 0 js := rowAt_block Jb.three O1.jobs ⟨[], by simp⟩
  have j1 : w1.cell? ⟨gj, k * 3 + 1, none⟩ = some (.int .i64 y.e) := by have := hrow k y HX.out 1 _ rfl; rwa [Nat.zero_add] at this
  have j2 : w1.cell? ⟨gj, k * 3 + 2, none⟩ = some (.int .i64 y.n) := by have := hrow k y HX.out 2 _ rfl; rwa [Nat.zero_add] at this
  clear hrow
  clear hS0 hfind hbd hB1 O1 E1 HO y2
  go_wp2_with fail
  go_quiet (fail)
  have A2 : Aside (Own (w1.drewN nq) ab gj gr js rs ∧ (w1.drewN nq).heap[w.heap.size]? = some (boxE x.k x.j x.v x.t x.c)) := ⟨A1.out.1.later (below_drewN (Below.refl _ _) nq), A1.out.2⟩
  have B2 : Aside (Below w.heap.size w (w1.drewN nq)) := below_drewN B1.out nq
  have hw2 : w.heap.size < (w1.drewN nq).heap.size := hw1
  clear A1 B1 y0 y1 e1 j1 j2 hw1
  generalize w1.drewN nq = w2 at *
  have O2 := A2.out.1
  have y1 : w2.cell? ⟨ab, 1, none⟩ = some (.slice (some ⟨gr, 0, none⟩) m m) := by rw [Joins.cell_of_block O2.head, ← hmm.out]; rfl
  have e1 := fun i => Joins.cell_of_block A2.out.2 i
  have q0 : ab < w2.heap.size := by omega
  have q1 : ab ≠ w2.heap.size := by omega
  have q2 : w.heap.size ≠ w2.heap.size := by omega
  have hOa : Aside (∀ o, Own (w2.alloc o).drew ab gj gr js rs) := fun o => A2.out.1.later (grew (Below.refl _ _) _).drew
  have hBa : Aside (∀ o, Below w.heap.size w (w2.alloc o).drew) := fun o => (grew B2.out _).drew
  have hEa : Aside (∀ o, (w2.alloc o).drew.heap[w.heap.size]? = some (boxE x.k x.j x.v x.t x.c)) := fun o => heap_old A2.out.2 _
  have hS0 : RingS w2 ab gr w.heap.size m x := ⟨y1, by rw [e1]; rfl, by rw [e1]; rfl, by rw [e1]; rfl⟩
  clear O2
  go_wp2_with fail
  refine wp_region_noPanic ?_
  refine region_L (fun w' => RingS w' ab gr w.heap.size m x) 16 (by kernel_rfl) (hS0) (fun hHeld => ?_)
  refine tl 0 (v := ?_) rfl (by kernel_rfl) (by rfl) (by assumption) (fun _ _ _ h => h) ?_ ?_
  rotate_left
  ·(intro w0 hSw; (try dsimp only at hSw); go_simp; first | done | with_reducible rfl)
  try simp only [Act.put, qa, qb, qc]
  refine tl 1 (v := ?_) rfl (by kernel_rfl) (by rfl) (by assumption) (fun _ _ _ h => h) ?_ ?_
  rotate_left
  ·(intro w0 hSw; (try dsimp only at hSw); go_simp; first | done | with_reducible rfl)
  try simp only [Act.put, qa, qb, qc]
  refine tl 2 (v := ?_) rfl (by kernel_rfl) (by rfl) (by assumption) (fun _ _ _ h => h) ?_ ?_
  rotate_left
  ·(intro w0 hSw; (try dsimp only at hSw); go_simp; first | done | with_reducible rfl)
  try simp only [Act.put, qa, qb, qc]
  refine tl 3 (v := ?_) rfl (by kernel_rfl) (by rfl) (by assumption) (fun _ _ _ h => h) ?_ ?_
  rotate_left
  ·(intro w0 hSw; (try dsimp only at hSw); go_simp; first | done | with_reducible rfl)
  try simp only [Act.put, qa, qb, qc]
  refine tl 4 (v := ?_) rfl (by kernel_rfl) (by rfl) (by assumption) (fun _ _ _ h => h) ?_ ?_
  rotate_left
  ·(intro w0 hSw; (try dsimp only at hSw); go_simp; first | done | with_reducible rfl)
  try simp only [Act.put, qa, qb, qc]
  refine tl 5 (v := ?_) rfl (by kernel_rfl) (by rfl) (by assumption) (fun _ _ _ h => h) ?_ ?_
  rotate_left
  ·(intro w0 hSw; (try dsimp only at hSw); go_simp; first | done | with_reducible rfl)
  try simp only [Act.put, qa, qb, qc]
  refine tl 6 (v := ?_) rfl (by kernel_rfl) (by rfl) (by assumption) (fun _ _ _ h => h) ?_ ?_
  rotate_left
  ·(intro w0 hSw; (try dsimp only at hSw); go_simp; first | done | with_reducible rfl)
  try simp only [Act.put, qa, qb, qc]
  refine tl 7 (v := ?_) rfl (by kernel_rfl) (by rfl) (by assumption) (fun _ _ _ h => h) ?_ ?_
  rotate_left
  ·(intro w0 hSw; (try dsimp only at hSw); go_simp; first | done | with_reducible rfl)
  try simp only [Act.put, qa, qb, qc]
  refine tl 8 (v := ?_) rfl (by kernel_rfl) (by rfl) (by assumption) (fun _ _ _ h => h) ?_ ?_
  rotate_left
  ·(intro w0 hSw; (try dsimp only at hSw); go_simp; first | done | with_reducible rfl)
  try simp only [Act.put, qa, qb, qc]
  refine tl 9 (v := ?_) rfl (by kernel_rfl) (by rfl) (by assumption) (fun _ _ _ h => h) ?_ ?_
  rotate_left
  ·(intro w0 hSw; (try dsimp only at hSw); go_simp; first | done | with_reducible rfl)
  try simp only [Act.put, qa, qb, qc]
  refine tl 10 (v := ?_) rfl (by kernel_rfl) (by rfl) (by assumption) (fun _ _ _ h => h) ?_ ?_
  rotate_left
  ·(intro w0 hSw; (try dsimp only at hSw); go_simp; first | done | with_reducible rfl)
  try simp only [Act.put, qa, qb, qc]
  refine tl 11 (v := ?_) rfl (by kernel_rfl) (by rfl) (by assumption) (fun _ _ _ h => h) ?_ ?_
  rotate_left
  ·(intro w0 hSw; (try dsimp only at hSw); go_simp; first | done | with_reducible rfl)
  try simp only [Act.put, qa, qb, qc]
  refine anyL_one (i := 12) (by kernel_rfl) rfl (fun K hK => ?_)
  go_simp
  refine hK.out _ _ (fun _ => ringS_new hHeld) (fun hNext => ?_)
  replace hNext := hNext (by kernel_rfl)
  clear hK K hHeld
  try simp only [Act.put, qa, qb, qc]
  refine anyL_one (i := 13) (by kernel_rfl) rfl (fun K hK => ?_)
  refine step_ring rfl _ _ rfl w ab gj gr _ n m js rs ⟨x.j, x.t, x.c⟩ x (by simp [Act.eval]) (by simp [Act.eval]) (hOa.out _) (hBa.out _) (hEa.out _) (by omega) (heap_new w2 _) hnn.out hmm.out (by omega) ?_
  intro g cap w5 z5 f5 RR
  have hE5 : w5.heap[w.heap.size]? = some (boxE x.k x.j x.v x.t x.c) := RR.out.box
  refine hK.out _ _ (fun _ => ⟨by rw [z5]; rfl, by rw [Joins.cell_of_block hE5]; rfl, by rw [Joins.cell_of_block hE5]; rfl, by rw [Joins.cell_of_block hE5]; rfl⟩) (fun hNext => ?_)
  replace hNext := hNext (by kernel_rfl)
  clear hK K
  try simp only [Act.put, qa, qb, qc]
  refine anyL_one (i := 14) (by kernel_rfl) rfl (fun K hK => ?_)
  go_simp
  refine hK.out _ _ (fun _ => hNext) (fun _ => ?_)
  clear hK K
  try simp only [Act.put, qa, qb, qc]
  refine anyL_one (i := 15) (by kernel_rfl) rfl (fun K hK => ?_)
  go_simp
  refine hK.out _ _ (fun _ => hNext) (fun _ => ?_)
  clear hK K
  try simp only [Act.put, qa, qb, qc]
  refine anyL_one (i := 16) (by kernel_rfl) rfl (fun K hK => ?_)
  go_simp
  refine hK.out _ _ (fun h => absurd h (by decide +kernel)) (fun _ => ?_)
  clear hK K
  refine anyL_done (by kernel_rfl) ?_ _
  refine NoPanic.normal ?_
  try simp only [Act.put, qa, qb, qc]
  clear z5 f5 hNext hE5 y1 e1 hS0
  have j6 := RR.out.jobs6
  have a6 := RR.out.head6
  generalize hw6 : w5.setCell ⟨ab, 1, none⟩ (.slice (some ⟨g, 0, none⟩) (m + 1) cap) = w6 at *
  have HW6 : Hid (w5.setCell ⟨ab, 1, none⟩ (.slice (some ⟨g, 0, none⟩) (m + 1) cap) = w6) := hw6
  clear hw6
  have hrow : RowAt Jb.cells 3 w6 gj 0 js := rowAt_block Jb.three j6 ⟨[], by simp⟩
  have j1 : w6.cell? ⟨gj, k * 3 + 1, none⟩ = some (.int .i64 y.e) := by have := hrow k y HX.out 1 _ rfl; rwa [Nat.zero_add] at this
  have j2 : w6.cell? ⟨gj, k * 3 + 2, none⟩ = some (.int .i64 y.n) := by have := hrow k y HX.out 2 _ rfl; rwa [Nat.zero_add] at this
  have fj := fun i => Joins.unfrozen_of_block j6 i
  have c6 : w6.cell? ⟨ab, 0, none⟩ = some (.slice (some ⟨gj, 0, none⟩) n n) := by rw [Joins.cell_of_block a6]; rfl
  clear hrow j6 a6
  go_wp2_with fail
  refine wp_region_noPanic ?_
  refine region_L (fun w' => w'.cell? ⟨ab, 0, none⟩ = some (.slice (some ⟨gj, 0, none⟩) n n) ∧ w'.cell? ⟨gj, k * 3 + 1, none⟩ = some (.int .i64 y.e) ∧ w'.cell? ⟨gj, k * 3 + 2, none⟩ = some (.int .i64 y.n)) 19 (by kernel_rfl) (⟨c6, j1, j2⟩) (fun hHeld => ?_)
  refine tl 0 (v := ?_) rfl (by kernel_rfl) (by rfl) (by assumption) (fun _ _ _ h => h) ?_ ?_
  rotate_left
  ·(intro w0 hSw; (try dsimp only at hSw); go_simp; first | done | with_reducible rfl)
  try simp only [Act.put, qa, qb, qc]
  refine tl 1 (v := ?_) rfl (by kernel_rfl) (by rfl) (by assumption) (fun _ _ _ h => h) ?_ ?_
  rotate_left
  ·(intro w0 hSw; (try dsimp only at hSw); go_simp; first | done | with_reducible rfl)
  try simp only [Act.put, qa, qb, qc]
  refine tl 2 (v := ?_) rfl (by kernel_rfl) (by rfl) (by assumption) (fun _ _ _ h => h) ?_ ?_
  rotate_left
  ·(intro w0 hSw; (try dsimp only at hSw); go_simp; first | done | with_reducible rfl)
  try simp only [Act.put, qa, qb, qc]
  refine tl 3 (v := ?_) rfl (by kernel_rfl) (by rfl) (by assumption) (fun _ _ _ h => h) ?_ ?_
  rotate_left
  ·(intro w0 hSw; (try dsimp only at hSw); go_simp; first | done | with_reducible rfl)
  try simp only [Act.put, qa, qb, qc]
  refine tl 4 (v := ?_) rfl (by kernel_rfl) (by rfl) (by assumption) (fun _ _ _ h => h) ?_ ?_
  rotate_left
  ·(intro w0 hSw; (try dsimp only at hSw); go_simp; first | done | with_reducible rfl)
  try simp only [Act.put, qa, qb, qc]
  refine tl 5 (v := ?_) rfl (by kernel_rfl) (by rfl) (by assumption) (fun _ _ _ h => h) ?_ ?_
  rotate_left
  ·(intro w0 hSw; (try dsimp only at hSw); go_simp; first | done | with_reducible rfl)
  try simp only [Act.put, qa, qb, qc]
  refine tl 6 (v := ?_) rfl (by kernel_rfl) (by rfl) (by assumption) (fun _ _ _ h => h) ?_ ?_
  rotate_left
  ·(intro w0 hSw; (try dsimp only at hSw); go_simp; first | done | with_reducible rfl)
  try simp only [Act.put, qa, qb, qc]
  refine tl 7 (v := ?_) rfl (by kernel_rfl) (by rfl) (by assumption) (fun _ _ _ h => h) ?_ ?_
  rotate_left
  ·(intro w0 hSw; (try dsimp only at hSw); go_simp; first | done | with_reducible rfl)
  try simp only [Act.put, qa, qb, qc]
  refine tl 8 (v := ?_) rfl (by kernel_rfl) (by rfl) (by assumption) (fun _ _ _ h => h) ?_ ?_
  rotate_left
  ·(intro w0 hSw; (try dsimp only at hSw); go_simp; first | done | with_reducible rfl)
  try simp only [Act.put, qa, qb, qc]
  refine tl 9 (v := ?_) rfl (by kernel_rfl) (by rfl) (by assumption) (fun _ _ _ h => h) ?_ ?_
  rotate_left
  ·(intro w0 hSw; (try dsimp only at hSw); go_simp; first | done | with_reducible rfl)
  try simp only [Act.put, qa, qb, qc]
  refine tl 10 (v := ?_) rfl (by kernel_rfl) (by rfl) (by assumption) (fun _ _ _ h => h) ?_ ?_
  rotate_left
  ·(intro w0 hSw; (try dsimp only at hSw); go_simp; first | done | with_reducible rfl)
  try simp only [Act.put, qa, qb, qc]
  refine tl 11 (v := ?_) rfl (by kernel_rfl) (by rfl) (by assumption) (fun _ _ _ h => h) ?_ ?_
  rotate_left
  ·(intro w0 hSw; (try dsimp only at hSw); go_simp; first | done | with_reducible rfl)
  try simp only [Act.put, qa, qb, qc]
  refine tl 12 (v := ?_) rfl (by kernel_rfl) (by rfl) (by assumption) (fun _ _ _ h => h) ?_ ?_
  rotate_left
  ·(intro w0 hSw; (try dsimp only at hSw); go_simp; first | done | with_reducible rfl)
  try simp only [Act.put, qa, qb, qc]
  refine tl 13 (v := ?_) rfl (by kernel_rfl) (by rfl) (by assumption) (fun _ _ _ h => h) ?_ ?_
  rotate_left
  ·(intro w0 hSw; (try dsimp only at hSw); go_simp; first | done | with_reducible rfl)
  try simp only [Act.put, qa, qb, qc]
  refine tl 14 (v := ?_) rfl (by kernel_rfl) (by rfl) (by assumption) (fun _ _ _ h => h) ?_ ?_
  rotate_left
  ·(intro w0 hSw; (try dsimp only at hSw); go_simp; first | done | with_reducible rfl)
  try simp only [Act.put, qa, qb, qc]
  refine tl 15 (v := ?_) rfl (by kernel_rfl) (by rfl) (by assumption) (fun _ _ _ h => h) ?_ ?_
  rotate_left
  ·(intro w0 hSw; (try dsimp only at hSw); go_simp; first | done | with_reducible rfl)
  try simp only [Act.put, qa, qb, qc]
  refine tl 16 (v := ?_) rfl (by kernel_rfl) (by rfl) (by assumption) (fun _ _ _ h => h) ?_ ?_
  rotate_left
  ·(intro w0 hSw; (try dsimp only at hSw); go_simp; first | done | with_reducible rfl)
  try simp only [Act.put, qa, qb, qc]
  refine anyL_one (i := 17) (by kernel_rfl) rfl (fun K hK => ?_)
  go_simp
  refine hK.out _ _ (fun _ => hHeld) (fun _ => ?_)
  clear hK K
  try simp only [Act.put, qa, qb, qc]
  refine anyL_one (i := 18) (by kernel_rfl) rfl (fun K hK => ?_)
  go_simp
  refine hK.out _ _ (fun _ => hHeld) (fun _ => ?_)
  clear hK K
  try simp only [Act.put, qa, qb, qc]
  refine anyL_one (i := 19) (by kernel_rfl) rfl (fun K hK => ?_)
  go_simp
  refine hK.out _ _ (fun h => absurd h (by decide +kernel)) (fun _ => ?_)
  clear hK K
  refine anyL_done (by kernel_rfl) ?_ _
  refine NoPanic.normal ?_
  try simp only [Act.put, qa, qb, qc]
  go_wp2
  have hwrp : IntKind.i64.wrap (y.n + y.e) = y.n + y.e := by rw [IntKind.wrap_i64]; omega
  rw [← HW6.out, hwrp]
  exact bodyPost_end (v := .tuple #[]) (by simp [results, go_sem]) rfl ⟨rfl, RR.out.done hnn.out HX.out _⟩
end
section
open Go.Shelf
theorem Left.more {w W : World} {ab : Nat} {S S' : List Nat} {js : List Jb} {rs : List Rg} {u1 u2 : Value} (h : Left w W ab S js rs u1 u2) (hs : ∀ k, k ∈ S → k ∈ S') : Left w W ab S' js rs u1 u2 :=
 ⟨h.head, h.jobs, h.rungs, h.room, h.kept.more hs, h.tj, h.tr⟩
theorem left_more {fn : FuncId} {args : Array Value} {W : World} {ab gj gr : Nat} {js : List Jb} {rs : List Rg} (h : Calls Tryz.prog fn args W fun e w' => e = .returned (.tuple #[]) ∧ ∃ u1 u2, Left W w' ab [ab, gj] js rs u1 u2) :
  Calls Tryz.prog fn args W fun e w' => e = .returned (.tuple #[]) ∧ ∃ u1 u2, Left W w' ab [ab, gj, gr] js rs u1 u2 :=
 h.mono fun _ _ ⟨he, u1, u2, hL⟩ => ⟨he, u1, u2, hL.more (fun k hk => by simp at hk ⊢; rcases hk with h | h <;> simp [h])⟩
theorem place_alt {js : List Jb} {i : Int} {z : Jb} (hs : Srt (-1) js) (hn : tab js i = none) : js.take (place js i) ++ z :: js.drop (place js i) = alt js i (some z) := by
 have hne := tab_none.1 hn
 have e : js = js.take (place js i) ++ js.drop (place js i) := (List.take_append_drop _ _).symm
 have ha : ∀ x, x ∈ js.take (place js i) → x.i < i := fun x hx => by
  have hm := List.mem_of_mem_take hx
  have h1 := hne x hm
  have h2 : decide (i < x.i) = false := by
   unfold place at hx
   rcases idx_ways (fun y : Jb => decide (i < y.i)) js with ⟨_, hall⟩ | ⟨k, y, hi, _, _, _, hb⟩
   ·exact hall x hm
   ·rw [hi, if_neg (by omega)] at hx
    exact hb x (by simpa using hx)
  have : ¬ i < x.i := by simpa using h2
  omega
 have hb : ∀ x, x ∈ js.drop (place js i) → i < x.i := fun x hx => by
  unfold place at hx
  rcases idx_ways (fun y : Jb => decide (i < y.i)) js with ⟨hi, _⟩ | ⟨k, y, hi, _, hy, hp, _⟩
  ·rw [hi] at hx
   simp at hx
  ·rw [hi, if_neg (by omega)] at hx
   exact srt_above_at hs hy (by simpa using hp) x (by simpa using hx)
 have h := alt_gap ha hb (some z)
 rw [← e] at h
 rw [h]
 simp
theorem set_alt {js : List Jb} {k : Nat} {y z : Jb} (hs : Srt (-1) js) (hy : js[k]? = some y) : js.set k z = alt js y.i (some z) := by
 have hlt := (List.getElem?_eq_some_iff.1 hy).1
 have e : js = js.take k ++ y :: js.drop (k + 1) := by rw [← drop_at hy, List.take_append_drop]
 have e2 : js.set k z = js.take k ++ z :: js.drop (k + 1) := List.set_eq_take_append_cons_drop.trans (by rw [if_pos hlt])
 have hs' := hs
 rw [e] at hs'
 have h := alt_mid hs' (some z)
 rw [← e] at h
 rw [e2, h]
 simp
theorem does_any {js : List Jb} {rs : List Rg} {x : En} (hok : Ok js rs) (hx : x.chk = 0) : Does js rs x := by
 obtain ⟨_, ⟨hj0, _⟩, _⟩ := En.right hx
 refine ⟨fun hk W ab gj gr hO => ?_, fun hk W ab gj gr hO => ?_, fun hk W ab gj gr hO => ?_⟩
 ·rcases jobAt_ways js x.j with ⟨hja, htab⟩ | ⟨k, z, hja, hz, htab⟩
  ·have hst : step js rs x = (alt js x.j (some ⟨x.j, x.v, x.t⟩), rs) := by rw [step, if_pos hk, htab]
   rw [hst, ← place_alt hok.srt htab]
   refine left_more ?_
   by_cases hr : 0 ≤ idx (fun y => decide (x.j < y.i)) js
   ·exact put_mid x ab gj gr js rs W hO hok.few hja hr
   ·exact put_end x ab gj gr js rs W hO hok.few hja (by omega)
  ·have hst : step js rs x = (js, rs) := by rw [step, if_pos hk, htab]
   rw [hst]
   exact left_more (put_there x ab gj gr js rs W hO hok.few (by rw [hja]; omega))
 ·have hst : step js rs x = (js.filter (fun y => !(y.i == x.j)), rs) := by rw [step, if_neg (by omega), if_pos hk, alt_filter hok.srt (by omega)]
  rw [hst]
  exact left_more (drop_any x ab gj gr js rs W hO hok.few)
 ·rcases jobAt_ways js x.j with ⟨hja, htab⟩ | ⟨k, z, hja, hz, htab⟩
  ·have hst : step js rs x = (js, rs) := by rw [step, if_neg (by omega), if_neg (by omega), if_pos hk, htab]
   rw [hst]
   exact left_more (ring_lost x ab gj gr js rs W hO hok.few hja)
  ·have hst : step js rs x = if z.n = x.t ∧ rs.length < 60 then (alt js x.j (some ⟨x.j, z.e, x.t + z.e⟩), rs ++ [⟨x.j, x.t, x.c⟩]) else (js, rs) := by
    rw [step, if_neg (by omega), if_neg (by omega), if_pos hk, htab]
   rw [hst]
   by_cases hn : z.n = x.t
   ·by_cases hf : rs.length < 60
    ·rw [if_pos ⟨hn, hf⟩]
     have hzi := (tab_id htab).1
     have h := ring_do x ab gj gr js rs W hO hok.few k z hja hz hn hf (hok.jobs z (tab_id htab).2)
     rw [set_alt hok.srt hz, hzi, hn] at h
     exact h
    ·rw [if_neg (fun h => hf h.2)]
     exact left_more (ring_full x ab gj gr js rs W hO hok.few k z hja hz hn (by omega))
   ·rw [if_neg (fun h => hn h.1)]
    exact left_more (ring_other x ab gj gr js rs W hO hok.few k z hja hz hn)
theorem bk_applyT (v1 v2 : Value) (js : List Jb) (rs : List Rg) (x : En) (w : World) (h1 : JobSl w v1 js) (h2 : RungSl w v2 rs) :
  Calls Tryz.prog 205 #[.agg #[v1, v2], x.val] w fun e w' => ∃ u1 u2, e = .returned (.tuple #[.agg #[u1, u2], .int .i64 (app js rs x).2]) ∧ JobSl w' u1 (app js rs x).1.1 ∧ RungSl w' u2 (app js rs x).1.2 ∧ Below w.heap.size w w' ∧ Roomy u2 ∧ Typed 120 w' u1 ∧ Typed 76 w' u2 := by
 obtain ⟨a1, c1, a2, c2, rfl, rfl⟩ := bk_slices h1 h2
 unfold app
 by_cases hb : ckBook js rs = 0
 ·rw [if_neg (by simpa using hb)]
  by_cases hx : x.chk = 0
  ·rw [if_neg (by simpa using hx)]
   exact bk_app_ok a1 a2 _ _ c1 c2 js rs x w h1 h2 (ckBook_zero.1 hb) hx (does_any (ckBook_zero.1 hb) hx)
  ·rw [if_pos hx]
   exact zero_typed (bk_app_entry a1 a2 _ _ c1 c2 js rs x w h1 h2 hb hx)
 ·rw [if_pos hb]
  exact zero_typed (bk_app_book a1 a2 _ _ c1 c2 js rs x w h1 h2 hb)
end
end Go.Proofs.YtmoaobfmopimlafGreatDoor
