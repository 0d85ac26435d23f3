/- For the law: Package book: the walk of put, where the new job goes behind all. Package book: the walk of ring, where it is rung. Package book: put, drop and ring do what the document says; Apply at every book and entry. Package client's Learn, Play. Where a job is among what is due; the predicates that look for it. At a later time no less is due, and what was due is due first. What the laws on what is due ask of package due; the walks of the reference's NextOf and CountTo. The closed fact 'counted', under package due's contracts. Insertion sort at a row of jobs (slices.SortFunc at few elements): plain facts. Insertion sort at a row of jobs: the walk. slices.SortFunc at few jobs; the walk of the reference's DueAt. The walk of the reference's DueAt. Package due: the order of jobs (inTurn), how often one is to be rung (times). Package due: inTurn; slices.MinFunc at jobs. Package due: the walks of check, Count and When. Package due: the walk of Due. Package due's Due and Count, at every book and time. -/
import Derived.Test.YtmoaobfmopimlafGreatDoorM09
import Derived.Deep.AppendLies
import Derived.Deep.CutBlock
import Derived.Deep.Cut
namespace Go.Proofs.YtmoaobfmopimlafGreatDoor
open Go.RowKit Go.Shelf
set_option linter.unusedSimpArgs false in
set_option maxHeartbeats 4000000 in
/-- put, where the job isn't there. -/
theorem put_end (x : En) (ab gj gr : Nat) (js : List Jb) (rs : List Rg) (w : World) (h : Own w ab gj gr js rs) (hn : js.length ≤ 6) (hj : jobAt js x.j = -1) (hr : idx (fun y => decide (x.j < y.i)) js < 0) :
    Calls Tryz.prog 230 #[.pointer (some ⟨ab, 0, none⟩), x.val] w fun e w' => e = .returned (.tuple #[]) ∧ ∃ u1 u2, Left w w' ab [ab, gj] (js.take (place js x.j) ++ ⟨x.j, x.v, x.t⟩ :: js.drop (place js x.j)) rs u1 u2 := by
  have hB := grew (Below.refl w.heap.size w) (boxE x.k x.j x.v x.t x.c)
  have h' := h.later hB
  have hpl := place_le js x.j
  have hpd : Hid (place js x.j = if idx (fun y => decide (x.j < y.i)) js < 0 then js.length else (idx (fun y => decide (x.j < y.i)) js).toNat) := rfl
  obtain ⟨n, hnn⟩ : ∃ n, Hid (js.length = n) := ⟨_, rfl⟩
  obtain ⟨m, hmm⟩ : ∃ m, Hid (rs.length = m) := ⟨_, rfl⟩
  have hS0 : Reads (w.alloc (boxE x.k x.j x.v x.t x.c)) (w.alloc (boxE x.k x.j x.v x.t x.c)) ab gj gr w.heap.size n m x := by
    refine ⟨Below.refl _ _, ?_, ?_, ?_⟩
    · rw [Joins.cell_of_block h'.head, ← hnn.out]; rfl
    · rw [Joins.cell_of_block h'.head, ← hmm.out]; rfl
    · rw [Joins.cell_of_block (heap_new _ _)]; rfl
  have hfind := fun (W : World) (hb : Below (w.alloc (boxE x.k x.j x.v x.t x.c)).heap.size (w.alloc (boxE x.k x.j x.v x.t x.c)) W) => find_any (.slice (some ⟨gj, 0, none⟩) js.length js.length) (.slice (some ⟨gr, 0, none⟩) rs.length rs.length) js x.j W (h'.sj.later hb) (by unfold most; omega)
  rw [hnn.out, hmm.out, hj] at hfind
  have eg : ∀ args w, (callFunc 264 args).run Tryz.prog w = .ok (.enter 264 args) w := enters_of Tryz.func264 (by kernel_rfl) rfl
  have hix : ∀ (W : World), Own W ab gj gr js rs → W.heap[w.heap.size]? = some (boxE x.k x.j x.v x.t x.c) → _ := fun W hO hE => idxFJ (fun y => decide (x.j < y.i)) 264 #[.pointer (some ⟨w.heap.size, 0, none⟩)] eg _ js W hO.sj (by unfold most; omega) (fun W' y hb => (put_pred x w.heap.size W' y (heap_below hE hb (heap_lt hE))).mono fun e w' ⟨h1, h2⟩ => ⟨h1, hb.trans (h2.mono hb.size)⟩)
  rw [hnn.out] at hix
  rw [hnn.out] at hpl hpd
  obtain ⟨p, hpp⟩ : ∃ p, Hid (place js x.j = p) := ⟨_, rfl⟩
  rw [hpp.out] at hpl hpd ⊢
  obtain ⟨J', hJ'⟩ : ∃ J', Hid (js.take p ++ ⟨x.j, x.v, x.t⟩ :: js.drop p = J') := ⟨_, rfl⟩
  rw [hJ'.out]
  have hins := fun (W : World) (vb : Nat) (hO : Own W ab gj gr js rs) (hb : Below w.heap.size w W) (hE : W.heap[w.heap.size]? = some (boxE x.k x.j x.v x.t x.c)) hv => ins_left ⟨x.j, x.v, x.t⟩ x w.heap.size ab gj gr vb p n m js J' rs w W hnn.out hmm.out hpl (by rw [← hnn.out]; exact hn) hJ'.out hO hb hE (by have := heap_lt h.jobs; omega) hv
  have HO : Aside (Own (w.alloc (boxE x.k x.j x.v x.t x.c)) ab gj gr js rs ∧ Below w.heap.size w (w.alloc (boxE x.k x.j x.v x.t x.c)) ∧ (w.alloc (boxE x.k x.j x.v x.t x.c)).heap[w.heap.size]? = some (boxE x.k x.j x.v x.t x.c)) := ⟨h', hB, heap_new _ _⟩
  have hab := heap_lt h.head
  have ne1 := h.ne1
  have ne3 := h.ne3
  have ne2 := h.ne2
  have hgj := heap_lt h.jobs
  have HI : Aside _ := hix
  have HN : Aside _ := hins
  clear h h' hB hj hix hins
  go_enter Tryz.func230, Tryz.ntmps230
  go_wp2_with fail
  generalize w.alloc (boxE x.k x.j x.v x.t x.c) = W0 at *
  have hbd : Below W0.heap.size W0 W0.drew := (Below.refl _ _).drew
  go_region_held3 (fun w' => Reads W0 w' ab gj gr w.heap.size n m x) (exact reads_step (by assumption) (by assumption)) (first | (go_at_call 263; refine (hfind _ (reads_below (by assumption))).mono ?_; rintro e w1 ⟨rfl, hb'⟩))
  all_goals
    rename_i hS
    clear hb'
    obtain ⟨hB1, y0, y1, y2⟩ := hS
    have hw1 : w.heap.size < w1.heap.size := by have := heap_lt HO.out.2.2; have := hB1.size; omega
    have O1 : Own w1 ab gj gr js rs := HO.out.1.later hB1
    have E1 : w1.heap[w.heap.size]? = some (boxE x.k x.j x.v x.t x.c) := heap_below HO.out.2.2 hB1 (heap_lt HO.out.2.2)
    have B1 : Aside (Below w.heap.size w w1) := HO.out.2.1.trans (hB1.mono HO.out.2.1.size)
    have hix := HI.out w1 O1 E1
    have A1 : Aside (Own w1 ab gj gr js rs ∧ w1.heap[w.heap.size]? = some (boxE x.k x.j x.v x.t x.c)) := ⟨O1, E1⟩
    clear hS0 hfind hbd hB1 O1 E1 HI HO y2
    generalize idx (fun y => decide (x.j < y.i)) js = r at *
    have HR0 : Hid (p = n) := by
      have h0 := hpd.out
      rw [if_pos hr] at h0
      exact h0
    clear hpd
    go_wp2_with fail
    refine hix.mono ?_
    rintro e w2 ⟨rfl, hb2⟩
    have O2 : Own w2 ab gj gr js rs := A1.out.1.later hb2
    have E2 : w2.heap[w.heap.size]? = some (boxE x.k x.j x.v x.t x.c) := heap_below A1.out.2 hb2 (heap_lt A1.out.2)
    have B2 : Aside (Below w.heap.size w w2) := B1.out.trans (hb2.mono B1.out.size)
    have A2 : Aside (Own w2 ab gj gr js rs ∧ w2.heap[w.heap.size]? = some (boxE x.k x.j x.v x.t x.c)) := ⟨O2, E2⟩
    have hw2 : w.heap.size < w2.heap.size := by have := hb2.size; omega
    have z0 : w2.cell? ⟨ab, 0, none⟩ = some (.slice (some ⟨gj, 0, none⟩) n n) := by rw [Joins.cell_of_block O2.head, ← hnn.out]; rfl
    have e0 : ∀ i, w2.cell? ⟨w.heap.size, i, none⟩ = #[Value.int .i64 x.k, .int .i64 x.j, .int .i64 x.v, .int .i64 x.t, .int .i64 x.c][i]? := fun i => Joins.cell_of_block E2 i
    clear hix hb2 O2 E2 A1 B1 y0 y1
    have hOa : Aside (∀ o, Own (w2.alloc o).drew ab gj gr js rs) := fun o => A2.out.1.later (grew (Below.refl _ _) _).drew
    have hBa : Aside (∀ o, Below w.heap.size w (w2.alloc o).drew) := fun o => (grew B2.out _).drew
    have hEa : Aside (∀ o, (w2.alloc o).drew.heap[w.heap.size]? = some (boxE x.k x.j x.v x.t x.c)) := fun o => heap_old A2.out.2 _
    have hS0 : PutS w2 w.heap.size x := putS_of A2.out.2
    have hbd : Below w2.heap.size w2 w2.drew := (Below.refl _ _).drew
    have q0 : ab < w2.heap.size := by omega
    have q1 : ab ≠ w2.heap.size := by omega
    have q2 : ab ≠ w.heap.size := by omega
    obtain rfl := HR0.out
    go_wp2_with fail
    refine wp_region_noPanic ?_
    refine region_L (fun w' => w'.cell? ⟨ab, 0, none⟩ = some (.slice (some ⟨gj, 0, none⟩) p p) ∧ PutS w' w.heap.size x) 17 (by kernel_rfl) (⟨z0, hS0⟩) (fun hHeld => ?_)
    refine anyL_take (i := 0) (v := ?_) rfl (by kernel_rfl) (by kernel_rfl) (by kernel_rfl) (by kernel_rfl) (by kernel_rfl) (fun _ _ _ h => h) (Or.inl ⟨by rfl, ?_⟩) (by assumption) ?_
    rotate_left
    · (intro w0 hSw; (try dsimp only at hSw); go_simp; first | done | with_reducible rfl)
    try simp only [Act.put, List.setIfInBounds_toArray, List.set_cons_zero, List.set_cons_succ]
    refine anyL_take (i := 1) (v := ?_) rfl (by kernel_rfl) (by kernel_rfl) (by kernel_rfl) (by kernel_rfl) (by kernel_rfl) (fun _ _ _ h => h) (Or.inl ⟨by rfl, ?_⟩) (by assumption) ?_
    rotate_left
    · (intro w0 hSw; (try dsimp only at hSw); go_simp; first | done | with_reducible rfl)
    try simp only [Act.put, List.setIfInBounds_toArray, List.set_cons_zero, List.set_cons_succ]
    refine anyL_take (i := 2) (v := ?_) rfl (by kernel_rfl) (by kernel_rfl) (by kernel_rfl) (by kernel_rfl) (by kernel_rfl) (fun _ _ _ h => h) (Or.inl ⟨by rfl, ?_⟩) (by assumption) ?_
    rotate_left
    · (intro w0 hSw; (try dsimp only at hSw); go_simp; first | done | with_reducible rfl)
    try simp only [Act.put, List.setIfInBounds_toArray, List.set_cons_zero, List.set_cons_succ]
    refine anyL_take (i := 3) (v := ?_) rfl (by kernel_rfl) (by kernel_rfl) (by kernel_rfl) (by kernel_rfl) (by kernel_rfl) (fun _ _ _ h => h) (Or.inl ⟨by rfl, ?_⟩) (by assumption) ?_
    rotate_left
    · (intro w0 hSw; (try dsimp only at hSw); go_simp; first | done | with_reducible rfl)
    try simp only [Act.put, List.setIfInBounds_toArray, List.set_cons_zero, List.set_cons_succ]
    refine anyL_take (i := 4) (v := ?_) rfl (by kernel_rfl) (by kernel_rfl) (by kernel_rfl) (by kernel_rfl) (by kernel_rfl) (fun _ _ _ h => h) (Or.inl ⟨by rfl, ?_⟩) (by assumption) ?_
    rotate_left
    · (intro w0 hSw; (try dsimp only at hSw); go_simp; first | done | with_reducible rfl)
    try simp only [Act.put, List.setIfInBounds_toArray, List.set_cons_zero, List.set_cons_succ]
    refine anyL_take (i := 5) (v := ?_) rfl (by kernel_rfl) (by kernel_rfl) (by kernel_rfl) (by kernel_rfl) (by kernel_rfl) (fun _ _ _ h => h) (Or.inl ⟨by rfl, ?_⟩) (by assumption) ?_
    rotate_left
    · (intro w0 hSw; (try dsimp only at hSw); go_simp; first | done | with_reducible rfl)
    try simp only [Act.put, List.setIfInBounds_toArray, List.set_cons_zero, List.set_cons_succ]
    refine anyL_take (i := 6) (v := ?_) rfl (by kernel_rfl) (by kernel_rfl) (by kernel_rfl) (by kernel_rfl) (by kernel_rfl) (fun _ _ _ h => h) (Or.inl ⟨by rfl, ?_⟩) (by assumption) ?_
    rotate_left
    · (intro w0 hSw; (try dsimp only at hSw); go_simp; first | done | with_reducible rfl)
    try simp only [Act.put, List.setIfInBounds_toArray, List.set_cons_zero, List.set_cons_succ]
    refine anyL_take (i := 7) (v := ?_) rfl (by kernel_rfl) (by kernel_rfl) (by kernel_rfl) (by kernel_rfl) (by kernel_rfl) (fun _ _ _ h => h) (Or.inl ⟨by rfl, ?_⟩) (by assumption) ?_
    rotate_left
    · (intro w0 hSw; (try dsimp only at hSw); go_simp; first | done | with_reducible rfl)
    try simp only [Act.put, List.setIfInBounds_toArray, List.set_cons_zero, List.set_cons_succ]
    refine anyL_take (i := 8) (v := ?_) rfl (by kernel_rfl) (by kernel_rfl) (by kernel_rfl) (by kernel_rfl) (by kernel_rfl) (fun _ _ _ h => h) (Or.inl ⟨by rfl, ?_⟩) (by assumption) ?_
    rotate_left
    · (intro w0 hSw; (try dsimp only at hSw); go_simp; first | done | with_reducible rfl)
    try simp only [Act.put, List.setIfInBounds_toArray, List.set_cons_zero, List.set_cons_succ]
    refine anyL_take (i := 9) (v := ?_) rfl (by kernel_rfl) (by kernel_rfl) (by kernel_rfl) (by kernel_rfl) (by kernel_rfl) (fun _ _ _ h => h) (Or.inl ⟨by rfl, ?_⟩) (by assumption) ?_
    rotate_left
    · (intro w0 hSw; (try dsimp only at hSw); go_simp; first | done | with_reducible rfl)
    try simp only [Act.put, List.setIfInBounds_toArray, List.set_cons_zero, List.set_cons_succ]
    refine anyL_take (i := 10) (v := ?_) rfl (by kernel_rfl) (by kernel_rfl) (by kernel_rfl) (by kernel_rfl) (by kernel_rfl) (fun _ _ _ h => h) (Or.inl ⟨by rfl, ?_⟩) (by assumption) ?_
    rotate_left
    · (intro w0 hSw; (try dsimp only at hSw); go_simp; first | done | with_reducible rfl)
    try simp only [Act.put, List.setIfInBounds_toArray, List.set_cons_zero, List.set_cons_succ]
    refine anyL_take (i := 11) (v := ?_) rfl (by kernel_rfl) (by kernel_rfl) (by kernel_rfl) (by kernel_rfl) (by kernel_rfl) (fun _ _ _ h => h) (Or.inl ⟨by rfl, ?_⟩) (by assumption) ?_
    rotate_left
    · (intro w0 hSw; (try dsimp only at hSw); go_simp; first | done | with_reducible rfl)
    try simp only [Act.put, List.setIfInBounds_toArray, List.set_cons_zero, List.set_cons_succ]
    refine anyL_take (i := 12) (v := ?_) rfl (by kernel_rfl) (by kernel_rfl) (by kernel_rfl) (by kernel_rfl) (by kernel_rfl) (fun _ _ _ h => h) (Or.inl ⟨by rfl, ?_⟩) (by assumption) ?_
    rotate_left
    · (intro w0 hSw; (try dsimp only at hSw); go_simp; first | done | with_reducible rfl)
    try simp only [Act.put, List.setIfInBounds_toArray, List.set_cons_zero, List.set_cons_succ]
    refine anyL_one (i := 13) (by kernel_rfl) rfl (fun K hK => ?_)
    go_simp
    refine hK.out _ _ (fun _ => ⟨cell_later (grew (Below.refl _ _) _) hHeld.1, putS_new hHeld.2⟩) (fun hNext => ?_)
    replace hNext := hNext (by kernel_rfl)
    clear hK K hHeld
    try simp only [Act.put, List.setIfInBounds_toArray, List.set_cons_zero, List.set_cons_succ]
    refine anyL_one (i := 14) (by kernel_rfl) rfl (fun K hK => ?_)
    go_simp
    refine (HN.out _ _ (hOa.out _) (hBa.out _) (hEa.out _) (heap_new w2 _)).mono ?_
    rintro e w3 ⟨a3, c3, rfl, z3, f3, p3, AA⟩
    refine hK.out _ _ (fun _ => ⟨by rw [z3]; rfl, p3⟩) (fun hNext => ?_)
    replace hNext := hNext (by kernel_rfl)
    clear hK K 
    try simp only [Act.put, List.setIfInBounds_toArray, List.set_cons_zero, List.set_cons_succ]
    refine anyL_one (i := 15) (by kernel_rfl) rfl (fun K hK => ?_)
    go_simp
    refine hK.out _ _ (fun _ => hNext) (fun _ => ?_)
    clear hK K
    try simp only [Act.put, List.setIfInBounds_toArray, List.set_cons_zero, List.set_cons_succ]
    refine anyL_one (i := 16) (by kernel_rfl) rfl (fun K hK => ?_)
    go_simp
    refine hK.out _ _ (fun _ => hNext) (fun _ => ?_)
    clear hK K
    try simp only [Act.put, List.setIfInBounds_toArray, List.set_cons_zero, List.set_cons_succ]
    refine anyL_one (i := 17) (by kernel_rfl) rfl (fun K hK => ?_)
    go_simp
    refine hK.out _ _ (fun h => absurd h (by decide +kernel)) (fun _ => ?_)
    clear hK K
    refine anyL_done (by kernel_rfl) ?_ _
    refine NoPanic.normal ?_
    try simp only [Act.put, List.setIfInBounds_toArray, List.set_cons_zero, List.set_cons_succ]
    go_wp2
    exact bodyPost_end (v := .tuple #[]) (by simp [results, go_sem]) rfl ⟨rfl, _, _, put_left ne2 AA.out⟩
end Go.Proofs.YtmoaobfmopimlafGreatDoor
namespace Go.Proofs.YtmoaobfmopimlafGreatDoor
open Go.RowKit Go.Shelf
theorem ownsR_of_block {w : World} {base gb : Nat} {rs : List Rg} (hb : base ≤ gb) (hg : w.heap[gb]? = some (.cells (rs.flatMap Rg.cells).toArray 76)) (hn : rs.length ≤ 1000000) :
    w.ownsRow base 76 3 (.slice (some ⟨gb, 0, none⟩) rs.length rs.length) rs.length (rs.flatMap Rg.cells) := by
  have hl := row_len Rg.three rs
  refine ⟨hl, .inr ⟨gb, rs.length, _, rfl, hb, hg, Nat.le_refl _, by unfold maxLen; omega, by simpa using hl, ?_⟩⟩
  exact List.take_of_length_le (by simpa using Nat.le_of_eq hl)
/-- What is known behind the append of a ring. -/
structure Rang (w w5 : World) (ab gj gr g cap n m : Nat) (js : List Jb) (rs : List Rg) (z : Rg) (x : En) : Prop where
  box : w5.heap[w.heap.size]? = some (boxE x.k x.j x.v x.t x.c)
  head : w5.heap[ab]? = some (boxB (.slice (some ⟨gj, 0, none⟩) n n) (.slice (some ⟨gr, 0, none⟩) m m))
  jobs : w5.heap[gj]? = some (.cells (js.flatMap Jb.cells).toArray 120)
  rungs : RungSl w5 (.slice (some ⟨g, 0, none⟩) (m + 1) cap) (rs ++ [z])
  room : m + 1 ≤ cap
  kept : Kept [ab, gj, gr] w w5
  ne1 : ab ≠ g
  ne2 : gj ≠ g
  ne3 : ab ≠ gj
  ty : Typed 76 w5 (.slice (some ⟨g, 0, none⟩) (m + 1) cap)
/-- The append of a ring, as a step of a region. -/
theorem step_ring {ops : Array Oper} {o : Oper} {a : Act} {W : World} {K : Act → World → Prop} {Q : Exit → Act → World → Prop} {E : Prop} (hgd : o.guard = none) (s t : Operand)
    (ho : o.op = .call { callee := .builtin .append, args := #[s, t], argTypes := #[37, 37] }) (w : World) (ab gj gr vb n m : Nat) (js : List Jb) (rs : List Rg) (z : Rg) (x : En)
    (hs : a.eval s = .slice (some ⟨gr, 0, none⟩) m m) (hx : a.eval t = .slice (some ⟨vb, 0, none⟩) 1 1) (hO : Own W ab gj gr js rs) (hb : Below w.heap.size w W) (hE : W.heap[w.heap.size]? = some (boxE x.k x.j x.v x.t x.c)) (hne : w.heap.size ≠ gr) (hv : W.heap[vb]? = some (.cells #[.int .i64 z.j, .int .i64 z.t, .int .i64 z.c] 76))
    (hn : js.length = n) (hm : rs.length = m) (hm60 : m ≤ 60)
    (h : ∀ g cap w5, (∀ i, w5.cell? ⟨ab, i, none⟩ = #[Value.slice (some ⟨gj, 0, none⟩) n n, .slice (some ⟨gr, 0, none⟩) m m][i]?) → (∀ i, w5.frozen? ⟨ab, i, none⟩ = false) → Aside (Rang w w5 ab gj gr g cap n m js rs z x) → K (a.put o.dst (.slice (some ⟨g, 0, none⟩) (m + 1) cap)) w5) :
    if Region.wanted o (yielded ops a.tmps) = true then Oper.wp Tryz.prog o a W K Q else E := by
  obtain ⟨i0, hi, hz0, hz1, hz2⟩ := info_parts infoR
  subst hn hm
  have hgr := heap_lt hO.rungs
  have hgj := heap_lt hO.jobs
  have hab := heap_lt hO.head
  refine step_append_lies W hgd s t 37 ho gr 76 i0 (valR 0 0 0) 3 24 Tryz.underlying37 hi hz0 hz1 hz2 rfl (by decide) (.slice (some ⟨gr, 0, none⟩) rs.length rs.length) rs.length _ hs (ownsR_of_block (Nat.le_refl _) hO.rungs (by omega)) ⟨vb, 0, none⟩ 1 1 z.cells hx rfl (fun j u hj => ?_) (fun u hu => oneR [z] u (by simpa using hu)) (by omega) (by unfold maxLen; omega) (by omega) (by omega) _ rfl ?_
  · rw [Lib.add_plain, Joins.cell_of_block hv, Nat.zero_add]
    simpa [Rg.cells] using hj
  · intro g cap w5 hown hgrow hat hlt
    have hat' : g = gr ∨ g = W.heap.size := by
      rcases hat with hat | hat
      · simp [Value.ownBlock] at hat; exact Or.inl hat.symm
      · exact Or.inr hat
    have hA5 := (hgrow.block ab hab (fun e => by simp [Value.ownBlock] at e; exact hO.ne2 e)).trans hO.head
    have hJ5 := (hgrow.block gj hgj (fun e => by simp [Value.ownBlock] at e; exact hO.ne3 e)).trans hO.jobs
    have hE5 := (hgrow.block w.heap.size (heap_lt hE) (fun e => by simp [Value.ownBlock] at e; exact hne e)).trans hE
    have hR5 : RungSl w5 (.slice (some ⟨g, 0, none⟩) (rs.length + 1) cap) (rs ++ [z]) := by
      have h0 : w5.ownsRow gr 76 3 (.slice (some ⟨g, 0, none⟩) (rs.length + 1) cap) (rs ++ [z]).length ((rs ++ [z]).flatMap Rg.cells) := by
        simpa using hown
      exact slOf_of_owns Rg.three h0
    have hroom : rs.length + 1 ≤ cap := by
      rcases hown.2 with ⟨h0, _⟩ | ⟨g', cap', cur, h0, _, _, hle, _⟩
      · cases h0
      · injection h0 with _ _ h2; omega
    have hk : Kept [ab, gj, gr] w w5 := (kept_of_below (S := [ab, gj, gr]) hb).trans (S' := [gr]) ⟨hgrow.os, hgrow.tape, hgrow.output, hgrow.size, fun k hk hS => hgrow.block k hk (fun e => by simp [Value.ownBlock] at e; exact hS (by simp [e]))⟩ (fun k hk => by simp at hk; simp [hk])
    exact h g cap w5 (fun i => Joins.cell_of_block hA5 i) (fun i => Joins.unfrozen_of_block hA5 i) ⟨hE5, hA5, hJ5, hR5, hroom, hk, by rcases hat' with rfl | rfl; exact hO.ne2; omega, by rcases hat' with rfl | rfl; exact hO.ne3; omega, hO.ne1, typed_owns hown⟩
/-- The job at k with another Next, in a block of jobs. -/
theorem set_next {js : List Jb} {k : Nat} {y : Jb} (hx : js[k]? = some y) (v : Int) : (js.flatMap Jb.cells).set (k * 3 + 2) (.int .i64 v) = (js.set k ⟨y.i, y.e, v⟩).flatMap Jb.cells := by
  have hlt := (List.getElem?_eq_some_iff.1 hx).1
  have e : js = js.take k ++ y :: js.drop (k + 1) := by rw [← drop_at hx, List.take_append_drop]
  have hl : (js.take k).length = k := by rw [List.length_take]; omega
  have hfl : ((js.take k).flatMap Jb.cells).length = k * 3 := by rw [row_len Jb.three, hl]
  have e2 : js.set k ⟨y.i, y.e, v⟩ = js.take k ++ ⟨y.i, y.e, v⟩ :: js.drop (k + 1) := List.set_eq_take_append_cons_drop.trans (by rw [if_pos hlt])
  rw [e2]
  conv => lhs; rw [e]
  rw [List.flatMap_append, List.flatMap_append, List.flatMap_cons, List.flatMap_cons, List.set_append_right _ _ (by omega), hfl, show k * 3 + 2 - k * 3 = 2 by omega]
  rfl
theorem Rang.head6 {w w5 : World} {ab gj gr g cap n m : Nat} {js : List Jb} {rs : List Rg} {z : Rg} {x : En} (h : Rang w w5 ab gj gr g cap n m js rs z x) :
    (w5.setCell ⟨ab, 1, none⟩ (.slice (some ⟨g, 0, none⟩) (m + 1) cap)).heap[ab]? = some (boxB (.slice (some ⟨gj, 0, none⟩) n n) (.slice (some ⟨g, 0, none⟩) (m + 1) cap)) := Joins.block_setCell (i := 1) h.head _
theorem Rang.jobs6 {w w5 : World} {ab gj gr g cap n m : Nat} {js : List Jb} {rs : List Rg} {z : Rg} {x : En} (h : Rang w w5 ab gj gr g cap n m js rs z x) :
    (w5.setCell ⟨ab, 1, none⟩ (.slice (some ⟨g, 0, none⟩) (m + 1) cap)).heap[gj]? = some (.cells (js.flatMap Jb.cells).toArray 120) := by
  rw [Below.heap_setCell _ _ _ _ (by exact Ne.symm h.ne3)]; exact h.jobs
/-- What ring reads as it rings. -/
abbrev RingS (w : World) (ab gr eb m : Nat) (x : En) : Prop :=
  w.cell? ⟨ab, 1, none⟩ = some (.slice (some ⟨gr, 0, none⟩) m m) ∧ w.cell? ⟨eb, 1, none⟩ = some (.int .i64 x.j) ∧ w.cell? ⟨eb, 3, none⟩ = some (.int .i64 x.t) ∧ w.cell? ⟨eb, 4, none⟩ = some (.int .i64 x.c)
theorem ringS_new {w : World} {ab gr eb m : Nat} {x : En} {o : Obj} (h : RingS w ab gr eb m x) : RingS (w.alloc o) ab gr eb m x :=
  have hb := grew (Below.refl w.heap.size w) o
  ⟨cell_later hb h.1, cell_later hb h.2.1, cell_later hb h.2.2.1, cell_later hb h.2.2.2⟩
theorem Left.later {w W W' : World} {ab : Nat} {S : List Nat} {js : List Jb} {rs : List Rg} {u1 u2 : Value} (h : Left w W ab S js rs u1 u2) (hb : Below W.heap.size W W') : Left w W' ab S js rs u1 u2 :=
  ⟨heap_below h.head hb (heap_lt h.head), h.jobs.later hb, h.rungs.later hb, h.room, h.kept.below hb, h.tj.later hb, h.tr.later hb⟩
theorem Rang.done {w w5 : World} {ab gj gr g cap n m k : Nat} {js : List Jb} {rs : List Rg} {z : Rg} {x : En} {y : Jb} (h : Rang w w5 ab gj gr g cap n m js rs z x) (hn : js.length = n) (hx : js[k]? = some y) (v : Int) :
    ∃ u1 u2, Left w ((w5.setCell ⟨ab, 1, none⟩ (.slice (some ⟨g, 0, none⟩) (m + 1) cap)).setCell ⟨gj, k * 3 + 2, none⟩ (.int .i64 v)).drew ab [ab, gj, gr] (js.set k ⟨y.i, y.e, v⟩) (rs ++ [z]) u1 u2 := by
  have a1 := h.head6
  have j1 := h.jobs6
  have r1 := sl_beside (o := 1) h.rungs h.ne1 (.slice (some ⟨g, 0, none⟩) (m + 1) cap)
  have t1 := h.ty.setCell ab 1 (.slice (some ⟨g, 0, none⟩) (m + 1) cap)
  have k1 := h.kept.setCell (g := ab) (o := 1) (by simp) (.slice (some ⟨g, 0, none⟩) (m + 1) cap)
  generalize w5.setCell ⟨ab, 1, none⟩ (.slice (some ⟨g, 0, none⟩) (m + 1) cap) = w7 at *
  have j3 := block_set (o := k * 3 + 2) j1 (.int .i64 v)
  rw [set_next hx] at j3
  refine ⟨.slice (some ⟨gj, 0, none⟩) (js.set k ⟨y.i, y.e, v⟩).length n, .slice (some ⟨g, 0, none⟩) (m + 1) cap, Left.later ⟨?_, slOf_block Jb.three j3 ⟨[], by simp⟩, sl_beside r1 h.ne2 _, ⟨_, _, _, rfl, h.room⟩, k1.setCell (by simp) _, typed_block j3 _ _ _, t1.setCell _ _ _⟩ (Below.refl _ _).drew⟩
  rw [Below.heap_setCell _ _ _ _ (by exact h.ne3), List.length_set, hn]
  exact a1
set_option linter.unusedSimpArgs false in
set_option maxHeartbeats 4000000 in
theorem ring_do (x : En) (ab gj gr : Nat) (js : List Jb) (rs : List Rg) (w : World) (h : Own w ab gj gr js rs) (hn : js.length ≤ 6) (k : Nat) (y : Jb) (hj : jobAt js x.j = (k : Nat)) (hx : js[k]? = some y) (hne : y.n = x.t) (hm : rs.length < 60) (hy : y.bad = false) :
    Calls Tryz.prog 232 #[.pointer (some ⟨ab, 0, none⟩), x.val] w fun e w' => e = .returned (.tuple #[]) ∧ ∃ u1 u2, Left w w' ab [ab, gj, gr] (js.set k ⟨y.i, y.e, y.n + y.e⟩) (rs ++ [⟨x.j, x.t, x.c⟩]) u1 u2 := by
  have hB := grew (Below.refl w.heap.size w) (boxE x.k x.j x.v x.t x.c)
  have h' := h.later hB
  obtain ⟨n, hnn⟩ : ∃ n, Hid (js.length = n) := ⟨_, rfl⟩
  obtain ⟨m, hmm⟩ : ∃ m, Hid (rs.length = m) := ⟨_, rfl⟩
  have hS0 : Reads (w.alloc (boxE x.k x.j x.v x.t x.c)) (w.alloc (boxE x.k x.j x.v x.t x.c)) ab gj gr w.heap.size n m x := by
    refine ⟨Below.refl _ _, ?_, ?_, ?_⟩
    · rw [Joins.cell_of_block h'.head, ← hnn.out]; rfl
    · rw [Joins.cell_of_block h'.head, ← hmm.out]; rfl
    · rw [Joins.cell_of_block (heap_new _ _)]; rfl
  have hfind := fun (W : World) (hb : Below (w.alloc (boxE x.k x.j x.v x.t x.c)).heap.size (w.alloc (boxE x.k x.j x.v x.t x.c)) W) => find_any (.slice (some ⟨gj, 0, none⟩) js.length js.length) (.slice (some ⟨gr, 0, none⟩) rs.length rs.length) js x.j W (h'.sj.later hb) (by unfold most; omega)
  rw [hnn.out, hmm.out, hj] at hfind
  have HO : Aside (Own (w.alloc (boxE x.k x.j x.v x.t x.c)) ab gj gr js rs ∧ Below w.heap.size w (w.alloc (boxE x.k x.j x.v x.t x.c)) ∧ (w.alloc (boxE x.k x.j x.v x.t x.c)).heap[w.heap.size]? = some (boxE x.k x.j x.v x.t x.c)) := ⟨h', hB, heap_new _ _⟩
  have hab := heap_lt h.head
  have ne1 := h.ne1
  have ne3 := h.ne3
  have ne2 := h.ne2
  have hgj := heap_lt h.jobs
  have hgr := heap_lt h.rungs
  have hkn : k < n := by rw [← hnn.out]; exact (List.getElem?_eq_some_iff.1 hx).1
  have HX : Hid (js[k]? = some y) := hx
  have kd : decide ((k : Int) < 0) = false := by rw [decide_eq_false_iff_not]; omega
  have kk0 : (0 : Int) ≤ (k : Int) := by omega
  have kk1 : (k : Int) < (n : Int) := by omega
  have hnb : (y.n != x.t) = false := by rw [bne_eq_false_iff_eq]; exact hne
  clear hne hx
  obtain ⟨_, ⟨ye0, ye1⟩, ⟨yn0, yn1⟩⟩ := Jb.good hy
  have hfi : ¬ (60 : Int) ≤ (m : Int) := by have := hmm.out; omega
  have hfd : decide ((60 : Int) ≤ (m : Int)) = false := by rw [decide_eq_false_iff_not]; exact hfi
  rw [hnn.out] at hn
  rw [hmm.out] at hm
  clear h h' hB hj
  go_enter Tryz.func232, Tryz.ntmps232
  go_wp2_with fail
  generalize w.alloc (boxE x.k x.j x.v x.t x.c) = W0 at *
  have hbd : Below W0.heap.size W0 W0.drew := (Below.refl _ _).drew
  go_region_held3 (fun w' => Reads W0 w' ab gj gr w.heap.size n m x) (exact reads_step (by assumption) (by assumption)) (first | (go_at_call 263; refine (hfind _ (reads_below (by assumption))).mono ?_; rintro e w1 ⟨rfl, hb'⟩))
  all_goals
    rename_i hS
    clear hb'
    obtain ⟨hB1, y0, y1, y2⟩ := hS
    have hw1 : w.heap.size < w1.heap.size := by have := heap_lt HO.out.2.2; have := hB1.size; omega
    have O1 : Own w1 ab gj gr js rs := HO.out.1.later hB1
    have E1 : w1.heap[w.heap.size]? = some (boxE x.k x.j x.v x.t x.c) := heap_below HO.out.2.2 hB1 (heap_lt HO.out.2.2)
    have B1 : Aside (Below w.heap.size w w1) := HO.out.2.1.trans (hB1.mono HO.out.2.1.size)
    have A1 : Aside (Own w1 ab gj gr js rs ∧ w1.heap[w.heap.size]? = some (boxE x.k x.j x.v x.t x.c)) := ⟨O1, E1⟩
    have e1 : ∀ i, w1.cell? ⟨w.heap.size, i, none⟩ = #[Value.int .i64 x.k, .int .i64 x.j, .int .i64 x.v, .int .i64 x.t, .int .i64 x.c][i]? := fun i => Joins.cell_of_block E1 i
    have hrow : RowAt Jb.cells 3 w1 gj 0 js := rowAt_block Jb.three O1.jobs ⟨[], by simp⟩
    have j1 : w1.cell? ⟨gj, k * 3 + 1, none⟩ = some (.int .i64 y.e) := by have := hrow k y HX.out 1 _ rfl; rwa [Nat.zero_add] at this
    have j2 : w1.cell? ⟨gj, k * 3 + 2, none⟩ = some (.int .i64 y.n) := by have := hrow k y HX.out 2 _ rfl; rwa [Nat.zero_add] at this
    clear hrow
    clear hS0 hfind hbd hB1 O1 E1 HO y2
    go_wp2_with fail
    go_quiet (fail)
    have A2 : Aside (Own (w1.drewN nq) ab gj gr js rs ∧ (w1.drewN nq).heap[w.heap.size]? = some (boxE x.k x.j x.v x.t x.c)) := ⟨A1.out.1.later (below_drewN (Below.refl _ _) nq), A1.out.2⟩
    have B2 : Aside (Below w.heap.size w (w1.drewN nq)) := below_drewN B1.out nq
    have hw2 : w.heap.size < (w1.drewN nq).heap.size := hw1
    clear A1 B1 y0 y1 e1 j1 j2 hw1
    generalize w1.drewN nq = w2 at *
    have O2 := A2.out.1
    have y1 : w2.cell? ⟨ab, 1, none⟩ = some (.slice (some ⟨gr, 0, none⟩) m m) := by rw [Joins.cell_of_block O2.head, ← hmm.out]; rfl
    have e1 : ∀ i, w2.cell? ⟨w.heap.size, i, none⟩ = #[Value.int .i64 x.k, .int .i64 x.j, .int .i64 x.v, .int .i64 x.t, .int .i64 x.c][i]? := fun i => Joins.cell_of_block A2.out.2 i
    have q0 : ab < w2.heap.size := by omega
    have q1 : ab ≠ w2.heap.size := by omega
    have q2 : w.heap.size ≠ w2.heap.size := by omega
    have hOa : Aside (∀ o, Own (w2.alloc o).drew ab gj gr js rs) := fun o => A2.out.1.later (grew (Below.refl _ _) _).drew
    have hBa : Aside (∀ o, Below w.heap.size w (w2.alloc o).drew) := fun o => (grew B2.out _).drew
    have hEa : Aside (∀ o, (w2.alloc o).drew.heap[w.heap.size]? = some (boxE x.k x.j x.v x.t x.c)) := fun o => heap_old A2.out.2 _
    have hS0 : RingS w2 ab gr w.heap.size m x := ⟨y1, by rw [e1]; rfl, by rw [e1]; rfl, by rw [e1]; rfl⟩
    clear O2
    go_wp2_with fail
    refine wp_region_noPanic ?_
    refine region_L (fun w' => RingS w' ab gr w.heap.size m x) 16 (by kernel_rfl) (hS0) (fun hHeld => ?_)
    refine anyL_take (i := 0) (v := ?_) rfl (by kernel_rfl) (by kernel_rfl) (by kernel_rfl) (by kernel_rfl) (by kernel_rfl) (fun _ _ _ h => h) (Or.inl ⟨by rfl, ?_⟩) (by assumption) ?_
    rotate_left
    · (intro w0 hSw; (try dsimp only at hSw); go_simp; first | done | with_reducible rfl)
    try simp only [Act.put, List.setIfInBounds_toArray, List.set_cons_zero, List.set_cons_succ]
    refine anyL_take (i := 1) (v := ?_) rfl (by kernel_rfl) (by kernel_rfl) (by kernel_rfl) (by kernel_rfl) (by kernel_rfl) (fun _ _ _ h => h) (Or.inl ⟨by rfl, ?_⟩) (by assumption) ?_
    rotate_left
    · (intro w0 hSw; (try dsimp only at hSw); go_simp; first | done | with_reducible rfl)
    try simp only [Act.put, List.setIfInBounds_toArray, List.set_cons_zero, List.set_cons_succ]
    refine anyL_take (i := 2) (v := ?_) rfl (by kernel_rfl) (by kernel_rfl) (by kernel_rfl) (by kernel_rfl) (by kernel_rfl) (fun _ _ _ h => h) (Or.inl ⟨by rfl, ?_⟩) (by assumption) ?_
    rotate_left
    · (intro w0 hSw; (try dsimp only at hSw); go_simp; first | done | with_reducible rfl)
    try simp only [Act.put, List.setIfInBounds_toArray, List.set_cons_zero, List.set_cons_succ]
    refine anyL_take (i := 3) (v := ?_) rfl (by kernel_rfl) (by kernel_rfl) (by kernel_rfl) (by kernel_rfl) (by kernel_rfl) (fun _ _ _ h => h) (Or.inl ⟨by rfl, ?_⟩) (by assumption) ?_
    rotate_left
    · (intro w0 hSw; (try dsimp only at hSw); go_simp; first | done | with_reducible rfl)
    try simp only [Act.put, List.setIfInBounds_toArray, List.set_cons_zero, List.set_cons_succ]
    refine anyL_take (i := 4) (v := ?_) rfl (by kernel_rfl) (by kernel_rfl) (by kernel_rfl) (by kernel_rfl) (by kernel_rfl) (fun _ _ _ h => h) (Or.inl ⟨by rfl, ?_⟩) (by assumption) ?_
    rotate_left
    · (intro w0 hSw; (try dsimp only at hSw); go_simp; first | done | with_reducible rfl)
    try simp only [Act.put, List.setIfInBounds_toArray, List.set_cons_zero, List.set_cons_succ]
    refine anyL_take (i := 5) (v := ?_) rfl (by kernel_rfl) (by kernel_rfl) (by kernel_rfl) (by kernel_rfl) (by kernel_rfl) (fun _ _ _ h => h) (Or.inl ⟨by rfl, ?_⟩) (by assumption) ?_
    rotate_left
    · (intro w0 hSw; (try dsimp only at hSw); go_simp; first | done | with_reducible rfl)
    try simp only [Act.put, List.setIfInBounds_toArray, List.set_cons_zero, List.set_cons_succ]
    refine anyL_take (i := 6) (v := ?_) rfl (by kernel_rfl) (by kernel_rfl) (by kernel_rfl) (by kernel_rfl) (by kernel_rfl) (fun _ _ _ h => h) (Or.inl ⟨by rfl, ?_⟩) (by assumption) ?_
    rotate_left
    · (intro w0 hSw; (try dsimp only at hSw); go_simp; first | done | with_reducible rfl)
    try simp only [Act.put, List.setIfInBounds_toArray, List.set_cons_zero, List.set_cons_succ]
    refine anyL_take (i := 7) (v := ?_) rfl (by kernel_rfl) (by kernel_rfl) (by kernel_rfl) (by kernel_rfl) (by kernel_rfl) (fun _ _ _ h => h) (Or.inl ⟨by rfl, ?_⟩) (by assumption) ?_
    rotate_left
    · (intro w0 hSw; (try dsimp only at hSw); go_simp; first | done | with_reducible rfl)
    try simp only [Act.put, List.setIfInBounds_toArray, List.set_cons_zero, List.set_cons_succ]
    refine anyL_take (i := 8) (v := ?_) rfl (by kernel_rfl) (by kernel_rfl) (by kernel_rfl) (by kernel_rfl) (by kernel_rfl) (fun _ _ _ h => h) (Or.inl ⟨by rfl, ?_⟩) (by assumption) ?_
    rotate_left
    · (intro w0 hSw; (try dsimp only at hSw); go_simp; first | done | with_reducible rfl)
    try simp only [Act.put, List.setIfInBounds_toArray, List.set_cons_zero, List.set_cons_succ]
    refine anyL_take (i := 9) (v := ?_) rfl (by kernel_rfl) (by kernel_rfl) (by kernel_rfl) (by kernel_rfl) (by kernel_rfl) (fun _ _ _ h => h) (Or.inl ⟨by rfl, ?_⟩) (by assumption) ?_
    rotate_left
    · (intro w0 hSw; (try dsimp only at hSw); go_simp; first | done | with_reducible rfl)
    try simp only [Act.put, List.setIfInBounds_toArray, List.set_cons_zero, List.set_cons_succ]
    refine anyL_take (i := 10) (v := ?_) rfl (by kernel_rfl) (by kernel_rfl) (by kernel_rfl) (by kernel_rfl) (by kernel_rfl) (fun _ _ _ h => h) (Or.inl ⟨by rfl, ?_⟩) (by assumption) ?_
    rotate_left
    · (intro w0 hSw; (try dsimp only at hSw); go_simp; first | done | with_reducible rfl)
    try simp only [Act.put, List.setIfInBounds_toArray, List.set_cons_zero, List.set_cons_succ]
    refine anyL_take (i := 11) (v := ?_) rfl (by kernel_rfl) (by kernel_rfl) (by kernel_rfl) (by kernel_rfl) (by kernel_rfl) (fun _ _ _ h => h) (Or.inl ⟨by rfl, ?_⟩) (by assumption) ?_
    rotate_left
    · (intro w0 hSw; (try dsimp only at hSw); go_simp; first | done | with_reducible rfl)
    try simp only [Act.put, List.setIfInBounds_toArray, List.set_cons_zero, List.set_cons_succ]
    refine anyL_one (i := 12) (by kernel_rfl) rfl (fun K hK => ?_)
    go_simp
    refine hK.out _ _ (fun _ => ringS_new hHeld) (fun hNext => ?_)
    replace hNext := hNext (by kernel_rfl)
    clear hK K hHeld
    try simp only [Act.put, List.setIfInBounds_toArray, List.set_cons_zero, List.set_cons_succ]
    refine anyL_one (i := 13) (by kernel_rfl) rfl (fun K hK => ?_)
    refine step_ring rfl _ _ rfl w ab gj gr _ n m js rs ⟨x.j, x.t, x.c⟩ x (by simp [Act.eval]) (by simp [Act.eval]) (hOa.out _) (hBa.out _) (hEa.out _) (by omega) (heap_new w2 _) hnn.out hmm.out (by omega) ?_
    intro g cap w5 z5 f5 RR
    have hE5 : w5.heap[w.heap.size]? = some (boxE x.k x.j x.v x.t x.c) := RR.out.box
    refine hK.out _ _ (fun _ => ⟨by rw [z5]; rfl, by rw [Joins.cell_of_block hE5]; rfl, by rw [Joins.cell_of_block hE5]; rfl, by rw [Joins.cell_of_block hE5]; rfl⟩) (fun hNext => ?_)
    replace hNext := hNext (by kernel_rfl)
    clear hK K 
    try simp only [Act.put, List.setIfInBounds_toArray, List.set_cons_zero, List.set_cons_succ]
    refine anyL_one (i := 14) (by kernel_rfl) rfl (fun K hK => ?_)
    go_simp
    refine hK.out _ _ (fun _ => hNext) (fun _ => ?_)
    clear hK K
    try simp only [Act.put, List.setIfInBounds_toArray, List.set_cons_zero, List.set_cons_succ]
    refine anyL_one (i := 15) (by kernel_rfl) rfl (fun K hK => ?_)
    go_simp
    refine hK.out _ _ (fun _ => hNext) (fun _ => ?_)
    clear hK K
    try simp only [Act.put, List.setIfInBounds_toArray, List.set_cons_zero, List.set_cons_succ]
    refine anyL_one (i := 16) (by kernel_rfl) rfl (fun K hK => ?_)
    go_simp
    refine hK.out _ _ (fun h => absurd h (by decide +kernel)) (fun _ => ?_)
    clear hK K
    refine anyL_done (by kernel_rfl) ?_ _
    refine NoPanic.normal ?_
    try simp only [Act.put, List.setIfInBounds_toArray, List.set_cons_zero, List.set_cons_succ]
    clear z5 f5 hNext hE5 y1 e1 hS0
    have j6 := RR.out.jobs6
    have a6 := RR.out.head6
    generalize hw6 : w5.setCell ⟨ab, 1, none⟩ (.slice (some ⟨g, 0, none⟩) (m + 1) cap) = w6 at *
    have HW6 : Hid (w5.setCell ⟨ab, 1, none⟩ (.slice (some ⟨g, 0, none⟩) (m + 1) cap) = w6) := hw6
    clear hw6
    have hrow : RowAt Jb.cells 3 w6 gj 0 js := rowAt_block Jb.three j6 ⟨[], by simp⟩
    have j1 : w6.cell? ⟨gj, k * 3 + 1, none⟩ = some (.int .i64 y.e) := by have := hrow k y HX.out 1 _ rfl; rwa [Nat.zero_add] at this
    have j2 : w6.cell? ⟨gj, k * 3 + 2, none⟩ = some (.int .i64 y.n) := by have := hrow k y HX.out 2 _ rfl; rwa [Nat.zero_add] at this
    have fj : ∀ i, w6.frozen? ⟨gj, i, none⟩ = false := fun i => Joins.unfrozen_of_block j6 i
    have c6 : w6.cell? ⟨ab, 0, none⟩ = some (.slice (some ⟨gj, 0, none⟩) n n) := by rw [Joins.cell_of_block a6]; rfl
    clear hrow j6 a6
    go_wp2_with fail
    refine wp_region_noPanic ?_
    refine region_L (fun w' => w'.cell? ⟨ab, 0, none⟩ = some (.slice (some ⟨gj, 0, none⟩) n n) ∧ w'.cell? ⟨gj, k * 3 + 1, none⟩ = some (.int .i64 y.e) ∧ w'.cell? ⟨gj, k * 3 + 2, none⟩ = some (.int .i64 y.n)) 19 (by kernel_rfl) (⟨c6, j1, j2⟩) (fun hHeld => ?_)
    refine anyL_take (i := 0) (v := ?_) rfl (by kernel_rfl) (by kernel_rfl) (by kernel_rfl) (by kernel_rfl) (by kernel_rfl) (fun _ _ _ h => h) (Or.inl ⟨by rfl, ?_⟩) (by assumption) ?_
    rotate_left
    · (intro w0 hSw; (try dsimp only at hSw); go_simp; first | done | with_reducible rfl)
    try simp only [Act.put, List.setIfInBounds_toArray, List.set_cons_zero, List.set_cons_succ]
    refine anyL_take (i := 1) (v := ?_) rfl (by kernel_rfl) (by kernel_rfl) (by kernel_rfl) (by kernel_rfl) (by kernel_rfl) (fun _ _ _ h => h) (Or.inl ⟨by rfl, ?_⟩) (by assumption) ?_
    rotate_left
    · (intro w0 hSw; (try dsimp only at hSw); go_simp; first | done | with_reducible rfl)
    try simp only [Act.put, List.setIfInBounds_toArray, List.set_cons_zero, List.set_cons_succ]
    refine anyL_take (i := 2) (v := ?_) rfl (by kernel_rfl) (by kernel_rfl) (by kernel_rfl) (by kernel_rfl) (by kernel_rfl) (fun _ _ _ h => h) (Or.inl ⟨by rfl, ?_⟩) (by assumption) ?_
    rotate_left
    · (intro w0 hSw; (try dsimp only at hSw); go_simp; first | done | with_reducible rfl)
    try simp only [Act.put, List.setIfInBounds_toArray, List.set_cons_zero, List.set_cons_succ]
    refine anyL_take (i := 3) (v := ?_) rfl (by kernel_rfl) (by kernel_rfl) (by kernel_rfl) (by kernel_rfl) (by kernel_rfl) (fun _ _ _ h => h) (Or.inl ⟨by rfl, ?_⟩) (by assumption) ?_
    rotate_left
    · (intro w0 hSw; (try dsimp only at hSw); go_simp; first | done | with_reducible rfl)
    try simp only [Act.put, List.setIfInBounds_toArray, List.set_cons_zero, List.set_cons_succ]
    refine anyL_take (i := 4) (v := ?_) rfl (by kernel_rfl) (by kernel_rfl) (by kernel_rfl) (by kernel_rfl) (by kernel_rfl) (fun _ _ _ h => h) (Or.inl ⟨by rfl, ?_⟩) (by assumption) ?_
    rotate_left
    · (intro w0 hSw; (try dsimp only at hSw); go_simp; first | done | with_reducible rfl)
    try simp only [Act.put, List.setIfInBounds_toArray, List.set_cons_zero, List.set_cons_succ]
    refine anyL_take (i := 5) (v := ?_) rfl (by kernel_rfl) (by kernel_rfl) (by kernel_rfl) (by kernel_rfl) (by kernel_rfl) (fun _ _ _ h => h) (Or.inl ⟨by rfl, ?_⟩) (by assumption) ?_
    rotate_left
    · (intro w0 hSw; (try dsimp only at hSw); go_simp; first | done | with_reducible rfl)
    try simp only [Act.put, List.setIfInBounds_toArray, List.set_cons_zero, List.set_cons_succ]
    refine anyL_take (i := 6) (v := ?_) rfl (by kernel_rfl) (by kernel_rfl) (by kernel_rfl) (by kernel_rfl) (by kernel_rfl) (fun _ _ _ h => h) (Or.inl ⟨by rfl, ?_⟩) (by assumption) ?_
    rotate_left
    · (intro w0 hSw; (try dsimp only at hSw); go_simp; first | done | with_reducible rfl)
    try simp only [Act.put, List.setIfInBounds_toArray, List.set_cons_zero, List.set_cons_succ]
    refine anyL_take (i := 7) (v := ?_) rfl (by kernel_rfl) (by kernel_rfl) (by kernel_rfl) (by kernel_rfl) (by kernel_rfl) (fun _ _ _ h => h) (Or.inl ⟨by rfl, ?_⟩) (by assumption) ?_
    rotate_left
    · (intro w0 hSw; (try dsimp only at hSw); go_simp; first | done | with_reducible rfl)
    try simp only [Act.put, List.setIfInBounds_toArray, List.set_cons_zero, List.set_cons_succ]
    refine anyL_take (i := 8) (v := ?_) rfl (by kernel_rfl) (by kernel_rfl) (by kernel_rfl) (by kernel_rfl) (by kernel_rfl) (fun _ _ _ h => h) (Or.inl ⟨by rfl, ?_⟩) (by assumption) ?_
    rotate_left
    · (intro w0 hSw; (try dsimp only at hSw); go_simp; first | done | with_reducible rfl)
    try simp only [Act.put, List.setIfInBounds_toArray, List.set_cons_zero, List.set_cons_succ]
    refine anyL_take (i := 9) (v := ?_) rfl (by kernel_rfl) (by kernel_rfl) (by kernel_rfl) (by kernel_rfl) (by kernel_rfl) (fun _ _ _ h => h) (Or.inl ⟨by rfl, ?_⟩) (by assumption) ?_
    rotate_left
    · (intro w0 hSw; (try dsimp only at hSw); go_simp; first | done | with_reducible rfl)
    try simp only [Act.put, List.setIfInBounds_toArray, List.set_cons_zero, List.set_cons_succ]
    refine anyL_take (i := 10) (v := ?_) rfl (by kernel_rfl) (by kernel_rfl) (by kernel_rfl) (by kernel_rfl) (by kernel_rfl) (fun _ _ _ h => h) (Or.inl ⟨by rfl, ?_⟩) (by assumption) ?_
    rotate_left
    · (intro w0 hSw; (try dsimp only at hSw); go_simp; first | done | with_reducible rfl)
    try simp only [Act.put, List.setIfInBounds_toArray, List.set_cons_zero, List.set_cons_succ]
    refine anyL_take (i := 11) (v := ?_) rfl (by kernel_rfl) (by kernel_rfl) (by kernel_rfl) (by kernel_rfl) (by kernel_rfl) (fun _ _ _ h => h) (Or.inl ⟨by rfl, ?_⟩) (by assumption) ?_
    rotate_left
    · (intro w0 hSw; (try dsimp only at hSw); go_simp; first | done | with_reducible rfl)
    try simp only [Act.put, List.setIfInBounds_toArray, List.set_cons_zero, List.set_cons_succ]
    refine anyL_take (i := 12) (v := ?_) rfl (by kernel_rfl) (by kernel_rfl) (by kernel_rfl) (by kernel_rfl) (by kernel_rfl) (fun _ _ _ h => h) (Or.inl ⟨by rfl, ?_⟩) (by assumption) ?_
    rotate_left
    · (intro w0 hSw; (try dsimp only at hSw); go_simp; first | done | with_reducible rfl)
    try simp only [Act.put, List.setIfInBounds_toArray, List.set_cons_zero, List.set_cons_succ]
    refine anyL_take (i := 13) (v := ?_) rfl (by kernel_rfl) (by kernel_rfl) (by kernel_rfl) (by kernel_rfl) (by kernel_rfl) (fun _ _ _ h => h) (Or.inl ⟨by rfl, ?_⟩) (by assumption) ?_
    rotate_left
    · (intro w0 hSw; (try dsimp only at hSw); go_simp; first | done | with_reducible rfl)
    try simp only [Act.put, List.setIfInBounds_toArray, List.set_cons_zero, List.set_cons_succ]
    refine anyL_take (i := 14) (v := ?_) rfl (by kernel_rfl) (by kernel_rfl) (by kernel_rfl) (by kernel_rfl) (by kernel_rfl) (fun _ _ _ h => h) (Or.inl ⟨by rfl, ?_⟩) (by assumption) ?_
    rotate_left
    · (intro w0 hSw; (try dsimp only at hSw); go_simp; first | done | with_reducible rfl)
    try simp only [Act.put, List.setIfInBounds_toArray, List.set_cons_zero, List.set_cons_succ]
    refine anyL_take (i := 15) (v := ?_) rfl (by kernel_rfl) (by kernel_rfl) (by kernel_rfl) (by kernel_rfl) (by kernel_rfl) (fun _ _ _ h => h) (Or.inl ⟨by rfl, ?_⟩) (by assumption) ?_
    rotate_left
    · (intro w0 hSw; (try dsimp only at hSw); go_simp; first | done | with_reducible rfl)
    try simp only [Act.put, List.setIfInBounds_toArray, List.set_cons_zero, List.set_cons_succ]
    refine anyL_take (i := 16) (v := ?_) rfl (by kernel_rfl) (by kernel_rfl) (by kernel_rfl) (by kernel_rfl) (by kernel_rfl) (fun _ _ _ h => h) (Or.inl ⟨by rfl, ?_⟩) (by assumption) ?_
    rotate_left
    · (intro w0 hSw; (try dsimp only at hSw); go_simp; first | done | with_reducible rfl)
    try simp only [Act.put, List.setIfInBounds_toArray, List.set_cons_zero, List.set_cons_succ]
    refine anyL_one (i := 17) (by kernel_rfl) rfl (fun K hK => ?_)
    go_simp
    refine hK.out _ _ (fun _ => hHeld) (fun _ => ?_)
    clear hK K
    try simp only [Act.put, List.setIfInBounds_toArray, List.set_cons_zero, List.set_cons_succ]
    refine anyL_one (i := 18) (by kernel_rfl) rfl (fun K hK => ?_)
    go_simp
    refine hK.out _ _ (fun _ => hHeld) (fun _ => ?_)
    clear hK K
    try simp only [Act.put, List.setIfInBounds_toArray, List.set_cons_zero, List.set_cons_succ]
    refine anyL_one (i := 19) (by kernel_rfl) rfl (fun K hK => ?_)
    go_simp
    refine hK.out _ _ (fun h => absurd h (by decide +kernel)) (fun _ => ?_)
    clear hK K
    refine anyL_done (by kernel_rfl) ?_ _
    refine NoPanic.normal ?_
    try simp only [Act.put, List.setIfInBounds_toArray, List.set_cons_zero, List.set_cons_succ]
    go_wp2
    have hwrp : IntKind.i64.wrap (y.n + y.e) = y.n + y.e := by rw [IntKind.wrap_i64]; omega
    rw [← HW6.out, hwrp]
    exact bodyPost_end (v := .tuple #[]) (by simp [results, go_sem]) rfl ⟨rfl, RR.out.done hnn.out HX.out _⟩
end Go.Proofs.YtmoaobfmopimlafGreatDoor
namespace Go.Proofs.YtmoaobfmopimlafGreatDoor
open Go.RowKit Go.Shelf
theorem Left.more {w W : World} {ab : Nat} {S S' : List Nat} {js : List Jb} {rs : List Rg} {u1 u2 : Value} (h : Left w W ab S js rs u1 u2) (hs : ∀ k, k ∈ S → k ∈ S') : Left w W ab S' js rs u1 u2 :=
  ⟨h.head, h.jobs, h.rungs, h.room, h.kept.more hs, h.tj, h.tr⟩
theorem left_more {fn : FuncId} {args : Array Value} {W : World} {ab gj gr : Nat} {js : List Jb} {rs : List Rg} (h : Calls Tryz.prog fn args W fun e w' => e = .returned (.tuple #[]) ∧ ∃ u1 u2, Left W w' ab [ab, gj] js rs u1 u2) :
    Calls Tryz.prog fn args W fun e w' => e = .returned (.tuple #[]) ∧ ∃ u1 u2, Left W w' ab [ab, gj, gr] js rs u1 u2 :=
  h.mono fun _ _ ⟨he, u1, u2, hL⟩ => ⟨he, u1, u2, hL.more (fun k hk => by simp at hk ⊢; rcases hk with h | h <;> simp [h])⟩
/-- A new job in its place. -/
theorem place_alt {js : List Jb} {i : Int} {z : Jb} (hs : Srt (-1) js) (hn : tab js i = none) : js.take (place js i) ++ z :: js.drop (place js i) = alt js i (some z) := by
  have hne := tab_none.1 hn
  have e : js = js.take (place js i) ++ js.drop (place js i) := (List.take_append_drop _ _).symm
  have ha : ∀ x, x ∈ js.take (place js i) → x.i < i := fun x hx => by
    have hm := List.mem_of_mem_take hx
    have h1 := hne x hm
    have h2 : decide (i < x.i) = false := by
      unfold place at hx
      rcases idx_ways (fun y : Jb => decide (i < y.i)) js with ⟨_, hall⟩ | ⟨k, y, hi, _, _, _, hb⟩
      · exact hall x hm
      · rw [hi, if_neg (by omega)] at hx
        exact hb x (by simpa using hx)
    have : ¬ i < x.i := by simpa using h2
    omega
  have hb : ∀ x, x ∈ js.drop (place js i) → i < x.i := fun x hx => by
    unfold place at hx
    rcases idx_ways (fun y : Jb => decide (i < y.i)) js with ⟨hi, _⟩ | ⟨k, y, hi, _, hy, hp, _⟩
    · rw [hi] at hx
      simp at hx
    · rw [hi, if_neg (by omega)] at hx
      exact srt_above_at hs hy (by simpa using hp) x (by simpa using hx)
  have h := alt_gap ha hb (some z)
  rw [← e] at h
  rw [h]
  simp
theorem set_alt {js : List Jb} {k : Nat} {y z : Jb} (hs : Srt (-1) js) (hy : js[k]? = some y) : js.set k z = alt js y.i (some z) := by
  have hlt := (List.getElem?_eq_some_iff.1 hy).1
  have e : js = js.take k ++ y :: js.drop (k + 1) := by rw [← drop_at hy, List.take_append_drop]
  have e2 : js.set k z = js.take k ++ z :: js.drop (k + 1) := List.set_eq_take_append_cons_drop.trans (by rw [if_pos hlt])
  have hs' := hs
  rw [e] at hs'
  have h := alt_mid hs' (some z)
  rw [← e] at h
  rw [e2, h]
  simp
/-- What put, drop and ring do, at a right book and entry. -/
theorem does_any {js : List Jb} {rs : List Rg} {x : En} (hok : Ok js rs) (hx : x.chk = 0) : Does js rs x := by
  obtain ⟨_, ⟨hj0, _⟩, _⟩ := En.right hx
  refine ⟨fun hk W ab gj gr hO => ?_, fun hk W ab gj gr hO => ?_, fun hk W ab gj gr hO => ?_⟩
  · rcases jobAt_ways js x.j with ⟨hja, htab⟩ | ⟨k, z, hja, hz, htab⟩
    · have hst : step js rs x = (alt js x.j (some ⟨x.j, x.v, x.t⟩), rs) := by rw [step, if_pos hk, htab]
      rw [hst, ← place_alt hok.srt htab]
      refine left_more ?_
      by_cases hr : 0 ≤ idx (fun y => decide (x.j < y.i)) js
      · exact put_mid x ab gj gr js rs W hO hok.few hja hr
      · exact put_end x ab gj gr js rs W hO hok.few hja (by omega)
    · have hst : step js rs x = (js, rs) := by rw [step, if_pos hk, htab]
      rw [hst]
      exact left_more (put_there x ab gj gr js rs W hO hok.few (by rw [hja]; omega))
  · have hst : step js rs x = (js.filter (fun y => !(y.i == x.j)), rs) := by rw [step, if_neg (by omega), if_pos hk, alt_filter hok.srt (by omega)]
    rw [hst]
    exact left_more (drop_any x ab gj gr js rs W hO hok.few)
  · rcases jobAt_ways js x.j with ⟨hja, htab⟩ | ⟨k, z, hja, hz, htab⟩
    · have hst : step js rs x = (js, rs) := by rw [step, if_neg (by omega), if_neg (by omega), if_pos hk, htab]
      rw [hst]
      exact left_more (ring_lost x ab gj gr js rs W hO hok.few hja)
    · have hst : step js rs x = if z.n = x.t ∧ rs.length < 60 then (alt js x.j (some ⟨x.j, z.e, x.t + z.e⟩), rs ++ [⟨x.j, x.t, x.c⟩]) else (js, rs) := by
        rw [step, if_neg (by omega), if_neg (by omega), if_pos hk, htab]
      rw [hst]
      by_cases hn : z.n = x.t
      · by_cases hf : rs.length < 60
        · rw [if_pos ⟨hn, hf⟩]
          have hzi := (tab_id htab).1
          have h := ring_do x ab gj gr js rs W hO hok.few k z hja hz hn hf (hok.jobs z (tab_id htab).2)
          rw [set_alt hok.srt hz, hzi, hn] at h
          exact h
        · rw [if_neg (fun h => hf h.2)]
          exact left_more (ring_full x ab gj gr js rs W hO hok.few k z hja hz hn (by omega))
      · rw [if_neg (fun h => hn h.1)]
        exact left_more (ring_other x ab gj gr js rs W hO hok.few k z hja hz hn)
/-- book.Apply, at every book and entry; its rows lie in blocks of their own types. -/
theorem bk_applyT (v1 v2 : Value) (js : List Jb) (rs : List Rg) (x : En) (w : World) (h1 : JobSl w v1 js) (h2 : RungSl w v2 rs) :
    Calls Tryz.prog 205 #[.agg #[v1, v2], x.val] w fun e w' => ∃ u1 u2, e = .returned (.tuple #[.agg #[u1, u2], .int .i64 (app js rs x).2]) ∧ JobSl w' u1 (app js rs x).1.1 ∧ RungSl w' u2 (app js rs x).1.2 ∧ Below w.heap.size w w' ∧ Roomy u2 ∧ Typed 120 w' u1 ∧ Typed 76 w' u2 := by
  obtain ⟨a1, c1, a2, c2, rfl, rfl⟩ := bk_slices h1 h2
  unfold app
  by_cases hb : ckBook js rs = 0
  · rw [if_neg (by simpa using hb)]
    by_cases hx : x.chk = 0
    · rw [if_neg (by simpa using hx)]
      exact bk_app_ok a1 a2 _ _ c1 c2 js rs x w h1 h2 (ckBook_zero.1 hb) hx (does_any (ckBook_zero.1 hb) hx)
    · rw [if_pos hx]
      exact zero_typed (bk_app_entry a1 a2 _ _ c1 c2 js rs x w h1 h2 hb hx)
  · rw [if_pos hb]
    exact zero_typed (bk_app_book a1 a2 _ _ c1 c2 js rs x w h1 h2 hb)
end Go.Proofs.YtmoaobfmopimlafGreatDoor
namespace Go.Proofs.YtmoaobfmopimlafGreatDoor
open Go.RowKit
set_option linter.unusedSimpArgs false in
set_option maxHeartbeats 4000000 in
set_option maxRecDepth 100000 in
theorem zl_ck (c : Cl) (a1 a2 : Option Addr) (m1 k1 m2 k2 : Nat) (q : Int) (w : World) (hb : BkAt w (.slice a1 m1 k1) (.slice a2 m2 k2) c) (d : Int) (hck : c.ck = d) (hz : (d != 0) = true) :
    AnsX 131 #[c.val (.slice a1 m1 k1) (.slice a2 m2 k2), .int .i64 q] w (Cl.zero, d) nil0 nil0 := by
  have HB0 : Aside (Below w.heap.size w ((w.alloc (boxC c (.slice a1 m1 k1) (.slice a2 m2 k2))).alloc (boxC Cl.zero nil0 nil0))) := grew (grew (Below.refl _ _) _) _
  have HX0 : Aside (((w.alloc (boxC c (.slice a1 m1 k1) (.slice a2 m2 k2))).alloc (boxC Cl.zero nil0 nil0)).heap[w.heap.size]? = some (boxC c (.slice a1 m1 k1) (.slice a2 m2 k2))) := heap_old (heap_new _ _) _
  have HR0 : Aside (((w.alloc (boxC c (.slice a1 m1 k1) (.slice a2 m2 k2))).alloc (boxC Cl.zero nil0 nil0)).heap[w.heap.size + 1]? = some (boxC Cl.zero nil0 nil0)) := by
    have := heap_new (w.alloc (boxC c (.slice a1 m1 k1) (.slice a2 m2 k2))) (boxC Cl.zero nil0 nil0)
    rw [World.size_alloc] at this
    exact this
  have kc := cl_check c (.slice a1 m1 k1) (.slice a2 m2 k2) _ (bkAt_later hb HB0.out)
  rw [hck] at kc
  have HK : Aside (BkAt w (.slice a1 m1 k1) (.slice a2 m2 k2) c) := hb
  clear hb hck
  go_enter Tryz.func131, Tryz.ntmps131
  go_wp2_with fail
  refine kc.mono ?_
  rintro r w1 ⟨rfl, hb1⟩
  have HX1 : Aside _ := heap_below HX0.out hb1 (heap_lt HX0.out)
  have HR1 : Aside _ := heap_below HR0.out hb1 (heap_lt HR0.out)
  have HB1 : Aside (Below w.heap.size w w1) := step_below HB0.out hb1
  clear hb1 HB0 HX0 HR0
  clear kc
  have zr : ∀ i, w1.cell? ⟨w.heap.size + 1, i, none⟩ = #[Value.int .i64 0, .int .i64 0, .int .i64 0, .int .i64 0, .int .i64 0, .int .i64 0, .int .i64 0, .int .i64 0, .int .i64 0, .int .i64 0, .slice none 0 0, .slice none 0 0][i]? := fun i => Joins.cell_of_block HR1.out i
  have fzr : ∀ i, w1.frozen? ⟨w.heap.size + 1, i, none⟩ = false := fun i => Joins.unfrozen_of_block HR1.out i
  go_wp2
  refine ret_st (p := 4) (q := 5) w1 (w.heap.size + 1) (Cl.zero) nil0 nil0 (o := Cl.zero) (u1 := nil0) (u2 := nil0) Tryz.results131 rfl rfl rfl HR1.out rfl ?_
  exact ⟨rfl, st12_below HB1.out (by omega) _ _ _⟩
set_option linter.unusedSimpArgs false in
set_option maxHeartbeats 4000000 in
set_option maxRecDepth 100000 in
theorem zl_rng (c : Cl) (a1 a2 : Option Addr) (m1 k1 m2 k2 : Nat) (q : Int) (w : World) (hb : BkAt w (.slice a1 m1 k1) (.slice a2 m2 k2) c) (hck : c.ck = 0) (h0 : ¬ (1 ≤ q ∧ q ≤ 20)) :
    AnsX 131 #[c.val (.slice a1 m1 k1) (.slice a2 m2 k2), .int .i64 q] w (Cl.zero, 3) nil0 nil0 := by
  have HB0 : Aside (Below w.heap.size w ((w.alloc (boxC c (.slice a1 m1 k1) (.slice a2 m2 k2))).alloc (boxC Cl.zero nil0 nil0))) := grew (grew (Below.refl _ _) _) _
  have HX0 : Aside (((w.alloc (boxC c (.slice a1 m1 k1) (.slice a2 m2 k2))).alloc (boxC Cl.zero nil0 nil0)).heap[w.heap.size]? = some (boxC c (.slice a1 m1 k1) (.slice a2 m2 k2))) := heap_old (heap_new _ _) _
  have HR0 : Aside (((w.alloc (boxC c (.slice a1 m1 k1) (.slice a2 m2 k2))).alloc (boxC Cl.zero nil0 nil0)).heap[w.heap.size + 1]? = some (boxC Cl.zero nil0 nil0)) := by
    have := heap_new (w.alloc (boxC c (.slice a1 m1 k1) (.slice a2 m2 k2))) (boxC Cl.zero nil0 nil0)
    rw [World.size_alloc] at this
    exact this
  have kc := cl_check c (.slice a1 m1 k1) (.slice a2 m2 k2) _ (bkAt_later hb HB0.out)
  rw [hck] at kc
  have HK : Aside (BkAt w (.slice a1 m1 k1) (.slice a2 m2 k2) c) := hb
  clear hb hck
  have hin := fun W => cepoch_any q W
  rw [decide_eq_false h0] at hin
  clear h0
  go_enter Tryz.func131, Tryz.ntmps131
  go_wp2_with fail
  refine kc.mono ?_
  rintro r w1 ⟨rfl, hb1⟩
  have HX1 : Aside _ := heap_below HX0.out hb1 (heap_lt HX0.out)
  have HR1 : Aside _ := heap_below HR0.out hb1 (heap_lt HR0.out)
  have HB1 : Aside (Below w.heap.size w w1) := step_below HB0.out hb1
  clear hb1 HB0 HX0 HR0
  clear kc
  go_wp2_with fail
  refine (hin _).mono ?_
  rintro r wx ⟨rfl, hwx⟩
  obtain rfl : w1 = wx := hwx.symm
  have zr : ∀ i, w1.cell? ⟨w.heap.size + 1, i, none⟩ = #[Value.int .i64 0, .int .i64 0, .int .i64 0, .int .i64 0, .int .i64 0, .int .i64 0, .int .i64 0, .int .i64 0, .int .i64 0, .int .i64 0, .slice none 0 0, .slice none 0 0][i]? := fun i => Joins.cell_of_block HR1.out i
  have fzr : ∀ i, w1.frozen? ⟨w.heap.size + 1, i, none⟩ = false := fun i => Joins.unfrozen_of_block HR1.out i
  go_wp2
  refine ret_st (p := 4) (q := 5) w1 (w.heap.size + 1) (Cl.zero) nil0 nil0 (o := Cl.zero) (u1 := nil0) (u2 := nil0) Tryz.results131 rfl rfl rfl HR1.out rfl ?_
  exact ⟨rfl, st12_below HB1.out (by omega) _ _ _⟩
set_option linter.unusedSimpArgs false in
set_option maxHeartbeats 4000000 in
set_option maxRecDepth 100000 in
theorem zl_old (c : Cl) (a1 a2 : Option Addr) (m1 k1 m2 k2 : Nat) (q : Int) (w : World) (hb : BkAt w (.slice a1 m1 k1) (.slice a2 m2 k2) c) (hck : c.ck = 0) (h0 : 1 ≤ q ∧ q ≤ 20) (h1 : decide (q ≤ c.p) = true) :
    AnsX 131 #[c.val (.slice a1 m1 k1) (.slice a2 m2 k2), .int .i64 q] w (Cl.zero, 8) nil0 nil0 := by
  have HB0 : Aside (Below w.heap.size w ((w.alloc (boxC c (.slice a1 m1 k1) (.slice a2 m2 k2))).alloc (boxC Cl.zero nil0 nil0))) := grew (grew (Below.refl _ _) _) _
  have HX0 : Aside (((w.alloc (boxC c (.slice a1 m1 k1) (.slice a2 m2 k2))).alloc (boxC Cl.zero nil0 nil0)).heap[w.heap.size]? = some (boxC c (.slice a1 m1 k1) (.slice a2 m2 k2))) := heap_old (heap_new _ _) _
  have HR0 : Aside (((w.alloc (boxC c (.slice a1 m1 k1) (.slice a2 m2 k2))).alloc (boxC Cl.zero nil0 nil0)).heap[w.heap.size + 1]? = some (boxC Cl.zero nil0 nil0)) := by
    have := heap_new (w.alloc (boxC c (.slice a1 m1 k1) (.slice a2 m2 k2))) (boxC Cl.zero nil0 nil0)
    rw [World.size_alloc] at this
    exact this
  have kc := cl_check c (.slice a1 m1 k1) (.slice a2 m2 k2) _ (bkAt_later hb HB0.out)
  rw [hck] at kc
  have HK : Aside (BkAt w (.slice a1 m1 k1) (.slice a2 m2 k2) c) := hb
  clear hb hck
  have hin := fun W => cepoch_any q W
  rw [decide_eq_true h0] at hin
  clear h0
  go_enter Tryz.func131, Tryz.ntmps131
  go_wp2_with fail
  refine kc.mono ?_
  rintro r w1 ⟨rfl, hb1⟩
  have HX1 : Aside _ := heap_below HX0.out hb1 (heap_lt HX0.out)
  have HR1 : Aside _ := heap_below HR0.out hb1 (heap_lt HR0.out)
  have HB1 : Aside (Below w.heap.size w w1) := step_below HB0.out hb1
  clear hb1 HB0 HX0 HR0
  clear kc
  have z : ∀ i, w1.cell? ⟨w.heap.size, i, none⟩ = #[Value.int .i64 c.p, .int .i64 c.d, .int .i64 c.e.k, .int .i64 c.e.j, .int .i64 c.e.v, .int .i64 c.e.t, .int .i64 c.e.c, .int .i64 c.a, .int .i64 c.l, .int .i64 c.n, .slice a1 m1 k1, .slice a2 m2 k2][i]? := fun i => Joins.cell_of_block HX1.out i
  go_wp2_with fail
  refine (hin _).mono ?_
  rintro r wx ⟨rfl, hwx⟩
  obtain rfl : w1 = wx := hwx.symm
  have zr : ∀ i, w1.cell? ⟨w.heap.size + 1, i, none⟩ = #[Value.int .i64 0, .int .i64 0, .int .i64 0, .int .i64 0, .int .i64 0, .int .i64 0, .int .i64 0, .int .i64 0, .int .i64 0, .int .i64 0, .slice none 0 0, .slice none 0 0][i]? := fun i => Joins.cell_of_block HR1.out i
  have fzr : ∀ i, w1.frozen? ⟨w.heap.size + 1, i, none⟩ = false := fun i => Joins.unfrozen_of_block HR1.out i
  go_wp2
  refine ret_st (p := 4) (q := 5) w1 (w.heap.size + 1) (Cl.zero) nil0 nil0 (o := Cl.zero) (u1 := nil0) (u2 := nil0) Tryz.results131 rfl rfl rfl HR1.out rfl ?_
  exact ⟨rfl, st12_below HB1.out (by omega) _ _ _⟩
set_option linter.unusedSimpArgs false in
set_option maxHeartbeats 4000000 in
set_option maxRecDepth 100000 in
theorem zl_ok (c : Cl) (a1 a2 : Option Addr) (m1 k1 m2 k2 : Nat) (q : Int) (w : World) (hb : BkAt w (.slice a1 m1 k1) (.slice a2 m2 k2) c) (hck : c.ck = 0) (h0 : 1 ≤ q ∧ q ≤ 20) (h1 : decide (q ≤ c.p) = false) (hn1 : c.js.length ≤ 1000000) (hn2 : c.rs.length ≤ 1000000) :
    AnsT 131 #[c.val (.slice a1 m1 k1) (.slice a2 m2 k2), .int .i64 q] w ((⟨q, c.d, c.e, c.a, c.l, c.n, c.js, c.rs⟩ : Cl), 0) := by
  have HB0 : Aside (Below w.heap.size w ((w.alloc (boxC c (.slice a1 m1 k1) (.slice a2 m2 k2))).alloc (boxC Cl.zero nil0 nil0))) := grew (grew (Below.refl _ _) _) _
  have HX0 : Aside (((w.alloc (boxC c (.slice a1 m1 k1) (.slice a2 m2 k2))).alloc (boxC Cl.zero nil0 nil0)).heap[w.heap.size]? = some (boxC c (.slice a1 m1 k1) (.slice a2 m2 k2))) := heap_old (heap_new _ _) _
  have HR0 : Aside (((w.alloc (boxC c (.slice a1 m1 k1) (.slice a2 m2 k2))).alloc (boxC Cl.zero nil0 nil0)).heap[w.heap.size + 1]? = some (boxC Cl.zero nil0 nil0)) := by
    have := heap_new (w.alloc (boxC c (.slice a1 m1 k1) (.slice a2 m2 k2))) (boxC Cl.zero nil0 nil0)
    rw [World.size_alloc] at this
    exact this
  have kc := cl_check c (.slice a1 m1 k1) (.slice a2 m2 k2) _ (bkAt_later hb HB0.out)
  have kd : ∀ W, Below w.heap.size w W → Calls Tryz.prog 168 #[c.val (.slice a1 m1 k1) (.slice a2 m2 k2)] W fun e w' => ∃ u1 u2, e = .returned (c.val u1 u2) ∧ BkT w' u1 u2 c ∧ Below W.heap.size W w' := fun W hB => cl_apart c a1 a2 m1 k1 m2 k2 W (bkAt_later hb hB) hn1 hn2
  clear hn1 hn2
  rw [hck] at kc
  have HK : Aside (BkAt w (.slice a1 m1 k1) (.slice a2 m2 k2) c) := hb
  clear hb hck
  have hin := fun W => cepoch_any q W
  rw [decide_eq_true h0] at hin
  clear h0
  go_enter Tryz.func131, Tryz.ntmps131
  go_wp2_with fail
  refine kc.mono ?_
  rintro r w1 ⟨rfl, hb1⟩
  have HX1 : Aside _ := heap_below HX0.out hb1 (heap_lt HX0.out)
  have HR1 : Aside _ := heap_below HR0.out hb1 (heap_lt HR0.out)
  have HB1 : Aside (Below w.heap.size w w1) := step_below HB0.out hb1
  clear hb1 HB0 HX0 HR0
  clear kc
  have z : ∀ i, w1.cell? ⟨w.heap.size, i, none⟩ = #[Value.int .i64 c.p, .int .i64 c.d, .int .i64 c.e.k, .int .i64 c.e.j, .int .i64 c.e.v, .int .i64 c.e.t, .int .i64 c.e.c, .int .i64 c.a, .int .i64 c.l, .int .i64 c.n, .slice a1 m1 k1, .slice a2 m2 k2][i]? := fun i => Joins.cell_of_block HX1.out i
  go_wp2_with fail
  refine (hin _).mono ?_
  rintro r wx ⟨rfl, hwx⟩
  obtain rfl : w1 = wx := hwx.symm
  go_wp2_with fail
  refine (kd w1 HB1.out).mono ?_
  rintro r w2 ⟨u1, u2, rfl, hT2, hb2⟩
  have HR2 : Aside _ := heap_below HR1.out hb2 (heap_lt HR1.out)
  have HB2 : Aside (Below w.heap.size w w2) := step_below HB1.out hb2
  have HT2 : Aside (BkT w2 u1 u2 c) := hT2
  obtain ⟨s1, o1, s2, o2, rfl, rfl⟩ := bk_slices hT2.1.1 hT2.1.2
  clear hb2 kd HB1 HR1 hT2
  obtain ⟨n1, hn1⟩ : ∃ n, Hid (c.js.length = n) := ⟨_, rfl⟩
  obtain ⟨n2, hn2⟩ : ∃ n, Hid (c.rs.length = n) := ⟨_, rfl⟩
  rw [hn1.out, hn2.out] at HT2 ⊢
  clear z hin h1
  go_upto_region 9 with fail
  have HA3 : Aside ((w2.alloc (boxC c (.slice s1 n1 o1) (.slice s2 n2 o2))).heap[w2.heap.size]? = some (boxC c (.slice s1 n1 o1) (.slice s2 n2 o2))) := heap_new _ _
  have HD3 : Aside (Below w2.heap.size w2 (w2.alloc (boxC c (.slice s1 n1 o1) (.slice s2 n2 o2)))) := grew (Below.refl _ _) _
  generalize (w2.alloc (boxC c (.slice s1 n1 o1) (.slice s2 n2 o2))) = X at *
  have z : ∀ i, X.cell? ⟨w2.heap.size, i, none⟩ = #[Value.int .i64 c.p, .int .i64 c.d, .int .i64 c.e.k, .int .i64 c.e.j, .int .i64 c.e.v, .int .i64 c.e.t, .int .i64 c.e.c, .int .i64 c.a, .int .i64 c.l, .int .i64 c.n, (.slice s1 n1 o1), (.slice s2 n2 o2)][i]? := fun i => Joins.cell_of_block HA3.out i
  have fz : ∀ i, X.frozen? ⟨w2.heap.size, i, none⟩ = false := fun i => Joins.unfrozen_of_block HA3.out i
  go_upto_region 10 with fail
  have g0 := Joins.block_setCell HA3.out (i := 0) (.int .i64 q)
  simp only [List.setIfInBounds_toArray, List.set_cons_zero, List.set_cons_succ] at g0
  have HX4 : Aside ((X.setCell ⟨w2.heap.size, 0, none⟩ (.int .i64 q)).heap[w2.heap.size]? = some (boxC (⟨q, c.d, c.e, c.a, c.l, c.n, c.js, c.rs⟩ : Cl) (.slice s1 n1 o1) (.slice s2 n2 o2))) := g0
  have HD4 : Aside (Below w2.heap.size w2 (X.setCell ⟨w2.heap.size, 0, none⟩ (.int .i64 q))) := HD3.out.setCell (p := ⟨w2.heap.size, 0, none⟩) (Nat.le_refl _) _
  clear g0 HA3 HD3 z fz
  generalize X.setCell ⟨w2.heap.size, 0, none⟩ (.int .i64 q) = w4 at *
  have HR4 : Aside _ := heap_below HR2.out HD4.out (heap_lt HR2.out)
  have HB4 : Aside (Below w.heap.size w w4) := step_below HB2.out HD4.out
  have HT4 : Aside _ := bkT_later HT2.out HD4.out
  have z : ∀ i, w4.cell? ⟨w2.heap.size, i, none⟩ = #[Value.int .i64 q, .int .i64 c.d, .int .i64 c.e.k, .int .i64 c.e.j, .int .i64 c.e.v, .int .i64 c.e.t, .int .i64 c.e.c, .int .i64 c.a, .int .i64 c.l, .int .i64 c.n, (.slice s1 n1 o1), (.slice s2 n2 o2)][i]? := fun i => Joins.cell_of_block HX4.out i
  clear HR2 HB2 HT2 HD4
  have zr : ∀ i, w4.cell? ⟨w.heap.size + 1, i, none⟩ = #[Value.int .i64 0, .int .i64 0, .int .i64 0, .int .i64 0, .int .i64 0, .int .i64 0, .int .i64 0, .int .i64 0, .int .i64 0, .int .i64 0, .slice none 0 0, .slice none 0 0][i]? := fun i => Joins.cell_of_block HR4.out i
  have fzr : ∀ i, w4.frozen? ⟨w.heap.size + 1, i, none⟩ = false := fun i => Joins.unfrozen_of_block HR4.out i
  go_wp2
  refine ret_st (p := 4) (q := 5) w4 (w.heap.size + 1) ((⟨q, c.d, c.e, c.a, c.l, c.n, c.js, c.rs⟩ : Cl)) (.slice s1 n1 o1) (.slice s2 n2 o2) (o := Cl.zero) (u1 := nil0) (u2 := nil0) Tryz.results131 rfl rfl rfl HR4.out rfl ?_
  exact ⟨(.slice s1 n1 o1), (.slice s2 n2 o2), rfl, bkT_st12 ⟨_, HR4.out⟩ (bkT_cong HT4.out rfl rfl) _ _ _, st12_below HB4.out (by omega) _ _ _⟩
/-- client.Learn. -/
theorem cl_learn (c : Cl) (q : Int) (v1 v2 : Value) (w : World) (hb : BkAt w v1 v2 c) : AnsT 131 #[c.val v1 v2, .int .i64 q] w (learnOf c q) := by
  obtain ⟨a1, k1, a2, k2, rfl, rfl⟩ := bk_slices hb.1 hb.2
  unfold learnOf
  by_cases hc : c.ck = 0
  · rw [if_neg (by simpa using hc)]
    by_cases hq : 1 ≤ q ∧ q ≤ 20
    · rw [if_neg (by simpa using hq)]
      by_cases ho : q ≤ c.p
      · rw [if_pos ho]
        exact ansT_zero <| zl_old c a1 a2 _ k1 _ k2 q w hb hc hq (decide_eq_true ho)
      · rw [if_neg ho]
        exact zl_ok c a1 a2 _ k1 _ k2 q w hb hc hq (decide_eq_false ho) (few_of hc).1 (few_of hc).2
    · rw [if_pos hq]
      exact ansT_zero <| zl_rng c a1 a2 _ k1 _ k2 q w hb hc hq
  · rw [if_pos hc]
    exact ansT_zero <| zl_ck c a1 a2 _ k1 _ k2 q w hb _ rfl (by rw [bne_iff_ne]; exact hc)
set_option linter.unusedSimpArgs false in
set_option maxHeartbeats 4000000 in
set_option maxRecDepth 100000 in
theorem zy_ck (c : Cl) (a1 a2 : Option Addr) (m1 k1 m2 k2 : Nat) (x : En) (w : World) (hb : BkAt w (.slice a1 m1 k1) (.slice a2 m2 k2) c) (d : Int) (hck : c.ck = d) (hz : (d != 0) = true) :
    AnsX 179 #[c.val (.slice a1 m1 k1) (.slice a2 m2 k2), x.val] w (Cl.zero, d) nil0 nil0 := by
  have HB0 : Aside (Below w.heap.size w (((w.alloc (boxC c (.slice a1 m1 k1) (.slice a2 m2 k2))).alloc (boxE x.k x.j x.v x.t x.c)).alloc (boxC Cl.zero nil0 nil0))) := grew (grew (grew (Below.refl _ _) _) _) _
  have HX0 : Aside ((((w.alloc (boxC c (.slice a1 m1 k1) (.slice a2 m2 k2))).alloc (boxE x.k x.j x.v x.t x.c)).alloc (boxC Cl.zero nil0 nil0)).heap[w.heap.size]? = some (boxC c (.slice a1 m1 k1) (.slice a2 m2 k2))) := heap_old (heap_old (heap_new _ _) _) _
  have HE0 : Aside ((((w.alloc (boxC c (.slice a1 m1 k1) (.slice a2 m2 k2))).alloc (boxE x.k x.j x.v x.t x.c)).alloc (boxC Cl.zero nil0 nil0)).heap[w.heap.size + 1]? = some (boxE x.k x.j x.v x.t x.c)) := by
    have := heap_new (w.alloc (boxC c (.slice a1 m1 k1) (.slice a2 m2 k2))) (boxE x.k x.j x.v x.t x.c)
    rw [World.size_alloc] at this
    exact heap_old (this) _
  have HR0 : Aside ((((w.alloc (boxC c (.slice a1 m1 k1) (.slice a2 m2 k2))).alloc (boxE x.k x.j x.v x.t x.c)).alloc (boxC Cl.zero nil0 nil0)).heap[w.heap.size + 1 + 1]? = some (boxC Cl.zero nil0 nil0)) := by
    have := heap_new ((w.alloc (boxC c (.slice a1 m1 k1) (.slice a2 m2 k2))).alloc (boxE x.k x.j x.v x.t x.c)) (boxC Cl.zero nil0 nil0)
    rw [World.size_alloc, World.size_alloc] at this
    exact this
  have kc := cl_check c (.slice a1 m1 k1) (.slice a2 m2 k2) _ (bkAt_later hb HB0.out)
  rw [hck] at kc
  have HK : Aside (BkAt w (.slice a1 m1 k1) (.slice a2 m2 k2) c) := hb
  clear hb hck
  go_enter Tryz.func179, Tryz.ntmps179
  go_wp2_with fail
  refine kc.mono ?_
  rintro r w1 ⟨rfl, hb1⟩
  have HX1 : Aside _ := heap_below HX0.out hb1 (heap_lt HX0.out)
  have HE1 : Aside _ := heap_below HE0.out hb1 (heap_lt HE0.out)
  have HR1 : Aside _ := heap_below HR0.out hb1 (heap_lt HR0.out)
  have HB1 : Aside (Below w.heap.size w w1) := step_below HB0.out hb1
  clear hb1 HB0 HX0 HE0 HR0
  clear kc
  have zr : ∀ i, w1.cell? ⟨w.heap.size + 1 + 1, i, none⟩ = #[Value.int .i64 0, .int .i64 0, .int .i64 0, .int .i64 0, .int .i64 0, .int .i64 0, .int .i64 0, .int .i64 0, .int .i64 0, .int .i64 0, .slice none 0 0, .slice none 0 0][i]? := fun i => Joins.cell_of_block HR1.out i
  have fzr : ∀ i, w1.frozen? ⟨w.heap.size + 1 + 1, i, none⟩ = false := fun i => Joins.unfrozen_of_block HR1.out i
  go_wp2
  refine ret_st (p := 4) (q := 5) w1 (w.heap.size + 1 + 1) (Cl.zero) nil0 nil0 (o := Cl.zero) (u1 := nil0) (u2 := nil0) Tryz.results179 rfl rfl rfl HR1.out rfl ?_
  exact ⟨rfl, st12_below HB1.out (by omega) _ _ _⟩
set_option linter.unusedSimpArgs false in
set_option maxHeartbeats 4000000 in
set_option maxRecDepth 100000 in
theorem zy_full (c : Cl) (a1 a2 : Option Addr) (m1 k1 m2 k2 : Nat) (x : En) (w : World) (hb : BkAt w (.slice a1 m1 k1) (.slice a2 m2 k2) c) (hck : c.ck = 0) (hn : (c.n == 60) = true) :
    AnsX 179 #[c.val (.slice a1 m1 k1) (.slice a2 m2 k2), x.val] w (Cl.zero, 2) nil0 nil0 := by
  have HB0 : Aside (Below w.heap.size w (((w.alloc (boxC c (.slice a1 m1 k1) (.slice a2 m2 k2))).alloc (boxE x.k x.j x.v x.t x.c)).alloc (boxC Cl.zero nil0 nil0))) := grew (grew (grew (Below.refl _ _) _) _) _
  have HX0 : Aside ((((w.alloc (boxC c (.slice a1 m1 k1) (.slice a2 m2 k2))).alloc (boxE x.k x.j x.v x.t x.c)).alloc (boxC Cl.zero nil0 nil0)).heap[w.heap.size]? = some (boxC c (.slice a1 m1 k1) (.slice a2 m2 k2))) := heap_old (heap_old (heap_new _ _) _) _
  have HE0 : Aside ((((w.alloc (boxC c (.slice a1 m1 k1) (.slice a2 m2 k2))).alloc (boxE x.k x.j x.v x.t x.c)).alloc (boxC Cl.zero nil0 nil0)).heap[w.heap.size + 1]? = some (boxE x.k x.j x.v x.t x.c)) := by
    have := heap_new (w.alloc (boxC c (.slice a1 m1 k1) (.slice a2 m2 k2))) (boxE x.k x.j x.v x.t x.c)
    rw [World.size_alloc] at this
    exact heap_old (this) _
  have HR0 : Aside ((((w.alloc (boxC c (.slice a1 m1 k1) (.slice a2 m2 k2))).alloc (boxE x.k x.j x.v x.t x.c)).alloc (boxC Cl.zero nil0 nil0)).heap[w.heap.size + 1 + 1]? = some (boxC Cl.zero nil0 nil0)) := by
    have := heap_new ((w.alloc (boxC c (.slice a1 m1 k1) (.slice a2 m2 k2))).alloc (boxE x.k x.j x.v x.t x.c)) (boxC Cl.zero nil0 nil0)
    rw [World.size_alloc, World.size_alloc] at this
    exact this
  have kc := cl_check c (.slice a1 m1 k1) (.slice a2 m2 k2) _ (bkAt_later hb HB0.out)
  rw [hck] at kc
  have HK : Aside (BkAt w (.slice a1 m1 k1) (.slice a2 m2 k2) c) := hb
  clear hb hck
  go_enter Tryz.func179, Tryz.ntmps179
  go_wp2_with fail
  refine kc.mono ?_
  rintro r w1 ⟨rfl, hb1⟩
  have HX1 : Aside _ := heap_below HX0.out hb1 (heap_lt HX0.out)
  have HE1 : Aside _ := heap_below HE0.out hb1 (heap_lt HE0.out)
  have HR1 : Aside _ := heap_below HR0.out hb1 (heap_lt HR0.out)
  have HB1 : Aside (Below w.heap.size w w1) := step_below HB0.out hb1
  clear hb1 HB0 HX0 HE0 HR0
  clear kc
  have z : ∀ i, w1.cell? ⟨w.heap.size, i, none⟩ = #[Value.int .i64 c.p, .int .i64 c.d, .int .i64 c.e.k, .int .i64 c.e.j, .int .i64 c.e.v, .int .i64 c.e.t, .int .i64 c.e.c, .int .i64 c.a, .int .i64 c.l, .int .i64 c.n, .slice a1 m1 k1, .slice a2 m2 k2][i]? := fun i => Joins.cell_of_block HX1.out i
  have zr : ∀ i, w1.cell? ⟨w.heap.size + 1 + 1, i, none⟩ = #[Value.int .i64 0, .int .i64 0, .int .i64 0, .int .i64 0, .int .i64 0, .int .i64 0, .int .i64 0, .int .i64 0, .int .i64 0, .int .i64 0, .slice none 0 0, .slice none 0 0][i]? := fun i => Joins.cell_of_block HR1.out i
  have fzr : ∀ i, w1.frozen? ⟨w.heap.size + 1 + 1, i, none⟩ = false := fun i => Joins.unfrozen_of_block HR1.out i
  go_wp2
  refine ret_st (p := 4) (q := 5) w1 (w.heap.size + 1 + 1) (Cl.zero) nil0 nil0 (o := Cl.zero) (u1 := nil0) (u2 := nil0) Tryz.results179 rfl rfl rfl HR1.out rfl ?_
  exact ⟨rfl, st12_below HB1.out (by omega) _ _ _⟩
set_option linter.unusedSimpArgs false in
set_option maxHeartbeats 4000000 in
set_option maxRecDepth 100000 in
theorem zy_app (c : Cl) (a1 a2 : Option Addr) (m1 k1 m2 k2 : Nat) (x : En) (w : World) (hb : BkAt w (.slice a1 m1 k1) (.slice a2 m2 k2) c) (hck : c.ck = 0) (hn : (c.n == 60) = false) (J : List Jb) (Q : List Rg) (d : Int) (hA : app c.js c.rs x = ((J, Q), d)) (hz : (d != 0) = true) :
    AnsX 179 #[c.val (.slice a1 m1 k1) (.slice a2 m2 k2), x.val] w (Cl.zero, d) nil0 nil0 := by
  have HB0 : Aside (Below w.heap.size w (((w.alloc (boxC c (.slice a1 m1 k1) (.slice a2 m2 k2))).alloc (boxE x.k x.j x.v x.t x.c)).alloc (boxC Cl.zero nil0 nil0))) := grew (grew (grew (Below.refl _ _) _) _) _
  have HX0 : Aside ((((w.alloc (boxC c (.slice a1 m1 k1) (.slice a2 m2 k2))).alloc (boxE x.k x.j x.v x.t x.c)).alloc (boxC Cl.zero nil0 nil0)).heap[w.heap.size]? = some (boxC c (.slice a1 m1 k1) (.slice a2 m2 k2))) := heap_old (heap_old (heap_new _ _) _) _
  have HE0 : Aside ((((w.alloc (boxC c (.slice a1 m1 k1) (.slice a2 m2 k2))).alloc (boxE x.k x.j x.v x.t x.c)).alloc (boxC Cl.zero nil0 nil0)).heap[w.heap.size + 1]? = some (boxE x.k x.j x.v x.t x.c)) := by
    have := heap_new (w.alloc (boxC c (.slice a1 m1 k1) (.slice a2 m2 k2))) (boxE x.k x.j x.v x.t x.c)
    rw [World.size_alloc] at this
    exact heap_old (this) _
  have HR0 : Aside ((((w.alloc (boxC c (.slice a1 m1 k1) (.slice a2 m2 k2))).alloc (boxE x.k x.j x.v x.t x.c)).alloc (boxC Cl.zero nil0 nil0)).heap[w.heap.size + 1 + 1]? = some (boxC Cl.zero nil0 nil0)) := by
    have := heap_new ((w.alloc (boxC c (.slice a1 m1 k1) (.slice a2 m2 k2))).alloc (boxE x.k x.j x.v x.t x.c)) (boxC Cl.zero nil0 nil0)
    rw [World.size_alloc, World.size_alloc] at this
    exact this
  have kc := cl_check c (.slice a1 m1 k1) (.slice a2 m2 k2) _ (bkAt_later hb HB0.out)
  have kp : ∀ W, Below w.heap.size w W → Calls Tryz.prog 205 #[.agg #[(.slice a1 m1 k1), (.slice a2 m2 k2)], x.val] W fun e w' => ∃ u1 u2, e = .returned (.tuple #[.agg #[u1, u2], .int .i64 d]) ∧ BkT w' u1 u2 (⟨c.p, c.d, c.e, c.a, c.l, (c.n + 1), J, Q⟩ : Cl) ∧ Below W.heap.size W w' := fun W hB =>
    (bk_applyT (.slice a1 m1 k1) (.slice a2 m2 k2) c.js c.rs x W (hb.1.later hB) (hb.2.later hB)).mono fun e w' ⟨u1, u2, g1, g2, g3, g4, _, g5, g6⟩ => ⟨u1, u2, by rw [g1, hA], by rw [hA] at g2 g3; exact ⟨⟨g2, g3⟩, g5, g6⟩, g4⟩
  clear hA
  rw [hck] at kc
  have HK : Aside (BkAt w (.slice a1 m1 k1) (.slice a2 m2 k2) c) := hb
  clear hb hck
  go_enter Tryz.func179, Tryz.ntmps179
  go_wp2_with fail
  refine kc.mono ?_
  rintro r w1 ⟨rfl, hb1⟩
  have HX1 : Aside _ := heap_below HX0.out hb1 (heap_lt HX0.out)
  have HE1 : Aside _ := heap_below HE0.out hb1 (heap_lt HE0.out)
  have HR1 : Aside _ := heap_below HR0.out hb1 (heap_lt HR0.out)
  have HB1 : Aside (Below w.heap.size w w1) := step_below HB0.out hb1
  clear hb1 HB0 HX0 HE0 HR0
  clear kc
  have z : ∀ i, w1.cell? ⟨w.heap.size, i, none⟩ = #[Value.int .i64 c.p, .int .i64 c.d, .int .i64 c.e.k, .int .i64 c.e.j, .int .i64 c.e.v, .int .i64 c.e.t, .int .i64 c.e.c, .int .i64 c.a, .int .i64 c.l, .int .i64 c.n, .slice a1 m1 k1, .slice a2 m2 k2][i]? := fun i => Joins.cell_of_block HX1.out i
  have ze : ∀ i, w1.cell? ⟨w.heap.size + 1, i, none⟩ = #[Value.int .i64 x.k, .int .i64 x.j, .int .i64 x.v, .int .i64 x.t, .int .i64 x.c][i]? := fun i => Joins.cell_of_block HE1.out i
  go_wp2_with fail
  refine (kp w1 HB1.out).mono ?_
  rintro r w2 ⟨u1, u2, rfl, hT2, hb2⟩
  have HX2 : Aside _ := heap_below HX1.out hb2 (heap_lt HX1.out)
  have HR2 : Aside _ := heap_below HR1.out hb2 (heap_lt HR1.out)
  have HB2 : Aside (Below w.heap.size w w2) := step_below HB1.out hb2
  have HT2 : Aside (BkT w2 u1 u2 (⟨c.p, c.d, c.e, c.a, c.l, (c.n + 1), J, Q⟩ : Cl)) := hT2
  obtain ⟨s1, o1, s2, o2, rfl, rfl⟩ := bk_slices hT2.1.1 hT2.1.2
  clear hb2 kp HB1 HR1 HX1 hT2
  obtain ⟨n1, hn1⟩ : ∃ n, Hid (J.length = n) := ⟨_, rfl⟩
  obtain ⟨n2, hn2⟩ : ∃ n, Hid (Q.length = n) := ⟨_, rfl⟩
  rw [hn1.out, hn2.out] at HT2 ⊢
  clear z ze
  go_upto_region 7 with fail
  have HX3 : Aside ((w2.alloc (boxB (.slice s1 n1 o1) (.slice s2 n2 o2))).heap[w.heap.size]? = some (boxC c (.slice a1 m1 k1) (.slice a2 m2 k2))) := heap_old HX2.out _
  have HR3 : Aside ((w2.alloc (boxB (.slice s1 n1 o1) (.slice s2 n2 o2))).heap[w.heap.size + 1 + 1]? = some (boxC Cl.zero nil0 nil0)) := heap_old HR2.out _
  have HB3 : Aside (Below w.heap.size w (w2.alloc (boxB (.slice s1 n1 o1) (.slice s2 n2 o2)))) := grew HB2.out _
  have HT3 : Aside _ := bkT_later HT2.out (grew (Below.refl _ _) (boxB (.slice s1 n1 o1) (.slice s2 n2 o2)))
  have HK3 : Aside ((w2.alloc (boxB (.slice s1 n1 o1) (.slice s2 n2 o2))).heap[w2.heap.size]? = some (boxB (.slice s1 n1 o1) (.slice s2 n2 o2))) := heap_new _ _
  have hne : w2.heap.size ≠ w.heap.size := by have := heap_lt HX2.out; omega
  clear HX2 HR2 HB2 HT2
  generalize (w2.alloc (boxB (.slice s1 n1 o1) (.slice s2 n2 o2))) = w3 at *
  have zr : ∀ i, w3.cell? ⟨w.heap.size + 1 + 1, i, none⟩ = #[Value.int .i64 0, .int .i64 0, .int .i64 0, .int .i64 0, .int .i64 0, .int .i64 0, .int .i64 0, .int .i64 0, .int .i64 0, .int .i64 0, .slice none 0 0, .slice none 0 0][i]? := fun i => Joins.cell_of_block HR3.out i
  have fzr : ∀ i, w3.frozen? ⟨w.heap.size + 1 + 1, i, none⟩ = false := fun i => Joins.unfrozen_of_block HR3.out i
  go_wp2
  refine ret_st (p := 4) (q := 5) w3 (w.heap.size + 1 + 1) (Cl.zero) nil0 nil0 (o := Cl.zero) (u1 := nil0) (u2 := nil0) Tryz.results179 rfl rfl rfl HR3.out rfl ?_
  exact ⟨rfl, st12_below HB3.out (by omega) _ _ _⟩
set_option linter.unusedSimpArgs false in
set_option maxHeartbeats 4000000 in
set_option maxRecDepth 100000 in
theorem zy_ok (c : Cl) (a1 a2 : Option Addr) (m1 k1 m2 k2 : Nat) (x : En) (w : World) (hb : BkAt w (.slice a1 m1 k1) (.slice a2 m2 k2) c) (hck : c.ck = 0) (hn : (c.n == 60) = false) (d : Int) (hd : d = 0) (J : List Jb) (Q : List Rg) (hA : app c.js c.rs x = ((J, Q), d)) (hw : IntKind.i64.wrap (c.n + 1) = c.n + 1) :
    AnsT 179 #[c.val (.slice a1 m1 k1) (.slice a2 m2 k2), x.val] w ((⟨c.p, c.d, c.e, c.a, c.l, (c.n + 1), J, Q⟩ : Cl), 0) := by
  have HB0 : Aside (Below w.heap.size w (((w.alloc (boxC c (.slice a1 m1 k1) (.slice a2 m2 k2))).alloc (boxE x.k x.j x.v x.t x.c)).alloc (boxC Cl.zero nil0 nil0))) := grew (grew (grew (Below.refl _ _) _) _) _
  have HX0 : Aside ((((w.alloc (boxC c (.slice a1 m1 k1) (.slice a2 m2 k2))).alloc (boxE x.k x.j x.v x.t x.c)).alloc (boxC Cl.zero nil0 nil0)).heap[w.heap.size]? = some (boxC c (.slice a1 m1 k1) (.slice a2 m2 k2))) := heap_old (heap_old (heap_new _ _) _) _
  have HE0 : Aside ((((w.alloc (boxC c (.slice a1 m1 k1) (.slice a2 m2 k2))).alloc (boxE x.k x.j x.v x.t x.c)).alloc (boxC Cl.zero nil0 nil0)).heap[w.heap.size + 1]? = some (boxE x.k x.j x.v x.t x.c)) := by
    have := heap_new (w.alloc (boxC c (.slice a1 m1 k1) (.slice a2 m2 k2))) (boxE x.k x.j x.v x.t x.c)
    rw [World.size_alloc] at this
    exact heap_old (this) _
  have HR0 : Aside ((((w.alloc (boxC c (.slice a1 m1 k1) (.slice a2 m2 k2))).alloc (boxE x.k x.j x.v x.t x.c)).alloc (boxC Cl.zero nil0 nil0)).heap[w.heap.size + 1 + 1]? = some (boxC Cl.zero nil0 nil0)) := by
    have := heap_new ((w.alloc (boxC c (.slice a1 m1 k1) (.slice a2 m2 k2))).alloc (boxE x.k x.j x.v x.t x.c)) (boxC Cl.zero nil0 nil0)
    rw [World.size_alloc, World.size_alloc] at this
    exact this
  have kc := cl_check c (.slice a1 m1 k1) (.slice a2 m2 k2) _ (bkAt_later hb HB0.out)
  have kp : ∀ W, Below w.heap.size w W → Calls Tryz.prog 205 #[.agg #[(.slice a1 m1 k1), (.slice a2 m2 k2)], x.val] W fun e w' => ∃ u1 u2, e = .returned (.tuple #[.agg #[u1, u2], .int .i64 d]) ∧ BkT w' u1 u2 (⟨c.p, c.d, c.e, c.a, c.l, (c.n + 1), J, Q⟩ : Cl) ∧ Below W.heap.size W w' := fun W hB =>
    (bk_applyT (.slice a1 m1 k1) (.slice a2 m2 k2) c.js c.rs x W (hb.1.later hB) (hb.2.later hB)).mono fun e w' ⟨u1, u2, g1, g2, g3, g4, _, g5, g6⟩ => ⟨u1, u2, by rw [g1, hA], by rw [hA] at g2 g3; exact ⟨⟨g2, g3⟩, g5, g6⟩, g4⟩
  clear hA
  subst hd
  rw [hck] at kc
  have HK : Aside (BkAt w (.slice a1 m1 k1) (.slice a2 m2 k2) c) := hb
  clear hb hck
  go_enter Tryz.func179, Tryz.ntmps179
  go_wp2_with fail
  refine kc.mono ?_
  rintro r w1 ⟨rfl, hb1⟩
  have HX1 : Aside _ := heap_below HX0.out hb1 (heap_lt HX0.out)
  have HE1 : Aside _ := heap_below HE0.out hb1 (heap_lt HE0.out)
  have HR1 : Aside _ := heap_below HR0.out hb1 (heap_lt HR0.out)
  have HB1 : Aside (Below w.heap.size w w1) := step_below HB0.out hb1
  clear hb1 HB0 HX0 HE0 HR0
  clear kc
  have z : ∀ i, w1.cell? ⟨w.heap.size, i, none⟩ = #[Value.int .i64 c.p, .int .i64 c.d, .int .i64 c.e.k, .int .i64 c.e.j, .int .i64 c.e.v, .int .i64 c.e.t, .int .i64 c.e.c, .int .i64 c.a, .int .i64 c.l, .int .i64 c.n, .slice a1 m1 k1, .slice a2 m2 k2][i]? := fun i => Joins.cell_of_block HX1.out i
  have ze : ∀ i, w1.cell? ⟨w.heap.size + 1, i, none⟩ = #[Value.int .i64 x.k, .int .i64 x.j, .int .i64 x.v, .int .i64 x.t, .int .i64 x.c][i]? := fun i => Joins.cell_of_block HE1.out i
  go_wp2_with fail
  refine (kp w1 HB1.out).mono ?_
  rintro r w2 ⟨u1, u2, rfl, hT2, hb2⟩
  have HX2 : Aside _ := heap_below HX1.out hb2 (heap_lt HX1.out)
  have HR2 : Aside _ := heap_below HR1.out hb2 (heap_lt HR1.out)
  have HB2 : Aside (Below w.heap.size w w2) := step_below HB1.out hb2
  have HT2 : Aside (BkT w2 u1 u2 (⟨c.p, c.d, c.e, c.a, c.l, (c.n + 1), J, Q⟩ : Cl)) := hT2
  obtain ⟨s1, o1, s2, o2, rfl, rfl⟩ := bk_slices hT2.1.1 hT2.1.2
  clear hb2 kp HB1 HR1 HX1 hT2
  obtain ⟨n1, hn1⟩ : ∃ n, Hid (J.length = n) := ⟨_, rfl⟩
  obtain ⟨n2, hn2⟩ : ∃ n, Hid (Q.length = n) := ⟨_, rfl⟩
  rw [hn1.out, hn2.out] at HT2 ⊢
  clear z ze
  go_upto_region 7 with fail
  have HX3 : Aside ((w2.alloc (boxB (.slice s1 n1 o1) (.slice s2 n2 o2))).heap[w.heap.size]? = some (boxC c (.slice a1 m1 k1) (.slice a2 m2 k2))) := heap_old HX2.out _
  have HR3 : Aside ((w2.alloc (boxB (.slice s1 n1 o1) (.slice s2 n2 o2))).heap[w.heap.size + 1 + 1]? = some (boxC Cl.zero nil0 nil0)) := heap_old HR2.out _
  have HB3 : Aside (Below w.heap.size w (w2.alloc (boxB (.slice s1 n1 o1) (.slice s2 n2 o2)))) := grew HB2.out _
  have HT3 : Aside _ := bkT_later HT2.out (grew (Below.refl _ _) (boxB (.slice s1 n1 o1) (.slice s2 n2 o2)))
  have HK3 : Aside ((w2.alloc (boxB (.slice s1 n1 o1) (.slice s2 n2 o2))).heap[w2.heap.size]? = some (boxB (.slice s1 n1 o1) (.slice s2 n2 o2))) := heap_new _ _
  have hne : w2.heap.size ≠ w.heap.size := by have := heap_lt HX2.out; omega
  clear HX2 HR2 HB2 HT2
  generalize (w2.alloc (boxB (.slice s1 n1 o1) (.slice s2 n2 o2))) = w3 at *
  have z : ∀ i, w3.cell? ⟨w.heap.size, i, none⟩ = #[Value.int .i64 c.p, .int .i64 c.d, .int .i64 c.e.k, .int .i64 c.e.j, .int .i64 c.e.v, .int .i64 c.e.t, .int .i64 c.e.c, .int .i64 c.a, .int .i64 c.l, .int .i64 c.n, .slice a1 m1 k1, .slice a2 m2 k2][i]? := fun i => Joins.cell_of_block HX3.out i
  have fz : ∀ i, w3.frozen? ⟨w.heap.size, i, none⟩ = false := fun i => Joins.unfrozen_of_block HX3.out i
  have zb : ∀ i, w3.cell? ⟨w2.heap.size, i, none⟩ = #[Value.slice s1 n1 o1, .slice s2 n2 o2][i]? := fun i => Joins.cell_of_block HK3.out i
  go_upto_region 11 with fail
  clear z fz zb
  have HT4 : Aside _ := (bkT_both (bkT_both (bkT_both ⟨isC_of HX3.out, HT3.out⟩ 10 (.slice s1 n1 o1)) 11 (.slice s2 n2 o2)) 9 (.int .i64 (c.n + 1))).2
  have g0 := Joins.block_setCell HX3.out (i := 10) (.slice s1 n1 o1)
  have g1 := Joins.block_setCell g0 (i := 11) (.slice s2 n2 o2)
  have g2 := Joins.block_setCell g1 (i := 9) (.int .i64 (c.n + 1))
  simp only [List.setIfInBounds_toArray, List.set_cons_zero, List.set_cons_succ] at g2
  have hrs : w.heap.size + 1 + 1 ≠ w.heap.size := by omega
  have HX4 : Aside ((((w3.setCell ⟨w.heap.size, 10, none⟩ (.slice s1 n1 o1)).setCell ⟨w.heap.size, 11, none⟩ (.slice s2 n2 o2)).setCell ⟨w.heap.size, 9, none⟩ (.int .i64 (c.n + 1))).heap[w.heap.size]? = some (boxC (⟨c.p, c.d, c.e, c.a, c.l, (c.n + 1), J, Q⟩ : Cl) (.slice s1 n1 o1) (.slice s2 n2 o2))) := g2
  have HR4 : Aside ((((w3.setCell ⟨w.heap.size, 10, none⟩ (.slice s1 n1 o1)).setCell ⟨w.heap.size, 11, none⟩ (.slice s2 n2 o2)).setCell ⟨w.heap.size, 9, none⟩ (.int .i64 (c.n + 1))).heap[w.heap.size + 1 + 1]? = some (boxC Cl.zero nil0 nil0)) := by
    rw [Aside, Below.heap_setCell _ _ _ _ (by exact hrs), Below.heap_setCell _ _ _ _ (by exact hrs), Below.heap_setCell _ _ _ _ (by exact hrs)]
    exact HR3.out
  have HB4 : Aside (Below w.heap.size w (((w3.setCell ⟨w.heap.size, 10, none⟩ (.slice s1 n1 o1)).setCell ⟨w.heap.size, 11, none⟩ (.slice s2 n2 o2)).setCell ⟨w.heap.size, 9, none⟩ (.int .i64 (c.n + 1)))) := (((HB3.out).setCell (p := ⟨w.heap.size, 10, none⟩) (Nat.le_refl _) _).setCell (p := ⟨w.heap.size, 11, none⟩) (Nat.le_refl _) _).setCell (p := ⟨w.heap.size, 9, none⟩) (Nat.le_refl _) _
  clear g0 g1 g2 HX3 HR3 HB3
  clear HT3
  generalize (((w3.setCell ⟨w.heap.size, 10, none⟩ (.slice s1 n1 o1)).setCell ⟨w.heap.size, 11, none⟩ (.slice s2 n2 o2)).setCell ⟨w.heap.size, 9, none⟩ (.int .i64 (c.n + 1))) = w4 at *
  have z : ∀ i, w4.cell? ⟨w.heap.size, i, none⟩ = #[Value.int .i64 c.p, .int .i64 c.d, .int .i64 c.e.k, .int .i64 c.e.j, .int .i64 c.e.v, .int .i64 c.e.t, .int .i64 c.e.c, .int .i64 c.a, .int .i64 c.l, .int .i64 (c.n + 1), .slice s1 n1 o1, .slice s2 n2 o2][i]? := fun i => Joins.cell_of_block HX4.out i
  have zr : ∀ i, w4.cell? ⟨w.heap.size + 1 + 1, i, none⟩ = #[Value.int .i64 0, .int .i64 0, .int .i64 0, .int .i64 0, .int .i64 0, .int .i64 0, .int .i64 0, .int .i64 0, .int .i64 0, .int .i64 0, .slice none 0 0, .slice none 0 0][i]? := fun i => Joins.cell_of_block HR4.out i
  have fzr : ∀ i, w4.frozen? ⟨w.heap.size + 1 + 1, i, none⟩ = false := fun i => Joins.unfrozen_of_block HR4.out i
  go_wp2
  refine ret_st (p := 4) (q := 5) w4 (w.heap.size + 1 + 1) ((⟨c.p, c.d, c.e, c.a, c.l, (c.n + 1), J, Q⟩ : Cl)) (.slice s1 n1 o1) (.slice s2 n2 o2) (o := Cl.zero) (u1 := nil0) (u2 := nil0) Tryz.results179 rfl rfl rfl HR4.out rfl ?_
  exact ⟨(.slice s1 n1 o1), (.slice s2 n2 o2), rfl, bkT_st12 ⟨_, HR4.out⟩ HT4.out _ _ _, st12_below HB4.out (by omega) _ _ _⟩
/-- client.Play. -/
theorem cl_play (c : Cl) (x : En) (v1 v2 : Value) (w : World) (hb : BkAt w v1 v2 c) : AnsT 179 #[c.val v1 v2, x.val] w (playOf c x) := by
  obtain ⟨a1, k1, a2, k2, rfl, rfl⟩ := bk_slices hb.1 hb.2
  unfold playOf
  by_cases hc : c.ck = 0
  · rw [if_neg (by simpa using hc)]
    by_cases hn : c.n = 60
    · rw [if_pos hn]
      exact ansT_zero <| zy_full c a1 a2 _ k1 _ k2 x w hb hc (by rw [hn]; rfl)
    · have hnb : (c.n == 60) = false := by rw [beq_eq_false_iff_ne]; exact hn
      rw [if_neg hn]
      by_cases hd : (app c.js c.rs x).2 = 0
      · rw [if_neg (by simpa using hd)]
        have hg := (Cl.good (Cl.ck_zero.1 hc).1).2.2.2.2
        exact zy_ok c a1 a2 _ k1 _ k2 x w hb hc hnb _ hd _ _ rfl (by rw [IntKind.wrap_i64]; omega)
      · rw [if_pos hd]
        exact ansT_zero <| zy_app c a1 a2 _ k1 _ k2 x w hb hc hnb _ _ _ rfl (by rw [bne_iff_ne]; exact hd)
  · rw [if_pos hc]
    exact ansT_zero <| zy_ck c a1 a2 _ k1 _ k2 x w hb _ rfl (by rw [bne_iff_ne]; exact hc)
end Go.Proofs.YtmoaobfmopimlafGreatDoor
namespace Go.Proofs.YtmoaobfmopimlafGreatDoor
open Go.RowKit
theorem into_few (x : Jb) : ∀ l : List Jb, (into x l).length = l.length + 1
  | [] => rfl
  | y :: s => by rw [into]; split <;> simp [into_few x s]
theorem dueOf_few (t : Int) : ∀ js : List Jb, (dueOf js t).length ≤ js.length
  | [] => by simp [dueOf]
  | x :: r => by
    have ih := dueOf_few t r
    rw [dueOf]
    split
    · rw [into_few]; simp; omega
    · simp; omega
/-- Where a job is among what is due. -/
theorem due_find {js : List Jb} {rs : List Rg} (hok : Ok js rs) (t j : Int) :
    (idx (fun y => y.i == j) (dueOf js t) = -1 ∧ ∀ z, tab js j = some z → t < z.n) ∨
      ∃ (k : Nat) (z : Jb), idx (fun y => y.i == j) (dueOf js t) = (k : Nat) ∧ k < (dueOf js t).length ∧ (dueOf js t)[k]? = some z ∧ tab js j = some z ∧ z.n ≤ t ∧ z.i = j ∧ z ∈ js := by
  rcases idx_ways (fun y : Jb => y.i == j) (dueOf js t) with ⟨h, hall⟩ | ⟨k, z, h, hk, hz, hp, _⟩
  · refine Or.inl ⟨h, fun z hz => ?_⟩
    have hid := tab_id hz
    by_cases hn : z.n ≤ t
    · have := hall z ((dueOf_mem t z js).2 ⟨hid.2, hn⟩)
      rw [hid.1] at this
      simp at this
    · omega
  · have hm := (dueOf_mem t z js).1 (List.mem_of_getElem? hz)
    have hi : z.i = j := by simpa using hp
    refine Or.inr ⟨k, z, h, hk, hz, ?_, hm.2, hi, hm.1⟩
    rw [← hi]
    exact tab_mem hok.srt z hm.1
set_option maxHeartbeats 1000000 in
theorem ring_pred (id : Int) (B : Nat) (w : World) (hB : B < w.heap.size) (hc : w.cell? ⟨B, 0, none⟩ = some (.int .i64 id)) (W : World) (x : Jb) (hb : Below w.heap.size w W) :
    Calls Tryz.prog 176 (#[x.val] ++ #[.pointer (some ⟨B, 0, none⟩)]) W fun e w' => e = .returned (.bool (x.i == id)) ∧ Below w.heap.size w w' := by
  have hc' : W.cell? ⟨B, 0, none⟩ = some (.int .i64 id) := (hb.cell (p := ⟨B, 0, none⟩) hB).trans hc
  have hBW : B < W.heap.size := Nat.lt_of_lt_of_le hB hb.size
  have hne : B ≠ W.heap.size := by omega
  show Calls Tryz.prog 176 #[x.val, .pointer (some ⟨B, 0, none⟩)] W _
  go_enter Tryz.func176, Tryz.ntmps176
  go_wp2
  all_goals (go_ret; exact ⟨by simp_all, hb.alloc hb.size _⟩)
end Go.Proofs.YtmoaobfmopimlafGreatDoor
namespace Go.Proofs.YtmoaobfmopimlafGreatDoor
open Go.RowKit
theorem row_append : ∀ {a b : List Jb}, Row a → Row b → (∀ x, x ∈ a → ∀ y, y ∈ b → x.ahead y) → Row (a ++ b)
  | [], _, _, hb, _ => hb
  | x :: r, b, ha, hb, h => ⟨fun y hy => by
      rcases List.mem_append.1 hy with hy | hy
      · exact ha.1 y hy
      · exact h x (by simp) y hy, row_append ha.2 hb (fun z hz => h z (List.mem_cons_of_mem _ hz))⟩
end Go.Proofs.YtmoaobfmopimlafGreatDoor
namespace Go.Proofs.YtmoaobfmopimlafGreatDoor
open Go.RowKit
/-- What is wrong with a book and a time. -/
def dueErr (js : List Jb) (rs : List Rg) (t : Int) : Int := if ckBook js rs ≠ 0 then ckBook js rs else if t < 0 ∨ 100000 < t then 3 else 0
end Go.Proofs.YtmoaobfmopimlafGreatDoor
namespace Go.Proofs.YtmoaobfmopimlafGreatDoor
open Go.RowKit
def cJ : List Jb := [⟨1, 7, 3⟩, ⟨2, 5, 2⟩, ⟨4, 1, 12⟩]
end Go.Proofs.YtmoaobfmopimlafGreatDoor
namespace Go.Proofs.YtmoaobfmopimlafGreatDoor
open Go.RowKit Go.Shelf
/-- A job that goes to the left in a row: ahead of it A, behind it B (all behind it in the order), then what is not looked at yet. -/
structure Ins (xs : List Jb) (A : List Jb) (x : Jb) (B R : List Jb) : Prop where
  row : Row (A ++ B)
  ahead : ∀ y, y ∈ B → x.ahead y
  all : ∀ z, z ∈ A ++ x :: (B ++ R) ↔ z ∈ xs
  len : (A ++ x :: (B ++ R)).length = xs.length
  apart : (A ++ x :: (B ++ R)).Pairwise (fun y z => y.i ≠ z.i)
theorem Row.left {a b : List Jb} : Row (a ++ b) → Row a := by
  intro h
  induction a with
  | nil => trivial
  | cons x r ih => exact ⟨fun y hy => h.1 y (List.mem_append_left _ hy), ih h.2⟩
theorem Row.mid : ∀ {a b : List Jb}, Row (a ++ b) → ∀ x, x ∈ a → ∀ y, y ∈ b → x.ahead y
  | [], _, _, x, hx, _, _ => by cases hx
  | z :: r, b, h, x, hx, y, hy => by
    rcases List.mem_cons.1 hx with rfl | hx
    · exact h.1 y (List.mem_append_right _ hy)
    · exact Row.mid (a := r) h.2 x hx y hy
theorem row_right : ∀ {a b : List Jb}, Row (a ++ b) → Row b
  | [], _, h => h
  | _ :: r, _, h => row_right (a := r) h.2
theorem ahead_trans {x y z : Jb} (h1 : x.ahead y) (h2 : y.ahead z) : x.ahead z := by
  unfold Jb.ahead at *
  omega
theorem ahead_total {x y : Jb} (h : x.i ≠ y.i) : ¬ x.ahead y → y.ahead x := by
  unfold Jb.ahead
  omega
/-- It goes one further to the left. -/
theorem Ins.step {xs A B R : List Jb} {x y : Jb} (h : Ins xs (A ++ [y]) x B R) (hxy : x.ahead y) : Ins xs A x (y :: B) R := by
  have e : (A ++ [y]) ++ x :: (B ++ R) = A ++ ([y] ++ x :: (B ++ R)) := by simp
  refine ⟨by simpa using h.row, fun z hz => ?_, fun z => ?_, ?_, ?_⟩
  · rcases List.mem_cons.1 hz with rfl | hz
    · exact hxy
    · exact h.ahead z hz
  · rw [← h.all z]
    simp only [List.mem_append, List.mem_cons, List.not_mem_nil, or_false]
    constructor
    · rintro (h1 | h1 | (h1 | h1) | h1)
      · exact Or.inl (Or.inl h1)
      · exact Or.inr (Or.inl h1)
      · exact Or.inl (Or.inr h1)
      · exact Or.inr (Or.inr (Or.inl h1))
      · exact Or.inr (Or.inr (Or.inr h1))
    · rintro ((h1 | h1) | h1 | h1 | h1)
      · exact Or.inl h1
      · exact Or.inr (Or.inr (Or.inl (Or.inl h1)))
      · exact Or.inr (Or.inl h1)
      · exact Or.inr (Or.inr (Or.inl (Or.inr h1)))
      · exact Or.inr (Or.inr (Or.inr h1))
  · have := h.len
    simp at this ⊢
    omega
  · have hp : (A ++ x :: (y :: B ++ R)).Perm ((A ++ [y]) ++ x :: (B ++ R)) := by
      rw [List.append_assoc]
      refine List.Perm.append_left A ?_
      exact List.Perm.swap y x (B ++ R)
    exact hp.symm.pairwise h.apart (fun h => Ne.symm h)
/-- It stands where it belongs: nothing is ahead of it. -/
theorem Ins.atFront {xs B R : List Jb} {x : Jb} (h : Ins xs [] x B R) : Row (x :: B) := ⟨h.ahead, h.row⟩
/-- ..or what is ahead of it is ahead in the order. -/
theorem Ins.placed {xs A B R : List Jb} {x y : Jb} (h : Ins xs (A ++ [y]) x B R) (hxy : ¬ x.ahead y) : Row ((A ++ [y]) ++ x :: B) := by
  have hy : y.ahead x := by
    refine ahead_total ?_ hxy
    have := h.apart
    rw [List.pairwise_append] at this
    exact fun e => this.2.2 y (by simp) x (by simp) e.symm
  refine row_append (Row.left h.row) ⟨h.ahead, ?_⟩ (fun u hu v hv => ?_)
  · have := h.row
    have := row_right this
    exact this
  · have hux : u.ahead x := by
      rcases List.mem_append.1 hu with hu | hu
      · have : Row (A ++ [y]) := Row.left h.row
        exact ahead_trans (Row.mid this u hu y (by simp)) hy
      · obtain rfl : u = y := by simpa using hu
        exact hy
    rcases List.mem_cons.1 hv with rfl | hv
    · exact hux
    · exact Row.mid h.row u hu v hv
/-- The next one begins its way. -/
theorem Ins.next {xs P R : List Jb} {x : Jb} (hr : Row P) (hall : ∀ z, z ∈ P ++ x :: R ↔ z ∈ xs) (hlen : (P ++ x :: R).length = xs.length) (hap : (P ++ x :: R).Pairwise (fun y z => y.i ≠ z.i)) : Ins xs P x [] R :=
  ⟨by simpa using hr, (fun y hy => by cases hy), by simpa using hall, by simpa using hlen, by simpa using hap⟩
end Go.Proofs.YtmoaobfmopimlafGreatDoor
namespace Go.Proofs.YtmoaobfmopimlafGreatDoor
open Go.RowKit Go.Shelf
/-- What the swap reads. -/
abbrev SwS (w : World) (gb off j : Nat) (x y : Jb) : Prop :=
  (w.cell? ⟨gb, off + (j + 1) * 3, none⟩ = some (.int .i64 x.i) ∧ w.cell? ⟨gb, off + (j + 1) * 3 + 1, none⟩ = some (.int .i64 x.e) ∧ w.cell? ⟨gb, off + (j + 1) * 3 + 2, none⟩ = some (.int .i64 x.n)) ∧
  w.cell? ⟨gb, off + j * 3, none⟩ = some (.int .i64 y.i) ∧ w.cell? ⟨gb, off + j * 3 + 1, none⟩ = some (.int .i64 y.e) ∧ w.cell? ⟨gb, off + j * 3 + 2, none⟩ = some (.int .i64 y.n)
theorem splice_tailJ {L tl cs : List Value} {o : Nat} (h : o + cs.length ≤ L.length) : splice (L ++ tl) o cs = splice L o cs ++ tl := by
  unfold splice
  rw [List.take_append_of_le_length (by omega), List.drop_append_of_le_length (by omega)]
  simp
theorem swS_of {w : World} {gb : Nat} {A B : List Jb} {x y : Jb} {tl : List Value} (h : w.heap[gb]? = some (.cells ((A ++ y :: x :: B).flatMap Jb.cells ++ tl).toArray 120)) : SwS w gb 0 A.length x y := by
  have hr : RowAt Jb.cells 3 w gb 0 (A ++ y :: x :: B) := rowAt_block Jb.three h ⟨tl, rfl⟩
  have e1 : (A ++ y :: x :: B)[A.length]? = some y := by simp
  have e2 : (A ++ y :: x :: B)[A.length + 1]? = some x := by rw [List.getElem?_append_right (by omega)]; simp
  exact ⟨⟨hr _ x e2 0 _ rfl, hr _ x e2 1 _ rfl, hr _ x e2 2 _ rfl⟩, hr _ y e1 0 _ rfl, hr _ y e1 1 _ rfl, hr _ y e1 2 _ rfl⟩
theorem swS_later {w w' : World} {gb off j : Nat} {x y : Jb} (h : SwS w gb off j x y) (hb : Below w.heap.size w w') : SwS w' gb off j x y :=
  ⟨⟨cell_later hb h.1.1, cell_later hb h.1.2.1, cell_later hb h.1.2.2⟩, cell_later hb h.2.1, cell_later hb h.2.2.1, cell_later hb h.2.2.2⟩
set_option linter.unusedSimpArgs false in
set_option maxHeartbeats 8000000 in
set_option maxRecDepth 100000 in
/-- slices.insertionSortCmpFunc at a whole row of few jobs. -/
theorem isort (g : Nat) (lb : Array Value) (eg : ∀ args w, (callFunc g args).run Tryz.prog w = .ok (.enter g args) w) (gb c n : Nat) (xs : List Jb) (tl : List Value) (w : World) (hl : xs.length = n) (hn : n ≤ 12) (hap : xs.Pairwise (fun y z => y.i ≠ z.i))
    (hg : w.heap[gb]? = some (.cells (xs.flatMap Jb.cells ++ tl).toArray 120))
    (hp : ∀ (W : World) (x y : Jb), x ∈ xs → y ∈ xs → Calls Tryz.prog g (#[x.val, y.val] ++ lb) W fun e w' => ∃ q : Int, e = .returned (.int .i64 q) ∧ (q < 0 ↔ x.ahead y) ∧ Below W.heap.size W w') :
    Calls Tryz.prog 253 #[.slice (some ⟨gb, 0, none⟩) n c, .int .i64 0, .int .i64 n, .func (.func g) #[] lb] w fun e w' => e = .returned (.tuple #[]) ∧ ∃ ys, Row ys ∧ (∀ z, z ∈ ys ↔ z ∈ xs) ∧ ys.length = n ∧ w'.heap[gb]? = some (.cells (ys.flatMap Jb.cells ++ tl).toArray 120) ∧ Kept [gb] w w' := by
  have HP : Aside _ := hp
  have HG : Aside _ := hg
  have HF : Hid (xs.length = n ∧ xs.Pairwise (fun y z => y.i ≠ z.i)) := ⟨hl, hap⟩
  clear hp hg hl hap
  obtain ⟨off, hoff⟩ : ∃ off : Nat, Hid (0 = off) := ⟨_, rfl⟩
  rw [hoff.out]
  go_enter Tryz.func253, Tryz.ntmps253
  go_wp2
  go_loopg [8, 9] (n + 1) (fun gg s8 _ wr => ∃ (i : Nat) (ys : List Jb), s8 = .int .i64 i ∧ 1 ≤ i ∧ i ≤ n + 1 ∧ n + 1 - i ≤ gg ∧ Aside (wr.heap[gb]? = some (.cells (ys.flatMap Jb.cells ++ tl).toArray 120)) ∧ Aside (Kept [gb] w wr) ∧ Aside (Row (ys.take i) ∧ ys.length = n ∧ (∀ z, z ∈ ys ↔ z ∈ xs) ∧ ys.Pairwise (fun y z => y.i ≠ z.i)))
  case atStart =>
    refine ⟨1, xs, by go_num, Nat.le_refl _, by omega, by omega, HG.out, Kept.refl _ _, ⟨?_, HF.out.1, fun _ => Iff.rfl, HF.out.2⟩⟩
    cases xs with
    | nil => trivial
    | cons x r => exact ⟨fun y hy => by simp at hy, by simp [Row]⟩
  case round =>
    obtain ⟨i, ys, rfl, hi1, hi2, hgg, G, KK, Y⟩ := hrel
    by_cases hlt : i < n
    · obtain ⟨x, hx⟩ : ∃ x, ys[i]? = some x := ⟨ys[i]'(by have := Y.out.2.1; omega), List.getElem?_eq_getElem _⟩
      have e : ys = ys.take i ++ x :: ys.drop (i + 1) := by rw [← drop_at hx, List.take_append_drop]
      have I0 : Aside (Ins xs (ys.take i) x [] (ys.drop (i + 1))) := by
        refine Ins.next Y.out.1 ?_ ?_ ?_
        · rw [← e]; exact Y.out.2.2.1
        · rw [← e, Y.out.2.1, HF.out.1]
        · rw [← e]; exact Y.out.2.2.2
      have hti : (ys.take i).length = i := by rw [List.length_take]; have := Y.out.2.1; omega
      have G0 : Aside (wr.heap[gb]? = some (.cells ((ys.take i ++ x :: ([] ++ ys.drop (i + 1))).flatMap Jb.cells ++ tl).toArray 120)) := by
        rw [List.nil_append, ← e]; exact G.out
      generalize ys.take i = A0 at *
      generalize ys.drop (i + 1) = R0 at *
      clear G Y e hx
      go_wp2_with fail
      go_loopg [9] i (fun gg' s9 wi => ∃ (j : Nat) (A B : List Jb), s9 = .int .i64 j ∧ j ≤ i ∧ j ≤ gg' ∧ A.length = j ∧ Aside (Ins xs A x B R0) ∧ Aside (B.length + j = i) ∧ Aside (wi.heap[gb]? = some (.cells ((A ++ x :: (B ++ R0)).flatMap Jb.cells ++ tl).toArray 120)) ∧ Aside (Kept [gb] w wi))
      case atStart => exact ⟨i, A0, [], rfl, Nat.le_refl _, Nat.le_refl _, hti, I0, (show Aside _ from by simp [Aside]), G0, KK⟩
      case round =>
        obtain ⟨j, A, B, rfl, hji, hgj, hAl, I, hBl, GA, KA⟩ := hrel
        have HX : Hid (∀ W' gg0, Below wr.heap.size wr W' → i + 1 ≤ n + 1 → n + 1 - (i + 1) ≤ gg0 → Row (A ++ x :: B) → ∃ (i' : Nat) (ys : List Jb), Value.int .i64 ((i : Int) + 1) = .int .i64 i' ∧ 1 ≤ i' ∧ i' ≤ n + 1 ∧ n + 1 - i' ≤ gg0 ∧ Aside (W'.heap[gb]? = some (.cells (ys.flatMap Jb.cells ++ tl).toArray 120)) ∧ Aside (Kept [gb] w W') ∧ Aside (Row (ys.take i') ∧ ys.length = n ∧ (∀ z, z ∈ ys ↔ z ∈ xs) ∧ ys.Pairwise (fun y z => y.i ≠ z.i))) := fun W' gg0 q0 q1 q2 q3 => by
          refine ⟨i + 1, A ++ x :: (B ++ R0), by go_num, by omega, q1, q2, heap_below GA.out q0 (heap_lt GA.out), KA.out.below q0, ⟨?_, by rw [I.out.len]; exact HF.out.1, I.out.all, I.out.apart⟩⟩
          have e1 : A ++ x :: (B ++ R0) = (A ++ x :: B) ++ R0 := by simp
          have e2 : (A ++ x :: B).length = i + 1 := by have := hBl.out; rw [List.length_append, List.length_cons, hAl]; omega
          rw [e1, List.take_append_of_le_length (by omega), List.take_of_length_le (by omega)]
          exact q3
        cases j with
        | zero =>
          have hA : A = [] := List.length_eq_zero_iff.1 hAl
          have HR : Hid (Row (A ++ x :: B)) := by rw [Hid, hA]; have := I.out; rw [hA] at this; exact this.atFront
          clear I GA hBl hAl
          go_wp2_with fail
          go_quiet (fail)
          go_wp2
          go_roundg (n + 1 - (i + 1))
          case measure => omega
          case rel => exact HX.out _ _ (below_drewN (Below.refl _ _) _) (by omega) (Nat.le_refl _) HR.out
        | succ j =>
          obtain ⟨A', y, rfl⟩ : ∃ A' y, A = A' ++ [y] := by
            have hne : A ≠ [] := fun h => by rw [h] at hAl; simp at hAl
            exact ⟨A.dropLast, A.getLast hne, (List.dropLast_concat_getLast hne).symm⟩
          have hA' : A'.length = j := by simpa using hAl
          have GB : wr.heap[gb]? = some (.cells ((A' ++ y :: x :: (B ++ R0)).flatMap Jb.cells ++ tl).toArray 120) := by
            have := GA.out
            rw [List.append_assoc] at this
            exact this
          have hS0 : SwS wr gb off j x y := by have := swS_of GB; rwa [hA', hoff.out] at this
          have hbd : Below wr.heap.size wr wr.drew := (Below.refl _ _).drew
          have hcall := fun W => HP.out W x y ((I.out.all x).1 (by simp)) ((I.out.all y).1 (by simp))
          have jn1 : (0 : Int) ≤ (j : Int) + 1 := by omega
          have jn2 : (j : Int) + 1 < (n : Int) := by omega
          have jn3 : (j : Int) < (n : Int) := by omega
          have jn4 : (0 : Int) < (j : Int) + 1 := by omega
          have jn0 : (0 : Int) ≤ (j : Int) := by omega
          have jw3 : IntKind.i64.wrap (j : Int) = (j : Int) := by rw [IntKind.wrap_i64]; omega
          have jn5 : j < n := by omega
          have jn6 : j + 1 < n := by omega
          have jd : decide ((0 : Int) < (j : Int) + 1) = true := by rw [decide_eq_true_eq]; exact jn4
          go_wp2_with fail
          go_region_held3 (fun w' => (Below wr.heap.size wr w' ∧ SwS w' gb off j x y)) (first | exact ⟨(Below.refl _ _).drew, swS_later hS0 hbd⟩ | exact ⟨(Below.refl _ _).drew.trans (by assumption), swS_later (swS_later hS0 hbd) (by assumption)⟩) (first | (refine (hcall _).mono ?_; rintro e w1 ⟨q, rfl, hq, hb1⟩))
          rename_i hS
          have hb01 : Below wr.heap.size wr w1 := hS.1
          have hS0 : SwS w1 gb off j x y := hS.2
          clear hS hb1
          by_cases hxy : x.ahead y
          · have hq0 : q < 0 := hq.2 hxy
            have G1 := heap_below GB hb01 (heap_lt GB)
            have f1 : ∀ i, w1.frozen? ⟨gb, i, none⟩ = false := fun i => Joins.unfrozen_of_block G1 i
            have I1 : Aside (Ins xs A' x (y :: B) R0) := I.out.step hxy
            have hB1 : Aside ((y :: B).length + j = i) := by have := hBl.out; rw [Aside, List.length_cons]; omega
            have hL1' : off + (j + 1) * 3 + 2 < ((A' ++ y :: x :: (B ++ R0)).flatMap Jb.cells).length := by
              rw [row_len Jb.three, ← hoff.out]; simp; omega
            have hL1 : off + (j + 1) * 3 + 2 < ((A' ++ y :: x :: (B ++ R0)).flatMap Jb.cells ++ tl).length := by rw [List.length_append]; omega
            have G2 := block_three G1 (.int .i64 y.i) (.int .i64 y.e) (.int .i64 y.n) hL1
            have hs1 : splice ((A' ++ y :: x :: (B ++ R0)).flatMap Jb.cells) (off + (j + 1) * 3) [.int .i64 y.i, .int .i64 y.e, .int .i64 y.n] = (A' ++ y :: y :: (B ++ R0)).flatMap Jb.cells := by
              have := splice_flat Jb.three (A' ++ [y]) (B ++ R0) x y
              rw [List.length_append, hA', List.append_assoc, List.append_assoc] at this
              rw [← hoff.out, Nat.zero_add]
              exact this
            rw [splice_tailJ (by show _ + 3 ≤ _; omega), hs1] at G2
            have hL2' : off + j * 3 + 2 < ((A' ++ y :: y :: (B ++ R0)).flatMap Jb.cells).length := by
              rw [row_len Jb.three, ← hoff.out]; simp; omega
            have hL2 : off + j * 3 + 2 < ((A' ++ y :: y :: (B ++ R0)).flatMap Jb.cells ++ tl).length := by rw [List.length_append]; omega
            have G3 := block_three G2 (.int .i64 x.i) (.int .i64 x.e) (.int .i64 x.n) hL2
            have hs2 : splice ((A' ++ y :: y :: (B ++ R0)).flatMap Jb.cells) (off + j * 3) [.int .i64 x.i, .int .i64 x.e, .int .i64 x.n] = (A' ++ x :: (y :: B ++ R0)).flatMap Jb.cells := by
              have := splice_flat Jb.three A' (y :: (B ++ R0)) y x
              rw [hA'] at this
              rw [← hoff.out, Nat.zero_add]
              exact this
            rw [splice_tailJ (by show _ + 3 ≤ _; omega), hs2] at G3
            have K3 := (((((KA.out.below hb01).setCell (g := gb) (o := off + (j + 1) * 3) (by simp) (.int .i64 y.i)).setCell (g := gb) (o := off + (j + 1) * 3 + 1) (by simp) (.int .i64 y.e)).setCell (g := gb) (o := off + (j + 1) * 3 + 2) (by simp) (.int .i64 y.n)).setCell (g := gb) (o := off + j * 3) (by simp) (.int .i64 x.i)).setCell (g := gb) (o := off + j * 3 + 1) (by simp) (.int .i64 x.e) |>.setCell (g := gb) (o := off + j * 3 + 2) (by simp) (.int .i64 x.n)
            replace G3 : Aside _ := G3
            replace K3 : Aside _ := K3
            clear HX I hBl GA KA GB G1 G2 hs1 hs2 hL1 hL2 hL1' hL2' hxy hq hb01 hbd hcall HP
            rw [show decide (q < 0) = true from decide_eq_true hq0]
            clear hq0
            go_upto_region 6 with fail
            refine wp_region_noPanic ?_
            refine region_L (fun w' => SwS w' gb off j x y) 15 (by kernel_rfl) (hS0) (fun hHeld => ?_)
            refine anyL_take (i := 0) (v := ?_) rfl (by kernel_rfl) (by kernel_rfl) (by kernel_rfl) (by kernel_rfl) (by kernel_rfl) (fun _ _ _ h => h) (Or.inl ⟨by rfl, ?_⟩) (by assumption) ?_
            rotate_left
            · (intro w0 hSw; (try dsimp only at hSw); go_simp; first | done | with_reducible rfl)
            try simp only [Act.put, List.setIfInBounds_toArray, List.set_cons_zero, List.set_cons_succ]
            refine anyL_take (i := 1) (v := ?_) rfl (by kernel_rfl) (by kernel_rfl) (by kernel_rfl) (by kernel_rfl) (by kernel_rfl) (fun _ _ _ h => h) (Or.inl ⟨by rfl, ?_⟩) (by assumption) ?_
            rotate_left
            · (intro w0 hSw; (try dsimp only at hSw); go_simp; first | done | with_reducible rfl)
            try simp only [Act.put, List.setIfInBounds_toArray, List.set_cons_zero, List.set_cons_succ]
            refine anyL_free (i := 2) (v := ?_) rfl (by kernel_rfl) (by kernel_rfl) (by kernel_rfl) (by kernel_rfl) (fun _ _ _ h => h) (Or.inl ⟨by rfl, ?_⟩) (by assumption) ?_
            rotate_left
            · (intro w0 _; go_simp; first | done | with_reducible rfl)
            try simp only [Act.put, List.setIfInBounds_toArray, List.set_cons_zero, List.set_cons_succ]
            refine anyL_free (i := 3) (v := ?_) rfl (by kernel_rfl) (by kernel_rfl) (by kernel_rfl) (by kernel_rfl) (fun _ _ _ h => h) (Or.inl ⟨by rfl, ?_⟩) (by assumption) ?_
            rotate_left
            · (intro w0 _; go_simp; first | done | with_reducible rfl)
            try simp only [Act.put, List.setIfInBounds_toArray, List.set_cons_zero, List.set_cons_succ]
            refine anyL_free (i := 4) (v := ?_) rfl (by kernel_rfl) (by kernel_rfl) (by kernel_rfl) (by kernel_rfl) (fun _ _ _ h => h) (Or.inl ⟨by rfl, ?_⟩) (by assumption) ?_
            rotate_left
            · (intro w0 _; go_simp; first | done | with_reducible rfl)
            try simp only [Act.put, List.setIfInBounds_toArray, List.set_cons_zero, List.set_cons_succ]
            refine anyL_take (i := 5) (v := ?_) rfl (by kernel_rfl) (by kernel_rfl) (by kernel_rfl) (by kernel_rfl) (by kernel_rfl) (fun _ _ _ h => h) (Or.inl ⟨by rfl, ?_⟩) (by assumption) ?_
            rotate_left
            · (intro w0 hSw; (try dsimp only at hSw); go_simp; first | done | with_reducible rfl)
            try simp only [Act.put, List.setIfInBounds_toArray, List.set_cons_zero, List.set_cons_succ]
            refine anyL_take (i := 6) (v := ?_) rfl (by kernel_rfl) (by kernel_rfl) (by kernel_rfl) (by kernel_rfl) (by kernel_rfl) (fun _ _ _ h => h) (Or.inl ⟨by rfl, ?_⟩) (by assumption) ?_
            rotate_left
            · (intro w0 hSw; (try dsimp only at hSw); go_simp; first | done | with_reducible rfl)
            try simp only [Act.put, List.setIfInBounds_toArray, List.set_cons_zero, List.set_cons_succ]
            refine anyL_take (i := 7) (v := ?_) rfl (by kernel_rfl) (by kernel_rfl) (by kernel_rfl) (by kernel_rfl) (by kernel_rfl) (fun _ _ _ h => h) (Or.inl ⟨by rfl, ?_⟩) (by assumption) ?_
            rotate_left
            · (intro w0 hSw; (try dsimp only at hSw); go_simp; first | done | with_reducible rfl)
            try simp only [Act.put, List.setIfInBounds_toArray, List.set_cons_zero, List.set_cons_succ]
            refine anyL_take (i := 8) (v := ?_) rfl (by kernel_rfl) (by kernel_rfl) (by kernel_rfl) (by kernel_rfl) (by kernel_rfl) (fun _ _ _ h => h) (Or.inl ⟨by rfl, ?_⟩) (by assumption) ?_
            rotate_left
            · (intro w0 hSw; (try dsimp only at hSw); go_simp; first | done | with_reducible rfl)
            try simp only [Act.put, List.setIfInBounds_toArray, List.set_cons_zero, List.set_cons_succ]
            refine anyL_take (i := 9) (v := ?_) rfl (by kernel_rfl) (by kernel_rfl) (by kernel_rfl) (by kernel_rfl) (by kernel_rfl) (fun _ _ _ h => h) (Or.inl ⟨by rfl, ?_⟩) (by assumption) ?_
            rotate_left
            · (intro w0 hSw; (try dsimp only at hSw); go_simp; first | done | with_reducible rfl)
            try simp only [Act.put, List.setIfInBounds_toArray, List.set_cons_zero, List.set_cons_succ]
            refine anyL_free (i := 10) (v := ?_) rfl (by kernel_rfl) (by kernel_rfl) (by kernel_rfl) (by kernel_rfl) (fun _ _ _ h => h) (Or.inl ⟨by rfl, ?_⟩) (by assumption) ?_
            rotate_left
            · (intro w0 _; go_simp; first | done | with_reducible rfl)
            try simp only [Act.put, List.setIfInBounds_toArray, List.set_cons_zero, List.set_cons_succ]
            refine anyL_free (i := 11) (v := ?_) rfl (by kernel_rfl) (by kernel_rfl) (by kernel_rfl) (by kernel_rfl) (fun _ _ _ h => h) (Or.inl ⟨by rfl, ?_⟩) (by assumption) ?_
            rotate_left
            · (intro w0 _; go_simp; first | done | with_reducible rfl)
            try simp only [Act.put, List.setIfInBounds_toArray, List.set_cons_zero, List.set_cons_succ]
            refine anyL_free (i := 12) (v := ?_) rfl (by kernel_rfl) (by kernel_rfl) (by kernel_rfl) (by kernel_rfl) (fun _ _ _ h => h) (Or.inl ⟨by rfl, ?_⟩) (by assumption) ?_
            rotate_left
            · (intro w0 _; go_simp; first | done | with_reducible rfl)
            try simp only [Act.put, List.setIfInBounds_toArray, List.set_cons_zero, List.set_cons_succ]
            refine anyL_take (i := 13) (v := ?_) rfl (by kernel_rfl) (by kernel_rfl) (by kernel_rfl) (by kernel_rfl) (by kernel_rfl) (fun _ _ _ h => h) (Or.inl ⟨by rfl, ?_⟩) (by assumption) ?_
            rotate_left
            · (intro w0 hSw; (try dsimp only at hSw); go_simp; first | done | with_reducible rfl)
            try simp only [Act.put, List.setIfInBounds_toArray, List.set_cons_zero, List.set_cons_succ]
            refine anyL_take (i := 14) (v := ?_) rfl (by kernel_rfl) (by kernel_rfl) (by kernel_rfl) (by kernel_rfl) (by kernel_rfl) (fun _ _ _ h => h) (Or.inl ⟨by rfl, ?_⟩) (by assumption) ?_
            rotate_left
            · (intro w0 hSw; (try dsimp only at hSw); go_simp; first | done | with_reducible rfl)
            try simp only [Act.put, List.setIfInBounds_toArray, List.set_cons_zero, List.set_cons_succ]
            refine anyL_one (i := 15) (by kernel_rfl) rfl (fun K hK => ?_)
            go_simp
            refine hK.out _ _ (fun h => absurd h (by decide +kernel)) (fun _ => ?_)
            clear hK K
            try simp only [Act.put, List.setIfInBounds_toArray, List.set_cons_zero, List.set_cons_succ]
            refine anyL_one (i := 16) (by kernel_rfl) rfl (fun K hK => ?_)
            go_simp
            refine hK.out _ _ (fun h => absurd h (by decide +kernel)) (fun _ => ?_)
            clear hK K
            try simp only [Act.put, List.setIfInBounds_toArray, List.set_cons_zero, List.set_cons_succ]
            refine anyL_one (i := 17) (by kernel_rfl) rfl (fun K hK => ?_)
            go_simp
            refine hK.out _ _ (fun h => absurd h (by decide +kernel)) (fun _ => ?_)
            clear hK K
            try simp only [Act.put, List.setIfInBounds_toArray, List.set_cons_zero, List.set_cons_succ]
            refine anyL_done (by kernel_rfl) ?_ _
            refine NoPanic.normal ?_
            try simp only [Act.put, List.setIfInBounds_toArray, List.set_cons_zero, List.set_cons_succ]
            go_wp2
            go_roundg j
            case measure => omega
            case rel => exact ⟨j, A', y :: B, by go_num, by omega, Nat.le_refl _, hA', I1, hB1, heap_below G3.out (Below.refl _ _).drew (heap_lt G3.out), K3.out.below (Below.refl _ _).drew⟩
          · have hq0 : ¬ q < 0 := fun h => hxy (hq.1 h)
            have HR : Hid (Row ((A' ++ [y]) ++ x :: B)) := I.out.placed hxy
            clear I hBl GA KA GB hcall HP hS0 hbd
            rw [show decide (q < 0) = false from decide_eq_false hq0]
            clear hq0
            go_wp2
            go_roundg (n + 1 - (i + 1))
            case measure => omega
            case rel => exact HX.out _ _ hb01 (by omega) (Nat.le_refl _) HR.out
    · have hin : i = n ∨ i = n + 1 := by omega
      have HY : Aside (Row ys) := by
        have := Y.out.1
        rwa [List.take_of_length_le (by have := Y.out.2.1; omega)] at this
      go_wp2
      have h0 : off = 0 := hoff.out.symm
      subst h0
      exact bodyPost_end (v := .tuple #[]) (by simp [results, go_sem]) rfl ⟨rfl, ys, HY.out, Y.out.2.2.1, Y.out.2.1, G.out, KK.out⟩
end Go.Proofs.YtmoaobfmopimlafGreatDoor
namespace Go.Proofs.YtmoaobfmopimlafGreatDoor
open Go.RowKit Go.Shelf
set_option maxHeartbeats 2000000 in
theorem pdq (g : Nat) (lb : Array Value) (v : Value) (n : Nat) (lim : Int) (w : World) (R : World → Prop) (hv : ∃ a c, v = .slice a n c) (hn : n ≤ 12)
    (hs : Calls Tryz.prog 253 #[v, .int .i64 0, .int .i64 n, .func (.func g) #[] lb] w fun e w' => e = .returned (.tuple #[]) ∧ R w') :
    Calls Tryz.prog 224 #[v, .int .i64 0, .int .i64 n, .int .i64 lim, .func (.func g) #[] lb] w fun e w' => e = .returned (.tuple #[]) ∧ R w' := by
  obtain ⟨a, c, rfl⟩ := hv
  have hn' : (n : Int) ≤ 12 := by omega
  go_enter Tryz.func224, Tryz.ntmps224
  go_wp2_with fail
  refine wp_loop_once ?_
  go_wp2_with fail
  refine hs.mono ?_
  rintro e w1 ⟨rfl, hR⟩
  go_wp2
  exact bodyPost_ret (v := .tuple #[]) (by simp [results, go_sem]) rfl ⟨rfl, hR⟩
set_option maxHeartbeats 4000000 in
set_option maxRecDepth 100000 in
theorem bitsLen64 (n : Nat) (hn : n ≤ 12) (w : World) : Calls Tryz.prog 246 #[.int .u64 n] w fun e w' => ∃ q : Int, e = .returned (.int .i64 q) ∧ w' = w := by
  obtain rfl | rfl | rfl | rfl | rfl | rfl | rfl | rfl | rfl | rfl | rfl | rfl | rfl : n = 0 ∨ n = 1 ∨ n = 2 ∨ n = 3 ∨ n = 4 ∨ n = 5 ∨ n = 6 ∨ n = 7 ∨ n = 8 ∨ n = 9 ∨ n = 10 ∨ n = 11 ∨ n = 12 := by omega
  all_goals
    go_enter Tryz.func246, Tryz.ntmps246
    go_wp2
    go_ret
    exact ⟨_, rfl, rfl⟩
set_option maxHeartbeats 2000000 in
theorem bitsLen (n : Nat) (hn : n ≤ 12) (w : World) : Calls Tryz.prog 225 #[.int .u64 n] w fun e w' => ∃ q : Int, e = .returned (.int .i64 q) ∧ w' = w := by
  have hl := bitsLen64 n hn w
  go_enter Tryz.func225, Tryz.ntmps225
  go_wp2_with fail
  refine hl.mono ?_
  rintro e w1 ⟨q, rfl, rfl⟩
  go_wp2
  go_ret
  exact ⟨_, rfl, rfl⟩
set_option maxHeartbeats 2000000 in
theorem sortF (g : Nat) (lb : Array Value) (v : Value) (n : Nat) (w : World) (R : World → Prop) (hv : ∃ a c, v = .slice a n c) (hn : n ≤ 12)
    (hs : Calls Tryz.prog 253 #[v, .int .i64 0, .int .i64 n, .func (.func g) #[] lb] w fun e w' => e = .returned (.tuple #[]) ∧ R w') :
    Calls Tryz.prog 203 #[v, .func (.func g) #[] lb] w fun e w' => e = .returned (.tuple #[]) ∧ R w' := by
  have hp := fun lim => pdq g lb v n lim w R hv hn hs
  have hl := bitsLen n hn w
  obtain ⟨a, c, rfl⟩ := hv
  have hn' : (n : Int) ≤ 12 := by omega
  clear hs
  go_enter Tryz.func203, Tryz.ntmps203
  go_wp2_with fail
  refine hl.mono ?_
  rintro e w1 ⟨q, rfl, rfl⟩
  go_wp2_with fail
  refine (hp _).mono ?_
  rintro e w2 ⟨rfl, hR⟩
  go_wp2
  exact bodyPost_end (v := .tuple #[]) (by simp [results, go_sem]) rfl ⟨rfl, hR⟩
end Go.Proofs.YtmoaobfmopimlafGreatDoor
namespace Go.Proofs.YtmoaobfmopimlafGreatDoor
open Go.RowKit Go.Shelf
theorem srt_apart : ∀ {l : Int} {js : List Jb}, Srt l js → js.Pairwise (fun y z => y.i ≠ z.i)
  | _, [], _ => List.Pairwise.nil
  | _, x :: r, h => List.Pairwise.cons (fun y hy => by have := Srt.above h.2 y hy; omega) (srt_apart h.2)
/-- The jobs that are due, in the book's order. -/
def late (t : Int) (js : List Jb) : List Jb := js.filter fun y => decide (y.n ≤ t)
theorem late_row {js ys : List Jb} {rs : List Rg} {t : Int} (hok : Ok js rs) (hr : Row ys) (hm : ∀ z, z ∈ ys ↔ z ∈ late t js) : ys = dueOf js t := by
  refine row_ext hr (dueOf_row t hok.srt) fun z => ?_
  rw [hm z, dueOf_mem, late, List.mem_filter]
  simp
end Go.Proofs.YtmoaobfmopimlafGreatDoor
namespace Go.Proofs.YtmoaobfmopimlafGreatDoor
open Go.RowKit Go.Shelf
set_option maxHeartbeats 1000000 in
theorem isNaN_any (x : Int) (w : World) : Calls Tryz.prog 262 #[.int .i64 x] w fun e w' => e = .returned (.bool false) ∧ w' = w := by
  go_enter Tryz.func262, Tryz.ntmps262
  go_wp2
  go_ret
  exact ⟨by simp, rfl⟩
/-- Which of two numbers is the less. -/
def cmp3 (x y : Int) : Int := if x < y then -1 else if y < x then 1 else 0
set_option maxHeartbeats 1000000 in
theorem compare_any (x y : Int) (w : World) : Calls Tryz.prog 227 #[.int .i64 x, .int .i64 y] w fun e w' => e = .returned (.int .i64 (cmp3 x y)) ∧ w' = w := by
  have h1 := isNaN_any x w
  have h2 := isNaN_any y w
  obtain ⟨r, hr⟩ : ∃ r, Hid (cmp3 x y = r) := ⟨_, rfl⟩
  rw [hr.out]
  by_cases hlt : x < y
  · have HR : Hid (r = -1) := by rw [Hid, ← hr.out, cmp3, if_pos hlt]
    go_enter Tryz.func227, Tryz.ntmps227
    go_wp2_with fail
    refine h1.mono ?_
    rintro e w1 ⟨rfl, rfl⟩
    go_wp2_with fail
    refine h2.mono ?_
    rintro e w2 ⟨rfl, rfl⟩
    go_wp2
    go_ret
    exact ⟨by rw [HR.out]; rfl, rfl⟩
  · by_cases hgt : y < x
    · have HR : Hid (r = 1) := by rw [Hid, ← hr.out, cmp3, if_neg hlt, if_pos hgt]
      go_enter Tryz.func227, Tryz.ntmps227
      go_wp2_with fail
      refine h1.mono ?_
      rintro e w1 ⟨rfl, rfl⟩
      go_wp2_with fail
      refine h2.mono ?_
      rintro e w2 ⟨rfl, rfl⟩
      go_wp2
      go_ret
      exact ⟨by rw [HR.out]; rfl, rfl⟩
    · have HR : Hid (r = 0) := by rw [Hid, ← hr.out, cmp3, if_neg hlt, if_neg hgt]
      go_enter Tryz.func227, Tryz.ntmps227
      go_wp2_with fail
      refine h1.mono ?_
      rintro e w1 ⟨rfl, rfl⟩
      go_wp2_with fail
      refine h2.mono ?_
      rintro e w2 ⟨rfl, rfl⟩
      go_wp2
      go_ret
      exact ⟨by rw [HR.out]; rfl, rfl⟩
set_option maxHeartbeats 1000000 in
/-- cmp.Or at two numbers. -/
theorem or_any (x y : Int) (b c : Nat) (w : World) (c0 : w.cell? ⟨b, 0, none⟩ = some (.int .i64 x)) (c1 : w.cell? ⟨b, 1, none⟩ = some (.int .i64 y)) :
    Calls Tryz.prog 226 #[.slice (some ⟨b, 0, none⟩) 2 c] w fun e w' => e = .returned (.int .i64 (if x = 0 then y else x)) ∧ w' = w := by
  obtain ⟨r, hr⟩ : ∃ r, Hid ((if x = 0 then y else x) = r) := ⟨_, rfl⟩
  rw [hr.out]
  by_cases hx : x = 0
  · have HR : Hid (r = y) := by rw [Hid, ← hr.out, if_pos hx]
    subst hx
    by_cases hy : y = 0
    · subst hy
      go_enter Tryz.func226, Tryz.ntmps226
      go_wp2_with fail
      refine wp_loop_rounds 3 ?_
      rw [rounds_succ]
      go_wp2
      rw [rounds_succ]
      go_wp2
      rw [rounds_succ]
      go_wp2
      go_ret
      exact ⟨by rw [HR.out]; rfl, rfl⟩
    · have hyb : (y == 0) = false := by rw [beq_eq_false_iff_ne]; exact hy
      go_enter Tryz.func226, Tryz.ntmps226
      go_wp2_with fail
      refine wp_loop_rounds 3 ?_
      rw [rounds_succ]
      go_wp2
      rw [rounds_succ]
      go_wp2
      go_ret
      exact ⟨by rw [HR.out]; rfl, rfl⟩
  · have HR : Hid (r = x) := by rw [Hid, ← hr.out, if_neg hx]
    have hxb : (x == 0) = false := by rw [beq_eq_false_iff_ne]; exact hx
    go_enter Tryz.func226, Tryz.ntmps226
    go_wp2_with fail
    refine wp_loop_rounds 3 ?_
    rw [rounds_succ]
    go_wp2
    go_ret
    exact ⟨by rw [HR.out]; rfl, rfl⟩
/-- The order of two jobs: by Next, then by ID. -/
def turn (x y : Jb) : Int := if cmp3 x.n y.n = 0 then cmp3 x.i y.i else cmp3 x.n y.n
theorem turn_neg (x y : Jb) : turn x y < 0 ↔ x.ahead y := by
  unfold turn cmp3 Jb.ahead
  repeat' split <;> omega
end Go.Proofs.YtmoaobfmopimlafGreatDoor
namespace Go.Proofs.YtmoaobfmopimlafGreatDoor
open Go.RowKit Go.Shelf
theorem compare_b (x y : Int) (w : World) : Calls Tryz.prog 227 #[.int .i64 x, .int .i64 y] w fun e w' => e = .returned (.int .i64 (cmp3 x y)) ∧ Below w.heap.size w w' :=
  (compare_any x y w).mono fun _ _ ⟨h1, h2⟩ => ⟨h1, by rw [h2]; exact Below.refl _ _⟩
/-- Two jobs in boxes. -/
abbrev Pair (W w : World) (b c : Nat) (x y : Jb) : Prop :=
  Below W.heap.size W w ∧ w.cell? ⟨b, 0, none⟩ = some (.int .i64 x.i) ∧ w.cell? ⟨b, 2, none⟩ = some (.int .i64 x.n) ∧ w.cell? ⟨c, 0, none⟩ = some (.int .i64 y.i) ∧ w.cell? ⟨c, 2, none⟩ = some (.int .i64 y.n)
theorem pair_step {W w w' : World} {b c : Nat} {x y : Jb} (h : Pair W w b c x y) (hb : Below w.heap.size w w') : Pair W w' b c x y :=
  ⟨h.1.trans (hb.mono h.1.size), cell_later hb h.2.1, cell_later hb h.2.2.1, cell_later hb h.2.2.2.1, cell_later hb h.2.2.2.2⟩
theorem or_new (x y : Int) (w : World) (T : TypeId) : Calls Tryz.prog 226 #[.slice (some ⟨w.heap.size, 0, none⟩) 2 2] (w.alloc (.cells #[.int .i64 x, .int .i64 y] T)) fun e w' => e = .returned (.int .i64 (if x = 0 then y else x)) ∧ Below (w.alloc (.cells #[.int .i64 x, .int .i64 y] T)).heap.size (w.alloc (.cells #[.int .i64 x, .int .i64 y] T)) w' :=
  (or_any x y w.heap.size 2 _ (Joins.cell_of_block (heap_new _ _) 0) (Joins.cell_of_block (heap_new _ _) 1)).mono fun _ _ ⟨h1, h2⟩ => ⟨h1, by rw [h2]; exact Below.refl _ _⟩
set_option maxHeartbeats 2000000 in
theorem inTurn_any (x y : Jb) (w : World) :
    Calls Tryz.prog 204 #[x.val, y.val] w fun e w' => e = .returned (.int .i64 (turn x y)) ∧ Below w.heap.size w w' := by
  have hS0 : Pair ((w.alloc (boxJ x)).alloc (boxJ y)) ((w.alloc (boxJ x)).alloc (boxJ y)) w.heap.size (w.heap.size + 1) x y := by
    have h1 : ((w.alloc (boxJ x)).alloc (boxJ y)).heap[w.heap.size]? = some (boxJ x) := heap_old (heap_new _ _) _
    have h2 : ((w.alloc (boxJ x)).alloc (boxJ y)).heap[w.heap.size + 1]? = some (boxJ y) := by
      have := heap_new (w.alloc (boxJ x)) (boxJ y)
      rwa [World.size_alloc] at this
    exact ⟨Below.refl _ _, Joins.cell_of_block h1 0, Joins.cell_of_block h1 2, Joins.cell_of_block h2 0, Joins.cell_of_block h2 2⟩
  have HB : Hid (Below w.heap.size w ((w.alloc (boxJ x)).alloc (boxJ y))) := grew (grew (Below.refl _ _) _) _
  have hor : ∀ (W : World) (T : TypeId), _ := fun W T => or_new (cmp3 x.n y.n) (cmp3 x.i y.i) W T
  have hc1 := fun W => compare_b x.n y.n W
  have hc2 := fun W => compare_b x.i y.i W
  change ∀ (W : World) (T : TypeId), Calls _ _ _ _ fun e w' => e = .returned (.int .i64 (turn x y)) ∧ _ at hor
  generalize turn x y = r at *
  generalize cmp3 x.n y.n = r1 at *
  generalize cmp3 x.i y.i = r2 at *
  go_enter Tryz.func204, Tryz.ntmps204
  go_wp2_with fail
  generalize (w.alloc (boxJ x)).alloc (boxJ y) = W0 at *
  have hbd : Below W0.heap.size W0 W0.drew := (Below.refl _ _).drew
  go_region_held3 (fun w' => Pair W0 w' w.heap.size (w.heap.size + 1) x y) (first | exact pair_step (by assumption) (by assumption) | exact pair_step (by assumption) (grew (Below.refl _ _) _)) (first | (go_at_call 227; with_reducible refine (hc1 _).mono ?_; rintro e w' ⟨rfl, hb'⟩) | (go_at_call 227; with_reducible refine (hc2 _).mono ?_; rintro e w' ⟨rfl, hb'⟩) | (go_at_call 226; refine (hor _ _).mono ?_; rintro e w' ⟨rfl, hb'⟩))
  all_goals
    rename_i hS
    have HB2 : Hid (Below w.heap.size w _) := HB.out.trans (hS.1.mono HB.out.size)
    clear hS hor hc1 hc2 hS0 hbd HB
    go_wp2
    go_ret
    exact ⟨rfl, HB2.out⟩
end Go.Proofs.YtmoaobfmopimlafGreatDoor
namespace Go.Proofs.YtmoaobfmopimlafGreatDoor
open Go.RowKit Go.Shelf
theorem ret_two {fn : Func} {R : Ending → World → Prop} {a : Act} {W : World} {p q : Nat} {x y : Value} (hf : fn.results = #[.tmp p, .tmp q]) (hd : a.defers = [])
    (h1 : a.tmps.getD p undef = x) (h2 : a.tmps.getD q undef = y) (hp : R (.returned (.tuple #[x, y])) W) : bodyPost Tryz.prog fn R .ret a W := by
  have h1' : a.tmps[p]?.getD undef = x := by simpa using h1
  have h2' : a.tmps[q]?.getD undef = y := by simpa using h2
  refine bodyPost_ret (v := .tuple #[x, y]) ?_ hd hp
  simp [results, hf, h1', h2', go_sem]
set_option maxHeartbeats 2000000 in
/-- What is wrong with a book and a time. -/
theorem due_check (a1 a2 : Option Addr) (n1 n2 c1 c2 : Nat) (js : List Jb) (rs : List Rg) (t : Int) (w : World) (h1 : JobSl w (.slice a1 n1 c1) js) (h2 : RungSl w (.slice a2 n2 c2) rs) :
    Calls Tryz.prog 200 #[.agg #[.slice a1 n1 c1, .slice a2 n2 c2], .int .i64 t] w fun e w' => e = .returned (.int .i64 (dueErr js rs t)) ∧ Below w.heap.size w w' := by
  have hB0 := grew (Below.refl w.heap.size w) (boxB (.slice a1 n1 c1) (.slice a2 n2 c2))
  have hck := bk_check (.slice a1 n1 c1) (.slice a2 n2 c2) js rs _ (h1.later hB0) (h2.later hB0)
  have HD : Hid (dueErr js rs t = if ckBook js rs ≠ 0 then ckBook js rs else if t < 0 ∨ 100000 < t then 3 else 0) := rfl
  have HB0 : Aside _ := hB0
  generalize dueErr js rs t = d at *
  generalize ckBook js rs = n at *
  clear h1 h2 hB0
  by_cases hn : n = 0
  · subst hn
    by_cases h0 : t < 0
    · have HR : Hid (d = 3) := by rw [Hid, HD.out, if_neg (by simp), if_pos (Or.inl h0)]
      go_enter Tryz.func200, Tryz.ntmps200
      go_wp2_with fail
      refine hck.mono ?_
      rintro e w1 ⟨rfl, hb1⟩
      have HB1 : Aside _ := HB0.out.trans (hb1.mono HB0.out.size)
      clear hck HB0 hb1
      go_wp2
      go_ret
      exact ⟨by rw [HR.out]; rfl, HB1.out⟩
    · by_cases h3 : 100000 < t
      · have HR : Hid (d = 3) := by rw [Hid, HD.out, if_neg (by simp), if_pos (Or.inr h3)]
        go_enter Tryz.func200, Tryz.ntmps200
        go_wp2_with fail
        refine hck.mono ?_
        rintro e w1 ⟨rfl, hb1⟩
        have HB1 : Aside _ := HB0.out.trans (hb1.mono HB0.out.size)
        clear hck HB0 hb1
        go_wp2
        go_ret
        exact ⟨by rw [HR.out]; rfl, HB1.out⟩
      · have HR : Hid (d = 0) := by rw [Hid, HD.out, if_neg (by simp), if_neg (by omega)]
        go_enter Tryz.func200, Tryz.ntmps200
        go_wp2_with fail
        refine hck.mono ?_
        rintro e w1 ⟨rfl, hb1⟩
        have HB1 : Aside _ := HB0.out.trans (hb1.mono HB0.out.size)
        clear hck HB0 hb1
        go_wp2
        go_ret
        exact ⟨by rw [HR.out]; rfl, HB1.out⟩
  · have HR : Hid (d = n) := by rw [Hid, HD.out, if_pos hn]
    have hnb : (n != 0) = true := by rw [bne_iff_ne]; exact hn
    go_enter Tryz.func200, Tryz.ntmps200
    go_wp2_with fail
    refine hck.mono ?_
    rintro e w1 ⟨rfl, hb1⟩
    have HB1 : Aside _ := HB0.out.trans (hb1.mono HB0.out.size)
    clear hck HB0 hb1
    go_wp2
    go_ret
    exact ⟨by rw [HR.out]; rfl, HB1.out⟩
theorem dueErr_zero {js : List Jb} {rs : List Rg} {t : Int} (h : dueErr js rs t = 0) : ckBook js rs = 0 ∧ 0 ≤ t ∧ t ≤ 100000 := by
  unfold dueErr at h
  split at h
  · exact absurd h (by assumption)
  · rename_i h1
    split at h
    · cases h
    · exact ⟨by simpa using h1, by omega, by omega⟩
end Go.Proofs.YtmoaobfmopimlafGreatDoor
namespace Go.Proofs.YtmoaobfmopimlafGreatDoor
open Go.RowKit Go.Shelf
set_option maxHeartbeats 1000000 in
/-- What is thrown out: what is due later. -/
theorem due_pred (t : Int) (eb : Nat) (W : World) (y : Jb) (h : W.heap[eb]? = some (.cells #[.int .i64 t] 3)) :
    Calls Tryz.prog 202 (#[y.val] ++ #[.pointer (some ⟨eb, 0, none⟩)]) W fun e w' => e = .returned (.bool (decide (t < y.n))) ∧ Below W.heap.size W w' := by
  have hlt := heap_lt h
  have hne : eb ≠ W.heap.size := by omega
  have c0 : W.cell? ⟨eb, 0, none⟩ = some (.int .i64 t) := Joins.cell_of_block h 0
  show Calls Tryz.prog 202 #[y.val, .pointer (some ⟨eb, 0, none⟩)] W _
  go_enter Tryz.func202, Tryz.ntmps202
  go_wp2
  all_goals (go_ret; exact ⟨by simp_all, grew (Below.refl _ _) _⟩)
set_option maxHeartbeats 2000000 in
theorem due_bad (a1 a2 : Option Addr) (n1 n2 c1 c2 : Nat) (js : List Jb) (rs : List Rg) (t : Int) (w : World) (h1 : JobSl w (.slice a1 n1 c1) js) (h2 : RungSl w (.slice a2 n2 c2) rs) (hbad : dueErr js rs t ≠ 0) :
    Calls Tryz.prog 174 #[.agg #[.slice a1 n1 c1, .slice a2 n2 c2], .int .i64 t] w fun e w' => e = .returned (.tuple #[nil0, .int .i64 (dueErr js rs t)]) ∧ Below w.heap.size w w' := by
  have hB0 := grew (grew (Below.refl w.heap.size w) (boxB (.slice a1 n1 c1) (.slice a2 n2 c2))) (.cells #[.int .i64 t] 3)
  have hck := due_check a1 a2 n1 n2 c1 c2 js rs t _ (h1.later hB0) (h2.later hB0)
  have hb : (dueErr js rs t != 0) = true := by rw [bne_iff_ne]; exact hbad
  have HB0 : Aside _ := hB0
  generalize dueErr js rs t = d at *
  clear h1 h2 hB0 hbad
  go_enter Tryz.func174, Tryz.ntmps174
  go_wp2_with fail
  refine hck.mono ?_
  rintro e w1 ⟨rfl, hb1⟩
  have HB1 : Aside _ := HB0.out.trans (hb1.mono HB0.out.size)
  clear hck HB0 hb1
  go_wp2
  refine ret_two (p := 4) (q := 5) rfl rfl rfl rfl ⟨rfl, HB1.out⟩
theorem late_filter (t : Int) (js : List Jb) : js.filter (fun x => !decide (t < x.n)) = late t js := by
  unfold late
  refine List.filter_congr fun x _ => ?_
  by_cases h : t < x.n
  · simp [h]
  · simp [h]; omega
set_option maxHeartbeats 4000000 in
set_option maxRecDepth 100000 in
theorem due_ok (a1 a2 : Option Addr) (n1 n2 c1 c2 : Nat) (js : List Jb) (rs : List Rg) (t : Int) (w : World) (h1 : JobSl w (.slice a1 n1 c1) js) (h2 : RungSl w (.slice a2 n2 c2) rs) (hz : dueErr js rs t = 0) :
    Calls Tryz.prog 174 #[.agg #[.slice a1 n1 c1, .slice a2 n2 c2], .int .i64 t] w fun e w' => ∃ u, e = .returned (.tuple #[u, .int .i64 0]) ∧ JobSl w' u (dueOf js t) ∧ Below w.heap.size w w' ∧ Roomy u := by
  obtain ⟨i0, hi, hz0, hz1, hz2⟩ := info_parts infoJ
  have hB0 := grew (grew (Below.refl w.heap.size w) (boxB (.slice a1 n1 c1) (.slice a2 n2 c2))) (.cells #[.int .i64 t] 3)
  have hck := due_check a1 a2 n1 n2 c1 c2 js rs t _ (h1.later hB0) (h2.later hB0)
  rw [hz] at hck
  have hok := ckBook_zero.1 (dueErr_zero hz).1
  have HO : Hid (Ok js rs) := hok
  have hn : n1 ≤ 6 := by have := hok.few; rwa [h1.len] at this
  have L1 : Hid (js.length = n1) := h1.len
  have H1 : Hid (JobSl w (.slice a1 n1 c1) js) := h1
  obtain ⟨cs, hcs⟩ : ∃ cs, Hid (js.flatMap Jb.cells = cs) := ⟨_, rfl⟩
  have hone : ∀ u ∈ cs, u.oneCell' = true := by rw [← hcs.out]; exact oneJ js
  have hlen : cs.length = n1 * 3 := by rw [← hcs.out, row_len Jb.three js, L1.out]
  have HW : Aside (((w.alloc (boxB (.slice a1 n1 c1) (.slice a2 n2 c2))).alloc (.cells #[.int .i64 t] 3)).heap[w.heap.size]? = some (boxB (.slice a1 n1 c1) (.slice a2 n2 c2))) := heap_old (heap_new _ _) _
  have HT : Aside (((w.alloc (boxB (.slice a1 n1 c1) (.slice a2 n2 c2))).alloc (.cells #[.int .i64 t] 3)).heap[w.heap.size + 1]? = some (.cells #[.int .i64 t] 3)) := by
    have := heap_new (w.alloc (boxB (.slice a1 n1 c1) (.slice a2 n2 c2))) (.cells #[.int .i64 t] 3)
    rwa [World.size_alloc] at this
  have HB0 : Aside _ := hB0
  clear h1 h2 hB0 hz hok
  go_enter Tryz.func174, Tryz.ntmps174
  go_wp2_with fail
  refine hck.mono ?_
  rintro e w1 ⟨rfl, hb1⟩
  have HB1 : Aside (Below w.heap.size w w1) := HB0.out.trans (hb1.mono HB0.out.size)
  have hw1 : w1.heap[w.heap.size]? = some (boxB (.slice a1 n1 c1) (.slice a2 n2 c2)) := heap_below HW.out hb1 (heap_lt HW.out)
  have ht1 : w1.heap[w.heap.size + 1]? = some (.cells #[.int .i64 t] 3) := heap_below HT.out hb1 (heap_lt HT.out)
  have z1 : ∀ i, w1.cell? ⟨w.heap.size, i, none⟩ = #[Value.slice a1 n1 c1, .slice a2 n2 c2][i]? := fun i => Joins.cell_of_block hw1 i
  have HW1 : Aside (w1.heap[w.heap.size]? = some (boxB (.slice a1 n1 c1) (.slice a2 n2 c2))) := hw1
  have HT1 : Aside (w1.heap[w.heap.size + 1]? = some (.cells #[.int .i64 t] 3)) := ht1
  clear hck HB0 hb1 HW hw1 HT ht1
  go_wp2_with (at_make; refine wpList_make_full _ rfl _ _ 36 rfl w1.heap.size 120 i0 (valJ 0 0 0) 3 Tryz.underlying36 hi hz0 hz1 _ _ _ _ n1 rfl rfl rfl rfl (by rw [hz2]; omega) (by unfold maxLen; omega) (Nat.le_refl _) ?_)
  intro w2 hown hgrow
  obtain ⟨hl0, ho⟩ := hown
  rcases ho with ⟨h, _⟩ | ⟨g, cap, cur, hv', _, hg, _, _, hsz, htake⟩
  · cases h
  injection hv' with ha _ hc
  injection ha with ha
  injection ha with ha _ _
  subst ha hc
  have hb2 : Below w1.heap.size w1 w2 := ⟨hgrow.os, hgrow.tape, hgrow.output, hgrow.size, fun k hk => hgrow.block k hk (fun h => by cases h)⟩
  have HB2 : Aside (Below w.heap.size w w2) := HB1.out.trans (hb2.mono HB1.out.size)
  have hcur : cur.toList.length = n1 * 3 := by simpa using hsz
  have hg' : w2.heap[w1.heap.size]? = some (.cells cur.toList.toArray 120 (0, 0)) := by simpa using hg
  have hw2 : w2.heap[w.heap.size]? = some (boxB (.slice a1 n1 c1) (.slice a2 n2 c2)) := heap_below HW1.out hb2 (heap_lt HW1.out)
  have z2 : ∀ i, w2.cell? ⟨w.heap.size, i, none⟩ = #[Value.slice a1 n1 c1, .slice a2 n2 c2][i]? := fun i => Joins.cell_of_block hw2 i
  have HT2 : Aside (w2.heap[w.heap.size + 1]? = some (.cells #[.int .i64 t] 3)) := heap_below HT1.out hb2 (heap_lt HT1.out)
  have hne1 : w.heap.size + 1 < w1.heap.size := heap_lt HT1.out
  clear hi hz0 hz1 hz2 hl0 htake hgrow hg hsz z1 HW1 hw2
  have hpos : 0 < Nat.min n1 n1 → (some ⟨w1.heap.size, 0, none⟩ : Option Addr) = some ⟨w1.heap.size, 0, none⟩ ∧ ∃ ad, a1 = some ad ∧ ∀ j v, cs[j]? = some v → w2.cell? (ad.add j) = some v := fun h0 => by
    have h0' : 0 < n1 := by
      have : 0 < min n1 n1 := h0
      omega
    obtain ⟨b, off, rfl, hE⟩ := H1.out.at h0'
    refine ⟨rfl, _, rfl, fun j u hj => ?_⟩
    rw [Lib.add_plain]
    rw [← hcs.out] at hj
    exact rows_flat Jb.three js off (hE.later HB2.out) j u hj
  have hmin : cs.length = Nat.min n1 n1 * 3 := by rw [hlen]; show _ = min n1 n1 * 3; rw [Nat.min_self]
  have hfit : 0 + cs.length ≤ cur.toList.length := by rw [hcur, hlen]; omega
  have hall := splice_all (hcur.trans hlen.symm)
  obtain ⟨cl, hcl⟩ : ∃ cl, Hid (cur.toList = cl) := ⟨_, rfl⟩
  rw [hcl.out] at hg' hfit hall
  clear hcur hcl
  go_wp2_with ((with_reducible show wpList _ _ _ (Oper.mk (some 21) _ _ _ _ _ :: _) _ _); refine wpList_copyK rfl _ _ 36 36 rfl 120 3 Tryz.underlying36 sizeJ (some ⟨w1.heap.size, 0, none⟩) a1 n1 n1 n1 c1 rfl rfl w1.heap.size 0 cl 120 hg' cs hmin hpos hfit hone w1.heap.size w1 hb2 (Nat.le_refl _) ?_)
  intro w3 hg3 hB3
  have HG3 : w3.heap[w1.heap.size]? = some (.cells (js.flatMap Jb.cells).toArray 120) := by rw [hcs.out]; exact hg3.out
  have HT3 : w3.heap[w.heap.size + 1]? = some (.cells #[.int .i64 t] 3) := heap_below HT1.out hB3 (by omega)
  have HB3 : Aside (Below w.heap.size w w3) := HB1.out.trans (hB3.mono HB1.out.size)
  have eg : ∀ args w, (callFunc 202 args).run Tryz.prog w = .ok (.enter 202 args) w := enters_of Tryz.func202 (by kernel_rfl) rfl
  have hdel := delG (fun y => decide (t < y.n)) 202 #[.pointer (some ⟨w.heap.size + 1, 0, none⟩)] eg (w.heap.size + 1) _ w1.heap.size n1 js w3 (by omega) HT3 HG3 (by rw [L1.out]; omega) (by rw [L1.out]; exact Nat.le_refl _) (fun W y hW => due_pred t (w.heap.size + 1) W y hW)
  rw [late_filter, L1.out] at hdel
  have hlm : (late t js).length ≤ n1 := by rw [← L1.out]; exact List.length_filter_le _ _
  obtain ⟨m, hml⟩ : ∃ m, Hid ((late t js).length = m) := ⟨_, rfl⟩
  rw [hml.out] at hdel hlm
  have hsz1 := HB1.out.size
  clear hg3 HG3 HT3 hB3 eg HT1 HT2 z2 hb2 HB2 hcs hone hlen hmin hall hfit hg' hpos HB1 H1
  go_wp2_with fail
  refine hdel.mono ?_
  rintro e w4 ⟨rfl, ⟨tl, hg4⟩, hk4⟩
  have eg2 : ∀ args w, (callFunc 204 args).run Tryz.prog w = .ok (.enter 204 args) w := enters_of Tryz.func204 (by kernel_rfl) rfl
  have his := isort 204 #[] eg2 w1.heap.size n1 m (late t js) tl w4 hml.out (by omega) ((srt_apart HO.out.srt).filter _) hg4 (fun W x y _ _ => (inTurn_any x y W).mono fun _ _ ⟨h1, h2⟩ => ⟨turn x y, h1, turn_neg x y, h2⟩)
  have hs := sortF 204 #[] (.slice (some ⟨w1.heap.size, 0, none⟩) m n1) m w4 _ ⟨_, _, rfl⟩ (by omega) his
  have HK4 : Aside (Kept [w1.heap.size] w3 w4) := hk4
  clear hdel hg4 hk4 eg2 his
  go_wp2_with fail
  refine hs.mono ?_
  rintro e w5 ⟨rfl, ys, hr, hmem, hyl, hg5, hk5⟩
  have hyd := late_row HO.out hr hmem
  have J5 : Aside (JobSl w5 (.slice (some ⟨w1.heap.size, 0, none⟩) m n1) (dueOf js t)) := by
    rw [← hyd, ← hyl]
    exact slOf_block Jb.three hg5 ⟨_, rfl⟩
  have hs3 := HB3.out.size
  have B5 : Aside (Below w.heap.size w w5) := (HB3.out.trans (HK4.out.to hs3 (fun k hk => by simp at hk; omega))).trans (hk5.to (by have := HK4.out.size; omega) (fun k hk => by simp at hk; omega))
  clear hr hmem hyl hg5 hk5 hyd hs HK4 HB3
  go_wp2
  refine ret_two (p := 4) (q := 5) rfl rfl rfl rfl ⟨_, rfl, J5.out, B5.out, ⟨_, _, _, rfl, hlm⟩⟩
end Go.Proofs.YtmoaobfmopimlafGreatDoor
namespace Go.Proofs.YtmoaobfmopimlafGreatDoor
open Go.RowKit Go.Shelf
theorem due_any (v1 v2 : Value) (js : List Jb) (rs : List Rg) (t : Int) (w : World) (h1 : JobSl w v1 js) (h2 : RungSl w v2 rs) :
    Calls Tryz.prog 174 #[.agg #[v1, v2], .int .i64 t] w fun e w' => ∃ u, e = .returned (.tuple #[u, .int .i64 (dueErr js rs t)]) ∧ JobSl w' u (if dueErr js rs t = 0 then dueOf js t else []) ∧ Below w.heap.size w w' ∧ Roomy u := by
  obtain ⟨a1, c1, a2, c2, rfl, rfl⟩ := bk_slices h1 h2
  by_cases hz : dueErr js rs t = 0
  · rw [if_pos hz, hz]
    exact due_ok a1 a2 _ _ c1 c2 js rs t w h1 h2 hz
  · rw [if_neg hz]
    exact (due_bad a1 a2 _ _ c1 c2 js rs t w h1 h2 hz).mono fun _ _ ⟨he, hb⟩ => ⟨_, he, SlOf.nil _ _, hb, ⟨_, _, _, rfl, Nat.le_refl _⟩⟩
end Go.Proofs.YtmoaobfmopimlafGreatDoor
