/- For the law. -/
import Derived.Test.YtmoaobfmopimlafGreatDoorM43
set_option linter.unusedSimpArgs false
set_option linter.unusedVariables false
namespace Go.Proofs.YtmoaobfmopimlafGreatDoor
open Go.RowKit
section
open Go.Shelf
set_option maxHeartbeats 4000000 in
theorem put_mid (x : En) (ab gj gr : Nat) (js : List Jb) (rs : List Rg) (w : World) (h : Own w ab gj gr js rs) (hn : js.length ≤ 6) (hj : jobAt js x.j = -1) (hr : 0 ≤ idx (fun y => decide (x.j < y.i)) js) :
  Calls Tryz.prog 230 #[.pointer (some ⟨ab, 0, none⟩), x.val] w fun e w' => e = .returned (.tuple #[]) ∧ ∃ u1 u2, Left w w' ab [ab, gj] (js.take (place js x.j) ++ ⟨x.j, x.v, x.t⟩ :: js.drop (place js x.j)) rs u1 u2 := by
 have hB := grew (Below.refl w.heap.size w) (boxE x.k x.j x.v x.t x.c)
 have h' := h.later hB
 have hpl := place_le js x.j
 have hpd : Hid (place js x.j = if idx (fun y => decide (x.j < y.i)) js < 0 then js.length else (idx (fun y => decide (x.j < y.i)) js).toNat) := rfl
 obtain ⟨n, hnn⟩ : ∃ n, Hid (js.length = n) := ⟨_, rfl⟩
 obtain ⟨m, hmm⟩ : ∃ m, Hid (rs.length = m) := ⟨_, rfl⟩
 have hS0 : Reads (w.alloc (boxE x.k x.j x.v x.t x.c)) (w.alloc (boxE x.k x.j x.v x.t x.c)) ab gj gr w.heap.size n m x := by
  refine ⟨Below.refl _ _, ?_, ?_, ?_⟩
  ·rw [Joins.cell_of_block h'.head, ← hnn.out]; rfl
  ·rw [Joins.cell_of_block h'.head, ← hmm.out]; rfl
  ·rw [Joins.cell_of_block (heap_new _ _)]; rfl
 have hfind := fun (W : World) (hb : Below (w.alloc (boxE x.k x.j x.v x.t x.c)).heap.size (w.alloc (boxE x.k x.j x.v x.t x.c)) W) => find_any (.slice (some ⟨gj, 0, none⟩) js.length js.length) (.slice (some ⟨gr, 0, none⟩) rs.length rs.length) js x.j W (h'.sj.later hb) (by unfold most; omega)
 rw [hnn.out, hmm.out, hj] at hfind
 have eg : ∀ args w, (callFunc 264 args).run Tryz.prog w = .ok (.enter 264 args) w := enters_of Tryz.func264 (by kernel_rfl) rfl
 have hix : ∀ (W : World), Own W ab gj gr js rs → W.heap[w.heap.size]? = some (boxE x.k x.j x.v x.t x.c) → _ := fun W hO hE => idxFJ (fun y => decide (x.j < y.i)) 264 #[.pointer (some ⟨w.heap.size, 0, none⟩)] eg _ js W hO.sj (by unfold most; omega) (fun W' y hb => (put_pred x w.heap.size W' y (heap_below hE hb (heap_lt hE))).mono fun e w' ⟨h1, h2⟩ => ⟨h1, hb.trans (h2.mono hb.size)⟩)
 rw [hnn.out] at hix
 rw [hnn.out] at hpl hpd
 obtain ⟨p, hpp⟩ : ∃ p, Hid (place js x.j = p) := ⟨_, rfl⟩
 rw [hpp.out] at hpl hpd ⊢
 obtain ⟨J', hJ'⟩ : ∃ J', Hid (js.take p ++ ⟨x.j, x.v, x.t⟩ :: js.drop p = J') := ⟨_, rfl⟩
 rw [hJ'.out]
 have hins := fun (W : World) (vb : Nat) (hO : Own W ab gj gr js rs) (hb : Below w.heap.size w W) (hE : W.heap[w.heap.size]? = some (boxE x.k x.j x.v x.t x.c)) hv => ins_left ⟨x.j, x.v, x.t⟩ x w.heap.size ab gj gr vb p n m js J' rs w W hnn.out hmm.out hpl (by rw [← hnn.out]; exact hn) hJ'.out hO hb hE (by have := heap_lt h.jobs; omega) hv
 have HO : Aside (Own (w.alloc (boxE x.k x.j x.v x.t x.c)) ab gj gr js rs ∧ Below w.heap.size w (w.alloc (boxE x.k x.j x.v x.t x.c)) ∧ (w.alloc (boxE x.k x.j x.v x.t x.c)).heap[w.heap.size]? = some (boxE x.k x.j x.v x.t x.c)) := ⟨h', hB, heap_new _ _⟩
 have hab := heap_lt h.head
 have ne1 := h.ne1
 have ne3 := h.ne3
 have ne2 := h.ne2
 have hgj := heap_lt h.jobs
 have HI : Aside _ := hix
 have HN : Aside _ := hins
 clear h h' hB hj hix hins
 go_enter Tryz.func230, Tryz.ntmps230
 go_wp2_with fail
 generalize w.alloc (boxE x.k x.j x.v x.t x.c) = W0 at *
 have hbd : Below W0.heap.size W0 W0.drew := (Below.refl _ _).drew
 go_region_held3 (fun w' => Reads W0 w' ab gj gr w.heap.size n m x) (exact reads_step (by assumption) (by assumption)) (first | (go_at_call 263; refine (hfind _ (reads_below (by assumption))).mono ?_; rintro e w1 ⟨rfl, hb'⟩))
 all_goals
  rename_i hS
  clear hb'
  obtain ⟨hB1, y0, y1, y2⟩ := hS
  have hw1 : w.heap.size < w1.heap.size := by have := heap_lt HO.out.2.2; have := hB1.size; omega
  have O1 : Own w1 ab gj gr js rs := HO.out.1.later hB1
  have E1 : w1.heap[w.heap.size]? = some (boxE x.k x.j x.v x.t x.c) := heap_below HO.out.2.2 hB1 (heap_lt HO.out.2.2)
  have B1 : Aside (Below w.heap.size w w1) := HO.out.2.1.trans (hB1.mono HO.out.2.1.size)
  have hix := HI.out w1 O1 E1
  have A1 : Aside (Own w1 ab gj gr js rs ∧ w1.heap[w.heap.size]? = some (boxE x.k x.j x.v x.t x.c)) := ⟨O1, E1⟩
  clear hS0 hfind hbd hB1 O1 E1 HI HO y2
  generalize idx (fun y => decide (x.j < y.i)) js = r at *
  have HR0 : Hid (r = (p : Nat)) := by
   have h0 := hpd.out
   rw [if_neg (by omega)] at h0
   rw [Hid]; omega
  clear hpd
  go_wp2_with fail
  refine hix.mono ?_
  rintro e w2 ⟨rfl, hb2⟩
  have O2 : Own w2 ab gj gr js rs := A1.out.1.later hb2
  have E2 : w2.heap[w.heap.size]? = some (boxE x.k x.j x.v x.t x.c) := heap_below A1.out.2 hb2 (heap_lt A1.out.2)
  have B2 : Aside (Below w.heap.size w w2) := B1.out.trans (hb2.mono B1.out.size)
  have A2 : Aside (Own w2 ab gj gr js rs ∧ w2.heap[w.heap.size]? = some (boxE x.k x.j x.v x.t x.c)) := ⟨O2, E2⟩
  have hw2 : w.heap.size < w2.heap.size := by have := hb2.size; omega
  have z0 : w2.cell? ⟨ab, 0, none⟩ = some (.slice (some ⟨gj, 0, none⟩) n n) := by rw [Joins.cell_of_block O2.head, ← hnn.out]; rfl
  have e0 := fun i => Joins.cell_of_block E2 i
  clear hix hb2 O2 E2 A1 B1 y0 y1
  have hOa : Aside (∀ o, Own (w2.alloc o).drew ab gj gr js rs) := fun o => A2.out.1.later (grew (Below.refl _ _) _).drew
  have hBa : Aside (∀ o, Below w.heap.size w (w2.alloc o).drew) := fun o => (grew B2.out _).drew
  have hEa : Aside (∀ o, (w2.alloc o).drew.heap[w.heap.size]? = some (boxE x.k x.j x.v x.t x.c)) := fun o => heap_old A2.out.2 _
  have hS0 : PutS w2 w.heap.size x := putS_of A2.out.2
  have hbd : Below w2.heap.size w2 w2.drew := (Below.refl _ _).drew
  have q0 : ab < w2.heap.size := by omega
  have q1 : ab ≠ w2.heap.size := by omega
  have q2 : ab ≠ w.heap.size := by omega
  obtain rfl := HR0.out
  go_wp2_with fail
  refine wp_region_noPanic ?_
  refine region_L (fun w' => w'.cell? ⟨ab, 0, none⟩ = some (.slice (some ⟨gj, 0, none⟩) n n) ∧ PutS w' w.heap.size x) 17 (by kernel_rfl) (⟨z0, hS0⟩) (fun hHeld => ?_)
  refine tl 0 (v := ?_) rfl (by kernel_rfl) (by rfl) (by assumption) (fun _ _ _ h => h) ?_ ?_
  rotate_left
  ·(intro w0 hSw; (try dsimp only at hSw); go_simp; first | done | with_reducible rfl)
  try simp only [Act.put, qa, qb, qc]
  refine tl 1 (v := ?_) rfl (by kernel_rfl) (by rfl) (by assumption) (fun _ _ _ h => h) ?_ ?_
  rotate_left
  ·(intro w0 hSw; (try dsimp only at hSw); go_simp; first | done | with_reducible rfl)
  try simp only [Act.put, qa, qb, qc]
  refine tl 2 (v := ?_) rfl (by kernel_rfl) (by rfl) (by assumption) (fun _ _ _ h => h) ?_ ?_
  rotate_left
  ·(intro w0 hSw; (try dsimp only at hSw); go_simp; first | done | with_reducible rfl)
  try simp only [Act.put, qa, qb, qc]
  refine tl 3 (v := ?_) rfl (by kernel_rfl) (by rfl) (by assumption) (fun _ _ _ h => h) ?_ ?_
  rotate_left
  ·(intro w0 hSw; (try dsimp only at hSw); go_simp; first | done | with_reducible rfl)
  try simp only [Act.put, qa, qb, qc]
  refine tl 4 (v := ?_) rfl (by kernel_rfl) (by rfl) (by assumption) (fun _ _ _ h => h) ?_ ?_
  rotate_left
  ·(intro w0 hSw; (try dsimp only at hSw); go_simp; first | done | with_reducible rfl)
  try simp only [Act.put, qa, qb, qc]
  refine tl 5 (v := ?_) rfl (by kernel_rfl) (by rfl) (by assumption) (fun _ _ _ h => h) ?_ ?_
  rotate_left
  ·(intro w0 hSw; (try dsimp only at hSw); go_simp; first | done | with_reducible rfl)
  try simp only [Act.put, qa, qb, qc]
  refine tl 6 (v := ?_) rfl (by kernel_rfl) (by rfl) (by assumption) (fun _ _ _ h => h) ?_ ?_
  rotate_left
  ·(intro w0 hSw; (try dsimp only at hSw); go_simp; first | done | with_reducible rfl)
  try simp only [Act.put, qa, qb, qc]
  refine tl 7 (v := ?_) rfl (by kernel_rfl) (by rfl) (by assumption) (fun _ _ _ h => h) ?_ ?_
  rotate_left
  ·(intro w0 hSw; (try dsimp only at hSw); go_simp; first | done | with_reducible rfl)
  try simp only [Act.put, qa, qb, qc]
  refine tl 8 (v := ?_) rfl (by kernel_rfl) (by rfl) (by assumption) (fun _ _ _ h => h) ?_ ?_
  rotate_left
  ·(intro w0 hSw; (try dsimp only at hSw); go_simp; first | done | with_reducible rfl)
  try simp only [Act.put, qa, qb, qc]
  refine tl 9 (v := ?_) rfl (by kernel_rfl) (by rfl) (by assumption) (fun _ _ _ h => h) ?_ ?_
  rotate_left
  ·(intro w0 hSw; (try dsimp only at hSw); go_simp; first | done | with_reducible rfl)
  try simp only [Act.put, qa, qb, qc]
  refine tl 10 (v := ?_) rfl (by kernel_rfl) (by rfl) (by assumption) (fun _ _ _ h => h) ?_ ?_
  rotate_left
  ·(intro w0 hSw; (try dsimp only at hSw); go_simp; first | done | with_reducible rfl)
  try simp only [Act.put, qa, qb, qc]
  refine tl 11 (v := ?_) rfl (by kernel_rfl) (by rfl) (by assumption) (fun _ _ _ h => h) ?_ ?_
  rotate_left
  ·(intro w0 hSw; (try dsimp only at hSw); go_simp; first | done | with_reducible rfl)
  try simp only [Act.put, qa, qb, qc]
  refine tl 12 (v := ?_) rfl (by kernel_rfl) (by rfl) (by assumption) (fun _ _ _ h => h) ?_ ?_
  rotate_left
  ·(intro w0 hSw; (try dsimp only at hSw); go_simp; first | done | with_reducible rfl)
  try simp only [Act.put, qa, qb, qc]
  refine anyL_one (i := 13) (by kernel_rfl) rfl (fun K hK => ?_)
  go_simp
  refine hK.out _ _ (fun _ => ⟨cell_later (grew (Below.refl _ _) _) hHeld.1, putS_new hHeld.2⟩) (fun hNext => ?_)
  replace hNext := hNext (by kernel_rfl)
  clear hK K hHeld
  try simp only [Act.put, qa, qb, qc]
  refine anyL_one (i := 14) (by kernel_rfl) rfl (fun K hK => ?_)
  go_simp
  refine (HN.out _ _ (hOa.out _) (hBa.out _) (hEa.out _) (heap_new w2 _)).mono ?_
  rintro e w3 ⟨a3, c3, rfl, z3, f3, p3, AA⟩
  refine hK.out _ _ (fun _ => ⟨by rw [z3]; rfl, p3⟩) (fun hNext => ?_)
  replace hNext := hNext (by kernel_rfl)
  clear hK K
  try simp only [Act.put, qa, qb, qc]
  refine anyL_one (i := 15) (by kernel_rfl) rfl (fun K hK => ?_)
  go_simp
  refine hK.out _ _ (fun _ => hNext) (fun _ => ?_)
  clear hK K
  try simp only [Act.put, qa, qb, qc]
  refine anyL_one (i := 16) (by kernel_rfl) rfl (fun K hK => ?_)
  go_simp
  refine hK.out _ _ (fun _ => hNext) (fun _ => ?_)
  clear hK K
  try simp only [Act.put, qa, qb, qc]
  refine anyL_one (i := 17) (by kernel_rfl) rfl (fun K hK => ?_)
  go_simp
  refine hK.out _ _ (fun h => absurd h (by decide +kernel)) (fun _ => ?_)
  clear hK K
  refine anyL_done (by kernel_rfl) ?_ _
  refine NoPanic.normal ?_
  try simp only [Act.put, qa, qb, qc]
  go_wp2
  exact bodyPost_end (v := .tuple #[]) (by simp [results, go_sem]) rfl ⟨rfl, _, _, put_left ne2 AA.out⟩
end
section
open Go.Shelf
set_option maxHeartbeats 4000000 in
theorem put_end (x : En) (ab gj gr : Nat) (js : List Jb) (rs : List Rg) (w : World) (h : Own w ab gj gr js rs) (hn : js.length ≤ 6) (hj : jobAt js x.j = -1) (hr : idx (fun y => decide (x.j < y.i)) js < 0) :
  Calls Tryz.prog 230 #[.pointer (some ⟨ab, 0, none⟩), x.val] w fun e w' => e = .returned (.tuple #[]) ∧ ∃ u1 u2, Left w w' ab [ab, gj] (js.take (place js x.j) ++ ⟨x.j, x.v, x.t⟩ :: js.drop (place js x.j)) rs u1 u2 := by
 have hB := grew (Below.refl w.heap.size w) (boxE x.k x.j x.v x.t x.c)
 have h' := h.later hB
 have hpl := place_le js x.j
 have hpd : Hid (place js x.j = if idx (fun y => decide (x.j < y.i)) js < 0 then js.length else (idx (fun y => decide (x.j < y.i)) js).toNat) := rfl
 obtain ⟨n, hnn⟩ : ∃ n, Hid (js.length = n) := ⟨_, rfl⟩
 obtain ⟨m, hmm⟩ : ∃ m, Hid (rs.length = m) := ⟨_, rfl⟩
 have hS0 : Reads (w.alloc (boxE x.k x.j x.v x.t x.c)) (w.alloc (boxE x.k x.j x.v x.t x.c)) ab gj gr w.heap.size n m x := by
  refine ⟨Below.refl _ _, ?_, ?_, ?_⟩
  ·rw [Joins.cell_of_block h'.head, ← hnn.out]; rfl
  ·rw [Joins.cell_of_block h'.head, ← hmm.out]; rfl
  ·rw [Joins.cell_of_block (heap_new _ _)]; rfl
 have hfind := fun (W : World) (hb : Below (w.alloc (boxE x.k x.j x.v x.t x.c)).heap.size (w.alloc (boxE x.k x.j x.v x.t x.c)) W) => find_any (.slice (some ⟨gj, 0, none⟩) js.length js.length) (.slice (some ⟨gr, 0, none⟩) rs.length rs.length) js x.j W (h'.sj.later hb) (by unfold most; omega)
 rw [hnn.out, hmm.out, hj] at hfind
 have eg : ∀ args w, (callFunc 264 args).run Tryz.prog w = .ok (.enter 264 args) w := enters_of Tryz.func264 (by kernel_rfl) rfl
 have hix : ∀ (W : World), Own W ab gj gr js rs → W.heap[w.heap.size]? = some (boxE x.k x.j x.v x.t x.c) → _ := fun W hO hE => idxFJ (fun y => decide (x.j < y.i)) 264 #[.pointer (some ⟨w.heap.size, 0, none⟩)] eg _ js W hO.sj (by unfold most; omega) (fun W' y hb => (put_pred x w.heap.size W' y (heap_below hE hb (heap_lt hE))).mono fun e w' ⟨h1, h2⟩ => ⟨h1, hb.trans (h2.mono hb.size)⟩)
 rw [hnn.out] at hix
 rw [hnn.out] at hpl hpd
 obtain ⟨p, hpp⟩ : ∃ p, Hid (place js x.j = p) := ⟨_, rfl⟩
 rw [hpp.out] at hpl hpd ⊢
 obtain ⟨J', hJ'⟩ : ∃ J', Hid (js.take p ++ ⟨x.j, x.v, x.t⟩ :: js.drop p = J') := ⟨_, rfl⟩
 rw [hJ'.out]
 have hins := fun (W : World) (vb : Nat) (hO : Own W ab gj gr js rs) (hb : Below w.heap.size w W) (hE : W.heap[w.heap.size]? = some (boxE x.k x.j x.v x.t x.c)) hv => ins_left ⟨x.j, x.v, x.t⟩ x w.heap.size ab gj gr vb p n m js J' rs w W hnn.out hmm.out hpl (by rw [← hnn.out]; exact hn) hJ'.out hO hb hE (by have := heap_lt h.jobs; omega) hv
 have HO : Aside (Own (w.alloc (boxE x.k x.j x.v x.t x.c)) ab gj gr js rs ∧ Below w.heap.size w (w.alloc (boxE x.k x.j x.v x.t x.c)) ∧ (w.alloc (boxE x.k x.j x.v x.t x.c)).heap[w.heap.size]? = some (boxE x.k x.j x.v x.t x.c)) := ⟨h', hB, heap_new _ _⟩
 have hab := heap_lt h.head
 have ne1 := h.ne1
 have ne3 := h.ne3
 have ne2 := h.ne2
 have hgj := heap_lt h.jobs
 have HI : Aside _ := hix
 have HN : Aside _ := hins
 clear h h' hB hj hix hins
 go_enter Tryz.func230, Tryz.ntmps230
 go_wp2_with fail
 generalize w.alloc (boxE x.k x.j x.v x.t x.c) = W0 at *
 have hbd : Below W0.heap.size W0 W0.drew := (Below.refl _ _).drew
 go_region_held3 (fun w' => Reads W0 w' ab gj gr w.heap.size n m x) (exact reads_step (by assumption) (by assumption)) (first | (go_at_call 263; refine (hfind _ (reads_below (by assumption))).mono ?_; rintro e w1 ⟨rfl, hb'⟩))
 all_goals
  rename_i hS
  clear hb'
  obtain ⟨hB1, y0, y1, y2⟩ := hS
  have hw1 : w.heap.size < w1.heap.size := by have := heap_lt HO.out.2.2; have := hB1.size; omega
  have O1 : Own w1 ab gj gr js rs := HO.out.1.later hB1
  have E1 : w1.heap[w.heap.size]? = some (boxE x.k x.j x.v x.t x.c) := heap_below HO.out.2.2 hB1 (heap_lt HO.out.2.2)
  have B1 : Aside (Below w.heap.size w w1) := HO.out.2.1.trans (hB1.mono HO.out.2.1.size)
  have hix := HI.out w1 O1 E1
  have A1 : Aside (Own w1 ab gj gr js rs ∧ w1.heap[w.heap.size]? = some (boxE x.k x.j x.v x.t x.c)) := ⟨O1, E1⟩
  clear hS0 hfind hbd hB1 O1 E1 HI HO y2
  generalize idx (fun y => decide (x.j < y.i)) js = r at *
  have HR0 : Hid (p = n) := by
   have h0 := hpd.out
   rw [if_pos hr] at h0
   exact h0
  clear hpd
  go_wp2_with fail
  refine hix.mono ?_
  rintro e w2 ⟨rfl, hb2⟩
  have O2 : Own w2 ab gj gr js rs := A1.out.1.later hb2
  have E2 : w2.heap[w.heap.size]? = some (boxE x.k x.j x.v x.t x.c) := heap_below A1.out.2 hb2 (heap_lt A1.out.2)
  have B2 : Aside (Below w.heap.size w w2) := B1.out.trans (hb2.mono B1.out.size)
  have A2 : Aside (Own w2 ab gj gr js rs ∧ w2.heap[w.heap.size]? = some (boxE x.k x.j x.v x.t x.c)) := ⟨O2, E2⟩
  have hw2 : w.heap.size < w2.heap.size := by have := hb2.size; omega
  have z0 : w2.cell? ⟨ab, 0, none⟩ = some (.slice (some ⟨gj, 0, none⟩) n n) := by rw [Joins.cell_of_block O2.head, ← hnn.out]; rfl
  have e0 := fun i => Joins.cell_of_block E2 i
  clear hix hb2 O2 E2 A1 B1 y0 y1
  have hOa : Aside (∀ o, Own (w2.alloc o).drew ab gj gr js rs) := fun o => A2.out.1.later (grew (Below.refl _ _) _).drew
  have hBa : Aside (∀ o, Below w.heap.size w (w2.alloc o).drew) := fun o => (grew B2.out _).drew
  have hEa : Aside (∀ o, (w2.alloc o).drew.heap[w.heap.size]? = some (boxE x.k x.j x.v x.t x.c)) := fun o => heap_old A2.out.2 _
  have hS0 : PutS w2 w.heap.size x := putS_of A2.out.2
  have hbd : Below w2.heap.size w2 w2.drew := (Below.refl _ _).drew
  have q0 : ab < w2.heap.size := by omega
  have q1 : ab ≠ w2.heap.size := by omega
  have q2 : ab ≠ w.heap.size := by omega
  obtain rfl := HR0.out
  go_wp2_with fail
  refine wp_region_noPanic ?_
  refine region_L (fun w' => w'.cell? ⟨ab, 0, none⟩ = some (.slice (some ⟨gj, 0, none⟩) p p) ∧ PutS w' w.heap.size x) 17 (by kernel_rfl) (⟨z0, hS0⟩) (fun hHeld => ?_)
  refine tl 0 (v := ?_) rfl (by kernel_rfl) (by rfl) (by assumption) (fun _ _ _ h => h) ?_ ?_
  rotate_left
  ·(intro w0 hSw; (try dsimp only at hSw); go_simp; first | done | with_reducible rfl)
  try simp only [Act.put, qa, qb, qc]
  refine tl 1 (v := ?_) rfl (by kernel_rfl) (by rfl) (by assumption) (fun _ _ _ h => h) ?_ ?_
  rotate_left
  ·(intro w0 hSw; (try dsimp only at hSw); go_simp; first | done | with_reducible rfl)
  try simp only [Act.put, qa, qb, qc]
  refine tl 2 (v := ?_) rfl (by kernel_rfl) (by rfl) (by assumption) (fun _ _ _ h => h) ?_ ?_
  rotate_left
  ·(intro w0 hSw; (try dsimp only at hSw); go_simp; first | done | with_reducible rfl)
  try simp only [Act.put, qa, qb, qc]
  refine tl 3 (v := ?_) rfl (by kernel_rfl) (by rfl) (by assumption) (fun _ _ _ h => h) ?_ ?_
  rotate_left
  ·(intro w0 hSw; (try dsimp only at hSw); go_simp; first | done | with_reducible rfl)
  try simp only [Act.put, qa, qb, qc]
  refine tl 4 (v := ?_) rfl (by kernel_rfl) (by rfl) (by assumption) (fun _ _ _ h => h) ?_ ?_
  rotate_left
  ·(intro w0 hSw; (try dsimp only at hSw); go_simp; first | done | with_reducible rfl)
  try simp only [Act.put, qa, qb, qc]
  refine tl 5 (v := ?_) rfl (by kernel_rfl) (by rfl) (by assumption) (fun _ _ _ h => h) ?_ ?_
  rotate_left
  ·(intro w0 hSw; (try dsimp only at hSw); go_simp; first | done | with_reducible rfl)
  try simp only [Act.put, qa, qb, qc]
  refine tl 6 (v := ?_) rfl (by kernel_rfl) (by rfl) (by assumption) (fun _ _ _ h => h) ?_ ?_
  rotate_left
  ·(intro w0 hSw; (try dsimp only at hSw); go_simp; first | done | with_reducible rfl)
  try simp only [Act.put, qa, qb, qc]
  refine tl 7 (v := ?_) rfl (by kernel_rfl) (by rfl) (by assumption) (fun _ _ _ h => h) ?_ ?_
  rotate_left
  ·(intro w0 hSw; (try dsimp only at hSw); go_simp; first | done | with_reducible rfl)
  try simp only [Act.put, qa, qb, qc]
  refine tl 8 (v := ?_) rfl (by kernel_rfl) (by rfl) (by assumption) (fun _ _ _ h => h) ?_ ?_
  rotate_left
  ·(intro w0 hSw; (try dsimp only at hSw); go_simp; first | done | with_reducible rfl)
  try simp only [Act.put, qa, qb, qc]
  refine tl 9 (v := ?_) rfl (by kernel_rfl) (by rfl) (by assumption) (fun _ _ _ h => h) ?_ ?_
  rotate_left
  ·(intro w0 hSw; (try dsimp only at hSw); go_simp; first | done | with_reducible rfl)
  try simp only [Act.put, qa, qb, qc]
  refine tl 10 (v := ?_) rfl (by kernel_rfl) (by rfl) (by assumption) (fun _ _ _ h => h) ?_ ?_
  rotate_left
  ·(intro w0 hSw; (try dsimp only at hSw); go_simp; first | done | with_reducible rfl)
  try simp only [Act.put, qa, qb, qc]
  refine tl 11 (v := ?_) rfl (by kernel_rfl) (by rfl) (by assumption) (fun _ _ _ h => h) ?_ ?_
  rotate_left
  ·(intro w0 hSw; (try dsimp only at hSw); go_simp; first | done | with_reducible rfl)
  try simp only [Act.put, qa, qb, qc]
  refine tl 12 (v := ?_) rfl (by kernel_rfl) (by rfl) (by assumption) (fun _ _ _ h => h) ?_ ?_
  rotate_left
  ·(intro w0 hSw; (try dsimp only at hSw); go_simp; first | done | with_reducible rfl)
  try simp only [Act.put, qa, qb, qc]
  refine anyL_one (i := 13) (by kernel_rfl) rfl (fun K hK => ?_)
  go_simp
  refine hK.out _ _ (fun _ => ⟨cell_later (grew (Below.refl _ _) _) hHeld.1, putS_new hHeld.2⟩) (fun hNext => ?_)
  replace hNext := hNext (by kernel_rfl)
  clear hK K hHeld
  try simp only [Act.put, qa, qb, qc]
  refine anyL_one (i := 14) (by kernel_rfl) rfl (fun K hK => ?_)
  go_simp
  refine (HN.out _ _ (hOa.out _) (hBa.out _) (hEa.out _) (heap_new w2 _)).mono ?_
  rintro e w3 ⟨a3, c3, rfl, z3, f3, p3, AA⟩
  refine hK.out _ _ (fun _ => ⟨by rw [z3]; rfl, p3⟩) (fun hNext => ?_)
  replace hNext := hNext (by kernel_rfl)
  clear hK K
  try simp only [Act.put, qa, qb, qc]
  refine anyL_one (i := 15) (by kernel_rfl) rfl (fun K hK => ?_)
  go_simp
  refine hK.out _ _ (fun _ => hNext) (fun _ => ?_)
  clear hK K
  try simp only [Act.put, qa, qb, qc]
  refine anyL_one (i := 16) (by kernel_rfl) rfl (fun K hK => ?_)
  go_simp
  refine hK.out _ _ (fun _ => hNext) (fun _ => ?_)
  clear hK K
  try simp only [Act.put, qa, qb, qc]
  refine anyL_one (i := 17) (by kernel_rfl) rfl (fun K hK => ?_)
  go_simp
  refine hK.out _ _ (fun h => absurd h (by decide +kernel)) (fun _ => ?_)
  clear hK K
  refine anyL_done (by kernel_rfl) ?_ _
  refine NoPanic.normal ?_
  try simp only [Act.put, qa, qb, qc]
  go_wp2
  exact bodyPost_end (v := .tuple #[]) (by simp [results, go_sem]) rfl ⟨rfl, _, _, put_left ne2 AA.out⟩
end
end Go.Proofs.YtmoaobfmopimlafGreatDoor
