/- For the law. -/
import Derived.Test.YtmoaobfmopimlafGreatDoorM42
set_option linter.unusedSimpArgs false
set_option linter.unusedVariables false
namespace Go.Proofs.YtmoaobfmopimlafGreatDoor
open Go.RowKit
section
open Go.Shelf
abbrev Copies (W w : World) (b : Nat) (v1 v2 : Value) : Prop :=
 Below W.heap.size W w ∧ w.cell? ⟨b, 0, none⟩ = some v1 ∧ w.cell? ⟨b, 1, none⟩ = some v2
theorem copies_step {W w w' : World} {b : Nat} {v1 v2 : Value} (h : Copies W w b v1 v2) (hb : Below w.heap.size w w') : Copies W w' b v1 v2 :=
 ⟨h.1.trans (hb.mono h.1.size), cell_later hb h.2.1, cell_later hb h.2.2⟩
theorem copies_new {W w : World} {b : Nat} {v1 v2 : Value} {o : Obj} (h : Copies W w b v1 v2) : Copies W (w.alloc o) b v1 v2 := copies_step h (grew (Below.refl _ _) o)
theorem copies_below {W w : World} {b : Nat} {v1 v2 : Value} (h : Copies W w b v1 v2) : Below W.heap.size W w := h.1
theorem copies_set {W w : World} {b b8 o : Nat} {v1 v2 v : Value} (h : Copies W w b v1 v2) (hb8 : W.heap.size ≤ b8) (hb : b < W.heap.size) : Copies W (w.setCell ⟨b8, o, none⟩ v) b v1 v2 := by
 have hc : ∀ i, (w.setCell ⟨b8, o, none⟩ v).cell? ⟨b, i, none⟩ = w.cell? ⟨b, i, none⟩ := fun i => World.cell?_of_block (Below.heap_setCell _ _ _ _ (by show b ≠ b8; omega))
 exact ⟨h.1.setCell (p := ⟨b8, o, none⟩) hb8 _, (hc 0).trans h.2.1, (hc 1).trans h.2.2⟩
theorem copyJ_at (v : Value) (js : List Jb) (n : Nat) (w W : World) (b : Nat) (hl : js.length = n) (hn : n ≤ 1000000) (hv : JobSl w v js) (hb : Below w.heap.size w W) (hh : W.heap[b]? = some (boxB nil0 nil0)) :
  Calls Tryz.prog 228 #[v] W fun e w' => ∃ g, e = .returned (.slice (some ⟨g, 0, none⟩) n n) ∧ W.heap.size ≤ g ∧ w'.heap[g]? = some (.cells (js.flatMap Jb.cells).toArray 120) ∧ Below W.heap.size W w' ∧
   w'.heap[b]? = some (boxB nil0 nil0) ∧ (∀ i, w'.cell? ⟨b, i, none⟩ = #[nil0, nil0][i]?) ∧ (∀ i, w'.frozen? ⟨b, i, none⟩ = false) := by
 subst hl
 refine (copyJ v js W (hv.later hb) hn).mono ?_
 rintro e w' ⟨g, rfl, h1, h2, h3⟩
 have h4 := heap_below hh h3 (heap_lt hh)
 exact ⟨g, rfl, h1, h2, h3, h4, fun i => Joins.cell_of_block h4 i, fun i => Joins.unfrozen_of_block h4 i⟩
theorem copyR_at (v : Value) (rs : List Rg) (n : Nat) (w W : World) (b : Nat) (hl : rs.length = n) (hn : n ≤ 1000000) (hv : RungSl w v rs) (hb : Below w.heap.size w W) (hh : W.heap[b]? = some (boxB nil0 nil0)) :
  Calls Tryz.prog 229 #[v] W fun e w' => ∃ g, e = .returned (.slice (some ⟨g, 0, none⟩) n n) ∧ W.heap.size ≤ g ∧ w'.heap[g]? = some (.cells (rs.flatMap Rg.cells).toArray 76) ∧ Below W.heap.size W w' ∧
   w'.heap[b]? = some (boxB nil0 nil0) ∧ (∀ i, w'.cell? ⟨b, i, none⟩ = #[nil0, nil0][i]?) ∧ (∀ i, w'.frozen? ⟨b, i, none⟩ = false) := by
 subst hl
 refine (copyR v rs W (hv.later hb) hn).mono ?_
 rintro e w' ⟨g, rfl, h1, h2, h3⟩
 have h4 := heap_below hh h3 (heap_lt hh)
 exact ⟨g, rfl, h1, h2, h3, h4, fun i => Joins.cell_of_block h4 i, fun i => Joins.unfrozen_of_block h4 i⟩
theorem head_set {w : World} {b : Nat} {o1 o2 v1 v2 : Value} (h : w.heap[b]? = some (boxB o1 o2)) : ((w.setCell ⟨b, 0, none⟩ v1).setCell ⟨b, 1, none⟩ v2).heap[b]? = some (boxB v1 v2) := by
 have e0 := Joins.block_setCell (i := 0) h v1
 rw [Joins.block_setCell (i := 1) e0 v2]
 rfl
theorem heap_set2 {w : World} {b k : Nat} {o : Obj} {v1 v2 : Value} (h : w.heap[k]? = some o) (hne : k ≠ b) : ((w.setCell ⟨b, 0, none⟩ v1).setCell ⟨b, 1, none⟩ v2).heap[k]? = some o := by
 rw [Below.heap_setCell _ _ _ _ (by exact hne), Below.heap_setCell _ _ _ _ (by exact hne)]; exact h
theorem ne_of_type {w : World} {b k : Nat} {v1 v2 : Value} {A : Array Value} {T : TypeId} (h : w.heap[b]? = some (boxB v1 v2)) (h' : w.heap[k]? = some (.cells A T)) (hT : T ≠ 39) : k ≠ b := fun e => by
 rw [e, h] at h'
 injection h' with h'
 injection h' with _ h' _
 exact hT h'.symm
structure Does (js : List Jb) (rs : List Rg) (x : En) : Prop where
 put : x.k = 1 → ∀ (W : World) (ab gj gr : Nat), Own W ab gj gr js rs → Calls Tryz.prog 230 #[.pointer (some ⟨ab, 0, none⟩), x.val] W fun e w' => e = .returned (.tuple #[]) ∧ ∃ u1 u2, Left W w' ab [ab, gj, gr] (step js rs x).1 (step js rs x).2 u1 u2
 drop : x.k = 2 → ∀ (W : World) (ab gj gr : Nat), Own W ab gj gr js rs → Calls Tryz.prog 231 #[.pointer (some ⟨ab, 0, none⟩), x.val] W fun e w' => e = .returned (.tuple #[]) ∧ ∃ u1 u2, Left W w' ab [ab, gj, gr] (step js rs x).1 (step js rs x).2 u1 u2
 ring : x.k = 3 → ∀ (W : World) (ab gj gr : Nat), Own W ab gj gr js rs → Calls Tryz.prog 232 #[.pointer (some ⟨ab, 0, none⟩), x.val] W fun e w' => e = .returned (.tuple #[]) ∧ ∃ u1 u2, Left W w' ab [ab, gj, gr] (step js rs x).1 (step js rs x).2 u1 u2
theorem app_end {w W4 w5 : World} {ab rb : Nat} {S : List Nat} {J : List Jb} {R : List Rg} {u1 u2 : Value} (hL : Left W4 w5 ab S J R u1 u2) (hB : Below w.heap.size w W4) (hrb : W4.heap[rb]? = some (boxB nil0 nil0)) (hS : ∀ k, k ∈ S → rb < k) (hw : w.heap.size ≤ rb) :
  ((w5.setCell ⟨rb, 0, none⟩ u1).setCell ⟨rb, 1, none⟩ u2).heap[rb]? = some (boxB u1 u2) ∧ JobSl ((w5.setCell ⟨rb, 0, none⟩ u1).setCell ⟨rb, 1, none⟩ u2) u1 J ∧ RungSl ((w5.setCell ⟨rb, 0, none⟩ u1).setCell ⟨rb, 1, none⟩ u2) u2 R ∧ Below w.heap.size w ((w5.setCell ⟨rb, 0, none⟩ u1).setCell ⟨rb, 1, none⟩ u2) ∧ Roomy u2 ∧ Typed 120 ((w5.setCell ⟨rb, 0, none⟩ u1).setCell ⟨rb, 1, none⟩ u2) u1 ∧ Typed 76 ((w5.setCell ⟨rb, 0, none⟩ u1).setCell ⟨rb, 1, none⟩ u2) u2 := by
 have h5 : w5.heap[rb]? = some (boxB nil0 nil0) := hL.kept.old hrb (fun e => by have := hS rb e; omega)
 obtain ⟨b1, d1, b2, d2, rfl, rfl⟩ := bk_slices hL.jobs hL.rungs
 have h6 : (w5.setCell ⟨rb, 0, none⟩ (.slice b1 J.length d1)).heap[rb]? = some (boxB (.slice b1 J.length d1) nil0) := Joins.block_setCell (i := 0) h5 _
 have hk : Below w.heap.size w w5 := hB.trans (hL.kept.to hB.size (fun k hk => by have := hS k hk; omega))
 refine ⟨head_set h5, (hL.jobs.beside Jb.ints h5 0 _).beside Jb.ints h6 1 _, (hL.rungs.beside Rg.ints h5 0 _).beside Rg.ints h6 1 _, ?_, hL.room, (hL.tj.setCell _ _ _).setCell _ _ _, (hL.tr.setCell _ _ _).setCell _ _ _⟩
 exact (hk.setCell (p := ⟨rb, 0, none⟩) hw _).setCell (p := ⟨rb, 1, none⟩) hw _
set_option maxHeartbeats 4000000 in
theorem bk_app_ok (a1 a2 : Option Addr) (n1 n2 c1 c2 : Nat) (js : List Jb) (rs : List Rg) (x : En) (w : World) (h1 : JobSl w (.slice a1 n1 c1) js) (h2 : RungSl w (.slice a2 n2 c2) rs) (hok : Ok js rs) (hx : x.chk = 0) (hD : Does js rs x) :
  Calls Tryz.prog 205 #[.agg #[.slice a1 n1 c1, .slice a2 n2 c2], x.val] w fun e w' => ∃ u1 u2, e = .returned (.tuple #[.agg #[u1, u2], .int .i64 0]) ∧ JobSl w' u1 (step js rs x).1 ∧ RungSl w' u2 (step js rs x).2 ∧ Below w.heap.size w w' ∧ Roomy u2 ∧ Typed 120 w' u1 ∧ Typed 76 w' u2 := by
 have hck := fun W hb => bk_check (.slice a1 n1 c1) (.slice a2 n2 c2) js rs W (h1.later hb) (h2.later hb)
 rw [ckBook_zero.2 hok] at hck
 have hce : ∀ W, Calls Tryz.prog 115 #[ev x.k x.j x.v x.t x.c] W fun e w' => e = .returned (.int .i64 x.chk) ∧ Below W.heap.size W w' := fun W => check_any x.k x.j x.v x.t x.c W
 rw [hx] at hce
 have HJ : Hid (JobSl w (.slice a1 n1 c1) js ∧ RungSl w (.slice a2 n2 c2) rs ∧ Ok js rs ∧ x.chk = 0) := ⟨h1, h2, hok, hx⟩
 have l1 := h1.len
 have l2 := h2.len
 have hcJ := fun (W : World) (hb : Below w.heap.size w W) => copyJ _ js W (h1.later hb) (by have := hok.few; omega)
 have hcR := fun (W : World) (hb : Below w.heap.size w W) => copyR _ rs W (h2.later hb) (by have := hok.room; omega)
 have hcJ8 := fun (W : World) (b : Nat) (hb : Below w.heap.size w W) (hh : W.heap[b]? = some (boxB nil0 nil0)) => copyJ_at _ js n1 w W b l1 (by have := hok.few; omega) h1 hb hh
 have hcR8 := fun (W : World) (b : Nat) (hb : Below w.heap.size w W) (hh : W.heap[b]? = some (boxB nil0 nil0)) => copyR_at _ rs n2 w W b l2 (by have := hok.room; omega) h2 hb hh
 rw [l1] at hcJ
 rw [l2] at hcR
 clear h1 h2 hok hx
 have hB0 := grew (grew (grew (Below.refl w.heap.size w) (boxB (.slice a1 n1 c1) (.slice a2 n2 c2))) (boxE x.k x.j x.v x.t x.c)) (boxB nil0 nil0)
 have HB0 : Aside _ := hB0
 have hck' := hck _ hB0
 have hr0 : (((w.alloc (boxB (.slice a1 n1 c1) (.slice a2 n2 c2))).alloc (boxE x.k x.j x.v x.t x.c)).alloc (boxB nil0 nil0)).heap[w.heap.size + 2]? = some (boxB nil0 nil0) := by
  have := heap_new ((w.alloc (boxB (.slice a1 n1 c1) (.slice a2 n2 c2))).alloc (boxE x.k x.j x.v x.t x.c)) (boxB nil0 nil0)
  rwa [World.size_alloc, World.size_alloc] at this
 have HR0 : Aside _ := hr0
 clear hck hB0 hr0
 go_enter Tryz.func205, Tryz.ntmps205
 go_wp2_with fail
 refine hck'.mono ?_
 rintro e w1 ⟨rfl, hb1⟩
 have hB1 := HB0.out.trans (hb1.mono HB0.out.size)
 have hr1 : w1.heap[w.heap.size + 2]? = some (boxB nil0 nil0) := heap_below HR0.out hb1 (heap_lt HR0.out)
 have e1 : w1.heap[w.heap.size + 1]? = some (boxE x.k x.j x.v x.t x.c) := by
  rw [hb1.block _ (by simp only [World.size_alloc]; omega)]
  have := heap_new (w.alloc (boxB (.slice a1 n1 c1) (.slice a2 n2 c2))) (boxE x.k x.j x.v x.t x.c)
  rw [World.size_alloc] at this
  exact heap_old this _
 have b1 : w1.heap[w.heap.size]? = some (boxB (.slice a1 n1 c1) (.slice a2 n2 c2)) := by
  rw [hb1.block _ (by simp only [World.size_alloc]; omega)]
  exact heap_old (heap_old (heap_new _ _) _) _
 have y1 := fun i => Joins.cell_of_block e1 i
 clear hb1 hck' HB0 HR0
 go_wp2_with fail
 refine (hce _).mono ?_
 rintro e w2 ⟨rfl, hb2⟩
 have hB2 := hB1.trans (hb2.mono hB1.size)
 have hr2 := heap_below hr1 hb2 (heap_lt hr1)
 have e2 := heap_below e1 hb2 (heap_lt e1)
 have b2 := heap_below b1 hb2 (heap_lt b1)
 have HW : Aside (w2.heap[w.heap.size + 2]? = some (boxB nil0 nil0) ∧ w2.heap[w.heap.size + 1]? = some (boxE x.k x.j x.v x.t x.c) ∧ Below w.heap.size w w2) := ⟨hr2, e2, hB2⟩
 have hS0 : Copies w2 w2 w.heap.size (.slice a1 n1 c1) (.slice a2 n2 c2) := ⟨Below.refl _ _, by rw [Joins.cell_of_block b2]; rfl, by rw [Joins.cell_of_block b2]; rfl⟩
 have hbd : Below w2.heap.size w2 w2.drew := (Below.refl _ _).drew
 have cJ := fun (W : World) (hb : Below w2.heap.size w2 W) => hcJ W (hB2.trans (hb.mono hB2.size))
 have cR := fun (W : World) (hb : Below w2.heap.size w2 W) => hcR W (hB2.trans (hb.mono hB2.size))
 have cJ8 := fun (W : World) (b : Nat) (hb : Below w2.heap.size w2 W) => hcJ8 W b (hB2.trans (hb.mono hB2.size))
 have cR8 := fun (W : World) (b : Nat) (hb : Below w2.heap.size w2 W) => hcR8 W b (hB2.trans (hb.mono hB2.size))
 have hws : w.heap.size < w2.heap.size := by have := heap_lt b2; omega
 clear hcJ8 hcR8
 clear hb2 hB1 hr1 hr2 e1 y1 hce b1 e2 b2 hB2 hcJ hcR
 go_wp2_with fail
 go_region_held3 (fun w' => Copies w2 w' w.heap.size (.slice a1 n1 c1) (.slice a2 n2 c2)) (first | exact copies_step (by assumption) (by assumption) | exact copies_new (by assumption) | exact copies_new (copies_step (copies_step (copies_step hS0 hbd) hbj) hbr) | exact copies_set (copies_set (by assumption) (by exact hbj.size) hws) (by exact hbj.size) hws | exact copies_set (copies_set (by assumption) (by exact Nat.le_refl _) hws) (by exact Nat.le_refl _) hws) (first | (go_at_call 228; refine (cJ8 _ w2.heap.size (copies_below (by assumption)) (by exact heap_new w2 _)).mono ?_; rintro e wj ⟨gj, rfl, hgj, hJ, hbj, h8, z8, f8⟩) | (go_at_call 228; refine (cJ _ (copies_below (by assumption))).mono ?_; rintro e wj ⟨gj, rfl, hgj, hJ, hbj⟩) | (go_at_call 229; refine (cR8 _ _ (copies_below (by assumption)) (heap_new _ _)).mono ?_; rintro e wr ⟨gr, rfl, hgr, hR, hbr, h9, z9, f9⟩) | (go_at_call 229; refine (cR8 _ _ (copies_below (by assumption)) (by assumption)).mono ?_; rintro e wr ⟨gr, rfl, hgr, hR, hbr, h9, z9, f9⟩) | (go_at_call 229; refine (cR _ (copies_below (by assumption))).mono ?_; rintro e wr ⟨gr, rfl, hgr, hR, hbr⟩))
 rename_i hHeld
 have hO : Own (wr.alloc (boxB (.slice (some ⟨gj, 0, none⟩) n1 n1) (.slice (some ⟨gr, 0, none⟩) n2 n2))) wr.heap.size gj gr js rs :=
  ⟨by rw [l1, l2]; exact heap_new _ _, heap_old (heap_below hJ hbr (heap_lt hJ)) _, heap_old hR _⟩
 have hB4 : Below w2.heap.size w2 (wr.alloc (boxB (.slice (some ⟨gj, 0, none⟩) n1 n1) (.slice (some ⟨gr, 0, none⟩) n2 n2))) := hHeld.1
 have s1 : w2.heap.size ≤ wj.heap.size := hbj.size
 have ha : w2.heap.size ≤ wr.heap.size := Nat.le_trans s1 hbr.size
 have hj : w2.heap.size ≤ gj := hgj
 have hr : w2.heap.size ≤ gr := Nat.le_trans s1 hgr
 clear hHeld hJ hR hbj hbr hgj hgr s1 cJ cR cJ8 cR8 hS0 hbd
 generalize wr.alloc (boxB (.slice (some ⟨gj, 0, none⟩) n1 n1) (.slice (some ⟨gr, 0, none⟩) n2 n2)) = W4 at *
 generalize wr.heap.size = ab at *
 clear wr wj
 rotate_left
 rename_i hHeld
 have hJ' := heap_below (heap_old hJ (boxB nil0 nil0)) hbr (by rw [World.size_alloc]; have := heap_lt hJ; omega)
 have hO : Own ((wr.setCell ⟨wj.heap.size, 0, none⟩ (.slice (some ⟨gj, 0, none⟩) n1 n1)).setCell ⟨wj.heap.size, 1, none⟩ (.slice (some ⟨gr, 0, none⟩) n2 n2)) wj.heap.size gj gr js rs :=
  ⟨by rw [l1, l2]; exact head_set h9, heap_set2 hJ' (ne_of_type h9 hJ' (by decide)), heap_set2 hR (ne_of_type h9 hR (by decide))⟩
 have hB4 : Below w2.heap.size w2 ((wr.setCell ⟨wj.heap.size, 0, none⟩ (.slice (some ⟨gj, 0, none⟩) n1 n1)).setCell ⟨wj.heap.size, 1, none⟩ (.slice (some ⟨gr, 0, none⟩) n2 n2)) := hHeld.1
 have ha : w2.heap.size ≤ wj.heap.size := hbj.size
 have hj : w2.heap.size ≤ gj := hgj
 have hr : w2.heap.size ≤ gr := by rw [World.size_alloc] at hgr; omega
 clear hHeld hJ hR hbj hbr hgj hgr hJ' h9 z9 f9 cJ cR cJ8 cR8 hS0 hbd
 generalize (wr.setCell ⟨wj.heap.size, 0, none⟩ (.slice (some ⟨gj, 0, none⟩) n1 n1)).setCell ⟨wj.heap.size, 1, none⟩ (.slice (some ⟨gr, 0, none⟩) n2 n2) = W4 at *
 generalize wj.heap.size = ab at *
 clear wr wj
 rotate_left
 rename_i hHeld
 have hJ' := heap_below hJ hbr (heap_lt hJ)
 have hO : Own ((wr.setCell ⟨w2.heap.size, 0, none⟩ (.slice (some ⟨gj, 0, none⟩) n1 n1)).setCell ⟨w2.heap.size, 1, none⟩ (.slice (some ⟨gr, 0, none⟩) n2 n2)) w2.heap.size gj gr js rs :=
  ⟨by rw [l1, l2]; exact head_set h9, heap_set2 hJ' (ne_of_type h9 hJ' (by decide)), heap_set2 hR (ne_of_type h9 hR (by decide))⟩
 have hB4 : Below w2.heap.size w2 ((wr.setCell ⟨w2.heap.size, 0, none⟩ (.slice (some ⟨gj, 0, none⟩) n1 n1)).setCell ⟨w2.heap.size, 1, none⟩ (.slice (some ⟨gr, 0, none⟩) n2 n2)) := hHeld.1
 have s1 : w2.heap.size ≤ (w2.alloc (boxB nil0 nil0)).drew.heap.size := by show w2.heap.size ≤ (w2.alloc (boxB nil0 nil0)).heap.size; rw [World.size_alloc]; omega
 have hj : w2.heap.size ≤ gj := Nat.le_trans s1 hgj
 have hr : w2.heap.size ≤ gr := Nat.le_trans (Nat.le_trans s1 hbj.size) hgr
 have ha : w2.heap.size ≤ w2.heap.size := Nat.le_refl _
 clear hHeld hJ hR hbj hbr hgj hgr hJ' h8 z8 f8 h9 z9 f9 s1 cJ cR cJ8 cR8 hS0 hbd
 generalize (wr.setCell ⟨w2.heap.size, 0, none⟩ (.slice (some ⟨gj, 0, none⟩) n1 n1)).setCell ⟨w2.heap.size, 1, none⟩ (.slice (some ⟨gr, 0, none⟩) n2 n2) = W4 at *
 obtain ⟨ab, hab⟩ : ∃ ab, ab = w2.heap.size := ⟨_, rfl⟩
 rw [← hab] at hO ⊢
 rw [show w2.heap.size ≤ w2.heap.size ↔ w2.heap.size ≤ ab by rw [hab]] at ha
 clear wr wj hab
 rotate_left
 all_goals
  have heb : W4.heap[w.heap.size + 1]? = some (boxE x.k x.j x.v x.t x.c) := heap_below HW.out.2.1 hB4 (heap_lt HW.out.2.1)
  have hrb : W4.heap[w.heap.size + 2]? = some (boxB nil0 nil0) := heap_below HW.out.1 hB4 (heap_lt HW.out.1)
  have hws2 : w.heap.size + 2 < w2.heap.size := heap_lt HW.out.1
  have hBw : Below w.heap.size w W4 := HW.out.2.2.trans (hB4.mono HW.out.2.2.size)
  have yb := fun i => Joins.cell_of_block heb i
  have AA : Aside (Own W4 ab gj gr js rs ∧ Below w.heap.size w W4 ∧ W4.heap[w.heap.size + 2]? = some (boxB nil0 nil0) ∧ (∀ k, k ∈ [ab, gj, gr] → w.heap.size + 2 < k)) := ⟨hO, hBw, hrb, fun k hk => by simp at hk; omega⟩
  have hkk := (En.right HJ.out.2.2.2).1
  clear hO hB4 ha hj hr heb hrb hBw HW
  obtain hk | hk | hk | hk : x.k = 0 ∨ x.k = 1 ∨ x.k = 2 ∨ x.k = 3 := by omega
  ·have HF : Hid (step js rs x = (js, rs)) := by
    rw [Hid, step, if_neg (by omega), if_neg (by omega), if_neg (by omega)]
   have k1 : (x.k == 1) = false := by rw [hk]; rfl
   have k2 : (x.k == 2) = false := by rw [hk]; rfl
   have k3 : (x.k == 3) = false := by rw [hk]; rfl
   have hL : Left W4 W4 ab [ab, gj, gr] js rs (.slice (some ⟨gj, 0, none⟩) n1 n1) (.slice (some ⟨gr, 0, none⟩) n2 n2) := by
    have h0 := AA.out.1
    have e1 := h0.head
    have e2 := h0.sj
    have e3 := h0.sr
    rw [l1] at e1 e2
    rw [l2] at e1 e3
    exact ⟨e1, e2, e3, ⟨_, _, _, rfl, Nat.le_refl _⟩, Kept.refl _ _, h0.tj _ _, h0.tr _ _⟩
   have z5 := fun i => Joins.cell_of_block hL.head i
   have r5 := fun i => Joins.cell_of_block AA.out.2.2.1 i
   have f5 := fun i => Joins.unfrozen_of_block AA.out.2.2.1 i
   obtain ⟨q1, q2, q3, q4, q5⟩ := app_end hL AA.out.2.1 AA.out.2.2.1 AA.out.2.2.2 (by omega)
   have QQ : Aside (_ ∧ _ ∧ _ ∧ _ ∧ _) := ⟨q1, q2, q3, q4, q5⟩
   clear hL q1 q2 q3 q4 q5 hD hk hkk
   go_wp2
   rw [HF.out]
   exact ret_book Tryz.results205 rfl rfl rfl QQ.out.1 ⟨_, _, rfl, QQ.out.2.1, QQ.out.2.2.1, QQ.out.2.2.2.1, QQ.out.2.2.2.2⟩
  ·have hL0 := hD.put hk W4 ab gj gr AA.out.1
   have k1 : (x.k == 1) = true := by rw [hk]; rfl
   clear hD hk hkk
   go_wp2_with fail
   refine hL0.mono ?_
   rintro e w5 ⟨rfl, u1, u2, hL⟩
   have z5 := fun i => Joins.cell_of_block hL.head i
   have h5 : w5.heap[w.heap.size + 2]? = some (boxB nil0 nil0) := hL.kept.old AA.out.2.2.1 (fun e => by have := AA.out.2.2.2 _ e; omega)
   have r5 := fun i => Joins.cell_of_block h5 i
   have f5 := fun i => Joins.unfrozen_of_block h5 i
   have QQ : Aside _ := app_end hL AA.out.2.1 AA.out.2.2.1 AA.out.2.2.2 (by omega)
   obtain ⟨b1, d1, b2, d2, rfl, rfl⟩ := bk_slices hL.jobs hL.rungs
   clear hL hL0 h5 yb
   generalize (step js rs x).1.length = m1 at *
   generalize (step js rs x).2.length = m2 at *
   go_wp2
   exact ret_book Tryz.results205 rfl rfl rfl QQ.out.1 ⟨_, _, rfl, QQ.out.2.1, QQ.out.2.2.1, QQ.out.2.2.2.1, QQ.out.2.2.2.2⟩
  ·have hL0 := hD.drop hk W4 ab gj gr AA.out.1
   have k1 : (x.k == 1) = false := by rw [hk]; rfl
   have k2 : (x.k == 2) = true := by rw [hk]; rfl
   clear hD hk hkk
   go_wp2_with fail
   refine hL0.mono ?_
   rintro e w5 ⟨rfl, u1, u2, hL⟩
   have z5 := fun i => Joins.cell_of_block hL.head i
   have h5 : w5.heap[w.heap.size + 2]? = some (boxB nil0 nil0) := hL.kept.old AA.out.2.2.1 (fun e => by have := AA.out.2.2.2 _ e; omega)
   have r5 := fun i => Joins.cell_of_block h5 i
   have f5 := fun i => Joins.unfrozen_of_block h5 i
   have QQ : Aside _ := app_end hL AA.out.2.1 AA.out.2.2.1 AA.out.2.2.2 (by omega)
   obtain ⟨b1, d1, b2, d2, rfl, rfl⟩ := bk_slices hL.jobs hL.rungs
   clear hL hL0 h5 yb
   generalize (step js rs x).1.length = m1 at *
   generalize (step js rs x).2.length = m2 at *
   go_wp2
   exact ret_book Tryz.results205 rfl rfl rfl QQ.out.1 ⟨_, _, rfl, QQ.out.2.1, QQ.out.2.2.1, QQ.out.2.2.2.1, QQ.out.2.2.2.2⟩
  ·have hL0 := hD.ring hk W4 ab gj gr AA.out.1
   have k1 : (x.k == 1) = false := by rw [hk]; rfl
   have k2 : (x.k == 2) = false := by rw [hk]; rfl
   have k3 : (x.k == 3) = true := by rw [hk]; rfl
   clear hD hk hkk
   go_wp2_with fail
   refine hL0.mono ?_
   rintro e w5 ⟨rfl, u1, u2, hL⟩
   have z5 := fun i => Joins.cell_of_block hL.head i
   have h5 : w5.heap[w.heap.size + 2]? = some (boxB nil0 nil0) := hL.kept.old AA.out.2.2.1 (fun e => by have := AA.out.2.2.2 _ e; omega)
   have r5 := fun i => Joins.cell_of_block h5 i
   have f5 := fun i => Joins.unfrozen_of_block h5 i
   have QQ : Aside _ := app_end hL AA.out.2.1 AA.out.2.2.1 AA.out.2.2.2 (by omega)
   obtain ⟨b1, d1, b2, d2, rfl, rfl⟩ := bk_slices hL.jobs hL.rungs
   clear hL hL0 h5 yb
   generalize (step js rs x).1.length = m1 at *
   generalize (step js rs x).2.length = m2 at *
   go_wp2
   exact ret_book Tryz.results205 rfl rfl rfl QQ.out.1 ⟨_, _, rfl, QQ.out.2.1, QQ.out.2.2.1, QQ.out.2.2.2.1, QQ.out.2.2.2.2⟩
end
end Go.Proofs.YtmoaobfmopimlafGreatDoor
