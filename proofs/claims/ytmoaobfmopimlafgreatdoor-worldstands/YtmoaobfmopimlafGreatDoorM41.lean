/- For the law. -/
import Derived.Test.YtmoaobfmopimlafGreatDoorM40
import Derived.Deep.RegionLaw
set_option linter.unusedSimpArgs false
set_option linter.unusedVariables false
namespace Go.Proofs.YtmoaobfmopimlafGreatDoor
open Go.RowKit
section
open Go.Shelf
theorem owns_of_block {w : World} {base gb : Nat} {js : List Jb} (hb : base ≤ gb) (hg : w.heap[gb]? = some (.cells (js.flatMap Jb.cells).toArray 120)) (hn : js.length ≤ 1000000) :
  w.ownsRow base 120 3 (.slice (some ⟨gb, 0, none⟩) js.length js.length) js.length (js.flatMap Jb.cells) := by
 have hl := row_len Jb.three js
 refine ⟨hl, .inr ⟨gb, js.length, _, rfl, hb, hg, Nat.le_refl _, by unfold maxLen; omega, by simpa using hl, ?_⟩⟩
 exact List.take_of_length_le (by simpa using Nat.le_of_eq hl)
set_option maxHeartbeats 2000000 in
theorem insEnd (z : Jb) (gb vb : Nat) (js : List Jb) (w : World) (hg : w.heap[gb]? = some (.cells (js.flatMap Jb.cells).toArray 120)) (hv : w.heap[vb]? = some (.cells #[.int .i64 z.i, .int .i64 z.e, .int .i64 z.n] 120)) (hn : js.length ≤ 6) :
  Calls Tryz.prog 265 #[.slice (some ⟨gb, 0, none⟩) js.length js.length, .int .i64 js.length, .slice (some ⟨vb, 0, none⟩) 1 1] w fun e w' => ∃ u, e = .returned u ∧ (JobSl w' u (js ++ [z]) ∧ Typed 120 w' u) ∧ Kept [gb] w w' := by
 obtain ⟨i0, hi, hz0, hz1, hz2⟩ := info_parts infoJ
 have hown := owns_of_block (base := gb) (Nat.le_refl _) hg (by omega)
 have hgl := heap_lt hg
 have hl : (js ++ [z]).length = js.length + 1 := by simp
 have hfl : (js ++ [z]).flatMap Jb.cells = js.flatMap Jb.cells ++ z.cells := by simp
 have hnews : ∀ j u, z.cells[j]? = some u → w.cell? ((⟨vb, 0, none⟩ : Addr).add j) = some u := fun j u hj => by
  rw [Lib.add_plain, Joins.cell_of_block hv, Nat.zero_add]
  simpa [Jb.cells] using hj
 have hone : ∀ u ∈ z.cells, u.oneCell' = true := fun u hu => oneJ [z] u (by simpa using hu)
 have HL : Aside (∀ v' w', w'.ownsRow gb 120 3 v' (js.length + 1) (js.flatMap Jb.cells ++ z.cells) → JobSl w' v' (js ++ [z]) ∧ Typed 120 w' v') := fun v' w' h => by
  rw [← hl, ← hfl] at h
  exact ⟨slOf_of_owns Jb.three h, typed_owns h⟩
 obtain ⟨n, hnn⟩ : ∃ n, Hid (js.length = n) := ⟨_, rfl⟩
 rw [hnn.out] at hown hn HL ⊢
 obtain ⟨fl, hff⟩ : ∃ fl, Hid (js.flatMap Jb.cells = fl) := ⟨_, rfl⟩
 rw [hff.out] at hown HL
 have hzl : z.cells.length = 1 * 3 := rfl
 generalize z.cells = zc at *
 clear hg hv hl hfl
 go_enter Tryz.func265, Tryz.ntmps265
 go_wp2_with (at_builtin; refine wpList_append_own _ rfl _ _ 36 rfl gb 120 i0 (valJ 0 0 0) 3 24 Tryz.underlying36 hi hz0 hz1 hz2 rfl (by decide) (.slice (some ⟨gb, 0, none⟩) n n) n fl rfl hown ⟨vb, 0, none⟩ 1 1 zc rfl hzl hnews hone (by unfold maxLen; omega) (by omega) (by omega) ?_)
 intro v' w' hown' hgrow hiff
 have J : Aside (JobSl w' v' (js ++ [z]) ∧ Typed 120 w' v') := HL.out v' w' hown'
 have K : Aside (Kept [gb] w w') := ⟨hgrow.os, hgrow.tape, hgrow.output, hgrow.size, fun k hk hS => hgrow.block k hk (fun e => hS (by simp [Value.ownBlock] at e; simp [e]))⟩
 clear hown' hgrow hiff hown hnews hone hi hz0 hz1 hz2
 go_wp2
 go_ret
 exact ⟨_, rfl, J.out, K.out⟩
theorem splice_twoJ {α : Type} {A Z B C : List α} {a b : Nat} (ha : A.length = a) (hb : B.length = b) : splice (splice (A ++ Z) a B) (a + b) C = A ++ B ++ C ++ Z.drop (b + C.length) := by
 subst ha hb
 have e1 : splice (A ++ Z) A.length B = A ++ B ++ Z.drop B.length := by
  simp [splice, List.drop_append]
 rw [e1]
 have e2 : (A ++ B ++ Z.drop B.length).take (A.length + B.length) = A ++ B := List.take_left' (by simp)
 have e3 : (A ++ B ++ Z.drop B.length).drop (A.length + B.length + C.length) = Z.drop (B.length + C.length) := by
  rw [← List.drop_drop, List.drop_left' (by simp), List.drop_drop]
 rw [splice, e2, e3]
 simp
set_option maxHeartbeats 4000000 in
set_option maxRecDepth 100000 in
theorem insMid (z : Jb) (gb vb k : Nat) (js : List Jb) (w : World) (hk : k < js.length) (hg : w.heap[gb]? = some (.cells (js.flatMap Jb.cells).toArray 120)) (hv : w.heap[vb]? = some (.cells #[.int .i64 z.i, .int .i64 z.e, .int .i64 z.n] 120)) (hn : js.length ≤ 6) :
  Calls Tryz.prog 265 #[.slice (some ⟨gb, 0, none⟩) js.length js.length, .int .i64 k, .slice (some ⟨vb, 0, none⟩) 1 1] w fun e w' => ∃ u, e = .returned u ∧ (JobSl w' u (js.take k ++ z :: js.drop k) ∧ Typed 120 w' u) ∧ Kept [gb] w w' := by
 obtain ⟨i0, hi, hz0, hz1, hz2⟩ := info_parts infoJ
 have hgl := heap_lt hg
 have hvl := heap_lt hv
 obtain ⟨n, hnn⟩ : ∃ n, Hid (js.length = n) := ⟨_, rfl⟩
 have h1 : ((js.take k).flatMap Jb.cells).length = k * 3 := by rw [row_len Jb.three, List.length_take]; congr 1; omega
 have h2 : ((js.drop k).flatMap Jb.cells).length = (n - k) * 3 := by rw [row_len Jb.three, List.length_drop, hnn.out]
 have hrow : RowAt Jb.cells 3 w gb 0 js := rowAt_block Jb.three hg ⟨[], by simp⟩
 have hc1 := rows_flat Jb.three (js.take k) 0 (hrow.take k)
 have hc2 := rows_flat Jb.three (js.drop k) (0 + k * 3) (hrow.drop k)
 have ho1 := oneJ (js.take k)
 have ho2 := oneJ (js.drop k)
 have hoz : ∀ u ∈ z.cells, u.oneCell' = true := fun u hu => oneJ [z] u (by simpa using hu)
 have hzc : ∀ j u, z.cells[j]? = some u → w.cell? ⟨vb, 0 + j, none⟩ = some u := fun j u hj => by
  rw [Joins.cell_of_block hv, Nat.zero_add]
  simpa [Jb.cells] using hj
 have hzl : z.cells.length = 3 := rfl
 have hfin : Aside (∀ (u : Nat) (w' : World) (t : List Value) (c : Nat), w'.heap[u]? = some (.cells ((js.take k).flatMap Jb.cells ++ z.cells ++ (js.drop k).flatMap Jb.cells ++ t).toArray 120) → JobSl w' (.slice (some ⟨u, 0, none⟩) (n + 1) c) (js.take k ++ z :: js.drop k) ∧ Typed 120 w' (.slice (some ⟨u, 0, none⟩) (n + 1) c)) := fun u w' t c h => by
  have := slOf_block (c := c) Jb.three (xs := js.take k ++ z :: js.drop k) h ⟨t, by simp⟩
  rw [show (js.take k ++ z :: js.drop k).length = n + 1 by rw [← hnn.out]; simp; omega] at this
  exact ⟨this, typed_block h _ _ _⟩
 rw [hnn.out] at hk hn ⊢
 generalize (js.take k).flatMap Jb.cells = A at *
 generalize (js.drop k).flatMap Jb.cells = C at *
 generalize z.cells = Bz at *
 obtain ⟨q, hq⟩ : ∃ q, n + 1 = k + q := ⟨n + 1 - k, by omega⟩
 have hold : (Builtin.firstCells i0.size k (.slice (some ⟨gb, 0, none⟩) k n)).run Tryz.prog w.drew = .ok A.toArray w.drew := by
  rw [hz1]
  exact run_firstCells_some w.drew 3 k ⟨gb, 0, none⟩ k n A h1 (fun j v hj => by rw [Lib.add_plain]; exact hc1 j v hj)
 obtain ⟨G, Z, W1, hrun, hW1, hZ, hB1, hG⟩ : ∃ (G : Nat) (Z : List Value) (W1 : World), (∀ ty, (Builtin.append_ #[36, 3] ty #[.slice (some ⟨gb, 0, none⟩) k n, .int .i64 (q : Nat)]).run Tryz.prog w = .ok (.slice (some ⟨w.heap.size, 0, none⟩) (n + 1) G) W1) ∧ W1.heap[w.heap.size]? = some (.cells (A ++ Z).toArray 120) ∧ q * 3 ≤ Z.length ∧ Below w.heap.size w W1 ∧ n + 1 ≤ G := by
  have hr := fun ty => Lib.run_append_grow_zeros (P := Tryz.prog) w 36 3 ty 120 i0 (valJ 0 0 0) .i64 .i64 Tryz.underlying36 Tryz.underlying3 hi hz0 (some ⟨gb, 0, none⟩) k n A hold q (by omega) (by omega) (by omega) (by omega) (by rw [hz2]; omega) (growslice_fits (by omega) (by rw [hz2]; omega))
  rw [← hq] at hr
  refine ⟨_, (Builtin.zeroCells (valJ 0 0 0).cells q).toList ++ (Builtin.zeroCells (valJ 0 0 0).cells (grownCap w (n + 1) n 120 - (n + 1))).toList, _, hr, ?_, ?_, grew (Below.refl w.heap.size w).drew _, grownCap_ge _ _ _ _⟩
  ·have := heap_new w.drew (.cells (A.toArray ++ Builtin.zeroCells (valJ 0 0 0).cells q ++ Builtin.zeroCells (valJ 0 0 0).cells (grownCap w (n + 1) n 120 - (n + 1))) 120)
   rw [show w.drew.heap.size = w.heap.size from rfl] at this
   rw [this]
   congr 2
   apply Array.toList_inj.1
   simp
  ·rw [List.length_append, zerosJ]; omega
 have hCl : C.length = (q - 1) * 3 := by rw [h2]; congr 1; omega
 have hsp := splice_twoJ (Z := Z) (C := C) h1 hzl
 rw [show k * 3 + 3 = (k + 1) * 3 by omega] at hsp
 have hmin1 : Bz.length = Nat.min 1 q * 3 := by
  rw [hzl]; show 3 = min 1 q * 3; omega
 have hmin2 : C.length = Nat.min (n - k) (q - 1) * 3 := by
  rw [h2]; show _ = min (n - k) (q - 1) * 3; congr 1; omega
 have hAl : (A ++ Z).length = k * 3 + Z.length := by rw [List.length_append, h1]
 have hS1 : (splice (A ++ Z) (k * 3) Bz).length = (A ++ Z).length := length_splice _ _ _ (by rw [hAl, hzl]; omega)
 have hpos1 : 0 < Nat.min 1 q → (some ⟨w.heap.size, k * 3, none⟩ : Option Addr) = some ⟨w.heap.size, k * 3, none⟩ ∧ ∃ ad, (some ⟨vb, 0, none⟩ : Option Addr) = some ad ∧ ∀ j v, Bz[j]? = some v → W1.cell? (ad.add j) = some v := fun _ => ⟨rfl, _, rfl, fun j v hj => by rw [Lib.add_plain]; exact cell_later hB1 (hzc j v hj)⟩
 have hfit1 : k * 3 + Bz.length ≤ (A ++ Z).length := by rw [hAl, hzl]; omega
 have hfit2 : (k + 1) * 3 + C.length ≤ (splice (A ++ Z) (k * 3) Bz).length := by rw [hS1, hAl, hCl]; omega
 have hfin' : Aside (∀ w' : World, w'.heap[w.heap.size]? = some (.cells (splice (splice (A ++ Z) (k * 3) Bz) ((k + 1) * 3) C).toArray 120) → JobSl w' (.slice (some ⟨w.heap.size, 0, none⟩) (k + q) G) (js.take k ++ z :: js.drop k) ∧ Typed 120 w' (.slice (some ⟨w.heap.size, 0, none⟩) (k + q) G)) := fun w' h => by
  rw [hsp] at h
  rw [← hq]
  exact hfin.out _ w' _ G h
 have hc2' : Aside (∀ (w' : World), Below w.heap.size w w' → ∀ j u, C[j]? = some u → w'.cell? ((⟨gb, k * 3, none⟩ : Addr).add j) = some u) := fun w' hb j u hj => by
  rw [Lib.add_plain]
  have := hc2 j u hj
  rw [Nat.zero_add] at this
  exact cell_later hb this
 clear hold hi hz0 hz1 hz2 hc1 hc2 hzc hrow hsp hfin hg hv h1 h2 hAl hCl hS1 ho1 hzl
 generalize A ++ Z = L0 at *
 obtain ⟨L1, hL1⟩ : ∃ L1, Hid (splice L0 (k * 3) Bz = L1) := ⟨_, rfl⟩
 rw [hL1.out] at hfit2 hfin'
 clear hZ
 have hqi : (n : Int) + 1 - (k : Int) = (q : Int) := by omega
 have hne0 : ((k : Int) == (n : Int)) = false := by rw [beq_eq_false_iff_ne]; omega
 go_enter Tryz.func265, Tryz.ntmps265
 go_wp2_with (first
  | (at_builtin; refine Lib.wpList_append_run _ rfl _ _ 36 3 rfl _ _ rfl rfl _ _ (hrun _) ?_)
  | ((with_reducible show wpList _ _ _ (Oper.mk (some 45) _ _ _ _ _ :: _) _ _); refine wpList_copyK rfl _ _ 36 36 rfl 120 3 Tryz.underlying36 sizeJ (some ⟨w.heap.size, k * 3, none⟩) (some ⟨vb, 0, none⟩) q (G - k) 1 1 rfl rfl w.heap.size (k * 3) L0 120 hW1 Bz hmin1 hpos1 hfit1 hoz w.heap.size w hB1 (Nat.le_refl _) ?_))
 intro w2 hg2 hB2
 have hg2' : w2.heap[w.heap.size]? = some (.cells L1.toArray 120) := by rw [← hL1.out]; exact hg2.out
 have hB2' := hB2.drew
 have hq1 : k + q - (k + 1) = q - 1 := by omega
 have hk1 : (k : Int) + 1 ≤ (k : Int) + (q : Int) := by omega
 have hk2 : (k : Int) + (q : Int) ≤ (G : Int) := by omega
 have hk3 : (0 : Int) ≤ (k : Int) + 1 := by omega
 have hwr : IntKind.i64.wrap ((k : Int) + 1) = (k : Int) + 1 := by rw [IntKind.wrap_i64]; omega
 have hG1 : ¬ G = k + 1 := by omega
 have hnk : ¬ n = k := by omega
 have hkn : k ≤ n := by omega
 go_wp2_with fail
 go_region_law ((refine step_copyK rfl _ _ 36 36 rfl 120 3 Tryz.underlying36 sizeJ (some ⟨w.heap.size, (k + 1) * 3, none⟩) (some ⟨gb, k * 3, none⟩) (q - 1) (G - (k + 1)) (n - k) (n - k) (by simp [Act.eval, Act.put]) (by simp [Act.eval, Act.put]) w.heap.size ((k + 1) * 3) L1 120 hg2' C hmin2 (fun _ => ⟨rfl, _, rfl, hc2'.out _ hB2'⟩) hfit2 ho2 w.heap.size w hB2' (Nat.le_refl _) ?_; intro w3 hg3 hB3))
 all_goals
  go_wp2
  go_ret
  exact ⟨_, rfl, hfin'.out _ hg3.out, (Kept.refl _ _).below hB3⟩
end
section
open Go.Shelf
set_option maxHeartbeats 1000000 in
theorem put_pred (x : En) (eb : Nat) (W : World) (y : Jb) (h : W.heap[eb]? = some (boxE x.k x.j x.v x.t x.c)) :
  Calls Tryz.prog 264 (#[y.val] ++ #[.pointer (some ⟨eb, 0, none⟩)]) W fun e w' => e = .returned (.bool (decide (x.j < y.i))) ∧ Below W.heap.size W w' := by
 have hlt := heap_lt h
 have hne : eb ≠ W.heap.size := by omega
 have c0 := fun i => Joins.cell_of_block h i
 show Calls Tryz.prog 264 #[y.val, .pointer (some ⟨eb, 0, none⟩)] W _
 go_enter Tryz.func264, Tryz.ntmps264
 go_wp2
 all_goals (go_ret; exact ⟨by simp_all, grew (Below.refl _ _) _⟩)
abbrev Reads (W w : World) (ab gj gr eb n m : Nat) (x : En) : Prop :=
 Below W.heap.size W w ∧ w.cell? ⟨ab, 0, none⟩ = some (.slice (some ⟨gj, 0, none⟩) n n) ∧ w.cell? ⟨ab, 1, none⟩ = some (.slice (some ⟨gr, 0, none⟩) m m) ∧ w.cell? ⟨eb, 1, none⟩ = some (.int .i64 x.j)
theorem reads_below {W w : World} {ab gj gr eb n m : Nat} {x : En} (h : Reads W w ab gj gr eb n m x) : Below W.heap.size W w := h.1
theorem reads_step {W w w' : World} {ab gj gr eb n m : Nat} {x : En} (h : Reads W w ab gj gr eb n m x) (hb : Below w.heap.size w w') : Reads W w' ab gj gr eb n m x :=
 ⟨h.1.trans (hb.mono h.1.size), cell_later hb h.2.1, cell_later hb h.2.2.1, cell_later hb h.2.2.2⟩
set_option maxHeartbeats 2000000 in
theorem put_there (x : En) (ab gj gr : Nat) (js : List Jb) (rs : List Rg) (w : World) (h : Own w ab gj gr js rs) (hn : js.length ≤ 6) (hj : 0 ≤ jobAt js x.j) :
  Calls Tryz.prog 230 #[.pointer (some ⟨ab, 0, none⟩), x.val] w fun e w' => e = .returned (.tuple #[]) ∧ ∃ u1 u2, Left w w' ab [ab, gj] js rs u1 u2 := by
 have hB := grew (Below.refl w.heap.size w) (boxE x.k x.j x.v x.t x.c)
 have h' := h.later hB
 obtain ⟨n, hnn⟩ : ∃ n, Hid (js.length = n) := ⟨_, rfl⟩
 obtain ⟨m, hmm⟩ : ∃ m, Hid (rs.length = m) := ⟨_, rfl⟩
 have hS0 : Reads (w.alloc (boxE x.k x.j x.v x.t x.c)) (w.alloc (boxE x.k x.j x.v x.t x.c)) ab gj gr w.heap.size n m x := by
  refine ⟨Below.refl _ _, ?_, ?_, ?_⟩
  ·rw [Joins.cell_of_block h'.head, ← hnn.out]; rfl
  ·rw [Joins.cell_of_block h'.head, ← hmm.out]; rfl
  ·rw [Joins.cell_of_block (heap_new _ _)]; rfl
 have hfind := fun (W : World) (hb : Below (w.alloc (boxE x.k x.j x.v x.t x.c)).heap.size (w.alloc (boxE x.k x.j x.v x.t x.c)) W) => find_any (.slice (some ⟨gj, 0, none⟩) js.length js.length) (.slice (some ⟨gr, 0, none⟩) rs.length rs.length) js x.j W (h'.sj.later hb) (by unfold most; omega)
 rw [hnn.out, hmm.out] at hfind
 have HO : Aside (Own w ab gj gr js rs ∧ Below w.heap.size w (w.alloc (boxE x.k x.j x.v x.t x.c))) := ⟨h, hB⟩
 generalize jobAt js x.j = r at *
 clear h h' hB
 go_enter Tryz.func230, Tryz.ntmps230
 go_wp2_with fail
 generalize w.alloc (boxE x.k x.j x.v x.t x.c) = W0 at *
 have hbd : Below W0.heap.size W0 W0.drew := (Below.refl _ _).drew
 go_region_held3 (fun w' => Reads W0 w' ab gj gr w.heap.size n m x) (exact reads_step (by assumption) (by assumption)) (first | (go_at_call 263; refine (hfind _ (reads_below (by assumption))).mono ?_; rintro e w' ⟨rfl, hb'⟩))
 all_goals
  rename_i hS
  have hB := HO.out.2.trans (hS.1.mono HO.out.2.size)
  have HR : Aside (Below w.heap.size w _) := hB
  clear hS0 hS hfind hbd hB
  go_wp2
  refine bodyPost_ret (v := .tuple #[]) (by simp [results, go_sem]) rfl ⟨rfl, _, _, ⟨(HO.out.1.later HR.out).head, (HO.out.1.later HR.out).sj, (HO.out.1.later HR.out).sr, ⟨_, _, _, rfl, Nat.le_refl _⟩, (Kept.refl _ _).below HR.out, (HO.out.1.later HR.out).tj _ _, (HO.out.1.later HR.out).tr _ _⟩⟩
theorem insJ (z : Jb) (gb vb k : Nat) (js : List Jb) (w : World) (hk : k ≤ js.length) (hg : w.heap[gb]? = some (.cells (js.flatMap Jb.cells).toArray 120)) (hv : w.heap[vb]? = some (.cells #[.int .i64 z.i, .int .i64 z.e, .int .i64 z.n] 120)) (hn : js.length ≤ 6) :
  Calls Tryz.prog 265 #[.slice (some ⟨gb, 0, none⟩) js.length js.length, .int .i64 k, .slice (some ⟨vb, 0, none⟩) 1 1] w fun e w' => ∃ u, e = .returned u ∧ (JobSl w' u (js.take k ++ z :: js.drop k) ∧ Typed 120 w' u) ∧ Kept [gb] w w' := by
 rcases Nat.lt_or_eq_of_le hk with hk | rfl
 ·exact insMid z gb vb k js w hk hg hv hn
 ·rw [List.take_length, List.drop_length]
  exact insEnd z gb vb js w hg hv hn
theorem kept_of_below {S : List Nat} {w w' : World} (h : Below w.heap.size w w') : Kept S w w' := (Kept.refl S w).below h
theorem Kept.trans {S S' : List Nat} {a b c : World} (h : Kept S a b) (h' : Kept S' b c) (hs : ∀ k, k ∈ S' → k ∈ S) : Kept S a c :=
 ⟨h'.os.trans h.os, h'.tape.trans h.tape, h'.output.trans h.output, Nat.le_trans h.size h'.size, fun k hk hS => (h'.block k (Nat.lt_of_lt_of_le hk h.size) (fun e => hS (hs k e))).trans (h.block k hk hS)⟩
theorem Kept.more {S S' : List Nat} {a b : World} (h : Kept S a b) (hs : ∀ k, k ∈ S → k ∈ S') : Kept S' a b :=
 ⟨h.os, h.tape, h.output, h.size, fun k hk hS => h.block k hk (fun e => hS (hs k e))⟩
def place (js : List Jb) (i : Int) : Nat := if idx (fun y => decide (i < y.i)) js < 0 then js.length else (idx (fun y => decide (i < y.i)) js).toNat
theorem place_le (js : List Jb) (i : Int) : place js i ≤ js.length := by
 unfold place
 rcases idx_ways (fun y : Jb => decide (i < y.i)) js with ⟨h, _⟩ | ⟨k, x, h, hk, _⟩
 ·rw [h]; simp
 ·rw [h, if_neg (by omega)]; simp; omega
abbrev PutS (w : World) (eb : Nat) (x : En) : Prop :=
 w.cell? ⟨eb, 1, none⟩ = some (.int .i64 x.j) ∧ w.cell? ⟨eb, 2, none⟩ = some (.int .i64 x.v) ∧ w.cell? ⟨eb, 3, none⟩ = some (.int .i64 x.t)
theorem putS_step {w w' : World} {eb : Nat} {x : En} (h : PutS w eb x) (hb : Below w.heap.size w w') : PutS w' eb x :=
 ⟨cell_later hb h.1, cell_later hb h.2.1, cell_later hb h.2.2⟩
theorem putS_new {w : World} {eb : Nat} {x : En} {o : Obj} (h : PutS w eb x) : PutS (w.alloc o) eb x := putS_step h (grew (Below.refl _ _) o)
theorem putS_of {w : World} {eb : Nat} {x : En} (h : w.heap[eb]? = some (boxE x.k x.j x.v x.t x.c)) : PutS w eb x :=
 ⟨by rw [Joins.cell_of_block h]; rfl, by rw [Joins.cell_of_block h]; rfl, by rw [Joins.cell_of_block h]; rfl⟩
theorem ins_left (z : Jb) (x : En) (eb ab gj gr vb k n m : Nat) (js J' : List Jb) (rs : List Rg) (w W : World) (hn : js.length = n) (hm : rs.length = m) (hk : k ≤ n) (hn6 : n ≤ 6) (hJ : js.take k ++ z :: js.drop k = J') (hO : Own W ab gj gr js rs) (hb : Below w.heap.size w W) (hE : W.heap[eb]? = some (boxE x.k x.j x.v x.t x.c)) (hne : eb ≠ gj)
  (hv : W.heap[vb]? = some (.cells #[.int .i64 z.i, .int .i64 z.e, .int .i64 z.n] 120)) :
  Calls Tryz.prog 265 #[.slice (some ⟨gj, 0, none⟩) n n, .int .i64 k, .slice (some ⟨vb, 0, none⟩) 1 1] W fun e w3 => ∃ a c, e = .returned (.slice a J'.length c) ∧
   (∀ i, w3.cell? ⟨ab, i, none⟩ = #[Value.slice (some ⟨gj, 0, none⟩) n n, .slice (some ⟨gr, 0, none⟩) m m][i]?) ∧ (∀ i, w3.frozen? ⟨ab, i, none⟩ = false) ∧ PutS w3 eb x ∧
   Aside (w3.heap[ab]? = some (boxB (.slice (some ⟨gj, 0, none⟩) n n) (.slice (some ⟨gr, 0, none⟩) m m)) ∧ (JobSl w3 (.slice a J'.length c) J' ∧ Typed 120 w3 (.slice a J'.length c)) ∧ (RungSl w3 (.slice (some ⟨gr, 0, none⟩) m m) rs ∧ Typed 76 w3 (.slice (some ⟨gr, 0, none⟩) m m)) ∧ Kept [ab, gj] w w3) := by
 subst hn hm hJ
 refine (insJ z gj vb k js W hk hO.jobs hv hn6).mono ?_
 rintro e w3 ⟨u, rfl, J3, K3⟩
 have hA3 := K3.old hO.head (by simpa using hO.ne1)
 have R3 : RungSl w3 (.slice (some ⟨gr, 0, none⟩) rs.length rs.length) rs := slOf_block Rg.three (K3.old hO.rungs (by simpa using Ne.symm hO.ne3)) ⟨[], by simp⟩
 have K3' := ((kept_of_below (S := [ab, gj]) hb).trans K3 (fun k hk => by simp at hk; simp [hk]))
 have T3 : Typed 76 w3 (.slice (some ⟨gr, 0, none⟩) rs.length rs.length) := typed_block (K3.old hO.rungs (by simpa using Ne.symm hO.ne3)) _ _ _
 obtain ⟨⟨a3, c3, rfl, hcase⟩, TJ⟩ := J3
 exact ⟨a3, c3, rfl, fun i => Joins.cell_of_block hA3 i, fun i => Joins.unfrozen_of_block hA3 i, putS_of (K3.old hE (by simpa using hne)), hA3, ⟨⟨a3, c3, rfl, hcase⟩, TJ⟩, ⟨R3, T3⟩, K3'⟩
theorem put_left {w w3 : World} {ab gj gr n m : Nat} {J' : List Jb} {rs : List Rg} {a : Option Addr} {c l : Nat} (n1 : ab ≠ gr) (h : w3.heap[ab]? = some (boxB (.slice (some ⟨gj, 0, none⟩) n n) (.slice (some ⟨gr, 0, none⟩) m m)) ∧ (JobSl w3 (.slice a l c) J' ∧ Typed 120 w3 (.slice a l c)) ∧ (RungSl w3 (.slice (some ⟨gr, 0, none⟩) m m) rs ∧ Typed 76 w3 (.slice (some ⟨gr, 0, none⟩) m m)) ∧ Kept [ab, gj] w w3) :
  Left w (w3.setCell ⟨ab, 0, none⟩ (.slice a l c)) ab [ab, gj] J' rs (.slice a l c) (.slice (some ⟨gr, 0, none⟩) m m) := by
 obtain ⟨h1, ⟨h2, h5⟩, ⟨h3, h6⟩, h4⟩ := h
 refine ⟨Joins.block_setCell (i := 0) h1 _, ?_, sl_beside h3 n1 _, ⟨_, _, _, rfl, Nat.le_refl _⟩, h4.setCell (by simp) _, h5.setCell _ _ _, h6.setCell _ _ _⟩
 obtain ⟨a', c', hv, hh⟩ := h2
 refine ⟨a', c', hv, ?_⟩
 rcases hh with hh | ⟨b', off, ha, hE⟩
 ·exact Or.inl hh
 ·refine Or.inr ⟨b', off, ha, fun j e hj i u hi => ?_⟩
  have hp : 0 < J'.length := by have := (List.getElem?_eq_some_iff.1 hj).1; omega
  have : ab ≠ b' := fun e => by
   obtain ⟨y, hy⟩ : ∃ y, J'[0]? = some y := ⟨J'[0], List.getElem?_eq_getElem hp⟩
   have h0 := hE 0 y hy 0 _ rfl
   rw [← e, Joins.cell_of_block h1] at h0
   generalize off + 0 * 3 + 0 = q at h0
   match q, h0 with
   | 0, h0 => simp at h0
   | 1, h0 => simp at h0
   | q + 2, h0 => simp at h0
  rw [World.cell?_of_block (Below.heap_setCell _ _ _ _ (by exact fun e => this e.symm))]
  exact hE j e hj i u hi
end
end Go.Proofs.YtmoaobfmopimlafGreatDoor
