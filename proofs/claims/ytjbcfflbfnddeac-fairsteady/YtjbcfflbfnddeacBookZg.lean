/- Package book: slices.Insert at a full row of jobs. -/
import Derived.Test.YtjbcfflbfnddeacBookZf
import Derived.Lib.AppendZerosOnto
import Derived.Deep.RegionLaw
namespace Go.Proofs.Ytjbcfflbfnddeac
open Go.RowKit Go.Shelf

theorem owns_of_block {w : World} {base gb : Nat} {js : List Jb} (hb : base ≤ gb) (hg : w.heap[gb]? = some (.cells (js.flatMap Jb.cells).toArray 40)) (hn : js.length ≤ 1000000) :
    w.ownsRow base 40 3 (.slice (some ⟨gb, 0, none⟩) js.length js.length) js.length (js.flatMap Jb.cells) := by
  have hl := row_len Jb.three js
  refine ⟨hl, .inr ⟨gb, js.length, _, rfl, hb, hg, Nat.le_refl _, by unfold maxLen; omega, by simpa using hl, ?_⟩⟩
  exact List.take_of_length_le (by simpa using Nat.le_of_eq hl)

set_option maxHeartbeats 2000000 in
theorem insEnd (z : Jb) (gb vb : Nat) (js : List Jb) (w : World) (hg : w.heap[gb]? = some (.cells (js.flatMap Jb.cells).toArray 40)) (hv : w.heap[vb]? = some (.cells #[.int .i64 z.i, .int .i64 z.e, .int .i64 z.n] 40)) (hn : js.length ≤ 6) :
    Calls Try.prog 40 #[.slice (some ⟨gb, 0, none⟩) js.length js.length, .int .i64 js.length, .slice (some ⟨vb, 0, none⟩) 1 1] w fun e w' => ∃ u, e = .returned u ∧ JobSl w' u (js ++ [z]) ∧ Kept [gb] w w' := by
  obtain ⟨i0, hi, hz0, hz1, hz2⟩ := info_parts infoJ
  have hown := owns_of_block (base := gb) (Nat.le_refl _) hg (by omega)
  have hgl := heap_lt hg
  have hl : (js ++ [z]).length = js.length + 1 := by simp
  have hfl : (js ++ [z]).flatMap Jb.cells = js.flatMap Jb.cells ++ z.cells := by simp
  have hnews : ∀ j u, z.cells[j]? = some u → w.cell? ((⟨vb, 0, none⟩ : Addr).add j) = some u := fun j u hj => by
    rw [Lib.add_plain, Joins.cell_of_block hv, Nat.zero_add]
    simpa [Jb.cells] using hj
  have hone : ∀ u ∈ z.cells, u.oneCell' = true := fun u hu => oneJ [z] u (by simpa using hu)
  have HL : Aside (∀ v' w', w'.ownsRow gb 40 3 v' (js.length + 1) (js.flatMap Jb.cells ++ z.cells) → JobSl w' v' (js ++ [z])) := fun v' w' h => by
    rw [← hl, ← hfl] at h
    exact slOf_of_owns Jb.three h
  obtain ⟨n, hnn⟩ : ∃ n, Hid (js.length = n) := ⟨_, rfl⟩
  rw [hnn.out] at hown hn HL ⊢
  obtain ⟨fl, hff⟩ : ∃ fl, Hid (js.flatMap Jb.cells = fl) := ⟨_, rfl⟩
  rw [hff.out] at hown HL
  have hzl : z.cells.length = 1 * 3 := rfl
  generalize z.cells = zc at *
  clear hg hv hl hfl
  go_enter Try.func40, Try.ntmps40
  go_wp2_with (at_builtin; refine wpList_append_own _ rfl _ _ 32 rfl gb 40 i0 (valJ 0 0 0) 3 24 Try.underlying32 hi hz0 hz1 hz2 rfl (by decide) (.slice (some ⟨gb, 0, none⟩) n n) n fl rfl hown ⟨vb, 0, none⟩ 1 1 zc rfl hzl hnews hone (by unfold maxLen; omega) (by omega) (by omega) ?_)
  intro v' w' hown' hgrow hiff
  have J : Aside (JobSl w' v' (js ++ [z])) := HL.out v' w' hown'
  have K : Aside (Kept [gb] w w') := ⟨hgrow.os, hgrow.tape, hgrow.output, hgrow.size, fun k hk hS => hgrow.block k hk (fun e => hS (by simp [Value.ownBlock] at e; simp [e]))⟩
  clear hown' hgrow hiff hown hnews hone hi hz0 hz1 hz2
  go_wp2
  go_ret
  exact ⟨_, rfl, J.out, K.out⟩

theorem splice_two {α : Type} {A Z B C : List α} {a b : Nat} (ha : A.length = a) (hb : B.length = b) : splice (splice (A ++ Z) a B) (a + b) C = A ++ B ++ C ++ Z.drop (b + C.length) := by
  subst ha hb
  have e1 : splice (A ++ Z) A.length B = A ++ B ++ Z.drop B.length := by
    simp [splice, List.drop_append]
  rw [e1]
  have e2 : (A ++ B ++ Z.drop B.length).take (A.length + B.length) = A ++ B := List.take_left' (by simp)
  have e3 : (A ++ B ++ Z.drop B.length).drop (A.length + B.length + C.length) = Z.drop (B.length + C.length) := by
    rw [← List.drop_drop, List.drop_left' (by simp), List.drop_drop]
  rw [splice, e2, e3]
  simp

set_option maxHeartbeats 4000000 in
set_option maxRecDepth 100000 in
theorem insMid (z : Jb) (gb vb k : Nat) (js : List Jb) (w : World) (hk : k < js.length) (hg : w.heap[gb]? = some (.cells (js.flatMap Jb.cells).toArray 40)) (hv : w.heap[vb]? = some (.cells #[.int .i64 z.i, .int .i64 z.e, .int .i64 z.n] 40)) (hn : js.length ≤ 6) :
    Calls Try.prog 40 #[.slice (some ⟨gb, 0, none⟩) js.length js.length, .int .i64 k, .slice (some ⟨vb, 0, none⟩) 1 1] w fun e w' => ∃ u, e = .returned u ∧ JobSl w' u (js.take k ++ z :: js.drop k) ∧ Kept [gb] w w' := by
  obtain ⟨i0, hi, hz0, hz1, hz2⟩ := info_parts infoJ
  have hgl := heap_lt hg
  have hvl := heap_lt hv
  obtain ⟨n, hnn⟩ : ∃ n, Hid (js.length = n) := ⟨_, rfl⟩
  have h1 : ((js.take k).flatMap Jb.cells).length = k * 3 := by rw [row_len Jb.three, List.length_take]; congr 1; omega
  have h2 : ((js.drop k).flatMap Jb.cells).length = (n - k) * 3 := by rw [row_len Jb.three, List.length_drop, hnn.out]
  have hrow : RowAt Jb.cells 3 w gb 0 js := rowAt_block Jb.three hg ⟨[], by simp⟩
  have hc1 := rows_flat Jb.three (js.take k) 0 (hrow.take k)
  have hc2 := rows_flat Jb.three (js.drop k) (0 + k * 3) (hrow.drop k)
  have ho1 := oneJ (js.take k)
  have ho2 := oneJ (js.drop k)
  have hoz : ∀ u ∈ z.cells, u.oneCell' = true := fun u hu => oneJ [z] u (by simpa using hu)
  have hzc : ∀ j u, z.cells[j]? = some u → w.cell? ⟨vb, 0 + j, none⟩ = some u := fun j u hj => by
    rw [Joins.cell_of_block hv, Nat.zero_add]
    simpa [Jb.cells] using hj
  have hzl : z.cells.length = 3 := rfl
  have hfin : Aside (∀ (u : Nat) (w' : World) (t : List Value) (c : Nat), w'.heap[u]? = some (.cells ((js.take k).flatMap Jb.cells ++ z.cells ++ (js.drop k).flatMap Jb.cells ++ t).toArray 40) → JobSl w' (.slice (some ⟨u, 0, none⟩) (n + 1) c) (js.take k ++ z :: js.drop k)) := fun u w' t c h => by
    have := slOf_block (c := c) Jb.three (xs := js.take k ++ z :: js.drop k) h ⟨t, by simp⟩
    rwa [show (js.take k ++ z :: js.drop k).length = n + 1 by rw [← hnn.out]; simp; omega] at this
  rw [hnn.out] at hk hn ⊢
  generalize (js.take k).flatMap Jb.cells = A at *
  generalize (js.drop k).flatMap Jb.cells = C at *
  generalize z.cells = Bz at *
  obtain ⟨q, hq⟩ : ∃ q, n + 1 = k + q := ⟨n + 1 - k, by omega⟩
  have hold : (Builtin.firstCells i0.size k (.slice (some ⟨gb, 0, none⟩) k n)).run Try.prog w.drew = .ok A.toArray w.drew := by
    rw [hz1]
    exact run_firstCells_some w.drew 3 k ⟨gb, 0, none⟩ k n A h1 (fun j v hj => by rw [Lib.add_plain]; exact hc1 j v hj)
  obtain ⟨G, Z, W1, hrun, hW1, hZ, hB1, hG⟩ : ∃ (G : Nat) (Z : List Value) (W1 : World), (∀ ty, (Builtin.append_ #[32, 3] ty #[.slice (some ⟨gb, 0, none⟩) k n, .int .i64 (q : Nat)]).run Try.prog w = .ok (.slice (some ⟨w.heap.size, 0, none⟩) (n + 1) G) W1) ∧ W1.heap[w.heap.size]? = some (.cells (A ++ Z).toArray 40) ∧ q * 3 ≤ Z.length ∧ Below w.heap.size w W1 ∧ n + 1 ≤ G := by
    have hr := fun ty => Lib.run_append_grow_zeros (P := Try.prog) w 32 3 ty 40 i0 (valJ 0 0 0) .i64 .i64 Try.underlying32 Try.underlying3 hi hz0 (some ⟨gb, 0, none⟩) k n A hold q (by omega) (by omega) (by omega) (by omega) (by rw [hz2]; omega) (growslice_fits (by omega) (by rw [hz2]; omega))
    rw [← hq] at hr
    refine ⟨_, (Builtin.zeroCells (valJ 0 0 0).cells q).toList ++ (Builtin.zeroCells (valJ 0 0 0).cells (grownCap w (n + 1) n 40 - (n + 1))).toList, _, hr, ?_, ?_, grew (Below.refl w.heap.size w).drew _, grownCap_ge _ _ _ _⟩
    · have := heap_new w.drew (.cells (A.toArray ++ Builtin.zeroCells (valJ 0 0 0).cells q ++ Builtin.zeroCells (valJ 0 0 0).cells (grownCap w (n + 1) n 40 - (n + 1))) 40)
      rw [show w.drew.heap.size = w.heap.size from rfl] at this
      rw [this]
      congr 2
      apply Array.toList_inj.1
      simp
    · rw [List.length_append, zerosJ]; omega
  have hCl : C.length = (q - 1) * 3 := by rw [h2]; congr 1; omega
  have hsp := splice_two (Z := Z) (C := C) h1 hzl
  rw [show k * 3 + 3 = (k + 1) * 3 by omega] at hsp
  have hmin1 : Bz.length = Nat.min 1 q * 3 := by
    rw [hzl]; show 3 = min 1 q * 3; omega
  have hmin2 : C.length = Nat.min (n - k) (q - 1) * 3 := by
    rw [h2]; show _ = min (n - k) (q - 1) * 3; congr 1; omega
  have hAl : (A ++ Z).length = k * 3 + Z.length := by rw [List.length_append, h1]
  have hS1 : (splice (A ++ Z) (k * 3) Bz).length = (A ++ Z).length := length_splice _ _ _ (by rw [hAl, hzl]; omega)
  have hpos1 : 0 < Nat.min 1 q → (some ⟨w.heap.size, k * 3, none⟩ : Option Addr) = some ⟨w.heap.size, k * 3, none⟩ ∧ ∃ ad, (some ⟨vb, 0, none⟩ : Option Addr) = some ad ∧ ∀ j v, Bz[j]? = some v → W1.cell? (ad.add j) = some v := fun _ => ⟨rfl, _, rfl, fun j v hj => by rw [Lib.add_plain]; exact cell_later hB1 (hzc j v hj)⟩
  have hfit1 : k * 3 + Bz.length ≤ (A ++ Z).length := by rw [hAl, hzl]; omega
  have hfit2 : (k + 1) * 3 + C.length ≤ (splice (A ++ Z) (k * 3) Bz).length := by rw [hS1, hAl, hCl]; omega
  have hfin' : Aside (∀ w' : World, w'.heap[w.heap.size]? = some (.cells (splice (splice (A ++ Z) (k * 3) Bz) ((k + 1) * 3) C).toArray 40) → JobSl w' (.slice (some ⟨w.heap.size, 0, none⟩) (k + q) G) (js.take k ++ z :: js.drop k)) := fun w' h => by
    rw [hsp] at h
    rw [← hq]
    exact hfin.out _ w' _ G h
  have hc2' : Aside (∀ (w' : World), Below w.heap.size w w' → ∀ j u, C[j]? = some u → w'.cell? ((⟨gb, k * 3, none⟩ : Addr).add j) = some u) := fun w' hb j u hj => by
    rw [Lib.add_plain]
    have := hc2 j u hj
    rw [Nat.zero_add] at this
    exact cell_later hb this
  clear hold hi hz0 hz1 hz2 hc1 hc2 hzc hrow hsp hfin hg hv h1 h2 hAl hCl hS1 ho1 hzl
  generalize A ++ Z = L0 at *
  obtain ⟨L1, hL1⟩ : ∃ L1, Hid (splice L0 (k * 3) Bz = L1) := ⟨_, rfl⟩
  rw [hL1.out] at hfit2 hfin'
  clear hZ
  have hqi : (n : Int) + 1 - (k : Int) = (q : Int) := by omega
  have hne0 : ((k : Int) == (n : Int)) = false := by rw [beq_eq_false_iff_ne]; omega
  go_enter Try.func40, Try.ntmps40
  go_wp2_with (first
    | (at_builtin; refine Lib.wpList_append_run _ rfl _ _ 32 3 rfl _ _ rfl rfl _ _ (hrun _) ?_)
    | ((with_reducible show wpList _ _ _ (Oper.mk (some 45) _ _ _ _ _ :: _) _ _); refine wpList_copyK rfl _ _ 32 32 rfl 40 3 Try.underlying32 sizeJ (some ⟨w.heap.size, k * 3, none⟩) (some ⟨vb, 0, none⟩) q (G - k) 1 1 rfl rfl w.heap.size (k * 3) L0 40 hW1 Bz hmin1 hpos1 hfit1 hoz w.heap.size w hB1 (Nat.le_refl _) ?_))
  intro w2 hg2 hB2
  have hg2' : w2.heap[w.heap.size]? = some (.cells L1.toArray 40) := by rw [← hL1.out]; exact hg2.out
  have hB2' := hB2.drew
  have hq1 : k + q - (k + 1) = q - 1 := by omega
  have hk1 : (k : Int) + 1 ≤ (k : Int) + (q : Int) := by omega
  have hk2 : (k : Int) + (q : Int) ≤ (G : Int) := by omega
  have hk3 : (0 : Int) ≤ (k : Int) + 1 := by omega
  have hwr : IntKind.i64.wrap ((k : Int) + 1) = (k : Int) + 1 := by rw [IntKind.wrap_i64]; omega
  have hG1 : ¬ G = k + 1 := by omega
  have hnk : ¬ n = k := by omega
  have hkn : k ≤ n := by omega
  go_wp2_with fail
  go_region_law ((refine step_copyK rfl _ _ 32 32 rfl 40 3 Try.underlying32 sizeJ (some ⟨w.heap.size, (k + 1) * 3, none⟩) (some ⟨gb, k * 3, none⟩) (q - 1) (G - (k + 1)) (n - k) (n - k) (by simp [Act.eval, Act.put]) (by simp [Act.eval, Act.put]) w.heap.size ((k + 1) * 3) L1 40 hg2' C hmin2 (fun _ => ⟨rfl, _, rfl, hc2'.out _ hB2'⟩) hfit2 ho2 w.heap.size w hB2' (Nat.le_refl _) ?_; intro w3 hg3 hB3))
  all_goals
    go_wp2
    go_ret
    exact ⟨_, rfl, hfin'.out _ hg3.out, (Kept.refl _ _).below hB3⟩

end Go.Proofs.Ytjbcfflbfnddeac
