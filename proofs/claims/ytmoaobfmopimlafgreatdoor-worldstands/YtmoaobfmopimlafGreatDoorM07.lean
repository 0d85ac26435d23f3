/- For the law. -/
import Derived.Test.YtmoaobfmopimlafGreatDoorM06
import Derived.Deep.RegionLaw
set_option linter.unusedSimpArgs false
set_option linter.unusedVariables false
set_option maxHeartbeats 16000000
set_option maxRecDepth 100000
namespace Go.Proofs.YtmoaobfmopimlafGreatDoor
open Go Go.ChangeShapes Go.WideShapes Go.ChangeAt Go.RowKit
theorem cl_new (w : World) : Calls Tryz.prog 77 #[] w fun e w' => e = .returned ((⟨1, 0, En.zero, 0, 0, 0, [], []⟩ : Cl).val nil0 nil0) ∧ Below w.heap.size w w' := by
 have HR0 : Aside ((w.alloc (boxZ)).heap[w.heap.size]? = some (boxZ)) := heap_new _ _
 have HB0 : Aside (Below w.heap.size w (w.alloc (boxZ))) := grew (Below.refl _ _) _
 go_enter Tryz.func77, Tryz.ntmps77
 go_upto_region 1 with fail
 generalize w.alloc (boxZ) = W0 at *
 have zr := fun i => Joins.cell_of_block HR0.out i
 have fzr := fun i => Joins.unfrozen_of_block HR0.out i
 go_wp2
 refine ret1_st (p := 0) W0 w.heap.size (⟨1, 0, En.zero, 0, 0, 0, [], []⟩ : Cl) nil0 nil0 (o := Cl.zero) (u1 := nil0) (u2 := nil0) Tryz.results77 rfl rfl HR0.out rfl ?_
 exact ⟨rfl, st12_below HB0.out (Nat.le_refl _) _ _ _⟩
theorem ccopyJ (v : Value) (xs : List Jb) (w : World) (hv : JobSl w v xs) (hn : xs.length ≤ 1000000) :
  Calls Tryz.prog 197 #[v] w fun e w' => ∃ g, e = .returned (.slice (some ⟨g, 0, none⟩) xs.length xs.length) ∧ w.heap.size ≤ g ∧ w'.heap[g]? = some (.cells (xs.flatMap Jb.cells).toArray 120) ∧ Below w.heap.size w w' := by
 obtain ⟨i0, hi, hz0, hz1, hz2⟩ := info_parts infoJ
 have H1 : Hid (JobSl w v xs) := hv
 obtain ⟨a1, c1, rfl, _⟩ := hv
 obtain ⟨cs, hcs⟩ : ∃ cs, Hid (xs.flatMap Jb.cells = cs) := ⟨_, rfl⟩
 have hone : ∀ u ∈ cs, u.oneCell' = true := by rw [← hcs.out]; exact oneJ xs
 have hlen : cs.length = xs.length * 3 := by rw [← hcs.out]; exact row_len Jb.three xs
 rw [hcs.out]
 obtain ⟨n1, hn1⟩ : ∃ n1, xs.length = n1 := ⟨_, rfl⟩
 have L1 : Hid (xs.length = n1) := hn1
 rw [hn1] at H1 hn hlen ⊢
 clear hn1
 go_enter Tryz.func197, Tryz.ntmps197
 go_wp2_with (at_make; refine wpList_make_full _ rfl _ _ 36 rfl w.heap.size 120 i0 (valJ 0 0 0) 3 Tryz.underlying36 hi hz0 hz1 _ _ _ _ n1 rfl rfl rfl rfl (by rw [hz2]; omega) (by unfold maxLen; omega) (Nat.le_refl _) ?_)
 intro w1 hown hgrow
 obtain ⟨hl0, ho⟩ := hown
 rcases ho with ⟨h, _⟩ | ⟨g, cap, cur, hv', _, hg, _, _, hsz, htake⟩
 · cases h
 injection hv' with ha _ hc
 injection ha with ha
 injection ha with ha _ _
 subst ha hc
 have hB1 : Below w.heap.size w w1 := ⟨hgrow.os, hgrow.tape, hgrow.output, hgrow.size, fun k hk => hgrow.block k hk (fun h => by cases h)⟩
 have hcur : cur.toList.length = n1 * 3 := by simpa using hsz
 have hg' : w1.heap[w.heap.size]? = some (.cells cur.toList.toArray 120 (0, 0)) := by simpa using hg
 clear hi hz0 hz1 hz2 hl0 htake hgrow hg hsz
 have hpos : 0 < Nat.min n1 n1 → (some ⟨w.heap.size, 0, none⟩ : Option Addr) = some ⟨w.heap.size, 0, none⟩ ∧ ∃ ad, a1 = some ad ∧ ∀ j v, cs[j]? = some v → w1.cell? (ad.add j) = some v := fun h0 => by
  have h0' : 0 < n1 := by
   have : 0 < min n1 n1 := h0
   omega
  obtain ⟨b, off, rfl, hE⟩ := H1.out.at h0'
  refine ⟨rfl, _, rfl, fun j u hj => ?_⟩
  rw [Lib.add_plain]
  rw [← hcs.out] at hj
  exact rows_flat Jb.three xs off (hE.later hB1) j u hj
 have hmin : cs.length = Nat.min n1 n1 * 3 := by rw [hlen]; show _ = min n1 n1 * 3; rw [Nat.min_self]
 have hfit : 0 + cs.length ≤ cur.toList.length := by rw [hcur, hlen]; omega
 have hall := splice_all (hcur.trans hlen.symm)
 obtain ⟨cl, hcl⟩ : ∃ cl, Hid (cur.toList = cl) := ⟨_, rfl⟩
 rw [hcl.out] at hg' hfit hall
 clear hcur hcl
 go_wp2_with ((with_reducible show wpList _ _ _ (Oper.mk (some 9) _ _ _ _ _ :: _) _ _); refine wpList_copyK rfl _ _ 36 36 rfl 120 3 Tryz.underlying36 sizeJ (some ⟨w.heap.size, 0, none⟩) a1 n1 n1 n1 c1 rfl rfl w.heap.size 0 cl 120 hg' cs hmin hpos hfit hone w.heap.size w hB1 (Nat.le_refl _) ?_)
 intro w2 hg2 hB2
 go_wp2
 go_ret
 exact ⟨_, rfl, Nat.le_refl _, hg2.out, hB2⟩
theorem ccopyR (v : Value) (xs : List Rg) (w : World) (hv : RungSl w v xs) (hn : xs.length ≤ 1000000) :
  Calls Tryz.prog 198 #[v] w fun e w' => ∃ g, e = .returned (.slice (some ⟨g, 0, none⟩) xs.length xs.length) ∧ w.heap.size ≤ g ∧ w'.heap[g]? = some (.cells (xs.flatMap Rg.cells).toArray 76) ∧ Below w.heap.size w w' := by
 obtain ⟨i0, hi, hz0, hz1, hz2⟩ := info_parts infoR
 have H1 : Hid (RungSl w v xs) := hv
 obtain ⟨a1, c1, rfl, _⟩ := hv
 obtain ⟨cs, hcs⟩ : ∃ cs, Hid (xs.flatMap Rg.cells = cs) := ⟨_, rfl⟩
 have hone : ∀ u ∈ cs, u.oneCell' = true := by rw [← hcs.out]; exact oneR xs
 have hlen : cs.length = xs.length * 3 := by rw [← hcs.out]; exact row_len Rg.three xs
 rw [hcs.out]
 obtain ⟨n1, hn1⟩ : ∃ n1, xs.length = n1 := ⟨_, rfl⟩
 have L1 : Hid (xs.length = n1) := hn1
 rw [hn1] at H1 hn hlen ⊢
 clear hn1
 go_enter Tryz.func198, Tryz.ntmps198
 go_wp2_with (at_make; refine wpList_make_full _ rfl _ _ 37 rfl w.heap.size 76 i0 (valR 0 0 0) 3 Tryz.underlying37 hi hz0 hz1 _ _ _ _ n1 rfl rfl rfl rfl (by rw [hz2]; omega) (by unfold maxLen; omega) (Nat.le_refl _) ?_)
 intro w1 hown hgrow
 obtain ⟨hl0, ho⟩ := hown
 rcases ho with ⟨h, _⟩ | ⟨g, cap, cur, hv', _, hg, _, _, hsz, htake⟩
 · cases h
 injection hv' with ha _ hc
 injection ha with ha
 injection ha with ha _ _
 subst ha hc
 have hB1 : Below w.heap.size w w1 := ⟨hgrow.os, hgrow.tape, hgrow.output, hgrow.size, fun k hk => hgrow.block k hk (fun h => by cases h)⟩
 have hcur : cur.toList.length = n1 * 3 := by simpa using hsz
 have hg' : w1.heap[w.heap.size]? = some (.cells cur.toList.toArray 76 (0, 0)) := by simpa using hg
 clear hi hz0 hz1 hz2 hl0 htake hgrow hg hsz
 have hpos : 0 < Nat.min n1 n1 → (some ⟨w.heap.size, 0, none⟩ : Option Addr) = some ⟨w.heap.size, 0, none⟩ ∧ ∃ ad, a1 = some ad ∧ ∀ j v, cs[j]? = some v → w1.cell? (ad.add j) = some v := fun h0 => by
  have h0' : 0 < n1 := by
   have : 0 < min n1 n1 := h0
   omega
  obtain ⟨b, off, rfl, hE⟩ := H1.out.at h0'
  refine ⟨rfl, _, rfl, fun j u hj => ?_⟩
  rw [Lib.add_plain]
  rw [← hcs.out] at hj
  exact rows_flat Rg.three xs off (hE.later hB1) j u hj
 have hmin : cs.length = Nat.min n1 n1 * 3 := by rw [hlen]; show _ = min n1 n1 * 3; rw [Nat.min_self]
 have hfit : 0 + cs.length ≤ cur.toList.length := by rw [hcur, hlen]; omega
 have hall := splice_all (hcur.trans hlen.symm)
 obtain ⟨cl, hcl⟩ : ∃ cl, Hid (cur.toList = cl) := ⟨_, rfl⟩
 rw [hcl.out] at hg' hfit hall
 clear hcur hcl
 go_wp2_with ((with_reducible show wpList _ _ _ (Oper.mk (some 9) _ _ _ _ _ :: _) _ _); refine wpList_copyK rfl _ _ 37 37 rfl 76 3 Tryz.underlying37 sizeR (some ⟨w.heap.size, 0, none⟩) a1 n1 n1 n1 c1 rfl rfl w.heap.size 0 cl 76 hg' cs hmin hpos hfit hone w.heap.size w hB1 (Nat.le_refl _) ?_)
 intro w2 hg2 hB2
 go_wp2
 go_ret
 exact ⟨_, rfl, Nat.le_refl _, hg2.out, hB2⟩
theorem cl_apart (c : Cl) (a1 a2 : Option Addr) (m1 k1 m2 k2 : Nat) (w : World) (hb : BkAt w (.slice a1 m1 k1) (.slice a2 m2 k2) c) (hn1 : c.js.length ≤ 1000000) (hn2 : c.rs.length ≤ 1000000) :
  Calls Tryz.prog 168 #[c.val (.slice a1 m1 k1) (.slice a2 m2 k2)] w fun e w' => ∃ u1 u2, e = .returned (c.val u1 u2) ∧ BkT w' u1 u2 c ∧ Below w.heap.size w w' := by
 have HX0 : Aside (((w.alloc (boxC c (.slice a1 m1 k1) (.slice a2 m2 k2))).alloc (boxZ)).heap[w.heap.size]? = some (boxC c (.slice a1 m1 k1) (.slice a2 m2 k2))) := heap_old (heap_new _ _) _
 have HR0 : Aside (((w.alloc (boxC c (.slice a1 m1 k1) (.slice a2 m2 k2))).alloc (boxZ)).heap[w.heap.size + 1]? = some (boxZ)) := by
  have := heap_new (w.alloc (boxC c (.slice a1 m1 k1) (.slice a2 m2 k2))) (boxZ)
  rw [World.size_alloc] at this
  exact this
 have HB0 : Aside (Below w.heap.size w ((w.alloc (boxC c (.slice a1 m1 k1) (.slice a2 m2 k2))).alloc (boxZ))) := grew (grew (Below.refl _ _) _) _
 have l1 : c.js.length = m1 := hb.1.len
 have l2 : c.rs.length = m2 := hb.2.len
 have HJ : Aside (∀ W, Below w.heap.size w W → Calls Tryz.prog 197 #[(.slice a1 m1 k1)] W fun e w' => ∃ g, e = .returned (.slice (some ⟨g, 0, none⟩) m1 m1) ∧ Aside (w'.heap[g]? = some (.cells (c.js.flatMap Jb.cells).toArray 120)) ∧ Below W.heap.size W w') := fun W hB =>
  (ccopyJ (.slice a1 m1 k1) c.js W (hb.1.later hB) hn1).mono fun e w' ⟨g, he, _, hg, hB'⟩ => ⟨g, by rw [he, l1], hg, hB'⟩
 have HU : Aside (∀ W, Below w.heap.size w W → Calls Tryz.prog 198 #[(.slice a2 m2 k2)] W fun e w' => ∃ g, e = .returned (.slice (some ⟨g, 0, none⟩) m2 m2) ∧ Aside (w'.heap[g]? = some (.cells (c.rs.flatMap Rg.cells).toArray 76)) ∧ Below W.heap.size W w') := fun W hB =>
  (ccopyR (.slice a2 m2 k2) c.rs W (hb.2.later hB) hn2).mono fun e w' ⟨g, he, _, hg, hB'⟩ => ⟨g, by rw [he, l2], hg, hB'⟩
 have HL : Aside (c.js.length = m1 ∧ c.rs.length = m2) := ⟨l1, l2⟩
 clear hb hn1 hn2 l1 l2
 go_enter Tryz.func168, Tryz.ntmps168
 go_upto_region 1 with fail
 generalize (w.alloc (boxC c (.slice a1 m1 k1) (.slice a2 m2 k2))).alloc (boxZ) = W0 at *
 have z10 : W0.drew.cell? ⟨w.heap.size, 10, none⟩ = some (.slice a1 m1 k1) := Joins.cell_of_block HX0.out 10
 have z11 : W0.drew.cell? ⟨w.heap.size, 11, none⟩ = some (.slice a2 m2 k2) := Joins.cell_of_block HX0.out 11
 have HXd : Aside (W0.drew.heap[w.heap.size]? = some (boxC c (.slice a1 m1 k1) (.slice a2 m2 k2))) := HX0.out
 have HRd : Aside (W0.drew.heap[w.heap.size + 1]? = some (boxZ)) := HR0.out
 have HBd : Aside (Below w.heap.size w W0.drew) := HB0.out.drew
 clear HX0 HR0 HB0
 refine wp_region_noPanic ?_
 refine region_L (fun w' => w'.cell? ⟨w.heap.size, 10, none⟩ = some (.slice a1 m1 k1) ∧ w'.cell? ⟨w.heap.size, 11, none⟩ = some (.slice a2 m2 k2)) 10 (by kernel_rfl) (⟨z10, z11⟩) (fun hHeld => ?_)
 clear z10 z11
 generalize W0.drew = X at *
 refine tl 0 (v := ?_) rfl (by kernel_rfl) (by rfl) (by assumption) (fun _ _ _ h => h) ?_ ?_
 rotate_left
 · (intro w0 hSw; (try dsimp only at hSw); go_simp; first | done | with_reducible rfl)
 try simp only [Act.put, qa, qb, qc]
 refine tl 1 (v := ?_) rfl (by kernel_rfl) (by rfl) (by assumption) (fun _ _ _ h => h) ?_ ?_
 rotate_left
 · (intro w0 hSw; (try dsimp only at hSw); go_simp; first | done | with_reducible rfl)
 try simp only [Act.put, qa, qb, qc]
 refine tl 2 (v := ?_) rfl (by kernel_rfl) (by rfl) (by assumption) (fun _ _ _ h => h) ?_ ?_
 rotate_left
 · (intro w0 hSw; (try dsimp only at hSw); go_simp; first | done | with_reducible rfl)
 try simp only [Act.put, qa, qb, qc]
 refine tl 4 (v := ?_) rfl (by kernel_rfl) (by rfl) (by assumption) (fun _ _ _ h => h) ?_ ?_
 rotate_left
 · (intro w0 hSw; (try dsimp only at hSw); go_simp; first | done | with_reducible rfl)
 try simp only [Act.put, qa, qb, qc]
 refine tl 5 (v := ?_) rfl (by kernel_rfl) (by rfl) (by assumption) (fun _ _ _ h => h) ?_ ?_
 rotate_left
 · (intro w0 hSw; (try dsimp only at hSw); go_simp; first | done | with_reducible rfl)
 try simp only [Act.put, qa, qb, qc]
 refine tl 6 (v := ?_) rfl (by kernel_rfl) (by rfl) (by assumption) (fun _ _ _ h => h) ?_ ?_
 rotate_left
 · (intro w0 hSw; (try dsimp only at hSw); go_simp; first | done | with_reducible rfl)
 try simp only [Act.put, qa, qb, qc]
 refine anyL_one (i := 3) (by kernel_rfl) rfl (fun K hK => ?_)
 go_simp
 refine (HJ.out _ HBd.out).mono ?_
 rintro e w1 ⟨gj, rfl, gJ1, hb1⟩
 have HX1 : Aside _ := heap_below HXd.out hb1 (heap_lt HXd.out)
 have HR1 : Aside _ := heap_below HRd.out hb1 (heap_lt HRd.out)
 have HB1 : Aside (Below w.heap.size w w1) := HBd.out.trans (hb1.mono (by have := heap_lt HXd.out; omega))
 refine hK.out _ _ (fun _ => ⟨cell_later hb1 hHeld.1, cell_later hb1 hHeld.2⟩) (fun hNext => ?_)
 replace hNext := hNext (by kernel_rfl)
 clear hK K hHeld hb1 HXd HRd HBd
 try simp only [Act.put, qa, qb, qc]
 refine anyL_one (i := 7) (by kernel_rfl) rfl (fun K hK => ?_)
 go_simp
 refine (HU.out _ HB1.out).mono ?_
 rintro e w2 ⟨gr, rfl, gR2, hb2⟩
 have HX2 : Aside _ := heap_below HX1.out hb2 (heap_lt HX1.out)
 have HR2 : Aside _ := heap_below HR1.out hb2 (heap_lt HR1.out)
 have HB2 : Aside (Below w.heap.size w w2) := HB1.out.trans (hb2.mono (by have := heap_lt HX1.out; omega))
 have gJ2 : Aside _ := heap_below gJ1.out hb2 (heap_lt gJ1.out)
 refine hK.out _ _ (fun _ => ⟨cell_later hb2 hNext.1, cell_later hb2 hNext.2⟩) (fun hNext => ?_)
 replace hNext := hNext (by kernel_rfl)
 clear hK K hb2 HX1 HR1 HB1 gJ1
 try simp only [Act.put, qa, qb, qc]
 refine anyL_one (i := 8) (by kernel_rfl) rfl (fun K hK => ?_)
 go_simp
 refine hK.out _ _ (fun _ => hNext) (fun _ => ?_)
 clear hK K
 try simp only [Act.put, qa, qb, qc]
 have z := fun i => Joins.cell_of_block HX2.out i
 have fz := fun i => Joins.unfrozen_of_block HX2.out i
 refine anyL_one (i := 9) (by kernel_rfl) rfl (fun K hK => ?_)
 go_simp
 refine hK.out _ _ (fun _ => hNext) (fun _ => ?_)
 clear hK K
 try simp only [Act.put, qa, qb, qc]
 refine anyL_one (i := 10) (by kernel_rfl) rfl (fun K hK => ?_)
 go_simp
 refine hK.out _ _ (fun h => absurd h (by decide +kernel)) (fun _ => ?_)
 clear hK K
 refine anyL_done (by kernel_rfl) ?_ _
 refine NoPanic.normal ?_
 try simp only [Act.put, qa, qb, qc]
 have T2 : IsC w2 w.heap.size ∧ BkT w2 (.slice (some ⟨gj, 0, none⟩) m1 m1) (.slice (some ⟨gr, 0, none⟩) m2 m2) c := ⟨isC_of HX2.out, ⟨by rw [← HL.out.1]; exact slOf_block Jb.three gJ2.out ⟨[], by simp⟩, by rw [← HL.out.2]; exact slOf_block Rg.three gR2.out ⟨[], by simp⟩⟩, typed_block gJ2.out _ _ _, typed_block gR2.out _ _ _⟩
 have T3 : Aside _ := (bkT_both (bkT_both T2 10 (.slice (some ⟨gj, 0, none⟩) m1 m1)) 11 (.slice (some ⟨gr, 0, none⟩) m2 m2)).2
 have g0 := Joins.block_setCell HX2.out (i := 10) (.slice (some ⟨gj, 0, none⟩) m1 m1)
 have g1 := Joins.block_setCell g0 (i := 11) (.slice (some ⟨gr, 0, none⟩) m2 m2)
 simp only [List.setIfInBounds_toArray, List.set_cons_zero, List.set_cons_succ] at g1
 have hrs : w.heap.size + 1 ≠ w.heap.size := by omega
 have HX3 : Aside (((w2.setCell ⟨w.heap.size, 10, none⟩ (.slice (some ⟨gj, 0, none⟩) m1 m1)).setCell ⟨w.heap.size, 11, none⟩ (.slice (some ⟨gr, 0, none⟩) m2 m2)).heap[w.heap.size]? = some (boxC c (.slice (some ⟨gj, 0, none⟩) m1 m1) (.slice (some ⟨gr, 0, none⟩) m2 m2))) := g1
 have HR3 : Aside (((w2.setCell ⟨w.heap.size, 10, none⟩ (.slice (some ⟨gj, 0, none⟩) m1 m1)).setCell ⟨w.heap.size, 11, none⟩ (.slice (some ⟨gr, 0, none⟩) m2 m2)).heap[w.heap.size + 1]? = some (boxZ)) := by
  rw [Aside, Below.heap_setCell _ _ _ _ (by exact hrs), Below.heap_setCell _ _ _ _ (by exact hrs)]
  exact HR2.out
 have HB3 : Aside (Below w.heap.size w ((w2.setCell ⟨w.heap.size, 10, none⟩ (.slice (some ⟨gj, 0, none⟩) m1 m1)).setCell ⟨w.heap.size, 11, none⟩ (.slice (some ⟨gr, 0, none⟩) m2 m2))) := ((HB2.out).setCell (p := ⟨w.heap.size, 10, none⟩) (Nat.le_refl _) _).setCell (p := ⟨w.heap.size, 11, none⟩) (Nat.le_refl _) _
 clear T2 g0 g1 z fz HX2 HR2 HB2 hNext HJ HU gJ2 gR2
 generalize ((w2.setCell ⟨w.heap.size, 10, none⟩ (.slice (some ⟨gj, 0, none⟩) m1 m1)).setCell ⟨w.heap.size, 11, none⟩ (.slice (some ⟨gr, 0, none⟩) m2 m2)) = w3 at *
 have z := fun i => Joins.cell_of_block HX3.out i
 have zr := fun i => Joins.cell_of_block HR3.out i
 have fzr := fun i => Joins.unfrozen_of_block HR3.out i
 go_wp2
 refine ret1_st (p := 2) w3 (w.heap.size + 1) c (.slice (some ⟨gj, 0, none⟩) m1 m1) (.slice (some ⟨gr, 0, none⟩) m2 m2) (o := Cl.zero) (u1 := nil0) (u2 := nil0) Tryz.results168 rfl rfl HR3.out rfl ?_
 exact ⟨(.slice (some ⟨gj, 0, none⟩) m1 m1), (.slice (some ⟨gr, 0, none⟩) m2 m2), rfl, bkT_st12 ⟨_, HR3.out⟩ T3.out _ _ _, st12_below HB3.out (by omega) _ _ _⟩
theorem cl_doing (c : Cl) (x : En) (what q l : Int) (a1 a2 : Option Addr) (m1 k1 m2 k2 : Nat) (w : World) (hb : BkAt w (.slice a1 m1 k1) (.slice a2 m2 k2) c) (hn1 : c.js.length ≤ 1000000) (hn2 : c.rs.length ≤ 1000000) :
  Calls Tryz.prog 171 #[c.val (.slice a1 m1 k1) (.slice a2 m2 k2), .int .i64 what, x.val, .int .i64 q, .int .i64 l] w fun e w' => ∃ u1 u2, e = .returned ((⟨c.p, what, x, q, l, c.n, c.js, c.rs⟩ : Cl).val u1 u2) ∧ BkT w' u1 u2 c ∧ Below w.heap.size w w' := by
 have HE0 : Aside ((((w.alloc (boxC c (.slice a1 m1 k1) (.slice a2 m2 k2))).alloc (boxE x.k x.j x.v x.t x.c)).alloc (boxZ)).heap[w.heap.size + 1]? = some (boxE x.k x.j x.v x.t x.c)) := by
  have := heap_new (w.alloc (boxC c (.slice a1 m1 k1) (.slice a2 m2 k2))) (boxE x.k x.j x.v x.t x.c)
  rw [World.size_alloc] at this
  exact heap_old this _
 have HR0 : Aside ((((w.alloc (boxC c (.slice a1 m1 k1) (.slice a2 m2 k2))).alloc (boxE x.k x.j x.v x.t x.c)).alloc (boxZ)).heap[w.heap.size + 1 + 1]? = some (boxZ)) := by
  have := heap_new ((w.alloc (boxC c (.slice a1 m1 k1) (.slice a2 m2 k2))).alloc (boxE x.k x.j x.v x.t x.c)) (boxZ)
  rw [World.size_alloc, World.size_alloc] at this
  exact this
 have HB0 : Aside (Below w.heap.size w (((w.alloc (boxC c (.slice a1 m1 k1) (.slice a2 m2 k2))).alloc (boxE x.k x.j x.v x.t x.c)).alloc (boxZ))) := grew (grew (grew (Below.refl _ _) _) _) _
 have ka := cl_apart c a1 a2 m1 k1 m2 k2 _ (bkAt_later hb HB0.out) hn1 hn2
 clear hb hn1 hn2
 go_enter Tryz.func171, Tryz.ntmps171
 go_wp2_with fail
 refine ka.mono ?_
 rintro e w1 ⟨u1, u2, rfl, hT1, hb1⟩
 have HE1 : Aside _ := heap_below HE0.out hb1 (heap_lt HE0.out)
 have HR1 : Aside _ := heap_below HR0.out hb1 (heap_lt HR0.out)
 have HB1 : Aside _ := step_below HB0.out hb1
 have HT1 : Aside (BkT w1 u1 u2 c) := hT1
 obtain ⟨s1, o1, s2, o2, rfl, rfl⟩ := bk_slices hT1.1.1 hT1.1.2
 clear hb1 ka HE0 HR0 HB0 hT1
 obtain ⟨n1, hn1⟩ : ∃ n, Hid (c.js.length = n) := ⟨_, rfl⟩
 obtain ⟨n2, hn2⟩ : ∃ n, Hid (c.rs.length = n) := ⟨_, rfl⟩
 rw [hn1.out, hn2.out] at HT1 ⊢
 go_upto_region 2 with fail
 have HA0 : Aside ((w1.alloc (boxC c (.slice s1 n1 o1) (.slice s2 n2 o2))).drew.heap[w1.heap.size]? = some (boxC c (.slice s1 n1 o1) (.slice s2 n2 o2))) := heap_new _ _
 have HD0 : Aside (Below w1.heap.size w1 (w1.alloc (boxC c (.slice s1 n1 o1) (.slice s2 n2 o2))).drew) := (grew (Below.refl _ _) _).drew
 have hS0 : C5 (w1.alloc (boxC c (.slice s1 n1 o1) (.slice s2 n2 o2))).drew (w.heap.size + 1) x := c5_of (heap_old HE1.out _)
 have hne : w.heap.size + 1 ≠ w1.heap.size := by have := heap_lt HE1.out; omega
 refine wp_region_held_drew (S := fun w' => C5 w' (w.heap.size + 1) x) (by kernel_rfl) (hS0) (fun hHeld => ?_)
 clear hS0
 generalize (w1.alloc (boxC c (.slice s1 n1 o1) (.slice s2 n2 o2))).drew = X at *
 refine tk 0 (v := ?_) rfl (by kernel_rfl) (by rfl) (by assumption) (fun _ _ _ h => h) ?_ ?_
 rotate_left
 · intro w0 hSw; (try dsimp only at hSw); go_simp; first | done | with_reducible rfl
 try simp only [Act.put, qa, qb, qc]
 refine tk 1 (v := ?_) rfl (by kernel_rfl) (by rfl) (by assumption) (fun _ _ _ h => h) ?_ ?_
 rotate_left
 · intro w0 hSw; (try dsimp only at hSw); go_simp; first | done | with_reducible rfl
 try simp only [Act.put, qa, qb, qc]
 refine tk 2 (v := ?_) rfl (by kernel_rfl) (by rfl) (by assumption) (fun _ _ _ h => h) ?_ ?_
 rotate_left
 · intro w0 hSw; (try dsimp only at hSw); go_simp; first | done | with_reducible rfl
 try simp only [Act.put, qa, qb, qc]
 refine tk 3 (v := ?_) rfl (by kernel_rfl) (by rfl) (by assumption) (fun _ _ _ h => h) ?_ ?_
 rotate_left
 · intro w0 hSw; (try dsimp only at hSw); go_simp; first | done | with_reducible rfl
 try simp only [Act.put, qa, qb, qc]
 refine tk 4 (v := ?_) rfl (by kernel_rfl) (by rfl) (by assumption) (fun _ _ _ h => h) ?_ ?_
 rotate_left
 · intro w0 hSw; (try dsimp only at hSw); go_simp; first | done | with_reducible rfl
 try simp only [Act.put, qa, qb, qc]
 have z := fun i => Joins.cell_of_block HA0.out i
 have fz := fun i => Joins.unfrozen_of_block HA0.out i
 refine rdy 5 (by kernel_rfl) rfl (fun K hK => ?_)
 go_simp
 refine hK.out _ _ (c5_set hHeld hne 1 _) (fun hHeld => ?_)
 clear hK K
 try simp only [Act.put, qa, qb, qc]
 refine tk 6 (v := ?_) rfl (by kernel_rfl) (by rfl) (by assumption) (fun _ _ _ h => h) ?_ ?_
 rotate_left
 · intro w0 hSw; (try dsimp only at hSw); go_simp; first | done | with_reducible rfl
 try simp only [Act.put, qa, qb, qc]
 refine rdy 7 (by kernel_rfl) rfl (fun K hK => ?_)
 go_simp
 refine hK.out _ _ (c5_set (c5_set (c5_set (c5_set (c5_set (hHeld) hne 2 _) hne 3 _) hne 4 _) hne 5 _) hne 6 _) (fun hHeld => ?_)
 clear hK K
 try simp only [Act.put, qa, qb, qc]
 refine tk 8 (v := ?_) rfl (by kernel_rfl) (by rfl) (by assumption) (fun _ _ _ h => h) ?_ ?_
 rotate_left
 · intro w0 hSw; (try dsimp only at hSw); go_simp; first | done | with_reducible rfl
 try simp only [Act.put, qa, qb, qc]
 refine rdy 9 (by kernel_rfl) rfl (fun K hK => ?_)
 go_simp
 refine hK.out _ _ (c5_set hHeld hne 7 _) (fun hHeld => ?_)
 clear hK K
 try simp only [Act.put, qa, qb, qc]
 refine tk 10 (v := ?_) rfl (by kernel_rfl) (by rfl) (by assumption) (fun _ _ _ h => h) ?_ ?_
 rotate_left
 · intro w0 hSw; (try dsimp only at hSw); go_simp; first | done | with_reducible rfl
 try simp only [Act.put, qa, qb, qc]
 refine rdy 11 (by kernel_rfl) rfl (fun K hK => ?_)
 go_simp
 refine hK.out _ _ (c5_set hHeld hne 8 _) (fun hHeld => ?_)
 clear hK K
 try simp only [Act.put, qa, qb, qc]
 refine wpAnyH_done (by kernel_rfl) ?_ _
 have g0 := Joins.block_setCell HA0.out (i := 1) (.int .i64 what)
 have g1 := Joins.block_setCell g0 (i := 2) (.int .i64 x.k)
 have g2 := Joins.block_setCell g1 (i := 3) (.int .i64 x.j)
 have g3 := Joins.block_setCell g2 (i := 4) (.int .i64 x.v)
 have g4 := Joins.block_setCell g3 (i := 5) (.int .i64 x.t)
 have g5 := Joins.block_setCell g4 (i := 6) (.int .i64 x.c)
 have g6 := Joins.block_setCell g5 (i := 7) (.int .i64 q)
 have g7 := Joins.block_setCell g6 (i := 8) (.int .i64 l)
 simp only [List.setIfInBounds_toArray, List.set_cons_zero, List.set_cons_succ] at g7
 have HX6 : Aside (((((((((X.setCell ⟨w1.heap.size, 1, none⟩ (.int .i64 what)).setCell ⟨w1.heap.size, 2, none⟩ (.int .i64 x.k)).setCell ⟨w1.heap.size, 3, none⟩ (.int .i64 x.j)).setCell ⟨w1.heap.size, 4, none⟩ (.int .i64 x.v)).setCell ⟨w1.heap.size, 5, none⟩ (.int .i64 x.t)).setCell ⟨w1.heap.size, 6, none⟩ (.int .i64 x.c)).setCell ⟨w1.heap.size, 7, none⟩ (.int .i64 q)).setCell ⟨w1.heap.size, 8, none⟩ (.int .i64 l)).heap[w1.heap.size]? = some (boxC (⟨c.p, what, x, q, l, c.n, c.js, c.rs⟩ : Cl) (.slice s1 n1 o1) (.slice s2 n2 o2))) := g7
 have HD6 : Aside (Below w1.heap.size w1 ((((((((X.setCell ⟨w1.heap.size, 1, none⟩ (.int .i64 what)).setCell ⟨w1.heap.size, 2, none⟩ (.int .i64 x.k)).setCell ⟨w1.heap.size, 3, none⟩ (.int .i64 x.j)).setCell ⟨w1.heap.size, 4, none⟩ (.int .i64 x.v)).setCell ⟨w1.heap.size, 5, none⟩ (.int .i64 x.t)).setCell ⟨w1.heap.size, 6, none⟩ (.int .i64 x.c)).setCell ⟨w1.heap.size, 7, none⟩ (.int .i64 q)).setCell ⟨w1.heap.size, 8, none⟩ (.int .i64 l))) := ((((((((HD0.out).setCell (p := ⟨w1.heap.size, 1, none⟩) (Nat.le_refl _) _).setCell (p := ⟨w1.heap.size, 2, none⟩) (Nat.le_refl _) _).setCell (p := ⟨w1.heap.size, 3, none⟩) (Nat.le_refl _) _).setCell (p := ⟨w1.heap.size, 4, none⟩) (Nat.le_refl _) _).setCell (p := ⟨w1.heap.size, 5, none⟩) (Nat.le_refl _) _).setCell (p := ⟨w1.heap.size, 6, none⟩) (Nat.le_refl _) _).setCell (p := ⟨w1.heap.size, 7, none⟩) (Nat.le_refl _) _).setCell (p := ⟨w1.heap.size, 8, none⟩) (Nat.le_refl _) _
 clear g0 g1 g2 g3 g4 g5 g6 g7 HA0 HD0 z fz hHeld
 generalize ((((((((X.setCell ⟨w1.heap.size, 1, none⟩ (.int .i64 what)).setCell ⟨w1.heap.size, 2, none⟩ (.int .i64 x.k)).setCell ⟨w1.heap.size, 3, none⟩ (.int .i64 x.j)).setCell ⟨w1.heap.size, 4, none⟩ (.int .i64 x.v)).setCell ⟨w1.heap.size, 5, none⟩ (.int .i64 x.t)).setCell ⟨w1.heap.size, 6, none⟩ (.int .i64 x.c)).setCell ⟨w1.heap.size, 7, none⟩ (.int .i64 q)).setCell ⟨w1.heap.size, 8, none⟩ (.int .i64 l)) = w6 at *
 have HR6 : Aside _ := heap_below HR1.out HD6.out (heap_lt HR1.out)
 have HB6 : Aside _ := step_below HB1.out HD6.out
 have HT6 : Aside _ := bkT_later HT1.out HD6.out
 have z := fun i => Joins.cell_of_block HX6.out i
 have zr := fun i => Joins.cell_of_block HR6.out i
 have fzr := fun i => Joins.unfrozen_of_block HR6.out i
 clear HR1 HB1 HT1 HE1 HD6
 go_wp2
 refine ret1_st (p := 10) w6 (w.heap.size + 1 + 1) (⟨c.p, what, x, q, l, c.n, c.js, c.rs⟩ : Cl) (.slice s1 n1 o1) (.slice s2 n2 o2) (o := Cl.zero) (u1 := nil0) (u2 := nil0) Tryz.results171 rfl rfl HR6.out rfl ?_
 exact ⟨(.slice s1 n1 o1), (.slice s2 n2 o2), rfl, bkT_st12 ⟨_, HR6.out⟩ HT6.out _ _ _, st12_below HB6.out (by omega) _ _ _⟩
theorem infoN : (Tryz.prog.info? 49).map (fun i => (i.zero, i.size, i.bytes)) = some (some (.agg #[.int .i64 0, .slice none 0 0, .slice none 0 0, .slice none 0 0, .bool false]), 5, 88) := by kernel_rfl
theorem infoCl : (Tryz.prog.info? 41).map (fun i => (i.zero, i.size, i.bytes)) = some (some (Cl.zero.val nil0 nil0), 12, 128) := by kernel_rfl
theorem sizeN : (Tryz.prog.info? 49).map (·.size) = some 5 := by kernel_rfl
theorem sizeCl : (Tryz.prog.info? 41).map (·.size) = some 12 := by kernel_rfl
def Nb.sl (x : Nb) : Prop := (∃ a n c, x.vc = .slice a n c) ∧ (∃ a n c, x.vs = .slice a n c) ∧ ∃ a n c, x.vw = .slice a n c
def Cb.sl (x : Cb) : Prop := (∃ a n c, x.v1 = .slice a n c) ∧ ∃ a n c, x.v2 = .slice a n c
theorem NodeT.sl {w : World} {x : Nb} (h : NodeT w x) : x.sl := ⟨roomy_sl h.unit.room, roomy_sl h.disk.room1, roomy_sl h.disk.room2⟩
theorem clientT_sl {w : World} {x : Cb} (h : ClientT w x) : x.sl := ⟨slOf_sl h.1, slOf_sl h.2⟩
theorem oneN (es : List Nb) (h : ∀ x, x ∈ es → x.sl) : ∀ u ∈ es.flatMap Nb.cells, u.oneCell' = true := fun u hu => by
 obtain ⟨e, hm, he⟩ := List.mem_flatMap.1 hu
 obtain ⟨⟨_, _, _, e1⟩, ⟨_, _, _, e2⟩, ⟨_, _, _, e3⟩⟩ := h e hm
 simp only [Nb.cells, e1, e2, e3, List.mem_cons, List.not_mem_nil, or_false] at he
 rcases he with rfl | rfl | rfl | rfl | rfl <;> rfl
theorem oneCl (es : List Cb) (h : ∀ x, x ∈ es → x.sl) : ∀ u ∈ es.flatMap Cb.cells, u.oneCell' = true := fun u hu => by
 obtain ⟨e, hm, he⟩ := List.mem_flatMap.1 hu
 obtain ⟨⟨_, _, _, e1⟩, ⟨_, _, _, e2⟩⟩ := h e hm
 simp only [Cb.cells, e1, e2, List.mem_cons, List.not_mem_nil, or_false] at he
 rcases he with rfl | rfl | rfl | rfl | rfl | rfl | rfl | rfl | rfl | rfl | rfl | rfl <;> rfl
theorem wcopyJ (v : Value) (xs : List Jb) (w : World) (hv : SlOf Jb.cells 3 w v xs) (hn : xs.length ≤ 1000000) :
  Calls Tryz.prog 69 #[v] w fun e w' => ∃ g, e = .returned (.slice (some ⟨g, 0, none⟩) xs.length xs.length) ∧ w.heap.size ≤ g ∧ w'.heap[g]? = some (.cells (xs.flatMap Jb.cells).toArray 120) ∧ Below w.heap.size w w' := by
 obtain ⟨i0, hi, hz0, hz1, hz2⟩ := info_parts infoJ
 have H1 : Hid (SlOf Jb.cells 3 w v xs) := hv
 obtain ⟨a1, c1, rfl, _⟩ := hv
 obtain ⟨cs, hcs⟩ : ∃ cs, Hid (xs.flatMap Jb.cells = cs) := ⟨_, rfl⟩
 have hone : ∀ u ∈ cs, u.oneCell' = true := by rw [← hcs.out]; exact oneJ xs
 have hlen : cs.length = xs.length * 3 := by rw [← hcs.out]; exact row_len Jb.three xs
 rw [hcs.out]
 obtain ⟨n1, hn1⟩ : ∃ n1, xs.length = n1 := ⟨_, rfl⟩
 have L1 : Hid (xs.length = n1) := hn1
 rw [hn1] at H1 hn hlen ⊢
 clear hn1
 go_enter Tryz.func69, Tryz.ntmps69
 go_wp2_with (at_make; refine wpList_make_full _ rfl _ _ 36 rfl w.heap.size 120 i0 (valJ 0 0 0) 3 Tryz.underlying36 hi hz0 hz1 _ _ _ _ n1 rfl rfl rfl rfl (by rw [hz2]; omega) (by unfold maxLen; omega) (Nat.le_refl _) ?_)
 intro w1 hown hgrow
 obtain ⟨hl0, ho⟩ := hown
 rcases ho with ⟨h, _⟩ | ⟨g, cap, cur, hv', _, hg, _, _, hsz, htake⟩
 · cases h
 injection hv' with ha _ hc
 injection ha with ha
 injection ha with ha _ _
 subst ha hc
 have hB1 : Below w.heap.size w w1 := ⟨hgrow.os, hgrow.tape, hgrow.output, hgrow.size, fun k hk => hgrow.block k hk (fun h => by cases h)⟩
 have hcur : cur.toList.length = n1 * 3 := by simpa using hsz
 have hg' : w1.heap[w.heap.size]? = some (.cells cur.toList.toArray 120 (0, 0)) := by simpa using hg
 clear hi hz0 hz1 hz2 hl0 htake hgrow hg hsz
 have hpos : 0 < Nat.min n1 n1 → (some ⟨w.heap.size, 0, none⟩ : Option Addr) = some ⟨w.heap.size, 0, none⟩ ∧ ∃ ad, a1 = some ad ∧ ∀ j v, cs[j]? = some v → w1.cell? (ad.add j) = some v := fun h0 => by
  have h0' : 0 < n1 := by
   have : 0 < min n1 n1 := h0
   omega
  obtain ⟨b, off, rfl, hE⟩ := H1.out.at h0'
  refine ⟨rfl, _, rfl, fun j u hj => ?_⟩
  rw [Lib.add_plain]
  rw [← hcs.out] at hj
  exact rows_flat Jb.three xs off (hE.later hB1) j u hj
 have hmin : cs.length = Nat.min n1 n1 * 3 := by rw [hlen]; show _ = min n1 n1 * 3; rw [Nat.min_self]
 have hfit : 0 + cs.length ≤ cur.toList.length := by rw [hcur, hlen]; omega
 have hall := splice_all (hcur.trans hlen.symm)
 obtain ⟨cl, hcl⟩ : ∃ cl, Hid (cur.toList = cl) := ⟨_, rfl⟩
 rw [hcl.out] at hg' hfit hall
 have HALL : Hid (splice cl 0 cs = cs) := hall
 clear hcur hcl hall
 go_wp2_with ((with_reducible show wpList _ _ _ (Oper.mk (some 9) _ _ _ _ _ :: _) _ _); refine wpList_copyK rfl _ _ 36 36 rfl 120 3 Tryz.underlying36 sizeJ (some ⟨w.heap.size, 0, none⟩) a1 n1 n1 n1 c1 rfl rfl w.heap.size 0 cl 120 hg' cs hmin hpos hfit hone w.heap.size w hB1 (Nat.le_refl _) ?_)
 intro w2 hg2 hB2
 go_wp2
 go_ret
 rw [HALL.out] at hg2
 exact ⟨_, rfl, Nat.le_refl _, hg2.out, hB2⟩
theorem wcopyR (v : Value) (xs : List Rg) (w : World) (hv : SlOf Rg.cells 3 w v xs) (hn : xs.length ≤ 1000000) :
  Calls Tryz.prog 70 #[v] w fun e w' => ∃ g, e = .returned (.slice (some ⟨g, 0, none⟩) xs.length xs.length) ∧ w.heap.size ≤ g ∧ w'.heap[g]? = some (.cells (xs.flatMap Rg.cells).toArray 76) ∧ Below w.heap.size w w' := by
 obtain ⟨i0, hi, hz0, hz1, hz2⟩ := info_parts infoR
 have H1 : Hid (SlOf Rg.cells 3 w v xs) := hv
 obtain ⟨a1, c1, rfl, _⟩ := hv
 obtain ⟨cs, hcs⟩ : ∃ cs, Hid (xs.flatMap Rg.cells = cs) := ⟨_, rfl⟩
 have hone : ∀ u ∈ cs, u.oneCell' = true := by rw [← hcs.out]; exact oneR xs
 have hlen : cs.length = xs.length * 3 := by rw [← hcs.out]; exact row_len Rg.three xs
 rw [hcs.out]
 obtain ⟨n1, hn1⟩ : ∃ n1, xs.length = n1 := ⟨_, rfl⟩
 have L1 : Hid (xs.length = n1) := hn1
 rw [hn1] at H1 hn hlen ⊢
 clear hn1
 go_enter Tryz.func70, Tryz.ntmps70
 go_wp2_with (at_make; refine wpList_make_full _ rfl _ _ 37 rfl w.heap.size 76 i0 (valR 0 0 0) 3 Tryz.underlying37 hi hz0 hz1 _ _ _ _ n1 rfl rfl rfl rfl (by rw [hz2]; omega) (by unfold maxLen; omega) (Nat.le_refl _) ?_)
 intro w1 hown hgrow
 obtain ⟨hl0, ho⟩ := hown
 rcases ho with ⟨h, _⟩ | ⟨g, cap, cur, hv', _, hg, _, _, hsz, htake⟩
 · cases h
 injection hv' with ha _ hc
 injection ha with ha
 injection ha with ha _ _
 subst ha hc
 have hB1 : Below w.heap.size w w1 := ⟨hgrow.os, hgrow.tape, hgrow.output, hgrow.size, fun k hk => hgrow.block k hk (fun h => by cases h)⟩
 have hcur : cur.toList.length = n1 * 3 := by simpa using hsz
 have hg' : w1.heap[w.heap.size]? = some (.cells cur.toList.toArray 76 (0, 0)) := by simpa using hg
 clear hi hz0 hz1 hz2 hl0 htake hgrow hg hsz
 have hpos : 0 < Nat.min n1 n1 → (some ⟨w.heap.size, 0, none⟩ : Option Addr) = some ⟨w.heap.size, 0, none⟩ ∧ ∃ ad, a1 = some ad ∧ ∀ j v, cs[j]? = some v → w1.cell? (ad.add j) = some v := fun h0 => by
  have h0' : 0 < n1 := by
   have : 0 < min n1 n1 := h0
   omega
  obtain ⟨b, off, rfl, hE⟩ := H1.out.at h0'
  refine ⟨rfl, _, rfl, fun j u hj => ?_⟩
  rw [Lib.add_plain]
  rw [← hcs.out] at hj
  exact rows_flat Rg.three xs off (hE.later hB1) j u hj
 have hmin : cs.length = Nat.min n1 n1 * 3 := by rw [hlen]; show _ = min n1 n1 * 3; rw [Nat.min_self]
 have hfit : 0 + cs.length ≤ cur.toList.length := by rw [hcur, hlen]; omega
 have hall := splice_all (hcur.trans hlen.symm)
 obtain ⟨cl, hcl⟩ : ∃ cl, Hid (cur.toList = cl) := ⟨_, rfl⟩
 rw [hcl.out] at hg' hfit hall
 have HALL : Hid (splice cl 0 cs = cs) := hall
 clear hcur hcl hall
 go_wp2_with ((with_reducible show wpList _ _ _ (Oper.mk (some 9) _ _ _ _ _ :: _) _ _); refine wpList_copyK rfl _ _ 37 37 rfl 76 3 Tryz.underlying37 sizeR (some ⟨w.heap.size, 0, none⟩) a1 n1 n1 n1 c1 rfl rfl w.heap.size 0 cl 76 hg' cs hmin hpos hfit hone w.heap.size w hB1 (Nat.le_refl _) ?_)
 intro w2 hg2 hB2
 go_wp2
 go_ret
 rw [HALL.out] at hg2
 exact ⟨_, rfl, Nat.le_refl _, hg2.out, hB2⟩
theorem wcopyE (v : Value) (xs : List En) (w : World) (hv : SlOf En.cells 5 w v xs) (hn : xs.length ≤ 1000000) :
  Calls Tryz.prog 67 #[v] w fun e w' => ∃ g, e = .returned (.slice (some ⟨g, 0, none⟩) xs.length xs.length) ∧ w.heap.size ≤ g ∧ w'.heap[g]? = some (.cells (xs.flatMap En.cells).toArray 27) ∧ Below w.heap.size w w' := by
 obtain ⟨i0, hi, hz0, hz1, hz2⟩ := info_parts infoE
 have H1 : Hid (SlOf En.cells 5 w v xs) := hv
 obtain ⟨a1, c1, rfl, _⟩ := hv
 obtain ⟨cs, hcs⟩ : ∃ cs, Hid (xs.flatMap En.cells = cs) := ⟨_, rfl⟩
 have hone : ∀ u ∈ cs, u.oneCell' = true := by rw [← hcs.out]; exact oneE xs
 have hlen : cs.length = xs.length * 5 := by rw [← hcs.out]; exact row_len En.five xs
 rw [hcs.out]
 obtain ⟨n1, hn1⟩ : ∃ n1, xs.length = n1 := ⟨_, rfl⟩
 have L1 : Hid (xs.length = n1) := hn1
 rw [hn1] at H1 hn hlen ⊢
 clear hn1
 go_enter Tryz.func67, Tryz.ntmps67
 go_wp2_with (at_make; refine wpList_make_full _ rfl _ _ 42 rfl w.heap.size 27 i0 (ev 0 0 0 0 0) 5 Tryz.underlying42 hi hz0 hz1 _ _ _ _ n1 rfl rfl rfl rfl (by rw [hz2]; omega) (by unfold maxLen; omega) (Nat.le_refl _) ?_)
 intro w1 hown hgrow
 obtain ⟨hl0, ho⟩ := hown
 rcases ho with ⟨h, _⟩ | ⟨g, cap, cur, hv', _, hg, _, _, hsz, htake⟩
 · cases h
 injection hv' with ha _ hc
 injection ha with ha
 injection ha with ha _ _
 subst ha hc
 have hB1 : Below w.heap.size w w1 := ⟨hgrow.os, hgrow.tape, hgrow.output, hgrow.size, fun k hk => hgrow.block k hk (fun h => by cases h)⟩
 have hcur : cur.toList.length = n1 * 5 := by simpa using hsz
 have hg' : w1.heap[w.heap.size]? = some (.cells cur.toList.toArray 27 (0, 0)) := by simpa using hg
 clear hi hz0 hz1 hz2 hl0 htake hgrow hg hsz
 have hpos : 0 < Nat.min n1 n1 → (some ⟨w.heap.size, 0, none⟩ : Option Addr) = some ⟨w.heap.size, 0, none⟩ ∧ ∃ ad, a1 = some ad ∧ ∀ j v, cs[j]? = some v → w1.cell? (ad.add j) = some v := fun h0 => by
  have h0' : 0 < n1 := by
   have : 0 < min n1 n1 := h0
   omega
  obtain ⟨b, off, rfl, hE⟩ := H1.out.at h0'
  refine ⟨rfl, _, rfl, fun j u hj => ?_⟩
  rw [Lib.add_plain]
  rw [← hcs.out] at hj
  exact rows_flat En.five xs off (hE.later hB1) j u hj
 have hmin : cs.length = Nat.min n1 n1 * 5 := by rw [hlen]; show _ = min n1 n1 * 5; rw [Nat.min_self]
 have hfit : 0 + cs.length ≤ cur.toList.length := by rw [hcur, hlen]; omega
 have hall := splice_all (hcur.trans hlen.symm)
 obtain ⟨cl, hcl⟩ : ∃ cl, Hid (cur.toList = cl) := ⟨_, rfl⟩
 rw [hcl.out] at hg' hfit hall
 have HALL : Hid (splice cl 0 cs = cs) := hall
 clear hcur hcl hall
 go_wp2_with ((with_reducible show wpList _ _ _ (Oper.mk (some 9) _ _ _ _ _ :: _) _ _); refine wpList_copyK rfl _ _ 42 42 rfl 27 5 Tryz.underlying42 sizeE (some ⟨w.heap.size, 0, none⟩) a1 n1 n1 n1 c1 rfl rfl w.heap.size 0 cl 27 hg' cs hmin hpos hfit hone w.heap.size w hB1 (Nat.le_refl _) ?_)
 intro w2 hg2 hB2
 go_wp2
 go_ret
 rw [HALL.out] at hg2
 exact ⟨_, rfl, Nat.le_refl _, hg2.out, hB2⟩
theorem wcopyY (v : Value) (xs : List UInt8) (w : World) (hv : SlOf bt 1 w v xs) (hn : xs.length ≤ 1000000) :
  Calls Tryz.prog 68 #[v] w fun e w' => ∃ g, e = .returned (.slice (some ⟨g, 0, none⟩) xs.length xs.length) ∧ w.heap.size ≤ g ∧ w'.heap[g]? = some (.cells (xs.flatMap bt).toArray 5) ∧ Below w.heap.size w w' := by
 obtain ⟨i0, hi, hz0, hz1, hz2⟩ := info_parts infoY
 have H1 : Hid (SlOf bt 1 w v xs) := hv
 obtain ⟨a1, c1, rfl, _⟩ := hv
 obtain ⟨cs, hcs⟩ : ∃ cs, Hid (xs.flatMap bt = cs) := ⟨_, rfl⟩
 have hone : ∀ u ∈ cs, u.oneCell' = true := by rw [← hcs.out]; exact oneY xs
 have hlen : cs.length = xs.length * 1 := by rw [← hcs.out]; exact row_len bt_one xs
 rw [hcs.out]
 obtain ⟨n1, hn1⟩ : ∃ n1, xs.length = n1 := ⟨_, rfl⟩
 have L1 : Hid (xs.length = n1) := hn1
 rw [hn1] at H1 hn hlen ⊢
 clear hn1
 go_enter Tryz.func68, Tryz.ntmps68
 go_wp2_with (at_make; refine wpList_make_full _ rfl _ _ 45 rfl w.heap.size 5 i0 (.int .u8 0) 1 Tryz.underlying45 hi hz0 hz1 _ _ _ _ n1 rfl rfl rfl rfl (by rw [hz2]; omega) (by unfold maxLen; omega) (Nat.le_refl _) ?_)
 intro w1 hown hgrow
 obtain ⟨hl0, ho⟩ := hown
 rcases ho with ⟨h, _⟩ | ⟨g, cap, cur, hv', _, hg, _, _, hsz, htake⟩
 · cases h
 injection hv' with ha _ hc
 injection ha with ha
 injection ha with ha _ _
 subst ha hc
 have hB1 : Below w.heap.size w w1 := ⟨hgrow.os, hgrow.tape, hgrow.output, hgrow.size, fun k hk => hgrow.block k hk (fun h => by cases h)⟩
 have hcur : cur.toList.length = n1 * 1 := by simpa using hsz
 have hg' : w1.heap[w.heap.size]? = some (.cells cur.toList.toArray 5 (0, 0)) := by simpa using hg
 clear hi hz0 hz1 hz2 hl0 htake hgrow hg hsz
 have hpos : 0 < Nat.min n1 n1 → (some ⟨w.heap.size, 0, none⟩ : Option Addr) = some ⟨w.heap.size, 0, none⟩ ∧ ∃ ad, a1 = some ad ∧ ∀ j v, cs[j]? = some v → w1.cell? (ad.add j) = some v := fun h0 => by
  have h0' : 0 < n1 := by
   have : 0 < min n1 n1 := h0
   omega
  obtain ⟨b, off, rfl, hE⟩ := H1.out.at h0'
  refine ⟨rfl, _, rfl, fun j u hj => ?_⟩
  rw [Lib.add_plain]
  rw [← hcs.out] at hj
  exact rows_flat bt_one xs off (hE.later hB1) j u hj
 have hmin : cs.length = Nat.min n1 n1 * 1 := by rw [hlen]; show _ = min n1 n1 * 1; rw [Nat.min_self]
 have hfit : 0 + cs.length ≤ cur.toList.length := by rw [hcur, hlen]; omega
 have hall := splice_all (hcur.trans hlen.symm)
 obtain ⟨cl, hcl⟩ : ∃ cl, Hid (cur.toList = cl) := ⟨_, rfl⟩
 rw [hcl.out] at hg' hfit hall
 have HALL : Hid (splice cl 0 cs = cs) := hall
 clear hcur hcl hall
 go_wp2_with ((with_reducible show wpList _ _ _ (Oper.mk (some 9) _ _ _ _ _ :: _) _ _); refine wpList_copyK rfl _ _ 45 45 rfl 5 1 Tryz.underlying45 sizeY (some ⟨w.heap.size, 0, none⟩) a1 n1 n1 n1 c1 rfl rfl w.heap.size 0 cl 5 hg' cs hmin hpos hfit hone w.heap.size w hB1 (Nat.le_refl _) ?_)
 intro w2 hg2 hB2
 go_wp2
 go_ret
 rw [HALL.out] at hg2
 exact ⟨_, rfl, Nat.le_refl _, hg2.out, hB2⟩
theorem wcopyN (v : Value) (xs : List Nb) (w : World) (hv : SlOf Nb.cells 5 w v xs) (hn : xs.length ≤ 1000000) (hs : ∀ x, x ∈ xs → x.sl) :
  Calls Tryz.prog 65 #[v] w fun e w' => ∃ g, e = .returned (.slice (some ⟨g, 0, none⟩) xs.length xs.length) ∧ w.heap.size ≤ g ∧ w'.heap[g]? = some (.cells (xs.flatMap Nb.cells).toArray 49) ∧ Below w.heap.size w w' := by
 obtain ⟨i0, hi, hz0, hz1, hz2⟩ := info_parts infoN
 have H1 : Hid (SlOf Nb.cells 5 w v xs) := hv
 obtain ⟨a1, c1, rfl, _⟩ := hv
 obtain ⟨cs, hcs⟩ : ∃ cs, Hid (xs.flatMap Nb.cells = cs) := ⟨_, rfl⟩
 have hone : ∀ u ∈ cs, u.oneCell' = true := by rw [← hcs.out]; exact oneN xs hs
 have hlen : cs.length = xs.length * 5 := by rw [← hcs.out]; exact row_len Nb.five xs
 rw [hcs.out]
 obtain ⟨n1, hn1⟩ : ∃ n1, xs.length = n1 := ⟨_, rfl⟩
 have L1 : Hid (xs.length = n1) := hn1
 rw [hn1] at H1 hn hlen ⊢
 clear hn1 hs
 go_enter Tryz.func65, Tryz.ntmps65
 go_wp2_with (at_make; refine wpList_make_full _ rfl _ _ 22 rfl w.heap.size 49 i0 (.agg #[.int .i64 0, .slice none 0 0, .slice none 0 0, .slice none 0 0, .bool false]) 5 Tryz.underlying22 hi hz0 hz1 _ _ _ _ n1 rfl rfl rfl rfl (by rw [hz2]; omega) (by unfold maxLen; omega) (Nat.le_refl _) ?_)
 intro w1 hown hgrow
 obtain ⟨hl0, ho⟩ := hown
 rcases ho with ⟨h, _⟩ | ⟨g, cap, cur, hv', _, hg, _, _, hsz, htake⟩
 · cases h
 injection hv' with ha _ hc
 injection ha with ha
 injection ha with ha _ _
 subst ha hc
 have hB1 : Below w.heap.size w w1 := ⟨hgrow.os, hgrow.tape, hgrow.output, hgrow.size, fun k hk => hgrow.block k hk (fun h => by cases h)⟩
 have hcur : cur.toList.length = n1 * 5 := by simpa using hsz
 have hg' : w1.heap[w.heap.size]? = some (.cells cur.toList.toArray 49 (0, 0)) := by simpa using hg
 clear hi hz0 hz1 hz2 hl0 htake hgrow hg hsz
 have hpos : 0 < Nat.min n1 n1 → (some ⟨w.heap.size, 0, none⟩ : Option Addr) = some ⟨w.heap.size, 0, none⟩ ∧ ∃ ad, a1 = some ad ∧ ∀ j v, cs[j]? = some v → w1.cell? (ad.add j) = some v := fun h0 => by
  have h0' : 0 < n1 := by
   have : 0 < min n1 n1 := h0
   omega
  obtain ⟨b, off, rfl, hE⟩ := H1.out.at h0'
  refine ⟨rfl, _, rfl, fun j u hj => ?_⟩
  rw [Lib.add_plain]
  rw [← hcs.out] at hj
  exact rows_flat Nb.five xs off (hE.later hB1) j u hj
 have hmin : cs.length = Nat.min n1 n1 * 5 := by rw [hlen]; show _ = min n1 n1 * 5; rw [Nat.min_self]
 have hfit : 0 + cs.length ≤ cur.toList.length := by rw [hcur, hlen]; omega
 have hall := splice_all (hcur.trans hlen.symm)
 obtain ⟨cl, hcl⟩ : ∃ cl, Hid (cur.toList = cl) := ⟨_, rfl⟩
 rw [hcl.out] at hg' hfit hall
 have HALL : Hid (splice cl 0 cs = cs) := hall
 clear hcur hcl hall
 go_wp2_with ((with_reducible show wpList _ _ _ (Oper.mk (some 9) _ _ _ _ _ :: _) _ _); refine wpList_copyK rfl _ _ 22 22 rfl 49 5 Tryz.underlying22 sizeN (some ⟨w.heap.size, 0, none⟩) a1 n1 n1 n1 c1 rfl rfl w.heap.size 0 cl 49 hg' cs hmin hpos hfit hone w.heap.size w hB1 (Nat.le_refl _) ?_)
 intro w2 hg2 hB2
 go_wp2
 go_ret
 rw [HALL.out] at hg2
 exact ⟨_, rfl, Nat.le_refl _, hg2.out, hB2⟩
theorem wcopyC (v : Value) (xs : List Cb) (w : World) (hv : SlOf Cb.cells 12 w v xs) (hn : xs.length ≤ 1000000) (hs : ∀ x, x ∈ xs → x.sl) :
  Calls Tryz.prog 66 #[v] w fun e w' => ∃ g, e = .returned (.slice (some ⟨g, 0, none⟩) xs.length xs.length) ∧ w.heap.size ≤ g ∧ w'.heap[g]? = some (.cells (xs.flatMap Cb.cells).toArray 41) ∧ Below w.heap.size w w' := by
 obtain ⟨i0, hi, hz0, hz1, hz2⟩ := info_parts infoCl
 have H1 : Hid (SlOf Cb.cells 12 w v xs) := hv
 obtain ⟨a1, c1, rfl, _⟩ := hv
 obtain ⟨cs, hcs⟩ : ∃ cs, Hid (xs.flatMap Cb.cells = cs) := ⟨_, rfl⟩
 have hone : ∀ u ∈ cs, u.oneCell' = true := by rw [← hcs.out]; exact oneCl xs hs
 have hlen : cs.length = xs.length * 12 := by rw [← hcs.out]; exact row_len Cb.twelve xs
 rw [hcs.out]
 obtain ⟨n1, hn1⟩ : ∃ n1, xs.length = n1 := ⟨_, rfl⟩
 have L1 : Hid (xs.length = n1) := hn1
 rw [hn1] at H1 hn hlen ⊢
 clear hn1 hs
 go_enter Tryz.func66, Tryz.ntmps66
 go_wp2_with (at_make; refine wpList_make_full _ rfl _ _ 23 rfl w.heap.size 41 i0 (Cl.zero.val nil0 nil0) 12 Tryz.underlying23 hi hz0 hz1 _ _ _ _ n1 rfl rfl rfl rfl (by rw [hz2]; omega) (by unfold maxLen; omega) (Nat.le_refl _) ?_)
 intro w1 hown hgrow
 obtain ⟨hl0, ho⟩ := hown
 rcases ho with ⟨h, _⟩ | ⟨g, cap, cur, hv', _, hg, _, _, hsz, htake⟩
 · cases h
 injection hv' with ha _ hc
 injection ha with ha
 injection ha with ha _ _
 subst ha hc
 have hB1 : Below w.heap.size w w1 := ⟨hgrow.os, hgrow.tape, hgrow.output, hgrow.size, fun k hk => hgrow.block k hk (fun h => by cases h)⟩
 have hcur : cur.toList.length = n1 * 12 := by simpa using hsz
 have hg' : w1.heap[w.heap.size]? = some (.cells cur.toList.toArray 41 (0, 0)) := by simpa using hg
 clear hi hz0 hz1 hz2 hl0 htake hgrow hg hsz
 have hpos : 0 < Nat.min n1 n1 → (some ⟨w.heap.size, 0, none⟩ : Option Addr) = some ⟨w.heap.size, 0, none⟩ ∧ ∃ ad, a1 = some ad ∧ ∀ j v, cs[j]? = some v → w1.cell? (ad.add j) = some v := fun h0 => by
  have h0' : 0 < n1 := by
   have : 0 < min n1 n1 := h0
   omega
  obtain ⟨b, off, rfl, hE⟩ := H1.out.at h0'
  refine ⟨rfl, _, rfl, fun j u hj => ?_⟩
  rw [Lib.add_plain]
  rw [← hcs.out] at hj
  exact rows_flat Cb.twelve xs off (hE.later hB1) j u hj
 have hmin : cs.length = Nat.min n1 n1 * 12 := by rw [hlen]; show _ = min n1 n1 * 12; rw [Nat.min_self]
 have hfit : 0 + cs.length ≤ cur.toList.length := by rw [hcur, hlen]; omega
 have hall := splice_all (hcur.trans hlen.symm)
 obtain ⟨cl, hcl⟩ : ∃ cl, Hid (cur.toList = cl) := ⟨_, rfl⟩
 rw [hcl.out] at hg' hfit hall
 have HALL : Hid (splice cl 0 cs = cs) := hall
 clear hcur hcl hall
 go_wp2_with ((with_reducible show wpList _ _ _ (Oper.mk (some 9) _ _ _ _ _ :: _) _ _); refine wpList_copyK rfl _ _ 23 23 rfl 41 12 Tryz.underlying23 sizeCl (some ⟨w.heap.size, 0, none⟩) a1 n1 n1 n1 c1 rfl rfl w.heap.size 0 cl 41 hg' cs hmin hpos hfit hone w.heap.size w hB1 (Nat.le_refl _) ?_)
 intro w2 hg2 hB2
 go_wp2
 go_ret
 rw [HALL.out] at hg2
 exact ⟨_, rfl, Nat.le_refl _, hg2.out, hB2⟩
theorem zw_ck (c : Cl) (a1 a2 : Option Addr) (m1 k1 m2 k2 : Nat) (x : En) (w : World) (hb : BkAt w (.slice a1 m1 k1) (.slice a2 m2 k2) c) (d : Int) (hck : restErr c = d) (hz : (d != 0) = true) :
  AnsX 172 #[c.val (.slice a1 m1 k1) (.slice a2 m2 k2), x.val] w (Cl.zero, d) nil0 nil0 := by
 have HB0 : Aside (Below w.heap.size w (((w.alloc (boxC c (.slice a1 m1 k1) (.slice a2 m2 k2))).alloc (boxE x.k x.j x.v x.t x.c)).alloc (boxC Cl.zero nil0 nil0))) := grew (grew (grew (Below.refl _ _) _) _) _
 have HX0 : Aside ((((w.alloc (boxC c (.slice a1 m1 k1) (.slice a2 m2 k2))).alloc (boxE x.k x.j x.v x.t x.c)).alloc (boxC Cl.zero nil0 nil0)).heap[w.heap.size]? = some (boxC c (.slice a1 m1 k1) (.slice a2 m2 k2))) := heap_old (heap_old (heap_new _ _) _) _
 have HE0 : Aside ((((w.alloc (boxC c (.slice a1 m1 k1) (.slice a2 m2 k2))).alloc (boxE x.k x.j x.v x.t x.c)).alloc (boxC Cl.zero nil0 nil0)).heap[w.heap.size + 1]? = some (boxE x.k x.j x.v x.t x.c)) := by
  have := heap_new (w.alloc (boxC c (.slice a1 m1 k1) (.slice a2 m2 k2))) (boxE x.k x.j x.v x.t x.c)
  rw [World.size_alloc] at this
  exact heap_old (this) _
 have HR0 : Aside ((((w.alloc (boxC c (.slice a1 m1 k1) (.slice a2 m2 k2))).alloc (boxE x.k x.j x.v x.t x.c)).alloc (boxC Cl.zero nil0 nil0)).heap[w.heap.size + 1 + 1]? = some (boxC Cl.zero nil0 nil0)) := by
  have := heap_new ((w.alloc (boxC c (.slice a1 m1 k1) (.slice a2 m2 k2))).alloc (boxE x.k x.j x.v x.t x.c)) (boxC Cl.zero nil0 nil0)
  rw [World.size_alloc, World.size_alloc] at this
  exact this
 have kc := cl_rest c (.slice a1 m1 k1) (.slice a2 m2 k2) _ (bkAt_later hb HB0.out)
 rw [hck] at kc
 have HK : Aside (BkAt w (.slice a1 m1 k1) (.slice a2 m2 k2) c) := hb
 clear hb hck
 go_enter Tryz.func172, Tryz.ntmps172
 go_wp2_with fail
 refine kc.mono ?_
 rintro r w1 ⟨rfl, hb1⟩
 have HX1 : Aside _ := heap_below HX0.out hb1 (heap_lt HX0.out)
 have HE1 : Aside _ := heap_below HE0.out hb1 (heap_lt HE0.out)
 have HR1 : Aside _ := heap_below HR0.out hb1 (heap_lt HR0.out)
 have HB1 : Aside _ := step_below HB0.out hb1
 clear hb1 HB0 HX0 HE0 HR0
 clear kc
 have zr := fun i => Joins.cell_of_block HR1.out i
 have fzr := fun i => Joins.unfrozen_of_block HR1.out i
 go_wp2
 refine ret_st (p := 4) (q := 5) w1 (w.heap.size + 1 + 1) (Cl.zero) nil0 nil0 (o := Cl.zero) (u1 := nil0) (u2 := nil0) Tryz.results172 rfl rfl rfl HR1.out rfl ?_
 exact ⟨rfl, st12_below HB1.out (by omega) _ _ _⟩
theorem zw_ent (c : Cl) (a1 a2 : Option Addr) (m1 k1 m2 k2 : Nat) (x : En) (w : World) (hb : BkAt w (.slice a1 m1 k1) (.slice a2 m2 k2) c) (hck : restErr c = 0) (q : Int) (hx : x.chk = q) (hz : (q != 0) = true) :
  AnsX 172 #[c.val (.slice a1 m1 k1) (.slice a2 m2 k2), x.val] w (Cl.zero, q) nil0 nil0 := by
 have HB0 : Aside (Below w.heap.size w (((w.alloc (boxC c (.slice a1 m1 k1) (.slice a2 m2 k2))).alloc (boxE x.k x.j x.v x.t x.c)).alloc (boxC Cl.zero nil0 nil0))) := grew (grew (grew (Below.refl _ _) _) _) _
 have HX0 : Aside ((((w.alloc (boxC c (.slice a1 m1 k1) (.slice a2 m2 k2))).alloc (boxE x.k x.j x.v x.t x.c)).alloc (boxC Cl.zero nil0 nil0)).heap[w.heap.size]? = some (boxC c (.slice a1 m1 k1) (.slice a2 m2 k2))) := heap_old (heap_old (heap_new _ _) _) _
 have HE0 : Aside ((((w.alloc (boxC c (.slice a1 m1 k1) (.slice a2 m2 k2))).alloc (boxE x.k x.j x.v x.t x.c)).alloc (boxC Cl.zero nil0 nil0)).heap[w.heap.size + 1]? = some (boxE x.k x.j x.v x.t x.c)) := by
  have := heap_new (w.alloc (boxC c (.slice a1 m1 k1) (.slice a2 m2 k2))) (boxE x.k x.j x.v x.t x.c)
  rw [World.size_alloc] at this
  exact heap_old (this) _
 have HR0 : Aside ((((w.alloc (boxC c (.slice a1 m1 k1) (.slice a2 m2 k2))).alloc (boxE x.k x.j x.v x.t x.c)).alloc (boxC Cl.zero nil0 nil0)).heap[w.heap.size + 1 + 1]? = some (boxC Cl.zero nil0 nil0)) := by
  have := heap_new ((w.alloc (boxC c (.slice a1 m1 k1) (.slice a2 m2 k2))).alloc (boxE x.k x.j x.v x.t x.c)) (boxC Cl.zero nil0 nil0)
  rw [World.size_alloc, World.size_alloc] at this
  exact this
 have kc := cl_rest c (.slice a1 m1 k1) (.slice a2 m2 k2) _ (bkAt_later hb HB0.out)
 rw [hck] at kc
 have HK : Aside (BkAt w (.slice a1 m1 k1) (.slice a2 m2 k2) c) := hb
 clear hb hck
 have hce : ∀ W, Calls Tryz.prog 115 #[ev x.k x.j x.v x.t x.c] W fun e w' => e = .returned (.int .i64 x.chk) ∧ Below W.heap.size W w' := fun W => check_any x.k x.j x.v x.t x.c W
 rw [hx] at hce
 clear hx
 go_enter Tryz.func172, Tryz.ntmps172
 go_wp2_with fail
 refine kc.mono ?_
 rintro r w1 ⟨rfl, hb1⟩
 have HX1 : Aside _ := heap_below HX0.out hb1 (heap_lt HX0.out)
 have HE1 : Aside _ := heap_below HE0.out hb1 (heap_lt HE0.out)
 have HR1 : Aside _ := heap_below HR0.out hb1 (heap_lt HR0.out)
 have HB1 : Aside _ := step_below HB0.out hb1
 clear hb1 HB0 HX0 HE0 HR0
 clear kc
 have ze := fun i => Joins.cell_of_block HE1.out i
 go_wp2_with fail
 refine (hce _).mono ?_
 rintro r w2 ⟨rfl, hb2⟩
 have HX2 : Aside _ := heap_below HX1.out hb2 (heap_lt HX1.out)
 have HE2 : Aside _ := heap_below HE1.out hb2 (heap_lt HE1.out)
 have HR2 : Aside _ := heap_below HR1.out hb2 (heap_lt HR1.out)
 have HB2 : Aside _ := step_below HB1.out hb2
 clear hb2 HB1 HX1 HE1 HR1
 clear ze hce
 have zr := fun i => Joins.cell_of_block HR2.out i
 have fzr := fun i => Joins.unfrozen_of_block HR2.out i
 go_wp2
 refine ret_st (p := 4) (q := 5) w2 (w.heap.size + 1 + 1) (Cl.zero) nil0 nil0 (o := Cl.zero) (u1 := nil0) (u2 := nil0) Tryz.results172 rfl rfl rfl HR2.out rfl ?_
 exact ⟨rfl, st12_below HB2.out (by omega) _ _ _⟩
theorem zw_junk (c : Cl) (a1 a2 : Option Addr) (m1 k1 m2 k2 : Nat) (x : En) (w : World) (hb : BkAt w (.slice a1 m1 k1) (.slice a2 m2 k2) c) (hck : restErr c = 0) (hx : x.chk = 0) (hk : (x.k == 0) = true) :
  AnsX 172 #[c.val (.slice a1 m1 k1) (.slice a2 m2 k2), x.val] w (Cl.zero, 4) nil0 nil0 := by
 have HB0 : Aside (Below w.heap.size w (((w.alloc (boxC c (.slice a1 m1 k1) (.slice a2 m2 k2))).alloc (boxE x.k x.j x.v x.t x.c)).alloc (boxC Cl.zero nil0 nil0))) := grew (grew (grew (Below.refl _ _) _) _) _
 have HX0 : Aside ((((w.alloc (boxC c (.slice a1 m1 k1) (.slice a2 m2 k2))).alloc (boxE x.k x.j x.v x.t x.c)).alloc (boxC Cl.zero nil0 nil0)).heap[w.heap.size]? = some (boxC c (.slice a1 m1 k1) (.slice a2 m2 k2))) := heap_old (heap_old (heap_new _ _) _) _
 have HE0 : Aside ((((w.alloc (boxC c (.slice a1 m1 k1) (.slice a2 m2 k2))).alloc (boxE x.k x.j x.v x.t x.c)).alloc (boxC Cl.zero nil0 nil0)).heap[w.heap.size + 1]? = some (boxE x.k x.j x.v x.t x.c)) := by
  have := heap_new (w.alloc (boxC c (.slice a1 m1 k1) (.slice a2 m2 k2))) (boxE x.k x.j x.v x.t x.c)
  rw [World.size_alloc] at this
  exact heap_old (this) _
 have HR0 : Aside ((((w.alloc (boxC c (.slice a1 m1 k1) (.slice a2 m2 k2))).alloc (boxE x.k x.j x.v x.t x.c)).alloc (boxC Cl.zero nil0 nil0)).heap[w.heap.size + 1 + 1]? = some (boxC Cl.zero nil0 nil0)) := by
  have := heap_new ((w.alloc (boxC c (.slice a1 m1 k1) (.slice a2 m2 k2))).alloc (boxE x.k x.j x.v x.t x.c)) (boxC Cl.zero nil0 nil0)
  rw [World.size_alloc, World.size_alloc] at this
  exact this
 have kc := cl_rest c (.slice a1 m1 k1) (.slice a2 m2 k2) _ (bkAt_later hb HB0.out)
 rw [hck] at kc
 have HK : Aside (BkAt w (.slice a1 m1 k1) (.slice a2 m2 k2) c) := hb
 clear hb hck
 have hce : ∀ W, Calls Tryz.prog 115 #[ev x.k x.j x.v x.t x.c] W fun e w' => e = .returned (.int .i64 x.chk) ∧ Below W.heap.size W w' := fun W => check_any x.k x.j x.v x.t x.c W
 rw [hx] at hce
 clear hx
 have kj := fun W => junk_any x W
 rw [hk] at kj
 go_enter Tryz.func172, Tryz.ntmps172
 go_wp2_with fail
 refine kc.mono ?_
 rintro r w1 ⟨rfl, hb1⟩
 have HX1 : Aside _ := heap_below HX0.out hb1 (heap_lt HX0.out)
 have HE1 : Aside _ := heap_below HE0.out hb1 (heap_lt HE0.out)
 have HR1 : Aside _ := heap_below HR0.out hb1 (heap_lt HR0.out)
 have HB1 : Aside _ := step_below HB0.out hb1
 clear hb1 HB0 HX0 HE0 HR0
 clear kc
 have ze := fun i => Joins.cell_of_block HE1.out i
 go_wp2_with fail
 refine (hce _).mono ?_
 rintro r w2 ⟨rfl, hb2⟩
 have HX2 : Aside _ := heap_below HX1.out hb2 (heap_lt HX1.out)
 have HE2 : Aside _ := heap_below HE1.out hb2 (heap_lt HE1.out)
 have HR2 : Aside _ := heap_below HR1.out hb2 (heap_lt HR1.out)
 have HB2 : Aside _ := step_below HB1.out hb2
 clear hb2 HB1 HX1 HE1 HR1
 clear ze hce
 have ze := fun i => Joins.cell_of_block HE2.out i
 go_wp2_with fail
 refine (kj _).mono ?_
 rintro r w3 ⟨rfl, hb3⟩
 have HX3 : Aside _ := heap_below HX2.out hb3 (heap_lt HX2.out)
 have HE3 : Aside _ := heap_below HE2.out hb3 (heap_lt HE2.out)
 have HR3 : Aside _ := heap_below HR2.out hb3 (heap_lt HR2.out)
 have HB3 : Aside _ := step_below HB2.out hb3
 clear hb3 HB2 HX2 HE2 HR2
 clear ze kj
 have zr := fun i => Joins.cell_of_block HR3.out i
 have fzr := fun i => Joins.unfrozen_of_block HR3.out i
 go_wp2
 refine ret_st (p := 4) (q := 5) w3 (w.heap.size + 1 + 1) (Cl.zero) nil0 nil0 (o := Cl.zero) (u1 := nil0) (u2 := nil0) Tryz.results172 rfl rfl rfl HR3.out rfl ?_
 exact ⟨rfl, st12_below HB3.out (by omega) _ _ _⟩
theorem zw_ok (c : Cl) (a1 a2 : Option Addr) (m1 k1 m2 k2 : Nat) (x : En) (w : World) (hb : BkAt w (.slice a1 m1 k1) (.slice a2 m2 k2) c) (hck : restErr c = 0) (hx : x.chk = 0) (hk : (x.k == 0) = false) (hn1 : c.js.length ≤ 1000000) (hn2 : c.rs.length ≤ 1000000) :
  AnsT 172 #[c.val (.slice a1 m1 k1) (.slice a2 m2 k2), x.val] w ((⟨c.p, 1, x, 0, 0, c.n, c.js, c.rs⟩ : Cl), 0) := by
 have HB0 : Aside (Below w.heap.size w (((w.alloc (boxC c (.slice a1 m1 k1) (.slice a2 m2 k2))).alloc (boxE x.k x.j x.v x.t x.c)).alloc (boxC Cl.zero nil0 nil0))) := grew (grew (grew (Below.refl _ _) _) _) _
 have HX0 : Aside ((((w.alloc (boxC c (.slice a1 m1 k1) (.slice a2 m2 k2))).alloc (boxE x.k x.j x.v x.t x.c)).alloc (boxC Cl.zero nil0 nil0)).heap[w.heap.size]? = some (boxC c (.slice a1 m1 k1) (.slice a2 m2 k2))) := heap_old (heap_old (heap_new _ _) _) _
 have HE0 : Aside ((((w.alloc (boxC c (.slice a1 m1 k1) (.slice a2 m2 k2))).alloc (boxE x.k x.j x.v x.t x.c)).alloc (boxC Cl.zero nil0 nil0)).heap[w.heap.size + 1]? = some (boxE x.k x.j x.v x.t x.c)) := by
  have := heap_new (w.alloc (boxC c (.slice a1 m1 k1) (.slice a2 m2 k2))) (boxE x.k x.j x.v x.t x.c)
  rw [World.size_alloc] at this
  exact heap_old (this) _
 have HR0 : Aside ((((w.alloc (boxC c (.slice a1 m1 k1) (.slice a2 m2 k2))).alloc (boxE x.k x.j x.v x.t x.c)).alloc (boxC Cl.zero nil0 nil0)).heap[w.heap.size + 1 + 1]? = some (boxC Cl.zero nil0 nil0)) := by
  have := heap_new ((w.alloc (boxC c (.slice a1 m1 k1) (.slice a2 m2 k2))).alloc (boxE x.k x.j x.v x.t x.c)) (boxC Cl.zero nil0 nil0)
  rw [World.size_alloc, World.size_alloc] at this
  exact this
 have kc := cl_rest c (.slice a1 m1 k1) (.slice a2 m2 k2) _ (bkAt_later hb HB0.out)
 have kd : ∀ W, Below w.heap.size w W → Calls Tryz.prog 171 #[c.val (.slice a1 m1 k1) (.slice a2 m2 k2), .int .i64 1, x.val, .int .i64 0, .int .i64 0] W fun e w' => ∃ u1 u2, e = .returned ((⟨c.p, 1, x, 0, 0, c.n, c.js, c.rs⟩ : Cl).val u1 u2) ∧ BkT w' u1 u2 c ∧ Below W.heap.size W w' := fun W hB => cl_doing c x 1 0 0 a1 a2 m1 k1 m2 k2 W (bkAt_later hb hB) hn1 hn2
 clear hn1 hn2
 rw [hck] at kc
 have HK : Aside (BkAt w (.slice a1 m1 k1) (.slice a2 m2 k2) c) := hb
 clear hb hck
 have hce : ∀ W, Calls Tryz.prog 115 #[ev x.k x.j x.v x.t x.c] W fun e w' => e = .returned (.int .i64 x.chk) ∧ Below W.heap.size W w' := fun W => check_any x.k x.j x.v x.t x.c W
 rw [hx] at hce
 clear hx
 have kj := fun W => junk_any x W
 rw [hk] at kj
 go_enter Tryz.func172, Tryz.ntmps172
 go_wp2_with fail
 refine kc.mono ?_
 rintro r w1 ⟨rfl, hb1⟩
 have HX1 : Aside _ := heap_below HX0.out hb1 (heap_lt HX0.out)
 have HE1 : Aside _ := heap_below HE0.out hb1 (heap_lt HE0.out)
 have HR1 : Aside _ := heap_below HR0.out hb1 (heap_lt HR0.out)
 have HB1 : Aside _ := step_below HB0.out hb1
 clear hb1 HB0 HX0 HE0 HR0
 clear kc
 have ze := fun i => Joins.cell_of_block HE1.out i
 go_wp2_with fail
 refine (hce _).mono ?_
 rintro r w2 ⟨rfl, hb2⟩
 have HX2 : Aside _ := heap_below HX1.out hb2 (heap_lt HX1.out)
 have HE2 : Aside _ := heap_below HE1.out hb2 (heap_lt HE1.out)
 have HR2 : Aside _ := heap_below HR1.out hb2 (heap_lt HR1.out)
 have HB2 : Aside _ := step_below HB1.out hb2
 clear hb2 HB1 HX1 HE1 HR1
 clear ze hce
 have ze := fun i => Joins.cell_of_block HE2.out i
 go_wp2_with fail
 refine (kj _).mono ?_
 rintro r w3 ⟨rfl, hb3⟩
 have HX3 : Aside _ := heap_below HX2.out hb3 (heap_lt HX2.out)
 have HE3 : Aside _ := heap_below HE2.out hb3 (heap_lt HE2.out)
 have HR3 : Aside _ := heap_below HR2.out hb3 (heap_lt HR2.out)
 have HB3 : Aside _ := step_below HB2.out hb3
 clear hb3 HB2 HX2 HE2 HR2
 clear ze kj
 have z := fun i => Joins.cell_of_block HX3.out i
 have ze := fun i => Joins.cell_of_block HE3.out i
 go_wp2_with fail
 refine (kd w3 HB3.out).mono ?_
 rintro r w4 ⟨u1, u2, rfl, hT4, hb4⟩
 have HR4 : Aside _ := heap_below HR3.out hb4 (heap_lt HR3.out)
 have HB4 : Aside _ := step_below HB3.out hb4
 have HT4 : Aside (BkT w4 u1 u2 c) := hT4
 obtain ⟨s1, o1, s2, o2, rfl, rfl⟩ := bk_slices hT4.1.1 hT4.1.2
 clear hb4 kd HB3 HR3 hT4
 obtain ⟨n1, hn1⟩ : ∃ n, Hid (c.js.length = n) := ⟨_, rfl⟩
 obtain ⟨n2, hn2⟩ : ∃ n, Hid (c.rs.length = n) := ⟨_, rfl⟩
 rw [hn1.out, hn2.out] at HT4 ⊢
 clear z ze
 have zr := fun i => Joins.cell_of_block HR4.out i
 have fzr := fun i => Joins.unfrozen_of_block HR4.out i
 go_wp2
 refine ret_st (p := 4) (q := 5) w4 (w.heap.size + 1 + 1) ((⟨c.p, 1, x, 0, 0, c.n, c.js, c.rs⟩ : Cl)) (.slice s1 n1 o1) (.slice s2 n2 o2) (o := Cl.zero) (u1 := nil0) (u2 := nil0) Tryz.results172 rfl rfl rfl HR4.out rfl ?_
 exact ⟨(.slice s1 n1 o1), (.slice s2 n2 o2), rfl, bkT_st12 ⟨_, HR4.out⟩ (bkT_cong HT4.out rfl rfl) _ _ _, st12_below HB4.out (by omega) _ _ _⟩
theorem zp_ck (c : Cl) (a1 a2 : Option Addr) (m1 k1 m2 k2 : Nat) (q : Int) (w : World) (hb : BkAt w (.slice a1 m1 k1) (.slice a2 m2 k2) c) (d : Int) (hck : c.ck = d) (hz : (d != 0) = true) :
  AnsX 177 #[c.val (.slice a1 m1 k1) (.slice a2 m2 k2), .int .i64 q] w (Cl.zero, d) nil0 nil0 := by
 have HB0 : Aside (Below w.heap.size w ((w.alloc (boxC c (.slice a1 m1 k1) (.slice a2 m2 k2))).alloc (boxC Cl.zero nil0 nil0))) := grew (grew (Below.refl _ _) _) _
 have HX0 : Aside (((w.alloc (boxC c (.slice a1 m1 k1) (.slice a2 m2 k2))).alloc (boxC Cl.zero nil0 nil0)).heap[w.heap.size]? = some (boxC c (.slice a1 m1 k1) (.slice a2 m2 k2))) := heap_old (heap_new _ _) _
 have HR0 : Aside (((w.alloc (boxC c (.slice a1 m1 k1) (.slice a2 m2 k2))).alloc (boxC Cl.zero nil0 nil0)).heap[w.heap.size + 1]? = some (boxC Cl.zero nil0 nil0)) := by
  have := heap_new (w.alloc (boxC c (.slice a1 m1 k1) (.slice a2 m2 k2))) (boxC Cl.zero nil0 nil0)
  rw [World.size_alloc] at this
  exact this
 have kc := cl_check c (.slice a1 m1 k1) (.slice a2 m2 k2) _ (bkAt_later hb HB0.out)
 rw [hck] at kc
 have HK : Aside (BkAt w (.slice a1 m1 k1) (.slice a2 m2 k2) c) := hb
 clear hb hck
 go_enter Tryz.func177, Tryz.ntmps177
 go_wp2_with fail
 refine kc.mono ?_
 rintro r w1 ⟨rfl, hb1⟩
 have HX1 : Aside _ := heap_below HX0.out hb1 (heap_lt HX0.out)
 have HR1 : Aside _ := heap_below HR0.out hb1 (heap_lt HR0.out)
 have HB1 : Aside _ := step_below HB0.out hb1
 clear hb1 HB0 HX0 HR0
 clear kc
 have zr := fun i => Joins.cell_of_block HR1.out i
 have fzr := fun i => Joins.unfrozen_of_block HR1.out i
 go_wp2
 refine ret_st (p := 4) (q := 5) w1 (w.heap.size + 1) (Cl.zero) nil0 nil0 (o := Cl.zero) (u1 := nil0) (u2 := nil0) Tryz.results177 rfl rfl rfl HR1.out rfl ?_
 exact ⟨rfl, st12_below HB1.out (by omega) _ _ _⟩
theorem zp_late (c : Cl) (a1 a2 : Option Addr) (m1 k1 m2 k2 : Nat) (q : Int) (w : World) (hb : BkAt w (.slice a1 m1 k1) (.slice a2 m2 k2) c) (hck : c.ck = 0) (hd : (c.d != 1) = true) :
  AnsX 177 #[c.val (.slice a1 m1 k1) (.slice a2 m2 k2), .int .i64 q] w (Cl.zero, 7) nil0 nil0 := by
 have HB0 : Aside (Below w.heap.size w ((w.alloc (boxC c (.slice a1 m1 k1) (.slice a2 m2 k2))).alloc (boxC Cl.zero nil0 nil0))) := grew (grew (Below.refl _ _) _) _
 have HX0 : Aside (((w.alloc (boxC c (.slice a1 m1 k1) (.slice a2 m2 k2))).alloc (boxC Cl.zero nil0 nil0)).heap[w.heap.size]? = some (boxC c (.slice a1 m1 k1) (.slice a2 m2 k2))) := heap_old (heap_new _ _) _
 have HR0 : Aside (((w.alloc (boxC c (.slice a1 m1 k1) (.slice a2 m2 k2))).alloc (boxC Cl.zero nil0 nil0)).heap[w.heap.size + 1]? = some (boxC Cl.zero nil0 nil0)) := by
  have := heap_new (w.alloc (boxC c (.slice a1 m1 k1) (.slice a2 m2 k2))) (boxC Cl.zero nil0 nil0)
  rw [World.size_alloc] at this
  exact this
 have kc := cl_check c (.slice a1 m1 k1) (.slice a2 m2 k2) _ (bkAt_later hb HB0.out)
 rw [hck] at kc
 have HK : Aside (BkAt w (.slice a1 m1 k1) (.slice a2 m2 k2) c) := hb
 clear hb hck
 go_enter Tryz.func177, Tryz.ntmps177
 go_wp2_with fail
 refine kc.mono ?_
 rintro r w1 ⟨rfl, hb1⟩
 have HX1 : Aside _ := heap_below HX0.out hb1 (heap_lt HX0.out)
 have HR1 : Aside _ := heap_below HR0.out hb1 (heap_lt HR0.out)
 have HB1 : Aside _ := step_below HB0.out hb1
 clear hb1 HB0 HX0 HR0
 clear kc
 have z := fun i => Joins.cell_of_block HX1.out i
 have zr := fun i => Joins.cell_of_block HR1.out i
 have fzr := fun i => Joins.unfrozen_of_block HR1.out i
 go_wp2
 refine ret_st (p := 4) (q := 5) w1 (w.heap.size + 1) (Cl.zero) nil0 nil0 (o := Cl.zero) (u1 := nil0) (u2 := nil0) Tryz.results177 rfl rfl rfl HR1.out rfl ?_
 exact ⟨rfl, st12_below HB1.out (by omega) _ _ _⟩
theorem zp_who (c : Cl) (a1 a2 : Option Addr) (m1 k1 m2 k2 : Nat) (q : Int) (w : World) (hb : BkAt w (.slice a1 m1 k1) (.slice a2 m2 k2) c) (hck : c.ck = 0) (hd : (c.d != 1) = false) (h0 : ¬ (0 ≤ q ∧ q ≤ 59)) :
  AnsX 177 #[c.val (.slice a1 m1 k1) (.slice a2 m2 k2), .int .i64 q] w (Cl.zero, 5) nil0 nil0 := by
 have HB0 : Aside (Below w.heap.size w ((w.alloc (boxC c (.slice a1 m1 k1) (.slice a2 m2 k2))).alloc (boxC Cl.zero nil0 nil0))) := grew (grew (Below.refl _ _) _) _
 have HX0 : Aside (((w.alloc (boxC c (.slice a1 m1 k1) (.slice a2 m2 k2))).alloc (boxC Cl.zero nil0 nil0)).heap[w.heap.size]? = some (boxC c (.slice a1 m1 k1) (.slice a2 m2 k2))) := heap_old (heap_new _ _) _
 have HR0 : Aside (((w.alloc (boxC c (.slice a1 m1 k1) (.slice a2 m2 k2))).alloc (boxC Cl.zero nil0 nil0)).heap[w.heap.size + 1]? = some (boxC Cl.zero nil0 nil0)) := by
  have := heap_new (w.alloc (boxC c (.slice a1 m1 k1) (.slice a2 m2 k2))) (boxC Cl.zero nil0 nil0)
  rw [World.size_alloc] at this
  exact this
 have kc := cl_check c (.slice a1 m1 k1) (.slice a2 m2 k2) _ (bkAt_later hb HB0.out)
 rw [hck] at kc
 have HK : Aside (BkAt w (.slice a1 m1 k1) (.slice a2 m2 k2) c) := hb
 clear hb hck
 have hin := fun W => cplace_any q W
 rw [decide_eq_false h0] at hin
 clear h0
 go_enter Tryz.func177, Tryz.ntmps177
 go_wp2_with fail
 refine kc.mono ?_
 rintro r w1 ⟨rfl, hb1⟩
 have HX1 : Aside _ := heap_below HX0.out hb1 (heap_lt HX0.out)
 have HR1 : Aside _ := heap_below HR0.out hb1 (heap_lt HR0.out)
 have HB1 : Aside _ := step_below HB0.out hb1
 clear hb1 HB0 HX0 HR0
 clear kc
 have z := fun i => Joins.cell_of_block HX1.out i
 go_wp2_with fail
 refine (hin _).mono ?_
 rintro r wx ⟨rfl, hwx⟩
 obtain rfl : w1 = wx := hwx.symm
 have zr := fun i => Joins.cell_of_block HR1.out i
 have fzr := fun i => Joins.unfrozen_of_block HR1.out i
 go_wp2
 refine ret_st (p := 4) (q := 5) w1 (w.heap.size + 1) (Cl.zero) nil0 nil0 (o := Cl.zero) (u1 := nil0) (u2 := nil0) Tryz.results177 rfl rfl rfl HR1.out rfl ?_
 exact ⟨rfl, st12_below HB1.out (by omega) _ _ _⟩
theorem zp_ok (c : Cl) (a1 a2 : Option Addr) (m1 k1 m2 k2 : Nat) (q : Int) (w : World) (hb : BkAt w (.slice a1 m1 k1) (.slice a2 m2 k2) c) (hck : c.ck = 0) (hd : (c.d != 1) = false) (h0 : 0 ≤ q ∧ q ≤ 59) (hn1 : c.js.length ≤ 1000000) (hn2 : c.rs.length ≤ 1000000) :
  AnsT 177 #[c.val (.slice a1 m1 k1) (.slice a2 m2 k2), .int .i64 q] w ((⟨c.p, 2, c.e, q, 0, c.n, c.js, c.rs⟩ : Cl), 0) := by
 have HB0 : Aside (Below w.heap.size w ((w.alloc (boxC c (.slice a1 m1 k1) (.slice a2 m2 k2))).alloc (boxC Cl.zero nil0 nil0))) := grew (grew (Below.refl _ _) _) _
 have HX0 : Aside (((w.alloc (boxC c (.slice a1 m1 k1) (.slice a2 m2 k2))).alloc (boxC Cl.zero nil0 nil0)).heap[w.heap.size]? = some (boxC c (.slice a1 m1 k1) (.slice a2 m2 k2))) := heap_old (heap_new _ _) _
 have HR0 : Aside (((w.alloc (boxC c (.slice a1 m1 k1) (.slice a2 m2 k2))).alloc (boxC Cl.zero nil0 nil0)).heap[w.heap.size + 1]? = some (boxC Cl.zero nil0 nil0)) := by
  have := heap_new (w.alloc (boxC c (.slice a1 m1 k1) (.slice a2 m2 k2))) (boxC Cl.zero nil0 nil0)
  rw [World.size_alloc] at this
  exact this
 have kc := cl_check c (.slice a1 m1 k1) (.slice a2 m2 k2) _ (bkAt_later hb HB0.out)
 have kd : ∀ W, Below w.heap.size w W → Calls Tryz.prog 171 #[c.val (.slice a1 m1 k1) (.slice a2 m2 k2), .int .i64 2, c.e.val, .int .i64 q, .int .i64 0] W fun e w' => ∃ u1 u2, e = .returned ((⟨c.p, 2, c.e, q, 0, c.n, c.js, c.rs⟩ : Cl).val u1 u2) ∧ BkT w' u1 u2 c ∧ Below W.heap.size W w' := fun W hB => cl_doing c c.e 2 q 0 a1 a2 m1 k1 m2 k2 W (bkAt_later hb hB) hn1 hn2
 clear hn1 hn2
 rw [hck] at kc
 have HK : Aside (BkAt w (.slice a1 m1 k1) (.slice a2 m2 k2) c) := hb
 clear hb hck
 have hin := fun W => cplace_any q W
 rw [decide_eq_true h0] at hin
 clear h0
 go_enter Tryz.func177, Tryz.ntmps177
 go_wp2_with fail
 refine kc.mono ?_
 rintro r w1 ⟨rfl, hb1⟩
 have HX1 : Aside _ := heap_below HX0.out hb1 (heap_lt HX0.out)
 have HR1 : Aside _ := heap_below HR0.out hb1 (heap_lt HR0.out)
 have HB1 : Aside _ := step_below HB0.out hb1
 clear hb1 HB0 HX0 HR0
 clear kc
 have z := fun i => Joins.cell_of_block HX1.out i
 go_wp2_with fail
 refine (hin _).mono ?_
 rintro r wx ⟨rfl, hwx⟩
 obtain rfl : w1 = wx := hwx.symm
 go_wp2_with fail
 refine (kd w1 HB1.out).mono ?_
 rintro r w2 ⟨u1, u2, rfl, hT2, hb2⟩
 have HR2 : Aside _ := heap_below HR1.out hb2 (heap_lt HR1.out)
 have HB2 : Aside _ := step_below HB1.out hb2
 have HT2 : Aside (BkT w2 u1 u2 c) := hT2
 obtain ⟨s1, o1, s2, o2, rfl, rfl⟩ := bk_slices hT2.1.1 hT2.1.2
 clear hb2 kd HB1 HR1 hT2
 obtain ⟨n1, hn1⟩ : ∃ n, Hid (c.js.length = n) := ⟨_, rfl⟩
 obtain ⟨n2, hn2⟩ : ∃ n, Hid (c.rs.length = n) := ⟨_, rfl⟩
 rw [hn1.out, hn2.out] at HT2 ⊢
 clear z
 have zr := fun i => Joins.cell_of_block HR2.out i
 have fzr := fun i => Joins.unfrozen_of_block HR2.out i
 go_wp2
 refine ret_st (p := 4) (q := 5) w2 (w.heap.size + 1) ((⟨c.p, 2, c.e, q, 0, c.n, c.js, c.rs⟩ : Cl)) (.slice s1 n1 o1) (.slice s2 n2 o2) (o := Cl.zero) (u1 := nil0) (u2 := nil0) Tryz.results177 rfl rfl rfl HR2.out rfl ?_
 exact ⟨(.slice s1 n1 o1), (.slice s2 n2 o2), rfl, bkT_st12 ⟨_, HR2.out⟩ (bkT_cong HT2.out rfl rfl) _ _ _, st12_below HB2.out (by omega) _ _ _⟩
theorem zf_ck (c : Cl) (a1 a2 : Option Addr) (m1 k1 m2 k2 : Nat) (q : Int) (w : World) (hb : BkAt w (.slice a1 m1 k1) (.slice a2 m2 k2) c) (d : Int) (hck : restErr c = d) (hz : (d != 0) = true) :
  AnsX 140 #[c.val (.slice a1 m1 k1) (.slice a2 m2 k2), .int .i64 q] w (Cl.zero, d) nil0 nil0 := by
 have HB0 : Aside (Below w.heap.size w ((w.alloc (boxC c (.slice a1 m1 k1) (.slice a2 m2 k2))).alloc (boxC Cl.zero nil0 nil0))) := grew (grew (Below.refl _ _) _) _
 have HX0 : Aside (((w.alloc (boxC c (.slice a1 m1 k1) (.slice a2 m2 k2))).alloc (boxC Cl.zero nil0 nil0)).heap[w.heap.size]? = some (boxC c (.slice a1 m1 k1) (.slice a2 m2 k2))) := heap_old (heap_new _ _) _
 have HR0 : Aside (((w.alloc (boxC c (.slice a1 m1 k1) (.slice a2 m2 k2))).alloc (boxC Cl.zero nil0 nil0)).heap[w.heap.size + 1]? = some (boxC Cl.zero nil0 nil0)) := by
  have := heap_new (w.alloc (boxC c (.slice a1 m1 k1) (.slice a2 m2 k2))) (boxC Cl.zero nil0 nil0)
  rw [World.size_alloc] at this
  exact this
 have kc := cl_rest c (.slice a1 m1 k1) (.slice a2 m2 k2) _ (bkAt_later hb HB0.out)
 rw [hck] at kc
 have HK : Aside (BkAt w (.slice a1 m1 k1) (.slice a2 m2 k2) c) := hb
 clear hb hck
 go_enter Tryz.func140, Tryz.ntmps140
 go_wp2_with fail
 refine kc.mono ?_
 rintro r w1 ⟨rfl, hb1⟩
 have HX1 : Aside _ := heap_below HX0.out hb1 (heap_lt HX0.out)
 have HR1 : Aside _ := heap_below HR0.out hb1 (heap_lt HR0.out)
 have HB1 : Aside _ := step_below HB0.out hb1
 clear hb1 HB0 HX0 HR0
 clear kc
 have zr := fun i => Joins.cell_of_block HR1.out i
 have fzr := fun i => Joins.unfrozen_of_block HR1.out i
 go_wp2
 refine ret_st (p := 4) (q := 5) w1 (w.heap.size + 1) (Cl.zero) nil0 nil0 (o := Cl.zero) (u1 := nil0) (u2 := nil0) Tryz.results140 rfl rfl rfl HR1.out rfl ?_
 exact ⟨rfl, st12_below HB1.out (by omega) _ _ _⟩
theorem zf_who (c : Cl) (a1 a2 : Option Addr) (m1 k1 m2 k2 : Nat) (q : Int) (w : World) (hb : BkAt w (.slice a1 m1 k1) (.slice a2 m2 k2) c) (hck : restErr c = 0) (h0 : ¬ (0 ≤ q ∧ q ≤ 59)) :
  AnsX 140 #[c.val (.slice a1 m1 k1) (.slice a2 m2 k2), .int .i64 q] w (Cl.zero, 5) nil0 nil0 := by
 have HB0 : Aside (Below w.heap.size w ((w.alloc (boxC c (.slice a1 m1 k1) (.slice a2 m2 k2))).alloc (boxC Cl.zero nil0 nil0))) := grew (grew (Below.refl _ _) _) _
 have HX0 : Aside (((w.alloc (boxC c (.slice a1 m1 k1) (.slice a2 m2 k2))).alloc (boxC Cl.zero nil0 nil0)).heap[w.heap.size]? = some (boxC c (.slice a1 m1 k1) (.slice a2 m2 k2))) := heap_old (heap_new _ _) _
 have HR0 : Aside (((w.alloc (boxC c (.slice a1 m1 k1) (.slice a2 m2 k2))).alloc (boxC Cl.zero nil0 nil0)).heap[w.heap.size + 1]? = some (boxC Cl.zero nil0 nil0)) := by
  have := heap_new (w.alloc (boxC c (.slice a1 m1 k1) (.slice a2 m2 k2))) (boxC Cl.zero nil0 nil0)
  rw [World.size_alloc] at this
  exact this
 have kc := cl_rest c (.slice a1 m1 k1) (.slice a2 m2 k2) _ (bkAt_later hb HB0.out)
 rw [hck] at kc
 have HK : Aside (BkAt w (.slice a1 m1 k1) (.slice a2 m2 k2) c) := hb
 clear hb hck
 have hin := fun W => cplace_any q W
 rw [decide_eq_false h0] at hin
 clear h0
 go_enter Tryz.func140, Tryz.ntmps140
 go_wp2_with fail
 refine kc.mono ?_
 rintro r w1 ⟨rfl, hb1⟩
 have HX1 : Aside _ := heap_below HX0.out hb1 (heap_lt HX0.out)
 have HR1 : Aside _ := heap_below HR0.out hb1 (heap_lt HR0.out)
 have HB1 : Aside _ := step_below HB0.out hb1
 clear hb1 HB0 HX0 HR0
 clear kc
 go_wp2_with fail
 refine (hin _).mono ?_
 rintro r wx ⟨rfl, hwx⟩
 obtain rfl : w1 = wx := hwx.symm
 have zr := fun i => Joins.cell_of_block HR1.out i
 have fzr := fun i => Joins.unfrozen_of_block HR1.out i
 go_wp2
 refine ret_st (p := 4) (q := 5) w1 (w.heap.size + 1) (Cl.zero) nil0 nil0 (o := Cl.zero) (u1 := nil0) (u2 := nil0) Tryz.results140 rfl rfl rfl HR1.out rfl ?_
 exact ⟨rfl, st12_below HB1.out (by omega) _ _ _⟩
theorem zf_ok (c : Cl) (a1 a2 : Option Addr) (m1 k1 m2 k2 : Nat) (q : Int) (w : World) (hb : BkAt w (.slice a1 m1 k1) (.slice a2 m2 k2) c) (hck : restErr c = 0) (h0 : 0 ≤ q ∧ q ≤ 59) (hn1 : c.js.length ≤ 1000000) (hn2 : c.rs.length ≤ 1000000) :
  AnsT 140 #[c.val (.slice a1 m1 k1) (.slice a2 m2 k2), .int .i64 q] w ((⟨c.p, 2, En.zero, q, 0, c.n, c.js, c.rs⟩ : Cl), 0) := by
 have HB0 : Aside (Below w.heap.size w ((w.alloc (boxC c (.slice a1 m1 k1) (.slice a2 m2 k2))).alloc (boxC Cl.zero nil0 nil0))) := grew (grew (Below.refl _ _) _) _
 have HX0 : Aside (((w.alloc (boxC c (.slice a1 m1 k1) (.slice a2 m2 k2))).alloc (boxC Cl.zero nil0 nil0)).heap[w.heap.size]? = some (boxC c (.slice a1 m1 k1) (.slice a2 m2 k2))) := heap_old (heap_new _ _) _
 have HR0 : Aside (((w.alloc (boxC c (.slice a1 m1 k1) (.slice a2 m2 k2))).alloc (boxC Cl.zero nil0 nil0)).heap[w.heap.size + 1]? = some (boxC Cl.zero nil0 nil0)) := by
  have := heap_new (w.alloc (boxC c (.slice a1 m1 k1) (.slice a2 m2 k2))) (boxC Cl.zero nil0 nil0)
  rw [World.size_alloc] at this
  exact this
 have kc := cl_rest c (.slice a1 m1 k1) (.slice a2 m2 k2) _ (bkAt_later hb HB0.out)
 have kd : ∀ W, Below w.heap.size w W → Calls Tryz.prog 171 #[c.val (.slice a1 m1 k1) (.slice a2 m2 k2), .int .i64 2, En.zero.val, .int .i64 q, .int .i64 0] W fun e w' => ∃ u1 u2, e = .returned ((⟨c.p, 2, En.zero, q, 0, c.n, c.js, c.rs⟩ : Cl).val u1 u2) ∧ BkT w' u1 u2 c ∧ Below W.heap.size W w' := fun W hB => cl_doing c En.zero 2 q 0 a1 a2 m1 k1 m2 k2 W (bkAt_later hb hB) hn1 hn2
 clear hn1 hn2
 rw [hck] at kc
 have HK : Aside (BkAt w (.slice a1 m1 k1) (.slice a2 m2 k2) c) := hb
 clear hb hck
 have hin := fun W => cplace_any q W
 rw [decide_eq_true h0] at hin
 clear h0
 go_enter Tryz.func140, Tryz.ntmps140
 go_wp2_with fail
 refine kc.mono ?_
 rintro r w1 ⟨rfl, hb1⟩
 have HX1 : Aside _ := heap_below HX0.out hb1 (heap_lt HX0.out)
 have HR1 : Aside _ := heap_below HR0.out hb1 (heap_lt HR0.out)
 have HB1 : Aside _ := step_below HB0.out hb1
 clear hb1 HB0 HX0 HR0
 clear kc
 have z := fun i => Joins.cell_of_block HX1.out i
 go_wp2_with fail
 refine (hin _).mono ?_
 rintro r wx ⟨rfl, hwx⟩
 obtain rfl : w1 = wx := hwx.symm
 go_wp2_with fail
 refine (kd w1 HB1.out).mono ?_
 rintro r w2 ⟨u1, u2, rfl, hT2, hb2⟩
 have HR2 : Aside _ := heap_below HR1.out hb2 (heap_lt HR1.out)
 have HB2 : Aside _ := step_below HB1.out hb2
 have HT2 : Aside (BkT w2 u1 u2 c) := hT2
 obtain ⟨s1, o1, s2, o2, rfl, rfl⟩ := bk_slices hT2.1.1 hT2.1.2
 clear hb2 kd HB1 HR1 hT2
 obtain ⟨n1, hn1⟩ : ∃ n, Hid (c.js.length = n) := ⟨_, rfl⟩
 obtain ⟨n2, hn2⟩ : ∃ n, Hid (c.rs.length = n) := ⟨_, rfl⟩
 rw [hn1.out, hn2.out] at HT2 ⊢
 clear z
 have zr := fun i => Joins.cell_of_block HR2.out i
 have fzr := fun i => Joins.unfrozen_of_block HR2.out i
 go_wp2
 refine ret_st (p := 4) (q := 5) w2 (w.heap.size + 1) ((⟨c.p, 2, En.zero, q, 0, c.n, c.js, c.rs⟩ : Cl)) (.slice s1 n1 o1) (.slice s2 n2 o2) (o := Cl.zero) (u1 := nil0) (u2 := nil0) Tryz.results140 rfl rfl rfl HR2.out rfl ?_
 exact ⟨(.slice s1 n1 o1), (.slice s2 n2 o2), rfl, bkT_st12 ⟨_, HR2.out⟩ (bkT_cong HT2.out rfl rfl) _ _ _, st12_below HB2.out (by omega) _ _ _⟩
theorem few_of {c : Cl} (h : c.ck = 0) : c.js.length ≤ 1000000 ∧ c.rs.length ≤ 1000000 := by
 have hok := (Cl.ck_zero.1 h).2.2.2
 have h1 := hok.few
 have h2 := hok.room
 constructor <;> omega
theorem cl_want (c : Cl) (x : En) (v1 v2 : Value) (w : World) (hb : BkAt w v1 v2 c) : AnsT 172 #[c.val v1 v2, x.val] w (wantOf c x) := by
 obtain ⟨a1, k1, a2, k2, rfl, rfl⟩ := bk_slices hb.1 hb.2
 unfold wantOf
 by_cases hc : c.ck = 0
 · rw [if_neg (by simpa using hc)]
  by_cases hd : c.d = 0
  · have hr : restErr c = 0 := by rw [restErr, if_neg (by simpa using hc), if_neg (by simpa using hd)]
   rw [if_neg (by simpa using hd)]
   by_cases hx : x.chk = 0
   · rw [if_neg (by simpa using hx)]
    by_cases hk : x.k = 0
    · rw [if_pos hk]
     exact ansT_zero <| zw_junk c a1 a2 _ k1 _ k2 x w hb hr hx (by rw [hk]; rfl)
    · rw [if_neg hk]
     have h := zw_ok c a1 a2 _ k1 _ k2 x w hb hr hx (by rw [beq_eq_false_iff_ne]; exact hk) (few_of hc).1 (few_of hc).2
     have e := rests hc hd
     rw [show c.a = 0 by rw [e], show c.l = 0 by rw [e]]
     exact h
   · rw [if_pos hx]
    exact ansT_zero <| zw_ent c a1 a2 _ k1 _ k2 x w hb hr _ rfl (by rw [bne_iff_ne]; exact hx)
  · rw [if_pos hd]
   exact ansT_zero <| zw_ck c a1 a2 _ k1 _ k2 x w hb 7 (by rw [restErr, if_neg (by simpa using hc), if_pos hd]) rfl
 · rw [if_pos hc]
  exact ansT_zero <| zw_ck c a1 a2 _ k1 _ k2 x w hb _ (by rw [restErr, if_pos hc]) (by rw [bne_iff_ne]; exact hc)
theorem wants {c : Cl} (h : c.ck = 0) (hd : c.d = 1) : c.a = 0 ∧ c.l = 0 := by
 obtain ⟨ho, _, hf, _⟩ := Cl.ck_zero.1 h
 have hg := Cl.good ho
 rw [Cl.odd, if_neg (by omega), if_pos hd] at hf
 simp only [Bool.or_eq_false_iff, decide_eq_false_iff_not] at hf
 constructor <;> omega
theorem cl_place (c : Cl) (q : Int) (v1 v2 : Value) (w : World) (hb : BkAt w v1 v2 c) : AnsT 177 #[c.val v1 v2, .int .i64 q] w (placeOf 1 c q) := by
 obtain ⟨a1, k1, a2, k2, rfl, rfl⟩ := bk_slices hb.1 hb.2
 unfold placeOf
 by_cases hc : c.ck = 0
 · rw [if_neg (by simpa using hc)]
  by_cases hd : c.d = 1
  · have hdb : (c.d != 1) = false := by rw [hd]; rfl
   rw [if_neg (by simpa using hd)]
   by_cases hq : 0 ≤ q ∧ q ≤ 59
   · rw [if_neg (by simpa using hq), (wants hc hd).2]
    exact zp_ok c a1 a2 _ k1 _ k2 q w hb hc hdb hq (few_of hc).1 (few_of hc).2
   · rw [if_pos hq]
    exact ansT_zero <| zp_who c a1 a2 _ k1 _ k2 q w hb hc hdb hq
  · rw [if_pos hd]
   exact ansT_zero <| zp_late c a1 a2 _ k1 _ k2 q w hb hc (by rw [bne_iff_ne]; exact hd)
 · rw [if_pos hc]
  exact ansT_zero <| zp_ck c a1 a2 _ k1 _ k2 q w hb _ rfl (by rw [bne_iff_ne]; exact hc)
theorem cl_fill (c : Cl) (q : Int) (v1 v2 : Value) (w : World) (hb : BkAt w v1 v2 c) : AnsT 140 #[c.val v1 v2, .int .i64 q] w (placeOf 0 c q) := by
 obtain ⟨a1, k1, a2, k2, rfl, rfl⟩ := bk_slices hb.1 hb.2
 unfold placeOf
 by_cases hc : c.ck = 0
 · rw [if_neg (by simpa using hc)]
  by_cases hd : c.d = 0
  · have hr : restErr c = 0 := by rw [restErr, if_neg (by simpa using hc), if_neg (by simpa using hd)]
   rw [if_neg (by simpa using hd)]
   by_cases hq : 0 ≤ q ∧ q ≤ 59
   · rw [if_neg (by simpa using hq)]
    have h := zf_ok c a1 a2 _ k1 _ k2 q w hb hr hq (few_of hc).1 (few_of hc).2
    have e := rests hc hd
    rw [show c.e = En.zero by rw [e], show c.l = 0 by rw [e]]
    exact h
   · rw [if_pos hq]
    exact ansT_zero <| zf_who c a1 a2 _ k1 _ k2 q w hb hr hq
  · rw [if_pos hd]
   exact ansT_zero <| zf_ck c a1 a2 _ k1 _ k2 q w hb 7 (by rw [restErr, if_neg (by simpa using hc), if_pos hd]) rfl
 · rw [if_pos hc]
  exact ansT_zero <| zf_ck c a1 a2 _ k1 _ k2 q w hb _ (by rw [restErr, if_pos hc]) (by rw [bne_iff_ne]; exact hc)
theorem zh_ck (c : Cl) (a1 a2 : Option Addr) (m1 k1 m2 k2 : Nat) (x : En) (w : World) (hb : BkAt w (.slice a1 m1 k1) (.slice a2 m2 k2) c) (d : Int) (hck : c.ck = d) (hz : (d != 0) = true) :
  AnsX 136 #[c.val (.slice a1 m1 k1) (.slice a2 m2 k2), x.val] w (Cl.zero, d) nil0 nil0 := by
 have HB0 : Aside (Below w.heap.size w (((w.alloc (boxC c (.slice a1 m1 k1) (.slice a2 m2 k2))).alloc (boxE x.k x.j x.v x.t x.c)).alloc (boxC Cl.zero nil0 nil0))) := grew (grew (grew (Below.refl _ _) _) _) _
 have HX0 : Aside ((((w.alloc (boxC c (.slice a1 m1 k1) (.slice a2 m2 k2))).alloc (boxE x.k x.j x.v x.t x.c)).alloc (boxC Cl.zero nil0 nil0)).heap[w.heap.size]? = some (boxC c (.slice a1 m1 k1) (.slice a2 m2 k2))) := heap_old (heap_old (heap_new _ _) _) _
 have HE0 : Aside ((((w.alloc (boxC c (.slice a1 m1 k1) (.slice a2 m2 k2))).alloc (boxE x.k x.j x.v x.t x.c)).alloc (boxC Cl.zero nil0 nil0)).heap[w.heap.size + 1]? = some (boxE x.k x.j x.v x.t x.c)) := by
  have := heap_new (w.alloc (boxC c (.slice a1 m1 k1) (.slice a2 m2 k2))) (boxE x.k x.j x.v x.t x.c)
  rw [World.size_alloc] at this
  exact heap_old (this) _
 have HR0 : Aside ((((w.alloc (boxC c (.slice a1 m1 k1) (.slice a2 m2 k2))).alloc (boxE x.k x.j x.v x.t x.c)).alloc (boxC Cl.zero nil0 nil0)).heap[w.heap.size + 1 + 1]? = some (boxC Cl.zero nil0 nil0)) := by
  have := heap_new ((w.alloc (boxC c (.slice a1 m1 k1) (.slice a2 m2 k2))).alloc (boxE x.k x.j x.v x.t x.c)) (boxC Cl.zero nil0 nil0)
  rw [World.size_alloc, World.size_alloc] at this
  exact this
 have kc := cl_check c (.slice a1 m1 k1) (.slice a2 m2 k2) _ (bkAt_later hb HB0.out)
 rw [hck] at kc
 have HK : Aside (BkAt w (.slice a1 m1 k1) (.slice a2 m2 k2) c) := hb
 clear hb hck
 go_enter Tryz.func136, Tryz.ntmps136
 go_wp2_with fail
 refine kc.mono ?_
 rintro r w1 ⟨rfl, hb1⟩
 have HX1 : Aside _ := heap_below HX0.out hb1 (heap_lt HX0.out)
 have HE1 : Aside _ := heap_below HE0.out hb1 (heap_lt HE0.out)
 have HR1 : Aside _ := heap_below HR0.out hb1 (heap_lt HR0.out)
 have HB1 : Aside _ := step_below HB0.out hb1
 clear hb1 HB0 HX0 HE0 HR0
 clear kc
 have zr := fun i => Joins.cell_of_block HR1.out i
 have fzr := fun i => Joins.unfrozen_of_block HR1.out i
 go_wp2
 refine ret_st (p := 4) (q := 5) w1 (w.heap.size + 1 + 1) (Cl.zero) nil0 nil0 (o := Cl.zero) (u1 := nil0) (u2 := nil0) Tryz.results136 rfl rfl rfl HR1.out rfl ?_
 exact ⟨rfl, st12_below HB1.out (by omega) _ _ _⟩
theorem zh_ent (c : Cl) (a1 a2 : Option Addr) (m1 k1 m2 k2 : Nat) (x : En) (w : World) (hb : BkAt w (.slice a1 m1 k1) (.slice a2 m2 k2) c) (hck : c.ck = 0) (q : Int) (hx : x.chk = q) (hz : (q != 0) = true) :
  AnsX 136 #[c.val (.slice a1 m1 k1) (.slice a2 m2 k2), x.val] w (Cl.zero, q) nil0 nil0 := by
 have HB0 : Aside (Below w.heap.size w (((w.alloc (boxC c (.slice a1 m1 k1) (.slice a2 m2 k2))).alloc (boxE x.k x.j x.v x.t x.c)).alloc (boxC Cl.zero nil0 nil0))) := grew (grew (grew (Below.refl _ _) _) _) _
 have HX0 : Aside ((((w.alloc (boxC c (.slice a1 m1 k1) (.slice a2 m2 k2))).alloc (boxE x.k x.j x.v x.t x.c)).alloc (boxC Cl.zero nil0 nil0)).heap[w.heap.size]? = some (boxC c (.slice a1 m1 k1) (.slice a2 m2 k2))) := heap_old (heap_old (heap_new _ _) _) _
 have HE0 : Aside ((((w.alloc (boxC c (.slice a1 m1 k1) (.slice a2 m2 k2))).alloc (boxE x.k x.j x.v x.t x.c)).alloc (boxC Cl.zero nil0 nil0)).heap[w.heap.size + 1]? = some (boxE x.k x.j x.v x.t x.c)) := by
  have := heap_new (w.alloc (boxC c (.slice a1 m1 k1) (.slice a2 m2 k2))) (boxE x.k x.j x.v x.t x.c)
  rw [World.size_alloc] at this
  exact heap_old (this) _
 have HR0 : Aside ((((w.alloc (boxC c (.slice a1 m1 k1) (.slice a2 m2 k2))).alloc (boxE x.k x.j x.v x.t x.c)).alloc (boxC Cl.zero nil0 nil0)).heap[w.heap.size + 1 + 1]? = some (boxC Cl.zero nil0 nil0)) := by
  have := heap_new ((w.alloc (boxC c (.slice a1 m1 k1) (.slice a2 m2 k2))).alloc (boxE x.k x.j x.v x.t x.c)) (boxC Cl.zero nil0 nil0)
  rw [World.size_alloc, World.size_alloc] at this
  exact this
 have kc := cl_check c (.slice a1 m1 k1) (.slice a2 m2 k2) _ (bkAt_later hb HB0.out)
 rw [hck] at kc
 have HK : Aside (BkAt w (.slice a1 m1 k1) (.slice a2 m2 k2) c) := hb
 clear hb hck
 have hce : ∀ W, Calls Tryz.prog 115 #[ev x.k x.j x.v x.t x.c] W fun e w' => e = .returned (.int .i64 x.chk) ∧ Below W.heap.size W w' := fun W => check_any x.k x.j x.v x.t x.c W
 rw [hx] at hce
 clear hx
 go_enter Tryz.func136, Tryz.ntmps136
 go_wp2_with fail
 refine kc.mono ?_
 rintro r w1 ⟨rfl, hb1⟩
 have HX1 : Aside _ := heap_below HX0.out hb1 (heap_lt HX0.out)
 have HE1 : Aside _ := heap_below HE0.out hb1 (heap_lt HE0.out)
 have HR1 : Aside _ := heap_below HR0.out hb1 (heap_lt HR0.out)
 have HB1 : Aside _ := step_below HB0.out hb1
 clear hb1 HB0 HX0 HE0 HR0
 clear kc
 have ze := fun i => Joins.cell_of_block HE1.out i
 go_wp2_with fail
 refine (hce _).mono ?_
 rintro r w2 ⟨rfl, hb2⟩
 have HX2 : Aside _ := heap_below HX1.out hb2 (heap_lt HX1.out)
 have HE2 : Aside _ := heap_below HE1.out hb2 (heap_lt HE1.out)
 have HR2 : Aside _ := heap_below HR1.out hb2 (heap_lt HR1.out)
 have HB2 : Aside _ := step_below HB1.out hb2
 clear hb2 HB1 HX1 HE1 HR1
 clear ze hce
 have zr := fun i => Joins.cell_of_block HR2.out i
 have fzr := fun i => Joins.unfrozen_of_block HR2.out i
 go_wp2
 refine ret_st (p := 4) (q := 5) w2 (w.heap.size + 1 + 1) (Cl.zero) nil0 nil0 (o := Cl.zero) (u1 := nil0) (u2 := nil0) Tryz.results136 rfl rfl rfl HR2.out rfl ?_
 exact ⟨rfl, st12_below HB2.out (by omega) _ _ _⟩
theorem zh_late (c : Cl) (a1 a2 : Option Addr) (m1 k1 m2 k2 : Nat) (x : En) (w : World) (hb : BkAt w (.slice a1 m1 k1) (.slice a2 m2 k2) c) (hck : c.ck = 0) (hx : x.chk = 0) (hd : (c.d != 2) = true) :
  AnsX 136 #[c.val (.slice a1 m1 k1) (.slice a2 m2 k2), x.val] w (Cl.zero, 7) nil0 nil0 := by
 have HB0 : Aside (Below w.heap.size w (((w.alloc (boxC c (.slice a1 m1 k1) (.slice a2 m2 k2))).alloc (boxE x.k x.j x.v x.t x.c)).alloc (boxC Cl.zero nil0 nil0))) := grew (grew (grew (Below.refl _ _) _) _) _
 have HX0 : Aside ((((w.alloc (boxC c (.slice a1 m1 k1) (.slice a2 m2 k2))).alloc (boxE x.k x.j x.v x.t x.c)).alloc (boxC Cl.zero nil0 nil0)).heap[w.heap.size]? = some (boxC c (.slice a1 m1 k1) (.slice a2 m2 k2))) := heap_old (heap_old (heap_new _ _) _) _
 have HE0 : Aside ((((w.alloc (boxC c (.slice a1 m1 k1) (.slice a2 m2 k2))).alloc (boxE x.k x.j x.v x.t x.c)).alloc (boxC Cl.zero nil0 nil0)).heap[w.heap.size + 1]? = some (boxE x.k x.j x.v x.t x.c)) := by
  have := heap_new (w.alloc (boxC c (.slice a1 m1 k1) (.slice a2 m2 k2))) (boxE x.k x.j x.v x.t x.c)
  rw [World.size_alloc] at this
  exact heap_old (this) _
 have HR0 : Aside ((((w.alloc (boxC c (.slice a1 m1 k1) (.slice a2 m2 k2))).alloc (boxE x.k x.j x.v x.t x.c)).alloc (boxC Cl.zero nil0 nil0)).heap[w.heap.size + 1 + 1]? = some (boxC Cl.zero nil0 nil0)) := by
  have := heap_new ((w.alloc (boxC c (.slice a1 m1 k1) (.slice a2 m2 k2))).alloc (boxE x.k x.j x.v x.t x.c)) (boxC Cl.zero nil0 nil0)
  rw [World.size_alloc, World.size_alloc] at this
  exact this
 have kc := cl_check c (.slice a1 m1 k1) (.slice a2 m2 k2) _ (bkAt_later hb HB0.out)
 rw [hck] at kc
 have HK : Aside (BkAt w (.slice a1 m1 k1) (.slice a2 m2 k2) c) := hb
 clear hb hck
 have hce : ∀ W, Calls Tryz.prog 115 #[ev x.k x.j x.v x.t x.c] W fun e w' => e = .returned (.int .i64 x.chk) ∧ Below W.heap.size W w' := fun W => check_any x.k x.j x.v x.t x.c W
 rw [hx] at hce
 clear hx
 go_enter Tryz.func136, Tryz.ntmps136
 go_wp2_with fail
 refine kc.mono ?_
 rintro r w1 ⟨rfl, hb1⟩
 have HX1 : Aside _ := heap_below HX0.out hb1 (heap_lt HX0.out)
 have HE1 : Aside _ := heap_below HE0.out hb1 (heap_lt HE0.out)
 have HR1 : Aside _ := heap_below HR0.out hb1 (heap_lt HR0.out)
 have HB1 : Aside _ := step_below HB0.out hb1
 clear hb1 HB0 HX0 HE0 HR0
 clear kc
 have ze := fun i => Joins.cell_of_block HE1.out i
 go_wp2_with fail
 refine (hce _).mono ?_
 rintro r w2 ⟨rfl, hb2⟩
 have HX2 : Aside _ := heap_below HX1.out hb2 (heap_lt HX1.out)
 have HE2 : Aside _ := heap_below HE1.out hb2 (heap_lt HE1.out)
 have HR2 : Aside _ := heap_below HR1.out hb2 (heap_lt HR1.out)
 have HB2 : Aside _ := step_below HB1.out hb2
 clear hb2 HB1 HX1 HE1 HR1
 clear ze hce
 have z := fun i => Joins.cell_of_block HX2.out i
 have zr := fun i => Joins.cell_of_block HR2.out i
 have fzr := fun i => Joins.unfrozen_of_block HR2.out i
 go_wp2
 refine ret_st (p := 4) (q := 5) w2 (w.heap.size + 1 + 1) (Cl.zero) nil0 nil0 (o := Cl.zero) (u1 := nil0) (u2 := nil0) Tryz.results136 rfl rfl rfl HR2.out rfl ?_
 exact ⟨rfl, st12_below HB2.out (by omega) _ _ _⟩
theorem zh_other (c : Cl) (a1 a2 : Option Addr) (m1 k1 m2 k2 : Nat) (x : En) (w : World) (hb : BkAt w (.slice a1 m1 k1) (.slice a2 m2 k2) c) (hck : c.ck = 0) (hx : x.chk = 0) (hd : (c.d != 2) = false) (hn : unlike x.k x.j x.v x.t x.c c.e.k c.e.j c.e.v c.e.t c.e.c = true) (hk : (c.e.k == 0) = false) (hn1 : c.js.length ≤ 1000000) (hn2 : c.rs.length ≤ 1000000) :
  AnsT 136 #[c.val (.slice a1 m1 k1) (.slice a2 m2 k2), x.val] w ((⟨c.p, 1, c.e, 0, 0, c.n, c.js, c.rs⟩ : Cl), 0) := by
 have HB0 : Aside (Below w.heap.size w (((w.alloc (boxC c (.slice a1 m1 k1) (.slice a2 m2 k2))).alloc (boxE x.k x.j x.v x.t x.c)).alloc (boxC Cl.zero nil0 nil0))) := grew (grew (grew (Below.refl _ _) _) _) _
 have HX0 : Aside ((((w.alloc (boxC c (.slice a1 m1 k1) (.slice a2 m2 k2))).alloc (boxE x.k x.j x.v x.t x.c)).alloc (boxC Cl.zero nil0 nil0)).heap[w.heap.size]? = some (boxC c (.slice a1 m1 k1) (.slice a2 m2 k2))) := heap_old (heap_old (heap_new _ _) _) _
 have HE0 : Aside ((((w.alloc (boxC c (.slice a1 m1 k1) (.slice a2 m2 k2))).alloc (boxE x.k x.j x.v x.t x.c)).alloc (boxC Cl.zero nil0 nil0)).heap[w.heap.size + 1]? = some (boxE x.k x.j x.v x.t x.c)) := by
  have := heap_new (w.alloc (boxC c (.slice a1 m1 k1) (.slice a2 m2 k2))) (boxE x.k x.j x.v x.t x.c)
  rw [World.size_alloc] at this
  exact heap_old (this) _
 have HR0 : Aside ((((w.alloc (boxC c (.slice a1 m1 k1) (.slice a2 m2 k2))).alloc (boxE x.k x.j x.v x.t x.c)).alloc (boxC Cl.zero nil0 nil0)).heap[w.heap.size + 1 + 1]? = some (boxC Cl.zero nil0 nil0)) := by
  have := heap_new ((w.alloc (boxC c (.slice a1 m1 k1) (.slice a2 m2 k2))).alloc (boxE x.k x.j x.v x.t x.c)) (boxC Cl.zero nil0 nil0)
  rw [World.size_alloc, World.size_alloc] at this
  exact this
 have kc := cl_check c (.slice a1 m1 k1) (.slice a2 m2 k2) _ (bkAt_later hb HB0.out)
 have kd : ∀ W, Below w.heap.size w W → Calls Tryz.prog 171 #[c.val (.slice a1 m1 k1) (.slice a2 m2 k2), .int .i64 1, c.e.val, .int .i64 0, .int .i64 0] W fun e w' => ∃ u1 u2, e = .returned ((⟨c.p, 1, c.e, 0, 0, c.n, c.js, c.rs⟩ : Cl).val u1 u2) ∧ BkT w' u1 u2 c ∧ Below W.heap.size W w' := fun W hB => cl_doing c c.e 1 0 0 a1 a2 m1 k1 m2 k2 W (bkAt_later hb hB) hn1 hn2
 clear hn1 hn2
 rw [hck] at kc
 have HK : Aside (BkAt w (.slice a1 m1 k1) (.slice a2 m2 k2) c) := hb
 clear hb hck
 have hce : ∀ W, Calls Tryz.prog 115 #[ev x.k x.j x.v x.t x.c] W fun e w' => e = .returned (.int .i64 x.chk) ∧ Below W.heap.size W w' := fun W => check_any x.k x.j x.v x.t x.c W
 rw [hx] at hce
 clear hx
 have hq := fun W => neq_entry x.k x.j x.v x.t x.c c.e.k c.e.j c.e.v c.e.t c.e.c W
 rw [hn] at hq
 clear hn
 have kj := fun W => junk_any c.e W
 rw [hk] at kj
 go_enter Tryz.func136, Tryz.ntmps136
 go_wp2_with fail
 refine kc.mono ?_
 rintro r w1 ⟨rfl, hb1⟩
 have HX1 : Aside _ := heap_below HX0.out hb1 (heap_lt HX0.out)
 have HE1 : Aside _ := heap_below HE0.out hb1 (heap_lt HE0.out)
 have HR1 : Aside _ := heap_below HR0.out hb1 (heap_lt HR0.out)
 have HB1 : Aside _ := step_below HB0.out hb1
 clear hb1 HB0 HX0 HE0 HR0
 clear kc
 have ze := fun i => Joins.cell_of_block HE1.out i
 go_wp2_with fail
 refine (hce _).mono ?_
 rintro r w2 ⟨rfl, hb2⟩
 have HX2 : Aside _ := heap_below HX1.out hb2 (heap_lt HX1.out)
 have HE2 : Aside _ := heap_below HE1.out hb2 (heap_lt HE1.out)
 have HR2 : Aside _ := heap_below HR1.out hb2 (heap_lt HR1.out)
 have HB2 : Aside _ := step_below HB1.out hb2
 clear hb2 HB1 HX1 HE1 HR1
 clear ze hce
 have z := fun i => Joins.cell_of_block HX2.out i
 have ze := fun i => Joins.cell_of_block HE2.out i
 go_wp2_with fail
 refine (kj _).mono ?_
 rintro r w3 ⟨rfl, hb3⟩
 have HX3 : Aside _ := heap_below HX2.out hb3 (heap_lt HX2.out)
 have HE3 : Aside _ := heap_below HE2.out hb3 (heap_lt HE2.out)
 have HR3 : Aside _ := heap_below HR2.out hb3 (heap_lt HR2.out)
 have HB3 : Aside _ := step_below HB2.out hb3
 clear hb3 HB2 HX2 HE2 HR2
 clear z ze kj hq
 have z := fun i => Joins.cell_of_block HX3.out i
 have ze := fun i => Joins.cell_of_block HE3.out i
 go_wp2_with fail
 refine (kd w3 HB3.out).mono ?_
 rintro r w4 ⟨u1, u2, rfl, hT4, hb4⟩
 have HR4 : Aside _ := heap_below HR3.out hb4 (heap_lt HR3.out)
 have HB4 : Aside _ := step_below HB3.out hb4
 have HT4 : Aside (BkT w4 u1 u2 c) := hT4
 obtain ⟨s1, o1, s2, o2, rfl, rfl⟩ := bk_slices hT4.1.1 hT4.1.2
 clear hb4 kd HB3 HR3 hT4
 obtain ⟨n1, hn1⟩ : ∃ n, Hid (c.js.length = n) := ⟨_, rfl⟩
 obtain ⟨n2, hn2⟩ : ∃ n, Hid (c.rs.length = n) := ⟨_, rfl⟩
 rw [hn1.out, hn2.out] at HT4 ⊢
 clear z ze
 have zr := fun i => Joins.cell_of_block HR4.out i
 have fzr := fun i => Joins.unfrozen_of_block HR4.out i
 go_wp2
 refine ret_st (p := 4) (q := 5) w4 (w.heap.size + 1 + 1) ((⟨c.p, 1, c.e, 0, 0, c.n, c.js, c.rs⟩ : Cl)) (.slice s1 n1 o1) (.slice s2 n2 o2) (o := Cl.zero) (u1 := nil0) (u2 := nil0) Tryz.results136 rfl rfl rfl HR4.out rfl ?_
 exact ⟨(.slice s1 n1 o1), (.slice s2 n2 o2), rfl, bkT_st12 ⟨_, HR4.out⟩ (bkT_cong HT4.out rfl rfl) _ _ _, st12_below HB4.out (by omega) _ _ _⟩
theorem zh_last0 (c : Cl) (a1 a2 : Option Addr) (m1 k1 m2 k2 : Nat) (x : En) (w : World) (hb : BkAt w (.slice a1 m1 k1) (.slice a2 m2 k2) c) (hck : c.ck = 0) (hx : x.chk = 0) (hd : (c.d != 2) = false) (hn : unlike x.k x.j x.v x.t x.c c.e.k c.e.j c.e.v c.e.t c.e.c = true) (hk : (c.e.k == 0) = true) (hw : IntKind.i64.wrap (c.l + 1) = c.l + 1) (hl : (c.l + 1 == 3) = true) (hn1 : c.js.length ≤ 1000000) (hn2 : c.rs.length ≤ 1000000) :
  AnsT 136 #[c.val (.slice a1 m1 k1) (.slice a2 m2 k2), x.val] w ((⟨c.p, 0, En.zero, 0, 0, c.n, c.js, c.rs⟩ : Cl), 0) := by
 have HB0 : Aside (Below w.heap.size w (((w.alloc (boxC c (.slice a1 m1 k1) (.slice a2 m2 k2))).alloc (boxE x.k x.j x.v x.t x.c)).alloc (boxC Cl.zero nil0 nil0))) := grew (grew (grew (Below.refl _ _) _) _) _
 have HX0 : Aside ((((w.alloc (boxC c (.slice a1 m1 k1) (.slice a2 m2 k2))).alloc (boxE x.k x.j x.v x.t x.c)).alloc (boxC Cl.zero nil0 nil0)).heap[w.heap.size]? = some (boxC c (.slice a1 m1 k1) (.slice a2 m2 k2))) := heap_old (heap_old (heap_new _ _) _) _
 have HE0 : Aside ((((w.alloc (boxC c (.slice a1 m1 k1) (.slice a2 m2 k2))).alloc (boxE x.k x.j x.v x.t x.c)).alloc (boxC Cl.zero nil0 nil0)).heap[w.heap.size + 1]? = some (boxE x.k x.j x.v x.t x.c)) := by
  have := heap_new (w.alloc (boxC c (.slice a1 m1 k1) (.slice a2 m2 k2))) (boxE x.k x.j x.v x.t x.c)
  rw [World.size_alloc] at this
  exact heap_old (this) _
 have HR0 : Aside ((((w.alloc (boxC c (.slice a1 m1 k1) (.slice a2 m2 k2))).alloc (boxE x.k x.j x.v x.t x.c)).alloc (boxC Cl.zero nil0 nil0)).heap[w.heap.size + 1 + 1]? = some (boxC Cl.zero nil0 nil0)) := by
  have := heap_new ((w.alloc (boxC c (.slice a1 m1 k1) (.slice a2 m2 k2))).alloc (boxE x.k x.j x.v x.t x.c)) (boxC Cl.zero nil0 nil0)
  rw [World.size_alloc, World.size_alloc] at this
  exact this
 have kc := cl_check c (.slice a1 m1 k1) (.slice a2 m2 k2) _ (bkAt_later hb HB0.out)
 have kd : ∀ W, Below w.heap.size w W → Calls Tryz.prog 171 #[c.val (.slice a1 m1 k1) (.slice a2 m2 k2), .int .i64 0, En.zero.val, .int .i64 0, .int .i64 0] W fun e w' => ∃ u1 u2, e = .returned ((⟨c.p, 0, En.zero, 0, 0, c.n, c.js, c.rs⟩ : Cl).val u1 u2) ∧ BkT w' u1 u2 c ∧ Below W.heap.size W w' := fun W hB => cl_doing c En.zero 0 0 0 a1 a2 m1 k1 m2 k2 W (bkAt_later hb hB) hn1 hn2
 clear hn1 hn2
 rw [hck] at kc
 have HK : Aside (BkAt w (.slice a1 m1 k1) (.slice a2 m2 k2) c) := hb
 clear hb hck
 have hce : ∀ W, Calls Tryz.prog 115 #[ev x.k x.j x.v x.t x.c] W fun e w' => e = .returned (.int .i64 x.chk) ∧ Below W.heap.size W w' := fun W => check_any x.k x.j x.v x.t x.c W
 rw [hx] at hce
 clear hx
 have hq := fun W => neq_entry x.k x.j x.v x.t x.c c.e.k c.e.j c.e.v c.e.t c.e.c W
 rw [hn] at hq
 clear hn
 have kj := fun W => junk_any c.e W
 rw [hk] at kj
 go_enter Tryz.func136, Tryz.ntmps136
 go_wp2_with fail
 refine kc.mono ?_
 rintro r w1 ⟨rfl, hb1⟩
 have HX1 : Aside _ := heap_below HX0.out hb1 (heap_lt HX0.out)
 have HE1 : Aside _ := heap_below HE0.out hb1 (heap_lt HE0.out)
 have HR1 : Aside _ := heap_below HR0.out hb1 (heap_lt HR0.out)
 have HB1 : Aside _ := step_below HB0.out hb1
 clear hb1 HB0 HX0 HE0 HR0
 clear kc
 have ze := fun i => Joins.cell_of_block HE1.out i
 go_wp2_with fail
 refine (hce _).mono ?_
 rintro r w2 ⟨rfl, hb2⟩
 have HX2 : Aside _ := heap_below HX1.out hb2 (heap_lt HX1.out)
 have HE2 : Aside _ := heap_below HE1.out hb2 (heap_lt HE1.out)
 have HR2 : Aside _ := heap_below HR1.out hb2 (heap_lt HR1.out)
 have HB2 : Aside _ := step_below HB1.out hb2
 clear hb2 HB1 HX1 HE1 HR1
 clear ze hce
 have z := fun i => Joins.cell_of_block HX2.out i
 have ze := fun i => Joins.cell_of_block HE2.out i
 go_wp2_with fail
 refine (kj _).mono ?_
 rintro r w3 ⟨rfl, hb3⟩
 have HX3 : Aside _ := heap_below HX2.out hb3 (heap_lt HX2.out)
 have HE3 : Aside _ := heap_below HE2.out hb3 (heap_lt HE2.out)
 have HR3 : Aside _ := heap_below HR2.out hb3 (heap_lt HR2.out)
 have HB3 : Aside _ := step_below HB2.out hb3
 clear hb3 HB2 HX2 HE2 HR2
 clear z ze kj hq
 have z := fun i => Joins.cell_of_block HX3.out i
 have ze := fun i => Joins.cell_of_block HE3.out i
 go_wp2_with fail
 refine (kd w3 HB3.out).mono ?_
 rintro r w4 ⟨u1, u2, rfl, hT4, hb4⟩
 have HR4 : Aside _ := heap_below HR3.out hb4 (heap_lt HR3.out)
 have HB4 : Aside _ := step_below HB3.out hb4
 have HT4 : Aside (BkT w4 u1 u2 c) := hT4
 obtain ⟨s1, o1, s2, o2, rfl, rfl⟩ := bk_slices hT4.1.1 hT4.1.2
 clear hb4 kd HB3 HR3 hT4
 obtain ⟨n1, hn1⟩ : ∃ n, Hid (c.js.length = n) := ⟨_, rfl⟩
 obtain ⟨n2, hn2⟩ : ∃ n, Hid (c.rs.length = n) := ⟨_, rfl⟩
 rw [hn1.out, hn2.out] at HT4 ⊢
 clear z ze
 have zr := fun i => Joins.cell_of_block HR4.out i
 have fzr := fun i => Joins.unfrozen_of_block HR4.out i
 go_wp2
 refine ret_st (p := 4) (q := 5) w4 (w.heap.size + 1 + 1) ((⟨c.p, 0, En.zero, 0, 0, c.n, c.js, c.rs⟩ : Cl)) (.slice s1 n1 o1) (.slice s2 n2 o2) (o := Cl.zero) (u1 := nil0) (u2 := nil0) Tryz.results136 rfl rfl rfl HR4.out rfl ?_
 exact ⟨(.slice s1 n1 o1), (.slice s2 n2 o2), rfl, bkT_st12 ⟨_, HR4.out⟩ (bkT_cong HT4.out rfl rfl) _ _ _, st12_below HB4.out (by omega) _ _ _⟩
theorem zh_on0 (c : Cl) (a1 a2 : Option Addr) (m1 k1 m2 k2 : Nat) (x : En) (w : World) (hb : BkAt w (.slice a1 m1 k1) (.slice a2 m2 k2) c) (hck : c.ck = 0) (hx : x.chk = 0) (hd : (c.d != 2) = false) (hn : unlike x.k x.j x.v x.t x.c c.e.k c.e.j c.e.v c.e.t c.e.c = true) (hk : (c.e.k == 0) = true) (hw : IntKind.i64.wrap (c.l + 1) = c.l + 1) (hl : (c.l + 1 == 3) = false) (hn1 : c.js.length ≤ 1000000) (hn2 : c.rs.length ≤ 1000000) :
  AnsT 136 #[c.val (.slice a1 m1 k1) (.slice a2 m2 k2), x.val] w ((⟨c.p, 2, x, c.a, (c.l + 1), c.n, c.js, c.rs⟩ : Cl), 0) := by
 have HB0 : Aside (Below w.heap.size w (((w.alloc (boxC c (.slice a1 m1 k1) (.slice a2 m2 k2))).alloc (boxE x.k x.j x.v x.t x.c)).alloc (boxC Cl.zero nil0 nil0))) := grew (grew (grew (Below.refl _ _) _) _) _
 have HX0 : Aside ((((w.alloc (boxC c (.slice a1 m1 k1) (.slice a2 m2 k2))).alloc (boxE x.k x.j x.v x.t x.c)).alloc (boxC Cl.zero nil0 nil0)).heap[w.heap.size]? = some (boxC c (.slice a1 m1 k1) (.slice a2 m2 k2))) := heap_old (heap_old (heap_new _ _) _) _
 have HE0 : Aside ((((w.alloc (boxC c (.slice a1 m1 k1) (.slice a2 m2 k2))).alloc (boxE x.k x.j x.v x.t x.c)).alloc (boxC Cl.zero nil0 nil0)).heap[w.heap.size + 1]? = some (boxE x.k x.j x.v x.t x.c)) := by
  have := heap_new (w.alloc (boxC c (.slice a1 m1 k1) (.slice a2 m2 k2))) (boxE x.k x.j x.v x.t x.c)
  rw [World.size_alloc] at this
  exact heap_old (this) _
 have HR0 : Aside ((((w.alloc (boxC c (.slice a1 m1 k1) (.slice a2 m2 k2))).alloc (boxE x.k x.j x.v x.t x.c)).alloc (boxC Cl.zero nil0 nil0)).heap[w.heap.size + 1 + 1]? = some (boxC Cl.zero nil0 nil0)) := by
  have := heap_new ((w.alloc (boxC c (.slice a1 m1 k1) (.slice a2 m2 k2))).alloc (boxE x.k x.j x.v x.t x.c)) (boxC Cl.zero nil0 nil0)
  rw [World.size_alloc, World.size_alloc] at this
  exact this
 have kc := cl_check c (.slice a1 m1 k1) (.slice a2 m2 k2) _ (bkAt_later hb HB0.out)
 have kd : ∀ W, Below w.heap.size w W → Calls Tryz.prog 171 #[c.val (.slice a1 m1 k1) (.slice a2 m2 k2), .int .i64 2, x.val, .int .i64 c.a, .int .i64 (c.l + 1)] W fun e w' => ∃ u1 u2, e = .returned ((⟨c.p, 2, x, c.a, (c.l + 1), c.n, c.js, c.rs⟩ : Cl).val u1 u2) ∧ BkT w' u1 u2 c ∧ Below W.heap.size W w' := fun W hB => cl_doing c x 2 c.a (c.l + 1) a1 a2 m1 k1 m2 k2 W (bkAt_later hb hB) hn1 hn2
 clear hn1 hn2
 rw [hck] at kc
 have HK : Aside (BkAt w (.slice a1 m1 k1) (.slice a2 m2 k2) c) := hb
 clear hb hck
 have hce : ∀ W, Calls Tryz.prog 115 #[ev x.k x.j x.v x.t x.c] W fun e w' => e = .returned (.int .i64 x.chk) ∧ Below W.heap.size W w' := fun W => check_any x.k x.j x.v x.t x.c W
 rw [hx] at hce
 clear hx
 have hq := fun W => neq_entry x.k x.j x.v x.t x.c c.e.k c.e.j c.e.v c.e.t c.e.c W
 rw [hn] at hq
 clear hn
 have kj := fun W => junk_any c.e W
 rw [hk] at kj
 go_enter Tryz.func136, Tryz.ntmps136
 go_wp2_with fail
 refine kc.mono ?_
 rintro r w1 ⟨rfl, hb1⟩
 have HX1 : Aside _ := heap_below HX0.out hb1 (heap_lt HX0.out)
 have HE1 : Aside _ := heap_below HE0.out hb1 (heap_lt HE0.out)
 have HR1 : Aside _ := heap_below HR0.out hb1 (heap_lt HR0.out)
 have HB1 : Aside _ := step_below HB0.out hb1
 clear hb1 HB0 HX0 HE0 HR0
 clear kc
 have ze := fun i => Joins.cell_of_block HE1.out i
 go_wp2_with fail
 refine (hce _).mono ?_
 rintro r w2 ⟨rfl, hb2⟩
 have HX2 : Aside _ := heap_below HX1.out hb2 (heap_lt HX1.out)
 have HE2 : Aside _ := heap_below HE1.out hb2 (heap_lt HE1.out)
 have HR2 : Aside _ := heap_below HR1.out hb2 (heap_lt HR1.out)
 have HB2 : Aside _ := step_below HB1.out hb2
 clear hb2 HB1 HX1 HE1 HR1
 clear ze hce
 have z := fun i => Joins.cell_of_block HX2.out i
 have ze := fun i => Joins.cell_of_block HE2.out i
 go_wp2_with fail
 refine (kj _).mono ?_
 rintro r w3 ⟨rfl, hb3⟩
 have HX3 : Aside _ := heap_below HX2.out hb3 (heap_lt HX2.out)
 have HE3 : Aside _ := heap_below HE2.out hb3 (heap_lt HE2.out)
 have HR3 : Aside _ := heap_below HR2.out hb3 (heap_lt HR2.out)
 have HB3 : Aside _ := step_below HB2.out hb3
 clear hb3 HB2 HX2 HE2 HR2
 clear z ze kj hq
 have z := fun i => Joins.cell_of_block HX3.out i
 have ze := fun i => Joins.cell_of_block HE3.out i
 go_wp2_with fail
 refine (kd w3 HB3.out).mono ?_
 rintro r w4 ⟨u1, u2, rfl, hT4, hb4⟩
 have HR4 : Aside _ := heap_below HR3.out hb4 (heap_lt HR3.out)
 have HB4 : Aside _ := step_below HB3.out hb4
 have HT4 : Aside (BkT w4 u1 u2 c) := hT4
 obtain ⟨s1, o1, s2, o2, rfl, rfl⟩ := bk_slices hT4.1.1 hT4.1.2
 clear hb4 kd HB3 HR3 hT4
 obtain ⟨n1, hn1⟩ : ∃ n, Hid (c.js.length = n) := ⟨_, rfl⟩
 obtain ⟨n2, hn2⟩ : ∃ n, Hid (c.rs.length = n) := ⟨_, rfl⟩
 rw [hn1.out, hn2.out] at HT4 ⊢
 clear z ze
 have zr := fun i => Joins.cell_of_block HR4.out i
 have fzr := fun i => Joins.unfrozen_of_block HR4.out i
 go_wp2
 refine ret_st (p := 4) (q := 5) w4 (w.heap.size + 1 + 1) ((⟨c.p, 2, x, c.a, (c.l + 1), c.n, c.js, c.rs⟩ : Cl)) (.slice s1 n1 o1) (.slice s2 n2 o2) (o := Cl.zero) (u1 := nil0) (u2 := nil0) Tryz.results136 rfl rfl rfl HR4.out rfl ?_
 exact ⟨(.slice s1 n1 o1), (.slice s2 n2 o2), rfl, bkT_st12 ⟨_, HR4.out⟩ (bkT_cong HT4.out rfl rfl) _ _ _, st12_below HB4.out (by omega) _ _ _⟩
theorem zh_last1 (c : Cl) (a1 a2 : Option Addr) (m1 k1 m2 k2 : Nat) (x : En) (w : World) (hb : BkAt w (.slice a1 m1 k1) (.slice a2 m2 k2) c) (hck : c.ck = 0) (hx : x.chk = 0) (hd : (c.d != 2) = false) (hn : unlike x.k x.j x.v x.t x.c c.e.k c.e.j c.e.v c.e.t c.e.c = false) (hw : IntKind.i64.wrap (c.l + 1) = c.l + 1) (hl : (c.l + 1 == 3) = true) (hn1 : c.js.length ≤ 1000000) (hn2 : c.rs.length ≤ 1000000) :
  AnsT 136 #[c.val (.slice a1 m1 k1) (.slice a2 m2 k2), x.val] w ((⟨c.p, 0, En.zero, 0, 0, c.n, c.js, c.rs⟩ : Cl), 0) := by
 have HB0 : Aside (Below w.heap.size w (((w.alloc (boxC c (.slice a1 m1 k1) (.slice a2 m2 k2))).alloc (boxE x.k x.j x.v x.t x.c)).alloc (boxC Cl.zero nil0 nil0))) := grew (grew (grew (Below.refl _ _) _) _) _
 have HX0 : Aside ((((w.alloc (boxC c (.slice a1 m1 k1) (.slice a2 m2 k2))).alloc (boxE x.k x.j x.v x.t x.c)).alloc (boxC Cl.zero nil0 nil0)).heap[w.heap.size]? = some (boxC c (.slice a1 m1 k1) (.slice a2 m2 k2))) := heap_old (heap_old (heap_new _ _) _) _
 have HE0 : Aside ((((w.alloc (boxC c (.slice a1 m1 k1) (.slice a2 m2 k2))).alloc (boxE x.k x.j x.v x.t x.c)).alloc (boxC Cl.zero nil0 nil0)).heap[w.heap.size + 1]? = some (boxE x.k x.j x.v x.t x.c)) := by
  have := heap_new (w.alloc (boxC c (.slice a1 m1 k1) (.slice a2 m2 k2))) (boxE x.k x.j x.v x.t x.c)
  rw [World.size_alloc] at this
  exact heap_old (this) _
 have HR0 : Aside ((((w.alloc (boxC c (.slice a1 m1 k1) (.slice a2 m2 k2))).alloc (boxE x.k x.j x.v x.t x.c)).alloc (boxC Cl.zero nil0 nil0)).heap[w.heap.size + 1 + 1]? = some (boxC Cl.zero nil0 nil0)) := by
  have := heap_new ((w.alloc (boxC c (.slice a1 m1 k1) (.slice a2 m2 k2))).alloc (boxE x.k x.j x.v x.t x.c)) (boxC Cl.zero nil0 nil0)
  rw [World.size_alloc, World.size_alloc] at this
  exact this
 have kc := cl_check c (.slice a1 m1 k1) (.slice a2 m2 k2) _ (bkAt_later hb HB0.out)
 have kd : ∀ W, Below w.heap.size w W → Calls Tryz.prog 171 #[c.val (.slice a1 m1 k1) (.slice a2 m2 k2), .int .i64 0, En.zero.val, .int .i64 0, .int .i64 0] W fun e w' => ∃ u1 u2, e = .returned ((⟨c.p, 0, En.zero, 0, 0, c.n, c.js, c.rs⟩ : Cl).val u1 u2) ∧ BkT w' u1 u2 c ∧ Below W.heap.size W w' := fun W hB => cl_doing c En.zero 0 0 0 a1 a2 m1 k1 m2 k2 W (bkAt_later hb hB) hn1 hn2
 clear hn1 hn2
 rw [hck] at kc
 have HK : Aside (BkAt w (.slice a1 m1 k1) (.slice a2 m2 k2) c) := hb
 clear hb hck
 have hce : ∀ W, Calls Tryz.prog 115 #[ev x.k x.j x.v x.t x.c] W fun e w' => e = .returned (.int .i64 x.chk) ∧ Below W.heap.size W w' := fun W => check_any x.k x.j x.v x.t x.c W
 rw [hx] at hce
 clear hx
 have hq := fun W => neq_entry x.k x.j x.v x.t x.c c.e.k c.e.j c.e.v c.e.t c.e.c W
 rw [hn] at hq
 clear hn
 go_enter Tryz.func136, Tryz.ntmps136
 go_wp2_with fail
 refine kc.mono ?_
 rintro r w1 ⟨rfl, hb1⟩
 have HX1 : Aside _ := heap_below HX0.out hb1 (heap_lt HX0.out)
 have HE1 : Aside _ := heap_below HE0.out hb1 (heap_lt HE0.out)
 have HR1 : Aside _ := heap_below HR0.out hb1 (heap_lt HR0.out)
 have HB1 : Aside _ := step_below HB0.out hb1
 clear hb1 HB0 HX0 HE0 HR0
 clear kc
 have ze := fun i => Joins.cell_of_block HE1.out i
 go_wp2_with fail
 refine (hce _).mono ?_
 rintro r w2 ⟨rfl, hb2⟩
 have HX2 : Aside _ := heap_below HX1.out hb2 (heap_lt HX1.out)
 have HE2 : Aside _ := heap_below HE1.out hb2 (heap_lt HE1.out)
 have HR2 : Aside _ := heap_below HR1.out hb2 (heap_lt HR1.out)
 have HB2 : Aside _ := step_below HB1.out hb2
 clear hb2 HB1 HX1 HE1 HR1
 clear ze hce
 have z := fun i => Joins.cell_of_block HX2.out i
 have ze := fun i => Joins.cell_of_block HE2.out i
 go_wp2_with fail
 refine (kd w2 HB2.out).mono ?_
 rintro r w4 ⟨u1, u2, rfl, hT4, hb4⟩
 have HR4 : Aside _ := heap_below HR2.out hb4 (heap_lt HR2.out)
 have HB4 : Aside _ := step_below HB2.out hb4
 have HT4 : Aside (BkT w4 u1 u2 c) := hT4
 obtain ⟨s1, o1, s2, o2, rfl, rfl⟩ := bk_slices hT4.1.1 hT4.1.2
 clear hb4 kd HB2 HR2 hT4
 obtain ⟨n1, hn1⟩ : ∃ n, Hid (c.js.length = n) := ⟨_, rfl⟩
 obtain ⟨n2, hn2⟩ : ∃ n, Hid (c.rs.length = n) := ⟨_, rfl⟩
 rw [hn1.out, hn2.out] at HT4 ⊢
 clear z ze hq
 have zr := fun i => Joins.cell_of_block HR4.out i
 have fzr := fun i => Joins.unfrozen_of_block HR4.out i
 go_wp2
 refine ret_st (p := 4) (q := 5) w4 (w.heap.size + 1 + 1) ((⟨c.p, 0, En.zero, 0, 0, c.n, c.js, c.rs⟩ : Cl)) (.slice s1 n1 o1) (.slice s2 n2 o2) (o := Cl.zero) (u1 := nil0) (u2 := nil0) Tryz.results136 rfl rfl rfl HR4.out rfl ?_
 exact ⟨(.slice s1 n1 o1), (.slice s2 n2 o2), rfl, bkT_st12 ⟨_, HR4.out⟩ (bkT_cong HT4.out rfl rfl) _ _ _, st12_below HB4.out (by omega) _ _ _⟩
theorem zh_on1 (c : Cl) (a1 a2 : Option Addr) (m1 k1 m2 k2 : Nat) (x : En) (w : World) (hb : BkAt w (.slice a1 m1 k1) (.slice a2 m2 k2) c) (hck : c.ck = 0) (hx : x.chk = 0) (hd : (c.d != 2) = false) (hn : unlike x.k x.j x.v x.t x.c c.e.k c.e.j c.e.v c.e.t c.e.c = false) (hw : IntKind.i64.wrap (c.l + 1) = c.l + 1) (hl : (c.l + 1 == 3) = false) (hn1 : c.js.length ≤ 1000000) (hn2 : c.rs.length ≤ 1000000) :
  AnsT 136 #[c.val (.slice a1 m1 k1) (.slice a2 m2 k2), x.val] w ((⟨c.p, 2, x, c.a, (c.l + 1), c.n, c.js, c.rs⟩ : Cl), 0) := by
 have HB0 : Aside (Below w.heap.size w (((w.alloc (boxC c (.slice a1 m1 k1) (.slice a2 m2 k2))).alloc (boxE x.k x.j x.v x.t x.c)).alloc (boxC Cl.zero nil0 nil0))) := grew (grew (grew (Below.refl _ _) _) _) _
 have HX0 : Aside ((((w.alloc (boxC c (.slice a1 m1 k1) (.slice a2 m2 k2))).alloc (boxE x.k x.j x.v x.t x.c)).alloc (boxC Cl.zero nil0 nil0)).heap[w.heap.size]? = some (boxC c (.slice a1 m1 k1) (.slice a2 m2 k2))) := heap_old (heap_old (heap_new _ _) _) _
 have HE0 : Aside ((((w.alloc (boxC c (.slice a1 m1 k1) (.slice a2 m2 k2))).alloc (boxE x.k x.j x.v x.t x.c)).alloc (boxC Cl.zero nil0 nil0)).heap[w.heap.size + 1]? = some (boxE x.k x.j x.v x.t x.c)) := by
  have := heap_new (w.alloc (boxC c (.slice a1 m1 k1) (.slice a2 m2 k2))) (boxE x.k x.j x.v x.t x.c)
  rw [World.size_alloc] at this
  exact heap_old (this) _
 have HR0 : Aside ((((w.alloc (boxC c (.slice a1 m1 k1) (.slice a2 m2 k2))).alloc (boxE x.k x.j x.v x.t x.c)).alloc (boxC Cl.zero nil0 nil0)).heap[w.heap.size + 1 + 1]? = some (boxC Cl.zero nil0 nil0)) := by
  have := heap_new ((w.alloc (boxC c (.slice a1 m1 k1) (.slice a2 m2 k2))).alloc (boxE x.k x.j x.v x.t x.c)) (boxC Cl.zero nil0 nil0)
  rw [World.size_alloc, World.size_alloc] at this
  exact this
 have kc := cl_check c (.slice a1 m1 k1) (.slice a2 m2 k2) _ (bkAt_later hb HB0.out)
 have kd : ∀ W, Below w.heap.size w W → Calls Tryz.prog 171 #[c.val (.slice a1 m1 k1) (.slice a2 m2 k2), .int .i64 2, x.val, .int .i64 c.a, .int .i64 (c.l + 1)] W fun e w' => ∃ u1 u2, e = .returned ((⟨c.p, 2, x, c.a, (c.l + 1), c.n, c.js, c.rs⟩ : Cl).val u1 u2) ∧ BkT w' u1 u2 c ∧ Below W.heap.size W w' := fun W hB => cl_doing c x 2 c.a (c.l + 1) a1 a2 m1 k1 m2 k2 W (bkAt_later hb hB) hn1 hn2
 clear hn1 hn2
 rw [hck] at kc
 have HK : Aside (BkAt w (.slice a1 m1 k1) (.slice a2 m2 k2) c) := hb
 clear hb hck
 have hce : ∀ W, Calls Tryz.prog 115 #[ev x.k x.j x.v x.t x.c] W fun e w' => e = .returned (.int .i64 x.chk) ∧ Below W.heap.size W w' := fun W => check_any x.k x.j x.v x.t x.c W
 rw [hx] at hce
 clear hx
 have hq := fun W => neq_entry x.k x.j x.v x.t x.c c.e.k c.e.j c.e.v c.e.t c.e.c W
 rw [hn] at hq
 clear hn
 go_enter Tryz.func136, Tryz.ntmps136
 go_wp2_with fail
 refine kc.mono ?_
 rintro r w1 ⟨rfl, hb1⟩
 have HX1 : Aside _ := heap_below HX0.out hb1 (heap_lt HX0.out)
 have HE1 : Aside _ := heap_below HE0.out hb1 (heap_lt HE0.out)
 have HR1 : Aside _ := heap_below HR0.out hb1 (heap_lt HR0.out)
 have HB1 : Aside _ := step_below HB0.out hb1
 clear hb1 HB0 HX0 HE0 HR0
 clear kc
 have ze := fun i => Joins.cell_of_block HE1.out i
 go_wp2_with fail
 refine (hce _).mono ?_
 rintro r w2 ⟨rfl, hb2⟩
 have HX2 : Aside _ := heap_below HX1.out hb2 (heap_lt HX1.out)
 have HE2 : Aside _ := heap_below HE1.out hb2 (heap_lt HE1.out)
 have HR2 : Aside _ := heap_below HR1.out hb2 (heap_lt HR1.out)
 have HB2 : Aside _ := step_below HB1.out hb2
 clear hb2 HB1 HX1 HE1 HR1
 clear ze hce
 have z := fun i => Joins.cell_of_block HX2.out i
 have ze := fun i => Joins.cell_of_block HE2.out i
 go_wp2_with fail
 refine (kd w2 HB2.out).mono ?_
 rintro r w4 ⟨u1, u2, rfl, hT4, hb4⟩
 have HR4 : Aside _ := heap_below HR2.out hb4 (heap_lt HR2.out)
 have HB4 : Aside _ := step_below HB2.out hb4
 have HT4 : Aside (BkT w4 u1 u2 c) := hT4
 obtain ⟨s1, o1, s2, o2, rfl, rfl⟩ := bk_slices hT4.1.1 hT4.1.2
 clear hb4 kd HB2 HR2 hT4
 obtain ⟨n1, hn1⟩ : ∃ n, Hid (c.js.length = n) := ⟨_, rfl⟩
 obtain ⟨n2, hn2⟩ : ∃ n, Hid (c.rs.length = n) := ⟨_, rfl⟩
 rw [hn1.out, hn2.out] at HT4 ⊢
 clear z ze hq
 have zr := fun i => Joins.cell_of_block HR4.out i
 have fzr := fun i => Joins.unfrozen_of_block HR4.out i
 go_wp2
 refine ret_st (p := 4) (q := 5) w4 (w.heap.size + 1 + 1) ((⟨c.p, 2, x, c.a, (c.l + 1), c.n, c.js, c.rs⟩ : Cl)) (.slice s1 n1 o1) (.slice s2 n2 o2) (o := Cl.zero) (u1 := nil0) (u2 := nil0) Tryz.results136 rfl rfl rfl HR4.out rfl ?_
 exact ⟨(.slice s1 n1 o1), (.slice s2 n2 o2), rfl, bkT_st12 ⟨_, HR4.out⟩ (bkT_cong HT4.out rfl rfl) _ _ _, st12_below HB4.out (by omega) _ _ _⟩
theorem unlike_symm (x y : En) : unlike x.k x.j x.v x.t x.c y.k y.j y.v y.t y.c = y.ne x := by
 cases h : y.ne x with
 | true =>
  cases h2 : unlike x.k x.j x.v x.t x.c y.k y.j y.v y.t y.c with
  | true => rfl
  | false =>
   have e : x = y := ne_false.1 h2
   rw [e, ne_self] at h
   cases h
 | false =>
  have e : y = x := ne_false.1 h
  rw [e]
  exact ne_self x
theorem cl_heard (c : Cl) (x : En) (v1 v2 : Value) (w : World) (hb : BkAt w v1 v2 c) : AnsT 136 #[c.val v1 v2, x.val] w (hearOf c x) := by
 obtain ⟨a1, k1, a2, k2, rfl, rfl⟩ := bk_slices hb.1 hb.2
 unfold hearOf
 by_cases hc : c.ck = 0
 · rw [if_neg (by simpa using hc)]
  have hn1 := (few_of hc).1
  have hn2 := (few_of hc).2
  by_cases hx : x.chk = 0
  · rw [if_neg (by simpa using hx)]
   by_cases hd : c.d = 2
   · have hdb : (c.d != 2) = false := by rw [hd]; rfl
    rw [if_neg (by simpa using hd)]
    have hg := (Cl.good (Cl.ck_zero.1 hc).1).2.2.2.1
    have hw : IntKind.i64.wrap (c.l + 1) = c.l + 1 := by rw [IntKind.wrap_i64]; omega
    by_cases hk : c.e.k = 0
    · have hkb : (c.e.k == 0) = true := by rw [hk]; rfl
     rw [if_neg (fun h => h.1 hk)]
     by_cases hl : c.l = 2
     · have hl3 : (c.l + 1 == 3) = true := by rw [hl]; rfl
      rw [if_pos hl]
      cases hn : c.e.ne x with
      | true => exact zh_last0 c a1 a2 _ k1 _ k2 x w hb hc hx hdb ((unlike_symm x c.e).trans hn) hkb hw hl3 hn1 hn2
      | false => exact zh_last1 c a1 a2 _ k1 _ k2 x w hb hc hx hdb ((unlike_symm x c.e).trans hn) hw hl3 hn1 hn2
     · have hl3 : (c.l + 1 == 3) = false := by rw [beq_eq_false_iff_ne]; omega
      rw [if_neg hl, hd]
      cases hn : c.e.ne x with
      | true => exact zh_on0 c a1 a2 _ k1 _ k2 x w hb hc hx hdb ((unlike_symm x c.e).trans hn) hkb hw hl3 hn1 hn2
      | false => exact zh_on1 c a1 a2 _ k1 _ k2 x w hb hc hx hdb ((unlike_symm x c.e).trans hn) hw hl3 hn1 hn2
    · have hkb : (c.e.k == 0) = false := by rw [beq_eq_false_iff_ne]; exact hk
     cases hn : c.e.ne x with
     | true =>
      rw [if_pos ⟨hk, rfl⟩]
      exact zh_other c a1 a2 _ k1 _ k2 x w hb hc hx hdb ((unlike_symm x c.e).trans hn) hkb hn1 hn2
     | false =>
      rw [if_neg (fun h => by cases h.2)]
      by_cases hl : c.l = 2
      · have hl3 : (c.l + 1 == 3) = true := by rw [hl]; rfl
       rw [if_pos hl]
       exact zh_last1 c a1 a2 _ k1 _ k2 x w hb hc hx hdb ((unlike_symm x c.e).trans hn) hw hl3 hn1 hn2
      · have hl3 : (c.l + 1 == 3) = false := by rw [beq_eq_false_iff_ne]; omega
       rw [if_neg hl, hd]
       exact zh_on1 c a1 a2 _ k1 _ k2 x w hb hc hx hdb ((unlike_symm x c.e).trans hn) hw hl3 hn1 hn2
   · rw [if_pos hd]
    exact ansT_zero <| zh_late c a1 a2 _ k1 _ k2 x w hb hc hx (by rw [bne_iff_ne]; exact hd)
  · rw [if_pos hx]
   exact ansT_zero <| zh_ent c a1 a2 _ k1 _ k2 x w hb hc _ rfl (by rw [bne_iff_ne]; exact hx)
 · rw [if_pos hc]
  exact ansT_zero <| zh_ck c a1 a2 _ k1 _ k2 x w hb _ rfl (by rw [bne_iff_ne]; exact hc)
section
open Go.Shelf
theorem clear_cells {P : Program} (w : World) (t e ty : TypeId) (z : Value) (ht : P.underlying t = some (.slice e)) (hv : ∀ w, (zeroValue e).run P w = .ok z w) (g o n c : Nat) (hn : 0 < n) (cur : List Value) (T : TypeId) (hg : w.heap[g]? = some (.cells cur.toArray T (0, 0)))
  (hfit : o + (Builtin.zeroCells z.cells n).toList.length ≤ cur.length) (h1 : ∀ v ∈ (Builtin.zeroCells z.cells n).toList, v.oneCell' = true) :
  (Builtin.clear_ #[t] ty #[.slice (some ⟨g, o, none⟩) n c]).run P w = .ok (.tuple #[]) (w.setRow g (splice cur o (Builtin.zeroCells z.cells n).toList).toArray) := by
 have hst := run_storeCells_at P g o T (Builtin.zeroCells z.cells n).toList 0 cur.toArray w hg (by simpa using hfit) h1
 simp only [Nat.add_zero] at hst
 obtain ⟨m, rfl⟩ : ∃ m, n = m + 1 := ⟨n - 1, by omega⟩
 simp [Builtin.clear_, run_underlying ht, hv, hst, splice]
theorem zerosJ (n : Nat) : (Builtin.zeroCells (valJ 0 0 0).cells n).toList.length = n * 3 := by
 rw [Array.length_toList, size_zeroCells]
 rfl
theorem zerosJ_one (n : Nat) : ∀ v ∈ (Builtin.zeroCells (valJ 0 0 0).cells n).toList, v.oneCell' = true := by
 intro v hv
 have hm : v ∈ Builtin.zeroCells (valJ 0 0 0).cells n := Array.mem_toList_iff.1 hv
 rw [Builtin.zeroCells, Array.mem_map] at hm
 obtain ⟨i, _, rfl⟩ := hm
 have : ∀ k, k < 3 → (((valJ 0 0 0).cells)[k]!).oneCell' = true := by decide
 exact this _ (Nat.mod_lt _ (by decide))
structure Del (p : Jb → Bool) (js : List Jb) (i j : Nat) (R : List Jb) : Prop where
 len : ((js.take j).filter fun x => !p x).length = i
 lt : i < j
 le : j ≤ js.length
 rest : R.length = js.length - i
 tail : R.drop (j - i) = js.drop j
theorem Del.start {p : Jb → Bool} {js : List Jb} {k : Nat} {x : Jb} (hx : js[k]? = some x) (hp : p x = true) (hb : ∀ y, y ∈ js.take k → p y = false) : Del p js k (k + 1) (js.drop k) ∧ (js.take (k + 1)).filter (fun x => !p x) = js.take k := by
 have hlt := (List.getElem?_eq_some_iff.1 hx).1
 have e : (js.take (k + 1)).filter (fun x => !p x) = js.take k := by
  rw [List.take_add_one, hx, List.filter_append, List.filter_eq_self.2 (fun y hy => by simp [hb y hy])]
  simp [hp]
 refine ⟨⟨by rw [e, List.length_take]; omega, by omega, by omega, by simp, ?_⟩, e⟩
 rw [show k + 1 - k = 1 by omega, List.drop_drop]
theorem Del.keep {p : Jb → Bool} {js R : List Jb} {i j : Nat} {x : Jb} (h : Del p js i j R) (hx : js[j]? = some x) (hp : p x = false) : Del p js (i + 1) (j + 1) (R.drop 1) ∧ (js.take (j + 1)).filter (fun x => !p x) = (js.take j).filter (fun x => !p x) ++ [x] := by
 have hlt := (List.getElem?_eq_some_iff.1 hx).1
 have e : (js.take (j + 1)).filter (fun x => !p x) = (js.take j).filter (fun x => !p x) ++ [x] := by
  rw [List.take_add_one, hx, List.filter_append]
  simp [hp]
 have := h.lt
 refine ⟨⟨by rw [e, List.length_append, h.len]; rfl, by omega, by omega, by rw [List.length_drop, h.rest]; omega, ?_⟩, e⟩
 rw [List.drop_drop, show 1 + (j + 1 - (i + 1)) = (j - i) + 1 by omega, ← List.drop_drop, h.tail, List.drop_drop]
theorem Del.skip {p : Jb → Bool} {js R : List Jb} {i j : Nat} {x : Jb} (h : Del p js i j R) (hx : js[j]? = some x) (hp : p x = true) : Del p js i (j + 1) R ∧ (js.take (j + 1)).filter (fun x => !p x) = (js.take j).filter (fun x => !p x) := by
 have hlt := (List.getElem?_eq_some_iff.1 hx).1
 have e : (js.take (j + 1)).filter (fun x => !p x) = (js.take j).filter (fun x => !p x) := by
  rw [List.take_add_one, hx, List.filter_append]
  simp [hp]
 have := h.lt
 refine ⟨⟨by rw [e, h.len], by omega, by omega, h.rest, ?_⟩, e⟩
 rw [show j + 1 - i = (j - i) + 1 by omega, ← List.drop_drop, h.tail, List.drop_drop]
theorem Del.at {p : Jb → Bool} {js R : List Jb} {i j : Nat} {x : Jb} (h : Del p js i j R) (hx : js[j]? = some x) : ((js.take j).filter (fun x => !p x) ++ R)[j]? = some x := by
 have := h.lt
 rw [List.getElem?_append_right (by rw [h.len]; omega), h.len]
 have e : (R.drop (j - i))[0]? = (js.drop j)[0]? := by rw [h.tail]
 rw [List.getElem?_drop, List.getElem?_drop] at e
 simpa [hx] using e
end
section
open Go.Shelf
theorem sl_beside {α : Type} {cs : α → List Value} {k : Nat} {w : World} {b n c : Nat} {xs : List α} (h : SlOf cs k w (.slice (some ⟨b, 0, none⟩) n c) xs) {g o : Nat} (hne : g ≠ b) (v : Value) : SlOf cs k (w.setCell ⟨g, o, none⟩ v) (.slice (some ⟨b, 0, none⟩) n c) xs := by
 obtain ⟨a, c', hv, hh⟩ := h
 refine ⟨a, c', hv, ?_⟩
 injection hv with h1 _ _
 rcases hh with hh | ⟨b', off, ha, hE⟩
 · exact Or.inl hh
 · refine Or.inr ⟨b', off, ha, fun j e hj i u hi => ?_⟩
  rw [ha] at h1
  injection h1 with h1
  injection h1 with h1 _ _
  subst h1
  rw [World.cell?_of_block (Below.heap_setCell _ _ _ _ (by exact fun e => hne e.symm))]
  exact hE j e hj i u hi
theorem zeroJ : ∀ w, (zeroValue 120).run Tryz.prog w = .ok (valJ 0 0 0) w := by
 intro w
 obtain ⟨i0, hi, hz0, _, _⟩ := info_parts infoJ
 simp [zeroValue, typeInfo, hi, hz0]
theorem delG (p : Jb → Bool) (g : Nat) (lb : Array Value) (eg : ∀ args w, (callFunc g args).run Tryz.prog w = .ok (.enter g args) w) (eb : Nat) (eo : Obj) (gb c : Nat) (js : List Jb) (w : World) (hne : eb ≠ gb) (he : w.heap[eb]? = some eo)
  (hg : w.heap[gb]? = some (.cells (js.flatMap Jb.cells).toArray 120)) (hn : js.length ≤ 1000000) (hc : js.length ≤ c)
  (hp : ∀ (W : World) (x : Jb), W.heap[eb]? = some eo → Calls Tryz.prog g (#[x.val] ++ lb) W fun e w' => e = .returned (.bool (p x)) ∧ Below W.heap.size W w') :
  Calls Tryz.prog 201 #[.slice (some ⟨gb, 0, none⟩) js.length c, .func (.func g) #[] lb] w fun e w' => e = .returned (.slice (some ⟨gb, 0, none⟩) (js.filter fun x => !p x).length c) ∧ (∃ tl, w'.heap[gb]? = some (.cells ((js.filter fun x => !p x).flatMap Jb.cells ++ tl).toArray 120)) ∧ Kept [gb] w w' := by
 have hsl : JobSl w (.slice (some ⟨gb, 0, none⟩) js.length c) js := slOf_block Jb.three hg ⟨[], by simp⟩
 have hidx := idxFJ p g lb eg _ js w hsl (by unfold most; omega) (fun W x hb => (hp W x (heap_below he hb (heap_lt he))).mono fun e w' ⟨h1, h2⟩ => ⟨h1, hb.trans (h2.mono hb.size)⟩)
 have HP : Aside _ := hp
 have HG : Aside _ := hg
 have HE : Aside _ := he
 clear hp hg he
 rcases idx_ways p js with ⟨hi, hall⟩ | ⟨k, x0, hi, hk, hx, hpx, hbef⟩
 · rw [hi] at hidx
  have hf : js.filter (fun x => !p x) = js := List.filter_eq_self.2 (fun x hx => by simp [hall x hx])
  rw [hf]
  obtain ⟨n, hnn⟩ : ∃ n, Hid (js.length = n) := ⟨_, rfl⟩
  rw [hnn.out] at hidx hn hc hsl ⊢
  clear hi hall hf hsl
  go_enter Tryz.func201, Tryz.ntmps201
  go_wp2_with (go_at_call 175; refine hidx.mono ?_; rintro e w' ⟨rfl, hb'⟩)
  go_ret
  exact ⟨rfl, ⟨[], by rw [List.append_nil]; exact heap_below HG.out hb' (heap_lt HG.out)⟩, (Kept.refl _ _).below hb'⟩
 · rw [hi] at hidx
  obtain ⟨hd, he0⟩ := Del.start hx hpx hbef
  have HD : Aside (Del p js k (k + 1) (js.drop k) ∧ (js.take (k + 1)).filter (fun x => !p x) ++ js.drop k = js) := ⟨hd, by rw [he0, List.take_append_drop]⟩
  obtain ⟨n, hnn⟩ : ∃ n, Hid (js.length = n) := ⟨_, rfl⟩
  rw [hnn.out] at hidx hn hc hk ⊢
  have hkm : ((k : Int) == -1) = false := by rw [beq_eq_false_iff_ne]; omega
  clear hi hx hpx hbef hd he0 hsl
  obtain ⟨off, hoff⟩ : ∃ off : Nat, Hid (0 = off) := ⟨_, rfl⟩
  rw [hoff.out] at hidx ⊢
  go_enter Tryz.func201, Tryz.ntmps201
  go_wp2_with (go_at_call 175; refine hidx.mono ?_; rintro e w' ⟨rfl, hb'⟩)
  go_loopg [5, 6, 7] n (fun gg s5 s6 _ wr => ∃ (i j : Nat) (R : List Jb), s5 = .int .i64 i ∧ s6 = .int .i64 j ∧ i < j ∧ j ≤ n ∧ n - j ≤ gg ∧ Aside (Del p js i j R) ∧ Aside (wr.heap[gb]? = some (.cells (((js.take j).filter (fun x => !p x) ++ R).flatMap Jb.cells).toArray 120)) ∧ Aside (wr.heap[eb]? = some eo) ∧ Aside (Kept [gb] w wr))
  case atStart =>
   refine ⟨k, k + 1, js.drop k, rfl, by go_num, by omega, by omega, by omega, HD.out.1, ?_, heap_below HE.out hb' (heap_lt HE.out), (Kept.refl _ _).below hb'⟩
   show _ = _
   rw [HD.out.2]
   exact heap_below HG.out hb' (heap_lt HG.out)
  case round =>
   obtain ⟨i, j, R, rfl, rfl, hij, hjn, hgg, D, G, E, KK⟩ := hrel
   by_cases hlt : j < n
   · obtain ⟨x, hx⟩ : ∃ x, js[j]? = some x := ⟨js[j]'(by have := hnn.out; omega), List.getElem?_eq_getElem _⟩
    have hrow : RowAt Jb.cells 3 wr gb off ((js.take j).filter (fun x => !p x) ++ R) := by rw [← hoff.out]; exact rowAt_block Jb.three G.out ⟨[], by simp⟩
    have hat := D.out.at hx
    have c0 : wr.cell? ⟨gb, off + j * 3, none⟩ = some (.int .i64 x.i) := hrow j x hat 0 _ rfl
    have c1 : wr.cell? ⟨gb, off + j * 3 + 1, none⟩ = some (.int .i64 x.e) := hrow j x hat 1 _ rfl
    have c2 : wr.cell? ⟨gb, off + j * 3 + 2, none⟩ = some (.int .i64 x.n) := hrow j x hat 2 _ rfl
    have hcall := HP.out (wr.alloc (boxJ x)) x (heap_old E.out _)
    have hgl := heap_lt G.out
    cases hq : p x with
    | false =>
     rw [hq] at hcall
     obtain ⟨D', e'⟩ := D.out.keep hx hq
     have hR0 : 0 < R.length := by rw [D.out.rest, hnn.out]; omega
     obtain ⟨r, R', rfl⟩ : ∃ r R', R = r :: R' := by
      cases R with
      | nil => simp at hR0
      | cons r R' => exact ⟨r, R', rfl⟩
     have DD : Aside (Del p js (i + 1) (j + 1) R') := by have := D'; simp only [List.drop_one, List.tail_cons] at this; exact this
     have hli := D.out.len
     have hLL : off + i * 3 + 2 < ((List.filter (fun x => !p x) (List.take j js) ++ r :: R').flatMap Jb.cells).length := by
      rw [row_len Jb.three, List.length_append, hli, ← hoff.out, List.length_cons]; omega
     have hsp : Hid (splice ((List.filter (fun x => !p x) (List.take j js) ++ r :: R').flatMap Jb.cells) (off + i * 3) [.int .i64 x.i, .int .i64 x.e, .int .i64 x.n] = (List.filter (fun x => !p x) (List.take (j + 1) js) ++ R').flatMap Jb.cells) := by
      have := splice_flat Jb.three (List.filter (fun x => !p x) (List.take j js)) R' r x
      rw [hli] at this
      rw [Hid, ← hoff.out, Nat.zero_add, e', List.append_assoc]
      exact this
     generalize ((List.filter (fun x => !p x) (List.take j js) ++ r :: R').flatMap Jb.cells) = L at *
     clear hx hat hrow D D' e' hR0 hli hq
     go_wp2_with fail
     refine hcall.mono ?_
     rintro e w1 ⟨rfl, hb1⟩
     have hs1 : wr.heap.size < w1.heap.size := by have := hb1.size; rw [World.size_alloc] at this; omega
     have x1 : w1.heap[wr.heap.size]? = some (boxJ x) := heap_below (heap_new _ _) hb1 (by rw [World.size_alloc]; omega)
     have g1 : w1.heap[gb]? = some (.cells L.toArray 120) := heap_below (heap_old G.out _) hb1 (by rw [World.size_alloc]; omega)
     have E1 : Aside (w1.heap[eb]? = some eo) := heap_below (heap_old E.out _) hb1 (by rw [World.size_alloc]; have := heap_lt E.out; omega)
     have K1 : Aside (Kept [gb] w w1) := (KK.out.alloc _).below hb1
     have y1 := fun i => Joins.cell_of_block x1 i
     obtain ⟨z0, k0⟩ : ∃ z, w1.cell? ⟨gb, off + i * 3, none⟩ = some z := ⟨_, by rw [Joins.cell_of_block g1]; simp; exact List.getElem?_eq_getElem (by omega)⟩
     obtain ⟨z1, k1⟩ : ∃ z, w1.cell? ⟨gb, off + i * 3 + 1, none⟩ = some z := ⟨_, by rw [Joins.cell_of_block g1]; simp; exact List.getElem?_eq_getElem (by omega)⟩
     obtain ⟨z2, k2⟩ : ∃ z, w1.cell? ⟨gb, off + i * 3 + 2, none⟩ = some z := ⟨_, by rw [Joins.cell_of_block g1]; simp; exact List.getElem?_eq_getElem (by omega)⟩
     have f0 := fun i => Joins.unfrozen_of_block g1 i
     have G2 := block_three g1 (.int .i64 x.i) (.int .i64 x.e) (.int .i64 x.n) hLL
     rw [hsp.out] at G2
     have K2 := ((K1.out.setCell (g := gb) (o := off + i * 3) (by simp) (.int .i64 x.i)).setCell (g := gb) (o := off + i * 3 + 1) (by simp) (.int .i64 x.e)).setCell (g := gb) (o := off + i * 3 + 2) (by simp) (.int .i64 x.n)
     have E2 : (((w1.setCell ⟨gb, off + i * 3, none⟩ (.int .i64 x.i)).setCell ⟨gb, off + i * 3 + 1, none⟩ (.int .i64 x.e)).setCell ⟨gb, off + i * 3 + 2, none⟩ (.int .i64 x.n)).heap[eb]? = some eo := by
      rw [Below.heap_setCell _ _ _ _ (by exact hne), Below.heap_setCell _ _ _ _ (by exact hne), Below.heap_setCell _ _ _ _ (by exact hne)]; exact E1.out
     replace G2 : Aside _ := G2
     replace K2 : Aside _ := K2
     replace E2 : Aside _ := E2
     clear hb1 hcall x1 g1 E1 K1 G E KK c0 c1 c2 HP HE HG HD hidx hb'
     go_wp2
     go_roundg (n - (j + 1))
     case measure => omega
     case rel => exact ⟨i + 1, j + 1, R', by go_num, by go_num, by omega, by omega, by omega, DD, G2, E2, K2⟩
    | true =>
     rw [hq] at hcall
     obtain ⟨D', e'⟩ := D.out.skip hx hq
     replace D' : Aside _ := D'
     have G' : Aside (wr.heap[gb]? = some (.cells (((js.take (j + 1)).filter (fun x => !p x) ++ R).flatMap Jb.cells).toArray 120)) := by rw [e']; exact G.out
     clear hx hat hrow D e' hq G
     go_wp2_with fail
     refine hcall.mono ?_
     rintro e w1 ⟨rfl, hb1⟩
     have G1 : Aside (w1.heap[gb]? = _) := heap_below (heap_old G'.out _) hb1 (by rw [World.size_alloc]; omega)
     have E1 : Aside (w1.heap[eb]? = some eo) := heap_below (heap_old E.out _) hb1 (by rw [World.size_alloc]; have := heap_lt E.out; omega)
     have K1 : Aside (Kept [gb] w w1) := (KK.out.alloc _).below hb1
     clear hb1 hcall G' E KK c0 c1 c2 HP HE HG HD hidx hb'
     go_wp2
     go_roundg (n - (j + 1))
     case measure => omega
     case rel => exact ⟨i, j + 1, R, rfl, by go_num, by omega, by omega, by omega, D', G1, E1, K1⟩
   · obtain rfl : j = n := by omega
    have hli := D.out.len
    have hrest := D.out.rest
    have hfull : js.take j = js := List.take_of_length_le (by have := hnn.out; omega)
    rw [hfull] at hli
    have G0 := G.out
    rw [hfull] at G0
    have hL : (((js.filter (fun x => !p x)) ++ R).flatMap Jb.cells).length = j * 3 := by
     rw [row_len Jb.three, List.length_append, hli, hrest, hnn.out]; omega
    have hcl := fun ty => clear_cells (P := Tryz.prog) wr 36 120 ty (valJ 0 0 0) Tryz.underlying36 zeroJ gb (i * 3) (j - i) (c - i) (by omega) _ 120 G0 (by rw [hL, zerosJ]; omega) (zerosJ_one _)
    have hsl : Aside (∃ tl, (wr.setRow gb (splice (((js.filter (fun x => !p x)) ++ R).flatMap Jb.cells) (i * 3) (Builtin.zeroCells (valJ 0 0 0).cells (j - i)).toList).toArray).heap[gb]? = some (.cells ((js.filter fun x => !p x).flatMap Jb.cells ++ tl).toArray 120)) := by
     refine ⟨(Builtin.zeroCells (valJ 0 0 0).cells (j - i)).toList, (setRow_heap wr gb _ _ _ _ G0).trans ?_⟩
     · refine congrArg (fun l : List Value => some (Obj.cells l.toArray 120)) ?_
      have hfl : ((js.filter (fun x => !p x)).flatMap Jb.cells).length = i * 3 := by rw [row_len Jb.three, hli]
      have hz := zerosJ (j - i)
      unfold splice
      rw [List.flatMap_append, List.take_append_of_le_length (by omega), List.take_of_length_le (by omega), hz, List.drop_of_length_le (by rw [← List.flatMap_append, hL]; omega), List.append_nil]
    have K2 : Aside (Kept [gb] w (wr.setRow gb (splice (((js.filter (fun x => !p x)) ++ R).flatMap Jb.cells) (i * 3) (Builtin.zeroCells (valJ 0 0 0).cells (j - i)).toList).toArray)) := KK.out.setRow (by simp) _
    generalize (splice (((js.filter (fun x => !p x)) ++ R).flatMap Jb.cells) (i * 3) (Builtin.zeroCells (valJ 0 0 0).cells (j - i)).toList).toArray = Z at *
    have HL : Hid ((js.filter fun x => !p x).length = i) := hli
    have hz0 : 0 = off := hoff.out
    subst hz0
    clear hli hrest hfull G0 hL D G E KK HP HE HG HD hidx hb'
    go_wp2
    go_ret
    exact ⟨by rw [HL.out]; rfl, hsl.out, K2.out⟩
theorem delJ (p : Jb → Bool) (g : Nat) (lb : Array Value) (eg : ∀ args w, (callFunc g args).run Tryz.prog w = .ok (.enter g args) w) (eb : Nat) (eo : Obj) (gb c : Nat) (js : List Jb) (w : World) (hne : eb ≠ gb) (he : w.heap[eb]? = some eo)
  (hg : w.heap[gb]? = some (.cells (js.flatMap Jb.cells).toArray 120)) (hn : js.length ≤ 1000000) (hc : js.length ≤ c)
  (hp : ∀ (W : World) (x : Jb), W.heap[eb]? = some eo → Calls Tryz.prog g (#[x.val] ++ lb) W fun e w' => e = .returned (.bool (p x)) ∧ Below W.heap.size W w') :
  Calls Tryz.prog 201 #[.slice (some ⟨gb, 0, none⟩) js.length c, .func (.func g) #[] lb] w fun e w' => e = .returned (.slice (some ⟨gb, 0, none⟩) (js.filter fun x => !p x).length c) ∧ (JobSl w' (.slice (some ⟨gb, 0, none⟩) (js.filter fun x => !p x).length c) (js.filter fun x => !p x) ∧ Typed 120 w' (.slice (some ⟨gb, 0, none⟩) (js.filter fun x => !p x).length c)) ∧ Kept [gb] w w' :=
 (delG p g lb eg eb eo gb c js w hne he hg hn hc hp).mono fun _ _ ⟨h1, ⟨tl, h2⟩, h3⟩ => ⟨h1, ⟨slOf_block Jb.three h2 ⟨tl, rfl⟩, typed_block h2 _ _ _⟩, h3⟩
theorem drop_pred (x : En) (eb : Nat) (W : World) (y : Jb) (h : W.heap[eb]? = some (boxE x.k x.j x.v x.t x.c)) :
  Calls Tryz.prog 266 (#[y.val] ++ #[.pointer (some ⟨eb, 0, none⟩)]) W fun e w' => e = .returned (.bool (y.i == x.j)) ∧ Below W.heap.size W w' := by
 have hlt := heap_lt h
 have hne : eb ≠ W.heap.size := by omega
 have c0 := fun i => Joins.cell_of_block h i
 show Calls Tryz.prog 266 #[y.val, .pointer (some ⟨eb, 0, none⟩)] W _
 go_enter Tryz.func266, Tryz.ntmps266
 go_wp2
 all_goals (go_ret; exact ⟨by simp_all, grew (Below.refl _ _) _⟩)
structure Own (w : World) (ab gj gr : Nat) (js : List Jb) (rs : List Rg) : Prop where
 head : w.heap[ab]? = some (boxB (.slice (some ⟨gj, 0, none⟩) js.length js.length) (.slice (some ⟨gr, 0, none⟩) rs.length rs.length))
 jobs : w.heap[gj]? = some (.cells (js.flatMap Jb.cells).toArray 120)
 rungs : w.heap[gr]? = some (.cells (rs.flatMap Rg.cells).toArray 76)
theorem Own.ne1 {w : World} {ab gj gr : Nat} {js : List Jb} {rs : List Rg} (h : Own w ab gj gr js rs) : ab ≠ gj := fun e => by
 have h1 := h.head
 have h2 := h.jobs
 rw [e, h2] at h1
 injection h1 with h1
 injection h1 with _ h1 _
 revert h1
 decide
theorem Own.ne2 {w : World} {ab gj gr : Nat} {js : List Jb} {rs : List Rg} (h : Own w ab gj gr js rs) : ab ≠ gr := fun e => by
 have h1 := h.head
 have h2 := h.rungs
 rw [e, h2] at h1
 injection h1 with h1
 injection h1 with _ h1 _
 revert h1
 decide
theorem Own.ne3 {w : World} {ab gj gr : Nat} {js : List Jb} {rs : List Rg} (h : Own w ab gj gr js rs) : gj ≠ gr := fun e => by
 have h1 := h.jobs
 have h2 := h.rungs
 rw [e, h2] at h1
 injection h1 with h1
 injection h1 with _ h1 _
 revert h1
 decide
theorem Own.later {w w' : World} {ab gj gr : Nat} {js : List Jb} {rs : List Rg} (h : Own w ab gj gr js rs) (hb : Below w.heap.size w w') : Own w' ab gj gr js rs :=
 ⟨heap_below h.head hb (heap_lt h.head), heap_below h.jobs hb (heap_lt h.jobs), heap_below h.rungs hb (heap_lt h.rungs)⟩
theorem Own.sj {w : World} {ab gj gr : Nat} {js : List Jb} {rs : List Rg} (h : Own w ab gj gr js rs) : JobSl w (.slice (some ⟨gj, 0, none⟩) js.length js.length) js := slOf_block Jb.three h.jobs ⟨[], by simp⟩
theorem Own.sr {w : World} {ab gj gr : Nat} {js : List Jb} {rs : List Rg} (h : Own w ab gj gr js rs) : RungSl w (.slice (some ⟨gr, 0, none⟩) rs.length rs.length) rs := slOf_block Rg.three h.rungs ⟨[], by simp⟩
structure Left (w w' : World) (ab : Nat) (S : List Nat) (js : List Jb) (rs : List Rg) (u1 u2 : Value) : Prop where
 head : w'.heap[ab]? = some (boxB u1 u2)
 jobs : JobSl w' u1 js
 rungs : RungSl w' u2 rs
 room : Roomy u2
 kept : Kept S w w'
 tj : Typed 120 w' u1
 tr : Typed 76 w' u2
theorem Own.tj {w : World} {ab gj gr : Nat} {js : List Jb} {rs : List Rg} (h : Own w ab gj gr js rs) (n c : Nat) : Typed 120 w (.slice (some ⟨gj, 0, none⟩) n c) := typed_block h.jobs _ _ _
theorem Own.tr {w : World} {ab gj gr : Nat} {js : List Jb} {rs : List Rg} (h : Own w ab gj gr js rs) (n c : Nat) : Typed 76 w (.slice (some ⟨gr, 0, none⟩) n c) := typed_block h.rungs _ _ _
theorem drop_any (x : En) (ab gj gr : Nat) (js : List Jb) (rs : List Rg) (w : World) (h : Own w ab gj gr js rs) (hn : js.length ≤ 6) :
  Calls Tryz.prog 231 #[.pointer (some ⟨ab, 0, none⟩), x.val] w fun e w' => e = .returned (.tuple #[]) ∧ ∃ u1 u2, Left w w' ab [ab, gj] (js.filter fun y => !(y.i == x.j)) rs u1 u2 := by
 have n1 := h.ne1
 have n3 := h.ne3
 have n2 := h.ne2
 have hB := grew (Below.refl w.heap.size w) (boxE x.k x.j x.v x.t x.c)
 have h' := h.later hB
 have eg : ∀ args w, (callFunc 266 args).run Tryz.prog w = .ok (.enter 266 args) w := enters_of Tryz.func266 (by kernel_rfl) rfl
 have hdel := delJ (fun y => y.i == x.j) 266 #[.pointer (some ⟨w.heap.size, 0, none⟩)] eg w.heap.size _ gj js.length js _ (by have := heap_lt h.jobs; omega) (heap_new w (boxE x.k x.j x.v x.t x.c)) h'.jobs (by omega) (Nat.le_refl _) (fun W y hW => drop_pred x w.heap.size W y hW)
 have x1 := h'.head
 have hal := heap_lt h.head
 have HA : Aside (Own (w.alloc (boxE x.k x.j x.v x.t x.c)) ab gj gr js rs) := h'
 have y1 : ∀ i, (w.alloc (boxE x.k x.j x.v x.t x.c)).cell? ⟨ab, i, none⟩ = #[Value.slice (some ⟨gj, 0, none⟩) js.length js.length, .slice (some ⟨gr, 0, none⟩) rs.length rs.length][i]? := fun i => Joins.cell_of_block x1 i
 have yw := fun i => Joins.cell_of_block h.head i
 have hane : ab ≠ w.heap.size := by omega
 obtain ⟨n, hnn⟩ : ∃ n, Hid (js.length = n) := ⟨_, rfl⟩
 obtain ⟨m, hmm⟩ : ∃ m, Hid (rs.length = m) := ⟨_, rfl⟩
 rw [hnn.out, hmm.out] at y1 yw
 rw [hnn.out] at hdel hn
 obtain ⟨F, hF⟩ : ∃ F, Hid (js.filter (fun y => !(y.i == x.j)) = F) := ⟨_, rfl⟩
 rw [hF.out] at hdel ⊢
 clear h h' x1 hB
 go_enter Tryz.func231, Tryz.ntmps231
 go_wp2_with fail
 refine hdel.mono ?_
 rintro e w1 ⟨rfl, ⟨J1, T1⟩, K1⟩
 have hA1 : w1.heap[ab]? = some (boxB (.slice (some ⟨gj, 0, none⟩) n n) (.slice (some ⟨gr, 0, none⟩) m m)) := by
  rw [← hnn.out, ← hmm.out]
  exact K1.old HA.out.head (by simpa using n1)
 have T2 : Aside (Typed 120 (w1.setCell ⟨ab, 0, none⟩ (.slice (some ⟨gj, 0, none⟩) F.length n)) (.slice (some ⟨gj, 0, none⟩) F.length n) ∧ Typed 76 (w1.setCell ⟨ab, 0, none⟩ (.slice (some ⟨gj, 0, none⟩) F.length n)) (.slice (some ⟨gr, 0, none⟩) m m)) :=
  ⟨T1.setCell _ _ _, (typed_block (K1.old HA.out.rungs (by simpa using Ne.symm n3)) _ _ _).setCell _ _ _⟩
 have R1 : RungSl w1 (.slice (some ⟨gr, 0, none⟩) m m) rs := by
  rw [← hmm.out]
  exact slOf_block Rg.three (K1.old HA.out.rungs (by simpa using Ne.symm n3)) ⟨[], by simp⟩
 have z1 := fun i => Joins.cell_of_block hA1 i
 have f1 := fun i => Joins.unfrozen_of_block hA1 i
 have hA2 := Joins.block_setCell (i := 0) hA1 (.slice (some ⟨gj, 0, none⟩) F.length n)
 have J2 : Aside (JobSl (w1.setCell ⟨ab, 0, none⟩ (.slice (some ⟨gj, 0, none⟩) F.length n)) (.slice (some ⟨gj, 0, none⟩) F.length n) F) := sl_beside J1 n1 _
 have R2 : Aside (RungSl (w1.setCell ⟨ab, 0, none⟩ (.slice (some ⟨gj, 0, none⟩) F.length n)) (.slice (some ⟨gr, 0, none⟩) m m) rs) := sl_beside R1 n2 _
 have K2 : Aside (Kept [ab, gj] w (w1.setCell ⟨ab, 0, none⟩ (.slice (some ⟨gj, 0, none⟩) F.length n))) := by
  have k0 : Kept [ab, gj] w w1 := by
   have ka := grew (Below.refl w.heap.size w) (boxE x.k x.j x.v x.t x.c)
   exact ⟨K1.os, K1.tape, K1.output, Nat.le_trans ka.size K1.size, fun k hk hS => (K1.block k (Nat.lt_of_lt_of_le hk ka.size) (by simp at hS ⊢; exact hS.2)).trans (ka.block k hk)⟩
  exact k0.setCell (by simp) _
 replace hA2 : Aside _ := hA2
 clear hdel J1 R1 K1 hA1 HA y1 yw T1
 go_wp2
 exact bodyPost_end (v := .tuple #[]) (by simp [results, go_sem]) rfl ⟨rfl, _, _, ⟨hA2.out, J2.out, R2.out, ⟨_, _, _, rfl, Nat.le_refl _⟩, K2.out, T2.out.1, T2.out.2⟩⟩
end
section
open Go.Shelf
theorem owns_of_block {w : World} {base gb : Nat} {js : List Jb} (hb : base ≤ gb) (hg : w.heap[gb]? = some (.cells (js.flatMap Jb.cells).toArray 120)) (hn : js.length ≤ 1000000) :
  w.ownsRow base 120 3 (.slice (some ⟨gb, 0, none⟩) js.length js.length) js.length (js.flatMap Jb.cells) := by
 have hl := row_len Jb.three js
 refine ⟨hl, .inr ⟨gb, js.length, _, rfl, hb, hg, Nat.le_refl _, by unfold maxLen; omega, by simpa using hl, ?_⟩⟩
 exact List.take_of_length_le (by simpa using Nat.le_of_eq hl)
theorem insEnd (z : Jb) (gb vb : Nat) (js : List Jb) (w : World) (hg : w.heap[gb]? = some (.cells (js.flatMap Jb.cells).toArray 120)) (hv : w.heap[vb]? = some (.cells #[.int .i64 z.i, .int .i64 z.e, .int .i64 z.n] 120)) (hn : js.length ≤ 6) :
  Calls Tryz.prog 265 #[.slice (some ⟨gb, 0, none⟩) js.length js.length, .int .i64 js.length, .slice (some ⟨vb, 0, none⟩) 1 1] w fun e w' => ∃ u, e = .returned u ∧ (JobSl w' u (js ++ [z]) ∧ Typed 120 w' u) ∧ Kept [gb] w w' := by
 obtain ⟨i0, hi, hz0, hz1, hz2⟩ := info_parts infoJ
 have hown := owns_of_block (base := gb) (Nat.le_refl _) hg (by omega)
 have hgl := heap_lt hg
 have hl : (js ++ [z]).length = js.length + 1 := by simp
 have hfl : (js ++ [z]).flatMap Jb.cells = js.flatMap Jb.cells ++ z.cells := by simp
 have hnews : ∀ j u, z.cells[j]? = some u → w.cell? ((⟨vb, 0, none⟩ : Addr).add j) = some u := fun j u hj => by
  rw [Lib.add_plain, Joins.cell_of_block hv, Nat.zero_add]
  simpa [Jb.cells] using hj
 have hone : ∀ u ∈ z.cells, u.oneCell' = true := fun u hu => oneJ [z] u (by simpa using hu)
 have HL : Aside (∀ v' w', w'.ownsRow gb 120 3 v' (js.length + 1) (js.flatMap Jb.cells ++ z.cells) → JobSl w' v' (js ++ [z]) ∧ Typed 120 w' v') := fun v' w' h => by
  rw [← hl, ← hfl] at h
  exact ⟨slOf_of_owns Jb.three h, typed_owns h⟩
 obtain ⟨n, hnn⟩ : ∃ n, Hid (js.length = n) := ⟨_, rfl⟩
 rw [hnn.out] at hown hn HL ⊢
 obtain ⟨fl, hff⟩ : ∃ fl, Hid (js.flatMap Jb.cells = fl) := ⟨_, rfl⟩
 rw [hff.out] at hown HL
 have hzl : z.cells.length = 1 * 3 := rfl
 generalize z.cells = zc at *
 clear hg hv hl hfl
 go_enter Tryz.func265, Tryz.ntmps265
 go_wp2_with (at_builtin; refine wpList_append_own _ rfl _ _ 36 rfl gb 120 i0 (valJ 0 0 0) 3 24 Tryz.underlying36 hi hz0 hz1 hz2 rfl (by decide) (.slice (some ⟨gb, 0, none⟩) n n) n fl rfl hown ⟨vb, 0, none⟩ 1 1 zc rfl hzl hnews hone (by unfold maxLen; omega) (by omega) (by omega) ?_)
 intro v' w' hown' hgrow hiff
 have J : Aside (JobSl w' v' (js ++ [z]) ∧ Typed 120 w' v') := HL.out v' w' hown'
 have K : Aside (Kept [gb] w w') := ⟨hgrow.os, hgrow.tape, hgrow.output, hgrow.size, fun k hk hS => hgrow.block k hk (fun e => hS (by simp [Value.ownBlock] at e; simp [e]))⟩
 clear hown' hgrow hiff hown hnews hone hi hz0 hz1 hz2
 go_wp2
 go_ret
 exact ⟨_, rfl, J.out, K.out⟩
theorem splice_twoJ {α : Type} {A Z B C : List α} {a b : Nat} (ha : A.length = a) (hb : B.length = b) : splice (splice (A ++ Z) a B) (a + b) C = A ++ B ++ C ++ Z.drop (b + C.length) := by
 subst ha hb
 have e1 : splice (A ++ Z) A.length B = A ++ B ++ Z.drop B.length := by
  simp [splice, List.drop_append]
 rw [e1]
 have e2 : (A ++ B ++ Z.drop B.length).take (A.length + B.length) = A ++ B := List.take_left' (by simp)
 have e3 : (A ++ B ++ Z.drop B.length).drop (A.length + B.length + C.length) = Z.drop (B.length + C.length) := by
  rw [← List.drop_drop, List.drop_left' (by simp), List.drop_drop]
 rw [splice, e2, e3]
 simp
theorem insMid (z : Jb) (gb vb k : Nat) (js : List Jb) (w : World) (hk : k < js.length) (hg : w.heap[gb]? = some (.cells (js.flatMap Jb.cells).toArray 120)) (hv : w.heap[vb]? = some (.cells #[.int .i64 z.i, .int .i64 z.e, .int .i64 z.n] 120)) (hn : js.length ≤ 6) :
  Calls Tryz.prog 265 #[.slice (some ⟨gb, 0, none⟩) js.length js.length, .int .i64 k, .slice (some ⟨vb, 0, none⟩) 1 1] w fun e w' => ∃ u, e = .returned u ∧ (JobSl w' u (js.take k ++ z :: js.drop k) ∧ Typed 120 w' u) ∧ Kept [gb] w w' := by
 obtain ⟨i0, hi, hz0, hz1, hz2⟩ := info_parts infoJ
 have hgl := heap_lt hg
 have hvl := heap_lt hv
 obtain ⟨n, hnn⟩ : ∃ n, Hid (js.length = n) := ⟨_, rfl⟩
 have h1 : ((js.take k).flatMap Jb.cells).length = k * 3 := by rw [row_len Jb.three, List.length_take]; congr 1; omega
 have h2 : ((js.drop k).flatMap Jb.cells).length = (n - k) * 3 := by rw [row_len Jb.three, List.length_drop, hnn.out]
 have hrow : RowAt Jb.cells 3 w gb 0 js := rowAt_block Jb.three hg ⟨[], by simp⟩
 have hc1 := rows_flat Jb.three (js.take k) 0 (hrow.take k)
 have hc2 := rows_flat Jb.three (js.drop k) (0 + k * 3) (hrow.drop k)
 have ho1 := oneJ (js.take k)
 have ho2 := oneJ (js.drop k)
 have hoz : ∀ u ∈ z.cells, u.oneCell' = true := fun u hu => oneJ [z] u (by simpa using hu)
 have hzc : ∀ j u, z.cells[j]? = some u → w.cell? ⟨vb, 0 + j, none⟩ = some u := fun j u hj => by
  rw [Joins.cell_of_block hv, Nat.zero_add]
  simpa [Jb.cells] using hj
 have hzl : z.cells.length = 3 := rfl
 have hfin : Aside (∀ (u : Nat) (w' : World) (t : List Value) (c : Nat), w'.heap[u]? = some (.cells ((js.take k).flatMap Jb.cells ++ z.cells ++ (js.drop k).flatMap Jb.cells ++ t).toArray 120) → JobSl w' (.slice (some ⟨u, 0, none⟩) (n + 1) c) (js.take k ++ z :: js.drop k) ∧ Typed 120 w' (.slice (some ⟨u, 0, none⟩) (n + 1) c)) := fun u w' t c h => by
  have := slOf_block (c := c) Jb.three (xs := js.take k ++ z :: js.drop k) h ⟨t, by simp⟩
  rw [show (js.take k ++ z :: js.drop k).length = n + 1 by rw [← hnn.out]; simp; omega] at this
  exact ⟨this, typed_block h _ _ _⟩
 rw [hnn.out] at hk hn ⊢
 generalize (js.take k).flatMap Jb.cells = A at *
 generalize (js.drop k).flatMap Jb.cells = C at *
 generalize z.cells = Bz at *
 obtain ⟨q, hq⟩ : ∃ q, n + 1 = k + q := ⟨n + 1 - k, by omega⟩
 have hold : (Builtin.firstCells i0.size k (.slice (some ⟨gb, 0, none⟩) k n)).run Tryz.prog w.drew = .ok A.toArray w.drew := by
  rw [hz1]
  exact run_firstCells_some w.drew 3 k ⟨gb, 0, none⟩ k n A h1 (fun j v hj => by rw [Lib.add_plain]; exact hc1 j v hj)
 obtain ⟨G, Z, W1, hrun, hW1, hZ, hB1, hG⟩ : ∃ (G : Nat) (Z : List Value) (W1 : World), (∀ ty, (Builtin.append_ #[36, 3] ty #[.slice (some ⟨gb, 0, none⟩) k n, .int .i64 (q : Nat)]).run Tryz.prog w = .ok (.slice (some ⟨w.heap.size, 0, none⟩) (n + 1) G) W1) ∧ W1.heap[w.heap.size]? = some (.cells (A ++ Z).toArray 120) ∧ q * 3 ≤ Z.length ∧ Below w.heap.size w W1 ∧ n + 1 ≤ G := by
  have hr := fun ty => Lib.run_append_grow_zeros (P := Tryz.prog) w 36 3 ty 120 i0 (valJ 0 0 0) .i64 .i64 Tryz.underlying36 Tryz.underlying3 hi hz0 (some ⟨gb, 0, none⟩) k n A hold q (by omega) (by omega) (by omega) (by omega) (by rw [hz2]; omega) (growslice_fits (by omega) (by rw [hz2]; omega))
  rw [← hq] at hr
  refine ⟨_, (Builtin.zeroCells (valJ 0 0 0).cells q).toList ++ (Builtin.zeroCells (valJ 0 0 0).cells (grownCap w (n + 1) n 120 - (n + 1))).toList, _, hr, ?_, ?_, grew (Below.refl w.heap.size w).drew _, grownCap_ge _ _ _ _⟩
  · have := heap_new w.drew (.cells (A.toArray ++ Builtin.zeroCells (valJ 0 0 0).cells q ++ Builtin.zeroCells (valJ 0 0 0).cells (grownCap w (n + 1) n 120 - (n + 1))) 120)
   rw [show w.drew.heap.size = w.heap.size from rfl] at this
   rw [this]
   congr 2
   apply Array.toList_inj.1
   simp
  · rw [List.length_append, zerosJ]; omega
 have hCl : C.length = (q - 1) * 3 := by rw [h2]; congr 1; omega
 have hsp := splice_twoJ (Z := Z) (C := C) h1 hzl
 rw [show k * 3 + 3 = (k + 1) * 3 by omega] at hsp
 have hmin1 : Bz.length = Nat.min 1 q * 3 := by
  rw [hzl]; show 3 = min 1 q * 3; omega
 have hmin2 : C.length = Nat.min (n - k) (q - 1) * 3 := by
  rw [h2]; show _ = min (n - k) (q - 1) * 3; congr 1; omega
 have hAl : (A ++ Z).length = k * 3 + Z.length := by rw [List.length_append, h1]
 have hS1 : (splice (A ++ Z) (k * 3) Bz).length = (A ++ Z).length := length_splice _ _ _ (by rw [hAl, hzl]; omega)
 have hpos1 : 0 < Nat.min 1 q → (some ⟨w.heap.size, k * 3, none⟩ : Option Addr) = some ⟨w.heap.size, k * 3, none⟩ ∧ ∃ ad, (some ⟨vb, 0, none⟩ : Option Addr) = some ad ∧ ∀ j v, Bz[j]? = some v → W1.cell? (ad.add j) = some v := fun _ => ⟨rfl, _, rfl, fun j v hj => by rw [Lib.add_plain]; exact cell_later hB1 (hzc j v hj)⟩
 have hfit1 : k * 3 + Bz.length ≤ (A ++ Z).length := by rw [hAl, hzl]; omega
 have hfit2 : (k + 1) * 3 + C.length ≤ (splice (A ++ Z) (k * 3) Bz).length := by rw [hS1, hAl, hCl]; omega
 have hfin' : Aside (∀ w' : World, w'.heap[w.heap.size]? = some (.cells (splice (splice (A ++ Z) (k * 3) Bz) ((k + 1) * 3) C).toArray 120) → JobSl w' (.slice (some ⟨w.heap.size, 0, none⟩) (k + q) G) (js.take k ++ z :: js.drop k) ∧ Typed 120 w' (.slice (some ⟨w.heap.size, 0, none⟩) (k + q) G)) := fun w' h => by
  rw [hsp] at h
  rw [← hq]
  exact hfin.out _ w' _ G h
 have hc2' : Aside (∀ (w' : World), Below w.heap.size w w' → ∀ j u, C[j]? = some u → w'.cell? ((⟨gb, k * 3, none⟩ : Addr).add j) = some u) := fun w' hb j u hj => by
  rw [Lib.add_plain]
  have := hc2 j u hj
  rw [Nat.zero_add] at this
  exact cell_later hb this
 clear hold hi hz0 hz1 hz2 hc1 hc2 hzc hrow hsp hfin hg hv h1 h2 hAl hCl hS1 ho1 hzl
 generalize A ++ Z = L0 at *
 obtain ⟨L1, hL1⟩ : ∃ L1, Hid (splice L0 (k * 3) Bz = L1) := ⟨_, rfl⟩
 rw [hL1.out] at hfit2 hfin'
 clear hZ
 have hqi : (n : Int) + 1 - (k : Int) = (q : Int) := by omega
 have hne0 : ((k : Int) == (n : Int)) = false := by rw [beq_eq_false_iff_ne]; omega
 go_enter Tryz.func265, Tryz.ntmps265
 go_wp2_with (first
  | (at_builtin; refine Lib.wpList_append_run _ rfl _ _ 36 3 rfl _ _ rfl rfl _ _ (hrun _) ?_)
  | ((with_reducible show wpList _ _ _ (Oper.mk (some 45) _ _ _ _ _ :: _) _ _); refine wpList_copyK rfl _ _ 36 36 rfl 120 3 Tryz.underlying36 sizeJ (some ⟨w.heap.size, k * 3, none⟩) (some ⟨vb, 0, none⟩) q (G - k) 1 1 rfl rfl w.heap.size (k * 3) L0 120 hW1 Bz hmin1 hpos1 hfit1 hoz w.heap.size w hB1 (Nat.le_refl _) ?_))
 intro w2 hg2 hB2
 have hg2' : w2.heap[w.heap.size]? = some (.cells L1.toArray 120) := by rw [← hL1.out]; exact hg2.out
 have hB2' := hB2.drew
 have hq1 : k + q - (k + 1) = q - 1 := by omega
 have hk1 : (k : Int) + 1 ≤ (k : Int) + (q : Int) := by omega
 have hk2 : (k : Int) + (q : Int) ≤ (G : Int) := by omega
 have hk3 : (0 : Int) ≤ (k : Int) + 1 := by omega
 have hwr : IntKind.i64.wrap ((k : Int) + 1) = (k : Int) + 1 := by rw [IntKind.wrap_i64]; omega
 have hG1 : ¬ G = k + 1 := by omega
 have hnk : ¬ n = k := by omega
 have hkn : k ≤ n := by omega
 go_wp2_with fail
 go_region_law ((refine step_copyK rfl _ _ 36 36 rfl 120 3 Tryz.underlying36 sizeJ (some ⟨w.heap.size, (k + 1) * 3, none⟩) (some ⟨gb, k * 3, none⟩) (q - 1) (G - (k + 1)) (n - k) (n - k) (by simp [Act.eval, Act.put]) (by simp [Act.eval, Act.put]) w.heap.size ((k + 1) * 3) L1 120 hg2' C hmin2 (fun _ => ⟨rfl, _, rfl, hc2'.out _ hB2'⟩) hfit2 ho2 w.heap.size w hB2' (Nat.le_refl _) ?_; intro w3 hg3 hB3))
 all_goals
  go_wp2
  go_ret
  exact ⟨_, rfl, hfin'.out _ hg3.out, (Kept.refl _ _).below hB3⟩
end
end Go.Proofs.YtmoaobfmopimlafGreatDoor
