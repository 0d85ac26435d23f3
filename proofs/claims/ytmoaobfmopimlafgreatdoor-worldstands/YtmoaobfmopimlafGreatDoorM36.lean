/- For the law. -/
import Derived.Test.YtmoaobfmopimlafGreatDoorM35
set_option linter.unusedSimpArgs false
set_option linter.unusedVariables false
namespace Go.Proofs.YtmoaobfmopimlafGreatDoor
open Go.RowKit
set_option maxHeartbeats 4000000 in
set_option maxRecDepth 100000 in
theorem cl_new (w : World) : Calls Tryz.prog 77 #[] w fun e w' => e = .returned ((⟨1, 0, En.zero, 0, 0, 0, [], []⟩ : Cl).val nil0 nil0) ∧ Below w.heap.size w w' := by
 have HR0 : Aside ((w.alloc (boxZ)).heap[w.heap.size]? = some (boxZ)) := heap_new _ _
 have HB0 : Aside (Below w.heap.size w (w.alloc (boxZ))) := grew (Below.refl _ _) _
 go_enter Tryz.func77, Tryz.ntmps77
 go_upto_region 1 with fail
 generalize w.alloc (boxZ) = W0 at *
 have zr := cb HR0
 have fzr := cf HR0
 go_wp2
 refine ret1_st (p := 0) W0 w.heap.size (⟨1, 0, En.zero, 0, 0, 0, [], []⟩ : Cl) nil0 nil0 (o := Cl.zero) (u1 := nil0) (u2 := nil0) Tryz.results77 rfl rfl HR0.out rfl ?_
 exact ⟨rfl, st12_below HB0.out (Nat.le_refl _) _ _ _⟩
set_option maxHeartbeats 1000000 in
theorem ccopyJ (v : Value) (xs : List Jb) (w : World) (hv : JobSl w v xs) (hn : xs.length ≤ 1000000) :
  Calls Tryz.prog 197 #[v] w fun e w' => ∃ g, e = .returned (.slice (some ⟨g, 0, none⟩) xs.length xs.length) ∧ w.heap.size ≤ g ∧ w'.heap[g]? = some (.cells (xs.flatMap Jb.cells).toArray 120) ∧ Below w.heap.size w w' := by
 obtain ⟨i0, hi, hz0, hz1, hz2⟩ := info_parts infoJ
 have H1 : Hid (JobSl w v xs) := hv
 obtain ⟨a1, c1, rfl, _⟩ := hv
 obtain ⟨cs, hcs⟩ : ∃ cs, Hid (xs.flatMap Jb.cells = cs) := ⟨_, rfl⟩
 have hone : ∀ u ∈ cs, u.oneCell' = true := by rw [← hcs.out]; exact oneJ xs
 have hlen : cs.length = xs.length * 3 := by rw [← hcs.out]; exact row_len Jb.three xs
 rw [hcs.out]
 obtain ⟨n1, hn1⟩ : ∃ n1, xs.length = n1 := ⟨_, rfl⟩
 have L1 : Hid (xs.length = n1) := hn1
 rw [hn1] at H1 hn hlen ⊢
 clear hn1
 go_enter Tryz.func197, Tryz.ntmps197
 go_wp2_with (at_make; refine wpList_make_full _ rfl _ _ 36 rfl w.heap.size 120 i0 (valJ 0 0 0) 3 Tryz.underlying36 hi hz0 hz1 _ _ _ _ n1 rfl rfl rfl rfl (by rw [hz2]; omega) (by unfold maxLen; omega) (Nat.le_refl _) ?_)
 intro w1 hown hgrow
 obtain ⟨hl0, ho⟩ := hown
 rcases ho with ⟨h, _⟩ | ⟨g, cap, cur, hv', _, hg, _, _, hsz, htake⟩
 ·cases h
 injection hv' with ha _ hc
 injection ha with ha
 injection ha with ha _ _
 subst ha hc
 have hB1 : Below w.heap.size w w1 := ⟨hgrow.os, hgrow.tape, hgrow.output, hgrow.size, fun k hk => hgrow.block k hk (fun h => by cases h)⟩
 have hcur : cur.toList.length = n1 * 3 := by simpa using hsz
 have hg' : w1.heap[w.heap.size]? = some (.cells cur.toList.toArray 120 (0, 0)) := by simpa using hg
 clear hi hz0 hz1 hz2 hl0 htake hgrow hg hsz
 have hpos : 0 < Nat.min n1 n1 → (some ⟨w.heap.size, 0, none⟩ : Option Addr) = some ⟨w.heap.size, 0, none⟩ ∧ ∃ ad, a1 = some ad ∧ ∀ j v, cs[j]? = some v → w1.cell? (ad.add j) = some v := fun h0 => by
  have h0' : 0 < n1 := by
   have : 0 < min n1 n1 := h0
   omega
  obtain ⟨b, off, rfl, hE⟩ := H1.out.at h0'
  refine ⟨rfl, _, rfl, fun j u hj => ?_⟩
  rw [Lib.add_plain]
  rw [← hcs.out] at hj
  exact rows_flat Jb.three xs off (hE.later hB1) j u hj
 have hmin : cs.length = Nat.min n1 n1 * 3 := by rw [hlen]; show _ = min n1 n1 * 3; rw [Nat.min_self]
 have hfit : 0 + cs.length ≤ cur.toList.length := by rw [hcur, hlen]; omega
 have hall := splice_all (hcur.trans hlen.symm)
 obtain ⟨cl, hcl⟩ : ∃ cl, Hid (cur.toList = cl) := ⟨_, rfl⟩
 rw [hcl.out] at hg' hfit hall
 clear hcur hcl
 go_wp2_with ((with_reducible show wpList _ _ _ (Oper.mk (some 9) _ _ _ _ _ :: _) _ _); refine wpList_copyK rfl _ _ 36 36 rfl 120 3 Tryz.underlying36 sizeJ (some ⟨w.heap.size, 0, none⟩) a1 n1 n1 n1 c1 rfl rfl w.heap.size 0 cl 120 hg' cs hmin hpos hfit hone w.heap.size w hB1 (Nat.le_refl _) ?_)
 intro w2 hg2 hB2
 go_wp2
 go_ret
 exact ⟨_, rfl, Nat.le_refl _, hg2.out, hB2⟩
set_option maxHeartbeats 1000000 in
theorem ccopyR (v : Value) (xs : List Rg) (w : World) (hv : RungSl w v xs) (hn : xs.length ≤ 1000000) :
  Calls Tryz.prog 198 #[v] w fun e w' => ∃ g, e = .returned (.slice (some ⟨g, 0, none⟩) xs.length xs.length) ∧ w.heap.size ≤ g ∧ w'.heap[g]? = some (.cells (xs.flatMap Rg.cells).toArray 76) ∧ Below w.heap.size w w' := by
 obtain ⟨i0, hi, hz0, hz1, hz2⟩ := info_parts infoR
 have H1 : Hid (RungSl w v xs) := hv
 obtain ⟨a1, c1, rfl, _⟩ := hv
 obtain ⟨cs, hcs⟩ : ∃ cs, Hid (xs.flatMap Rg.cells = cs) := ⟨_, rfl⟩
 have hone : ∀ u ∈ cs, u.oneCell' = true := by rw [← hcs.out]; exact oneR xs
 have hlen : cs.length = xs.length * 3 := by rw [← hcs.out]; exact row_len Rg.three xs
 rw [hcs.out]
 obtain ⟨n1, hn1⟩ : ∃ n1, xs.length = n1 := ⟨_, rfl⟩
 have L1 : Hid (xs.length = n1) := hn1
 rw [hn1] at H1 hn hlen ⊢
 clear hn1
 go_enter Tryz.func198, Tryz.ntmps198
 go_wp2_with (at_make; refine wpList_make_full _ rfl _ _ 37 rfl w.heap.size 76 i0 (valR 0 0 0) 3 Tryz.underlying37 hi hz0 hz1 _ _ _ _ n1 rfl rfl rfl rfl (by rw [hz2]; omega) (by unfold maxLen; omega) (Nat.le_refl _) ?_)
 intro w1 hown hgrow
 obtain ⟨hl0, ho⟩ := hown
 rcases ho with ⟨h, _⟩ | ⟨g, cap, cur, hv', _, hg, _, _, hsz, htake⟩
 ·cases h
 injection hv' with ha _ hc
 injection ha with ha
 injection ha with ha _ _
 subst ha hc
 have hB1 : Below w.heap.size w w1 := ⟨hgrow.os, hgrow.tape, hgrow.output, hgrow.size, fun k hk => hgrow.block k hk (fun h => by cases h)⟩
 have hcur : cur.toList.length = n1 * 3 := by simpa using hsz
 have hg' : w1.heap[w.heap.size]? = some (.cells cur.toList.toArray 76 (0, 0)) := by simpa using hg
 clear hi hz0 hz1 hz2 hl0 htake hgrow hg hsz
 have hpos : 0 < Nat.min n1 n1 → (some ⟨w.heap.size, 0, none⟩ : Option Addr) = some ⟨w.heap.size, 0, none⟩ ∧ ∃ ad, a1 = some ad ∧ ∀ j v, cs[j]? = some v → w1.cell? (ad.add j) = some v := fun h0 => by
  have h0' : 0 < n1 := by
   have : 0 < min n1 n1 := h0
   omega
  obtain ⟨b, off, rfl, hE⟩ := H1.out.at h0'
  refine ⟨rfl, _, rfl, fun j u hj => ?_⟩
  rw [Lib.add_plain]
  rw [← hcs.out] at hj
  exact rows_flat Rg.three xs off (hE.later hB1) j u hj
 have hmin : cs.length = Nat.min n1 n1 * 3 := by rw [hlen]; show _ = min n1 n1 * 3; rw [Nat.min_self]
 have hfit : 0 + cs.length ≤ cur.toList.length := by rw [hcur, hlen]; omega
 have hall := splice_all (hcur.trans hlen.symm)
 obtain ⟨cl, hcl⟩ : ∃ cl, Hid (cur.toList = cl) := ⟨_, rfl⟩
 rw [hcl.out] at hg' hfit hall
 clear hcur hcl
 go_wp2_with ((with_reducible show wpList _ _ _ (Oper.mk (some 9) _ _ _ _ _ :: _) _ _); refine wpList_copyK rfl _ _ 37 37 rfl 76 3 Tryz.underlying37 sizeR (some ⟨w.heap.size, 0, none⟩) a1 n1 n1 n1 c1 rfl rfl w.heap.size 0 cl 76 hg' cs hmin hpos hfit hone w.heap.size w hB1 (Nat.le_refl _) ?_)
 intro w2 hg2 hB2
 go_wp2
 go_ret
 exact ⟨_, rfl, Nat.le_refl _, hg2.out, hB2⟩
set_option maxHeartbeats 4000000 in
set_option maxRecDepth 100000 in
theorem cl_apart (c : Cl) (a1 a2 : Option Addr) (m1 k1 m2 k2 : Nat) (w : World) (hb : BkAt w (.slice a1 m1 k1) (.slice a2 m2 k2) c) (hn1 : c.js.length ≤ 1000000) (hn2 : c.rs.length ≤ 1000000) :
  Calls Tryz.prog 168 #[c.val (.slice a1 m1 k1) (.slice a2 m2 k2)] w fun e w' => ∃ u1 u2, e = .returned (c.val u1 u2) ∧ BkT w' u1 u2 c ∧ Below w.heap.size w w' := by
 have HX0 : Aside (((w.alloc (boxC c (.slice a1 m1 k1) (.slice a2 m2 k2))).alloc (boxZ)).heap[w.heap.size]? = some (boxC c (.slice a1 m1 k1) (.slice a2 m2 k2))) := heap_old (heap_new _ _) _
 have HR0 : Aside (((w.alloc (boxC c (.slice a1 m1 k1) (.slice a2 m2 k2))).alloc (boxZ)).heap[w.heap.size + 1]? = some (boxZ)) := by
  have := heap_new (w.alloc (boxC c (.slice a1 m1 k1) (.slice a2 m2 k2))) (boxZ)
  rw [World.size_alloc] at this
  exact this
 have HB0 : Aside (Below w.heap.size w ((w.alloc (boxC c (.slice a1 m1 k1) (.slice a2 m2 k2))).alloc (boxZ))) := grew (grew (Below.refl _ _) _) _
 have l1 : c.js.length = m1 := hb.1.len
 have l2 : c.rs.length = m2 := hb.2.len
 have HJ : Aside (∀ W, Below w.heap.size w W → Calls Tryz.prog 197 #[(.slice a1 m1 k1)] W fun e w' => ∃ g, e = .returned (.slice (some ⟨g, 0, none⟩) m1 m1) ∧ Aside (w'.heap[g]? = some (.cells (c.js.flatMap Jb.cells).toArray 120)) ∧ Below W.heap.size W w') := fun W hB =>
  (ccopyJ (.slice a1 m1 k1) c.js W (hb.1.later hB) hn1).mono fun e w' ⟨g, he, _, hg, hB'⟩ => ⟨g, by rw [he, l1], hg, hB'⟩
 have HU : Aside (∀ W, Below w.heap.size w W → Calls Tryz.prog 198 #[(.slice a2 m2 k2)] W fun e w' => ∃ g, e = .returned (.slice (some ⟨g, 0, none⟩) m2 m2) ∧ Aside (w'.heap[g]? = some (.cells (c.rs.flatMap Rg.cells).toArray 76)) ∧ Below W.heap.size W w') := fun W hB =>
  (ccopyR (.slice a2 m2 k2) c.rs W (hb.2.later hB) hn2).mono fun e w' ⟨g, he, _, hg, hB'⟩ => ⟨g, by rw [he, l2], hg, hB'⟩
 have HL : Aside (c.js.length = m1 ∧ c.rs.length = m2) := ⟨l1, l2⟩
 clear hb hn1 hn2 l1 l2
 go_enter Tryz.func168, Tryz.ntmps168
 go_upto_region 1 with fail
 generalize (w.alloc (boxC c (.slice a1 m1 k1) (.slice a2 m2 k2))).alloc (boxZ) = W0 at *
 have z10 : W0.drew.cell? ⟨w.heap.size, 10, none⟩ = some (.slice a1 m1 k1) := Joins.cell_of_block HX0.out 10
 have z11 : W0.drew.cell? ⟨w.heap.size, 11, none⟩ = some (.slice a2 m2 k2) := Joins.cell_of_block HX0.out 11
 have HXd : Aside (W0.drew.heap[w.heap.size]? = some (boxC c (.slice a1 m1 k1) (.slice a2 m2 k2))) := HX0.out
 have HRd : Aside (W0.drew.heap[w.heap.size + 1]? = some (boxZ)) := HR0.out
 have HBd : Aside (Below w.heap.size w W0.drew) := HB0.out.drew
 clear HX0 HR0 HB0
 refine wp_region_noPanic ?_
 refine region_L (fun w' => w'.cell? ⟨w.heap.size, 10, none⟩ = some (.slice a1 m1 k1) ∧ w'.cell? ⟨w.heap.size, 11, none⟩ = some (.slice a2 m2 k2)) 10 (by kernel_rfl) (⟨z10, z11⟩) (fun hHeld => ?_)
 clear z10 z11
 generalize W0.drew = X at *
 refine tl 0 (v := ?_) rfl (by kernel_rfl) (by rfl) (by assumption) (fun _ _ _ h => h) ?_ ?_
 rotate_left
 ·(intro w0 hSw; (try dsimp only at hSw); go_simp; first | done | with_reducible rfl)
 try simp only [Act.put, qa, qb, qc]
 refine tl 1 (v := ?_) rfl (by kernel_rfl) (by rfl) (by assumption) (fun _ _ _ h => h) ?_ ?_
 rotate_left
 ·(intro w0 hSw; (try dsimp only at hSw); go_simp; first | done | with_reducible rfl)
 try simp only [Act.put, qa, qb, qc]
 refine tl 2 (v := ?_) rfl (by kernel_rfl) (by rfl) (by assumption) (fun _ _ _ h => h) ?_ ?_
 rotate_left
 ·(intro w0 hSw; (try dsimp only at hSw); go_simp; first | done | with_reducible rfl)
 try simp only [Act.put, qa, qb, qc]
 refine tl 4 (v := ?_) rfl (by kernel_rfl) (by rfl) (by assumption) (fun _ _ _ h => h) ?_ ?_
 rotate_left
 ·(intro w0 hSw; (try dsimp only at hSw); go_simp; first | done | with_reducible rfl)
 try simp only [Act.put, qa, qb, qc]
 refine tl 5 (v := ?_) rfl (by kernel_rfl) (by rfl) (by assumption) (fun _ _ _ h => h) ?_ ?_
 rotate_left
 ·(intro w0 hSw; (try dsimp only at hSw); go_simp; first | done | with_reducible rfl)
 try simp only [Act.put, qa, qb, qc]
 refine tl 6 (v := ?_) rfl (by kernel_rfl) (by rfl) (by assumption) (fun _ _ _ h => h) ?_ ?_
 rotate_left
 ·(intro w0 hSw; (try dsimp only at hSw); go_simp; first | done | with_reducible rfl)
 try simp only [Act.put, qa, qb, qc]
 refine anyL_one (i := 3) (by kernel_rfl) rfl (fun K hK => ?_)
 go_simp
 refine (HJ.out _ HBd.out).mono ?_
 rintro e w1 ⟨gj, rfl, gJ1, hb1⟩
 have HX1 := hv HXd hb1
 have HR1 := hv HRd hb1
 have HB1 : Aside (Below w.heap.size w w1) := HBd.out.trans (hb1.mono (by have := heap_lt HXd.out; omega))
 refine hK.out _ _ (fun _ => ⟨cell_later hb1 hHeld.1, cell_later hb1 hHeld.2⟩) (fun hNext => ?_)
 replace hNext := hNext (by kernel_rfl)
 clear hK K hHeld hb1 HXd HRd HBd
 try simp only [Act.put, qa, qb, qc]
 refine anyL_one (i := 7) (by kernel_rfl) rfl (fun K hK => ?_)
 go_simp
 refine (HU.out _ HB1.out).mono ?_
 rintro e w2 ⟨gr, rfl, gR2, hb2⟩
 have HX2 := hv HX1 hb2
 have HR2 := hv HR1 hb2
 have HB2 : Aside (Below w.heap.size w w2) := HB1.out.trans (hb2.mono (by have := heap_lt HX1.out; omega))
 have gJ2 := hv gJ1 hb2
 refine hK.out _ _ (fun _ => ⟨cell_later hb2 hNext.1, cell_later hb2 hNext.2⟩) (fun hNext => ?_)
 replace hNext := hNext (by kernel_rfl)
 clear hK K hb2 HX1 HR1 HB1 gJ1
 try simp only [Act.put, qa, qb, qc]
 refine anyL_one (i := 8) (by kernel_rfl) rfl (fun K hK => ?_)
 go_simp
 refine hK.out _ _ (fun _ => hNext) (fun _ => ?_)
 clear hK K
 try simp only [Act.put, qa, qb, qc]
 have z := cb HX2
 have fz := cf HX2
 refine anyL_one (i := 9) (by kernel_rfl) rfl (fun K hK => ?_)
 go_simp
 refine hK.out _ _ (fun _ => hNext) (fun _ => ?_)
 clear hK K
 try simp only [Act.put, qa, qb, qc]
 refine anyL_one (i := 10) (by kernel_rfl) rfl (fun K hK => ?_)
 go_simp
 refine hK.out _ _ (fun h => absurd h (by decide +kernel)) (fun _ => ?_)
 clear hK K
 refine anyL_done (by kernel_rfl) ?_ _
 refine NoPanic.normal ?_
 try simp only [Act.put, qa, qb, qc]
 have T2 : IsC w2 w.heap.size ∧ BkT w2 (.slice (some ⟨gj, 0, none⟩) m1 m1) (.slice (some ⟨gr, 0, none⟩) m2 m2) c := ⟨isC_of HX2.out, ⟨by rw [← HL.out.1]; exact slOf_block Jb.three gJ2.out ⟨[], by simp⟩, by rw [← HL.out.2]; exact slOf_block Rg.three gR2.out ⟨[], by simp⟩⟩, typed_block gJ2.out _ _ _, typed_block gR2.out _ _ _⟩
 have T3 : Aside _ := (bkT_both (bkT_both T2 10 (.slice (some ⟨gj, 0, none⟩) m1 m1)) 11 (.slice (some ⟨gr, 0, none⟩) m2 m2)).2
 have g0 := Joins.block_setCell HX2.out (i := 10) (.slice (some ⟨gj, 0, none⟩) m1 m1)
 have g1 := Joins.block_setCell g0 (i := 11) (.slice (some ⟨gr, 0, none⟩) m2 m2)
 simp only [List.setIfInBounds_toArray, List.set_cons_zero, List.set_cons_succ] at g1
 have hrs : w.heap.size + 1 ≠ w.heap.size := by omega
 have HX3 : Aside (((w2.setCell ⟨w.heap.size, 10, none⟩ (.slice (some ⟨gj, 0, none⟩) m1 m1)).setCell ⟨w.heap.size, 11, none⟩ (.slice (some ⟨gr, 0, none⟩) m2 m2)).heap[w.heap.size]? = some (boxC c (.slice (some ⟨gj, 0, none⟩) m1 m1) (.slice (some ⟨gr, 0, none⟩) m2 m2))) := g1
 have HR3 : Aside (((w2.setCell ⟨w.heap.size, 10, none⟩ (.slice (some ⟨gj, 0, none⟩) m1 m1)).setCell ⟨w.heap.size, 11, none⟩ (.slice (some ⟨gr, 0, none⟩) m2 m2)).heap[w.heap.size + 1]? = some (boxZ)) := by
  rw [Aside, Below.heap_setCell _ _ _ _ (by exact hrs), Below.heap_setCell _ _ _ _ (by exact hrs)]
  exact HR2.out
 have HB3 : Aside (Below w.heap.size w ((w2.setCell ⟨w.heap.size, 10, none⟩ (.slice (some ⟨gj, 0, none⟩) m1 m1)).setCell ⟨w.heap.size, 11, none⟩ (.slice (some ⟨gr, 0, none⟩) m2 m2))) := ((HB2.out).setCell (p := ⟨w.heap.size, 10, none⟩) (Nat.le_refl _) _).setCell (p := ⟨w.heap.size, 11, none⟩) (Nat.le_refl _) _
 clear T2 g0 g1 z fz HX2 HR2 HB2 hNext HJ HU gJ2 gR2
 generalize ((w2.setCell ⟨w.heap.size, 10, none⟩ (.slice (some ⟨gj, 0, none⟩) m1 m1)).setCell ⟨w.heap.size, 11, none⟩ (.slice (some ⟨gr, 0, none⟩) m2 m2)) = w3 at *
 have z := cb HX3
 have zr := cb HR3
 have fzr := cf HR3
 go_wp2
 refine ret1_st (p := 2) w3 (w.heap.size + 1) c (.slice (some ⟨gj, 0, none⟩) m1 m1) (.slice (some ⟨gr, 0, none⟩) m2 m2) (o := Cl.zero) (u1 := nil0) (u2 := nil0) Tryz.results168 rfl rfl HR3.out rfl ?_
 exact ⟨(.slice (some ⟨gj, 0, none⟩) m1 m1), (.slice (some ⟨gr, 0, none⟩) m2 m2), rfl, bkT_st12 ⟨_, HR3.out⟩ T3.out _ _ _, st12_below HB3.out (by omega) _ _ _⟩
set_option maxHeartbeats 4000000 in
set_option maxRecDepth 100000 in
theorem cl_doing (c : Cl) (x : En) (what q l : Int) (a1 a2 : Option Addr) (m1 k1 m2 k2 : Nat) (w : World) (hb : BkAt w (.slice a1 m1 k1) (.slice a2 m2 k2) c) (hn1 : c.js.length ≤ 1000000) (hn2 : c.rs.length ≤ 1000000) :
  Calls Tryz.prog 171 #[c.val (.slice a1 m1 k1) (.slice a2 m2 k2), .int .i64 what, x.val, .int .i64 q, .int .i64 l] w fun e w' => ∃ u1 u2, e = .returned ((⟨c.p, what, x, q, l, c.n, c.js, c.rs⟩ : Cl).val u1 u2) ∧ BkT w' u1 u2 c ∧ Below w.heap.size w w' := by
 have HE0 : Aside ((((w.alloc (boxC c (.slice a1 m1 k1) (.slice a2 m2 k2))).alloc (boxE x.k x.j x.v x.t x.c)).alloc (boxZ)).heap[w.heap.size + 1]? = some (boxE x.k x.j x.v x.t x.c)) := by
  have := heap_new (w.alloc (boxC c (.slice a1 m1 k1) (.slice a2 m2 k2))) (boxE x.k x.j x.v x.t x.c)
  rw [World.size_alloc] at this
  exact heap_old this _
 have HR0 : Aside ((((w.alloc (boxC c (.slice a1 m1 k1) (.slice a2 m2 k2))).alloc (boxE x.k x.j x.v x.t x.c)).alloc (boxZ)).heap[w.heap.size + 1 + 1]? = some (boxZ)) := by
  have := heap_new ((w.alloc (boxC c (.slice a1 m1 k1) (.slice a2 m2 k2))).alloc (boxE x.k x.j x.v x.t x.c)) (boxZ)
  rw [World.size_alloc, World.size_alloc] at this
  exact this
 have HB0 : Aside (Below w.heap.size w (((w.alloc (boxC c (.slice a1 m1 k1) (.slice a2 m2 k2))).alloc (boxE x.k x.j x.v x.t x.c)).alloc (boxZ))) := grew (grew (grew (Below.refl _ _) _) _) _
 have ka := cl_apart c a1 a2 m1 k1 m2 k2 _ (bkAt_later hb HB0.out) hn1 hn2
 clear hb hn1 hn2
 go_enter Tryz.func171, Tryz.ntmps171
 go_wp2_with fail
 refine ka.mono ?_
 rintro e w1 ⟨u1, u2, rfl, hT1, hb1⟩
 have HE1 := hv HE0 hb1
 have HR1 := hv HR0 hb1
 have HB1 := sb HB0 hb1
 have HT1 : Aside (BkT w1 u1 u2 c) := hT1
 obtain ⟨s1, o1, s2, o2, rfl, rfl⟩ := bk_slices hT1.1.1 hT1.1.2
 clear hb1 ka HE0 HR0 HB0 hT1
 obtain ⟨n1, hn1⟩ : ∃ n, Hid (c.js.length = n) := ⟨_, rfl⟩
 obtain ⟨n2, hn2⟩ : ∃ n, Hid (c.rs.length = n) := ⟨_, rfl⟩
 rw [hn1.out, hn2.out] at HT1 ⊢
 go_upto_region 2 with fail
 have HA0 : Aside ((w1.alloc (boxC c (.slice s1 n1 o1) (.slice s2 n2 o2))).drew.heap[w1.heap.size]? = some (boxC c (.slice s1 n1 o1) (.slice s2 n2 o2))) := heap_new _ _
 have HD0 : Aside (Below w1.heap.size w1 (w1.alloc (boxC c (.slice s1 n1 o1) (.slice s2 n2 o2))).drew) := (grew (Below.refl _ _) _).drew
 have hS0 : C5 (w1.alloc (boxC c (.slice s1 n1 o1) (.slice s2 n2 o2))).drew (w.heap.size + 1) x := c5_of (heap_old HE1.out _)
 have hne : w.heap.size + 1 ≠ w1.heap.size := by have := heap_lt HE1.out; omega
 refine wp_region_held_drew (S := fun w' => C5 w' (w.heap.size + 1) x) (by kernel_rfl) (hS0) (fun hHeld => ?_)
 clear hS0
 generalize (w1.alloc (boxC c (.slice s1 n1 o1) (.slice s2 n2 o2))).drew = X at *
 refine tk 0 (v := ?_) rfl (by kernel_rfl) (by rfl) (by assumption) (fun _ _ _ h => h) ?_ ?_
 rotate_left
 ·intro w0 hSw; (try dsimp only at hSw); go_simp; first | done | with_reducible rfl
 try simp only [Act.put, qa, qb, qc]
 refine tk 1 (v := ?_) rfl (by kernel_rfl) (by rfl) (by assumption) (fun _ _ _ h => h) ?_ ?_
 rotate_left
 ·intro w0 hSw; (try dsimp only at hSw); go_simp; first | done | with_reducible rfl
 try simp only [Act.put, qa, qb, qc]
 refine tk 2 (v := ?_) rfl (by kernel_rfl) (by rfl) (by assumption) (fun _ _ _ h => h) ?_ ?_
 rotate_left
 ·intro w0 hSw; (try dsimp only at hSw); go_simp; first | done | with_reducible rfl
 try simp only [Act.put, qa, qb, qc]
 refine tk 3 (v := ?_) rfl (by kernel_rfl) (by rfl) (by assumption) (fun _ _ _ h => h) ?_ ?_
 rotate_left
 ·intro w0 hSw; (try dsimp only at hSw); go_simp; first | done | with_reducible rfl
 try simp only [Act.put, qa, qb, qc]
 refine tk 4 (v := ?_) rfl (by kernel_rfl) (by rfl) (by assumption) (fun _ _ _ h => h) ?_ ?_
 rotate_left
 ·intro w0 hSw; (try dsimp only at hSw); go_simp; first | done | with_reducible rfl
 try simp only [Act.put, qa, qb, qc]
 have z := cb HA0
 have fz := cf HA0
 refine rdy 5 (by kernel_rfl) rfl (fun K hK => ?_)
 go_simp
 refine hK.out _ _ (c5_set hHeld hne 1 _) (fun hHeld => ?_)
 clear hK K
 try simp only [Act.put, qa, qb, qc]
 refine tk 6 (v := ?_) rfl (by kernel_rfl) (by rfl) (by assumption) (fun _ _ _ h => h) ?_ ?_
 rotate_left
 ·intro w0 hSw; (try dsimp only at hSw); go_simp; first | done | with_reducible rfl
 try simp only [Act.put, qa, qb, qc]
 refine rdy 7 (by kernel_rfl) rfl (fun K hK => ?_)
 go_simp
 refine hK.out _ _ (c5_set (c5_set (c5_set (c5_set (c5_set (hHeld) hne 2 _) hne 3 _) hne 4 _) hne 5 _) hne 6 _) (fun hHeld => ?_)
 clear hK K
 try simp only [Act.put, qa, qb, qc]
 refine tk 8 (v := ?_) rfl (by kernel_rfl) (by rfl) (by assumption) (fun _ _ _ h => h) ?_ ?_
 rotate_left
 ·intro w0 hSw; (try dsimp only at hSw); go_simp; first | done | with_reducible rfl
 try simp only [Act.put, qa, qb, qc]
 refine rdy 9 (by kernel_rfl) rfl (fun K hK => ?_)
 go_simp
 refine hK.out _ _ (c5_set hHeld hne 7 _) (fun hHeld => ?_)
 clear hK K
 try simp only [Act.put, qa, qb, qc]
 refine tk 10 (v := ?_) rfl (by kernel_rfl) (by rfl) (by assumption) (fun _ _ _ h => h) ?_ ?_
 rotate_left
 ·intro w0 hSw; (try dsimp only at hSw); go_simp; first | done | with_reducible rfl
 try simp only [Act.put, qa, qb, qc]
 refine rdy 11 (by kernel_rfl) rfl (fun K hK => ?_)
 go_simp
 refine hK.out _ _ (c5_set hHeld hne 8 _) (fun hHeld => ?_)
 clear hK K
 try simp only [Act.put, qa, qb, qc]
 refine wpAnyH_done (by kernel_rfl) ?_ _
 have g0 := Joins.block_setCell HA0.out (i := 1) (.int .i64 what)
 have g1 := Joins.block_setCell g0 (i := 2) (.int .i64 x.k)
 have g2 := Joins.block_setCell g1 (i := 3) (.int .i64 x.j)
 have g3 := Joins.block_setCell g2 (i := 4) (.int .i64 x.v)
 have g4 := Joins.block_setCell g3 (i := 5) (.int .i64 x.t)
 have g5 := Joins.block_setCell g4 (i := 6) (.int .i64 x.c)
 have g6 := Joins.block_setCell g5 (i := 7) (.int .i64 q)
 have g7 := Joins.block_setCell g6 (i := 8) (.int .i64 l)
 simp only [List.setIfInBounds_toArray, List.set_cons_zero, List.set_cons_succ] at g7
 have HX6 : Aside (((((((((X.setCell ⟨w1.heap.size, 1, none⟩ (.int .i64 what)).setCell ⟨w1.heap.size, 2, none⟩ (.int .i64 x.k)).setCell ⟨w1.heap.size, 3, none⟩ (.int .i64 x.j)).setCell ⟨w1.heap.size, 4, none⟩ (.int .i64 x.v)).setCell ⟨w1.heap.size, 5, none⟩ (.int .i64 x.t)).setCell ⟨w1.heap.size, 6, none⟩ (.int .i64 x.c)).setCell ⟨w1.heap.size, 7, none⟩ (.int .i64 q)).setCell ⟨w1.heap.size, 8, none⟩ (.int .i64 l)).heap[w1.heap.size]? = some (boxC (⟨c.p, what, x, q, l, c.n, c.js, c.rs⟩ : Cl) (.slice s1 n1 o1) (.slice s2 n2 o2))) := g7
 have HD6 : Aside (Below w1.heap.size w1 ((((((((X.setCell ⟨w1.heap.size, 1, none⟩ (.int .i64 what)).setCell ⟨w1.heap.size, 2, none⟩ (.int .i64 x.k)).setCell ⟨w1.heap.size, 3, none⟩ (.int .i64 x.j)).setCell ⟨w1.heap.size, 4, none⟩ (.int .i64 x.v)).setCell ⟨w1.heap.size, 5, none⟩ (.int .i64 x.t)).setCell ⟨w1.heap.size, 6, none⟩ (.int .i64 x.c)).setCell ⟨w1.heap.size, 7, none⟩ (.int .i64 q)).setCell ⟨w1.heap.size, 8, none⟩ (.int .i64 l))) := ((((((((HD0.out).setCell (p := ⟨w1.heap.size, 1, none⟩) (Nat.le_refl _) _).setCell (p := ⟨w1.heap.size, 2, none⟩) (Nat.le_refl _) _).setCell (p := ⟨w1.heap.size, 3, none⟩) (Nat.le_refl _) _).setCell (p := ⟨w1.heap.size, 4, none⟩) (Nat.le_refl _) _).setCell (p := ⟨w1.heap.size, 5, none⟩) (Nat.le_refl _) _).setCell (p := ⟨w1.heap.size, 6, none⟩) (Nat.le_refl _) _).setCell (p := ⟨w1.heap.size, 7, none⟩) (Nat.le_refl _) _).setCell (p := ⟨w1.heap.size, 8, none⟩) (Nat.le_refl _) _
 clear g0 g1 g2 g3 g4 g5 g6 g7 HA0 HD0 z fz hHeld
 generalize ((((((((X.setCell ⟨w1.heap.size, 1, none⟩ (.int .i64 what)).setCell ⟨w1.heap.size, 2, none⟩ (.int .i64 x.k)).setCell ⟨w1.heap.size, 3, none⟩ (.int .i64 x.j)).setCell ⟨w1.heap.size, 4, none⟩ (.int .i64 x.v)).setCell ⟨w1.heap.size, 5, none⟩ (.int .i64 x.t)).setCell ⟨w1.heap.size, 6, none⟩ (.int .i64 x.c)).setCell ⟨w1.heap.size, 7, none⟩ (.int .i64 q)).setCell ⟨w1.heap.size, 8, none⟩ (.int .i64 l)) = w6 at *
 have HR6 : Aside _ := heap_below HR1.out HD6.out (heap_lt HR1.out)
 have HB6 : Aside _ := step_below HB1.out HD6.out
 have HT6 : Aside _ := bkT_later HT1.out HD6.out
 have z := cb HX6
 have zr := cb HR6
 have fzr := cf HR6
 clear HR1 HB1 HT1 HE1 HD6
 go_wp2
 refine ret1_st (p := 10) w6 (w.heap.size + 1 + 1) (⟨c.p, what, x, q, l, c.n, c.js, c.rs⟩ : Cl) (.slice s1 n1 o1) (.slice s2 n2 o2) (o := Cl.zero) (u1 := nil0) (u2 := nil0) Tryz.results171 rfl rfl HR6.out rfl ?_
 exact ⟨(.slice s1 n1 o1), (.slice s2 n2 o2), rfl, bkT_st12 ⟨_, HR6.out⟩ HT6.out _ _ _, st12_below HB6.out (by omega) _ _ _⟩
end Go.Proofs.YtmoaobfmopimlafGreatDoor
