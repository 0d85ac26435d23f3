/- For the law. -/
import Derived.Test.YtmoaobfmopimlafGreatDoorM36
set_option linter.unusedSimpArgs false
set_option linter.unusedVariables false
namespace Go.Proofs.YtmoaobfmopimlafGreatDoor
open Go.RowKit
theorem infoN : (Tryz.prog.info? 49).map (fun i => (i.zero, i.size, i.bytes)) = some (some (.agg #[.int .i64 0, .slice none 0 0, .slice none 0 0, .slice none 0 0, .bool false]), 5, 88) := by kernel_rfl
theorem infoCl : (Tryz.prog.info? 41).map (fun i => (i.zero, i.size, i.bytes)) = some (some (Cl.zero.val nil0 nil0), 12, 128) := by kernel_rfl
theorem sizeN : (Tryz.prog.info? 49).map (·.size) = some 5 := by kernel_rfl
theorem sizeCl : (Tryz.prog.info? 41).map (·.size) = some 12 := by kernel_rfl
def Nb.sl (x : Nb) : Prop := (∃ a n c, x.vc = .slice a n c) ∧ (∃ a n c, x.vs = .slice a n c) ∧ ∃ a n c, x.vw = .slice a n c
def Cb.sl (x : Cb) : Prop := (∃ a n c, x.v1 = .slice a n c) ∧ ∃ a n c, x.v2 = .slice a n c
theorem NodeT.sl {w : World} {x : Nb} (h : NodeT w x) : x.sl := ⟨roomy_sl h.unit.room, roomy_sl h.disk.room1, roomy_sl h.disk.room2⟩
theorem clientT_sl {w : World} {x : Cb} (h : ClientT w x) : x.sl := ⟨slOf_sl h.1, slOf_sl h.2⟩
theorem oneN (es : List Nb) (h : ∀ x, x ∈ es → x.sl) : ∀ u ∈ es.flatMap Nb.cells, u.oneCell' = true := fun u hu => by
 obtain ⟨e, hm, he⟩ := List.mem_flatMap.1 hu
 obtain ⟨⟨_, _, _, e1⟩, ⟨_, _, _, e2⟩, ⟨_, _, _, e3⟩⟩ := h e hm
 simp only [Nb.cells, e1, e2, e3, List.mem_cons, List.not_mem_nil, or_false] at he
 rcases he with rfl | rfl | rfl | rfl | rfl <;> rfl
theorem oneCl (es : List Cb) (h : ∀ x, x ∈ es → x.sl) : ∀ u ∈ es.flatMap Cb.cells, u.oneCell' = true := fun u hu => by
 obtain ⟨e, hm, he⟩ := List.mem_flatMap.1 hu
 obtain ⟨⟨_, _, _, e1⟩, ⟨_, _, _, e2⟩⟩ := h e hm
 simp only [Cb.cells, e1, e2, List.mem_cons, List.not_mem_nil, or_false] at he
 rcases he with rfl | rfl | rfl | rfl | rfl | rfl | rfl | rfl | rfl | rfl | rfl | rfl <;> rfl
set_option maxHeartbeats 1000000 in
theorem wcopyJ (v : Value) (xs : List Jb) (w : World) (hv : SlOf Jb.cells 3 w v xs) (hn : xs.length ≤ 1000000) :
  Calls Tryz.prog 69 #[v] w fun e w' => ∃ g, e = .returned (.slice (some ⟨g, 0, none⟩) xs.length xs.length) ∧ w.heap.size ≤ g ∧ w'.heap[g]? = some (.cells (xs.flatMap Jb.cells).toArray 120) ∧ Below w.heap.size w w' := by
 obtain ⟨i0, hi, hz0, hz1, hz2⟩ := info_parts infoJ
 have H1 : Hid (SlOf Jb.cells 3 w v xs) := hv
 obtain ⟨a1, c1, rfl, _⟩ := hv
 obtain ⟨cs, hcs⟩ : ∃ cs, Hid (xs.flatMap Jb.cells = cs) := ⟨_, rfl⟩
 have hone : ∀ u ∈ cs, u.oneCell' = true := by rw [← hcs.out]; exact oneJ xs
 have hlen : cs.length = xs.length * 3 := by rw [← hcs.out]; exact row_len Jb.three xs
 rw [hcs.out]
 obtain ⟨n1, hn1⟩ : ∃ n1, xs.length = n1 := ⟨_, rfl⟩
 have L1 : Hid (xs.length = n1) := hn1
 rw [hn1] at H1 hn hlen ⊢
 clear hn1
 go_enter Tryz.func69, Tryz.ntmps69
 go_wp2_with (at_make; refine wpList_make_full _ rfl _ _ 36 rfl w.heap.size 120 i0 (valJ 0 0 0) 3 Tryz.underlying36 hi hz0 hz1 _ _ _ _ n1 rfl rfl rfl rfl (by rw [hz2]; omega) (by unfold maxLen; omega) (Nat.le_refl _) ?_)
 intro w1 hown hgrow
 obtain ⟨hl0, ho⟩ := hown
 rcases ho with ⟨h, _⟩ | ⟨g, cap, cur, hv', _, hg, _, _, hsz, htake⟩
 ·cases h
 injection hv' with ha _ hc
 injection ha with ha
 injection ha with ha _ _
 subst ha hc
 have hB1 : Below w.heap.size w w1 := ⟨hgrow.os, hgrow.tape, hgrow.output, hgrow.size, fun k hk => hgrow.block k hk (fun h => by cases h)⟩
 have hcur : cur.toList.length = n1 * 3 := by simpa using hsz
 have hg' : w1.heap[w.heap.size]? = some (.cells cur.toList.toArray 120 (0, 0)) := by simpa using hg
 clear hi hz0 hz1 hz2 hl0 htake hgrow hg hsz
 have hpos : 0 < Nat.min n1 n1 → (some ⟨w.heap.size, 0, none⟩ : Option Addr) = some ⟨w.heap.size, 0, none⟩ ∧ ∃ ad, a1 = some ad ∧ ∀ j v, cs[j]? = some v → w1.cell? (ad.add j) = some v := fun h0 => by
  have h0' : 0 < n1 := by
   have : 0 < min n1 n1 := h0
   omega
  obtain ⟨b, off, rfl, hE⟩ := H1.out.at h0'
  refine ⟨rfl, _, rfl, fun j u hj => ?_⟩
  rw [Lib.add_plain]
  rw [← hcs.out] at hj
  exact rows_flat Jb.three xs off (hE.later hB1) j u hj
 have hmin : cs.length = Nat.min n1 n1 * 3 := by rw [hlen]; show _ = min n1 n1 * 3; rw [Nat.min_self]
 have hfit : 0 + cs.length ≤ cur.toList.length := by rw [hcur, hlen]; omega
 have hall := splice_all (hcur.trans hlen.symm)
 obtain ⟨cl, hcl⟩ : ∃ cl, Hid (cur.toList = cl) := ⟨_, rfl⟩
 rw [hcl.out] at hg' hfit hall
 have HALL : Hid (splice cl 0 cs = cs) := hall
 clear hcur hcl hall
 go_wp2_with ((with_reducible show wpList _ _ _ (Oper.mk (some 9) _ _ _ _ _ :: _) _ _); refine wpList_copyK rfl _ _ 36 36 rfl 120 3 Tryz.underlying36 sizeJ (some ⟨w.heap.size, 0, none⟩) a1 n1 n1 n1 c1 rfl rfl w.heap.size 0 cl 120 hg' cs hmin hpos hfit hone w.heap.size w hB1 (Nat.le_refl _) ?_)
 intro w2 hg2 hB2
 go_wp2
 go_ret
 rw [HALL.out] at hg2
 exact ⟨_, rfl, Nat.le_refl _, hg2.out, hB2⟩
set_option maxHeartbeats 1000000 in
theorem wcopyR (v : Value) (xs : List Rg) (w : World) (hv : SlOf Rg.cells 3 w v xs) (hn : xs.length ≤ 1000000) :
  Calls Tryz.prog 70 #[v] w fun e w' => ∃ g, e = .returned (.slice (some ⟨g, 0, none⟩) xs.length xs.length) ∧ w.heap.size ≤ g ∧ w'.heap[g]? = some (.cells (xs.flatMap Rg.cells).toArray 76) ∧ Below w.heap.size w w' := by
 obtain ⟨i0, hi, hz0, hz1, hz2⟩ := info_parts infoR
 have H1 : Hid (SlOf Rg.cells 3 w v xs) := hv
 obtain ⟨a1, c1, rfl, _⟩ := hv
 obtain ⟨cs, hcs⟩ : ∃ cs, Hid (xs.flatMap Rg.cells = cs) := ⟨_, rfl⟩
 have hone : ∀ u ∈ cs, u.oneCell' = true := by rw [← hcs.out]; exact oneR xs
 have hlen : cs.length = xs.length * 3 := by rw [← hcs.out]; exact row_len Rg.three xs
 rw [hcs.out]
 obtain ⟨n1, hn1⟩ : ∃ n1, xs.length = n1 := ⟨_, rfl⟩
 have L1 : Hid (xs.length = n1) := hn1
 rw [hn1] at H1 hn hlen ⊢
 clear hn1
 go_enter Tryz.func70, Tryz.ntmps70
 go_wp2_with (at_make; refine wpList_make_full _ rfl _ _ 37 rfl w.heap.size 76 i0 (valR 0 0 0) 3 Tryz.underlying37 hi hz0 hz1 _ _ _ _ n1 rfl rfl rfl rfl (by rw [hz2]; omega) (by unfold maxLen; omega) (Nat.le_refl _) ?_)
 intro w1 hown hgrow
 obtain ⟨hl0, ho⟩ := hown
 rcases ho with ⟨h, _⟩ | ⟨g, cap, cur, hv', _, hg, _, _, hsz, htake⟩
 ·cases h
 injection hv' with ha _ hc
 injection ha with ha
 injection ha with ha _ _
 subst ha hc
 have hB1 : Below w.heap.size w w1 := ⟨hgrow.os, hgrow.tape, hgrow.output, hgrow.size, fun k hk => hgrow.block k hk (fun h => by cases h)⟩
 have hcur : cur.toList.length = n1 * 3 := by simpa using hsz
 have hg' : w1.heap[w.heap.size]? = some (.cells cur.toList.toArray 76 (0, 0)) := by simpa using hg
 clear hi hz0 hz1 hz2 hl0 htake hgrow hg hsz
 have hpos : 0 < Nat.min n1 n1 → (some ⟨w.heap.size, 0, none⟩ : Option Addr) = some ⟨w.heap.size, 0, none⟩ ∧ ∃ ad, a1 = some ad ∧ ∀ j v, cs[j]? = some v → w1.cell? (ad.add j) = some v := fun h0 => by
  have h0' : 0 < n1 := by
   have : 0 < min n1 n1 := h0
   omega
  obtain ⟨b, off, rfl, hE⟩ := H1.out.at h0'
  refine ⟨rfl, _, rfl, fun j u hj => ?_⟩
  rw [Lib.add_plain]
  rw [← hcs.out] at hj
  exact rows_flat Rg.three xs off (hE.later hB1) j u hj
 have hmin : cs.length = Nat.min n1 n1 * 3 := by rw [hlen]; show _ = min n1 n1 * 3; rw [Nat.min_self]
 have hfit : 0 + cs.length ≤ cur.toList.length := by rw [hcur, hlen]; omega
 have hall := splice_all (hcur.trans hlen.symm)
 obtain ⟨cl, hcl⟩ : ∃ cl, Hid (cur.toList = cl) := ⟨_, rfl⟩
 rw [hcl.out] at hg' hfit hall
 have HALL : Hid (splice cl 0 cs = cs) := hall
 clear hcur hcl hall
 go_wp2_with ((with_reducible show wpList _ _ _ (Oper.mk (some 9) _ _ _ _ _ :: _) _ _); refine wpList_copyK rfl _ _ 37 37 rfl 76 3 Tryz.underlying37 sizeR (some ⟨w.heap.size, 0, none⟩) a1 n1 n1 n1 c1 rfl rfl w.heap.size 0 cl 76 hg' cs hmin hpos hfit hone w.heap.size w hB1 (Nat.le_refl _) ?_)
 intro w2 hg2 hB2
 go_wp2
 go_ret
 rw [HALL.out] at hg2
 exact ⟨_, rfl, Nat.le_refl _, hg2.out, hB2⟩
set_option maxHeartbeats 1000000 in
theorem wcopyE (v : Value) (xs : List En) (w : World) (hv : SlOf En.cells 5 w v xs) (hn : xs.length ≤ 1000000) :
  Calls Tryz.prog 67 #[v] w fun e w' => ∃ g, e = .returned (.slice (some ⟨g, 0, none⟩) xs.length xs.length) ∧ w.heap.size ≤ g ∧ w'.heap[g]? = some (.cells (xs.flatMap En.cells).toArray 27) ∧ Below w.heap.size w w' := by
 obtain ⟨i0, hi, hz0, hz1, hz2⟩ := info_parts infoE
 have H1 : Hid (SlOf En.cells 5 w v xs) := hv
 obtain ⟨a1, c1, rfl, _⟩ := hv
 obtain ⟨cs, hcs⟩ : ∃ cs, Hid (xs.flatMap En.cells = cs) := ⟨_, rfl⟩
 have hone : ∀ u ∈ cs, u.oneCell' = true := by rw [← hcs.out]; exact oneE xs
 have hlen : cs.length = xs.length * 5 := by rw [← hcs.out]; exact row_len En.five xs
 rw [hcs.out]
 obtain ⟨n1, hn1⟩ : ∃ n1, xs.length = n1 := ⟨_, rfl⟩
 have L1 : Hid (xs.length = n1) := hn1
 rw [hn1] at H1 hn hlen ⊢
 clear hn1
 go_enter Tryz.func67, Tryz.ntmps67
 go_wp2_with (at_make; refine wpList_make_full _ rfl _ _ 42 rfl w.heap.size 27 i0 (ev 0 0 0 0 0) 5 Tryz.underlying42 hi hz0 hz1 _ _ _ _ n1 rfl rfl rfl rfl (by rw [hz2]; omega) (by unfold maxLen; omega) (Nat.le_refl _) ?_)
 intro w1 hown hgrow
 obtain ⟨hl0, ho⟩ := hown
 rcases ho with ⟨h, _⟩ | ⟨g, cap, cur, hv', _, hg, _, _, hsz, htake⟩
 ·cases h
 injection hv' with ha _ hc
 injection ha with ha
 injection ha with ha _ _
 subst ha hc
 have hB1 : Below w.heap.size w w1 := ⟨hgrow.os, hgrow.tape, hgrow.output, hgrow.size, fun k hk => hgrow.block k hk (fun h => by cases h)⟩
 have hcur : cur.toList.length = n1 * 5 := by simpa using hsz
 have hg' : w1.heap[w.heap.size]? = some (.cells cur.toList.toArray 27 (0, 0)) := by simpa using hg
 clear hi hz0 hz1 hz2 hl0 htake hgrow hg hsz
 have hpos : 0 < Nat.min n1 n1 → (some ⟨w.heap.size, 0, none⟩ : Option Addr) = some ⟨w.heap.size, 0, none⟩ ∧ ∃ ad, a1 = some ad ∧ ∀ j v, cs[j]? = some v → w1.cell? (ad.add j) = some v := fun h0 => by
  have h0' : 0 < n1 := by
   have : 0 < min n1 n1 := h0
   omega
  obtain ⟨b, off, rfl, hE⟩ := H1.out.at h0'
  refine ⟨rfl, _, rfl, fun j u hj => ?_⟩
  rw [Lib.add_plain]
  rw [← hcs.out] at hj
  exact rows_flat En.five xs off (hE.later hB1) j u hj
 have hmin : cs.length = Nat.min n1 n1 * 5 := by rw [hlen]; show _ = min n1 n1 * 5; rw [Nat.min_self]
 have hfit : 0 + cs.length ≤ cur.toList.length := by rw [hcur, hlen]; omega
 have hall := splice_all (hcur.trans hlen.symm)
 obtain ⟨cl, hcl⟩ : ∃ cl, Hid (cur.toList = cl) := ⟨_, rfl⟩
 rw [hcl.out] at hg' hfit hall
 have HALL : Hid (splice cl 0 cs = cs) := hall
 clear hcur hcl hall
 go_wp2_with ((with_reducible show wpList _ _ _ (Oper.mk (some 9) _ _ _ _ _ :: _) _ _); refine wpList_copyK rfl _ _ 42 42 rfl 27 5 Tryz.underlying42 sizeE (some ⟨w.heap.size, 0, none⟩) a1 n1 n1 n1 c1 rfl rfl w.heap.size 0 cl 27 hg' cs hmin hpos hfit hone w.heap.size w hB1 (Nat.le_refl _) ?_)
 intro w2 hg2 hB2
 go_wp2
 go_ret
 rw [HALL.out] at hg2
 exact ⟨_, rfl, Nat.le_refl _, hg2.out, hB2⟩
set_option maxHeartbeats 1000000 in
theorem wcopyY (v : Value) (xs : List UInt8) (w : World) (hv : SlOf bt 1 w v xs) (hn : xs.length ≤ 1000000) :
  Calls Tryz.prog 68 #[v] w fun e w' => ∃ g, e = .returned (.slice (some ⟨g, 0, none⟩) xs.length xs.length) ∧ w.heap.size ≤ g ∧ w'.heap[g]? = some (.cells (xs.flatMap bt).toArray 5) ∧ Below w.heap.size w w' := by
 obtain ⟨i0, hi, hz0, hz1, hz2⟩ := info_parts infoY
 have H1 : Hid (SlOf bt 1 w v xs) := hv
 obtain ⟨a1, c1, rfl, _⟩ := hv
 obtain ⟨cs, hcs⟩ : ∃ cs, Hid (xs.flatMap bt = cs) := ⟨_, rfl⟩
 have hone : ∀ u ∈ cs, u.oneCell' = true := by rw [← hcs.out]; exact oneY xs
 have hlen : cs.length = xs.length * 1 := by rw [← hcs.out]; exact row_len bt_one xs
 rw [hcs.out]
 obtain ⟨n1, hn1⟩ : ∃ n1, xs.length = n1 := ⟨_, rfl⟩
 have L1 : Hid (xs.length = n1) := hn1
 rw [hn1] at H1 hn hlen ⊢
 clear hn1
 go_enter Tryz.func68, Tryz.ntmps68
 go_wp2_with (at_make; refine wpList_make_full _ rfl _ _ 45 rfl w.heap.size 5 i0 (.int .u8 0) 1 Tryz.underlying45 hi hz0 hz1 _ _ _ _ n1 rfl rfl rfl rfl (by rw [hz2]; omega) (by unfold maxLen; omega) (Nat.le_refl _) ?_)
 intro w1 hown hgrow
 obtain ⟨hl0, ho⟩ := hown
 rcases ho with ⟨h, _⟩ | ⟨g, cap, cur, hv', _, hg, _, _, hsz, htake⟩
 ·cases h
 injection hv' with ha _ hc
 injection ha with ha
 injection ha with ha _ _
 subst ha hc
 have hB1 : Below w.heap.size w w1 := ⟨hgrow.os, hgrow.tape, hgrow.output, hgrow.size, fun k hk => hgrow.block k hk (fun h => by cases h)⟩
 have hcur : cur.toList.length = n1 * 1 := by simpa using hsz
 have hg' : w1.heap[w.heap.size]? = some (.cells cur.toList.toArray 5 (0, 0)) := by simpa using hg
 clear hi hz0 hz1 hz2 hl0 htake hgrow hg hsz
 have hpos : 0 < Nat.min n1 n1 → (some ⟨w.heap.size, 0, none⟩ : Option Addr) = some ⟨w.heap.size, 0, none⟩ ∧ ∃ ad, a1 = some ad ∧ ∀ j v, cs[j]? = some v → w1.cell? (ad.add j) = some v := fun h0 => by
  have h0' : 0 < n1 := by
   have : 0 < min n1 n1 := h0
   omega
  obtain ⟨b, off, rfl, hE⟩ := H1.out.at h0'
  refine ⟨rfl, _, rfl, fun j u hj => ?_⟩
  rw [Lib.add_plain]
  rw [← hcs.out] at hj
  exact rows_flat bt_one xs off (hE.later hB1) j u hj
 have hmin : cs.length = Nat.min n1 n1 * 1 := by rw [hlen]; show _ = min n1 n1 * 1; rw [Nat.min_self]
 have hfit : 0 + cs.length ≤ cur.toList.length := by rw [hcur, hlen]; omega
 have hall := splice_all (hcur.trans hlen.symm)
 obtain ⟨cl, hcl⟩ : ∃ cl, Hid (cur.toList = cl) := ⟨_, rfl⟩
 rw [hcl.out] at hg' hfit hall
 have HALL : Hid (splice cl 0 cs = cs) := hall
 clear hcur hcl hall
 go_wp2_with ((with_reducible show wpList _ _ _ (Oper.mk (some 9) _ _ _ _ _ :: _) _ _); refine wpList_copyK rfl _ _ 45 45 rfl 5 1 Tryz.underlying45 sizeY (some ⟨w.heap.size, 0, none⟩) a1 n1 n1 n1 c1 rfl rfl w.heap.size 0 cl 5 hg' cs hmin hpos hfit hone w.heap.size w hB1 (Nat.le_refl _) ?_)
 intro w2 hg2 hB2
 go_wp2
 go_ret
 rw [HALL.out] at hg2
 exact ⟨_, rfl, Nat.le_refl _, hg2.out, hB2⟩
set_option maxHeartbeats 1000000 in
theorem wcopyN (v : Value) (xs : List Nb) (w : World) (hv : SlOf Nb.cells 5 w v xs) (hn : xs.length ≤ 1000000) (hs : ∀ x, x ∈ xs → x.sl) :
  Calls Tryz.prog 65 #[v] w fun e w' => ∃ g, e = .returned (.slice (some ⟨g, 0, none⟩) xs.length xs.length) ∧ w.heap.size ≤ g ∧ w'.heap[g]? = some (.cells (xs.flatMap Nb.cells).toArray 49) ∧ Below w.heap.size w w' := by
 obtain ⟨i0, hi, hz0, hz1, hz2⟩ := info_parts infoN
 have H1 : Hid (SlOf Nb.cells 5 w v xs) := hv
 obtain ⟨a1, c1, rfl, _⟩ := hv
 obtain ⟨cs, hcs⟩ : ∃ cs, Hid (xs.flatMap Nb.cells = cs) := ⟨_, rfl⟩
 have hone : ∀ u ∈ cs, u.oneCell' = true := by rw [← hcs.out]; exact oneN xs hs
 have hlen : cs.length = xs.length * 5 := by rw [← hcs.out]; exact row_len Nb.five xs
 rw [hcs.out]
 obtain ⟨n1, hn1⟩ : ∃ n1, xs.length = n1 := ⟨_, rfl⟩
 have L1 : Hid (xs.length = n1) := hn1
 rw [hn1] at H1 hn hlen ⊢
 clear hn1 hs
 go_enter Tryz.func65, Tryz.ntmps65
 go_wp2_with (at_make; refine wpList_make_full _ rfl _ _ 22 rfl w.heap.size 49 i0 (.agg #[.int .i64 0, .slice none 0 0, .slice none 0 0, .slice none 0 0, .bool false]) 5 Tryz.underlying22 hi hz0 hz1 _ _ _ _ n1 rfl rfl rfl rfl (by rw [hz2]; omega) (by unfold maxLen; omega) (Nat.le_refl _) ?_)
 intro w1 hown hgrow
 obtain ⟨hl0, ho⟩ := hown
 rcases ho with ⟨h, _⟩ | ⟨g, cap, cur, hv', _, hg, _, _, hsz, htake⟩
 ·cases h
 injection hv' with ha _ hc
 injection ha with ha
 injection ha with ha _ _
 subst ha hc
 have hB1 : Below w.heap.size w w1 := ⟨hgrow.os, hgrow.tape, hgrow.output, hgrow.size, fun k hk => hgrow.block k hk (fun h => by cases h)⟩
 have hcur : cur.toList.length = n1 * 5 := by simpa using hsz
 have hg' : w1.heap[w.heap.size]? = some (.cells cur.toList.toArray 49 (0, 0)) := by simpa using hg
 clear hi hz0 hz1 hz2 hl0 htake hgrow hg hsz
 have hpos : 0 < Nat.min n1 n1 → (some ⟨w.heap.size, 0, none⟩ : Option Addr) = some ⟨w.heap.size, 0, none⟩ ∧ ∃ ad, a1 = some ad ∧ ∀ j v, cs[j]? = some v → w1.cell? (ad.add j) = some v := fun h0 => by
  have h0' : 0 < n1 := by
   have : 0 < min n1 n1 := h0
   omega
  obtain ⟨b, off, rfl, hE⟩ := H1.out.at h0'
  refine ⟨rfl, _, rfl, fun j u hj => ?_⟩
  rw [Lib.add_plain]
  rw [← hcs.out] at hj
  exact rows_flat Nb.five xs off (hE.later hB1) j u hj
 have hmin : cs.length = Nat.min n1 n1 * 5 := by rw [hlen]; show _ = min n1 n1 * 5; rw [Nat.min_self]
 have hfit : 0 + cs.length ≤ cur.toList.length := by rw [hcur, hlen]; omega
 have hall := splice_all (hcur.trans hlen.symm)
 obtain ⟨cl, hcl⟩ : ∃ cl, Hid (cur.toList = cl) := ⟨_, rfl⟩
 rw [hcl.out] at hg' hfit hall
 have HALL : Hid (splice cl 0 cs = cs) := hall
 clear hcur hcl hall
 go_wp2_with ((with_reducible show wpList _ _ _ (Oper.mk (some 9) _ _ _ _ _ :: _) _ _); refine wpList_copyK rfl _ _ 22 22 rfl 49 5 Tryz.underlying22 sizeN (some ⟨w.heap.size, 0, none⟩) a1 n1 n1 n1 c1 rfl rfl w.heap.size 0 cl 49 hg' cs hmin hpos hfit hone w.heap.size w hB1 (Nat.le_refl _) ?_)
 intro w2 hg2 hB2
 go_wp2
 go_ret
 rw [HALL.out] at hg2
 exact ⟨_, rfl, Nat.le_refl _, hg2.out, hB2⟩
set_option maxHeartbeats 1000000 in
theorem wcopyC (v : Value) (xs : List Cb) (w : World) (hv : SlOf Cb.cells 12 w v xs) (hn : xs.length ≤ 1000000) (hs : ∀ x, x ∈ xs → x.sl) :
  Calls Tryz.prog 66 #[v] w fun e w' => ∃ g, e = .returned (.slice (some ⟨g, 0, none⟩) xs.length xs.length) ∧ w.heap.size ≤ g ∧ w'.heap[g]? = some (.cells (xs.flatMap Cb.cells).toArray 41) ∧ Below w.heap.size w w' := by
 obtain ⟨i0, hi, hz0, hz1, hz2⟩ := info_parts infoCl
 have H1 : Hid (SlOf Cb.cells 12 w v xs) := hv
 obtain ⟨a1, c1, rfl, _⟩ := hv
 obtain ⟨cs, hcs⟩ : ∃ cs, Hid (xs.flatMap Cb.cells = cs) := ⟨_, rfl⟩
 have hone : ∀ u ∈ cs, u.oneCell' = true := by rw [← hcs.out]; exact oneCl xs hs
 have hlen : cs.length = xs.length * 12 := by rw [← hcs.out]; exact row_len Cb.twelve xs
 rw [hcs.out]
 obtain ⟨n1, hn1⟩ : ∃ n1, xs.length = n1 := ⟨_, rfl⟩
 have L1 : Hid (xs.length = n1) := hn1
 rw [hn1] at H1 hn hlen ⊢
 clear hn1 hs
 go_enter Tryz.func66, Tryz.ntmps66
 go_wp2_with (at_make; refine wpList_make_full _ rfl _ _ 23 rfl w.heap.size 41 i0 (Cl.zero.val nil0 nil0) 12 Tryz.underlying23 hi hz0 hz1 _ _ _ _ n1 rfl rfl rfl rfl (by rw [hz2]; omega) (by unfold maxLen; omega) (Nat.le_refl _) ?_)
 intro w1 hown hgrow
 obtain ⟨hl0, ho⟩ := hown
 rcases ho with ⟨h, _⟩ | ⟨g, cap, cur, hv', _, hg, _, _, hsz, htake⟩
 ·cases h
 injection hv' with ha _ hc
 injection ha with ha
 injection ha with ha _ _
 subst ha hc
 have hB1 : Below w.heap.size w w1 := ⟨hgrow.os, hgrow.tape, hgrow.output, hgrow.size, fun k hk => hgrow.block k hk (fun h => by cases h)⟩
 have hcur : cur.toList.length = n1 * 12 := by simpa using hsz
 have hg' : w1.heap[w.heap.size]? = some (.cells cur.toList.toArray 41 (0, 0)) := by simpa using hg
 clear hi hz0 hz1 hz2 hl0 htake hgrow hg hsz
 have hpos : 0 < Nat.min n1 n1 → (some ⟨w.heap.size, 0, none⟩ : Option Addr) = some ⟨w.heap.size, 0, none⟩ ∧ ∃ ad, a1 = some ad ∧ ∀ j v, cs[j]? = some v → w1.cell? (ad.add j) = some v := fun h0 => by
  have h0' : 0 < n1 := by
   have : 0 < min n1 n1 := h0
   omega
  obtain ⟨b, off, rfl, hE⟩ := H1.out.at h0'
  refine ⟨rfl, _, rfl, fun j u hj => ?_⟩
  rw [Lib.add_plain]
  rw [← hcs.out] at hj
  exact rows_flat Cb.twelve xs off (hE.later hB1) j u hj
 have hmin : cs.length = Nat.min n1 n1 * 12 := by rw [hlen]; show _ = min n1 n1 * 12; rw [Nat.min_self]
 have hfit : 0 + cs.length ≤ cur.toList.length := by rw [hcur, hlen]; omega
 have hall := splice_all (hcur.trans hlen.symm)
 obtain ⟨cl, hcl⟩ : ∃ cl, Hid (cur.toList = cl) := ⟨_, rfl⟩
 rw [hcl.out] at hg' hfit hall
 have HALL : Hid (splice cl 0 cs = cs) := hall
 clear hcur hcl hall
 go_wp2_with ((with_reducible show wpList _ _ _ (Oper.mk (some 9) _ _ _ _ _ :: _) _ _); refine wpList_copyK rfl _ _ 23 23 rfl 41 12 Tryz.underlying23 sizeCl (some ⟨w.heap.size, 0, none⟩) a1 n1 n1 n1 c1 rfl rfl w.heap.size 0 cl 41 hg' cs hmin hpos hfit hone w.heap.size w hB1 (Nat.le_refl _) ?_)
 intro w2 hg2 hB2
 go_wp2
 go_ret
 rw [HALL.out] at hg2
 exact ⟨_, rfl, Nat.le_refl _, hg2.out, hB2⟩
end Go.Proofs.YtmoaobfmopimlafGreatDoor
