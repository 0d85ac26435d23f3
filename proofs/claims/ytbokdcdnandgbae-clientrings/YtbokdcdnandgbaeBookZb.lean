/- 'copy' at records of more than one cell; the walks of package book's copyOf. -/
import Derived.Test.YtbokdcdnandgbaeSlJob
import Derived.Test.YtbokdcdnandgbaeSlRung
import Derived.Test.YtbokdcdnandgbaeCopyK
namespace Go.Proofs.Ytbokdcdnandgbae
open Go.RowKit

theorem sizeJ : (Try.prog.info? 64).map (·.size) = some 3 := by kernel_rfl
theorem sizeR : (Try.prog.info? 91).map (·.size) = some 3 := by kernel_rfl

set_option maxHeartbeats 1000000 in
theorem copyJ (v : Value) (xs : List Jb) (w : World) (hv : JobSl w v xs) (hn : xs.length ≤ 1000000) :
    Calls Try.prog 87 #[v] w fun e w' => ∃ g, e = .returned (.slice (some ⟨g, 0, none⟩) xs.length xs.length) ∧ w.heap.size ≤ g ∧ w'.heap[g]? = some (.cells (xs.flatMap Jb.cells).toArray 64) ∧ Below w.heap.size w w' := by
  obtain ⟨i0, hi, hz0, hz1, hz2⟩ := info_parts infoJ
  have H1 : Hid (JobSl w v xs) := hv
  obtain ⟨a1, c1, rfl, _⟩ := hv
  obtain ⟨cs, hcs⟩ : ∃ cs, Hid (xs.flatMap Jb.cells = cs) := ⟨_, rfl⟩
  have hone : ∀ u ∈ cs, u.oneCell' = true := by rw [← hcs.out]; exact oneJ xs
  have hlen : cs.length = xs.length * 3 := by rw [← hcs.out]; exact row_len Jb.three xs
  rw [hcs.out]
  obtain ⟨n1, hn1⟩ : ∃ n1, xs.length = n1 := ⟨_, rfl⟩
  have L1 : Hid (xs.length = n1) := hn1
  rw [hn1] at H1 hn hlen ⊢
  clear hn1
  go_enter Try.func87, Try.ntmps87
  go_wp2_with (at_make; refine wpList_make_full _ rfl _ _ 42 rfl w.heap.size 64 i0 (valJ 0 0 0) 3 Try.underlying42 hi hz0 hz1 _ _ _ _ n1 rfl rfl rfl rfl (by rw [hz2]; omega) (by unfold maxLen; omega) (Nat.le_refl _) ?_)
  intro w1 hown hgrow
  obtain ⟨hl0, ho⟩ := hown
  rcases ho with ⟨h, _⟩ | ⟨g, cap, cur, hv', _, hg, _, _, hsz, htake⟩
  · cases h
  injection hv' with ha _ hc
  injection ha with ha
  injection ha with ha _ _
  subst ha hc
  have hB1 : Below w.heap.size w w1 := ⟨hgrow.os, hgrow.tape, hgrow.output, hgrow.size, fun k hk => hgrow.block k hk (fun h => by cases h)⟩
  have hcur : cur.toList.length = n1 * 3 := by simpa using hsz
  have hg' : w1.heap[w.heap.size]? = some (.cells cur.toList.toArray 64 (0, 0)) := by simpa using hg
  clear hi hz0 hz1 hz2 hl0 htake hgrow hg hsz
  have hpos : 0 < Nat.min n1 n1 → (some ⟨w.heap.size, 0, none⟩ : Option Addr) = some ⟨w.heap.size, 0, none⟩ ∧ ∃ ad, a1 = some ad ∧ ∀ j v, cs[j]? = some v → w1.cell? (ad.add j) = some v := fun h0 => by
    have h0' : 0 < n1 := by
      have : 0 < min n1 n1 := h0
      omega
    obtain ⟨b, off, rfl, hE⟩ := H1.out.at h0'
    refine ⟨rfl, _, rfl, fun j u hj => ?_⟩
    rw [Lib.add_plain]
    rw [← hcs.out] at hj
    exact rows_flat Jb.three xs off (hE.later hB1) j u hj
  have hmin : cs.length = Nat.min n1 n1 * 3 := by rw [hlen]; show _ = min n1 n1 * 3; rw [Nat.min_self]
  have hfit : 0 + cs.length ≤ cur.toList.length := by rw [hcur, hlen]; omega
  have hall := splice_all (hcur.trans hlen.symm)
  obtain ⟨cl, hcl⟩ : ∃ cl, Hid (cur.toList = cl) := ⟨_, rfl⟩
  rw [hcl.out] at hg' hfit hall
  clear hcur hcl
  go_wp2_with ((with_reducible show wpList _ _ _ (Oper.mk (some 9) _ _ _ _ _ :: _) _ _); refine wpList_copyK rfl _ _ 42 42 rfl 64 3 Try.underlying42 sizeJ (some ⟨w.heap.size, 0, none⟩) a1 n1 n1 n1 c1 rfl rfl w.heap.size 0 cl 64 hg' cs hmin hpos hfit hone w.heap.size w hB1 (Nat.le_refl _) ?_)
  intro w2 hg2 hB2
  go_wp2
  go_ret
  exact ⟨_, rfl, Nat.le_refl _, hg2.out, hB2⟩

set_option maxHeartbeats 1000000 in
theorem copyR (v : Value) (xs : List Rg) (w : World) (hv : RungSl w v xs) (hn : xs.length ≤ 1000000) :
    Calls Try.prog 88 #[v] w fun e w' => ∃ g, e = .returned (.slice (some ⟨g, 0, none⟩) xs.length xs.length) ∧ w.heap.size ≤ g ∧ w'.heap[g]? = some (.cells (xs.flatMap Rg.cells).toArray 91) ∧ Below w.heap.size w w' := by
  obtain ⟨i0, hi, hz0, hz1, hz2⟩ := info_parts infoR
  have H1 : Hid (RungSl w v xs) := hv
  obtain ⟨a1, c1, rfl, _⟩ := hv
  obtain ⟨cs, hcs⟩ : ∃ cs, Hid (xs.flatMap Rg.cells = cs) := ⟨_, rfl⟩
  have hone : ∀ u ∈ cs, u.oneCell' = true := by rw [← hcs.out]; exact oneR xs
  have hlen : cs.length = xs.length * 3 := by rw [← hcs.out]; exact row_len Rg.three xs
  rw [hcs.out]
  obtain ⟨n1, hn1⟩ : ∃ n1, xs.length = n1 := ⟨_, rfl⟩
  have L1 : Hid (xs.length = n1) := hn1
  rw [hn1] at H1 hn hlen ⊢
  clear hn1
  go_enter Try.func88, Try.ntmps88
  go_wp2_with (at_make; refine wpList_make_full _ rfl _ _ 43 rfl w.heap.size 91 i0 (valR 0 0 0) 3 Try.underlying43 hi hz0 hz1 _ _ _ _ n1 rfl rfl rfl rfl (by rw [hz2]; omega) (by unfold maxLen; omega) (Nat.le_refl _) ?_)
  intro w1 hown hgrow
  obtain ⟨hl0, ho⟩ := hown
  rcases ho with ⟨h, _⟩ | ⟨g, cap, cur, hv', _, hg, _, _, hsz, htake⟩
  · cases h
  injection hv' with ha _ hc
  injection ha with ha
  injection ha with ha _ _
  subst ha hc
  have hB1 : Below w.heap.size w w1 := ⟨hgrow.os, hgrow.tape, hgrow.output, hgrow.size, fun k hk => hgrow.block k hk (fun h => by cases h)⟩
  have hcur : cur.toList.length = n1 * 3 := by simpa using hsz
  have hg' : w1.heap[w.heap.size]? = some (.cells cur.toList.toArray 91 (0, 0)) := by simpa using hg
  clear hi hz0 hz1 hz2 hl0 htake hgrow hg hsz
  have hpos : 0 < Nat.min n1 n1 → (some ⟨w.heap.size, 0, none⟩ : Option Addr) = some ⟨w.heap.size, 0, none⟩ ∧ ∃ ad, a1 = some ad ∧ ∀ j v, cs[j]? = some v → w1.cell? (ad.add j) = some v := fun h0 => by
    have h0' : 0 < n1 := by
      have : 0 < min n1 n1 := h0
      omega
    obtain ⟨b, off, rfl, hE⟩ := H1.out.at h0'
    refine ⟨rfl, _, rfl, fun j u hj => ?_⟩
    rw [Lib.add_plain]
    rw [← hcs.out] at hj
    exact rows_flat Rg.three xs off (hE.later hB1) j u hj
  have hmin : cs.length = Nat.min n1 n1 * 3 := by rw [hlen]; show _ = min n1 n1 * 3; rw [Nat.min_self]
  have hfit : 0 + cs.length ≤ cur.toList.length := by rw [hcur, hlen]; omega
  have hall := splice_all (hcur.trans hlen.symm)
  obtain ⟨cl, hcl⟩ : ∃ cl, Hid (cur.toList = cl) := ⟨_, rfl⟩
  rw [hcl.out] at hg' hfit hall
  clear hcur hcl
  go_wp2_with ((with_reducible show wpList _ _ _ (Oper.mk (some 9) _ _ _ _ _ :: _) _ _); refine wpList_copyK rfl _ _ 43 43 rfl 91 3 Try.underlying43 sizeR (some ⟨w.heap.size, 0, none⟩) a1 n1 n1 n1 c1 rfl rfl w.heap.size 0 cl 91 hg' cs hmin hpos hfit hone w.heap.size w hB1 (Nat.le_refl _) ?_)
  intro w2 hg2 hB2
  go_wp2
  go_ret
  exact ⟨_, rfl, Nat.le_refl _, hg2.out, hB2⟩

end Go.Proofs.Ytbokdcdnandgbae
