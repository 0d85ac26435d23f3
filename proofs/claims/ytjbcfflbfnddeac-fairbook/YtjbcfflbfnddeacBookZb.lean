/- 'copy' at records of more than one cell; the walks of package book's copyOf. -/
import Derived.Test.YtjbcfflbfnddeacSlJob
import Derived.Test.YtjbcfflbfnddeacSlRung
import Derived.Laws.CopyOwn
namespace Go.Proofs.Ytjbcfflbfnddeac
open Go.RowKit

section
variable {P : Program}

theorem copy_cells (w : World) (dT sT ty elem : TypeId) (g o dLen dCap : Nat) (a : Addr) (sLen sCap : Nat) (cur : List Value) (t : TypeId) (k : Nat) (cs : List Value)
    (hu : P.underlying dT = some (.slice elem)) (hs : (P.info? elem).map (·.size) = some k)
    (hg : w.heap[g]? = some (.cells cur.toArray t (0, 0))) (hn : cs.length = Nat.min sLen dLen * k)
    (hsrc : ∀ j v, cs[j]? = some v → w.cell? (a.add j) = some v) (hfit : o + cs.length ≤ cur.length) (h1 : ∀ v ∈ cs, v.oneCell' = true) :
    (Builtin.copy_ #[dT, sT] ty #[.slice (some ⟨g, o, none⟩) dLen dCap, .slice (some a) sLen sCap]).run P w =
      .ok (goInt (Nat.min sLen dLen)) (w.setRow g (splice cur o cs).toArray) := by
  have hl := run_firstCells_some (P := P) w k (Nat.min sLen dLen) a sLen sCap cs hn hsrc
  have hst := run_storeCells_at P g o t cs 0 cur.toArray w hg (by simpa using hfit) h1
  cases hq : P.info? elem with
  | none => simp [hq] at hs
  | some i =>
    have hi : i.size = k := by simpa [hq] using hs
    simp only [Nat.add_zero] at hst
    simp [Builtin.copy_, run_underlying hu, Builtin.lenOf, sizeOf, typeInfo, hq, hi, hl, hst, splice]

theorem copy_nothing (w : World) (dT sT ty elem : TypeId) (d a : Option Addr) (dLen dCap sLen sCap k : Nat) (hu : P.underlying dT = some (.slice elem)) (hs : (P.info? elem).map (·.size) = some k) (hn : Nat.min sLen dLen = 0) :
    (Builtin.copy_ #[dT, sT] ty #[.slice d dLen dCap, .slice a sLen sCap]).run P w = .ok (goInt 0) w := by
  cases hq : P.info? elem with
  | none => simp [hq] at hs
  | some i =>
    have hf : (Builtin.firstCells i.size 0 (.slice a sLen sCap)).run P w = .ok #[] w := by
      cases a with
      | none => exact run_firstCells_none w i.size 0 sLen sCap
      | some a => exact run_firstCells_some w i.size 0 a sLen sCap [] (by simp) (fun j v h => by simp at h)
    cases d <;> simp [Builtin.copy_, run_underlying hu, Builtin.lenOf, sizeOf, typeInfo, hq, hn, hf, storeCells]

/-- 'copy' into a row that is known whole. -/
theorem wpList_copyK {w : World} {ops : Array Oper} {rest : List Oper} {o : Oper} {a : Act} {Q : Exit → Act → World → Prop} (hgd : o.guard = none) (d s : Operand) (dT sT : TypeId)
    (ho : o.op = .call { callee := .builtin .copy, args := #[d, s], argTypes := #[dT, sT] }) (elem : TypeId) (k : Nat) (hu : P.underlying dT = some (.slice elem)) (hsz : (P.info? elem).map (·.size) = some k)
    (dp sp : Option Addr) (dLen dCap sLen sCap : Nat) (hd : a.eval d = .slice dp dLen dCap) (hs : a.eval s = .slice sp sLen sCap)
    (g off : Nat) (cur : List Value) (t : TypeId) (hg : w.heap[g]? = some (.cells cur.toArray t (0, 0))) (cs : List Value) (hn : cs.length = Nat.min sLen dLen * k)
    (hpos : 0 < Nat.min sLen dLen → dp = some ⟨g, off, none⟩ ∧ ∃ ad, sp = some ad ∧ ∀ j v, cs[j]? = some v → w.cell? (ad.add j) = some v)
    (hfit : off + cs.length ≤ cur.length) (h1 : ∀ v ∈ cs, v.oneCell' = true) (B : Nat) (w0 : World) (hb : Below B w0 w) (hBg : B ≤ g)
    (h : ∀ w', Hid (w'.heap[g]? = some (.cells (splice cur off cs).toArray t (0, 0))) → Below B w0 w' → wpList P ops Q rest (a.put o.dst (goInt (Nat.min sLen dLen))) w') :
    wpList P ops Q (o :: rest) a w := by
  refine wpList_plain hgd fun K hK => ?_
  by_cases h0 : Nat.min sLen dLen = 0
  · obtain rfl : cs = [] := List.eq_nil_of_length_eq_zero (by rw [hn, h0, Nat.zero_mul])
    have hrun := copy_nothing (P := P) w dT sT o.type elem dp sp dLen dCap sLen sCap k hu hsz h0
    unfold Oper.wp
    simp [execOp, ho, resolve, invoke, builtin, hd, hs, hrun, Result.andThen]
    rw [h0] at h
    exact hK _ _ (h w (show _ = _ by simpa [splice] using hg) hb)
  · obtain ⟨rfl, ad, rfl, hsrc⟩ := hpos (by omega)
    have hrun := copy_cells (P := P) w dT sT o.type elem g off dLen dCap ad sLen sCap cur t k cs hu hsz hg hn hsrc hfit h1
    unfold Oper.wp
    simp [execOp, ho, resolve, invoke, builtin, hd, hs, hrun, Result.andThen]
    exact hK _ _ (h _ (show _ = _ from setRow_heap w g _ _ t _ hg) (below_setRow hb hBg _))

/-- The same as a step of a region that draws its order. -/
theorem step_copyK {ops : Array Oper} {o : Oper} {a : Act} {w : World} {K : Act → World → Prop} {Q : Exit → Act → World → Prop} {E : Prop} (hgd : o.guard = none) (d s : Operand) (dT sT : TypeId)
    (ho : o.op = .call { callee := .builtin .copy, args := #[d, s], argTypes := #[dT, sT] }) (elem : TypeId) (k : Nat) (hu : P.underlying dT = some (.slice elem)) (hsz : (P.info? elem).map (·.size) = some k)
    (dp sp : Option Addr) (dLen dCap sLen sCap : Nat) (hd : a.eval d = .slice dp dLen dCap) (hs : a.eval s = .slice sp sLen sCap)
    (g off : Nat) (cur : List Value) (t : TypeId) (hg : w.heap[g]? = some (.cells cur.toArray t (0, 0))) (cs : List Value) (hn : cs.length = Nat.min sLen dLen * k)
    (hpos : 0 < Nat.min sLen dLen → dp = some ⟨g, off, none⟩ ∧ ∃ ad, sp = some ad ∧ ∀ j v, cs[j]? = some v → w.cell? (ad.add j) = some v)
    (hfit : off + cs.length ≤ cur.length) (h1 : ∀ v ∈ cs, v.oneCell' = true) (B : Nat) (w0 : World) (hb : Below B w0 w) (hBg : B ≤ g)
    (h : ∀ w', Hid (w'.heap[g]? = some (.cells (splice cur off cs).toArray t (0, 0))) → Below B w0 w' → K (a.put o.dst (goInt (Nat.min sLen dLen))) w') :
    if Region.wanted o (yielded ops a.tmps) = true then Oper.wp P o a w K Q else E := by
  have hw : Region.wanted o (yielded ops a.tmps) = true := by simp [Region.wanted, hgd]
  rw [if_pos hw]
  by_cases h0 : Nat.min sLen dLen = 0
  · obtain rfl : cs = [] := List.eq_nil_of_length_eq_zero (by rw [hn, h0, Nat.zero_mul])
    have hrun := copy_nothing (P := P) w dT sT o.type elem dp sp dLen dCap sLen sCap k hu hsz h0
    unfold Oper.wp
    simp [execOp, ho, resolve, invoke, builtin, hd, hs, hrun, Result.andThen]
    rw [h0] at h
    exact h w (show _ = _ by simpa [splice] using hg) hb
  · obtain ⟨rfl, ad, rfl, hsrc⟩ := hpos (by omega)
    have hrun := copy_cells (P := P) w dT sT o.type elem g off dLen dCap ad sLen sCap cur t k cs hu hsz hg hn hsrc hfit h1
    unfold Oper.wp
    simp [execOp, ho, resolve, invoke, builtin, hd, hs, hrun, Result.andThen]
    exact h _ (show _ = _ from setRow_heap w g _ _ t _ hg) (below_setRow hb hBg _)
end

theorem splice_all {α : Type} {L cs : List α} (h : L.length = cs.length) : splice L 0 cs = cs := by
  simp [splice, ← h]

theorem sizeJ : (Try.prog.info? 40).map (·.size) = some 3 := by kernel_rfl
theorem sizeR : (Try.prog.info? 46).map (·.size) = some 3 := by kernel_rfl

set_option maxHeartbeats 1000000 in
theorem copyJ (v : Value) (xs : List Jb) (w : World) (hv : JobSl w v xs) (hn : xs.length ≤ 1000000) :
    Calls Try.prog 21 #[v] w fun e w' => ∃ g, e = .returned (.slice (some ⟨g, 0, none⟩) xs.length xs.length) ∧ w.heap.size ≤ g ∧ w'.heap[g]? = some (.cells (xs.flatMap Jb.cells).toArray 40) ∧ Below w.heap.size w w' := by
  obtain ⟨i0, hi, hz0, hz1, hz2⟩ := info_parts infoJ
  have H1 : Hid (JobSl w v xs) := hv
  obtain ⟨a1, c1, rfl, _⟩ := hv
  obtain ⟨cs, hcs⟩ : ∃ cs, Hid (xs.flatMap Jb.cells = cs) := ⟨_, rfl⟩
  have hone : ∀ u ∈ cs, u.oneCell' = true := by rw [← hcs.out]; exact oneJ xs
  have hlen : cs.length = xs.length * 3 := by rw [← hcs.out]; exact row_len Jb.three xs
  rw [hcs.out]
  obtain ⟨n1, hn1⟩ : ∃ n1, xs.length = n1 := ⟨_, rfl⟩
  have L1 : Hid (xs.length = n1) := hn1
  rw [hn1] at H1 hn hlen ⊢
  clear hn1
  go_enter Try.func21, Try.ntmps21
  go_wp2_with (at_make; refine wpList_make_full _ rfl _ _ 32 rfl w.heap.size 40 i0 (valJ 0 0 0) 3 Try.underlying32 hi hz0 hz1 _ _ _ _ n1 rfl rfl rfl rfl (by rw [hz2]; omega) (by unfold maxLen; omega) (Nat.le_refl _) ?_)
  intro w1 hown hgrow
  obtain ⟨hl0, ho⟩ := hown
  rcases ho with ⟨h, _⟩ | ⟨g, cap, cur, hv', _, hg, _, _, hsz, htake⟩
  · cases h
  injection hv' with ha _ hc
  injection ha with ha
  injection ha with ha _ _
  subst ha hc
  have hB1 : Below w.heap.size w w1 := ⟨hgrow.os, hgrow.tape, hgrow.output, hgrow.size, fun k hk => hgrow.block k hk (fun h => by cases h)⟩
  have hcur : cur.toList.length = n1 * 3 := by simpa using hsz
  have hg' : w1.heap[w.heap.size]? = some (.cells cur.toList.toArray 40 (0, 0)) := by simpa using hg
  clear hi hz0 hz1 hz2 hl0 htake hgrow hg hsz
  have hpos : 0 < Nat.min n1 n1 → (some ⟨w.heap.size, 0, none⟩ : Option Addr) = some ⟨w.heap.size, 0, none⟩ ∧ ∃ ad, a1 = some ad ∧ ∀ j v, cs[j]? = some v → w1.cell? (ad.add j) = some v := fun h0 => by
    have h0' : 0 < n1 := by
      have : 0 < min n1 n1 := h0
      omega
    obtain ⟨b, off, rfl, hE⟩ := H1.out.at h0'
    refine ⟨rfl, _, rfl, fun j u hj => ?_⟩
    rw [Lib.add_plain]
    rw [← hcs.out] at hj
    exact rows_flat Jb.three xs off (hE.later hB1) j u hj
  have hmin : cs.length = Nat.min n1 n1 * 3 := by rw [hlen]; show _ = min n1 n1 * 3; rw [Nat.min_self]
  have hfit : 0 + cs.length ≤ cur.toList.length := by rw [hcur, hlen]; omega
  have hall := splice_all (hcur.trans hlen.symm)
  obtain ⟨cl, hcl⟩ : ∃ cl, Hid (cur.toList = cl) := ⟨_, rfl⟩
  rw [hcl.out] at hg' hfit hall
  clear hcur hcl
  go_wp2_with ((with_reducible show wpList _ _ _ (Oper.mk (some 9) _ _ _ _ _ :: _) _ _); refine wpList_copyK rfl _ _ 32 32 rfl 40 3 Try.underlying32 sizeJ (some ⟨w.heap.size, 0, none⟩) a1 n1 n1 n1 c1 rfl rfl w.heap.size 0 cl 40 hg' cs hmin hpos hfit hone w.heap.size w hB1 (Nat.le_refl _) ?_)
  intro w2 hg2 hB2
  go_wp2
  go_ret
  exact ⟨_, rfl, Nat.le_refl _, hg2.out, hB2⟩

set_option maxHeartbeats 1000000 in
theorem copyR (v : Value) (xs : List Rg) (w : World) (hv : RungSl w v xs) (hn : xs.length ≤ 1000000) :
    Calls Try.prog 22 #[v] w fun e w' => ∃ g, e = .returned (.slice (some ⟨g, 0, none⟩) xs.length xs.length) ∧ w.heap.size ≤ g ∧ w'.heap[g]? = some (.cells (xs.flatMap Rg.cells).toArray 46) ∧ Below w.heap.size w w' := by
  obtain ⟨i0, hi, hz0, hz1, hz2⟩ := info_parts infoR
  have H1 : Hid (RungSl w v xs) := hv
  obtain ⟨a1, c1, rfl, _⟩ := hv
  obtain ⟨cs, hcs⟩ : ∃ cs, Hid (xs.flatMap Rg.cells = cs) := ⟨_, rfl⟩
  have hone : ∀ u ∈ cs, u.oneCell' = true := by rw [← hcs.out]; exact oneR xs
  have hlen : cs.length = xs.length * 3 := by rw [← hcs.out]; exact row_len Rg.three xs
  rw [hcs.out]
  obtain ⟨n1, hn1⟩ : ∃ n1, xs.length = n1 := ⟨_, rfl⟩
  have L1 : Hid (xs.length = n1) := hn1
  rw [hn1] at H1 hn hlen ⊢
  clear hn1
  go_enter Try.func22, Try.ntmps22
  go_wp2_with (at_make; refine wpList_make_full _ rfl _ _ 33 rfl w.heap.size 46 i0 (valR 0 0 0) 3 Try.underlying33 hi hz0 hz1 _ _ _ _ n1 rfl rfl rfl rfl (by rw [hz2]; omega) (by unfold maxLen; omega) (Nat.le_refl _) ?_)
  intro w1 hown hgrow
  obtain ⟨hl0, ho⟩ := hown
  rcases ho with ⟨h, _⟩ | ⟨g, cap, cur, hv', _, hg, _, _, hsz, htake⟩
  · cases h
  injection hv' with ha _ hc
  injection ha with ha
  injection ha with ha _ _
  subst ha hc
  have hB1 : Below w.heap.size w w1 := ⟨hgrow.os, hgrow.tape, hgrow.output, hgrow.size, fun k hk => hgrow.block k hk (fun h => by cases h)⟩
  have hcur : cur.toList.length = n1 * 3 := by simpa using hsz
  have hg' : w1.heap[w.heap.size]? = some (.cells cur.toList.toArray 46 (0, 0)) := by simpa using hg
  clear hi hz0 hz1 hz2 hl0 htake hgrow hg hsz
  have hpos : 0 < Nat.min n1 n1 → (some ⟨w.heap.size, 0, none⟩ : Option Addr) = some ⟨w.heap.size, 0, none⟩ ∧ ∃ ad, a1 = some ad ∧ ∀ j v, cs[j]? = some v → w1.cell? (ad.add j) = some v := fun h0 => by
    have h0' : 0 < n1 := by
      have : 0 < min n1 n1 := h0
      omega
    obtain ⟨b, off, rfl, hE⟩ := H1.out.at h0'
    refine ⟨rfl, _, rfl, fun j u hj => ?_⟩
    rw [Lib.add_plain]
    rw [← hcs.out] at hj
    exact rows_flat Rg.three xs off (hE.later hB1) j u hj
  have hmin : cs.length = Nat.min n1 n1 * 3 := by rw [hlen]; show _ = min n1 n1 * 3; rw [Nat.min_self]
  have hfit : 0 + cs.length ≤ cur.toList.length := by rw [hcur, hlen]; omega
  have hall := splice_all (hcur.trans hlen.symm)
  obtain ⟨cl, hcl⟩ : ∃ cl, Hid (cur.toList = cl) := ⟨_, rfl⟩
  rw [hcl.out] at hg' hfit hall
  clear hcur hcl
  go_wp2_with ((with_reducible show wpList _ _ _ (Oper.mk (some 9) _ _ _ _ _ :: _) _ _); refine wpList_copyK rfl _ _ 33 33 rfl 46 3 Try.underlying33 sizeR (some ⟨w.heap.size, 0, none⟩) a1 n1 n1 n1 c1 rfl rfl w.heap.size 0 cl 46 hg' cs hmin hpos hfit hone w.heap.size w hB1 (Nat.le_refl _) ?_)
  intro w2 hg2 hB2
  go_wp2
  go_ret
  exact ⟨_, rfl, Nat.le_refl _, hg2.out, hB2⟩

end Go.Proofs.Ytjbcfflbfnddeac
