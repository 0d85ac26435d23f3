/- For the law. -/
import Derived.Test.YtmoaobfmopimlafGreatDoorM34
set_option linter.unusedSimpArgs false
set_option linter.unusedVariables false
namespace Go.Proofs.YtmoaobfmopimlafGreatDoor
open Go.RowKit
section
variable {P : Program} {ops : Array Oper} {Q : Exit → Act → World → Prop} {md : Region.Mode} {S : World → Prop} {L : Nat}
def anyL (P : Program) (md : Region.Mode) (ops : Array Oper) (Q : Exit → Act → World → Prop) (S : World → Prop) (L : Nat) : Nat → Array Bool → Act → World → Prop
 | 0, l, a, w => Region.ready md ops l = [] ∧ Q .normal a w
 | f + 1, l, a, w => (Region.ready md ops l = [] → Q .normal a w) ∧ ∀ i ∈ Region.ready md ops l, wpOp P ops Q i (fun a' w' => ((l.setIfInBounds i true).getD L true = false → S w') ∧ anyL P md ops Q S L f (l.setIfInBounds i true) a' w') a w
theorem anyL_any : ∀ (f : Nat) (l : Array Bool) (a : Act) (w : World), anyL P md ops Q S L f l a w → wpAny P md ops Q f l a w
 | 0, _, _, _, h => h
 | f + 1, _, _, _, h => ⟨h.1, fun i hi => wpOp_mono (fun a' w' h' => anyL_any f _ a' w' h'.2) (h.2 i hi)⟩
def waits (md : Region.Mode) (ops : Array Oper) (L i : Nat) : Bool := match ops[L]? with
 | some o => o.after.toList.any fun e => Region.binds md e && e.on == i
 | none => false
theorem unlisted {i : Nat} {l : Array Bool} (h0 : l.getD i true = false) : l.getD i false ≠ true := fun h1 => by
 rcases Nat.lt_or_ge i l.size with h' | h'
 ·simp [h'] at h0 h1; rw [h0] at h1; cases h1
 ·simp [Array.getElem?_eq_none h'] at h1
theorem not_ready {i j : Nat} {l : Array Bool} (hw : waits md ops j i = true) (h0 : l.getD i true = false) : j ∉ Region.ready md ops l := fun hj => by
 obtain ⟨_, o, ho, hall⟩ := mem_ready.1 hj
 simp only [waits, ho, List.any_eq_true, Bool.and_eq_true, beq_iff_eq, Array.mem_toList_iff] at hw
 obtain ⟨e, he, hb, rfl⟩ := hw
 exact unlisted h0 (hall e he hb)
theorem set_unlisted {L j : Nat} {l : Array Bool} (h : j ≠ L) (h0 : l.getD L true = false) : (l.setIfInBounds j true).getD L true = false := by
 rw [getD_set_ne true h]; exact h0
theorem anyL_first {i : Nat} {oi : Oper} {v : Value} (hi : ops[i]? = some oi) (hsel : ∀ (j : Nat) (o : Oper) cs b, ops[j]? = some o → o.op ≠ .select cs b) (hL : waits md ops L i = true)
  (hQ : ∀ c a w, Q (.panic c) (a.put oi.dst v) w → Q (.panic c) a w) :
  ∀ (f : Nat) (l : Array Bool) (a : Act) (w : World),
   (∀ j oj, ops[j]? = some oj → j ≠ i → l.getD j true = false → (∀ e ∈ oj.after, Region.binds md e = true → e.on ≠ i) → oi.apart ops oj = true) →
   i ∈ Region.ready md ops l → l.getD L true = false → YieldsIf P ops S oi v a → S w → anyL P md ops Q S L f (l.setIfInBounds i true) (a.put oi.dst v) w → anyL P md ops Q S L (f + 1) l a w
 | f, l, a, w, hfree, hr, hl, hy, hS, H => by
  refine ⟨fun h => (by rw [h] at hr; cases hr), fun j hj => ?_⟩
  have hi0 := (mem_ready.1 hr).1
  by_cases hji : j = i
  ·subst hji
   exact hy.wpOp hi hS ⟨fun _ => hS, H⟩
  ·have hjr := ready_mono hj hji
   have hjL : j ≠ L := fun e => not_ready hL hi0 (e ▸ hj)
   obtain ⟨hj0, oj, hoj, hall⟩ := mem_ready.1 hj
   cases f with
   | zero => rw [H.1] at hjr; cases hjr
   | succ f =>
    have hap := hfree j oj hoj hji hj0 (fun e he hb heq => unlisted hi0 (heq ▸ hall e he hb))
    refine wpOp_mono (fun a' w' h3 => ?_) (wpOp_putIf hoj hap (fun cs b => hsel i oi cs b hi) (fun cs b => hsel j oj cs b hoj) hQ hy (H.2 j hjr))
    obtain ⟨hy', hS', H'⟩ := h3
    have hlj := set_unlisted hjL hl
    have hiL : i ≠ L := fun e => by
     subst e
     exact not_ready hL hi0 hr
    have hS2 : S w' := hS' (set_unlisted hjL (set_unlisted hiL hl))
    refine ⟨fun _ => hS2, anyL_first hi hsel hL hQ f (l.setIfInBounds j true) a' w' (fun k ok hk hki hun hno => hfree k ok hk hki ?_ hno) (ready_mono hr (Ne.symm hji)) hlj hy' hS2 ?_⟩
    ·by_cases hjk : j = k
     ·subst hjk; exact hj0
     ·rw [getD_set_ne true hjk] at hun; exact hun
    ·rw [Array.setIfInBounds_comm _ _ hji]; exact H'
theorem anyL_take {i : Nat} {oi : Oper} {v : Value} {f : Nat} {l : Array Bool} {a : Act} {w : World} (hi : ops[i]? = some oi) (hs : Region.noSelect ops = true) (hf : Region.free md ops l i = true) (hr : (Region.ready md ops l).contains i = true)
  (hL : waits md ops L i = true) (hl : l.getD L true = false) (hQ : ∀ c a w, Q (.panic c) (a.put oi.dst v) w → Q (.panic c) a w) (hy : YieldsIf P ops S oi v a) (hS : S w)
  (h : anyL P md ops Q S L f (l.setIfInBounds i true) (a.put oi.dst v) w) : anyL P md ops Q S L (f + 1) l a w :=
 anyL_first hi (Region.noSelect_spec hs) hL hQ f l a w (Region.free_spec hi hf) (by simpa using hr) hl hy hS h
theorem anyL_firstY {i : Nat} {oi : Oper} {v : Value} (hi : ops[i]? = some oi) (hsel : ∀ (j : Nat) (o : Oper) cs b, ops[j]? = some o → o.op ≠ .select cs b) (hiL : i ≠ L)
  (hQ : ∀ c a w, Q (.panic c) (a.put oi.dst v) w → Q (.panic c) a w) :
  ∀ (f : Nat) (l : Array Bool) (a : Act) (w : World),
   (∀ j oj, ops[j]? = some oj → j ≠ i → l.getD j true = false → (∀ e ∈ oj.after, Region.binds md e = true → e.on ≠ i) → oi.apart ops oj = true) →
   i ∈ Region.ready md ops l → YieldsIf P ops (fun _ => True) oi v a → (l.getD L true = false → S w) → anyL P md ops Q S L f (l.setIfInBounds i true) (a.put oi.dst v) w → anyL P md ops Q S L (f + 1) l a w
 | f, l, a, w, hfree, hr, hy, hS, H => by
  refine ⟨fun h => (by rw [h] at hr; cases hr), fun j hj => ?_⟩
  have hi0 := (mem_ready.1 hr).1
  by_cases hji : j = i
  ·subst hji
   exact hy.wpOp hi trivial ⟨fun h => hS (by rwa [getD_set_ne true hiL] at h), H⟩
  ·have hjr := ready_mono hj hji
   obtain ⟨hj0, oj, hoj, hall⟩ := mem_ready.1 hj
   cases f with
   | zero => rw [H.1] at hjr; cases hjr
   | succ f =>
    have hap := hfree j oj hoj hji hj0 (fun e he hb heq => unlisted hi0 (heq ▸ hall e he hb))
    refine wpOp_mono (fun a' w' h3 => ?_) (wpOp_putIf hoj hap (fun cs b => hsel i oi cs b hi) (fun cs b => hsel j oj cs b hoj) hQ hy (H.2 j hjr))
    obtain ⟨hy', hS', H'⟩ := h3
    have hS2 : (l.setIfInBounds j true).getD L true = false → S w' := fun h => hS' (by rw [Array.setIfInBounds_comm _ _ (Ne.symm hji)]; exact set_unlisted hiL h)
    refine ⟨hS2, anyL_firstY hi hsel hiL hQ f (l.setIfInBounds j true) a' w' (fun k ok hk hki hun hno => hfree k ok hk hki ?_ hno) (ready_mono hr (Ne.symm hji)) hy' hS2 ?_⟩
    ·by_cases hjk : j = k
     ·subst hjk; exact hj0
     ·rw [getD_set_ne true hjk] at hun; exact hun
    ·rw [Array.setIfInBounds_comm _ _ hji]; exact H'
theorem anyL_free {i : Nat} {oi : Oper} {v : Value} {f : Nat} {l : Array Bool} {a : Act} {w : World} (hi : ops[i]? = some oi) (hs : Region.noSelect ops = true) (hf : Region.free md ops l i = true) (hr : (Region.ready md ops l).contains i = true)
  (hiL : (i == L) = false) (hQ : ∀ c a w, Q (.panic c) (a.put oi.dst v) w → Q (.panic c) a w) (hy : YieldsIf P ops (fun _ => True) oi v a) (hS : S w)
  (h : anyL P md ops Q S L f (l.setIfInBounds i true) (a.put oi.dst v) w) : anyL P md ops Q S L (f + 1) l a w :=
 anyL_firstY hi (Region.noSelect_spec hs) (by simpa using hiL) hQ f l a w (Region.free_spec hi hf) (by simpa using hr) hy (fun _ => hS) h
theorem anyL_one {i : Nat} {o : Oper} {f : Nat} {l : Array Bool} {a : Act} {w : World} (hr : Region.ready md ops l = [i]) (ho : ops[i]? = some o)
  (h : ∀ K : Act → World → Prop, Hid (∀ a' w', ((l.setIfInBounds i true).getD L true = false → S w') → (((l.setIfInBounds i true).getD L true = false → S w') → anyL P md ops Q S L f (l.setIfInBounds i true) a' w') → K a' w') → (if Region.wanted o (yielded ops a.tmps) = true then Oper.wp P o a w K Q else K (a.put o.dst undef) w)) : anyL P md ops Q S L (f + 1) l a w := by
 refine ⟨fun h0 => (by rw [hr] at h0; cases h0), fun j hj => ?_⟩
 rw [hr] at hj
 obtain rfl := List.mem_singleton.1 hj
 have h' := h (fun a' w' => ((l.setIfInBounds j true).getD L true = false → S w') ∧ anyL P md ops Q S L f (l.setIfInBounds j true) a' w') (fun a' w' h1 h2 => ⟨h1, h2 h1⟩)
 unfold wpOp
 rw [ho]
 split at h'
 ·rename_i hw
  simp only [hw, if_true]
  exact Or.inl h'
 ·rename_i hw
  simp only [hw]
  exact h'
theorem anyL_done {l : Array Bool} {a : Act} {w : World} (hr : Region.ready md ops l = []) (h : Q .normal a w) : ∀ f, anyL P md ops Q S L f l a w
 | 0 => ⟨hr, h⟩
 | _ + 1 => ⟨fun _ => h, by rw [hr]; simp⟩
theorem region_L (S : World → Prop) (L : Nat) {id : Nat} {a : Act} {w : World} (hm : P.follows .mixedOrders = true) (hS : S w.drew)
  (h : S w.drew → anyL P .any ops Q S L ops.size (Array.replicate ops.size false) a w.drew) : (Code.region id ops true).wp P Q a w :=
 wp_region_any hm (anyL_any _ _ _ _ (h hS))
end
theorem tl {P : Program} {ops : Array Oper} {Q : Exit → Act → World → Prop} {md : Region.Mode} {S : World → Prop} {L : Nat} (i : Nat) {oi : Oper} {v : Value} {f : Nat} {l : Array Bool} {a : Act} {w : World} (hi : ops[i]? = some oi)
 (h3 : (Region.noSelect ops && (Region.free md ops l i && ((Region.ready md ops l).contains i && (waits md ops L i && !l.getD L true)))) = true) (hw : Region.wanted oi (yielded ops a.tmps) = true) (hS : S w) (hQ : ∀ c a w, Q (.panic c) (a.put oi.dst v) w → Q (.panic c) a w)
 (hy : ∀ w, S w → (execOp a.eval oi).run P w = .ok (.value v) w) (h : anyL P md ops Q S L f (l.setIfInBounds i true) (a.put oi.dst v) w) : anyL P md ops Q S L (f + 1) l a w := by
 simp only [Bool.and_eq_true, Bool.not_eq_true'] at h3
 exact anyL_take hi h3.1 h3.2.1 h3.2.2.1 h3.2.2.2.1 h3.2.2.2.2 hQ (Or.inl ⟨hw, hy⟩) hS h
theorem sizeJ : (Tryz.prog.info? 120).map (·.size) = some 3 := by kernel_rfl
theorem sizeR : (Tryz.prog.info? 76).map (·.size) = some 3 := by kernel_rfl
set_option maxHeartbeats 1000000 in
theorem copyJ (v : Value) (xs : List Jb) (w : World) (hv : JobSl w v xs) (hn : xs.length ≤ 1000000) :
  Calls Tryz.prog 228 #[v] w fun e w' => ∃ g, e = .returned (.slice (some ⟨g, 0, none⟩) xs.length xs.length) ∧ w.heap.size ≤ g ∧ w'.heap[g]? = some (.cells (xs.flatMap Jb.cells).toArray 120) ∧ Below w.heap.size w w' := by
 obtain ⟨i0, hi, hz0, hz1, hz2⟩ := info_parts infoJ
 have H1 : Hid (JobSl w v xs) := hv
 obtain ⟨a1, c1, rfl, _⟩ := hv
 obtain ⟨cs, hcs⟩ : ∃ cs, Hid (xs.flatMap Jb.cells = cs) := ⟨_, rfl⟩
 have hone : ∀ u ∈ cs, u.oneCell' = true := by rw [← hcs.out]; exact oneJ xs
 have hlen : cs.length = xs.length * 3 := by rw [← hcs.out]; exact row_len Jb.three xs
 rw [hcs.out]
 obtain ⟨n1, hn1⟩ : ∃ n1, xs.length = n1 := ⟨_, rfl⟩
 have L1 : Hid (xs.length = n1) := hn1
 rw [hn1] at H1 hn hlen ⊢
 clear hn1
 go_enter Tryz.func228, Tryz.ntmps228
 go_wp2_with (at_make; refine wpList_make_full _ rfl _ _ 36 rfl w.heap.size 120 i0 (valJ 0 0 0) 3 Tryz.underlying36 hi hz0 hz1 _ _ _ _ n1 rfl rfl rfl rfl (by rw [hz2]; omega) (by unfold maxLen; omega) (Nat.le_refl _) ?_)
 intro w1 hown hgrow
 obtain ⟨hl0, ho⟩ := hown
 rcases ho with ⟨h, _⟩ | ⟨g, cap, cur, hv', _, hg, _, _, hsz, htake⟩
 ·cases h
 injection hv' with ha _ hc
 injection ha with ha
 injection ha with ha _ _
 subst ha hc
 have hB1 : Below w.heap.size w w1 := ⟨hgrow.os, hgrow.tape, hgrow.output, hgrow.size, fun k hk => hgrow.block k hk (fun h => by cases h)⟩
 have hcur : cur.toList.length = n1 * 3 := by simpa using hsz
 have hg' : w1.heap[w.heap.size]? = some (.cells cur.toList.toArray 120 (0, 0)) := by simpa using hg
 clear hi hz0 hz1 hz2 hl0 htake hgrow hg hsz
 have hpos : 0 < Nat.min n1 n1 → (some ⟨w.heap.size, 0, none⟩ : Option Addr) = some ⟨w.heap.size, 0, none⟩ ∧ ∃ ad, a1 = some ad ∧ ∀ j v, cs[j]? = some v → w1.cell? (ad.add j) = some v := fun h0 => by
  have h0' : 0 < n1 := by
   have : 0 < min n1 n1 := h0
   omega
  obtain ⟨b, off, rfl, hE⟩ := H1.out.at h0'
  refine ⟨rfl, _, rfl, fun j u hj => ?_⟩
  rw [Lib.add_plain]
  rw [← hcs.out] at hj
  exact rows_flat Jb.three xs off (hE.later hB1) j u hj
 have hmin : cs.length = Nat.min n1 n1 * 3 := by rw [hlen]; show _ = min n1 n1 * 3; rw [Nat.min_self]
 have hfit : 0 + cs.length ≤ cur.toList.length := by rw [hcur, hlen]; omega
 have hall := splice_all (hcur.trans hlen.symm)
 obtain ⟨cl, hcl⟩ : ∃ cl, Hid (cur.toList = cl) := ⟨_, rfl⟩
 rw [hcl.out] at hg' hfit hall
 clear hcur hcl
 go_wp2_with ((with_reducible show wpList _ _ _ (Oper.mk (some 9) _ _ _ _ _ :: _) _ _); refine wpList_copyK rfl _ _ 36 36 rfl 120 3 Tryz.underlying36 sizeJ (some ⟨w.heap.size, 0, none⟩) a1 n1 n1 n1 c1 rfl rfl w.heap.size 0 cl 120 hg' cs hmin hpos hfit hone w.heap.size w hB1 (Nat.le_refl _) ?_)
 intro w2 hg2 hB2
 go_wp2
 go_ret
 exact ⟨_, rfl, Nat.le_refl _, hg2.out, hB2⟩
set_option maxHeartbeats 1000000 in
theorem copyR (v : Value) (xs : List Rg) (w : World) (hv : RungSl w v xs) (hn : xs.length ≤ 1000000) :
  Calls Tryz.prog 229 #[v] w fun e w' => ∃ g, e = .returned (.slice (some ⟨g, 0, none⟩) xs.length xs.length) ∧ w.heap.size ≤ g ∧ w'.heap[g]? = some (.cells (xs.flatMap Rg.cells).toArray 76) ∧ Below w.heap.size w w' := by
 obtain ⟨i0, hi, hz0, hz1, hz2⟩ := info_parts infoR
 have H1 : Hid (RungSl w v xs) := hv
 obtain ⟨a1, c1, rfl, _⟩ := hv
 obtain ⟨cs, hcs⟩ : ∃ cs, Hid (xs.flatMap Rg.cells = cs) := ⟨_, rfl⟩
 have hone : ∀ u ∈ cs, u.oneCell' = true := by rw [← hcs.out]; exact oneR xs
 have hlen : cs.length = xs.length * 3 := by rw [← hcs.out]; exact row_len Rg.three xs
 rw [hcs.out]
 obtain ⟨n1, hn1⟩ : ∃ n1, xs.length = n1 := ⟨_, rfl⟩
 have L1 : Hid (xs.length = n1) := hn1
 rw [hn1] at H1 hn hlen ⊢
 clear hn1
 go_enter Tryz.func229, Tryz.ntmps229
 go_wp2_with (at_make; refine wpList_make_full _ rfl _ _ 37 rfl w.heap.size 76 i0 (valR 0 0 0) 3 Tryz.underlying37 hi hz0 hz1 _ _ _ _ n1 rfl rfl rfl rfl (by rw [hz2]; omega) (by unfold maxLen; omega) (Nat.le_refl _) ?_)
 intro w1 hown hgrow
 obtain ⟨hl0, ho⟩ := hown
 rcases ho with ⟨h, _⟩ | ⟨g, cap, cur, hv', _, hg, _, _, hsz, htake⟩
 ·cases h
 injection hv' with ha _ hc
 injection ha with ha
 injection ha with ha _ _
 subst ha hc
 have hB1 : Below w.heap.size w w1 := ⟨hgrow.os, hgrow.tape, hgrow.output, hgrow.size, fun k hk => hgrow.block k hk (fun h => by cases h)⟩
 have hcur : cur.toList.length = n1 * 3 := by simpa using hsz
 have hg' : w1.heap[w.heap.size]? = some (.cells cur.toList.toArray 76 (0, 0)) := by simpa using hg
 clear hi hz0 hz1 hz2 hl0 htake hgrow hg hsz
 have hpos : 0 < Nat.min n1 n1 → (some ⟨w.heap.size, 0, none⟩ : Option Addr) = some ⟨w.heap.size, 0, none⟩ ∧ ∃ ad, a1 = some ad ∧ ∀ j v, cs[j]? = some v → w1.cell? (ad.add j) = some v := fun h0 => by
  have h0' : 0 < n1 := by
   have : 0 < min n1 n1 := h0
   omega
  obtain ⟨b, off, rfl, hE⟩ := H1.out.at h0'
  refine ⟨rfl, _, rfl, fun j u hj => ?_⟩
  rw [Lib.add_plain]
  rw [← hcs.out] at hj
  exact rows_flat Rg.three xs off (hE.later hB1) j u hj
 have hmin : cs.length = Nat.min n1 n1 * 3 := by rw [hlen]; show _ = min n1 n1 * 3; rw [Nat.min_self]
 have hfit : 0 + cs.length ≤ cur.toList.length := by rw [hcur, hlen]; omega
 have hall := splice_all (hcur.trans hlen.symm)
 obtain ⟨cl, hcl⟩ : ∃ cl, Hid (cur.toList = cl) := ⟨_, rfl⟩
 rw [hcl.out] at hg' hfit hall
 clear hcur hcl
 go_wp2_with ((with_reducible show wpList _ _ _ (Oper.mk (some 9) _ _ _ _ _ :: _) _ _); refine wpList_copyK rfl _ _ 37 37 rfl 76 3 Tryz.underlying37 sizeR (some ⟨w.heap.size, 0, none⟩) a1 n1 n1 n1 c1 rfl rfl w.heap.size 0 cl 76 hg' cs hmin hpos hfit hone w.heap.size w hB1 (Nat.le_refl _) ?_)
 intro w2 hg2 hB2
 go_wp2
 go_ret
 exact ⟨_, rfl, Nat.le_refl _, hg2.out, hB2⟩
structure Kept (S : List Nat) (w w' : World) : Prop where
 os : w'.os = w.os
 tape : w'.tape = w.tape
 output : w'.output = w.output
 size : w.heap.size ≤ w'.heap.size
 block : ∀ k, k < w.heap.size → k ∉ S → w'.heap[k]? = w.heap[k]?
theorem Kept.refl (S : List Nat) (w : World) : Kept S w w := ⟨rfl, rfl, rfl, Nat.le_refl _, fun _ _ _ => rfl⟩
theorem Kept.below {S : List Nat} {a w w' : World} (h : Kept S a w) (hb : Below w.heap.size w w') : Kept S a w' :=
 ⟨hb.os.trans h.os, hb.tape.trans h.tape, hb.output.trans h.output, Nat.le_trans h.size hb.size, fun k hk hS => (hb.block k (Nat.lt_of_lt_of_le hk h.size)).trans (h.block k hk hS)⟩
theorem Kept.alloc {S : List Nat} {a w : World} (h : Kept S a w) (o : Obj) : Kept S a (w.alloc o) := h.below (grew (Below.refl _ _) o)
theorem Kept.setRow {S : List Nat} {a w : World} (h : Kept S a w) {g : Nat} (hg : g ∈ S) (cs : Array Value) : Kept S a (w.setRow g cs) :=
 ⟨h.os, h.tape, h.output, Nat.le_trans h.size (by simp [World.setRow]), fun k hk hS => by
  rw [setRow_other w g k cs (fun e => hS (by rw [e]; exact hg))]; exact h.block k hk hS⟩
theorem Kept.setCell {S : List Nat} {a w : World} (h : Kept S a w) {g o : Nat} (hg : g ∈ S) (v : Value) : Kept S a (w.setCell ⟨g, o, none⟩ v) :=
 ⟨h.os, h.tape, h.output, Nat.le_trans h.size (by simp [World.setCell]), fun k hk hS => by
  rw [Below.heap_setCell _ _ _ _ (by show k ≠ g; exact fun e => hS (by rw [e]; exact hg))]; exact h.block k hk hS⟩
theorem Kept.old {S : List Nat} {w w' : World} {k : Nat} {o : Obj} (h : Kept S w w') (hk : w.heap[k]? = some o) (hS : k ∉ S) : w'.heap[k]? = some o := by
 rw [h.block k (heap_lt hk) hS]; exact hk
theorem Kept.to {S : List Nat} {B : Nat} {w w' : World} (h : Kept S w w') (hB : B ≤ w.heap.size) (hS : ∀ k, k ∈ S → B ≤ k) : Below B w w' :=
 ⟨h.os, h.tape, h.output, h.size, fun k hk => h.block k (Nat.lt_of_lt_of_le hk hB) (fun e => by have := hS k e; omega)⟩
theorem block_set {w : World} {g o : Nat} {L : List Value} {T : TypeId} (hg : w.heap[g]? = some (.cells L.toArray T)) (v : Value) : (w.setCell ⟨g, o, none⟩ v).heap[g]? = some (.cells (L.set o v).toArray T) := by
 have hlt : g < w.heap.size := (Array.getElem?_eq_some_iff.1 hg).1
 have hv : w.heap[g] = .cells L.toArray T := (Array.getElem?_eq_some_iff.1 hg).2
 unfold World.setCell
 rw [Array.getElem?_eq_getElem (by simpa using hlt), Array.getElem_modify]
 simp [hv]
theorem splice_three {L : List Value} {o : Nat} (a b c : Value) (h : o + 2 < L.length) : ((L.set o a).set (o + 1) b).set (o + 2) c = splice L o [a, b, c] := by
 refine List.ext_getElem (by simp [splice]; omega) fun j h1 h2 => ?_
 simp only [List.getElem_set, splice]
 by_cases h3 : j < o
 ·rw [List.getElem_append_left (by simp; omega), List.getElem_take, if_neg (by omega), if_neg (by omega), if_neg (by omega)]
 ·rw [List.getElem_append_right (by simp; omega)]
  have hl : (List.take o L).length = o := by simp; omega
  simp only [hl]
  by_cases h4 : j < o + 3
  ·rw [List.getElem_append_left (by simp; omega)]
   obtain h5 | h5 | h5 : j = o ∨ j = o + 1 ∨ j = o + 2 := by omega
   all_goals (subst h5; simp)
  ·rw [List.getElem_append_right (by simp; omega), if_neg (by omega), if_neg (by omega), if_neg (by omega), List.getElem_drop]
   congr 1
   simp
   omega
theorem block_three {w : World} {g o : Nat} {L : List Value} {T : TypeId} (hg : w.heap[g]? = some (.cells L.toArray T)) (a b c : Value) (h : o + 2 < L.length) :
  (((w.setCell ⟨g, o, none⟩ a).setCell ⟨g, o + 1, none⟩ b).setCell ⟨g, o + 2, none⟩ c).heap[g]? = some (.cells (splice L o [a, b, c]).toArray T) := by
 rw [← splice_three a b c h]
 exact block_set (block_set (block_set hg a) b) c
theorem rowAt_block {α : Type} {cs : α → List Value} {k : Nat} (hk : ∀ x, (cs x).length = k) {w : World} {b : Nat} {xs : List α} {T : TypeId} {L : List Value} (hb : w.heap[b]? = some (.cells L.toArray T)) (h : ∃ t, L = xs.flatMap cs ++ t) : RowAt cs k w b 0 xs := fun j e hj i u hi => by
 obtain ⟨t, rfl⟩ := h
 rw [Joins.cell_of_block hb, Nat.zero_add]
 have := row_flat hk xs j e hj i u hi
 have hlt := (List.getElem?_eq_some_iff.1 this).1
 simp [List.getElem?_append_left hlt, this]
theorem slOf_block {α : Type} {cs : α → List Value} {k : Nat} (hk : ∀ x, (cs x).length = k) {w : World} {b c : Nat} {xs : List α} {T : TypeId} {L : List Value} (hb : w.heap[b]? = some (.cells L.toArray T)) (h : ∃ t, L = xs.flatMap cs ++ t) : SlOf cs k w (.slice (some ⟨b, 0, none⟩) xs.length c) xs :=
 ⟨_, c, rfl, Or.inr ⟨b, 0, rfl, rowAt_block hk hb h⟩⟩
theorem splice_flat {α : Type} {cs : α → List Value} {k : Nat} (hk : ∀ x, (cs x).length = k) (a b : List α) (y z : α) : splice ((a ++ y :: b).flatMap cs) (a.length * k) (cs z) = (a ++ z :: b).flatMap cs := by
 have h1 := row_len hk a
 simp only [splice, List.flatMap_append, List.flatMap_cons, hk]
 rw [← h1, List.take_left, List.drop_append]
 simp [hk]
theorem srt_mid : ∀ {l : Int} {a b : List Jb} {y : Jb}, Srt l (a ++ y :: b) → (∀ x, x ∈ a → x.i < y.i) ∧ (∀ x, x ∈ b → y.i < x.i)
 | _, [], _, _, h => ⟨fun x hx => (by cases hx), fun x hx => Srt.above h.2 x hx⟩
 | l, z :: a, b, y, h => by
  obtain ⟨h1, h2⟩ := srt_mid (a := a) h.2
  refine ⟨fun x hx => ?_, h2⟩
  rcases List.mem_cons.1 hx with rfl | hx
  ·exact Srt.above h.2 y (by simp)
  ·exact h1 x hx
theorem alt_gap {a b : List Jb} {i : Int} (ha : ∀ x, x ∈ a → x.i < i) (hb : ∀ x, x ∈ b → i < x.i) (v : Option Jb) : alt (a ++ b) i v = a ++ v.toList ++ b := by
 have e1 : (a ++ b).filter (fun x => decide (x.i < i)) = a := by
  rw [List.filter_append, List.filter_eq_self.2 (fun x hx => by simpa using ha x hx), List.filter_eq_nil_iff.2 (fun x hx => by have := hb x hx; simp; omega), List.append_nil]
 have e2 : (a ++ b).filter (fun x => decide (i < x.i)) = b := by
  rw [List.filter_append, List.filter_eq_nil_iff.2 (fun x hx => by have := ha x hx; simp; omega), List.filter_eq_self.2 (fun x hx => by simpa using hb x hx), List.nil_append]
 rw [alt, e1, e2]
theorem alt_mid {l : Int} {a b : List Jb} {y : Jb} (h : Srt l (a ++ y :: b)) (v : Option Jb) : alt (a ++ y :: b) y.i v = a ++ v.toList ++ b := by
 obtain ⟨h1, h2⟩ := srt_mid h
 have e1 : (a ++ y :: b).filter (fun x => decide (x.i < y.i)) = a := by
  rw [List.filter_append, List.filter_cons, if_neg (by simp), List.filter_eq_self.2 (fun x hx => by simpa using h1 x hx), List.filter_eq_nil_iff.2 (fun x hx => by have := h2 x hx; simp; omega), List.append_nil]
 have e2 : (a ++ y :: b).filter (fun x => decide (y.i < x.i)) = b := by
  rw [List.filter_append, List.filter_cons, if_neg (by simp), List.filter_eq_nil_iff.2 (fun x hx => by have := h1 x hx; simp; omega), List.filter_eq_self.2 (fun x hx => by simpa using h2 x hx), List.nil_append]
 rw [alt, e1, e2]
theorem alt_filter {l : Int} {js : List Jb} {i : Int} (h : Srt l js) (hi : l < i) : alt js i none = js.filter (fun x => !(x.i == i)) := by
 refine srt_ext (alt_srt h hi (fun x hx => by cases hx)) (srt_filter _ h) fun x => ?_
 rw [alt_mem, List.mem_filter]
 simp
theorem srt_above_at {l i : Int} {js : List Jb} {k : Nat} {x : Jb} (h : Srt l js) (hx : js[k]? = some x) (hi : i < x.i) : ∀ y, y ∈ js.drop k → i < y.i := by
 have hlt := (List.getElem?_eq_some_iff.1 hx).1
 have e : js = js.take k ++ x :: js.drop (k + 1) := by
  rw [← drop_at hx, List.take_append_drop]
 rw [e] at h
 obtain ⟨_, h2⟩ := srt_mid h
 rw [drop_at hx]
 intro y hy
 rcases List.mem_cons.1 hy with rfl | hy
 ·exact hi
 ·have := h2 y hy; omega
end Go.Proofs.YtmoaobfmopimlafGreatDoor
