/- A region that draws its order, one operation of which (number L, that waits for the readers) may write what they read: the readers are taken first all the same. S is asked as long as L has not come up. -/
import Derived.Test.YtbokdcdnandgbaeKit
import Derived.Deep.RegionHeld3
namespace Go.Proofs.Ytbokdcdnandgbae
open Go.RowKit

section
variable {P : Program} {ops : Array Oper} {Q : Exit → Act → World → Prop} {md : Region.Mode} {S : World → Prop} {L : Nat}

/-- Whatever order comes: S holds behind each operation as long as number L has not come up. -/
def anyL (P : Program) (md : Region.Mode) (ops : Array Oper) (Q : Exit → Act → World → Prop) (S : World → Prop) (L : Nat) : Nat → Array Bool → Act → World → Prop
  | 0, l, a, w => Region.ready md ops l = [] ∧ Q .normal a w
  | f + 1, l, a, w => (Region.ready md ops l = [] → Q .normal a w) ∧ ∀ i ∈ Region.ready md ops l, wpOp P ops Q i (fun a' w' => ((l.setIfInBounds i true).getD L true = false → S w') ∧ anyL P md ops Q S L f (l.setIfInBounds i true) a' w') a w

theorem anyL_any : ∀ (f : Nat) (l : Array Bool) (a : Act) (w : World), anyL P md ops Q S L f l a w → wpAny P md ops Q f l a w
  | 0, _, _, _, h => h
  | f + 1, _, _, _, h => ⟨h.1, fun i hi => wpOp_mono (fun a' w' h' => anyL_any f _ a' w' h'.2) (h.2 i hi)⟩

/-- Does number L wait for number i? -/
def waits (md : Region.Mode) (ops : Array Oper) (L i : Nat) : Bool := match ops[L]? with
  | some o => o.after.toList.any fun e => Region.binds md e && e.on == i
  | none => false

theorem unlisted {i : Nat} {l : Array Bool} (h0 : l.getD i true = false) : l.getD i false ≠ true := fun h1 => by
  rcases Nat.lt_or_ge i l.size with h' | h'
  · simp [h'] at h0 h1; rw [h0] at h1; cases h1
  · simp [Array.getElem?_eq_none h'] at h1

theorem not_ready {i j : Nat} {l : Array Bool} (hw : waits md ops j i = true) (h0 : l.getD i true = false) : j ∉ Region.ready md ops l := fun hj => by
  obtain ⟨_, o, ho, hall⟩ := mem_ready.1 hj
  simp only [waits, ho, List.any_eq_true, Bool.and_eq_true, beq_iff_eq, Array.mem_toList_iff] at hw
  obtain ⟨e, he, hb, rfl⟩ := hw
  exact unlisted h0 (hall e he hb)

theorem set_unlisted {L j : Nat} {l : Array Bool} (h : j ≠ L) (h0 : l.getD L true = false) : (l.setIfInBounds j true).getD L true = false := by
  rw [getD_set_ne true h]; exact h0

theorem anyL_first {i : Nat} {oi : Oper} {v : Value} (hi : ops[i]? = some oi) (hsel : ∀ (j : Nat) (o : Oper) cs b, ops[j]? = some o → o.op ≠ .select cs b) (hL : waits md ops L i = true)
    (hQ : ∀ c a w, Q (.panic c) (a.put oi.dst v) w → Q (.panic c) a w) :
    ∀ (f : Nat) (l : Array Bool) (a : Act) (w : World),
      (∀ j oj, ops[j]? = some oj → j ≠ i → l.getD j true = false → (∀ e ∈ oj.after, Region.binds md e = true → e.on ≠ i) → oi.apart ops oj = true) →
      i ∈ Region.ready md ops l → l.getD L true = false → YieldsIf P ops S oi v a → S w → anyL P md ops Q S L f (l.setIfInBounds i true) (a.put oi.dst v) w → anyL P md ops Q S L (f + 1) l a w
  | f, l, a, w, hfree, hr, hl, hy, hS, H => by
    refine ⟨fun h => (by rw [h] at hr; cases hr), fun j hj => ?_⟩
    have hi0 := (mem_ready.1 hr).1
    by_cases hji : j = i
    · subst hji
      exact hy.wpOp hi hS ⟨fun _ => hS, H⟩
    · have hjr := ready_mono hj hji
      have hjL : j ≠ L := fun e => not_ready hL hi0 (e ▸ hj)
      obtain ⟨hj0, oj, hoj, hall⟩ := mem_ready.1 hj
      cases f with
      | zero => rw [H.1] at hjr; cases hjr
      | succ f =>
        have hap := hfree j oj hoj hji hj0 (fun e he hb heq => unlisted hi0 (heq ▸ hall e he hb))
        refine wpOp_mono (fun a' w' h3 => ?_) (wpOp_putIf hoj hap (fun cs b => hsel i oi cs b hi) (fun cs b => hsel j oj cs b hoj) hQ hy (H.2 j hjr))
        obtain ⟨hy', hS', H'⟩ := h3
        have hlj := set_unlisted hjL hl
        have hiL : i ≠ L := fun e => by
          subst e
          exact not_ready hL hi0 hr
        have hS2 : S w' := hS' (set_unlisted hjL (set_unlisted hiL hl))
        refine ⟨fun _ => hS2, anyL_first hi hsel hL hQ f (l.setIfInBounds j true) a' w' (fun k ok hk hki hun hno => hfree k ok hk hki ?_ hno) (ready_mono hr (Ne.symm hji)) hlj hy' hS2 ?_⟩
        · by_cases hjk : j = k
          · subst hjk; exact hj0
          · rw [getD_set_ne true hjk] at hun; exact hun
        · rw [Array.setIfInBounds_comm _ _ hji]; exact H'

/-- A reader (or what only reckons) is taken first. -/
theorem anyL_take {i : Nat} {oi : Oper} {v : Value} {f : Nat} {l : Array Bool} {a : Act} {w : World} (hi : ops[i]? = some oi) (hs : Region.noSelect ops = true) (hf : Region.free md ops l i = true) (hr : (Region.ready md ops l).contains i = true)
    (hL : waits md ops L i = true) (hl : l.getD L true = false) (hQ : ∀ c a w, Q (.panic c) (a.put oi.dst v) w → Q (.panic c) a w) (hy : YieldsIf P ops S oi v a) (hS : S w)
    (h : anyL P md ops Q S L f (l.setIfInBounds i true) (a.put oi.dst v) w) : anyL P md ops Q S L (f + 1) l a w :=
  anyL_first hi (Region.noSelect_spec hs) hL hQ f l a w (Region.free_spec hi hf) (by simpa using hr) hl hy hS h

theorem anyL_firstY {i : Nat} {oi : Oper} {v : Value} (hi : ops[i]? = some oi) (hsel : ∀ (j : Nat) (o : Oper) cs b, ops[j]? = some o → o.op ≠ .select cs b) (hiL : i ≠ L)
    (hQ : ∀ c a w, Q (.panic c) (a.put oi.dst v) w → Q (.panic c) a w) :
    ∀ (f : Nat) (l : Array Bool) (a : Act) (w : World),
      (∀ j oj, ops[j]? = some oj → j ≠ i → l.getD j true = false → (∀ e ∈ oj.after, Region.binds md e = true → e.on ≠ i) → oi.apart ops oj = true) →
      i ∈ Region.ready md ops l → YieldsIf P ops (fun _ => True) oi v a → (l.getD L true = false → S w) → anyL P md ops Q S L f (l.setIfInBounds i true) (a.put oi.dst v) w → anyL P md ops Q S L (f + 1) l a w
  | f, l, a, w, hfree, hr, hy, hS, H => by
    refine ⟨fun h => (by rw [h] at hr; cases hr), fun j hj => ?_⟩
    have hi0 := (mem_ready.1 hr).1
    by_cases hji : j = i
    · subst hji
      exact hy.wpOp hi trivial ⟨fun h => hS (by rwa [getD_set_ne true hiL] at h), H⟩
    · have hjr := ready_mono hj hji
      obtain ⟨hj0, oj, hoj, hall⟩ := mem_ready.1 hj
      cases f with
      | zero => rw [H.1] at hjr; cases hjr
      | succ f =>
        have hap := hfree j oj hoj hji hj0 (fun e he hb heq => unlisted hi0 (heq ▸ hall e he hb))
        refine wpOp_mono (fun a' w' h3 => ?_) (wpOp_putIf hoj hap (fun cs b => hsel i oi cs b hi) (fun cs b => hsel j oj cs b hoj) hQ hy (H.2 j hjr))
        obtain ⟨hy', hS', H'⟩ := h3
        have hS2 : (l.setIfInBounds j true).getD L true = false → S w' := fun h => hS' (by rw [Array.setIfInBounds_comm _ _ (Ne.symm hji)]; exact set_unlisted hiL h)
        refine ⟨hS2, anyL_firstY hi hsel hiL hQ f (l.setIfInBounds j true) a' w' (fun k ok hk hki hun hno => hfree k ok hk hki ?_ hno) (ready_mono hr (Ne.symm hji)) hy' hS2 ?_⟩
        · by_cases hjk : j = k
          · subst hjk; exact hj0
          · rw [getD_set_ne true hjk] at hun; exact hun
        · rw [Array.setIfInBounds_comm _ _ hji]; exact H'

/-- What only reckons is taken first, whether or not L waits for it. -/
theorem anyL_free {i : Nat} {oi : Oper} {v : Value} {f : Nat} {l : Array Bool} {a : Act} {w : World} (hi : ops[i]? = some oi) (hs : Region.noSelect ops = true) (hf : Region.free md ops l i = true) (hr : (Region.ready md ops l).contains i = true)
    (hiL : (i == L) = false) (hQ : ∀ c a w, Q (.panic c) (a.put oi.dst v) w → Q (.panic c) a w) (hy : YieldsIf P ops (fun _ => True) oi v a) (hS : S w)
    (h : anyL P md ops Q S L f (l.setIfInBounds i true) (a.put oi.dst v) w) : anyL P md ops Q S L (f + 1) l a w :=
  anyL_firstY hi (Region.noSelect_spec hs) (by simpa using hiL) hQ f l a w (Region.free_spec hi hf) (by simpa using hr) hy (fun _ => hS) h

/-- One operation alone may come up. -/
theorem anyL_one {i : Nat} {o : Oper} {f : Nat} {l : Array Bool} {a : Act} {w : World} (hr : Region.ready md ops l = [i]) (ho : ops[i]? = some o)
    (h : ∀ K : Act → World → Prop, Hid (∀ a' w', ((l.setIfInBounds i true).getD L true = false → S w') → (((l.setIfInBounds i true).getD L true = false → S w') → anyL P md ops Q S L f (l.setIfInBounds i true) a' w') → K a' w') → (if Region.wanted o (yielded ops a.tmps) = true then Oper.wp P o a w K Q else K (a.put o.dst undef) w)) : anyL P md ops Q S L (f + 1) l a w := by
  refine ⟨fun h0 => (by rw [hr] at h0; cases h0), fun j hj => ?_⟩
  rw [hr] at hj
  obtain rfl := List.mem_singleton.1 hj
  have h' := h (fun a' w' => ((l.setIfInBounds j true).getD L true = false → S w') ∧ anyL P md ops Q S L f (l.setIfInBounds j true) a' w') (fun a' w' h1 h2 => ⟨h1, h2 h1⟩)
  unfold wpOp
  rw [ho]
  split at h'
  · rename_i hw
    simp only [hw, if_true]
    exact Or.inl h'
  · rename_i hw
    simp only [hw]
    exact h'

/-- Two operations may come up. -/
theorem anyL_two {i k : Nat} {o o' : Oper} {f : Nat} {l : Array Bool} {a : Act} {w : World} (hr : Region.ready md ops l = [i, k]) (ho : ops[i]? = some o) (ho' : ops[k]? = some o')
    (h : ∀ K : Act → World → Prop, Hid (∀ a' w', ((l.setIfInBounds i true).getD L true = false → S w') → (((l.setIfInBounds i true).getD L true = false → S w') → anyL P md ops Q S L f (l.setIfInBounds i true) a' w') → K a' w') → (if Region.wanted o (yielded ops a.tmps) = true then Oper.wp P o a w K Q else K (a.put o.dst undef) w))
    (h' : ∀ K : Act → World → Prop, Hid (∀ a' w', ((l.setIfInBounds k true).getD L true = false → S w') → (((l.setIfInBounds k true).getD L true = false → S w') → anyL P md ops Q S L f (l.setIfInBounds k true) a' w') → K a' w') → (if Region.wanted o' (yielded ops a.tmps) = true then Oper.wp P o' a w K Q else K (a.put o'.dst undef) w)) : anyL P md ops Q S L (f + 1) l a w := by
  have one : ∀ (j : Nat) (oj : Oper), ops[j]? = some oj → (∀ K : Act → World → Prop, Hid (∀ a' w', ((l.setIfInBounds j true).getD L true = false → S w') → (((l.setIfInBounds j true).getD L true = false → S w') → anyL P md ops Q S L f (l.setIfInBounds j true) a' w') → K a' w') → (if Region.wanted oj (yielded ops a.tmps) = true then Oper.wp P oj a w K Q else K (a.put oj.dst undef) w)) →
      wpOp P ops Q j (fun a' w' => ((l.setIfInBounds j true).getD L true = false → S w') ∧ anyL P md ops Q S L f (l.setIfInBounds j true) a' w') a w := fun j oj hoj hh => by
    have h1 := hh (fun a' w' => ((l.setIfInBounds j true).getD L true = false → S w') ∧ anyL P md ops Q S L f (l.setIfInBounds j true) a' w') (fun a' w' h1 h2 => ⟨h1, h2 h1⟩)
    unfold wpOp
    rw [hoj]
    split at h1
    · rename_i hw
      simp only [hw, if_true]
      exact Or.inl h1
    · rename_i hw
      simp only [hw]
      exact h1
  refine ⟨fun h0 => (by rw [hr] at h0; cases h0), fun j hj => ?_⟩
  rw [hr] at hj
  rcases List.mem_cons.1 hj with rfl | hj
  · exact one _ _ ho h
  · obtain rfl := List.mem_singleton.1 hj
    exact one _ _ ho' h'

theorem anyL_done {l : Array Bool} {a : Act} {w : World} (hr : Region.ready md ops l = []) (h : Q .normal a w) : ∀ f, anyL P md ops Q S L f l a w
  | 0 => ⟨hr, h⟩
  | _ + 1 => ⟨fun _ => h, by rw [hr]; simp⟩

/-- The beginning. -/
theorem region_L (S : World → Prop) (L : Nat) {id : Nat} {a : Act} {w : World} (hm : P.follows .mixedOrders = true) (hS : S w.drew)
    (h : S w.drew → anyL P .any ops Q S L ops.size (Array.replicate ops.size false) a w.drew) : (Code.region id ops true).wp P Q a w :=
  wp_region_any hm (anyL_any _ _ _ _ (h hS))

end

end Go.Proofs.Ytbokdcdnandgbae
