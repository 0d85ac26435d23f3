/- Plain facts on the words of a text: all of them, and at most four. -/
import Derived.Test.YtnmapehbcccbhadDoorRefC
import Derived.Lib.SplitLaws
namespace Go.Proofs.YtnmapehbcccbhadDoor
open Go.RowKit

/-- All words of a text. -/
def words (l : List UInt8) : List (List UInt8) := Lib.splitK [32] 0 (Lib.count l [32]) l

theorem index_cut_no {l : List UInt8} (h : (Lib.cut l [32]).2.2 = false) : Lib.index l [32] = -1 := by
  unfold Lib.cut at h
  split at h
  · cases h
  · rename_i h'
    have := Lib.index_ge l [32]
    omega

theorem cut_first {l a b : List UInt8} (h : Lib.cut l [32] = (a, b, true)) : (32 : UInt8) ∉ a ∧ Lib.index l [32] = a.length := by
  have hl := cut_back l a b h
  unfold Lib.cut at h
  rcases Lib.index_spec l [32] with ⟨h1, _⟩ | ⟨i, h1, h2, _, h4⟩
  · rw [h1, if_neg (by omega)] at h; cases h
  · rw [h1, if_pos (by omega)] at h
    simp only [Int.toNat_natCast, Prod.mk.injEq] at h
    obtain ⟨ha, _, _⟩ := h
    have hal : a.length = i := by rw [← ha, List.length_take]; omega
    refine ⟨fun hm => ?_, by rw [h1, hal]⟩
    obtain ⟨j, hj, e⟩ := List.getElem_of_mem hm
    have h5 := h4 j (by omega)
    unfold Lib.occAt at h5
    have : l.drop j = 32 :: (a.drop (j + 1) ++ 32 :: b) := by
      rw [hl, List.drop_append_of_le_length (by omega), List.drop_eq_getElem_cons hj, e]
      rfl
    rw [this] at h5
    cases h5

theorem words_no {l a b : List UInt8} (h : Lib.cut l [32] = (a, b, false)) : words l = [l] := by
  have hi := index_cut_no (l := l) (by rw [h])
  unfold words
  rw [Lib.count_miss hi]
  rfl

theorem words_yes {l a b : List UInt8} (h : Lib.cut l [32] = (a, b, true)) : words l = a :: words b := by
  obtain ⟨_, hi⟩ := cut_first h
  have hl := cut_back l a b h
  have hd : l.drop (a.length + 1) = b := by rw [hl, List.drop_append]; simp
  have ht : l.take a.length = a := by rw [hl, List.take_left]
  have hc : Lib.count l [32] = Lib.count b [32] + 1 := by
    rw [Lib.count_hit (by simp) hi]
    show 1 + Lib.count (l.drop (a.length + 1)) [32] = _
    rw [hd]; omega
  unfold words
  rw [hc, Lib.splitK, hi]
  have hm : ¬ ((a.length : Int) == -1) = true := by rw [beq_iff_eq]; omega
  rw [if_neg hm]
  simp only [Int.toNat_natCast, Nat.add_zero, List.length_cons, List.length_nil]
  rw [ht]
  show a :: Lib.splitK [32] 0 (Lib.count b [32]) (l.drop (a.length + 1)) = _
  rw [hd]

theorem words_props : ∀ (n : Nat) (l : List UInt8), l.length ≤ n → words l ≠ [] ∧ (∀ x, x ∈ words l → (32 : UInt8) ∉ x ∧ x.length ≤ l.length) ∧ Lib.join (words l) [32] = l
  | n, l, hn => by
    rcases hc : Lib.cut l [32] with ⟨a, b, f⟩
    cases f with
    | false =>
      rw [words_no hc]
      refine ⟨by simp, fun x hx => ?_, Lib.join_one _ _⟩
      rw [List.mem_singleton] at hx
      subst hx
      refine ⟨fun hm => ?_, Nat.le_refl _⟩
      have hi := index_cut_no (l := x) (by rw [hc])
      obtain ⟨s, t, rfl⟩ := List.append_of_mem hm
      rcases Lib.index_spec (s ++ 32 :: t) [32] with ⟨_, h2⟩ | ⟨i, h1, _⟩
      · have := h2 s.length (by simp)
        rw [occAt_sp] at this; cases this
      · rw [hi] at h1; omega
    | true =>
      have hl := cut_back l a b hc
      rw [words_yes hc]
      match n, hn with
      | 0, hn => rw [hl] at hn; simp at hn
      | n + 1, hn =>
        have hb : b.length ≤ n := by rw [hl] at hn; simp at hn; omega
        obtain ⟨h1, h2, h3⟩ := words_props n b hb
        refine ⟨by simp, fun x hx => ?_, ?_⟩
        · rcases List.mem_cons.1 hx with rfl | hx
          · exact ⟨(cut_first hc).1, by rw [hl]; simp⟩
          · exact ⟨(h2 x hx).1, by rw [hl]; have := (h2 x hx).2; simp; omega⟩
        · cases hw : words b with
          | nil => exact absurd hw h1
          | cons y r =>
            rw [hw] at h3
            have hj : Lib.join (a :: y :: r) [32] = a ++ 32 :: Lib.join (y :: r) [32] := by
              rw [Lib.join_cons, Lib.join_cons]
              simp [Lib.joinTail]
            rw [hj, h3, hl]

theorem spl_long : ∀ (f : Nat) (ws : List (List UInt8)), f < ws.length → (∀ x, x ∈ ws → (32 : UInt8) ∉ x) → spl f (Lib.join ws [32]) = none
  | 0, _, _, _ => rfl
  | f + 1, [], h, _ => by simp at h
  | f + 1, [x], h, _ => by simp at h
  | f + 1, x :: y :: r, hl, hn => by
    have hj : Lib.join (x :: y :: r) [32] = x ++ 32 :: Lib.join (y :: r) [32] := by
      rw [Lib.join_cons, Lib.join_cons]
      simp [Lib.joinTail]
    rw [hj, spl_yes f (cut_sp x _ (hn x (by simp))), spl_long f (y :: r) (by simp at hl ⊢; omega) (fun z hz => hn z (List.mem_cons_of_mem _ hz))]
    rfl

/-- What is read of a text is what is read of all its words. -/
theorem rd_words (l : List UInt8) : rd l = rdW (words l) := by
  obtain ⟨h1, h2, h3⟩ := words_props l.length l (Nat.le_refl _)
  by_cases h4 : (words l).length ≤ 4
  · have := spl_join 4 (words l) h1 h4 (fun x hx => (h2 x hx).1)
    rw [h3] at this
    rw [rd, this]; rfl
  · have := spl_long 4 (words l) (by omega) (fun x hx => (h2 x hx).1)
    rw [h3] at this
    rw [rd, this]
    have hc := cnt_le (kindOf ((words l).getD 0 []))
    rw [rdW, if_pos (by omega)]
    rfl

theorem rdW_bad {ws : List (List UInt8)} {i : Nat} (h0 : 1 ≤ i) (hi : i < ws.length) (hn : numOf (ws.getD i []) = none) : rdW ws = none := by
  by_cases hb : kindOf (ws.getD 0 []) < 0 ∨ ws.length ≠ 1 + cntOf (kindOf (ws.getD 0 []))
  · rw [rdW, if_pos hb]
  · have hc := cnt_le (kindOf (ws.getD 0 []))
    have hx : nAt ws i = none := by rw [nAt, if_pos hi]; exact hn
    have : i = 1 ∨ i = 2 ∨ i = 3 := by omega
    rcases this with rfl | rfl | rfl
    · exact rdW_none (Or.inl hx)
    · exact rdW_none (Or.inr (Or.inl hx))
    · exact rdW_none (Or.inr (Or.inr hx))

theorem prs_none {l : List UInt8} (hl : l.length ≤ 30000) (h : rdW (words l) = none) : prs l = (En.zero, 1) := by
  rw [prs, if_neg (by omega), rd_words, h]

theorem prs_some {l : List UInt8} {r : Int × Int × Int × Int} (hl : l.length ≤ 30000) (h : rdW (words l) = some r) : prs l = if (rdEn r).chk = 0 then (rdEn r, 0) else (En.zero, (rdEn r).chk) := by
  rw [prs, if_neg (by omega), rd_words, h]

end Go.Proofs.YtnmapehbcccbhadDoor
