/- Plain facts: lines of two texts one behind the other; what is recovered is what is read of both. -/
import Derived.Test.YtnmapehbcccbhadDoorDiskG
namespace Go.Proofs.YtnmapehbcccbhadDoor
open Go.RowKit

/-- What is read whole is passed over. -/
theorem dl_whole (most : Nat) : ∀ (f f' f2 : Nat) (l t : List UInt8) (acc : List Rc) (n : Nat), l.length < f → (l ++ t).length < f' → t.length < f2 → (dl most f l acc n).2.2 = 0 →
    dl most f' (l ++ t) acc n = dl most f2 t (dl most f l acc n).1 (dl most f l acc n).2.1 ∧ (dl most f l acc n).2.1 = n + l.length
  | 0, _, _, _, _, _, _, h, _, _, _ => by omega
  | _, 0, _, _, _, _, _, _, h, _, _ => by omega
  | f + 1, f' + 1, f2, l, t, acc, n, h, h', h2, hz => by
    by_cases hl : l = []
    · subst hl
      rw [dl_nil, List.nil_append]
      exact ⟨dl_fuel most (f' + 1) f2 t acc n (by simpa using h') h2, rfl⟩
    · rcases hc : Lib.cut l [10] with ⟨a, b, g⟩
      cases g with
      | false => rw [dl_torn _ _ _ _ hl hc] at hz; cases hz
      | true =>
        have hb := nl_back l a b hc
        have hbl : l.length = a.length + 1 + b.length := by rw [hb]; simp; omega
        have hna : (10 : UInt8) ∉ a := (nl_first hc).1
        have hc' : Lib.cut (l ++ t) [10] = (a, b ++ t, true) := by
          rw [hb, List.append_assoc, List.cons_append]
          exact cut_nl a (b ++ t) hna
        have hlt : l ++ t ≠ [] := by rw [hb]; simp
        rw [List.length_append] at h'
        by_cases hp : (rcRead a).2 = 0
        · by_cases hm : most ≤ acc.length
          · rw [dl_many _ _ _ _ hl hc hp hm] at hz; cases hz
          · rw [dl_more _ _ _ _ hl hc hp hm] at hz ⊢
            rw [dl_more _ _ _ _ hlt hc' hp hm]
            obtain ⟨h3, h4⟩ := dl_whole most f f' f2 b t _ _ (by omega) (by rw [List.length_append]; omega) h2 hz
            exact ⟨h3, by rw [h4]; omega⟩
        · rw [dl_bad _ _ _ _ hl hc hp] at hz
          exact absurd hz hp

/-- What was read ahead only counts. -/
theorem dl_ahead (most : Nat) (pre : List Rc) (k : Nat) (hpre : pre.length ≤ most) : ∀ (f : Nat) (t : List UInt8) (acc : List Rc) (n : Nat),
    dl most f t (pre ++ acc) (k + n) = (pre ++ (dl (most - pre.length) f t acc n).1, k + (dl (most - pre.length) f t acc n).2.1, (dl (most - pre.length) f t acc n).2.2)
  | 0, _, _, _ => rfl
  | f + 1, t, acc, n => by
    by_cases hl : t = []
    · subst hl; rw [dl_nil, dl_nil]
    · rcases hc : Lib.cut t [10] with ⟨a, b, g⟩
      cases g with
      | false => rw [dl_torn _ _ _ _ hl hc, dl_torn _ _ _ _ hl hc]
      | true =>
        by_cases hp : (rcRead a).2 = 0
        · by_cases hm : most - pre.length ≤ acc.length
          · rw [dl_many _ _ _ _ hl hc hp hm, dl_many _ _ _ _ hl hc hp (by rw [List.length_append]; omega)]
          · rw [dl_more _ _ _ _ hl hc hp hm, dl_more _ _ _ _ hl hc hp (by rw [List.length_append]; omega)]
            have := dl_ahead most pre k hpre f b (acc ++ [(rcRead a).1]) (n + a.length + 1)
            rw [← this, List.append_assoc]
            congr 1
            omega
        · rw [dl_bad _ _ _ _ hl hc hp, dl_bad _ _ _ _ hl hc hp]

theorem lines_zero {s : List UInt8} (h : (linesOf s 160).2.2 = 0) : (linesOf s 160).2.1 = s.length := by
  have := (dl_whole 160 (s.length + 1) (s.length + 1) 1 s [] [] 0 (by omega) (by simp) (by simp) h).2
  unfold linesOf
  omega

/-- All that is read of both. -/
theorem lines_both {s t : List UInt8} (h : (linesOf s 160).2.2 = 0) : (linesOf (s ++ t) 160).1 = (recovered s t).2 ∧ (s ++ t).take (linesOf (s ++ t) 160).2.1 = (recovered s t).1.1 ∧ (linesOf (s ++ t) 160).2.1 ≤ (s ++ t).length := by
  have h1 := (dl_whole 160 (s.length + 1) ((s ++ t).length + 1) (t.length + 1) s t [] 0 (by omega) (by omega) (by omega) h).1
  have hz := lines_zero h
  have hlen := (lines_len s 160).1
  have h2 := dl_ahead 160 (linesOf s 160).1 s.length hlen (t.length + 1) t [] 0
  have e : linesOf (s ++ t) 160 = ((linesOf s 160).1 ++ (linesOf t (160 - (linesOf s 160).1.length)).1, s.length + (linesOf t (160 - (linesOf s 160).1.length)).2.1, (linesOf t (160 - (linesOf s 160).1.length)).2.2) := by
    have hz' : (dl 160 (s.length + 1) s [] 0).2.1 = s.length := hz
    rw [hz'] at h1
    rw [List.append_nil, Nat.add_zero] at h2
    exact h1.trans h2
  refine ⟨by rw [e]; rfl, ?_, (lines_len (s ++ t) 160).2⟩
  rw [e]
  show (s ++ t).take (s.length + _) = s ++ t.take _
  rw [List.take_append]
  congr 1
  · rw [List.take_of_length_le (by omega)]
  · congr 1
    omega

end Go.Proofs.YtnmapehbcccbhadDoor
