/- Plain facts on texts: words, numerals. -/
import Derived.Test.YtijcohldgjcjgacDoorEntryJ
import Derived.Lib.AtoiAllCases
import Derived.Lib.IndexMore
import Derived.Lib.ItoaNum
namespace Go.Proofs.YtijcohldgjcjgacDoor
open Go.RowKit

/-! ### words -/

theorem occAt_sp (a b : List UInt8) : Lib.occAt (a ++ 32 :: b) [32] a.length = true := by
  unfold Lib.occAt
  rw [List.drop_left]
  simp

theorem occAt_no (l : List UInt8) (i : Nat) (h : ∀ x, l[i]? = some x → x ≠ 32) : Lib.occAt l [32] i = false := by
  unfold Lib.occAt
  rcases hd : l.drop i with _ | ⟨x, r⟩
  · rfl
  · have hx : l[i]? = some x := by
      have := List.getElem?_drop (xs := l) (i := i) (j := 0)
      rw [hd] at this
      simpa using this.symm
    have hne : ((32 : UInt8) == x) = false := by
      rw [beq_eq_false_iff_ne]; exact fun e => h x hx e.symm
    show (((32 : UInt8) == x) && ([] : List UInt8).isPrefixOf r) = false
    rw [hne]; rfl

theorem cut_sp (a b : List UInt8) (h : (32 : UInt8) ∉ a) : Lib.cut (a ++ 32 :: b) [32] = (a, b, true) := by
  have hi : Lib.index (a ++ 32 :: b) [32] = a.length := Lib.index_first (by simp) (occAt_sp a b) (fun j hj => occAt_no _ _ (fun x hx => by
    rw [List.getElem?_append_left hj] at hx
    exact fun e => h (e ▸ List.mem_of_getElem? hx)))
  unfold Lib.cut
  rw [hi, if_pos (by omega)]
  simp

theorem cut_none (a : List UInt8) (h : (32 : UInt8) ∉ a) : Lib.cut a [32] = (a, [], false) := by
  have hi : Lib.index a [32] = -1 := Lib.index_none (fun j _ => occAt_no _ _ (fun x hx e => h (e ▸ List.mem_of_getElem? hx)))
  unfold Lib.cut
  rw [hi, if_neg (by omega)]

theorem cut_back (l a b : List UInt8) (h : Lib.cut l [32] = (a, b, true)) : l = a ++ 32 :: b := by
  unfold Lib.cut at h
  rcases Lib.index_spec l [32] with ⟨h1, _⟩ | ⟨i, h1, h2, h3, _⟩
  · rw [h1, if_neg (by omega)] at h; cases h
  · rw [h1, if_pos (by omega)] at h
    simp only [Int.toNat_natCast, List.length_cons, List.length_nil, Prod.mk.injEq] at h
    obtain ⟨rfl, rfl, _⟩ := h
    unfold Lib.occAt at h3
    rcases hd : l.drop i with _ | ⟨x, r⟩
    · rw [hd] at h3; cases h3
    · rw [hd] at h3
      simp at h3
      subst h3
      have : l.drop (i + 1) = r := by rw [← List.drop_drop, hd]; rfl
      rw [show i + (0 + 1) = i + 1 from rfl, this, ← hd, List.take_append_drop]

theorem cut_whole (l a b : List UInt8) (h : Lib.cut l [32] = (a, b, false)) : a = l := by
  unfold Lib.cut at h
  split at h
  · cases h
  · injection h with h _; exact h.symm

theorem spl_join : ∀ (f : Nat) (ws : List (List UInt8)), ws ≠ [] → ws.length ≤ f → (∀ x, x ∈ ws → (32 : UInt8) ∉ x) → spl f (Lib.join ws [32]) = some ws
  | 0, ws, h, hl, _ => by cases ws with
    | nil => exact absurd rfl h
    | cons _ _ => simp at hl
  | f + 1, [], h, _, _ => absurd rfl h
  | f + 1, [x], _, _, hn => by
    rw [Lib.join_one]
    rw [spl_no f (cut_none x (hn x (by simp)))]
  | f + 1, x :: y :: r, _, hl, hn => by
    have hj : Lib.join (x :: y :: r) [32] = x ++ 32 :: Lib.join (y :: r) [32] := by
      rw [Lib.join_cons, Lib.join_cons]
      simp [Lib.joinTail]
    rw [hj, spl_yes f (cut_sp x _ (hn x (by simp))), spl_join f (y :: r) (by simp) (by simp at hl ⊢; omega) (fun z hz => hn z (List.mem_cons_of_mem _ hz))]
    rfl

theorem join_spl : ∀ (f : Nat) (l : List UInt8) (ws : List (List UInt8)), spl f l = some ws → Lib.join ws [32] = l
  | 0, _, _, h => by cases h
  | f + 1, l, ws, h => by
    rcases hc : Lib.cut l [32] with ⟨a, b, g⟩
    cases g with
    | true =>
      rw [spl_yes f hc] at h
      obtain ⟨ws', h', rfl⟩ := Option.map_eq_some_iff.1 h
      have ih := join_spl f b ws' h'
      have hne := (spl_count f b ws' h').1
      cases ws' with
      | nil => simp at hne
      | cons y r =>
        have hj : Lib.join (a :: y :: r) [32] = a ++ 32 :: Lib.join (y :: r) [32] := by
          rw [Lib.join_cons, Lib.join_cons]
          simp [Lib.joinTail]
        rw [hj, ih, cut_back l a b hc]
    | false =>
      rw [spl_no f hc] at h
      cases h
      rw [Lib.join_one]
      exact cut_whole l a b hc

/-! ### numerals -/

theorem dec_mem (u : Nat) : ∀ x, x ∈ Lib.decDigits u → 48 ≤ x.toNat ∧ x.toNat ≤ 57 := by
  induction u using Nat.strongRecOn with
  | _ u ih =>
    intro x hx
    rw [Lib.decDigits] at hx
    split at hx
    · rename_i h
      rw [List.mem_singleton] at hx
      subst hx
      simp only [UInt8.toNat_ofNat']
      omega
    · rename_i h
      rcases List.mem_append.1 hx with hx | hx
      · exact ih (u / 10) (by omega) x hx
      · rw [List.mem_singleton] at hx
        subst hx
        simp only [UInt8.toNat_ofNat']
        omega

theorem dec_ne (u : Nat) : Lib.decDigits u ≠ [] := by
  rw [Lib.decDigits]
  split <;> simp

theorem parse_snoc (c : UInt8) : ∀ (l : List UInt8) (acc a : Nat), Lib.parseUint10 acc l = .ok a → Lib.parseUint10 acc (l ++ [c]) = Lib.parseUint10 a [c]
  | [], acc, a, h => by
    simp only [Lib.parseUint10] at h
    injection h with h
    subst h; rfl
  | x :: r, acc, a, h => by
    rw [List.cons_append]
    rw [Lib.parseUint10] at h ⊢
    split at h
    · rename_i hx
      rw [if_pos hx]
      split at h
      · cases h
      · rename_i h1
        rw [if_neg h1]
        split at h
        · cases h
        · rename_i h2
          rw [if_neg h2]
          exact parse_snoc c r _ a h
    · cases h

theorem parse_dec (u : Nat) : u < 1000000000000000000 → Lib.parseUint10 0 (Lib.decDigits u) = .ok u := by
  induction u using Nat.strongRecOn with
  | _ u ih =>
    intro hu
    rw [Lib.decDigits]
    split
    · rename_i h
      have e : (UInt8.ofNat (48 + u)).toNat = 48 + u := by simp only [UInt8.toNat_ofNat']; omega
      simp only [Lib.parseUint10, e]
      rw [if_pos (by omega), if_neg (by omega), if_neg (by omega)]
      congr 1; omega
    · rename_i h
      have e : (UInt8.ofNat (48 + u % 10)).toNat = 48 + u % 10 := by simp only [UInt8.toNat_ofNat']; omega
      rw [parse_snoc _ _ _ _ (ih (u / 10) (by omega) (by omega))]
      simp only [Lib.parseUint10, e]
      rw [if_pos (by omega), if_neg (by omega), if_neg (by omega)]
      congr 1; omega

theorem atoi_dec (u : Nat) (hu : u < 1000000000000000000) : Lib.atoiAll (Lib.decDigits u) = .ok (u : Int) := by
  have hp := parse_dec u hu
  rcases hd : Lib.decDigits u with _ | ⟨c, r⟩
  · exact absurd hd (dec_ne u)
  · have hc := dec_mem u c (by rw [hd]; simp)
    rw [Lib.atoiAll_plain c r (by omega) (by omega)]
    rw [← hd]
    unfold Lib.parseMag
    rw [if_neg (dec_ne u), hp]
    show Lib.signless (.ok u) = _
    simp only [Lib.signless]
    rw [if_neg (by omega)]

theorem numOf_itoa (x : Int) (h0 : 0 ≤ x) (h1 : x < 1000000000000000000) : numOf (Lib.itoa x) = some x := by
  obtain ⟨u, rfl⟩ := Int.eq_ofNat_of_zero_le h0
  have hi : Lib.itoa (u : Int) = Lib.decDigits u := by unfold Lib.itoa; rw [if_neg (by omega)]; simp
  have ha := atoi_dec u (by omega)
  unfold numOf
  rw [hi, ha]
  simp only [hi, if_true]

theorem itoa_no_sp (x : Int) (h0 : 0 ≤ x) : (32 : UInt8) ∉ Lib.itoa x := by
  unfold Lib.itoa
  rw [if_neg (by omega)]
  intro h
  have := dec_mem _ _ h
  have e : (32 : UInt8).toNat = 32 := rfl
  omega

theorem itoa_numOf (l : List UInt8) (x : Int) (h : numOf l = some x) : Lib.itoa x = l := by
  unfold numOf at h
  split at h
  · split at h
    · rename_i hi; injection h with h; subst h; exact hi
    · cases h
  · cases h

end Go.Proofs.YtijcohldgjcjgacDoor
