/- Lives: what an entry makes of them; how they hang together with a book. -/
import Derived.Test.YtjbcfflbfnddeacBookK
namespace Go.Proofs.Ytjbcfflbfnddeac
open Go.RowKit

/-- A life: the job, Every, From, how often it was rung, whether it is over. -/
structure Lf where (j : Int) (e : Int) (f : Int) (r : Int) (o : Bool)

/-- A life of this job that isn't over. -/
def Lf.of (i : Int) (x : Lf) : Bool := x.j == i && !x.o

/-- Where the life of a job stands. -/
def lifeAt (ls : List Lf) (i : Int) : Option Nat := ls.findIdx? (Lf.of i)

/-- How often all lives were rung. -/
def allR : List Lf → Int
  | [] => 0
  | x :: r => x.r + allR r

/-- How many aren't over. -/
def liveN : List Lf → Nat
  | [] => 0
  | x :: r => (if x.o = true then 0 else 1) + liveN r

/-- What an entry makes of lives. -/
def lstep (ls : List Lf) (x : En) : List Lf :=
  if x.k = 1 then (match lifeAt ls x.j with | none => ls ++ [⟨x.j, x.v, x.t, 0, false⟩] | some _ => ls)
  else if x.k = 2 then (match lifeAt ls x.j with | none => ls | some k => (match ls[k]? with | none => ls | some y => ls.set k ⟨y.j, y.e, y.f, y.r, true⟩))
  else if x.k = 3 then (match lifeAt ls x.j with | none => ls | some k => (match ls[k]? with | none => ls | some y => if x.t - y.f = y.e * y.r ∧ allR ls < 60 then ls.set k ⟨y.j, y.e, y.f, y.r + 1, y.o⟩ else ls))
  else ls

def lfold : List Lf → List En → List Lf × Int
  | ls, [] => (ls, 0)
  | ls, x :: r => if x.chk ≠ 0 then ([], x.chk) else lfold (lstep ls x) r

def livesOf (l : List En) : List Lf × Int := if 60 < l.length then ([], 2) else lfold [] l

theorem lifeAt_some {ls : List Lf} {i : Int} {k : Nat} (h : lifeAt ls i = some k) : ∃ y, ls[k]? = some y ∧ y.j = i ∧ y.o = false := by
  unfold lifeAt at h
  rw [List.findIdx?_eq_some_iff_getElem] at h
  obtain ⟨hk, hp, _⟩ := h
  refine ⟨ls[k], List.getElem?_eq_getElem hk, ?_⟩
  unfold Lf.of at hp
  simpa using hp

theorem lifeAt_none {ls : List Lf} {i : Int} (h : lifeAt ls i = none) (y : Lf) (hy : y ∈ ls) (ho : y.o = false) : y.j ≠ i := by
  unfold lifeAt at h
  rw [List.findIdx?_eq_none_iff] at h
  have := h y hy
  unfold Lf.of at this
  rw [ho] at this
  simpa using this

/-- Right lives: numbers in their bounds, of each job one at most that isn't over. -/
structure Lok (ls : List Lf) : Prop where
  nums : ∀ y, y ∈ ls → (0 ≤ y.j ∧ y.j ≤ 5) ∧ (1 ≤ y.e ∧ y.e ≤ 100) ∧ (0 ≤ y.f ∧ y.f ≤ 100000) ∧ 0 ≤ y.r
  one : ∀ (k k' : Nat) (y y' : Lf), ls[k]? = some y → ls[k']? = some y' → y.o = false → y'.o = false → y.j = y'.j → k = k'

theorem Lok.at {ls : List Lf} (h : Lok ls) {k : Nat} {y : Lf} (hy : ls[k]? = some y) (ho : y.o = false) : lifeAt ls y.j = some k := by
  cases hl : lifeAt ls y.j with
  | none => exact absurd rfl (lifeAt_none hl y (List.mem_of_getElem? hy) ho)
  | some k' =>
    obtain ⟨y', hy', hj, ho'⟩ := lifeAt_some hl
    rw [h.one k' k y' y hy' hy ho' ho hj]

theorem allR_append (a b : List Lf) : allR (a ++ b) = allR a + allR b := by
  induction a with
  | nil => simp [allR]
  | cons x r ih => rw [List.cons_append, allR, allR, ih]; omega

theorem liveN_append (a b : List Lf) : liveN (a ++ b) = liveN a + liveN b := by
  induction a with
  | nil => simp [liveN]
  | cons x r ih => rw [List.cons_append, liveN, liveN, ih]; omega

theorem set_split {ls : List Lf} {k : Nat} {y : Lf} (hy : ls[k]? = some y) : ls = ls.take k ++ y :: ls.drop (k + 1) ∧ ∀ z, ls.set k z = ls.take k ++ z :: ls.drop (k + 1) := by
  have hlt := (List.getElem?_eq_some_iff.1 hy).1
  have hd : ls.drop k = y :: ls.drop (k + 1) := by
    rw [List.drop_eq_getElem_cons hlt, (List.getElem?_eq_some_iff.1 hy).2]
  refine ⟨by rw [← hd, List.take_append_drop], fun z => ?_⟩
  rw [List.set_eq_take_append_cons_drop, if_pos hlt]

theorem allR_set {ls : List Lf} {k : Nat} {y : Lf} (hy : ls[k]? = some y) (z : Lf) : allR (ls.set k z) = allR ls - y.r + z.r := by
  obtain ⟨e, h⟩ := set_split hy
  have e' : allR ls = allR (ls.take k ++ y :: ls.drop (k + 1)) := by rw [← e]
  rw [h z, e', allR_append, allR_append, allR, allR]
  omega

theorem liveN_set {ls : List Lf} {k : Nat} {y : Lf} (hy : ls[k]? = some y) (z : Lf) : liveN (ls.set k z) + (if y.o = true then 0 else 1) = liveN ls + (if z.o = true then 0 else 1) := by
  obtain ⟨e, h⟩ := set_split hy
  have e' : liveN ls = liveN (ls.take k ++ y :: ls.drop (k + 1)) := by rw [← e]
  rw [h z, e', liveN_append, liveN_append, liveN, liveN]
  omega

/-- The ways of a step. -/
theorem lstep_ways {ls : List Lf} {x : En} (hx : x.chk = 0) :
    (x.k = 1 ∧ lifeAt ls x.j = none ∧ lstep ls x = ls ++ [⟨x.j, x.v, x.t, 0, false⟩]) ∨
    (∃ k y, x.k = 2 ∧ lifeAt ls x.j = some k ∧ ls[k]? = some y ∧ y.j = x.j ∧ y.o = false ∧ lstep ls x = ls.set k ⟨y.j, y.e, y.f, y.r, true⟩) ∨
    (∃ k y, x.k = 3 ∧ lifeAt ls x.j = some k ∧ ls[k]? = some y ∧ y.j = x.j ∧ y.o = false ∧ x.t - y.f = y.e * y.r ∧ allR ls < 60 ∧ lstep ls x = ls.set k ⟨y.j, y.e, y.f, y.r + 1, y.o⟩) ∨
    (lstep ls x = ls ∧ (x.k = 1 → ∃ k, lifeAt ls x.j = some k) ∧ (x.k = 2 → lifeAt ls x.j = none) ∧ (x.k = 3 → ∀ k y, lifeAt ls x.j = some k → ls[k]? = some y → ¬(x.t - y.f = y.e * y.r ∧ allR ls < 60))) := by
  obtain ⟨⟨hk0, hk3⟩, _⟩ := En.right hx
  by_cases h1 : x.k = 1
  · cases hl : lifeAt ls x.j with
    | none => exact Or.inl ⟨h1, rfl, by rw [lstep, if_pos h1, hl]⟩
    | some k => exact Or.inr (Or.inr (Or.inr ⟨by rw [lstep, if_pos h1, hl], fun _ => ⟨k, rfl⟩, fun h => by omega, fun h => by omega⟩))
  · by_cases h2 : x.k = 2
    · cases hl : lifeAt ls x.j with
      | none => exact Or.inr (Or.inr (Or.inr ⟨by rw [lstep, if_neg h1, if_pos h2, hl], fun h => by omega, fun _ => rfl, fun h => by omega⟩))
      | some k =>
        obtain ⟨y, hy, hj, ho⟩ := lifeAt_some hl
        exact Or.inr (Or.inl ⟨k, y, h2, rfl, hy, hj, ho, by rw [lstep, if_neg h1, if_pos h2, hl]; simp only [hy]⟩)
    · by_cases h3 : x.k = 3
      · cases hl : lifeAt ls x.j with
        | none => exact Or.inr (Or.inr (Or.inr ⟨by rw [lstep, if_neg h1, if_neg h2, if_pos h3, hl], fun h => by omega, fun _ => rfl, fun _ k y h => by cases h⟩))
        | some k =>
          obtain ⟨y, hy, hj, ho⟩ := lifeAt_some hl
          by_cases hc : x.t - y.f = y.e * y.r ∧ allR ls < 60
          · exact Or.inr (Or.inr (Or.inl ⟨k, y, h3, rfl, hy, hj, ho, hc.1, hc.2, by rw [lstep, if_neg h1, if_neg h2, if_pos h3, hl]; simp only [hy]; rw [if_pos hc]⟩))
          · refine Or.inr (Or.inr (Or.inr ⟨by rw [lstep, if_neg h1, if_neg h2, if_pos h3, hl]; simp only [hy]; rw [if_neg hc], fun h => by omega, fun h => by omega, fun _ k' y' hk' hy' => ?_⟩))
            obtain rfl : k = k' := by simpa using hk'
            rw [hy] at hy'
            obtain rfl : y = y' := by simpa using hy'
            exact hc
      · exact Or.inr (Or.inr (Or.inr ⟨by rw [lstep, if_neg h1, if_neg h2, if_neg h3], fun h => absurd h h1, fun h => absurd h h2, fun h => absurd h h3⟩))

theorem lstep_len {ls : List Lf} {x : En} (hx : x.chk = 0) : (lstep ls x).length ≤ ls.length + 1 := by
  rcases lstep_ways (ls := ls) hx with ⟨_, _, h⟩ | ⟨k, y, _, _, _, _, _, h⟩ | ⟨k, y, _, _, _, _, _, _, _, h⟩ | ⟨h, _⟩ <;> rw [h] <;> simp

/-- Lives stay right. -/
theorem lstep_ok {ls : List Lf} {x : En} (h : Lok ls) (hx : x.chk = 0) : Lok (lstep ls x) := by
  obtain ⟨⟨hk0, hk3⟩, hj, hv, ht, hc, hp⟩ := En.right hx
  rcases lstep_ways (ls := ls) hx with ⟨h1, hn, e⟩ | ⟨k, y, _, _, hy, hj', ho, e⟩ | ⟨k, y, _, _, hy, hj', ho, _, _, e⟩ | ⟨e, _⟩ <;> rw [e]
  · refine ⟨fun y hy => ?_, fun k k' y y' hk hk' o o' hjj => ?_⟩
    · rcases List.mem_append.1 hy with hy | hy
      · exact h.nums y hy
      · obtain rfl : y = _ := by simpa using hy
        exact ⟨hj, ⟨hp h1, hv.2⟩, ht, Int.le_refl _⟩
    · have key : ∀ (k k' : Nat) (y y' : Lf), (ls ++ [⟨x.j, x.v, x.t, 0, false⟩])[k]? = some y → (ls ++ [⟨x.j, x.v, x.t, 0, false⟩])[k']? = some y' → y.o = false → y'.o = false → y.j = y'.j → k < ls.length → k' < ls.length → k = k' := fun k k' y y' hk hk' o o' hjj l l' => by
        rw [List.getElem?_append_left l] at hk
        rw [List.getElem?_append_left l'] at hk'
        exact h.one k k' y y' hk hk' o o' hjj
      have bound : ∀ (k : Nat) (y : Lf), (ls ++ [⟨x.j, x.v, x.t, 0, false⟩])[k]? = some y → k < ls.length ∨ (k = ls.length ∧ y.j = x.j) := fun k y hk => by
        have hlt := (List.getElem?_eq_some_iff.1 hk).1
        rw [List.length_append] at hlt
        rcases Nat.lt_or_ge k ls.length with l | l
        · exact Or.inl l
        · have : k = ls.length := by simp at hlt; omega
          subst this
          rw [List.getElem?_append_right (Nat.le_refl _)] at hk
          simp at hk
          exact Or.inr ⟨rfl, by rw [← hk]⟩
      have old : ∀ (k : Nat) (y : Lf), (ls ++ [⟨x.j, x.v, x.t, 0, false⟩])[k]? = some y → k < ls.length → y.o = false → y.j ≠ x.j := fun k y hk l o => by
        rw [List.getElem?_append_left l] at hk
        exact lifeAt_none hn y (List.mem_of_getElem? hk) o
      rcases bound k y hk with l | ⟨l, j⟩ <;> rcases bound k' y' hk' with l' | ⟨l', j'⟩
      · exact key k k' y y' hk hk' o o' hjj l l'
      · exact absurd (hjj.trans j') (old k y hk l o)
      · exact absurd (hjj.symm.trans j) (old k' y' hk' l' o')
      · omega
  · refine ⟨fun z hz => ?_, fun m m' z z' hm hm' o o' hjj => ?_⟩
    · rcases List.mem_or_eq_of_mem_set hz with hz | rfl
      · exact h.nums z hz
      · exact h.nums y (List.mem_of_getElem? hy)
    · rw [List.getElem?_set] at hm hm'
      split at hm
      · split at hm
        · cases hm; cases o
        · cases hm
      · split at hm'
        · split at hm'
          · cases hm'; cases o'
          · cases hm'
        · exact h.one m m' z z' hm hm' o o' hjj
  · have hy0 := h.nums y (List.mem_of_getElem? hy)
    refine ⟨fun z hz => ?_, fun m m' z z' hm hm' o o' hjj => ?_⟩
    · rcases List.mem_or_eq_of_mem_set hz with hz | rfl
      · exact h.nums z hz
      · exact ⟨hy0.1, hy0.2.1, hy0.2.2.1, by have := hy0.2.2.2; show 0 ≤ y.r + 1; omega⟩
    · have back : ∀ (m : Nat) (z : Lf), (ls.set k ⟨y.j, y.e, y.f, y.r + 1, y.o⟩)[m]? = some z → ∃ z0, ls[m]? = some z0 ∧ z0.j = z.j ∧ z0.o = z.o := fun m z hm => by
        rw [List.getElem?_set] at hm
        split at hm
        · rename_i hkm
          subst hkm
          split at hm
          · obtain rfl : _ = z := by simpa using hm
            exact ⟨y, hy, rfl, rfl⟩
          · cases hm
        · exact ⟨z, hm, rfl, rfl⟩
      obtain ⟨z0, a1, a2, a3⟩ := back m z hm
      obtain ⟨z1, b1, b2, b3⟩ := back m' z' hm'
      exact h.one m m' z0 z1 a1 b1 (a3.trans o) (b3.trans o') (a2.trans (hjj.trans b2.symm))
  · exact h

theorem lok_nil : Lok [] := ⟨fun y hy => (by cases hy), fun k k' y y' hk => (by simp at hk)⟩

end Go.Proofs.Ytjbcfflbfnddeac
