/- Clients: what is wrong with one, what comes of what it wants, gets, hears, plays, learns; plain facts. -/
import Derived.Test.YtbokdcdnandgbaeDueB
namespace Go.Proofs.Ytbokdcdnandgbae
open Go.RowKit

/-- A client: its epoch, what it does, its entry, place, link, how much it played, its book. -/
structure Cl where (p : Int) (d : Int) (e : En) (a : Int) (l : Int) (n : Int) (js : List Jb) (rs : List Rg)

def Cl.zero : Cl := ⟨0, 0, En.zero, 0, 0, 0, [], []⟩

/-- Are two entries unlike? -/
def En.ne (x y : En) : Bool := unlike x.k x.j x.v x.t x.c y.k y.j y.v y.t y.c
theorem ne_self (x : En) : x.ne x = false := by simp [En.ne, unlike]
theorem ne_false {x y : En} : x.ne y = false ↔ x = y := ⟨en_eq, fun h => by rw [h]; exact ne_self y⟩

/-- Is a field out of its range? -/
def Cl.out (c : Cl) : Bool := !(decide (1 ≤ c.p ∧ c.p ≤ 20) && (decide (0 ≤ c.d ∧ c.d ≤ 2) && (decide (0 ≤ c.a ∧ c.a ≤ 59) && (decide (0 ≤ c.l ∧ c.l ≤ 2) && decide (0 ≤ c.n ∧ c.n ≤ 60)))))
/-- Has it what it may not have where it does this? -/
def Cl.odd (c : Cl) : Bool := if c.d = 0 then decide (0 < c.a) || (decide (0 < c.l) || c.e.ne En.zero) else if c.d = 1 then decide (0 < c.a) || (decide (0 < c.l) || decide (c.e.k = 0)) else false

def Cl.ck (c : Cl) : Int := if c.out = true then 3 else if c.e.chk ≠ 0 then c.e.chk else if c.odd = true then 4 else ckBook c.js c.rs

theorem Cl.good {c : Cl} (h : c.out = false) : (1 ≤ c.p ∧ c.p ≤ 20) ∧ (0 ≤ c.d ∧ c.d ≤ 2) ∧ (0 ≤ c.a ∧ c.a ≤ 59) ∧ (0 ≤ c.l ∧ c.l ≤ 2) ∧ (0 ≤ c.n ∧ c.n ≤ 60) := by
  simp only [Cl.out, Bool.not_eq_false', Bool.and_eq_true, decide_eq_true_eq] at h
  exact h
theorem Cl.good_of {c : Cl} (h : (1 ≤ c.p ∧ c.p ≤ 20) ∧ (0 ≤ c.d ∧ c.d ≤ 2) ∧ (0 ≤ c.a ∧ c.a ≤ 59) ∧ (0 ≤ c.l ∧ c.l ≤ 2) ∧ (0 ≤ c.n ∧ c.n ≤ 60)) : c.out = false := by
  simp only [Cl.out, Bool.not_eq_false', Bool.and_eq_true, decide_eq_true_eq]
  exact h

theorem Cl.ck_zero {c : Cl} : c.ck = 0 ↔ c.out = false ∧ c.e.chk = 0 ∧ c.odd = false ∧ Ok c.js c.rs := by
  rw [← ckBook_zero, Cl.ck]
  cases c.out with
  | true => simp
  | false =>
    rw [if_neg (by simp)]
    by_cases he : c.e.chk = 0
    · rw [if_neg (by simpa using he)]
      cases c.odd with
      | true => simp
      | false => simp [he]
    · rw [if_pos he]
      simp [he]

/-- It wants an entry. -/
def wantOf (c : Cl) (x : En) : Cl × Int :=
  if c.ck ≠ 0 then (Cl.zero, c.ck) else if c.d ≠ 0 then (Cl.zero, 7) else if x.chk ≠ 0 then (Cl.zero, x.chk) else if x.k = 0 then (Cl.zero, 4)
  else (⟨c.p, 1, x, c.a, c.l, c.n, c.js, c.rs⟩, 0)

/-- It wants to ring a job. -/
def ringOf (c : Cl) (me j t : Int) : Cl × Int :=
  if c.ck ≠ 0 then (Cl.zero, c.ck) else if c.d ≠ 0 then (Cl.zero, 7) else if t < 0 ∨ 100000 < t then (Cl.zero, 3)
  else match tab c.js j with
    | none => (Cl.zero, 5)
    | some z => if t < z.n then (Cl.zero, 5) else wantOf c ⟨3, j, 0, z.n, me⟩

/-- It gets a place, where it does this. -/
def placeOf (q : Int) (c : Cl) (a : Int) : Cl × Int :=
  if c.ck ≠ 0 then (Cl.zero, c.ck) else if c.d ≠ q then (Cl.zero, 7) else if ¬ (0 ≤ a ∧ a ≤ 59) then (Cl.zero, 5)
  else (⟨c.p, 2, c.e, a, c.l, c.n, c.js, c.rs⟩, 0)

/-- It hears what stands at its place. -/
def hearOf (c : Cl) (x : En) : Cl × Int :=
  if c.ck ≠ 0 then (Cl.zero, c.ck) else if x.chk ≠ 0 then (Cl.zero, x.chk) else if c.d ≠ 2 then (Cl.zero, 7)
  else if c.e.k ≠ 0 ∧ c.e.ne x = true then (⟨c.p, 1, c.e, 0, 0, c.n, c.js, c.rs⟩, 0)
  else if c.l = 2 then (⟨c.p, 0, En.zero, 0, 0, c.n, c.js, c.rs⟩, 0)
  else (⟨c.p, c.d, x, c.a, c.l + 1, c.n, c.js, c.rs⟩, 0)

/-- It plays an entry. -/
def playOf (c : Cl) (x : En) : Cl × Int :=
  if c.ck ≠ 0 then (Cl.zero, c.ck) else if c.n = 60 then (Cl.zero, 2) else if (app c.js c.rs x).2 ≠ 0 then (Cl.zero, (app c.js c.rs x).2)
  else (⟨c.p, c.d, c.e, c.a, c.l, c.n + 1, (app c.js c.rs x).1.1, (app c.js c.rs x).1.2⟩, 0)

/-- It learns an epoch. -/
def learnOf (c : Cl) (p : Int) : Cl × Int :=
  if c.ck ≠ 0 then (Cl.zero, c.ck) else if ¬ (1 ≤ p ∧ p ≤ 20) then (Cl.zero, 3) else if p ≤ c.p then (Cl.zero, 8)
  else (⟨p, c.d, c.e, c.a, c.l, c.n, c.js, c.rs⟩, 0)

/-- A client that rests has nothing beside its epoch, book, and how much it played. -/
theorem rests {c : Cl} (h : c.ck = 0) (hd : c.d = 0) : c = ⟨c.p, 0, En.zero, 0, 0, c.n, c.js, c.rs⟩ := by
  obtain ⟨ho, _, hf, _⟩ := Cl.ck_zero.1 h
  have hg := Cl.good ho
  rw [Cl.odd, if_pos hd] at hf
  simp only [Bool.or_eq_false_iff, decide_eq_false_iff_not] at hf
  have he := ne_false.1 hf.2.2
  obtain ⟨p, d, e, a, l, n, js, rs⟩ := c
  simp only at hd he hf hg
  obtain rfl : a = 0 := by omega
  obtain rfl : l = 0 := by omega
  rw [hd, he]

/-- What is played changes nothing else, and stays right. -/
theorem play_ok {c : Cl} {x : En} (h : (playOf c x).2 = 0) : c.ck = 0 ∧ c.n ≠ 60 ∧ (app c.js c.rs x).2 = 0 ∧ (playOf c x) = (⟨c.p, c.d, c.e, c.a, c.l, c.n + 1, (app c.js c.rs x).1.1, (app c.js c.rs x).1.2⟩, 0) ∧ (playOf c x).1.ck = 0 := by
  unfold playOf at h ⊢
  by_cases h1 : c.ck = 0
  · rw [if_neg (by simpa using h1)] at h ⊢
    by_cases h2 : c.n = 60
    · rw [if_pos h2] at h; cases h
    · rw [if_neg h2] at h ⊢
      by_cases h3 : (app c.js c.rs x).2 = 0
      · rw [if_neg (by simpa using h3)]
        refine ⟨h1, h2, h3, rfl, ?_⟩
        obtain ⟨ho, he, hf, hb⟩ := Cl.ck_zero.1 h1
        have hg := Cl.good ho
        obtain ⟨_, hx, happ⟩ := app_ok h3
        refine Cl.ck_zero.2 ⟨Cl.good_of ⟨hg.1, hg.2.1, hg.2.2.1, hg.2.2.2.1, ?_⟩, he, hf, ?_⟩
        · show 0 ≤ c.n + 1 ∧ c.n + 1 ≤ 60; omega
        · show Ok (app c.js c.rs x).1.1 (app c.js c.rs x).1.2
          rw [happ]; exact step_ok hb hx
      · rw [if_pos h3] at h; exact absurd h h3
  · rw [if_pos h1] at h; exact absurd h h1

/-- A place to be filled is got by who rests, and by nobody else. -/
theorem fill_ok {c : Cl} (h : c.ck = 0) {a : Int} (ha : 0 ≤ a ∧ a ≤ 59) : ((placeOf 0 c a).2 = 0 ↔ c.d = 0) ∧ (c.d = 0 → placeOf 0 c a = (⟨c.p, 2, En.zero, a, 0, c.n, c.js, c.rs⟩, 0) ∧ (placeOf 0 c a).1.ck = 0) := by
  have hk : c.d = 0 → placeOf 0 c a = (⟨c.p, 2, En.zero, a, 0, c.n, c.js, c.rs⟩, 0) ∧ (placeOf 0 c a).1.ck = 0 := fun hd => by
    have e : placeOf 0 c a = (⟨c.p, 2, En.zero, a, 0, c.n, c.js, c.rs⟩, 0) := by
      rw [placeOf, if_neg (by simpa using h), if_neg (by simpa using hd), if_neg (by simpa using ha)]
      have := rests h hd
      rw [this]
    refine ⟨e, ?_⟩
    rw [e]
    obtain ⟨ho, _, _, hb⟩ := Cl.ck_zero.1 h
    have hg := Cl.good ho
    exact Cl.ck_zero.2 ⟨Cl.good_of ⟨hg.1, (show (0 : Int) ≤ 2 ∧ (2 : Int) ≤ 2 by decide), ha, (show (0 : Int) ≤ 0 ∧ (0 : Int) ≤ 2 by decide), hg.2.2.2.2⟩, (show En.zero.chk = 0 by decide), rfl, hb⟩
  refine ⟨⟨fun h2 => ?_, fun hd => by rw [(hk hd).1]⟩, hk⟩
  by_cases hd : c.d = 0
  · exact hd
  · rw [placeOf, if_neg (by simpa using h), if_pos hd] at h2
    cases h2

/-- Along the units: who writes what stands goes on. -/
theorem hear_on {p a l n : Int} {js : List Jb} {rs : List Rg} {e x : En} (h : (⟨p, 2, e, a, l, n, js, rs⟩ : Cl).ck = 0) (hx : x.chk = 0) (he : e.k = 0 ∨ e = x) (hl : l < 2) :
    hearOf ⟨p, 2, e, a, l, n, js, rs⟩ x = (⟨p, 2, x, a, l + 1, n, js, rs⟩, 0) ∧ (⟨p, 2, x, a, l + 1, n, js, rs⟩ : Cl).ck = 0 := by
  have hc : ¬ (e.k ≠ 0 ∧ e.ne x = true) := fun hh => by
    rcases he with he | he
    · exact hh.1 he
    · rw [he, ne_self] at hh; exact absurd hh.2 (by simp)
  refine ⟨?_, ?_⟩
  · rw [hearOf, if_neg (by simpa using h), if_neg (by simpa using hx), if_neg (by simp), if_neg hc, if_neg (show ¬ l = 2 by omega)]
  · obtain ⟨ho, _, _, hb⟩ := Cl.ck_zero.1 h
    have hg := Cl.good ho
    refine Cl.ck_zero.2 ⟨Cl.good_of ⟨hg.1, (show (0 : Int) ≤ 2 ∧ (2 : Int) ≤ 2 by decide), hg.2.2.1, ?_, hg.2.2.2.2⟩, hx, rfl, hb⟩
    have := hg.2.2.2.1
    show 0 ≤ l + 1 ∧ l + 1 ≤ 2
    simp only at this
    omega

theorem hear_last {p a n : Int} {js : List Jb} {rs : List Rg} {e x : En} (h : (⟨p, 2, e, a, 2, n, js, rs⟩ : Cl).ck = 0) (hx : x.chk = 0) (he : e.k = 0 ∨ e = x) :
    hearOf ⟨p, 2, e, a, 2, n, js, rs⟩ x = (⟨p, 0, En.zero, 0, 0, n, js, rs⟩, 0) ∧ (⟨p, 0, En.zero, 0, 0, n, js, rs⟩ : Cl).ck = 0 := by
  have hc : ¬ (e.k ≠ 0 ∧ e.ne x = true) := fun hh => by
    rcases he with he | he
    · exact hh.1 he
    · rw [he, ne_self] at hh; exact absurd hh.2 (by simp)
  refine ⟨?_, ?_⟩
  · rw [hearOf, if_neg (by simpa using h), if_neg (by simpa using hx), if_neg (by simp), if_neg hc, if_pos rfl]
  · obtain ⟨ho, _, _, hb⟩ := Cl.ck_zero.1 h
    have hg := Cl.good ho
    exact Cl.ck_zero.2 ⟨Cl.good_of ⟨hg.1, (show (0 : Int) ≤ 0 ∧ (0 : Int) ≤ 2 by decide), (show (0 : Int) ≤ 0 ∧ (0 : Int) ≤ 59 by decide), (show (0 : Int) ≤ 0 ∧ (0 : Int) ≤ 2 by decide), hg.2.2.2.2⟩, (show En.zero.chk = 0 by decide), rfl, hb⟩

theorem hear_bad {c : Cl} {x : En} (h : c.ck = 0) (hx : x.chk ≠ 0) : hearOf c x = (Cl.zero, x.chk) := by
  rw [hearOf, if_neg (by simpa using h), if_pos hx]

/-- Who wants to ring wants what is due. -/
theorem ring_ok {c : Cl} {me j t : Int} (h : (ringOf c me j t).2 = 0) : c.ck = 0 ∧ c.d = 0 ∧ (0 ≤ t ∧ t ≤ 100000) ∧ (0 ≤ me ∧ me ≤ 2) ∧ ∃ z, tab c.js j = some z ∧ z.n ≤ t ∧ (⟨3, j, 0, z.n, me⟩ : En).chk = 0 ∧ ringOf c me j t = (⟨c.p, 1, ⟨3, j, 0, z.n, me⟩, 0, 0, c.n, c.js, c.rs⟩, 0) := by
  unfold ringOf at h ⊢
  by_cases h1 : c.ck = 0
  · rw [if_neg (by simpa using h1)] at h ⊢
    by_cases h2 : c.d = 0
    · rw [if_neg (by simpa using h2)] at h ⊢
      by_cases h3 : t < 0 ∨ 100000 < t
      · rw [if_pos h3] at h; cases h
      · rw [if_neg h3] at h ⊢
        cases hz : tab c.js j with
        | none => rw [hz] at h; cases h
        | some z =>
          rw [hz] at h
          by_cases h4 : t < z.n
          · simp only [if_pos h4] at h; cases h
          · simp only [if_neg h4] at h ⊢
            rw [wantOf, if_neg (by simpa using h1), if_neg (by simpa using h2)] at h ⊢
            by_cases h5 : (⟨3, j, 0, z.n, me⟩ : En).chk = 0
            · rw [if_neg (by simpa using h5), if_neg (show ¬ (3 : Int) = 0 by decide)]
              have hr := En.right h5
              refine ⟨h1, h2, by omega, hr.2.2.2.2.1, z, rfl, by omega, h5, ?_⟩
              have := rests h1 h2
              rw [this]
            · rw [if_pos h5] at h; exact absurd h h5
    · rw [if_pos h2] at h; cases h
  · rw [if_pos h1] at h; exact absurd h h1

end Go.Proofs.Ytbokdcdnandgbae
