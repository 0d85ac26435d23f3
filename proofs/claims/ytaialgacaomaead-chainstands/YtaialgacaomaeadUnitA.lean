/- Units: what is wrong with one, what a record makes of it, what records make of a new one; plain facts. -/
import Derived.Test.YtaialgacaomaeadRecA
namespace Go.Proofs.Ytaialgacaomaead
open Go.RowKit

/-- A unit: its epoch, its places. -/
structure Un where (p : Int) (cells : List En)

def Un.zero : Un := ⟨0, []⟩
def blankE : En := ⟨4, 0, 0, 0, 0⟩

/-- Is a place blank? -/
def En.isB (e : En) : Bool := !unlike e.k e.j e.v e.t e.c 4 0 0 0 0

theorem En.isB_eq {e : En} : e.isB = true ↔ e = blankE := by
  unfold En.isB
  constructor
  · intro h
    obtain ⟨h1, h2, h3, h4, h5⟩ := unlike_false (by simpa using h)
    cases e
    simp_all [blankE]
  · rintro rfl
    decide

theorem blank_isB : blankE.isB = true := by decide
theorem blank_chk : blankE.chk = 4 := by decide

/-- The first place that is neither blank nor right. -/
def ckCells : List En → Int
  | [] => 0
  | c :: r => if c.isB = true then ckCells r else if c.chk ≠ 0 then c.chk else ckCells r

def Un.ck (u : Un) : Int := if ¬(1 ≤ u.p ∧ u.p ≤ 20) then 3 else if ¬ u.cells.length = 60 then 4 else ckCells u.cells

theorem Un.ck_zero {u : Un} : u.ck = 0 ↔ (1 ≤ u.p ∧ u.p ≤ 20) ∧ u.cells.length = 60 ∧ ckCells u.cells = 0 := by
  unfold Un.ck
  split
  · rename_i h
    exact ⟨fun h' => (by cases h'), fun h' => absurd h'.1 h⟩
  · split
    · rename_i h
      exact ⟨fun h' => (by cases h'), fun h' => absurd h'.2.1 h⟩
    · rename_i h1 h2
      exact ⟨fun h' => ⟨by simpa using h1, by simpa using h2, h'⟩, fun h' => h'.2.2⟩

theorem ckCells_zero : ∀ {l : List En}, ckCells l = 0 ↔ ∀ c, c ∈ l → c.isB = true ∨ c.chk = 0
  | [] => ⟨fun _ c hc => (by cases hc), fun _ => rfl⟩
  | c :: r => by
    rw [ckCells]
    have ih := ckCells_zero (l := r)
    by_cases hb : c.isB = true
    · rw [if_pos hb, ih]
      exact ⟨fun h x hx => (List.mem_cons.1 hx).elim (fun e => Or.inl (e ▸ hb)) (h x), fun h x hx => h x (List.mem_cons_of_mem _ hx)⟩
    · rw [if_neg hb]
      by_cases hc : c.chk = 0
      · rw [if_neg (by simpa using hc), ih]
        exact ⟨fun h x hx => (List.mem_cons.1 hx).elim (fun e => Or.inr (e ▸ hc)) (h x), fun h x hx => h x (List.mem_cons_of_mem _ hx)⟩
      · rw [if_pos hc]
        exact ⟨fun h => absurd h hc, fun h => (h c (by simp)).elim (fun h' => absurd h' hb) id⟩

/-- A new unit. -/
def unew : Un := ⟨1, List.replicate 60 blankE⟩

theorem unew_ck : unew.ck = 0 := Un.ck_zero.2 ⟨by decide, by simp [unew], ckCells_zero.2 fun c hc => Or.inl (by
  rw [List.eq_of_mem_replicate hc]; exact blank_isB)⟩

/-- What a right record makes of a right unit. -/
def uwrite (u : Un) (r : Rc) : Un × Int :=
  if r.k = 2 then (if r.p ≤ u.p then (Un.zero, 8) else (⟨r.p, u.cells⟩, 0))
  else if (u.cells.getD r.a.toNat blankE).isB = false then (Un.zero, 6) else (⟨u.p, u.cells.set r.a.toNat r.e⟩, 0)

def unext (u : Un) (r : Rc) : Un × Int := if u.ck ≠ 0 then (Un.zero, u.ck) else if r.chk ≠ 0 then (Un.zero, r.chk) else uwrite u r

/-- The ways of a record that is taken. -/
theorem unext_ok {u : Un} {r : Rc} (h : (unext u r).2 = 0) : u.ck = 0 ∧ r.chk = 0 ∧ ((r.k = 2 ∧ u.p < r.p ∧ r.p ≤ 20 ∧ (unext u r).1 = ⟨r.p, u.cells⟩) ∨ (r.k = 1 ∧ (0 ≤ r.a ∧ r.a ≤ 59) ∧ u.cells[r.a.toNat]? = some blankE ∧ r.e.chk = 0 ∧ (unext u r).1 = ⟨u.p, u.cells.set r.a.toNat r.e⟩)) := by
  unfold unext at h ⊢
  by_cases h1 : u.ck = 0
  · rw [if_neg (by simpa using h1)] at h ⊢
    by_cases h2 : r.chk = 0
    · rw [if_neg (by simpa using h2)] at h ⊢
      refine ⟨h1, h2, ?_⟩
      unfold uwrite at h ⊢
      by_cases hk : r.k = 2
      · rw [if_pos hk] at h ⊢
        by_cases hp : r.p ≤ u.p
        · rw [if_pos hp] at h; cases h
        · rw [if_neg hp]
          exact Or.inl ⟨hk, by omega, (Rc.seal h2 hk).1.2, rfl⟩
      · rw [if_neg hk] at h ⊢
        obtain ⟨g1, g2, _, g4⟩ := Rc.write h2 hk
        by_cases hb : (u.cells.getD r.a.toNat blankE).isB = false
        · rw [if_pos hb] at h; cases h
        · rw [if_neg hb]
          have hl : r.a.toNat < u.cells.length := by have := (Un.ck_zero.1 h1).2.1; omega
          have he : u.cells[r.a.toNat]? = some blankE := by
            rw [List.getElem?_eq_getElem hl]
            have hb' : (u.cells.getD r.a.toNat blankE).isB = true := by simpa using hb
            rw [List.getD_eq_getElem?_getD, List.getElem?_eq_getElem hl] at hb'
            exact congrArg some (En.isB_eq.1 hb')
          exact Or.inr ⟨g1, g2, he, g4, rfl⟩
    · rw [if_pos h2] at h; exact absurd h h2
  · rw [if_pos h1] at h; exact absurd h h1

/-- A unit stays one. -/
theorem unext_ck {u : Un} {r : Rc} (h : (unext u r).2 = 0) : (unext u r).1.ck = 0 := by
  obtain ⟨h1, h2, hw⟩ := unext_ok h
  obtain ⟨g1, g2, g3⟩ := Un.ck_zero.1 h1
  rcases hw with ⟨_, hp, hp2, e⟩ | ⟨_, ha, hb, hc, e⟩ <;> rw [e]
  · exact Un.ck_zero.2 ⟨⟨by show 1 ≤ r.p; omega, hp2⟩, g2, g3⟩
  · refine Un.ck_zero.2 ⟨g1, by rw [List.length_set]; exact g2, ckCells_zero.2 fun c hcm => ?_⟩
    rcases List.mem_or_eq_of_mem_set hcm with hcm | rfl
    · exact ckCells_zero.1 g3 c hcm
    · exact Or.inr hc

/-- An epoch never falls. -/
theorem unext_epoch {u : Un} {r : Rc} (h : (unext u r).2 = 0) : u.p ≤ (unext u r).1.p := by
  obtain ⟨_, _, hw⟩ := unext_ok h
  rcases hw with ⟨_, hp, _, e⟩ | ⟨_, _, _, _, e⟩ <;> rw [e]
  · show u.p ≤ r.p; omega
  · exact Int.le_refl _

/-- What stands at a place stands there; only the written place turns. -/
theorem unext_stands {u : Un} {r : Rc} (h : (unext u r).2 = 0) (k : Nat) {c : En} (hc : u.cells[k]? = some c) :
    (unext u r).1.cells[k]? = some c ∨ (c = blankE ∧ r.k = 1 ∧ r.a = k ∧ (unext u r).1.cells[k]? = some r.e) := by
  obtain ⟨_, _, hw⟩ := unext_ok h
  rcases hw with ⟨_, _, _, e⟩ | ⟨hk, ha, hb, _, e⟩ <;> rw [e]
  · exact Or.inl hc
  · by_cases hka : r.a.toNat = k
    · subst hka
      rw [hb] at hc
      refine Or.inr ⟨(Option.some.inj hc).symm, hk, by omega, ?_⟩
      have hl := (List.getElem?_eq_some_iff.1 hb).1
      show (u.cells.set r.a.toNat r.e)[r.a.toNat]? = _
      rw [List.getElem?_set_self hl]
    · left
      show (u.cells.set r.a.toNat r.e)[k]? = _
      rw [List.getElem?_set_ne hka]
      exact hc

def ufold : Un → List Rc → Un × Int
  | u, [] => (u, 0)
  | u, r :: l => if (unext u r).2 ≠ 0 then (Un.zero, (unext u r).2) else ufold (unext u r).1 l

def unitOf (l : List Rc) : Un × Int := if 160 < l.length then (Un.zero, 2) else ufold unew l

theorem ufold_snoc : ∀ (l : List Rc) (u : Un) (r : Rc), (ufold u l).2 = 0 → (unext (ufold u l).1 r).2 = 0 → ufold u (l ++ [r]) = ((unext (ufold u l).1 r).1, 0)
  | [], u, r, _, h => by
    have h' : (unext u r).2 = 0 := h
    show (if (unext u r).2 ≠ 0 then (Un.zero, (unext u r).2) else ufold (unext u r).1 []) = ((unext u r).1, 0)
    rw [if_neg (by simpa using h')]
    rfl
  | x :: l, u, r, h1, h2 => by
    rw [ufold] at h1 h2
    rw [List.cons_append, ufold]
    by_cases hx : (unext u x).2 = 0
    · rw [if_neg (by simpa using hx)] at h1 h2 ⊢
      rw [ufold_snoc l _ r h1 h2, ufold, if_neg (by simpa using hx)]
    · rw [if_pos hx] at h1; exact absurd h1 hx

/-- How many places there are up to the last one whose kind isn't Blank. -/
def tailFrom : Nat → Int → List En → Int
  | _, n, [] => n
  | k, n, c :: r => tailFrom (k + 1) (if c.k = 4 then n else ((k + 1 : Nat) : Int)) r

def tailOf (l : List En) : Int := tailFrom 0 0 l

end Go.Proofs.Ytaialgacaomaead
