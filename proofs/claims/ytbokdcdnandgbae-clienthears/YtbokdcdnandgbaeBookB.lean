/- Books: what a book is, what is wrong with one, what an entry makes of it. -/
import Derived.Test.YtbokdcdnandgbaeKit
namespace Go.Proofs.Ytbokdcdnandgbae
open Go.RowKit

/-- A job: its ID, Every, Next. -/
structure Jb where (i : Int) (e : Int) (n : Int)

/-- What was rung: the job, the time, the client. -/
structure Rg where (j : Int) (t : Int) (c : Int)

def Jb.bad (x : Jb) : Bool := !(decide (0 ≤ x.i ∧ x.i ≤ 5) && decide (1 ≤ x.e ∧ x.e ≤ 100) && decide (0 ≤ x.n ∧ x.n ≤ 100100))
def Rg.bad (x : Rg) : Bool := !(decide (0 ≤ x.j ∧ x.j ≤ 5) && decide (0 ≤ x.t ∧ x.t ≤ 100000) && decide (0 ≤ x.c ∧ x.c ≤ 2))

theorem Jb.good {x : Jb} (h : x.bad = false) : (0 ≤ x.i ∧ x.i ≤ 5) ∧ (1 ≤ x.e ∧ x.e ≤ 100) ∧ (0 ≤ x.n ∧ x.n ≤ 100100) := by
  simp only [Jb.bad, Bool.not_eq_false', Bool.and_eq_true, decide_eq_true_eq] at h
  exact ⟨h.1.1, h.1.2, h.2⟩
theorem Jb.good_of {x : Jb} (h : (0 ≤ x.i ∧ x.i ≤ 5) ∧ (1 ≤ x.e ∧ x.e ≤ 100) ∧ (0 ≤ x.n ∧ x.n ≤ 100100)) : x.bad = false := by
  simp only [Jb.bad, Bool.not_eq_false', Bool.and_eq_true, decide_eq_true_eq]
  exact ⟨⟨h.1, h.2.1⟩, h.2.2⟩
theorem Rg.good {x : Rg} (h : x.bad = false) : (0 ≤ x.j ∧ x.j ≤ 5) ∧ (0 ≤ x.t ∧ x.t ≤ 100000) ∧ (0 ≤ x.c ∧ x.c ≤ 2) := by
  simp only [Rg.bad, Bool.not_eq_false', Bool.and_eq_true, decide_eq_true_eq] at h
  exact ⟨h.1.1, h.1.2, h.2⟩
theorem Rg.good_of {x : Rg} (h : (0 ≤ x.j ∧ x.j ≤ 5) ∧ (0 ≤ x.t ∧ x.t ≤ 100000) ∧ (0 ≤ x.c ∧ x.c ≤ 2)) : x.bad = false := by
  simp only [Rg.bad, Bool.not_eq_false', Bool.and_eq_true, decide_eq_true_eq]
  exact ⟨⟨h.1, h.2.1⟩, h.2.2⟩

/-- What is wrong with jobs, behind one of this ID. -/
def ckJobs : Int → List Jb → Int
  | _, [] => 0
  | l, x :: r => if x.bad = true then 3 else if x.i ≤ l then 6 else ckJobs x.i r

def ckRungs : List Rg → Int
  | [] => 0
  | x :: r => if x.bad = true then 3 else ckRungs r

/-- What is wrong with a book. -/
def ckBook (js : List Jb) (rs : List Rg) : Int := if 6 < js.length ∨ 60 < rs.length then 2 else if ckJobs (-1) js ≠ 0 then ckJobs (-1) js else ckRungs rs

/-- Jobs by rising IDs, above this one. -/
def Srt : Int → List Jb → Prop
  | _, [] => True
  | l, x :: r => l < x.i ∧ Srt x.i r

theorem ckJobs_zero : ∀ (l : Int) (js : List Jb), ckJobs l js = 0 ↔ Srt l js ∧ ∀ x, x ∈ js → x.bad = false
  | l, [] => by simp [ckJobs, Srt]
  | l, x :: r => by
    have ih := ckJobs_zero x.i r
    rw [ckJobs, Srt]
    by_cases hb : x.bad = true
    · rw [if_pos hb]
      constructor
      · intro h; cases h
      · rintro ⟨_, h⟩; have := h x (by simp); rw [this] at hb; cases hb
    · rw [if_neg hb]
      by_cases hl : x.i ≤ l
      · rw [if_pos hl]
        constructor
        · intro h; cases h
        · rintro ⟨⟨h, _⟩, _⟩; omega
      · rw [if_neg hl, ih]
        constructor
        · rintro ⟨h1, h2⟩
          refine ⟨⟨by omega, h1⟩, fun y hy => ?_⟩
          rcases List.mem_cons.1 hy with rfl | hy
          · simpa using hb
          · exact h2 y hy
        · rintro ⟨⟨_, h1⟩, h2⟩
          exact ⟨h1, fun y hy => h2 y (List.mem_cons_of_mem _ hy)⟩

theorem ckRungs_zero : ∀ (rs : List Rg), ckRungs rs = 0 ↔ ∀ x, x ∈ rs → x.bad = false
  | [] => by simp [ckRungs]
  | x :: r => by
    have ih := ckRungs_zero r
    rw [ckRungs]
    by_cases hb : x.bad = true
    · rw [if_pos hb]
      constructor
      · intro h; cases h
      · intro h; have := h x (by simp); rw [this] at hb; cases hb
    · rw [if_neg hb, ih]
      constructor
      · intro h y hy
        rcases List.mem_cons.1 hy with rfl | hy
        · simpa using hb
        · exact h y hy
      · exact fun h y hy => h y (List.mem_cons_of_mem _ hy)

/-- A right book. -/
structure Ok (js : List Jb) (rs : List Rg) : Prop where
  few : js.length ≤ 6
  room : rs.length ≤ 60
  srt : Srt (-1) js
  jobs : ∀ x, x ∈ js → x.bad = false
  rungs : ∀ x, x ∈ rs → x.bad = false

theorem ckBook_zero {js : List Jb} {rs : List Rg} : ckBook js rs = 0 ↔ Ok js rs := by
  unfold ckBook
  by_cases hm : 6 < js.length ∨ 60 < rs.length
  · rw [if_pos hm]
    exact ⟨fun h => absurd h (by decide), fun h => absurd h.few (by have := h.room; omega)⟩
  · rw [if_neg hm]
    by_cases hj : ckJobs (-1) js = 0
    · rw [if_neg (by simpa using hj), ckRungs_zero]
      have := (ckJobs_zero _ _).1 hj
      exact ⟨fun h => ⟨by omega, by omega, this.1, this.2, h⟩, fun h => h.rungs⟩
    · rw [if_pos hj]
      exact ⟨fun h => absurd h hj, fun h => absurd ((ckJobs_zero _ _).2 ⟨h.srt, h.jobs⟩) hj⟩

theorem Srt.mono {l l' : Int} {js : List Jb} (h : Srt l js) (hl : l' ≤ l) : Srt l' js := by
  cases js with
  | nil => trivial
  | cons x r => exact ⟨by have := h.1; omega, h.2⟩

theorem Srt.above : ∀ {l : Int} {js : List Jb}, Srt l js → ∀ x, x ∈ js → l < x.i
  | _, [], _, x, hx => by cases hx
  | l, y :: r, h, x, hx => by
    rcases List.mem_cons.1 hx with rfl | hx
    · exact h.1
    · have := Srt.above h.2 x hx; have := h.1; omega

/-- The job of this ID. -/
def tab (js : List Jb) (i : Int) : Option Jb := js.find? fun x => x.i == i

theorem tab_id {js : List Jb} {i : Int} {x : Jb} (h : tab js i = some x) : x.i = i ∧ x ∈ js := by
  refine ⟨?_, List.mem_of_find?_eq_some h⟩
  have := List.find?_some h
  simpa using this

theorem tab_none {js : List Jb} {i : Int} : tab js i = none ↔ ∀ x, x ∈ js → x.i ≠ i := by
  simp [tab, List.find?_eq_none]

theorem tab_mem : ∀ {l : Int} {js : List Jb}, Srt l js → ∀ x, x ∈ js → tab js x.i = some x
  | _, [], _, x, hx => by cases hx
  | l, y :: r, h, x, hx => by
    rcases List.mem_cons.1 hx with rfl | hx
    · simp [tab]
    · have hlt := Srt.above h.2 x hx
      have hne : (y.i == x.i) = false := by rw [beq_eq_false_iff_ne]; omega
      rw [tab, List.find?_cons, hne]
      exact tab_mem h.2 x hx

/-- The jobs with another one (or none) of this ID. -/
def alt (js : List Jb) (i : Int) (v : Option Jb) : List Jb := js.filter (fun x => decide (x.i < i)) ++ v.toList ++ js.filter (fun x => decide (i < x.i))

theorem srt_append : ∀ {l m : Int} {a b : List Jb}, Srt l a → (∀ x, x ∈ a → x.i ≤ m) → l ≤ m → Srt m b → Srt l (a ++ b)
  | l, m, [], b, _, _, hl, hb => hb.mono hl
  | l, m, x :: r, b, ha, hm, hl, hb => ⟨ha.1, srt_append ha.2 (fun y hy => hm y (List.mem_cons_of_mem _ hy)) (hm x (by simp)) hb⟩

theorem srt_filter : ∀ {l : Int} {js : List Jb} (p : Jb → Bool), Srt l js → Srt l (js.filter p)
  | _, [], _, _ => trivial
  | l, x :: r, p, h => by
    rw [List.filter_cons]
    split
    · exact ⟨h.1, srt_filter p h.2⟩
    · exact (srt_filter p h.2).mono (by have := h.1; omega)

theorem srt_above {l m : Int} : ∀ {js : List Jb}, Srt l js → (∀ x, x ∈ js → m < x.i) → Srt m js
  | [], _, _ => trivial
  | x :: r, h, hm => ⟨hm x (by simp), h.2⟩

theorem alt_mem {js : List Jb} {i : Int} {v : Option Jb} {x : Jb} : x ∈ alt js i v ↔ (x ∈ js ∧ x.i ≠ i) ∨ v = some x := by
  simp only [alt, List.mem_append, List.mem_filter, decide_eq_true_eq, Option.mem_toList]
  constructor
  · rintro ((⟨h, h'⟩ | h) | ⟨h, h'⟩)
    · exact Or.inl ⟨h, by omega⟩
    · exact Or.inr h
    · exact Or.inl ⟨h, by omega⟩
  · rintro (⟨h, h'⟩ | h)
    · rcases Int.lt_or_gt_of_ne h' with h'' | h''
      · exact Or.inl (Or.inl ⟨h, h''⟩)
      · exact Or.inr ⟨h, h''⟩
    · exact Or.inl (Or.inr h)

theorem alt_srt {l : Int} {js : List Jb} {i : Int} {v : Option Jb} (h : Srt l js) (hi : l < i) (hv : ∀ x, v = some x → x.i = i) : Srt l (alt js i v) := by
  have h3 : Srt i (js.filter (fun x => decide (i < x.i))) := srt_above (srt_filter _ h) (fun x hx => by simpa using (List.mem_filter.1 hx).2)
  rw [alt, List.append_assoc]
  refine srt_append (m := i - 1) (srt_filter _ h) (fun x hx => by have := (List.mem_filter.1 hx).2; simp at this; omega) (by omega) ?_
  cases v with
  | none => exact h3.mono (by omega)
  | some x =>
    have := hv x rfl
    exact ⟨by omega, by rw [this]; exact h3⟩

theorem tab_eq {l : Int} {js : List Jb} (h : Srt l js) {i : Int} {x : Jb} : tab js i = some x ↔ x ∈ js ∧ x.i = i := by
  constructor
  · intro hx; have := tab_id hx; exact ⟨this.2, this.1⟩
  · rintro ⟨hx, rfl⟩; exact tab_mem h x hx

theorem opt_ext {α : Type} {a b : Option α} (h : ∀ x, a = some x ↔ b = some x) : a = b := by
  cases a with
  | none =>
    cases b with
    | none => rfl
    | some y => exact absurd ((h y).2 rfl) (by simp)
  | some x => exact ((h x).1 rfl).symm

theorem tab_alt {l : Int} {js : List Jb} {i : Int} {v : Option Jb} (h : Srt l js) (hi : l < i) (hv : ∀ x, v = some x → x.i = i) (k : Int) : tab (alt js i v) k = if k = i then v else tab js k := by
  have hs := alt_srt h hi hv
  refine opt_ext fun x => ?_
  rw [tab_eq hs, alt_mem]
  by_cases hk : k = i
  · subst hk
    rw [if_pos rfl]
    constructor
    · rintro ⟨⟨_, h1⟩ | h1, h2⟩
      · exact absurd h2 h1
      · exact h1
    · intro h1; exact ⟨Or.inr h1, hv x h1⟩
  · rw [if_neg hk, tab_eq h]
    constructor
    · rintro ⟨⟨h0, _⟩ | h1, h2⟩
      · exact ⟨h0, h2⟩
      · have := hv x h1; omega
    · rintro ⟨h0, h2⟩; exact ⟨Or.inl ⟨h0, by omega⟩, h2⟩

/-- Two sorted lists with the same jobs are the same. -/
theorem srt_ext : ∀ {l l' : Int} {a b : List Jb}, Srt l a → Srt l' b → (∀ x, x ∈ a ↔ x ∈ b) → a = b
  | _, _, [], [], _, _, _ => rfl
  | _, _, [], y :: s, _, _, h => absurd ((h y).2 (by simp)) (by simp)
  | _, _, x :: r, [], _, _, h => absurd ((h x).1 (by simp)) (by simp)
  | l, l', x :: r, y :: s, ha, hb, h => by
    have hxy : x = y := by
      rcases List.mem_cons.1 ((h x).1 (by simp)) with e | hx
      · exact e
      · rcases List.mem_cons.1 ((h y).2 (by simp)) with e | hy
        · exact e.symm
        · have h1 := Srt.above hb.2 x hx
          have h2 := Srt.above ha.2 y hy
          omega
    subst hxy
    congr 1
    refine srt_ext ha.2 hb.2 fun z => ?_
    constructor
    · intro hz
      rcases List.mem_cons.1 ((h z).1 (List.mem_cons_of_mem _ hz)) with rfl | h'
      · have := Srt.above ha.2 z hz; omega
      · exact h'
    · intro hz
      rcases List.mem_cons.1 ((h z).2 (List.mem_cons_of_mem _ hz)) with rfl | h'
      · have := Srt.above hb.2 z hz; omega
      · exact h'

theorem alt_same {l : Int} {js : List Jb} {i : Int} (h : Srt l js) (hi : l < i) : alt js i (tab js i) = js := by
  refine srt_ext (alt_srt h hi (fun x hx => (tab_id hx).1)) h fun x => ?_
  rw [alt_mem, tab_eq h]
  constructor
  · rintro (⟨h1, _⟩ | ⟨h1, _⟩) <;> exact h1
  · intro h1
    by_cases hk : x.i = i
    · exact Or.inr ⟨h1, hk⟩
    · exact Or.inl ⟨h1, hk⟩

theorem alt_none {l : Int} {js : List Jb} {i : Int} (h : Srt l js) (hi : l < i) (hn : tab js i = none) : alt js i none = js := by
  have := alt_same h hi; rw [hn] at this; exact this

theorem srt_len : ∀ {l : Int} {js : List Jb}, Srt l js → (∀ x, x ∈ js → x.i ≤ 5) → (js.length : Int) ≤ if l < 5 then 5 - l else 0
  | l, [], _, _ => by simp; split <;> omega
  | l, x :: r, h, hb => by
    have h1 := hb x (by simp)
    have ih := srt_len h.2 (fun y hy => hb y (List.mem_cons_of_mem _ hy))
    have := h.1
    rw [if_pos (by omega), List.length_cons]
    split at ih <;> omega

/-- What an entry makes of a right book. -/
def step (js : List Jb) (rs : List Rg) (x : En) : List Jb × List Rg :=
  if x.k = 1 then (match tab js x.j with | none => (alt js x.j (some ⟨x.j, x.v, x.t⟩), rs) | some _ => (js, rs))
  else if x.k = 2 then (alt js x.j none, rs)
  else if x.k = 3 then (match tab js x.j with | none => (js, rs) | some y => if y.n = x.t ∧ rs.length < 60 then (alt js x.j (some ⟨x.j, y.e, x.t + y.e⟩), rs ++ [⟨x.j, x.t, x.c⟩]) else (js, rs))
  else (js, rs)

/-- What an entry makes of a book; the error. -/
def app (js : List Jb) (rs : List Rg) (x : En) : (List Jb × List Rg) × Int :=
  if ckBook js rs ≠ 0 then (([], []), ckBook js rs) else if x.chk ≠ 0 then (([], []), x.chk) else (step js rs x, 0)

def bfold : List Jb → List Rg → List En → (List Jb × List Rg) × Int
  | js, rs, [] => ((js, rs), 0)
  | js, rs, x :: r => if (app js rs x).2 ≠ 0 then (([], []), (app js rs x).2) else bfold (app js rs x).1.1 (app js rs x).1.2 r

def bookOf (l : List En) : (List Jb × List Rg) × Int := if 60 < l.length then (([], []), 2) else bfold [] [] l

end Go.Proofs.Ytbokdcdnandgbae
