/- For the law. -/
import Derived.Test.YtmoaobfmopimlafGreatDoorM10
set_option linter.unusedSimpArgs false
set_option linter.unusedVariables false
namespace Go.Proofs.YtmoaobfmopimlafGreatDoor
open Go.RowKit
theorem alt_ok {js : List Jb} {rs rs' : List Rg} (hok : Ok js rs) {i : Int} {o : Option Jb} (i0 : 0 ≤ i) (i5 : i ≤ 5) (ho : ∀ y, o = some y → y.i = i ∧ y.bad = false) (hr : rs'.length ≤ 60) (hb : ∀ r, r ∈ rs' → r.bad = false) : Ok (alt js i o) rs' := by
 have hs : Srt (-1) (alt js i o) := alt_srt hok.srt (by omega) (fun y hy => (ho y hy).1)
 have hg : ∀ y, y ∈ alt js i o → y.bad = false := fun y hy => by
  rcases alt_mem.1 hy with ⟨h, _⟩ | h
  ·exact hok.jobs y h
  ·exact (ho y h).2
 refine ⟨?_, hr, hs, hg, hb⟩
 have := srt_len hs (fun y hy => (Jb.good (hg y hy)).1.2)
 rw [if_pos (by omega)] at this
 omega
theorem step_ways {js : List Jb} {rs : List Rg} {x : En} (hx : x.chk = 0) :
  (step js rs x = (js, rs) ∧ (x.k = 1 → ∃ y, tab js x.j = some y) ∧ x.k ≠ 2 ∧ (x.k = 3 → ∀ y, tab js x.j = some y → ¬ (y.n = x.t ∧ rs.length < 60))) ∨
  (x.k = 1 ∧ tab js x.j = none ∧ step js rs x = (alt js x.j (some ⟨x.j, x.v, x.t⟩), rs)) ∨
  (x.k = 2 ∧ step js rs x = (alt js x.j none, rs)) ∨
  (x.k = 3 ∧ ∃ y, tab js x.j = some y ∧ y.n = x.t ∧ rs.length < 60 ∧ step js rs x = (alt js x.j (some ⟨x.j, y.e, x.t + y.e⟩), rs ++ [⟨x.j, x.t, x.c⟩])) := by
 have hX := En.right hx
 have hk : x.k = 0 ∨ x.k = 1 ∨ x.k = 2 ∨ x.k = 3 := by omega
 rcases hk with hk | hk | hk | hk
 ·exact Or.inl ⟨by rw [step, if_neg (by omega), if_neg (by omega), if_neg (by omega)], fun h => by omega, by omega, fun h => by omega⟩
 ·cases ht : tab js x.j with
  | none => exact Or.inr (Or.inl ⟨hk, rfl, by rw [step, if_pos hk, ht]⟩)
  | some y => exact Or.inl ⟨by rw [step, if_pos hk, ht], fun _ => ⟨y, rfl⟩, by omega, fun h => by omega⟩
 ·exact Or.inr (Or.inr (Or.inl ⟨hk, by rw [step, if_neg (by omega), if_pos hk]⟩))
 ·cases ht : tab js x.j with
  | none => exact Or.inl ⟨by rw [step, if_neg (by omega), if_neg (by omega), if_pos hk, ht], fun h => by omega, by omega, fun _ y h => by cases h⟩
  | some y =>
   by_cases hc : y.n = x.t ∧ rs.length < 60
   ·refine Or.inr (Or.inr (Or.inr ⟨hk, y, rfl, hc.1, hc.2, ?_⟩))
    rw [step, if_neg (by omega), if_neg (by omega), if_pos hk, ht]
    exact if_pos hc
   ·refine Or.inl ⟨?_, fun h => by omega, by omega, fun _ z h => by cases h; exact hc⟩
    rw [step, if_neg (by omega), if_neg (by omega), if_pos hk, ht]
    exact if_neg hc
theorem step_ok {js : List Jb} {rs : List Rg} {x : En} (hok : Ok js rs) (hx : x.chk = 0) : Ok (step js rs x).1 (step js rs x).2 := by
 have hX := En.right hx
 have j0 := hX.2.1.1
 have j5 := hX.2.1.2
 rcases step_ways (js := js) (rs := rs) hx with ⟨h, _⟩ | ⟨hk, _, h⟩ | ⟨_, h⟩ | ⟨hk, y, hy, hn, hr, h⟩
 ·rw [h]; exact hok
 ·rw [h]
  refine alt_ok hok j0 j5 (fun y e => ?_) hok.room hok.rungs
  cases e
  exact ⟨rfl, Jb.good_of ⟨hX.2.1, ⟨hX.2.2.2.2.2 hk, hX.2.2.1.2⟩, ⟨hX.2.2.2.1.1, by have := hX.2.2.2.1.2; show x.t ≤ 100100; omega⟩⟩⟩
 ·rw [h]
  exact alt_ok hok j0 j5 (fun y e => by cases e) hok.room hok.rungs
 ·rw [h]
  have hg := Jb.good (hok.jobs y (tab_id hy).2)
  refine alt_ok hok j0 j5 (fun z e => ?_) (by rw [List.length_append]; simp; omega) (fun r hr => ?_)
  ·cases e
   refine ⟨rfl, Jb.good_of ⟨hX.2.1, hg.2.1, ?_⟩⟩
   have := hX.2.2.2.1; have := hg.2.1
   show 0 ≤ x.t + y.e ∧ x.t + y.e ≤ 100100
   omega
  ·rcases List.mem_append.1 hr with hr | hr
   ·exact hok.rungs r hr
   ·obtain rfl : r = ⟨x.j, x.t, x.c⟩ := by simpa using hr
    exact Rg.good_of ⟨hX.2.1, hX.2.2.2.1, hX.2.2.2.2.1⟩
theorem jobAt_ways (js : List Jb) (id : Int) : (jobAt js id = -1 ∧ tab js id = none) ∨ ∃ (k : Nat) (z : Jb), jobAt js id = k ∧ js[k]? = some z ∧ tab js id = some z := by
 induction js with
 | nil => exact Or.inl ⟨rfl, rfl⟩
 | cons y r ih =>
  by_cases he : y.i = id
  ·refine Or.inr ⟨0, y, ?_, rfl, ?_⟩
   ·rw [jobAt, List.findIdx?_cons, if_pos (by simpa using he)]
   ·rw [tab, List.find?_cons, show (y.i == id) = true by simpa using he]
  ·have hb : (y.i == id) = false := by simpa using he
   rcases ih with ⟨h1, h2⟩ | ⟨k, z, h1, h2, h3⟩
   ·refine Or.inl ⟨?_, ?_⟩
    ·rw [jobAt] at h1 ⊢
     rw [List.findIdx?_cons, if_neg (by simpa using he)]
     cases hf : r.findIdx? (fun x => x.i == id) with
     | none => rfl
     | some q => rw [hf] at h1; exact absurd h1 (by show ¬ ((q : Int) = -1); omega)
    ·rw [tab, List.find?_cons, hb]; exact h2
   ·refine Or.inr ⟨k + 1, z, ?_, by simpa using h2, ?_⟩
    ·rw [jobAt] at h1 ⊢
     rw [List.findIdx?_cons, if_neg (by simpa using he)]
     cases hf : r.findIdx? (fun x => x.i == id) with
     | none => rw [hf] at h1; exact absurd h1 (by show ¬ ((-1 : Int) = k); omega)
     | some q =>
      rw [hf] at h1
      have h1' : (q : Int) = k := h1
      show ((q + 1 : Nat) : Int) = ((k + 1 : Nat) : Int)
      omega
    ·rw [tab, List.find?_cons, hb]; exact h3
theorem app_ok {js : List Jb} {rs : List Rg} {x : En} (h : (app js rs x).2 = 0) : Ok js rs ∧ x.chk = 0 ∧ app js rs x = (step js rs x, 0) := by
 unfold app at h ⊢
 by_cases h1 : ckBook js rs = 0
 ·rw [if_neg (by simpa using h1)] at h ⊢
  by_cases h2 : x.chk = 0
  ·rw [if_neg (by simpa using h2)]
   exact ⟨ckBook_zero.1 h1, h2, rfl⟩
  ·rw [if_pos h2] at h; exact absurd h h2
 ·rw [if_pos h1] at h; exact absurd h h1
def Jb.ahead (x y : Jb) : Prop := x.n < y.n ∨ (x.n = y.n ∧ x.i < y.i)
def Row : List Jb → Prop
 | [] => True
 | x :: r => (∀ y, y ∈ r → x.ahead y) ∧ Row r
theorem row_ext : ∀ {a b : List Jb}, Row a → Row b → (∀ x, x ∈ a ↔ x ∈ b) → a = b
 | [], [], _, _, _ => rfl
 | [], y :: s, _, _, h => absurd ((h y).2 (by simp)) (by simp)
 | x :: r, [], _, _, h => absurd ((h x).1 (by simp)) (by simp)
 | x :: r, y :: s, ha, hb, h => by
  have hxy : x = y := by
   rcases List.mem_cons.1 ((h x).1 (by simp)) with e | hx
   ·exact e
   ·rcases List.mem_cons.1 ((h y).2 (by simp)) with e | hy
    ·exact e.symm
    ·have h1 := hb.1 x hx
     have h2 := ha.1 y hy
     unfold Jb.ahead at h1 h2
     omega
  subst hxy
  have irr : ∀ z : Jb, ¬ z.ahead z := fun z hz => by unfold Jb.ahead at hz; omega
  congr 1
  refine row_ext ha.2 hb.2 fun z => ?_
  constructor
  ·intro hz
   rcases List.mem_cons.1 ((h z).1 (List.mem_cons_of_mem _ hz)) with rfl | h'
   ·exact absurd (ha.1 z hz) (irr z)
   ·exact h'
  ·intro hz
   rcases List.mem_cons.1 ((h z).2 (List.mem_cons_of_mem _ hz)) with rfl | h'
   ·exact absurd (hb.1 z hz) (irr z)
   ·exact h'
def into (x : Jb) : List Jb → List Jb
 | [] => [x]
 | y :: r => if x.n < y.n ∨ (x.n = y.n ∧ x.i < y.i) then x :: y :: r else y :: into x r
theorem into_mem (x z : Jb) : ∀ l : List Jb, z ∈ into x l ↔ z = x ∨ z ∈ l
 | [] => by simp [into]
 | y :: r => by
  rw [into]
  split
  ·simp
  ·rw [List.mem_cons, into_mem x z r, List.mem_cons]
   constructor
   ·rintro (h | h | h)
    ·exact Or.inr (Or.inl h)
    ·exact Or.inl h
    ·exact Or.inr (Or.inr h)
   ·rintro (h | h | h)
    ·exact Or.inr (Or.inl h)
    ·exact Or.inl h
    ·exact Or.inr (Or.inr h)
theorem into_row (x : Jb) : ∀ {l : List Jb}, Row l → (∀ y, y ∈ l → y.i ≠ x.i) → Row (into x l)
 | [], _, _ => ⟨fun _ h => absurd h (by simp), trivial⟩
 | y :: r, h, hd => by
  rw [into]
  split
  ·rename_i hxy
   refine ⟨fun z hz => ?_, h⟩
   rcases List.mem_cons.1 hz with rfl | hz
   ·exact hxy
   ·have := h.1 z hz
    unfold Jb.ahead at this ⊢
    omega
  ·rename_i hxy
   refine ⟨fun z hz => ?_, into_row x h.2 (fun z hz => hd z (List.mem_cons_of_mem _ hz))⟩
   rcases (into_mem x z r).1 hz with rfl | hz
   ·have := hd y (by simp)
    unfold Jb.ahead
    omega
   ·exact h.1 z hz
def dueOf : List Jb → Int → List Jb
 | [], _ => []
 | x :: r, t => if x.n ≤ t then into x (dueOf r t) else dueOf r t
theorem dueOf_mem (t : Int) (z : Jb) : ∀ js : List Jb, z ∈ dueOf js t ↔ z ∈ js ∧ z.n ≤ t
 | [] => by simp [dueOf]
 | x :: r => by
  rw [dueOf]
  split
  ·rename_i h
   rw [into_mem, dueOf_mem t z r, List.mem_cons]
   constructor
   ·rintro (rfl | ⟨h1, h2⟩)
    ·exact ⟨Or.inl rfl, h⟩
    ·exact ⟨Or.inr h1, h2⟩
   ·rintro ⟨h1 | h1, h2⟩
    ·exact Or.inl h1
    ·exact Or.inr ⟨h1, h2⟩
  ·rename_i h
   rw [dueOf_mem t z r, List.mem_cons]
   constructor
   ·rintro ⟨h1, h2⟩; exact ⟨Or.inr h1, h2⟩
   ·rintro ⟨rfl | h1, h2⟩
    ·exact absurd h2 h
    ·exact ⟨h1, h2⟩
theorem dueOf_row (t : Int) : ∀ {l : Int} {js : List Jb}, Srt l js → Row (dueOf js t)
 | _, [], _ => trivial
 | l, x :: r, h => by
  rw [dueOf]
  split
  ·exact into_row x (dueOf_row t h.2) (fun y hy => by have := h.2.above y ((dueOf_mem t y r).1 hy).1; omega)
  ·exact dueOf_row t h.2
structure Cl where (p : Int) (d : Int) (e : En) (a : Int) (l : Int) (n : Int) (js : List Jb) (rs : List Rg)
def Cl.zero : Cl := ⟨0, 0, En.zero, 0, 0, 0, [], []⟩
def En.ne (x y : En) : Bool := unlike x.k x.j x.v x.t x.c y.k y.j y.v y.t y.c
theorem ne_self (x : En) : x.ne x = false := by simp [En.ne, unlike]
theorem ne_false {x y : En} : x.ne y = false ↔ x = y := ⟨en_eq, fun h => by rw [h]; exact ne_self y⟩
def Cl.out (c : Cl) : Bool := !(decide (1 ≤ c.p ∧ c.p ≤ 20) && (decide (0 ≤ c.d ∧ c.d ≤ 2) && (decide (0 ≤ c.a ∧ c.a ≤ 59) && (decide (0 ≤ c.l ∧ c.l ≤ 2) && decide (0 ≤ c.n ∧ c.n ≤ 60)))))
def Cl.odd (c : Cl) : Bool := if c.d = 0 then decide (0 < c.a) || (decide (0 < c.l) || c.e.ne En.zero) else if c.d = 1 then decide (0 < c.a) || (decide (0 < c.l) || decide (c.e.k = 0)) else false
def Cl.ck (c : Cl) : Int := if c.out = true then 3 else if c.e.chk ≠ 0 then c.e.chk else if c.odd = true then 4 else ckBook c.js c.rs
theorem Cl.good {c : Cl} (h : c.out = false) : (1 ≤ c.p ∧ c.p ≤ 20) ∧ (0 ≤ c.d ∧ c.d ≤ 2) ∧ (0 ≤ c.a ∧ c.a ≤ 59) ∧ (0 ≤ c.l ∧ c.l ≤ 2) ∧ (0 ≤ c.n ∧ c.n ≤ 60) := by
 simp only [Cl.out, Bool.not_eq_false', Bool.and_eq_true, decide_eq_true_eq] at h
 exact h
theorem Cl.good_of {c : Cl} (h : (1 ≤ c.p ∧ c.p ≤ 20) ∧ (0 ≤ c.d ∧ c.d ≤ 2) ∧ (0 ≤ c.a ∧ c.a ≤ 59) ∧ (0 ≤ c.l ∧ c.l ≤ 2) ∧ (0 ≤ c.n ∧ c.n ≤ 60)) : c.out = false := by
 simp only [Cl.out, Bool.not_eq_false', Bool.and_eq_true, decide_eq_true_eq]
 exact h
theorem Cl.ck_zero {c : Cl} : c.ck = 0 ↔ c.out = false ∧ c.e.chk = 0 ∧ c.odd = false ∧ Ok c.js c.rs := by
 rw [← ckBook_zero, Cl.ck]
 cases c.out with
 | true => simp
 | false =>
  rw [if_neg (by simp)]
  by_cases he : c.e.chk = 0
  ·rw [if_neg (by simpa using he)]
   cases c.odd with
   | true => simp
   | false => simp [he]
  ·rw [if_pos he]
   simp [he]
def wantOf (c : Cl) (x : En) : Cl × Int :=
 if c.ck ≠ 0 then (Cl.zero, c.ck) else if c.d ≠ 0 then (Cl.zero, 7) else if x.chk ≠ 0 then (Cl.zero, x.chk) else if x.k = 0 then (Cl.zero, 4)
 else (⟨c.p, 1, x, c.a, c.l, c.n, c.js, c.rs⟩, 0)
def ringOf (c : Cl) (me j t : Int) : Cl × Int :=
 if c.ck ≠ 0 then (Cl.zero, c.ck) else if c.d ≠ 0 then (Cl.zero, 7) else if t < 0 ∨ 100000 < t then (Cl.zero, 3)
 else match tab c.js j with
  | none => (Cl.zero, 5)
  | some z => if t < z.n then (Cl.zero, 5) else wantOf c ⟨3, j, 0, z.n, me⟩
def placeOf (q : Int) (c : Cl) (a : Int) : Cl × Int :=
 if c.ck ≠ 0 then (Cl.zero, c.ck) else if c.d ≠ q then (Cl.zero, 7) else if ¬ (0 ≤ a ∧ a ≤ 59) then (Cl.zero, 5)
 else (⟨c.p, 2, c.e, a, c.l, c.n, c.js, c.rs⟩, 0)
def hearOf (c : Cl) (x : En) : Cl × Int :=
 if c.ck ≠ 0 then (Cl.zero, c.ck) else if x.chk ≠ 0 then (Cl.zero, x.chk) else if c.d ≠ 2 then (Cl.zero, 7)
 else if c.e.k ≠ 0 ∧ c.e.ne x = true then (⟨c.p, 1, c.e, 0, 0, c.n, c.js, c.rs⟩, 0)
 else if c.l = 2 then (⟨c.p, 0, En.zero, 0, 0, c.n, c.js, c.rs⟩, 0)
 else (⟨c.p, c.d, x, c.a, c.l + 1, c.n, c.js, c.rs⟩, 0)
def playOf (c : Cl) (x : En) : Cl × Int :=
 if c.ck ≠ 0 then (Cl.zero, c.ck) else if c.n = 60 then (Cl.zero, 2) else if (app c.js c.rs x).2 ≠ 0 then (Cl.zero, (app c.js c.rs x).2)
 else (⟨c.p, c.d, c.e, c.a, c.l, c.n + 1, (app c.js c.rs x).1.1, (app c.js c.rs x).1.2⟩, 0)
def learnOf (c : Cl) (p : Int) : Cl × Int :=
 if c.ck ≠ 0 then (Cl.zero, c.ck) else if ¬ (1 ≤ p ∧ p ≤ 20) then (Cl.zero, 3) else if p ≤ c.p then (Cl.zero, 8)
 else (⟨p, c.d, c.e, c.a, c.l, c.n, c.js, c.rs⟩, 0)
theorem rests {c : Cl} (h : c.ck = 0) (hd : c.d = 0) : c = ⟨c.p, 0, En.zero, 0, 0, c.n, c.js, c.rs⟩ := by
 obtain ⟨ho, _, hf, _⟩ := Cl.ck_zero.1 h
 have hg := Cl.good ho
 rw [Cl.odd, if_pos hd] at hf
 simp only [Bool.or_eq_false_iff, decide_eq_false_iff_not] at hf
 have he := ne_false.1 hf.2.2
 obtain ⟨p, d, e, a, l, n, js, rs⟩ := c
 simp only at hd he hf hg
 obtain rfl : a = 0 := by omega
 obtain rfl : l = 0 := by omega
 rw [hd, he]
theorem play_ok {c : Cl} {x : En} (h : (playOf c x).2 = 0) : c.ck = 0 ∧ c.n ≠ 60 ∧ (app c.js c.rs x).2 = 0 ∧ (playOf c x) = (⟨c.p, c.d, c.e, c.a, c.l, c.n + 1, (app c.js c.rs x).1.1, (app c.js c.rs x).1.2⟩, 0) ∧ (playOf c x).1.ck = 0 := by
 unfold playOf at h ⊢
 by_cases h1 : c.ck = 0
 ·rw [if_neg (by simpa using h1)] at h ⊢
  by_cases h2 : c.n = 60
  ·rw [if_pos h2] at h; cases h
  ·rw [if_neg h2] at h ⊢
   by_cases h3 : (app c.js c.rs x).2 = 0
   ·rw [if_neg (by simpa using h3)]
    refine ⟨h1, h2, h3, rfl, ?_⟩
    obtain ⟨ho, he, hf, hb⟩ := Cl.ck_zero.1 h1
    have hg := Cl.good ho
    obtain ⟨_, hx, happ⟩ := app_ok h3
    refine Cl.ck_zero.2 ⟨Cl.good_of ⟨hg.1, hg.2.1, hg.2.2.1, hg.2.2.2.1, ?_⟩, he, hf, ?_⟩
    ·show 0 ≤ c.n + 1 ∧ c.n + 1 ≤ 60; omega
    ·show Ok (app c.js c.rs x).1.1 (app c.js c.rs x).1.2
     rw [happ]; exact step_ok hb hx
   ·rw [if_pos h3] at h; exact absurd h h3
 ·rw [if_pos h1] at h; exact absurd h h1
theorem fill_ok {c : Cl} (h : c.ck = 0) {a : Int} (ha : 0 ≤ a ∧ a ≤ 59) : ((placeOf 0 c a).2 = 0 ↔ c.d = 0) ∧ (c.d = 0 → placeOf 0 c a = (⟨c.p, 2, En.zero, a, 0, c.n, c.js, c.rs⟩, 0) ∧ (placeOf 0 c a).1.ck = 0) := by
 have hk : c.d = 0 → placeOf 0 c a = (⟨c.p, 2, En.zero, a, 0, c.n, c.js, c.rs⟩, 0) ∧ (placeOf 0 c a).1.ck = 0 := fun hd => by
  have e : placeOf 0 c a = (⟨c.p, 2, En.zero, a, 0, c.n, c.js, c.rs⟩, 0) := by
   rw [placeOf, if_neg (by simpa using h), if_neg (by simpa using hd), if_neg (by simpa using ha)]
   have := rests h hd
   rw [this]
  refine ⟨e, ?_⟩
  rw [e]
  obtain ⟨ho, _, _, hb⟩ := Cl.ck_zero.1 h
  have hg := Cl.good ho
  exact Cl.ck_zero.2 ⟨Cl.good_of ⟨hg.1, (show (0 : Int) ≤ 2 ∧ (2 : Int) ≤ 2 by decide), ha, (show (0 : Int) ≤ 0 ∧ (0 : Int) ≤ 2 by decide), hg.2.2.2.2⟩, (show En.zero.chk = 0 by decide), rfl, hb⟩
 refine ⟨⟨fun h2 => ?_, fun hd => by rw [(hk hd).1]⟩, hk⟩
 by_cases hd : c.d = 0
 ·exact hd
 ·rw [placeOf, if_neg (by simpa using h), if_pos hd] at h2
  cases h2
theorem ring_ok {c : Cl} {me j t : Int} (h : (ringOf c me j t).2 = 0) : c.ck = 0 ∧ c.d = 0 ∧ (0 ≤ t ∧ t ≤ 100000) ∧ (0 ≤ me ∧ me ≤ 2) ∧ ∃ z, tab c.js j = some z ∧ z.n ≤ t ∧ (⟨3, j, 0, z.n, me⟩ : En).chk = 0 ∧ ringOf c me j t = (⟨c.p, 1, ⟨3, j, 0, z.n, me⟩, 0, 0, c.n, c.js, c.rs⟩, 0) := by
 unfold ringOf at h ⊢
 by_cases h1 : c.ck = 0
 ·rw [if_neg (by simpa using h1)] at h ⊢
  by_cases h2 : c.d = 0
  ·rw [if_neg (by simpa using h2)] at h ⊢
   by_cases h3 : t < 0 ∨ 100000 < t
   ·rw [if_pos h3] at h; cases h
   ·rw [if_neg h3] at h ⊢
    cases hz : tab c.js j with
    | none => rw [hz] at h; cases h
    | some z =>
     rw [hz] at h
     by_cases h4 : t < z.n
     ·simp only [if_pos h4] at h; cases h
     ·simp only [if_neg h4] at h ⊢
      rw [wantOf, if_neg (by simpa using h1), if_neg (by simpa using h2)] at h ⊢
      by_cases h5 : (⟨3, j, 0, z.n, me⟩ : En).chk = 0
      ·rw [if_neg (by simpa using h5), if_neg (show ¬ (3 : Int) = 0 by decide)]
       have hr := En.right h5
       refine ⟨h1, h2, by omega, hr.2.2.2.2.1, z, rfl, by omega, h5, ?_⟩
       have := rests h1 h2
       rw [this]
      ·rw [if_pos h5] at h; exact absurd h h5
  ·rw [if_pos h2] at h; cases h
 ·rw [if_pos h1] at h; exact absurd h h1
abbrev boxC (c : Cl) (v1 v2 : Value) : Obj := .cells #[.int .i64 c.p, .int .i64 c.d, .int .i64 c.e.k, .int .i64 c.e.j, .int .i64 c.e.v, .int .i64 c.e.t, .int .i64 c.e.c, .int .i64 c.a, .int .i64 c.l, .int .i64 c.n, v1, v2] 41
abbrev Cl.val (c : Cl) (v1 v2 : Value) : Value := .agg #[.int .i64 c.p, .int .i64 c.d, .int .i64 c.e.k, .int .i64 c.e.j, .int .i64 c.e.v, .int .i64 c.e.t, .int .i64 c.e.c, .int .i64 c.a, .int .i64 c.l, .int .i64 c.n, v1, v2]
abbrev BkAt (w : World) (v1 v2 : Value) (c : Cl) : Prop := JobSl w v1 c.js ∧ RungSl w v2 c.rs
theorem bkAt_later {w w' : World} {v1 v2 : Value} {c : Cl} (h : BkAt w v1 v2 c) (hb : Below w.heap.size w w') : BkAt w' v1 v2 c := ⟨h.1.later hb, h.2.later hb⟩
abbrev AnsX (f : FuncId) (args : Array Value) (w : World) (r : Cl × Int) (u1 u2 : Value) : Prop :=
 Calls Tryz.prog f args w fun e w' => e = .returned (.tuple #[r.1.val u1 u2, .int .i64 r.2]) ∧ Below w.heap.size w w'
section
open scoped Classical
noncomputable def sameC (c x : Cl) : Bool := (c.p == x.p) && ((c.d == x.d) && (!(c.e.ne x.e) && ((c.a == x.a) && ((c.l == x.l) && ((c.n == x.n) && (decide (c.js = x.js) && decide (c.rs = x.rs)))))))
theorem sameC_self (c : Cl) : sameC c c = true := by simp [sameC, ne_self]
theorem sameC_eq {c x : Cl} (h : sameC c x = true) : c = x := by
 simp only [sameC, Bool.and_eq_true, beq_iff_eq, Bool.not_eq_true', decide_eq_true_eq] at h
 obtain ⟨h1, h2, h3, h4, h5, h6, h7, h8⟩ := h
 obtain ⟨p, d, e, a, l, n, js, rs⟩ := c
 obtain ⟨p', d', e', a', l', n', js', rs'⟩ := x
 simp only at *
 rw [h1, h2, ne_false.1 h3, h4, h5, h6, h7, h8]
theorem ret_client {fn : Func} {R : Ending → World → Prop} {a : Act} {W : World} {b p q : Nat} {c : Cl} {v1 v2 y : Value} (hf : fn.results = #[.cell p 41, .tmp q]) (hd : a.defers = [])
  (h2 : a.tmps.getD p undef = .pointer (some ⟨b, 0, none⟩)) (h3 : a.tmps.getD q undef = y) (hR : W.heap[b]? = some (boxC c v1 v2)) (hp : R (.returned (.tuple #[c.val v1 v2, y])) W) :
  bodyPost Tryz.prog fn R .ret a W := by
 have c0 := fun i => Joins.cell_of_block hR i
 refine bodyPost_ret (v := .tuple #[c.val v1 v2, y]) ?_ hd hp
 rw [results_cell_tmp hf, h2, h3]
 simp [go_sem, c0]
def st12 (W : World) (b : Nat) (c : Cl) (v1 v2 : Value) : World :=
 (((((((((((W.setCell ⟨b, 0, none⟩ (.int .i64 c.p)).setCell ⟨b, 1, none⟩ (.int .i64 c.d)).setCell ⟨b, 2, none⟩ (.int .i64 c.e.k)).setCell ⟨b, 3, none⟩ (.int .i64 c.e.j)).setCell ⟨b, 4, none⟩ (.int .i64 c.e.v)).setCell ⟨b, 5, none⟩ (.int .i64 c.e.t)).setCell ⟨b, 6, none⟩ (.int .i64 c.e.c)).setCell ⟨b, 7, none⟩ (.int .i64 c.a)).setCell ⟨b, 8, none⟩ (.int .i64 c.l)).setCell ⟨b, 9, none⟩ (.int .i64 c.n)).setCell ⟨b, 10, none⟩ v1).setCell ⟨b, 11, none⟩ v2
theorem st12_box {W : World} {b : Nat} {q : Cl} {u1 u2 : Value} (h : W.heap[b]? = some (boxC q u1 u2)) (c : Cl) (v1 v2 : Value) : (st12 W b c v1 v2).heap[b]? = some (boxC c v1 v2) := by
 have g0 := Joins.block_setCell h (i := 0) (.int .i64 c.p)
 have g1 := Joins.block_setCell g0 (i := 1) (.int .i64 c.d)
 have g2 := Joins.block_setCell g1 (i := 2) (.int .i64 c.e.k)
 have g3 := Joins.block_setCell g2 (i := 3) (.int .i64 c.e.j)
 have g4 := Joins.block_setCell g3 (i := 4) (.int .i64 c.e.v)
 have g5 := Joins.block_setCell g4 (i := 5) (.int .i64 c.e.t)
 have g6 := Joins.block_setCell g5 (i := 6) (.int .i64 c.e.c)
 have g7 := Joins.block_setCell g6 (i := 7) (.int .i64 c.a)
 have g8 := Joins.block_setCell g7 (i := 8) (.int .i64 c.l)
 have g9 := Joins.block_setCell g8 (i := 9) (.int .i64 c.n)
 have g10 := Joins.block_setCell g9 (i := 10) (v1)
 have g11 := Joins.block_setCell g10 (i := 11) (v2)
 simp only [List.setIfInBounds_toArray, List.set_cons_zero, List.set_cons_succ] at g11
 exact g11
theorem st12_below {B : Nat} {a W : World} {b : Nat} (h : Below B a W) (hb : B ≤ b) (c : Cl) (v1 v2 : Value) : Below B a (st12 W b c v1 v2) :=
 ((((((((((((h).setCell (p := ⟨b, 0, none⟩) hb _).setCell (p := ⟨b, 1, none⟩) hb _).setCell (p := ⟨b, 2, none⟩) hb _).setCell (p := ⟨b, 3, none⟩) hb _).setCell (p := ⟨b, 4, none⟩) hb _).setCell (p := ⟨b, 5, none⟩) hb _).setCell (p := ⟨b, 6, none⟩) hb _).setCell (p := ⟨b, 7, none⟩) hb _).setCell (p := ⟨b, 8, none⟩) hb _).setCell (p := ⟨b, 9, none⟩) hb _).setCell (p := ⟨b, 10, none⟩) hb _).setCell (p := ⟨b, 11, none⟩) hb _
theorem ret_st {fn : Func} {R : Ending → World → Prop} {a : Act} {W : World} {p q : Nat} {y : Value} (W0 : World) (b : Nat) (c : Cl) (v1 v2 : Value) {o : Cl} {u1 u2 : Value} (hf : fn.results = #[.cell p 41, .tmp q]) (hd : a.defers = [])
  (h2 : a.tmps.getD p undef = .pointer (some ⟨b, 0, none⟩)) (h3 : a.tmps.getD q undef = y) (hR : W0.heap[b]? = some (boxC o u1 u2)) (hW : W = st12 W0 b c v1 v2) (hp : R (.returned (.tuple #[c.val v1 v2, y])) (st12 W0 b c v1 v2)) :
  bodyPost Tryz.prog fn R .ret a W := by
 rw [hW]
 exact ret_client hf hd h2 h3 (st12_box hR c v1 v2) hp
end
section
open Go.ChangeShapes
open Go.WideShapes
open Go.ChangeAt
set_option maxRecDepth 100000
theorem cellsCl : Tryz.prog.cellsOf 41 = 12 := by kernel_rfl
section
variable {H : Type} {enc : TypeId × Value → H} {w : World} {base : Nat} {spare : Nat → Bool} {held : Bool}
theorem trodBk {fuel : Nat} {c0 c1 : Value} {x : DataW H × List MemPlace} (hf : DataW.trod enc Tryz.prog w base spare held fuel 39 [c0, c1] = some x) :
  ∃ (js : List Jb) (rs : List Rg), JobSl w c0 js ∧ RungSl w c1 rs ∧ js.length ≤ maxLen ∧ rs.length ≤ maxLen := by
 obtain ⟨xs, n, _, hx, _, hlen, hel⟩ := DataW.trod_struct Tryz.underlying39 hf
 match xs, hlen with
 | [y0, y1], _ =>
  have k0 : DataW.trod enc Tryz.prog w base spare held n 36 (List.take (Tryz.prog.cellsOf 36) (List.drop 0 [c0, c1])) = some y0 := hel 0 _ rfl
  have k1 : DataW.trod enc Tryz.prog w base spare held n 37 (List.take (Tryz.prog.cellsOf 37) (List.drop 1 [c0, c1])) = some y1 := hel 1 _ rfl
  rw [cellsLJ] at k0
  rw [cellsLR] at k1
  have k0' : DataW.trod enc Tryz.prog w base spare held n 36 [c0] = some y0 := k0
  have k1' : DataW.trod enc Tryz.prog w base spare held n 37 [c1] = some y1 := k1
  obtain ⟨a1, l1, q1, rfl⟩ := one_slice Tryz.underlying36 k0'
  obtain ⟨a2, l2, q2, rfl⟩ := one_slice Tryz.underlying37 k1'
  obtain ⟨js, hj, hjl⟩ := openJ k0'
  obtain ⟨rs, hr, hrl⟩ := openR k1'
  exact ⟨js, rs, hj, hr, hjl, hrl⟩
end
end
section
open scoped Classical
def Within (u a : List En) : Prop := ∀ (k : Nat) (c : En), u[k]? = some c → c.isB = true ∨ a[k]? = some c
noncomputable def ck3 (u0 u1 u2 : Un) : Int := if u0.ck ≠ 0 then u0.ck else if u1.ck ≠ 0 then u1.ck else if u2.ck ≠ 0 then u2.ck else if ¬ Within u1.cells u0.cells then 4 else if ¬ Within u2.cells u1.cells then 4 else 0
noncomputable def ckChain : List Un → Int
 | [u0, u1, u2] => ck3 u0 u1 u2
 | _ => 4
theorem ckChain_zero {us : List Un} : ckChain us = 0 ↔ ∃ u0 u1 u2, us = [u0, u1, u2] ∧ u0.ck = 0 ∧ u1.ck = 0 ∧ u2.ck = 0 ∧ Within u1.cells u0.cells ∧ Within u2.cells u1.cells := by
 constructor
 ·intro h
  match us, h with
  | [u0, u1, u2], h =>
   change ck3 u0 u1 u2 = 0 at h
   unfold ck3 at h
   by_cases h0 : u0.ck = 0
   ·rw [if_neg (by simpa using h0)] at h
    by_cases h1 : u1.ck = 0
    ·rw [if_neg (by simpa using h1)] at h
     by_cases h2 : u2.ck = 0
     ·rw [if_neg (by simpa using h2)] at h
      by_cases g1 : Within u1.cells u0.cells
      ·rw [if_neg (by simpa using g1)] at h
       by_cases g2 : Within u2.cells u1.cells
       ·exact ⟨u0, u1, u2, rfl, h0, h1, h2, g1, g2⟩
       ·rw [if_pos g2] at h; cases h
      ·rw [if_pos g1] at h; cases h
     ·rw [if_pos h2] at h; exact absurd h h2
    ·rw [if_pos h1] at h; exact absurd h h1
   ·rw [if_pos h0] at h; exact absurd h h0
 ·rintro ⟨u0, u1, u2, rfl, h0, h1, h2, g1, g2⟩
  show ck3 u0 u1 u2 = 0
  unfold ck3
  rw [if_neg (by simpa using h0), if_neg (by simpa using h1), if_neg (by simpa using h2), if_neg (by simpa using g1), if_neg (by simpa using g2)]
theorem ckChain_len {us : List Un} (h : ckChain us = 0) : us.length = 3 := by
 obtain ⟨u0, u1, u2, rfl, _⟩ := ckChain_zero.1 h
 rfl
def plc (us : List Un) (k a : Nat) : En := (us.getD k Un.zero).cells.getD a blankE
noncomputable def linkOf (us : List Un) (k a : Int) (x : En) (ep : Int) : Rc × En × Int :=
 if ckChain us ≠ 0 then (Rc.zero, En.zero, ckChain us)
 else if ¬ (0 ≤ k ∧ k ≤ 2) ∨ ¬ (0 ≤ a ∧ a ≤ 59) then (Rc.zero, En.zero, 5)
 else if x.chk ≠ 0 then (Rc.zero, En.zero, x.chk)
 else if (us.getD k.toNat Un.zero).p ≠ ep then (Rc.zero, En.zero, 8)
 else if 1 ≤ k ∧ ¬ x = plc us (k.toNat - 1) a.toNat then (Rc.zero, En.zero, 7)
 else if (plc us k.toNat a.toNat).isB = false then (Rc.zero, plc us k.toNat a.toNat, 0)
 else (⟨1, a, 0, x⟩, x, 0)
noncomputable def readOf (us : List Un) (a : Int) : En × Int :=
 if ckChain us ≠ 0 then (En.zero, ckChain us)
 else if ¬ (0 ≤ a ∧ a ≤ 59) then (En.zero, 5)
 else if (plc us 2 a.toNat).isB = true then (En.zero, 7)
 else (plc us 2 a.toNat, 0)
theorem linkOf_ok {us : List Un} {k a : Int} {x : En} {ep : Int} (h : (linkOf us k a x ep).2.2 = 0) :
  ckChain us = 0 ∧ (0 ≤ k ∧ k ≤ 2) ∧ (0 ≤ a ∧ a ≤ 59) ∧ x.chk = 0 ∧ (us.getD k.toNat Un.zero).p = ep ∧ (1 ≤ k → x = plc us (k.toNat - 1) a.toNat) ∧
  (((plc us k.toNat a.toNat).isB = false ∧ linkOf us k a x ep = (Rc.zero, plc us k.toNat a.toNat, 0)) ∨ ((plc us k.toNat a.toNat).isB = true ∧ linkOf us k a x ep = (⟨1, a, 0, x⟩, x, 0))) := by
 unfold linkOf at h ⊢
 by_cases h1 : ckChain us = 0
 ·rw [if_neg (by simpa using h1)] at h ⊢
  by_cases h2 : ¬ (0 ≤ k ∧ k ≤ 2) ∨ ¬ (0 ≤ a ∧ a ≤ 59)
  ·rw [if_pos h2] at h; cases h
  ·rw [if_neg h2] at h ⊢
   by_cases h3 : x.chk = 0
   ·rw [if_neg (by simpa using h3)] at h ⊢
    by_cases h4 : (us.getD k.toNat Un.zero).p = ep
    ·rw [if_neg (by simpa using h4)] at h ⊢
     by_cases h5 : 1 ≤ k ∧ ¬ x = plc us (k.toNat - 1) a.toNat
     ·rw [if_pos h5] at h; cases h
     ·rw [if_neg h5] at h ⊢
      refine ⟨h1, by omega, by omega, h3, h4, fun hk => Classical.byContradiction fun hn => h5 ⟨hk, hn⟩, ?_⟩
      cases hb : (plc us k.toNat a.toNat).isB with
      | false => exact Or.inl ⟨rfl, by rw [if_pos rfl]⟩
      | true => exact Or.inr ⟨rfl, by rw [if_neg (by simp)]⟩
    ·rw [if_pos h4] at h; cases h
   ·rw [if_pos h3] at h; exact absurd h h3
 ·rw [if_pos h1] at h; exact absurd h h1
theorem plc_some {us : List Un} {k a : Nat} {u : Un} (hk : us[k]? = some u) (hu : u.ck = 0) (ha : a < 60) : u.cells[a]? = some (plc us k a) := by
 have hl : u.cells.length = 60 := (Un.ck_zero.1 hu).2.1
 have e : us.getD k Un.zero = u := by rw [List.getD_eq_getElem?_getD, hk]; rfl
 unfold plc
 rw [e, List.getD_eq_getElem?_getD, List.getElem?_eq_getElem (by omega)]
 rfl
theorem within_at {u a : List En} (h : Within u a) {k : Nat} {c : En} (hc : u[k]? = some c) (hb : c.isB = false) : a[k]? = some c :=
 (h k c hc).resolve_left (by rw [hb]; simp)
theorem within_set {u a : List En} (h : Within u a) {k : Nat} {x : En} (hx : a[k]? = some x) : Within (u.set k x) a := fun j c hc => by
 by_cases hj : k = j
 ·subst hj
  have hl := (List.getElem?_eq_some_iff.1 hc).1
  rw [List.length_set] at hl
  rw [List.getElem?_set_self hl] at hc
  rw [← Option.some.inj hc]
  exact Or.inr hx
 ·rw [List.getElem?_set_ne hj] at hc
  exact h j c hc
theorem cell_chk {u : Un} (hu : u.ck = 0) {k : Nat} {c : En} (hc : u.cells[k]? = some c) (hb : c.isB = false) : c.chk = 0 :=
 (ckCells_zero.1 (Un.ck_zero.1 hu).2.2 c (List.mem_of_getElem? hc)).resolve_left (by rw [hb]; simp)
theorem chk_notB {x : En} (h : x.chk = 0) : x.isB = false := by
 cases hb : x.isB with
 | false => rfl
 | true => rw [En.isB_eq.1 hb, blank_chk] at h; cases h
theorem unext_write {u : Un} (hu : u.ck = 0) {a : Nat} (ha : a < 60) {x : En} (hx : x.chk = 0) (hb : u.cells[a]? = some blankE) : unext u ⟨1, (a : Int), 0, x⟩ = (⟨u.p, u.cells.set a x⟩, 0) := by
 have hr : Rc.chk ⟨1, (a : Int), 0, x⟩ = 0 := by
  unfold Rc.chk
  rw [if_neg (by simp), if_neg (by simp), if_neg (by simp; omega), if_neg (by simp)]
  exact hx
 rw [unext, if_neg (by simpa using hu), if_neg (by simpa using hr), uwrite, if_neg (by simp)]
 show (if (u.cells.getD ((a : Int).toNat) blankE).isB = false then (Un.zero, (6 : Int)) else (⟨u.p, u.cells.set ((a : Int).toNat) x⟩, 0)) = _
 rw [Int.toNat_natCast, List.getD_eq_getElem?_getD, hb]
 show (if blankE.isB = false then (Un.zero, (6 : Int)) else (⟨u.p, u.cells.set a x⟩, 0)) = _
 rw [if_neg (by simp [blank_isB])]
end
end Go.Proofs.YtmoaobfmopimlafGreatDoor
