/- What is due of a book: the list, the count, the next time; what ringing the eldest makes of them. The eldest job is the next one; what ringing it makes of the book. -/
import Derived.Test.YtbokdcdnandgbaeBookK
namespace Go.Proofs.Ytbokdcdnandgbae
open Go.RowKit

/-- Is a job rung ahead of another one? -/
def Jb.ahead (x y : Jb) : Prop := x.n < y.n ∨ (x.n = y.n ∧ x.i < y.i)

/-- In the order of ringing. -/
def Row : List Jb → Prop
  | [] => True
  | x :: r => (∀ y, y ∈ r → x.ahead y) ∧ Row r

theorem row_ext : ∀ {a b : List Jb}, Row a → Row b → (∀ x, x ∈ a ↔ x ∈ b) → a = b
  | [], [], _, _, _ => rfl
  | [], y :: s, _, _, h => absurd ((h y).2 (by simp)) (by simp)
  | x :: r, [], _, _, h => absurd ((h x).1 (by simp)) (by simp)
  | x :: r, y :: s, ha, hb, h => by
    have hxy : x = y := by
      rcases List.mem_cons.1 ((h x).1 (by simp)) with e | hx
      · exact e
      · rcases List.mem_cons.1 ((h y).2 (by simp)) with e | hy
        · exact e.symm
        · have h1 := hb.1 x hx
          have h2 := ha.1 y hy
          unfold Jb.ahead at h1 h2
          omega
    subst hxy
    have irr : ∀ z : Jb, ¬ z.ahead z := fun z hz => by unfold Jb.ahead at hz; omega
    congr 1
    refine row_ext ha.2 hb.2 fun z => ?_
    constructor
    · intro hz
      rcases List.mem_cons.1 ((h z).1 (List.mem_cons_of_mem _ hz)) with rfl | h'
      · exact absurd (ha.1 z hz) (irr z)
      · exact h'
    · intro hz
      rcases List.mem_cons.1 ((h z).2 (List.mem_cons_of_mem _ hz)) with rfl | h'
      · exact absurd (hb.1 z hz) (irr z)
      · exact h'

/-- A job put among jobs in the order of ringing. -/
def into (x : Jb) : List Jb → List Jb
  | [] => [x]
  | y :: r => if x.n < y.n ∨ (x.n = y.n ∧ x.i < y.i) then x :: y :: r else y :: into x r

theorem into_mem (x z : Jb) : ∀ l : List Jb, z ∈ into x l ↔ z = x ∨ z ∈ l
  | [] => by simp [into]
  | y :: r => by
    rw [into]
    split
    · simp
    · rw [List.mem_cons, into_mem x z r, List.mem_cons]
      constructor
      · rintro (h | h | h)
        · exact Or.inr (Or.inl h)
        · exact Or.inl h
        · exact Or.inr (Or.inr h)
      · rintro (h | h | h)
        · exact Or.inr (Or.inl h)
        · exact Or.inl h
        · exact Or.inr (Or.inr h)

theorem into_row (x : Jb) : ∀ {l : List Jb}, Row l → (∀ y, y ∈ l → y.i ≠ x.i) → Row (into x l)
  | [], _, _ => ⟨fun _ h => absurd h (by simp), trivial⟩
  | y :: r, h, hd => by
    rw [into]
    split
    · rename_i hxy
      refine ⟨fun z hz => ?_, h⟩
      rcases List.mem_cons.1 hz with rfl | hz
      · exact hxy
      · have := h.1 z hz
        unfold Jb.ahead at this ⊢
        omega
    · rename_i hxy
      refine ⟨fun z hz => ?_, into_row x h.2 (fun z hz => hd z (List.mem_cons_of_mem _ hz))⟩
      rcases (into_mem x z r).1 hz with rfl | hz
      · have := hd y (by simp)
        unfold Jb.ahead
        omega
      · exact h.1 z hz

/-- What is due: in the order of ringing. -/
def dueOf : List Jb → Int → List Jb
  | [], _ => []
  | x :: r, t => if x.n ≤ t then into x (dueOf r t) else dueOf r t

theorem dueOf_mem (t : Int) (z : Jb) : ∀ js : List Jb, z ∈ dueOf js t ↔ z ∈ js ∧ z.n ≤ t
  | [] => by simp [dueOf]
  | x :: r => by
    rw [dueOf]
    split
    · rename_i h
      rw [into_mem, dueOf_mem t z r, List.mem_cons]
      constructor
      · rintro (rfl | ⟨h1, h2⟩)
        · exact ⟨Or.inl rfl, h⟩
        · exact ⟨Or.inr h1, h2⟩
      · rintro ⟨h1 | h1, h2⟩
        · exact Or.inl h1
        · exact Or.inr ⟨h1, h2⟩
    · rename_i h
      rw [dueOf_mem t z r, List.mem_cons]
      constructor
      · rintro ⟨h1, h2⟩; exact ⟨Or.inr h1, h2⟩
      · rintro ⟨rfl | h1, h2⟩
        · exact absurd h2 h
        · exact ⟨h1, h2⟩

theorem dueOf_row (t : Int) : ∀ {l : Int} {js : List Jb}, Srt l js → Row (dueOf js t)
  | _, [], _ => trivial
  | l, x :: r, h => by
    rw [dueOf]
    split
    · exact into_row x (dueOf_row t h.2) (fun y hy => by have := h.2.above y ((dueOf_mem t y r).1 hy).1; omega)
    · exact dueOf_row t h.2

/-- How often a job is due up to a time. -/
def cnt1 (x : Jb) (t : Int) : Int := if t < x.n then 0 else (t - x.n) / x.e + 1
def countOf : List Jb → Int → Int
  | [], _ => 0
  | x :: r, t => cnt1 x t + countOf r t

/-- The least Next; -1: there is none. -/
def whenOf : List Jb → Int
  | [] => -1
  | x :: r => if whenOf r = -1 ∨ x.n < whenOf r then x.n else whenOf r

theorem cnt1_none {x : Jb} {t : Int} (h : t < x.n) : cnt1 x t = 0 := by rw [cnt1, if_pos h]
theorem cnt1_next {x : Jb} {t : Int} (he : 1 ≤ x.e) (h : x.n ≤ t) : cnt1 x t = cnt1 ⟨x.i, x.e, x.n + x.e⟩ t + 1 := by
  rw [cnt1, if_neg (by omega), cnt1]
  show (t - x.n) / x.e + 1 = (if t < x.n + x.e then 0 else (t - (x.n + x.e)) / x.e + 1) + 1
  split
  · rename_i h2
    rw [Int.ediv_eq_zero_of_lt (by omega) (by omega)]
  · have : t - (x.n + x.e) = (t - x.n) - x.e := by omega
    rw [this, Int.sub_ediv_of_dvd _ (Int.dvd_refl _), Int.ediv_self (by omega)]
    omega
theorem cnt1_nonneg {x : Jb} {t : Int} (he : 1 ≤ x.e) : 0 ≤ cnt1 x t := by
  rw [cnt1]; split
  · exact Int.le_refl _
  · have := Int.ediv_nonneg (a := t - x.n) (b := x.e) (by omega) (by omega); omega
theorem cnt1_pos {x : Jb} {t : Int} (he : 1 ≤ x.e) (h : x.n ≤ t) : 1 ≤ cnt1 x t := by
  rw [cnt1, if_neg (by omega)]
  have := Int.ediv_nonneg (a := t - x.n) (b := x.e) (by omega) (by omega); omega

theorem countOf_append (t : Int) : ∀ a b : List Jb, countOf (a ++ b) t = countOf a t + countOf b t
  | [], b => by simp [countOf]
  | x :: r, b => by rw [List.cons_append, countOf, countOf, countOf_append t r b]; omega

/-- The jobs ahead, the job, the jobs behind. -/
theorem split_at {l : Int} : ∀ {js : List Jb} (_ : Srt l js) (z : Jb), z ∈ js → js = js.filter (fun x => decide (x.i < z.i)) ++ [z] ++ js.filter (fun x => decide (z.i < x.i)) := fun {js} hs z hz => by
  have hl : l < z.i := hs.above z hz
  have := alt_same hs hl
  rw [tab_mem hs z hz] at this
  exact this.symm

/-- One job rung: it is due once less. -/
theorem countOf_ring {js : List Jb} {rs : List Rg} (hok : Ok js rs) {z : Jb} (hz : z ∈ js) {t : Int} (ht : z.n ≤ t) : countOf js t = countOf (alt js z.i (some ⟨z.i, z.e, z.n + z.e⟩)) t + 1 := by
  have he := (Jb.good (hok.jobs z hz)).2.1.1
  have h1 := split_at hok.srt z hz
  have h2 : countOf js t = countOf (js.filter (fun x => decide (x.i < z.i)) ++ [z] ++ js.filter (fun x => decide (z.i < x.i))) t := by rw [← h1]
  rw [h2, alt]
  simp only [countOf_append, countOf, Option.toList_some]
  have := cnt1_next he ht
  omega

theorem countOf_nonneg : ∀ {js : List Jb} (t : Int), (∀ x, x ∈ js → 1 ≤ x.e) → 0 ≤ countOf js t
  | [], _, _ => Int.le_refl _
  | x :: r, t, h => by
    rw [countOf]
    have := cnt1_nonneg (t := t) (h x (by simp))
    have := countOf_nonneg (js := r) t (fun y hy => h y (List.mem_cons_of_mem _ hy))
    omega

theorem countOf_zero : ∀ {js : List Jb} (t : Int), (∀ x, x ∈ js → 1 ≤ x.e) → (countOf js t = 0 ↔ dueOf js t = [])
  | [], _, _ => by simp [countOf, dueOf]
  | x :: r, t, h => by
    have hx := h x (by simp)
    have hr := fun y hy => h y (List.mem_cons_of_mem _ hy)
    have ih := countOf_zero (js := r) t hr
    have h0 := countOf_nonneg (js := r) t hr
    rw [countOf, dueOf]
    by_cases hn : x.n ≤ t
    · rw [if_pos hn]
      have := cnt1_pos hx hn
      constructor
      · intro h; omega
      · intro h
        have : x ∈ into x (dueOf r t) := (into_mem x x _).2 (Or.inl rfl)
        rw [h] at this; cases this
    · rw [if_neg hn, cnt1_none (by omega), ← ih]
      omega

theorem countOf_len : ∀ {js : List Jb} (t : Int), (∀ x, x ∈ js → 1 ≤ x.e) → ((dueOf js t).length : Int) ≤ countOf js t
  | [], _, _ => by simp [countOf, dueOf]
  | x :: r, t, h => by
    have hx := h x (by simp)
    have ih := countOf_len (js := r) t (fun y hy => h y (List.mem_cons_of_mem _ hy))
    have hl : ∀ l : List Jb, (into x l).length = l.length + 1 := fun l => by
      induction l with
      | nil => rfl
      | cons y s ihs => rw [into]; split <;> simp [ihs]
    rw [countOf, dueOf]
    by_cases hn : x.n ≤ t
    · rw [if_pos hn, hl]
      have := cnt1_pos hx hn
      omega
    · rw [if_neg hn, cnt1_none (by omega)]
      omega

end Go.Proofs.Ytbokdcdnandgbae
namespace Go.Proofs.Ytbokdcdnandgbae
open Go.RowKit

theorem whenOf_ways : ∀ (js : List Jb), (∀ x, x ∈ js → 0 ≤ x.n) → (js = [] ∧ whenOf js = -1) ∨ (∃ z, z ∈ js ∧ whenOf js = z.n ∧ ∀ x, x ∈ js → z.n ≤ x.n)
  | [], _ => Or.inl ⟨rfl, rfl⟩
  | x :: r, h => by
    right
    have hx := h x (by simp)
    rw [whenOf]
    rcases whenOf_ways r (fun y hy => h y (List.mem_cons_of_mem _ hy)) with ⟨e, hw⟩ | ⟨z, hz, hw, hall⟩
    · rw [if_pos (Or.inl hw)]
      refine ⟨x, by simp, rfl, fun y hy => ?_⟩
      rw [e] at hy
      rcases List.mem_cons.1 hy with rfl | hy
      · exact Int.le_refl _
      · cases hy
    · have hz0 := h z (List.mem_cons_of_mem _ hz)
      by_cases hc : x.n < z.n
      · rw [if_pos (Or.inr (by omega))]
        refine ⟨x, by simp, rfl, fun y hy => ?_⟩
        rcases List.mem_cons.1 hy with rfl | hy
        · exact Int.le_refl _
        · have := hall y hy; omega
      · rw [if_neg (by omega)]
        refine ⟨z, List.mem_cons_of_mem _ hz, hw, fun y hy => ?_⟩
        rcases List.mem_cons.1 hy with rfl | hy
        · omega
        · exact hall y hy

/-- The first that is due is due next. -/
theorem due_head {js : List Jb} {rs : List Rg} (hok : Ok js rs) {t : Int} {z : Jb} {r : List Jb} (h : dueOf js t = z :: r) : z ∈ js ∧ z.n ≤ t ∧ whenOf js = z.n ∧ ∀ x, x ∈ js → z.n ≤ x.n := by
  have hz : z ∈ dueOf js t := by rw [h]; simp
  have hm := (dueOf_mem t z js).1 hz
  have hrow := dueOf_row t hok.srt
  rw [h] at hrow
  have hmin : ∀ x, x ∈ js → z.n ≤ x.n := fun x hx => by
    by_cases hxt : x.n ≤ t
    · have hxd : x ∈ dueOf js t := (dueOf_mem t x js).2 ⟨hx, hxt⟩
      rw [h] at hxd
      rcases List.mem_cons.1 hxd with rfl | hxd
      · exact Int.le_refl _
      · have := hrow.1 x hxd
        unfold Jb.ahead at this
        omega
    · have := hm.2; omega
  refine ⟨hm.1, hm.2, ?_, hmin⟩
  rcases whenOf_ways js (fun x hx => (Jb.good (hok.jobs x hx)).2.2.1) with ⟨e, _⟩ | ⟨y, hy, hw, hall⟩
  · rw [e] at hm; cases hm.1
  · have h1 := hall z hm.1
    have h2 := hmin y hy
    omega

/-- A job that is rung at its time. -/
theorem app_ring {js : List Jb} {rs : List Rg} (hok : Ok js rs) {z : Jb} (hz : z ∈ js) (hn : z.n ≤ 100000) (hr : rs.length < 60) (c : Int) (c0 : 0 ≤ c) (c2 : c ≤ 2) :
    app js rs ⟨3, z.i, 0, z.n, c⟩ = ((alt js z.i (some ⟨z.i, z.e, z.n + z.e⟩), rs ++ [⟨z.i, z.n, c⟩]), 0) := by
  have hg := Jb.good (hok.jobs z hz)
  have hx : (⟨3, z.i, 0, z.n, c⟩ : En).chk = 0 := by
    have hr' : inR z.i 0 z.n c = true := decide_eq_true (by omega)
    have hl : lost 3 z.i 0 z.n c = false := by
      simp [lost, unlike, bJob, bEvery, bTime, bClient, num0, num1, num2]
    show chk 3 z.i 0 z.n c = 0
    unfold chk
    rw [if_neg (by omega), hr', if_neg (by simp), hl, if_neg (by simp), if_neg (by omega)]
  rw [app_step hok hx]
  have ht := tab_mem hok.srt z hz
  have : step js rs ⟨3, z.i, 0, z.n, c⟩ = (alt js z.i (some ⟨z.i, z.e, z.n + z.e⟩), rs ++ [⟨z.i, z.n, c⟩]) := by
    rcases step_ways (js := js) (rs := rs) hx with ⟨_, _, _, h3⟩ | ⟨hk, _⟩ | ⟨hk, _⟩ | ⟨_, y, hy, _, _, hs⟩
    · exact absurd ⟨rfl, hr⟩ (h3 rfl z ht)
    · exact absurd hk (by show ¬ ((3 : Int) = 1); decide)
    · exact absurd hk (by show ¬ ((3 : Int) = 2); decide)
    · have hy' : tab js z.i = some y := hy
      rw [ht] at hy'
      obtain rfl := Option.some.inj hy'
      exact hs
  rw [this]

/-- Behind it the book is right, it is due once less, and nothing is due ahead of it. -/
theorem ring_on {js : List Jb} {rs : List Rg} (hok : Ok js rs) {t : Int} (ht : t ≤ 100000) {z : Jb} {r : List Jb} (h : dueOf js t = z :: r) (hr : rs.length < 60) :
    Ok (alt js z.i (some ⟨z.i, z.e, z.n + z.e⟩)) (rs ++ [⟨z.i, z.n, 0⟩]) ∧ countOf js t = countOf (alt js z.i (some ⟨z.i, z.e, z.n + z.e⟩)) t + 1 ∧
      ∀ x, x ∈ alt js z.i (some ⟨z.i, z.e, z.n + z.e⟩) → z.n ≤ x.n := by
  obtain ⟨hz, hzt, _, hmin⟩ := due_head hok h
  have hg := Jb.good (hok.jobs z hz)
  refine ⟨?_, countOf_ring hok hz hzt, fun x hx => ?_⟩
  · refine alt_ok hok hg.1.1 hg.1.2 (fun y e => ?_) (by rw [List.length_append]; simp; omega) (fun q hq => ?_)
    · cases e
      refine ⟨rfl, Jb.good_of ⟨hg.1, hg.2.1, ?_⟩⟩
      show 0 ≤ z.n + z.e ∧ z.n + z.e ≤ 100100
      omega
    · rcases List.mem_append.1 hq with hq | hq
      · exact hok.rungs q hq
      · obtain rfl : q = ⟨z.i, z.n, 0⟩ := by simpa using hq
        exact Rg.good_of ⟨hg.1, ⟨hg.2.2.1, by show z.n ≤ 100000; omega⟩, by show (0 : Int) ≤ 0 ∧ (0 : Int) ≤ 2; omega⟩
  · rcases alt_mem.1 hx with ⟨h1, _⟩ | h1
    · exact hmin x h1
    · cases h1
      show z.n ≤ z.n + z.e
      omega

end Go.Proofs.Ytbokdcdnandgbae
