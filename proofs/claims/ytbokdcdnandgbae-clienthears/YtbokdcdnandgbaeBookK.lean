/- What an entry makes of a right book: it stays right; done again nothing changes; what was rung stays. -/
import Derived.Test.YtbokdcdnandgbaeBookW
namespace Go.Proofs.Ytbokdcdnandgbae
open Go.RowKit

theorem alt_ok {js : List Jb} {rs rs' : List Rg} (hok : Ok js rs) {i : Int} {o : Option Jb} (i0 : 0 ≤ i) (i5 : i ≤ 5) (ho : ∀ y, o = some y → y.i = i ∧ y.bad = false) (hr : rs'.length ≤ 60) (hb : ∀ r, r ∈ rs' → r.bad = false) : Ok (alt js i o) rs' := by
  have hs : Srt (-1) (alt js i o) := alt_srt hok.srt (by omega) (fun y hy => (ho y hy).1)
  have hg : ∀ y, y ∈ alt js i o → y.bad = false := fun y hy => by
    rcases alt_mem.1 hy with ⟨h, _⟩ | h
    · exact hok.jobs y h
    · exact (ho y h).2
  refine ⟨?_, hr, hs, hg, hb⟩
  have := srt_len hs (fun y hy => (Jb.good (hg y hy)).1.2)
  rw [if_pos (by omega)] at this
  omega

/-- The four ways of an entry. -/
theorem step_ways {js : List Jb} {rs : List Rg} {x : En} (hx : x.chk = 0) :
    (step js rs x = (js, rs) ∧ (x.k = 1 → ∃ y, tab js x.j = some y) ∧ x.k ≠ 2 ∧ (x.k = 3 → ∀ y, tab js x.j = some y → ¬ (y.n = x.t ∧ rs.length < 60))) ∨
    (x.k = 1 ∧ tab js x.j = none ∧ step js rs x = (alt js x.j (some ⟨x.j, x.v, x.t⟩), rs)) ∨
    (x.k = 2 ∧ step js rs x = (alt js x.j none, rs)) ∨
    (x.k = 3 ∧ ∃ y, tab js x.j = some y ∧ y.n = x.t ∧ rs.length < 60 ∧ step js rs x = (alt js x.j (some ⟨x.j, y.e, x.t + y.e⟩), rs ++ [⟨x.j, x.t, x.c⟩])) := by
  have hX := En.right hx
  have hk : x.k = 0 ∨ x.k = 1 ∨ x.k = 2 ∨ x.k = 3 := by omega
  rcases hk with hk | hk | hk | hk
  · exact Or.inl ⟨by rw [step, if_neg (by omega), if_neg (by omega), if_neg (by omega)], fun h => by omega, by omega, fun h => by omega⟩
  · cases ht : tab js x.j with
    | none => exact Or.inr (Or.inl ⟨hk, rfl, by rw [step, if_pos hk, ht]⟩)
    | some y => exact Or.inl ⟨by rw [step, if_pos hk, ht], fun _ => ⟨y, rfl⟩, by omega, fun h => by omega⟩
  · exact Or.inr (Or.inr (Or.inl ⟨hk, by rw [step, if_neg (by omega), if_pos hk]⟩))
  · cases ht : tab js x.j with
    | none => exact Or.inl ⟨by rw [step, if_neg (by omega), if_neg (by omega), if_pos hk, ht], fun h => by omega, by omega, fun _ y h => by cases h⟩
    | some y =>
      by_cases hc : y.n = x.t ∧ rs.length < 60
      · refine Or.inr (Or.inr (Or.inr ⟨hk, y, rfl, hc.1, hc.2, ?_⟩))
        rw [step, if_neg (by omega), if_neg (by omega), if_pos hk, ht]
        exact if_pos hc
      · refine Or.inl ⟨?_, fun h => by omega, by omega, fun _ z h => by cases h; exact hc⟩
        rw [step, if_neg (by omega), if_neg (by omega), if_pos hk, ht]
        exact if_neg hc

theorem step_ok {js : List Jb} {rs : List Rg} {x : En} (hok : Ok js rs) (hx : x.chk = 0) : Ok (step js rs x).1 (step js rs x).2 := by
  have hX := En.right hx
  have j0 := hX.2.1.1
  have j5 := hX.2.1.2
  rcases step_ways (js := js) (rs := rs) hx with ⟨h, _⟩ | ⟨hk, _, h⟩ | ⟨_, h⟩ | ⟨hk, y, hy, hn, hr, h⟩
  · rw [h]; exact hok
  · rw [h]
    refine alt_ok hok j0 j5 (fun y e => ?_) hok.room hok.rungs
    cases e
    exact ⟨rfl, Jb.good_of ⟨hX.2.1, ⟨hX.2.2.2.2.2 hk, hX.2.2.1.2⟩, ⟨hX.2.2.2.1.1, by have := hX.2.2.2.1.2; show x.t ≤ 100100; omega⟩⟩⟩
  · rw [h]
    exact alt_ok hok j0 j5 (fun y e => by cases e) hok.room hok.rungs
  · rw [h]
    have hg := Jb.good (hok.jobs y (tab_id hy).2)
    refine alt_ok hok j0 j5 (fun z e => ?_) (by rw [List.length_append]; simp; omega) (fun r hr => ?_)
    · cases e
      refine ⟨rfl, Jb.good_of ⟨hX.2.1, hg.2.1, ?_⟩⟩
      have := hX.2.2.2.1; have := hg.2.1
      show 0 ≤ x.t + y.e ∧ x.t + y.e ≤ 100100
      omega
    · rcases List.mem_append.1 hr with hr | hr
      · exact hok.rungs r hr
      · obtain rfl : r = ⟨x.j, x.t, x.c⟩ := by simpa using hr
        exact Rg.good_of ⟨hX.2.1, hX.2.2.2.1, hX.2.2.2.2.1⟩

theorem step_again {js : List Jb} {rs : List Rg} {x : En} (hok : Ok js rs) (hx : x.chk = 0) : step (step js rs x).1 (step js rs x).2 x = step js rs x := by
  have hX := En.right hx
  have j0 := hX.2.1.1
  have j5 := hX.2.1.2
  rcases step_ways (js := js) (rs := rs) hx with ⟨h, _⟩ | ⟨hk, _, h⟩ | ⟨hk, h⟩ | ⟨hk, y, hy, hn, hr, h⟩
  · rw [h]; exact h
  · have ht : tab (alt js x.j (some ⟨x.j, x.v, x.t⟩)) x.j = some ⟨x.j, x.v, x.t⟩ := by
      rw [tab_alt hok.srt (by omega) (fun y e => by cases e; rfl), if_pos rfl]
    rw [h]
    show step (alt js x.j (some ⟨x.j, x.v, x.t⟩)) rs x = _
    rw [step, if_pos hk, ht]
  · have hs : Srt (-1) (alt js x.j none) := alt_srt hok.srt (by omega) (fun y e => by cases e)
    have ht : tab (alt js x.j none) x.j = none := by
      rw [tab_alt hok.srt (by omega) (fun y e => by cases e), if_pos rfl]
    rw [h]
    show step (alt js x.j none) rs x = _
    rw [step, if_neg (by omega), if_pos hk, alt_none hs (by omega) ht]
  · have hg := Jb.good (hok.jobs y (tab_id hy).2)
    have ht : tab (alt js x.j (some ⟨x.j, y.e, x.t + y.e⟩)) x.j = some ⟨x.j, y.e, x.t + y.e⟩ := by
      rw [tab_alt hok.srt (by omega) (fun y e => by cases e; rfl), if_pos rfl]
    rw [h]
    show step (alt js x.j (some ⟨x.j, y.e, x.t + y.e⟩)) (rs ++ [⟨x.j, x.t, x.c⟩]) x = _
    rw [step, if_neg (by omega), if_neg (by omega), if_pos hk, ht]
    refine if_neg ?_
    have := hg.2.1
    show ¬ (x.t + y.e = x.t ∧ _)
    omega

theorem step_rungs {js : List Jb} {rs : List Rg} {x : En} (hx : x.chk = 0) : (step js rs x).2 = rs ∨ ∃ r, (step js rs x).2 = rs ++ [r] := by
  rcases step_ways (js := js) (rs := rs) hx with ⟨h, _⟩ | ⟨_, _, h⟩ | ⟨_, h⟩ | ⟨_, y, _, _, _, h⟩
  · exact Or.inl (by rw [h])
  · exact Or.inl (by rw [h])
  · exact Or.inl (by rw [h])
  · exact Or.inr ⟨_, by rw [h]⟩

/-- A job of the new book that the old one had: as it was, or rung once more. -/
theorem step_jobs {js : List Jb} {rs : List Rg} {x : En} (hok : Ok js rs) (hx : x.chk = 0) (y z : Jb) (hy : y ∈ (step js rs x).1) (hz : tab js y.i = some z) :
    y.e = z.e ∧ (y.n = z.n ∨ (y.n = z.n + y.e ∧ (step js rs x).2.length ≠ rs.length)) := by
  have hX := En.right hx
  have j0 := hX.2.1.1
  have key : ∀ o : Option Jb, (∀ v, o = some v → v.i = x.j) → y ∈ alt js x.j o → (y.i = x.j ∧ o = some y) ∨ (y.i ≠ x.j ∧ y = z) := fun o ho h => by
    have h1 := tab_mem (alt_srt hok.srt (show (-1 : Int) < x.j by omega) ho) y h
    rw [tab_alt hok.srt (by omega) ho] at h1
    by_cases he : y.i = x.j
    · rw [if_pos he] at h1; exact Or.inl ⟨he, h1⟩
    · rw [if_neg he, hz] at h1; exact Or.inr ⟨he, (Option.some.inj h1).symm⟩
  rcases step_ways (js := js) (rs := rs) hx with ⟨h, _⟩ | ⟨_, ht, h⟩ | ⟨_, h⟩ | ⟨_, y0, hy0, hn, _, h⟩
  · rw [h] at hy
    have h1 := tab_mem hok.srt y hy
    rw [hz] at h1
    obtain rfl := Option.some.inj h1
    exact ⟨rfl, Or.inl rfl⟩
  · rw [h] at hy
    rcases key _ (fun v e => by cases e; rfl) hy with ⟨he, _⟩ | ⟨_, rfl⟩
    · rw [he, ht] at hz; cases hz
    · exact ⟨rfl, Or.inl rfl⟩
  · rw [h] at hy
    rcases key _ (fun v e => by cases e) hy with ⟨_, h1⟩ | ⟨_, rfl⟩
    · cases h1
    · exact ⟨rfl, Or.inl rfl⟩
  · rw [h] at hy ⊢
    rcases key _ (fun v e => by cases e; rfl) hy with ⟨he, h1⟩ | ⟨_, rfl⟩
    · rw [he, hy0] at hz
      obtain rfl := Option.some.inj hz
      obtain rfl := Option.some.inj h1
      refine ⟨rfl, Or.inr ⟨?_, by simp⟩⟩
      show x.t + y0.e = y0.n + y0.e
      omega
    · exact ⟨rfl, Or.inl rfl⟩

/-- Where a job is, and which. -/
theorem jobAt_ways (js : List Jb) (id : Int) : (jobAt js id = -1 ∧ tab js id = none) ∨ ∃ (k : Nat) (z : Jb), jobAt js id = k ∧ js[k]? = some z ∧ tab js id = some z := by
  induction js with
  | nil => exact Or.inl ⟨rfl, rfl⟩
  | cons y r ih =>
    by_cases he : y.i = id
    · refine Or.inr ⟨0, y, ?_, rfl, ?_⟩
      · rw [jobAt, List.findIdx?_cons, if_pos (by simpa using he)]
      · rw [tab, List.find?_cons, show (y.i == id) = true by simpa using he]
    · have hb : (y.i == id) = false := by simpa using he
      rcases ih with ⟨h1, h2⟩ | ⟨k, z, h1, h2, h3⟩
      · refine Or.inl ⟨?_, ?_⟩
        · rw [jobAt] at h1 ⊢
          rw [List.findIdx?_cons, if_neg (by simpa using he)]
          cases hf : r.findIdx? (fun x => x.i == id) with
          | none => rfl
          | some q => rw [hf] at h1; exact absurd h1 (by show ¬ ((q : Int) = -1); omega)
        · rw [tab, List.find?_cons, hb]; exact h2
      · refine Or.inr ⟨k + 1, z, ?_, by simpa using h2, ?_⟩
        · rw [jobAt] at h1 ⊢
          rw [List.findIdx?_cons, if_neg (by simpa using he)]
          cases hf : r.findIdx? (fun x => x.i == id) with
          | none => rw [hf] at h1; exact absurd h1 (by show ¬ ((-1 : Int) = k); omega)
          | some q =>
            rw [hf] at h1
            have h1' : (q : Int) = k := h1
            show ((q + 1 : Nat) : Int) = ((k + 1 : Nat) : Int)
            omega
        · rw [tab, List.find?_cons, hb]; exact h3

/-- A book that an entry makes is short. -/
theorem app_len {js : List Jb} {rs : List Rg} (x : En) : (app js rs x).1.1.length ≤ 6 ∧ (app js rs x).1.2.length ≤ 60 := by
  unfold app
  split
  · exact ⟨Nat.zero_le _, Nat.zero_le _⟩
  · split
    · exact ⟨Nat.zero_le _, Nat.zero_le _⟩
    · rename_i h1 h2
      have := step_ok (ckBook_zero.1 (by simpa using h1)) (show x.chk = 0 by simpa using h2)
      exact ⟨this.few, this.room⟩

theorem bfold_len : ∀ (es : List En) (js : List Jb) (rs : List Rg), js.length ≤ 6 → rs.length ≤ 60 → (bfold js rs es).1.1.length ≤ 6 ∧ (bfold js rs es).1.2.length ≤ 60
  | [], js, rs, h1, h2 => ⟨h1, h2⟩
  | x :: r, js, rs, h1, h2 => by
    rw [bfold]
    split
    · exact ⟨Nat.zero_le _, Nat.zero_le _⟩
    · exact bfold_len r _ _ (app_len x).1 (app_len x).2

theorem bookOf_len (es : List En) : (bookOf es).1.1.length ≤ 6 ∧ (bookOf es).1.2.length ≤ 60 := by
  unfold bookOf
  split
  · exact ⟨Nat.zero_le _, Nat.zero_le _⟩
  · exact bfold_len es [] [] (Nat.zero_le _) (Nat.zero_le _)

theorem app_ok {js : List Jb} {rs : List Rg} {x : En} (h : (app js rs x).2 = 0) : Ok js rs ∧ x.chk = 0 ∧ app js rs x = (step js rs x, 0) := by
  unfold app at h ⊢
  by_cases h1 : ckBook js rs = 0
  · rw [if_neg (by simpa using h1)] at h ⊢
    by_cases h2 : x.chk = 0
    · rw [if_neg (by simpa using h2)]
      exact ⟨ckBook_zero.1 h1, h2, rfl⟩
    · rw [if_pos h2] at h; exact absurd h h2
  · rw [if_pos h1] at h; exact absurd h h1

theorem app_step {js : List Jb} {rs : List Rg} {x : En} (hok : Ok js rs) (hx : x.chk = 0) : app js rs x = (step js rs x, 0) := by
  unfold app
  rw [if_neg (by simpa using ckBook_zero.2 hok), if_neg (by simpa using hx)]

end Go.Proofs.Ytbokdcdnandgbae
