/- The lives are what the book says: plain facts. -/
import Derived.Test.YtjbcfflbfnddeacFairA
namespace Go.Proofs.Ytjbcfflbfnddeac
open Go.RowKit

theorem alt_len_none {l : Int} {js : List Jb} {i : Int} (h : Srt l js) (hi : l < i) (hn : tab js i = none) (v : Option Jb) : (alt js i v).length = js.length + v.toList.length := by
  have e := congrArg List.length (alt_none h hi hn)
  unfold alt at e ⊢
  simp only [List.length_append, Option.toList_none, List.length_nil] at e ⊢
  omega

theorem alt_len_some {l : Int} {js : List Jb} {i : Int} {z : Jb} (h : Srt l js) (hi : l < i) (hn : tab js i = some z) (v : Option Jb) : (alt js i v).length + 1 = js.length + v.toList.length := by
  have e := congrArg List.length (alt_same h hi)
  rw [hn] at e
  unfold alt at e ⊢
  simp only [List.length_append, Option.toList_some, List.length_cons, List.length_nil] at e ⊢
  omega

/-- What a life says of its job. -/
def Lf.job (y : Lf) : Jb := ⟨y.j, y.e, y.f + y.e * y.r⟩

/-- The lives are what the book says. -/
structure Says (js : List Jb) (rs : List Rg) (ls : List Lf) : Prop where
  ok : Ok js rs
  lok : Lok ls
  jobs : ∀ z, z ∈ js ↔ ∃ y, y ∈ ls ∧ y.o = false ∧ y.job = z
  rung : (rs.length : Int) = allR ls
  live : liveN ls = js.length

theorem Says.tab_none {js : List Jb} {rs : List Rg} {ls : List Lf} (h : Says js rs ls) {i : Int} (hl : lifeAt ls i = none) : tab js i = none := by
  refine (_root_.Go.Proofs.Ytjbcfflbfnddeac.tab_none).2 fun z hz => ?_
  obtain ⟨y, hy, ho, rfl⟩ := (h.jobs z).1 hz
  exact lifeAt_none hl y hy ho

theorem Says.tab_some {js : List Jb} {rs : List Rg} {ls : List Lf} (h : Says js rs ls) {i : Int} {k : Nat} {y : Lf} (hl : lifeAt ls i = some k) (hy : ls[k]? = some y) : tab js i = some y.job := by
  obtain ⟨y', hy', hj, ho⟩ := lifeAt_some hl
  rw [hy] at hy'
  obtain rfl : y = y' := by simpa using hy'
  have hm : y.job ∈ js := (h.jobs y.job).2 ⟨y, List.mem_of_getElem? hy, ho, rfl⟩
  have := tab_mem h.ok.srt y.job hm
  rw [← hj]
  exact this

/-- Of the lives with one of them turned: those that aren't over. -/
theorem set_live {ls : List Lf} (h : Lok ls) {k : Nat} {y z : Lf} (hy : ls[k]? = some y) (ho : y.o = false) (u : Lf) : (u ∈ ls.set k z ∧ u.o = false) ↔ ((u ∈ ls ∧ u.o = false ∧ u.j ≠ y.j) ∨ (u = z ∧ z.o = false)) := by
  constructor
  · rintro ⟨hu, uo⟩
    obtain ⟨m, hm⟩ := List.mem_iff_getElem?.1 hu
    rw [List.getElem?_set] at hm
    split at hm
    · split at hm
      · obtain rfl : z = u := by simpa using hm
        exact Or.inr ⟨rfl, uo⟩
      · cases hm
    · rename_i hkm
      refine Or.inl ⟨List.mem_of_getElem? hm, uo, fun hj => hkm ?_⟩
      exact h.one k m y u hy hm ho uo hj.symm
  · rintro (⟨hu, uo, hj⟩ | ⟨rfl, zo⟩)
    · refine ⟨?_, uo⟩
      obtain ⟨m, hm⟩ := List.mem_iff_getElem?.1 hu
      refine List.mem_iff_getElem?.2 ⟨m, ?_⟩
      rw [List.getElem?_set, if_neg]
      · exact hm
      · rintro rfl
        rw [hy] at hm
        obtain rfl : y = u := by simpa using hm
        exact hj rfl
    · refine ⟨List.mem_iff_getElem?.2 ⟨k, ?_⟩, zo⟩
      rw [List.getElem?_set, if_pos rfl, if_pos (List.getElem?_eq_some_iff.1 hy).1]

/-- An entry makes of both the same. -/
theorem says_step {js : List Jb} {rs : List Rg} {ls : List Lf} {x : En} (h : Says js rs ls) (hx : x.chk = 0) : Says (step js rs x).1 (step js rs x).2 (lstep ls x) := by
  have hok' := step_ok h.ok hx
  have hlok' := lstep_ok h.lok hx
  obtain ⟨⟨hk0, hk3⟩, ⟨hj0, hj5⟩, _⟩ := En.right hx
  have hi : (-1 : Int) < x.j := by omega
  rcases lstep_ways (ls := ls) hx with ⟨h1, hn, e⟩ | ⟨k, y, h2, hl, hy, hj, ho, e⟩ | ⟨k, y, h3, hl, hy, hj, ho, hc1, hc2, e⟩ | ⟨e, w1, w2, w3⟩
  · have hs : step js rs x = (alt js x.j (some ⟨x.j, x.v, x.t⟩), rs) := by rw [step, if_pos h1, h.tab_none hn]
    rw [hs] at hok' ⊢
    refine ⟨hok', hlok', fun z => ?_, ?_, ?_⟩
    · rw [e]
      show z ∈ alt _ _ _ ↔ _
      rw [alt_mem]
      constructor
      · rintro (⟨hz, _⟩ | hz)
        · obtain ⟨y, hy, ho, hyz⟩ := (h.jobs z).1 hz
          exact ⟨y, List.mem_append_left _ hy, ho, hyz⟩
        · refine ⟨⟨x.j, x.v, x.t, 0, false⟩, by simp, rfl, ?_⟩
          rw [← Option.some.inj hz]
          simp [Lf.job]
      · rintro ⟨y, hy, ho, hyz⟩
        rcases List.mem_append.1 hy with hy | hy
        · left
          refine ⟨(h.jobs z).2 ⟨y, hy, ho, hyz⟩, ?_⟩
          rw [← hyz]
          exact lifeAt_none hn y hy ho
        · obtain rfl : y = _ := by simpa using hy
          right
          rw [← hyz]
          simp [Lf.job]
    · rw [e, allR_append]
      simp [allR, h.rung]
    · rw [e, liveN_append]
      show _ = (alt _ _ _).length
      rw [alt_len_none h.ok.srt hi (h.tab_none hn)]
      simp [liveN, h.live]
  · have ht := h.tab_some hl hy
    have hs : step js rs x = (alt js x.j none, rs) := by rw [step, if_neg (by omega), if_pos h2]
    rw [hs] at hok' ⊢
    refine ⟨hok', hlok', fun z => ?_, ?_, ?_⟩
    · rw [e]
      show z ∈ alt _ _ _ ↔ _
      rw [alt_mem]
      constructor
      · rintro (⟨hz, hzi⟩ | hz)
        · obtain ⟨u, hu, uo, huz⟩ := (h.jobs z).1 hz
          have := (set_live h.lok hy ho (z := ⟨y.j, y.e, y.f, y.r, true⟩) u).2 (Or.inl ⟨hu, uo, by rw [hj]; rw [← huz] at hzi; exact hzi⟩)
          exact ⟨u, this.1, this.2, huz⟩
        · cases hz
      · rintro ⟨u, hu, uo, huz⟩
        rcases (set_live h.lok hy ho u).1 ⟨hu, uo⟩ with ⟨g1, g2, g3⟩ | ⟨_, g⟩
        · left
          refine ⟨(h.jobs z).2 ⟨u, g1, g2, huz⟩, ?_⟩
          rw [← huz, ← hj]
          exact g3
        · cases g
    · rw [e, allR_set hy]
      have := h.rung
      show (rs.length : Int) = _
      simp only
      omega
    · have l1 := liveN_set hy ⟨y.j, y.e, y.f, y.r, true⟩
      have l2 := alt_len_some h.ok.srt hi ht none
      have l3 := h.live
      rw [ho] at l1
      simp at l1 l2
      rw [e]
      show _ = (alt _ _ _).length
      omega
  · have ht := h.tab_some hl hy
    have hrl : rs.length < 60 := by have := h.rung; omega
    have hm : y.e * (y.r + 1) = y.e * y.r + y.e := by rw [Int.mul_add, Int.mul_one]
    have hs : step js rs x = (alt js x.j (some ⟨x.j, y.e, x.t + y.e⟩), rs ++ [⟨x.j, x.t, x.c⟩]) := by
      rw [step, if_neg (by omega), if_neg (by omega), if_pos h3, ht]
      show (if y.job.n = x.t ∧ rs.length < 60 then _ else _) = _
      rw [if_pos ⟨by show y.f + y.e * y.r = x.t; omega, hrl⟩]
      rfl
    rw [hs] at hok' ⊢
    have hjob : (⟨y.j, y.e, y.f, y.r + 1, y.o⟩ : Lf).job = ⟨x.j, y.e, x.t + y.e⟩ := by
      show (⟨y.j, y.e, y.f + y.e * (y.r + 1)⟩ : Jb) = _
      rw [hj, hm, show y.f + (y.e * y.r + y.e) = x.t + y.e by omega]
    refine ⟨hok', hlok', fun z => ?_, ?_, ?_⟩
    · rw [e]
      show z ∈ alt _ _ _ ↔ _
      rw [alt_mem]
      constructor
      · rintro (⟨hz, hzi⟩ | hz)
        · obtain ⟨u, hu, uo, huz⟩ := (h.jobs z).1 hz
          have := (set_live h.lok hy ho (z := ⟨y.j, y.e, y.f, y.r + 1, y.o⟩) u).2 (Or.inl ⟨hu, uo, by rw [hj]; rw [← huz] at hzi; exact hzi⟩)
          exact ⟨u, this.1, this.2, huz⟩
        · have := (set_live h.lok hy ho (z := ⟨y.j, y.e, y.f, y.r + 1, y.o⟩) ⟨y.j, y.e, y.f, y.r + 1, y.o⟩).2 (Or.inr ⟨rfl, ho⟩)
          exact ⟨_, this.1, this.2, by rw [hjob]; exact Option.some.inj hz⟩
      · rintro ⟨u, hu, uo, huz⟩
        rcases (set_live h.lok hy ho u).1 ⟨hu, uo⟩ with ⟨g1, g2, g3⟩ | ⟨rfl, _⟩
        · left
          refine ⟨(h.jobs z).2 ⟨u, g1, g2, huz⟩, ?_⟩
          rw [← huz, ← hj]
          exact g3
        · right
          rw [← huz, hjob]
    · rw [e, allR_set hy]
      have := h.rung
      show ((rs ++ [_]).length : Int) = _
      rw [List.length_append]
      simp
      omega
    · have l1 := liveN_set hy ⟨y.j, y.e, y.f, y.r + 1, y.o⟩
      have l2 := alt_len_some h.ok.srt hi ht (some ⟨x.j, y.e, x.t + y.e⟩)
      have l3 := h.live
      simp at l1 l2
      rw [e]
      show _ = (alt _ _ _).length
      omega
  · have hs : step js rs x = (js, rs) := by
      by_cases h1 : x.k = 1
      · obtain ⟨k, hl⟩ := w1 h1
        obtain ⟨y, hy, _, _⟩ := lifeAt_some hl
        rw [step, if_pos h1, h.tab_some hl hy]
      · by_cases h2 : x.k = 2
        · rw [step, if_neg h1, if_pos h2, alt_none h.ok.srt hi (h.tab_none (w2 h2))]
        · by_cases h3 : x.k = 3
          · rw [step, if_neg h1, if_neg h2, if_pos h3]
            cases hl : lifeAt ls x.j with
            | none => rw [h.tab_none hl]
            | some k =>
              obtain ⟨y, hy, hj, ho⟩ := lifeAt_some hl
              rw [h.tab_some hl hy]
              show (if y.job.n = x.t ∧ rs.length < 60 then _ else _) = _
              rw [if_neg]
              rintro ⟨g1, g2⟩
              refine w3 h3 k y hl hy ⟨?_, ?_⟩
              · have : y.f + y.e * y.r = x.t := g1
                omega
              · have := h.rung; omega
          · rw [step, if_neg h1, if_neg h2, if_neg h3]
    rw [hs, e]
    exact h

theorem says_nil : Says [] [] [] where
  ok := ckBook_zero.1 (by simp [ckBook, ckJobs, ckRungs])
  lok := lok_nil
  jobs := fun z => ⟨fun h => (by cases h), fun ⟨_, h, _⟩ => (by cases h)⟩
  rung := rfl
  live := rfl

theorem says_fold : ∀ (es : List En) {js : List Jb} {rs : List Rg} {ls : List Lf}, Says js rs ls → (lfold ls es).2 = (bfold js rs es).2 ∧ ((lfold ls es).2 = 0 → Says (bfold js rs es).1.1 (bfold js rs es).1.2 (lfold ls es).1)
  | [], _, _, _, h => ⟨rfl, fun _ => h⟩
  | x :: r, js, rs, ls, h => by
    have hb := ckBook_zero.2 h.ok
    by_cases hx : x.chk = 0
    · rw [lfold, if_neg (by simpa using hx), bfold_ok (by rw [app_step h.ok hx])]
      rw [app_step h.ok hx]
      exact says_fold r (says_step h hx)
    · have ha : app js rs x = (([], []), x.chk) := by rw [app, if_neg (by simpa using hb), if_pos hx]
      rw [lfold, if_pos hx, bfold_bad (by rw [ha]; exact hx), ha]
      exact ⟨rfl, fun h0 => absurd h0 hx⟩

theorem says_all (es : List En) : (livesOf es).2 = (bookOf es).2 ∧ ((livesOf es).2 = 0 → Says (bookOf es).1.1 (bookOf es).1.2 (livesOf es).1) := by
  unfold livesOf bookOf
  by_cases h : 60 < es.length
  · rw [if_pos h, if_pos h]
    exact ⟨rfl, fun h0 => by cases h0⟩
  · rw [if_neg h, if_neg h]
    exact says_fold es says_nil

theorem lfold_len : ∀ (es : List En) (ls : List Lf), (lfold ls es).1.length ≤ ls.length + es.length
  | [], ls => by simp [lfold]
  | x :: r, ls => by
    rw [lfold]
    by_cases hx : x.chk = 0
    · rw [if_neg (by simpa using hx)]
      have := lfold_len r (lstep ls x)
      have h2 := lstep_len (ls := ls) hx
      simp
      omega
    · rw [if_pos hx]; simp

theorem livesOf_len (es : List En) : (livesOf es).1.length ≤ 60 := by
  unfold livesOf
  by_cases h : 60 < es.length
  · rw [if_pos h]; simp
  · rw [if_neg h]
    have := lfold_len es []
    simp at this
    omega

end Go.Proofs.Ytjbcfflbfnddeac
