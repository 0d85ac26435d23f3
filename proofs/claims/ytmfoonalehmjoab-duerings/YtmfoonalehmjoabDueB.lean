/- The eldest job is the next one; what ringing it makes of the book. -/
import Derived.Test.YtmfoonalehmjoabDueA
namespace Go.Proofs.Ytmfoonalehmjoab
open Go.RowKit

theorem whenOf_ways : ∀ (js : List Jb), (∀ x, x ∈ js → 0 ≤ x.n) → (js = [] ∧ whenOf js = -1) ∨ (∃ z, z ∈ js ∧ whenOf js = z.n ∧ ∀ x, x ∈ js → z.n ≤ x.n)
  | [], _ => Or.inl ⟨rfl, rfl⟩
  | x :: r, h => by
    right
    have hx := h x (by simp)
    rw [whenOf]
    rcases whenOf_ways r (fun y hy => h y (List.mem_cons_of_mem _ hy)) with ⟨e, hw⟩ | ⟨z, hz, hw, hall⟩
    · rw [if_pos (Or.inl hw)]
      refine ⟨x, by simp, rfl, fun y hy => ?_⟩
      rw [e] at hy
      rcases List.mem_cons.1 hy with rfl | hy
      · exact Int.le_refl _
      · cases hy
    · have hz0 := h z (List.mem_cons_of_mem _ hz)
      by_cases hc : x.n < z.n
      · rw [if_pos (Or.inr (by omega))]
        refine ⟨x, by simp, rfl, fun y hy => ?_⟩
        rcases List.mem_cons.1 hy with rfl | hy
        · exact Int.le_refl _
        · have := hall y hy; omega
      · rw [if_neg (by omega)]
        refine ⟨z, List.mem_cons_of_mem _ hz, hw, fun y hy => ?_⟩
        rcases List.mem_cons.1 hy with rfl | hy
        · omega
        · exact hall y hy

/-- The first that is due is due next. -/
theorem due_head {js : List Jb} {rs : List Rg} (hok : Ok js rs) {t : Int} {z : Jb} {r : List Jb} (h : dueOf js t = z :: r) : z ∈ js ∧ z.n ≤ t ∧ whenOf js = z.n ∧ ∀ x, x ∈ js → z.n ≤ x.n := by
  have hz : z ∈ dueOf js t := by rw [h]; simp
  have hm := (dueOf_mem t z js).1 hz
  have hrow := dueOf_row t hok.srt
  rw [h] at hrow
  have hmin : ∀ x, x ∈ js → z.n ≤ x.n := fun x hx => by
    by_cases hxt : x.n ≤ t
    · have hxd : x ∈ dueOf js t := (dueOf_mem t x js).2 ⟨hx, hxt⟩
      rw [h] at hxd
      rcases List.mem_cons.1 hxd with rfl | hxd
      · exact Int.le_refl _
      · have := hrow.1 x hxd
        unfold Jb.ahead at this
        omega
    · have := hm.2; omega
  refine ⟨hm.1, hm.2, ?_, hmin⟩
  rcases whenOf_ways js (fun x hx => (Jb.good (hok.jobs x hx)).2.2.1) with ⟨e, _⟩ | ⟨y, hy, hw, hall⟩
  · rw [e] at hm; cases hm.1
  · have h1 := hall z hm.1
    have h2 := hmin y hy
    omega

/-- A job that is rung at its time. -/
theorem app_ring {js : List Jb} {rs : List Rg} (hok : Ok js rs) {z : Jb} (hz : z ∈ js) (hn : z.n ≤ 100000) (hr : rs.length < 60) (c : Int) (c0 : 0 ≤ c) (c2 : c ≤ 2) :
    app js rs ⟨3, z.i, 0, z.n, c⟩ = ((alt js z.i (some ⟨z.i, z.e, z.n + z.e⟩), rs ++ [⟨z.i, z.n, c⟩]), 0) := by
  have hg := Jb.good (hok.jobs z hz)
  have hx : (⟨3, z.i, 0, z.n, c⟩ : En).chk = 0 := by
    have hr' : inR z.i 0 z.n c = true := decide_eq_true (by omega)
    have hl : lost 3 z.i 0 z.n c = false := by
      simp [lost, unlike, bJob, bEvery, bTime, bClient, num0, num1, num2]
    show chk 3 z.i 0 z.n c = 0
    unfold chk
    rw [if_neg (by omega), hr', if_neg (by simp), hl, if_neg (by simp), if_neg (by omega)]
  rw [app_step hok hx]
  have ht := tab_mem hok.srt z hz
  have : step js rs ⟨3, z.i, 0, z.n, c⟩ = (alt js z.i (some ⟨z.i, z.e, z.n + z.e⟩), rs ++ [⟨z.i, z.n, c⟩]) := by
    rcases step_ways (js := js) (rs := rs) hx with ⟨_, _, _, h3⟩ | ⟨hk, _⟩ | ⟨hk, _⟩ | ⟨_, y, hy, _, _, hs⟩
    · exact absurd ⟨rfl, hr⟩ (h3 rfl z ht)
    · exact absurd hk (by show ¬ ((3 : Int) = 1); decide)
    · exact absurd hk (by show ¬ ((3 : Int) = 2); decide)
    · have hy' : tab js z.i = some y := hy
      rw [ht] at hy'
      obtain rfl := Option.some.inj hy'
      exact hs
  rw [this]

/-- Behind it the book is right, it is due once less, and nothing is due ahead of it. -/
theorem ring_on {js : List Jb} {rs : List Rg} (hok : Ok js rs) {t : Int} (ht : t ≤ 100000) {z : Jb} {r : List Jb} (h : dueOf js t = z :: r) (hr : rs.length < 60) :
    Ok (alt js z.i (some ⟨z.i, z.e, z.n + z.e⟩)) (rs ++ [⟨z.i, z.n, 0⟩]) ∧ countOf js t = countOf (alt js z.i (some ⟨z.i, z.e, z.n + z.e⟩)) t + 1 ∧
      ∀ x, x ∈ alt js z.i (some ⟨z.i, z.e, z.n + z.e⟩) → z.n ≤ x.n := by
  obtain ⟨hz, hzt, _, hmin⟩ := due_head hok h
  have hg := Jb.good (hok.jobs z hz)
  refine ⟨?_, countOf_ring hok hz hzt, fun x hx => ?_⟩
  · refine alt_ok hok hg.1.1 hg.1.2 (fun y e => ?_) (by rw [List.length_append]; simp; omega) (fun q hq => ?_)
    · cases e
      refine ⟨rfl, Jb.good_of ⟨hg.1, hg.2.1, ?_⟩⟩
      show 0 ≤ z.n + z.e ∧ z.n + z.e ≤ 100100
      omega
    · rcases List.mem_append.1 hq with hq | hq
      · exact hok.rungs q hq
      · obtain rfl : q = ⟨z.i, z.n, 0⟩ := by simpa using hq
        exact Rg.good_of ⟨hg.1, ⟨hg.2.2.1, by show z.n ≤ 100000; omega⟩, by show (0 : Int) ≤ 0 ∧ (0 : Int) ≤ 2; omega⟩
  · rcases alt_mem.1 hx with ⟨h1, _⟩ | h1
    · exact hmin x h1
    · cases h1
      show z.n ≤ z.n + z.e
      omega

end Go.Proofs.Ytmfoonalehmjoab
