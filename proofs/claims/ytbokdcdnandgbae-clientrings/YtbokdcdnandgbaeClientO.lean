/- Plain facts on who wants to ring: what is played of it, and how often it is due behind it. -/
import Derived.Test.YtbokdcdnandgbaeClientI
namespace Go.Proofs.Ytbokdcdnandgbae
open Go.RowKit

theorem cnt1_top {x : Jb} {t : Int} (hn : 0 ≤ x.n) (ht : t ≤ 100000) : cnt1 x t ≤ 100001 := by
  unfold cnt1
  split
  · omega
  · have := Int.ediv_le_self x.e (show 0 ≤ t - x.n by omega)
    omega
theorem countOf_top : ∀ {js : List Jb} {t : Int}, (∀ x, x ∈ js → 1 ≤ x.e ∧ 0 ≤ x.n) → t ≤ 100000 → countOf js t ≤ js.length * 100001
  | [], _, _, _ => by simp [countOf]
  | x :: r, t, h, ht => by
    have h1 := cnt1_top (h x (by simp)).2 ht
    have h2 := countOf_top (js := r) (fun y hy => h y (List.mem_cons_of_mem _ hy)) ht
    rw [countOf, List.length_cons]
    have : ((r.length + 1 : Nat) : Int) = (r.length : Int) + 1 := by omega
    rw [this]
    omega
theorem count_bounds {js : List Jb} {rs : List Rg} (hok : Ok js rs) {t : Int} (ht : t ≤ 100000) : 0 ≤ countOf js t ∧ countOf js t ≤ 600006 := by
  have h1 : ∀ x, x ∈ js → 1 ≤ x.e ∧ 0 ≤ x.n := fun x hx => ⟨(Jb.good (hok.jobs x hx)).2.1.1, (Jb.good (hok.jobs x hx)).2.2.1⟩
  have h2 := countOf_top h1 ht
  have h3 := hok.few
  refine ⟨countOf_nonneg t (fun x hx => (h1 x hx).1), ?_⟩
  have : (js.length : Int) ≤ 6 := by omega
  omega

/-- Who wants to ring stays a client. -/
theorem rung_ck {c : Cl} {x : En} (h : c.ck = 0) (hx : x.chk = 0) (hk : x.k = 3) : (⟨c.p, 1, x, 0, 0, c.n, c.js, c.rs⟩ : Cl).ck = 0 := by
  obtain ⟨ho, _, _, hb⟩ := Cl.ck_zero.1 h
  have hg := Cl.good ho
  refine Cl.ck_zero.2 ⟨Cl.good_of ⟨hg.1, (show (0 : Int) ≤ 1 ∧ (1 : Int) ≤ 2 by decide), (show (0 : Int) ≤ 0 ∧ (0 : Int) ≤ 59 by decide), (show (0 : Int) ≤ 0 ∧ (0 : Int) ≤ 2 by decide), hg.2.2.2.2⟩, hx, ?_, hb⟩
  rw [Cl.odd, if_neg (show ¬ (1 : Int) = 0 by decide), if_pos (show (1 : Int) = 1 from rfl)]
  have : ¬ x.k = 0 := by omega
  simp [this]

/-- Behind it, played. -/
theorem rung_play {c : Cl} {j me t : Int} {z : Jb} (h : c.ck = 0) (hz : tab c.js j = some z) (hn : z.n ≤ t) (hx : (⟨3, j, 0, z.n, me⟩ : En).chk = 0) :
    (c.n = 60 → playOf ⟨c.p, 1, ⟨3, j, 0, z.n, me⟩, 0, 0, c.n, c.js, c.rs⟩ ⟨3, j, 0, z.n, me⟩ = (Cl.zero, 2)) ∧
      (c.n ≠ 60 → ∃ (J : List Jb) (Q : List Rg), playOf ⟨c.p, 1, ⟨3, j, 0, z.n, me⟩, 0, 0, c.n, c.js, c.rs⟩ ⟨3, j, 0, z.n, me⟩ = (⟨c.p, 1, ⟨3, j, 0, z.n, me⟩, 0, 0, c.n + 1, J, Q⟩, 0) ∧ Ok J Q ∧ (countOf c.js t = countOf J t + 1 ∨ (countOf c.js t = countOf J t ∧ c.rs.length = 60))) := by
  have hck := rung_ck h hx rfl
  have hok := (Cl.ck_zero.1 h).2.2.2
  refine ⟨fun h60 => by rw [playOf, if_neg (by simpa using hck), if_pos h60], fun h60 => ?_⟩
  have happ := app_step hok hx
  refine ⟨(step c.js c.rs ⟨3, j, 0, z.n, me⟩).1, (step c.js c.rs ⟨3, j, 0, z.n, me⟩).2, ?_, step_ok hok hx, ?_⟩
  · rw [playOf, if_neg (by simpa using hck), if_neg h60, happ, if_neg (by simp)]
  · have hid := tab_id hz
    rcases step_ways (js := c.js) (rs := c.rs) hx with ⟨hs, _, _, h3⟩ | ⟨hk, _⟩ | ⟨hk, _⟩ | ⟨_, y, hy, _, _, hs⟩
    · rw [hs]
      refine Or.inr ⟨rfl, ?_⟩
      have h60' : ¬ c.rs.length < 60 := fun hl => h3 rfl z hz ⟨rfl, hl⟩
      have := hok.room
      omega
    · exact absurd hk (by show ¬ ((3 : Int) = 1); decide)
    · exact absurd hk (by show ¬ ((3 : Int) = 2); decide)
    · have hy' : tab c.js j = some y := hy
      rw [hz] at hy'
      obtain rfl := Option.some.inj hy'
      rw [hs]
      refine Or.inl ?_
      have := countOf_ring hok hid.2 hn
      rw [hid.1] at this
      exact this

/-- All that is held, and a row, by a letter. -/
theorem heldC_with {w W : World} {bs : List (Nat × Obj)} {cs : List (Value × Value × Cl)} {Q : World → Prop} (hQ : ∀ W W', Q W → Below W.heap.size W W' → Q W') (h : HeldC w W bs cs) (q : Q W) : ∃ P : World → Prop, P W ∧ (∀ W W', P W → Below W.heap.size W W' → P W') ∧ ∀ W, P W → HeldC w W bs cs ∧ Q W :=
  ⟨fun W => HeldC w W bs cs ∧ Q W, ⟨h, q⟩, fun _ _ h hb => ⟨h.1.later hb, hQ _ _ h.2 hb⟩, fun _ h => h⟩

end Go.Proofs.Ytbokdcdnandgbae
