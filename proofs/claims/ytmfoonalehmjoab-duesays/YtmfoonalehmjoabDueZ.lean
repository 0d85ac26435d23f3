/- Package due's three functions, at every book and time. -/
import Derived.Test.YtmfoonalehmjoabDueZe
import Derived.Test.YtmfoonalehmjoabBookZo
namespace Go.Proofs.Ytmfoonalehmjoab
open Go.RowKit Go.Shelf

theorem due_any (v1 v2 : Value) (js : List Jb) (rs : List Rg) (t : Int) (w : World) (h1 : JobSl w v1 js) (h2 : RungSl w v2 rs) :
    Calls Try.prog 19 #[.agg #[v1, v2], .int .i64 t] w fun e w' => ∃ u, e = .returned (.tuple #[u, .int .i64 (dueErr js rs t)]) ∧ JobSl w' u (if dueErr js rs t = 0 then dueOf js t else []) ∧ Below w.heap.size w w' ∧ Roomy u := by
  obtain ⟨a1, c1, a2, c2, rfl, rfl⟩ := bk_slices h1 h2
  by_cases hz : dueErr js rs t = 0
  · rw [if_pos hz, hz]
    exact due_ok a1 a2 _ _ c1 c2 js rs t w h1 h2 hz
  · rw [if_neg hz]
    exact (due_bad a1 a2 _ _ c1 c2 js rs t w h1 h2 hz).mono fun _ _ ⟨he, hb⟩ => ⟨_, he, SlOf.nil _ _, hb, ⟨_, _, _, rfl, Nat.le_refl _⟩⟩

theorem dues_any : Dues where
  due := fun v1 v2 js rs t W h1 h2 _ _ => due_any v1 v2 js rs t W h1 h2
  count := fun v1 v2 js rs t W h1 h2 _ _ => by
    obtain ⟨a1, c1, a2, c2, rfl, rfl⟩ := bk_slices h1 h2
    by_cases hz : dueErr js rs t = 0
    · rw [if_pos hz, hz]
      exact count_ok a1 a2 _ _ c1 c2 js rs t W h1 h2 hz
    · rw [if_neg hz]
      exact count_bad a1 a2 _ _ c1 c2 js rs t W h1 h2 hz
  when_ := fun v1 v2 js rs W h1 h2 _ _ => by
    obtain ⟨a1, c1, a2, c2, rfl, rfl⟩ := bk_slices h1 h2
    by_cases hz : ckBook js rs = 0
    · rw [if_pos hz, hz]
      exact when_ok a1 a2 _ _ c1 c2 js rs W h1 h2 hz
    · rw [if_neg hz]
      exact when_bad a1 a2 _ _ c1 c2 js rs W h1 h2 hz
  apply := fun v1 v2 js rs x W h1 h2 _ _ => (bk_applyR v1 v2 js rs x W h1 h2).mono fun _ _ ⟨u1, u2, g1, g2, g3, g4, _⟩ => ⟨u1, u2, g1, g2, g3, g4⟩

end Go.Proofs.Ytmfoonalehmjoab
