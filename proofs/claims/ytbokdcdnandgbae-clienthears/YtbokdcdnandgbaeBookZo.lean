/- Package book: put, drop and ring do what the document says; Apply at every book and entry. -/
import Derived.Test.YtbokdcdnandgbaeBookZn
import Derived.Test.YtbokdcdnandgbaeBookZi
import Derived.Test.YtbokdcdnandgbaeBookZl
import Derived.Test.YtbokdcdnandgbaeBookZk
namespace Go.Proofs.Ytbokdcdnandgbae
open Go.RowKit Go.Shelf

theorem Left.more {w W : World} {ab : Nat} {S S' : List Nat} {js : List Jb} {rs : List Rg} {u1 u2 : Value} (h : Left w W ab S js rs u1 u2) (hs : ∀ k, k ∈ S → k ∈ S') : Left w W ab S' js rs u1 u2 :=
  ⟨h.head, h.jobs, h.rungs, h.room, h.kept.more hs, h.tj, h.tr⟩

theorem left_more {fn : FuncId} {args : Array Value} {W : World} {ab gj gr : Nat} {js : List Jb} {rs : List Rg} (h : Calls Try.prog fn args W fun e w' => e = .returned (.tuple #[]) ∧ ∃ u1 u2, Left W w' ab [ab, gj] js rs u1 u2) :
    Calls Try.prog fn args W fun e w' => e = .returned (.tuple #[]) ∧ ∃ u1 u2, Left W w' ab [ab, gj, gr] js rs u1 u2 :=
  h.mono fun _ _ ⟨he, u1, u2, hL⟩ => ⟨he, u1, u2, hL.more (fun k hk => by simp at hk ⊢; rcases hk with h | h <;> simp [h])⟩

/-- A new job in its place. -/
theorem place_alt {js : List Jb} {i : Int} {z : Jb} (hs : Srt (-1) js) (hn : tab js i = none) : js.take (place js i) ++ z :: js.drop (place js i) = alt js i (some z) := by
  have hne := tab_none.1 hn
  have e : js = js.take (place js i) ++ js.drop (place js i) := (List.take_append_drop _ _).symm
  have ha : ∀ x, x ∈ js.take (place js i) → x.i < i := fun x hx => by
    have hm := List.mem_of_mem_take hx
    have h1 := hne x hm
    have h2 : decide (i < x.i) = false := by
      unfold place at hx
      rcases idx_ways (fun y : Jb => decide (i < y.i)) js with ⟨_, hall⟩ | ⟨k, y, hi, _, _, _, hb⟩
      · exact hall x hm
      · rw [hi, if_neg (by omega)] at hx
        exact hb x (by simpa using hx)
    have : ¬ i < x.i := by simpa using h2
    omega
  have hb : ∀ x, x ∈ js.drop (place js i) → i < x.i := fun x hx => by
    unfold place at hx
    rcases idx_ways (fun y : Jb => decide (i < y.i)) js with ⟨hi, _⟩ | ⟨k, y, hi, _, hy, hp, _⟩
    · rw [hi] at hx
      simp at hx
    · rw [hi, if_neg (by omega)] at hx
      exact srt_above_at hs hy (by simpa using hp) x (by simpa using hx)
  have h := alt_gap ha hb (some z)
  rw [← e] at h
  rw [h]
  simp

theorem set_alt {js : List Jb} {k : Nat} {y z : Jb} (hs : Srt (-1) js) (hy : js[k]? = some y) : js.set k z = alt js y.i (some z) := by
  have hlt := (List.getElem?_eq_some_iff.1 hy).1
  have e : js = js.take k ++ y :: js.drop (k + 1) := by rw [← drop_at hy, List.take_append_drop]
  have e2 : js.set k z = js.take k ++ z :: js.drop (k + 1) := List.set_eq_take_append_cons_drop.trans (by rw [if_pos hlt])
  have hs' := hs
  rw [e] at hs'
  have h := alt_mid hs' (some z)
  rw [← e] at h
  rw [e2, h]
  simp

/-- What put, drop and ring do, at a right book and entry. -/
theorem does_any {js : List Jb} {rs : List Rg} {x : En} (hok : Ok js rs) (hx : x.chk = 0) : Does js rs x := by
  obtain ⟨_, ⟨hj0, _⟩, _⟩ := En.right hx
  refine ⟨fun hk W ab gj gr hO => ?_, fun hk W ab gj gr hO => ?_, fun hk W ab gj gr hO => ?_⟩
  · rcases jobAt_ways js x.j with ⟨hja, htab⟩ | ⟨k, z, hja, hz, htab⟩
    · have hst : step js rs x = (alt js x.j (some ⟨x.j, x.v, x.t⟩), rs) := by rw [step, if_pos hk, htab]
      rw [hst, ← place_alt hok.srt htab]
      refine left_more ?_
      by_cases hr : 0 ≤ idx (fun y => decide (x.j < y.i)) js
      · exact put_mid x ab gj gr js rs W hO hok.few hja hr
      · exact put_end x ab gj gr js rs W hO hok.few hja (by omega)
    · have hst : step js rs x = (js, rs) := by rw [step, if_pos hk, htab]
      rw [hst]
      exact left_more (put_there x ab gj gr js rs W hO hok.few (by rw [hja]; omega))
  · have hst : step js rs x = (js.filter (fun y => !(y.i == x.j)), rs) := by rw [step, if_neg (by omega), if_pos hk, alt_filter hok.srt (by omega)]
    rw [hst]
    exact left_more (drop_any x ab gj gr js rs W hO hok.few)
  · rcases jobAt_ways js x.j with ⟨hja, htab⟩ | ⟨k, z, hja, hz, htab⟩
    · have hst : step js rs x = (js, rs) := by rw [step, if_neg (by omega), if_neg (by omega), if_pos hk, htab]
      rw [hst]
      exact left_more (ring_lost x ab gj gr js rs W hO hok.few hja)
    · have hst : step js rs x = if z.n = x.t ∧ rs.length < 60 then (alt js x.j (some ⟨x.j, z.e, x.t + z.e⟩), rs ++ [⟨x.j, x.t, x.c⟩]) else (js, rs) := by
        rw [step, if_neg (by omega), if_neg (by omega), if_pos hk, htab]
      rw [hst]
      by_cases hn : z.n = x.t
      · by_cases hf : rs.length < 60
        · rw [if_pos ⟨hn, hf⟩]
          have hzi := (tab_id htab).1
          have h := ring_do x ab gj gr js rs W hO hok.few k z hja hz hn hf (hok.jobs z (tab_id htab).2)
          rw [set_alt hok.srt hz, hzi, hn] at h
          exact h
        · rw [if_neg (fun h => hf h.2)]
          exact left_more (ring_full x ab gj gr js rs W hO hok.few k z hja hz hn (by omega))
      · rw [if_neg (fun h => hn h.1)]
        exact left_more (ring_other x ab gj gr js rs W hO hok.few k z hja hz hn)

/-- book.Apply, at every book and entry; its rows lie in blocks of their own types. -/
theorem bk_applyT (v1 v2 : Value) (js : List Jb) (rs : List Rg) (x : En) (w : World) (h1 : JobSl w v1 js) (h2 : RungSl w v2 rs) :
    Calls Try.prog 62 #[.agg #[v1, v2], x.val] w fun e w' => ∃ u1 u2, e = .returned (.tuple #[.agg #[u1, u2], .int .i64 (app js rs x).2]) ∧ JobSl w' u1 (app js rs x).1.1 ∧ RungSl w' u2 (app js rs x).1.2 ∧ Below w.heap.size w w' ∧ Roomy u2 ∧ Typed 64 w' u1 ∧ Typed 91 w' u2 := by
  obtain ⟨a1, c1, a2, c2, rfl, rfl⟩ := bk_slices h1 h2
  unfold app
  by_cases hb : ckBook js rs = 0
  · rw [if_neg (by simpa using hb)]
    by_cases hx : x.chk = 0
    · rw [if_neg (by simpa using hx)]
      exact bk_app_ok a1 a2 _ _ c1 c2 js rs x w h1 h2 (ckBook_zero.1 hb) hx (does_any (ckBook_zero.1 hb) hx)
    · rw [if_pos hx]
      exact zero_typed (bk_app_entry a1 a2 _ _ c1 c2 js rs x w h1 h2 hb hx)
  · rw [if_pos hb]
    exact zero_typed (bk_app_book a1 a2 _ _ c1 c2 js rs x w h1 h2 hb)

/-- book.Apply, at every book and entry; what it answers bears its length. -/
theorem bk_applyR (v1 v2 : Value) (js : List Jb) (rs : List Rg) (x : En) (w : World) (h1 : JobSl w v1 js) (h2 : RungSl w v2 rs) :
    Calls Try.prog 62 #[.agg #[v1, v2], x.val] w fun e w' => ∃ u1 u2, e = .returned (.tuple #[.agg #[u1, u2], .int .i64 (app js rs x).2]) ∧ JobSl w' u1 (app js rs x).1.1 ∧ RungSl w' u2 (app js rs x).1.2 ∧ Below w.heap.size w w' ∧ Roomy u2 :=
  (bk_applyT v1 v2 js rs x w h1 h2).mono fun _ _ ⟨u1, u2, g1, g2, g3, g4, g5, _⟩ => ⟨u1, u2, g1, g2, g3, g4, g5⟩

end Go.Proofs.Ytbokdcdnandgbae
