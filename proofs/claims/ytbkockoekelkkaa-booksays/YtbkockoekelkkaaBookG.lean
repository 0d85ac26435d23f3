/- The reference's Applied at every book and entry; the walk of its BookOf. -/
import Derived.Test.YtbkockoekelkkaaBookF
namespace Go.Proofs.Ytbkockoekelkkaa
open Go.RowKit

theorem bk_slices {w : World} {v1 v2 : Value} {js : List Jb} {rs : List Rg} (h1 : JobSl w v1 js) (h2 : RungSl w v2 rs) : ∃ a1 c1 a2 c2, v1 = .slice a1 js.length c1 ∧ v2 = .slice a2 rs.length c2 := by
  obtain ⟨a1, c1, e1, _⟩ := h1
  obtain ⟨a2, c2, e2, _⟩ := h2
  exact ⟨a1, c1, a2, c2, e1, e2⟩

set_option maxHeartbeats 2000000 in
theorem ref_app_book (a1 a2 : Option Addr) (n1 n2 c1 c2 : Nat) (js : List Jb) (rs : List Rg) (x : En) (w : World) (h1 : JobSl w (.slice a1 n1 c1) js) (h2 : RungSl w (.slice a2 n2 c2) rs) (hbad : ckBook js rs ≠ 0) :
    Calls Try.prog 7 #[.agg #[.slice a1 n1 c1, .slice a2 n2 c2], x.val] w fun e w' => e = .returned (.tuple #[.agg #[nil0, nil0], .int .i64 (ckBook js rs)]) ∧ Below w.heap.size w w' := by
  have H1 : Hid (JobSl w (.slice a1 n1 c1) js) := h1
  have H2 : Hid (RungSl w (.slice a2 n2 c2) rs) := h2
  have hck := fun W g1 g2 => ref_ckBook (.slice a1 n1 c1) (.slice a2 n2 c2) js rs W g1 g2
  have hb : (ckBook js rs != 0) = true := by rw [bne_iff_ne]; exact hbad
  clear h1 h2 hbad
  generalize ckBook js rs = n at *
  go_enter Try.func7, Try.ntmps7
  go_wp2_with fail
  have hB0 := grew (grew (grew (Below.refl w.heap.size w) (boxB (.slice a1 n1 c1) (.slice a2 n2 c2))) (boxE x.k x.j x.v x.t x.c)) (boxB nil0 nil0)
  refine (hck _ (by exact H1.out.later hB0) (by exact H2.out.later hB0)).mono ?_
  rintro e w1 ⟨rfl, hb1⟩
  have y2 : w1.heap[w.heap.size + 1 + 1]? = some (boxB nil0 nil0) := by
    rw [hb1.block _ (by simp only [World.size_alloc]; omega)]
    have := heap_new ((w.alloc (boxB (.slice a1 n1 c1) (.slice a2 n2 c2))).alloc (boxE x.k x.j x.v x.t x.c)) (boxB nil0 nil0)
    rw [World.size_alloc, World.size_alloc] at this
    exact this
  have hB1 : Below w.heap.size w w1 := hB0.trans (hb1.mono (by simp only [World.size_alloc]; omega))
  clear hb1 hB0 hck H1 H2
  have z2 : ∀ i, w1.cell? ⟨w.heap.size + 1 + 1, i, none⟩ = #[nil0, nil0][i]? := fun i => Joins.cell_of_block y2 i
  have f2 : ∀ i, w1.frozen? ⟨w.heap.size + 1 + 1, i, none⟩ = false := fun i => Joins.unfrozen_of_block y2 i
  go_wp2
  have e0 : (w1.setCell ⟨w.heap.size + 1 + 1, 0, none⟩ nil0).heap[w.heap.size + 1 + 1]? = some (boxB nil0 nil0) := by rw [Joins.block_setCell y2]; rfl
  have e1 : ((w1.setCell ⟨w.heap.size + 1 + 1, 0, none⟩ nil0).setCell ⟨w.heap.size + 1 + 1, 1, none⟩ nil0).heap[w.heap.size + 1 + 1]? = some (boxB nil0 nil0) := by rw [Joins.block_setCell e0]; rfl
  exact ret_book (v1 := nil0) (v2 := nil0) Try.results7 rfl rfl rfl e1 ⟨rfl, (hB1.setCell (p := ⟨w.heap.size + 1 + 1, 0, none⟩) (by show w.heap.size ≤ w.heap.size + 1 + 1; omega) _).setCell (p := ⟨w.heap.size + 1 + 1, 1, none⟩) (by show w.heap.size ≤ w.heap.size + 1 + 1; omega) _⟩

set_option maxHeartbeats 2000000 in
theorem ref_app_entry (a1 a2 : Option Addr) (n1 n2 c1 c2 : Nat) (js : List Jb) (rs : List Rg) (x : En) (w : World) (h1 : JobSl w (.slice a1 n1 c1) js) (h2 : RungSl w (.slice a2 n2 c2) rs) (hok : ckBook js rs = 0) (hbad : x.chk ≠ 0) :
    Calls Try.prog 7 #[.agg #[.slice a1 n1 c1, .slice a2 n2 c2], x.val] w fun e w' => e = .returned (.tuple #[.agg #[nil0, nil0], .int .i64 x.chk]) ∧ Below w.heap.size w w' := by
  have H1 : Hid (JobSl w (.slice a1 n1 c1) js) := h1
  have H2 : Hid (RungSl w (.slice a2 n2 c2) rs) := h2
  have hck := fun W g1 g2 => ref_ckBook (.slice a1 n1 c1) (.slice a2 n2 c2) js rs W g1 g2
  rw [hok] at hck
  have hce : ∀ W, Calls Try.prog 21 #[ev x.k x.j x.v x.t x.c] W fun e w' => e = .returned (.int .i64 x.chk) ∧ Below W.heap.size W w' := fun W => ref_check x.k x.j x.v x.t x.c W
  have hb : (x.chk != 0) = true := by rw [bne_iff_ne]; exact hbad
  clear h1 h2 hbad hok
  generalize x.chk = n at *
  go_enter Try.func7, Try.ntmps7
  go_wp2_with fail
  have hB0 := grew (grew (grew (Below.refl w.heap.size w) (boxB (.slice a1 n1 c1) (.slice a2 n2 c2))) (boxE x.k x.j x.v x.t x.c)) (boxB nil0 nil0)
  refine (hck _ (by exact H1.out.later hB0) (by exact H2.out.later hB0)).mono ?_
  rintro e w1 ⟨rfl, hb1⟩
  have y1 : w1.heap[w.heap.size + 1]? = some (boxE x.k x.j x.v x.t x.c) := by
    rw [hb1.block _ (by simp only [World.size_alloc]; omega)]
    have := heap_new (w.alloc (boxB (.slice a1 n1 c1) (.slice a2 n2 c2))) (boxE x.k x.j x.v x.t x.c)
    rw [World.size_alloc] at this
    exact heap_old this _
  have y2 : w1.heap[w.heap.size + 1 + 1]? = some (boxB nil0 nil0) := by
    rw [hb1.block _ (by simp only [World.size_alloc]; omega)]
    have := heap_new ((w.alloc (boxB (.slice a1 n1 c1) (.slice a2 n2 c2))).alloc (boxE x.k x.j x.v x.t x.c)) (boxB nil0 nil0)
    rw [World.size_alloc, World.size_alloc] at this
    exact this
  have hB1 : Below w.heap.size w w1 := hB0.trans (hb1.mono (by simp only [World.size_alloc]; omega))
  clear hb1 hB0 hck H1 H2
  have z1 : ∀ i, w1.cell? ⟨w.heap.size + 1, i, none⟩ = #[Value.int .i64 x.k, .int .i64 x.j, .int .i64 x.v, .int .i64 x.t, .int .i64 x.c][i]? := fun i => Joins.cell_of_block y1 i
  go_wp2_with fail
  refine (hce _).mono ?_
  rintro e w2 ⟨rfl, hb2⟩
  replace y2 := heap_below y2 hb2 (heap_lt y2)
  have hB2 := hB1.trans (hb2.mono hB1.size)
  clear hb2 hB1 hce z1 y1
  have z2 : ∀ i, w2.cell? ⟨w.heap.size + 1 + 1, i, none⟩ = #[nil0, nil0][i]? := fun i => Joins.cell_of_block y2 i
  have f2 : ∀ i, w2.frozen? ⟨w.heap.size + 1 + 1, i, none⟩ = false := fun i => Joins.unfrozen_of_block y2 i
  go_wp2
  have e0 : (w2.setCell ⟨w.heap.size + 1 + 1, 0, none⟩ nil0).heap[w.heap.size + 1 + 1]? = some (boxB nil0 nil0) := by rw [Joins.block_setCell y2]; rfl
  have e1 : ((w2.setCell ⟨w.heap.size + 1 + 1, 0, none⟩ nil0).setCell ⟨w.heap.size + 1 + 1, 1, none⟩ nil0).heap[w.heap.size + 1 + 1]? = some (boxB nil0 nil0) := by rw [Joins.block_setCell e0]; rfl
  exact ret_book (v1 := nil0) (v2 := nil0) Try.results7 rfl rfl rfl e1 ⟨rfl, (hB2.setCell (p := ⟨w.heap.size + 1 + 1, 0, none⟩) (by show w.heap.size ≤ w.heap.size + 1 + 1; omega) _).setCell (p := ⟨w.heap.size + 1 + 1, 1, none⟩) (by show w.heap.size ≤ w.heap.size + 1 + 1; omega) _⟩

/-- What a call that applies answers: a book as the model has it. -/
abbrev Answers (fn : FuncId) (args : Array Value) (w : World) (r : (List Jb × List Rg) × Int) : Prop :=
  Calls Try.prog fn args w fun e w' => ∃ u1 u2, e = .returned (.tuple #[.agg #[u1, u2], .int .i64 r.2]) ∧ JobSl w' u1 r.1.1 ∧ RungSl w' u2 r.1.2 ∧ Below w.heap.size w w'

theorem zero_book {fn : FuncId} {args : Array Value} {w : World} {n : Int} (h : Calls Try.prog fn args w fun e w' => e = .returned (.tuple #[.agg #[nil0, nil0], .int .i64 n]) ∧ Below w.heap.size w w') : Answers fn args w (([], []), n) :=
  h.mono fun _ _ ⟨he, hb⟩ => ⟨nil0, nil0, he, SlOf.nil _ _, SlOf.nil _ _, hb⟩

theorem zero_roomy {fn : FuncId} {args : Array Value} {w : World} {n : Int} (h : Calls Try.prog fn args w fun e w' => e = .returned (.tuple #[.agg #[nil0, nil0], .int .i64 n]) ∧ Below w.heap.size w w') :
    Calls Try.prog fn args w fun e w' => ∃ u1 u2, e = .returned (.tuple #[.agg #[u1, u2], .int .i64 n]) ∧ JobSl w' u1 [] ∧ RungSl w' u2 [] ∧ Below w.heap.size w w' ∧ Roomy u2 :=
  h.mono fun _ _ ⟨he, hb⟩ => ⟨nil0, nil0, he, SlOf.nil _ _, SlOf.nil _ _, hb, ⟨none, 0, 0, rfl, Nat.le_refl _⟩⟩

/-- The reference's Applied, at every book and entry; what it answers bears its length. -/
theorem ref_appliedR (v1 v2 : Value) (js : List Jb) (rs : List Rg) (x : En) (w : World) (h1 : JobSl w v1 js) (h2 : RungSl w v2 rs) :
    Calls Try.prog 7 #[.agg #[v1, v2], x.val] w fun e w' => ∃ u1 u2, e = .returned (.tuple #[.agg #[u1, u2], .int .i64 (app js rs x).2]) ∧ JobSl w' u1 (app js rs x).1.1 ∧ RungSl w' u2 (app js rs x).1.2 ∧ Below w.heap.size w w' ∧ Roomy u2 := by
  obtain ⟨a1, c1, a2, c2, rfl, rfl⟩ := bk_slices h1 h2
  unfold app
  by_cases hb : ckBook js rs = 0
  · rw [if_neg (by simpa using hb)]
    by_cases hx : x.chk = 0
    · rw [if_neg (by simpa using hx)]
      exact ref_app_ok a1 a2 _ _ c1 c2 js rs x w h1 h2 (ckBook_zero.1 hb) hx
    · rw [if_pos hx]
      exact zero_roomy (ref_app_entry a1 a2 _ _ c1 c2 js rs x w h1 h2 hb hx)
  · rw [if_pos hb]
    exact zero_roomy (ref_app_book a1 a2 _ _ c1 c2 js rs x w h1 h2 hb)

/-- The reference's Applied, at every book and entry. -/
theorem ref_applied (v1 v2 : Value) (js : List Jb) (rs : List Rg) (x : En) (w : World) (h1 : JobSl w v1 js) (h2 : RungSl w v2 rs) : Answers 7 #[.agg #[v1, v2], x.val] w (app js rs x) :=
  (ref_appliedR v1 v2 js rs x w h1 h2).mono fun _ _ ⟨u1, u2, g1, g2, g3, g4, _⟩ => ⟨u1, u2, g1, g2, g3, g4⟩

/-- Records of numbers, where a block of two slices is written. -/
theorem SlOf.beside {α : Type} {cs : α → List Value} {k : Nat} (hcs : ∀ (x : α) (i : Nat) (v : Value), (cs x)[i]? = some v → ∃ n, v = Value.int .i64 n) {w : World} {v : Value} {xs : List α} (h : SlOf cs k w v xs) {B n1 n2 c1 c2 : Nat} {a1 a2 : Option Addr}
    (hB : w.heap[B]? = some (boxB (.slice a1 n1 c1) (.slice a2 n2 c2))) (i : Nat) (u : Value) : SlOf cs k (w.setCell ⟨B, i, none⟩ u) v xs := by
  obtain ⟨a, c, rfl, hc⟩ := h
  refine ⟨a, c, rfl, ?_⟩
  rcases hc with hc | ⟨b, off, rfl, hE⟩
  · exact Or.inl hc
  · refine Or.inr ⟨b, off, rfl, fun j x hj i' v' hi' => ?_⟩
    have hcell := hE j x hj i' v' hi'
    have hne : b ≠ B := fun e => by
      obtain ⟨n, rfl⟩ := hcs x i' v' hi'
      rw [e, Joins.cell_of_block hB] at hcell
      have h2 : ∀ (m : Nat), #[Value.slice a1 n1 c1, Value.slice a2 n2 c2][m]? = some (Value.int .i64 n) → False := fun m hm => by
        match m, hm with
        | 0, hm => simp at hm
        | 1, hm => simp at hm
        | m + 2, hm => simp at hm
      exact h2 _ hcell
    have hh : (w.setCell ⟨B, i, none⟩ u).heap[b]? = w.heap[b]? := Below.heap_setCell _ _ _ _ (by show b ≠ B; exact hne)
    have : (w.setCell ⟨B, i, none⟩ u).cell? ⟨b, off + j * k + i', none⟩ = w.cell? ⟨b, off + j * k + i', none⟩ := by simp only [World.cell?, hh]
    rw [this]; exact hcell

theorem Jb.ints (x : Jb) (i : Nat) (v : Value) (h : x.cells[i]? = some v) : ∃ n, v = .int .i64 n := by
  match i, h with
  | 0, h => exact ⟨_, (Option.some.inj h).symm⟩
  | 1, h => exact ⟨_, (Option.some.inj h).symm⟩
  | 2, h => exact ⟨_, (Option.some.inj h).symm⟩
  | i + 3, h => simp [Jb.cells] at h
theorem Rg.ints (x : Rg) (i : Nat) (v : Value) (h : x.cells[i]? = some v) : ∃ n, v = .int .i64 n := by
  match i, h with
  | 0, h => exact ⟨_, (Option.some.inj h).symm⟩
  | 1, h => exact ⟨_, (Option.some.inj h).symm⟩
  | 2, h => exact ⟨_, (Option.some.inj h).symm⟩
  | i + 3, h => simp [Rg.cells] at h

end Go.Proofs.Ytbkockoekelkkaa
