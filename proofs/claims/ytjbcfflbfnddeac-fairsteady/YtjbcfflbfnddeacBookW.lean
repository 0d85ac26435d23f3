/- Words on books that all walks share: a book that is answered, rows of one's own, a right entry. -/
import Derived.Test.YtjbcfflbfnddeacBookD
import Derived.Deep.CutBlock
namespace Go.Proofs.Ytjbcfflbfnddeac
open Go.RowKit

theorem ret_book {fn : Func} {R : Ending → World → Prop} {a : Act} {W : World} {b p q : Nat} {v1 v2 y : Value} (hf : fn.results = #[.cell p 35, .tmp q]) (hd : a.defers = [])
    (h2 : a.tmps.getD p undef = .pointer (some ⟨b, 0, none⟩)) (h3 : a.tmps.getD q undef = y) (hR : W.heap[b]? = some (boxB v1 v2)) (hp : R (.returned (.tuple #[.agg #[v1, v2], y])) W) :
    bodyPost Try.prog fn R .ret a W := by
  have c0 : ∀ i, W.cell? ⟨b, i, none⟩ = #[v1, v2][i]? := fun i => Joins.cell_of_block hR i
  refine bodyPost_ret (v := .tuple #[.agg #[v1, v2], y]) ?_ hd hp
  rw [results_cell_tmp hf, h2, h3]
  simp [go_sem, c0]

abbrev nil0 : Value := .slice none 0 0

theorem owns_slice {w : World} {base : Nat} {e : TypeId} {size : Nat} {v : Value} {n : Nat} {xs : List Value} (h : w.ownsRow base e size v n xs) : ∃ ao cap, v = .slice ao n cap := by
  rcases h.2 with ⟨h1, h2⟩ | ⟨g, cap, cur, h1, _⟩
  · exact ⟨none, 0, by rw [h1, h2]⟩
  · exact ⟨_, cap, h1⟩

/-- A slice value whose length its capacity bears. -/
def Roomy (v : Value) : Prop := ∃ a n c, v = .slice a n c ∧ n ≤ c

theorem owns_roomy {w : World} {base : Nat} {e : TypeId} {size : Nat} {v : Value} {n : Nat} {xs : List Value} (h : w.ownsRow base e size v n xs) : Roomy v := by
  rcases h.2 with ⟨h1, _⟩ | ⟨g, cap, cur, h1, _, _, h4, _⟩
  · exact ⟨none, 0, 0, h1, Nat.le_refl _⟩
  · exact ⟨_, n, cap, h1, h4⟩

theorem owns_keep {w w' : World} {base : Nat} {e : TypeId} {size : Nat} {v : Value} {n : Nat} {xs : List Value} (h : w.ownsRow base e size v n xs) (hk : ∀ (b : Nat) (cur : Array Value), base ≤ b → w.heap[b]? = some (.cells cur e) → w'.heap[b]? = some (.cells cur e)) : w'.ownsRow base e size v n xs := by
  refine ⟨h.1, ?_⟩
  rcases h.2 with h' | ⟨g, cap, cur, h1, h2, h3, h4⟩
  · exact Or.inl h'
  · exact Or.inr ⟨g, cap, cur, h1, h2, hk g _ h2 h3, h4⟩

theorem owns_ge {w : World} {base : Nat} {e : TypeId} {size : Nat} {v : Value} {n : Nat} {xs : List Value} (h : w.ownsRow base e size v n xs) {b : Nat} (hb : some b = v.ownBlock) : base ≤ b := (h.lt b hb.symm).1

theorem one3 (a b c : Int) : ∀ u ∈ [Value.int .i64 a, .int .i64 b, .int .i64 c], u.oneCell' = true := fun u hu => by
  simp only [List.mem_cons, List.not_mem_nil, or_false] at hu
  rcases hu with rfl | rfl | rfl <;> rfl

theorem owns_type {w : World} {base : Nat} {e : TypeId} {size : Nat} {v : Value} {n : Nat} {xs : List Value} (h : w.ownsRow base e size v n xs) {b : Nat} (hb : some b = v.ownBlock) : ∃ cur, w.heap[b]? = some (.cells cur e) := by
  rcases h.2 with ⟨h1, _⟩ | ⟨g, cap, cur, h1, _, h3, _⟩
  · rw [h1] at hb; cases hb
  · rw [h1] at hb
    obtain rfl : b = g := Option.some.inj hb
    exact ⟨cur, h3⟩

/-- What a right entry is. -/
theorem En.right {x : En} (h : x.chk = 0) : (0 ≤ x.k ∧ x.k ≤ 3) ∧ (0 ≤ x.j ∧ x.j ≤ 5) ∧ (0 ≤ x.v ∧ x.v ≤ 100) ∧ (0 ≤ x.t ∧ x.t ≤ 100000) ∧ (0 ≤ x.c ∧ x.c ≤ 2) ∧ (x.k = 1 → 1 ≤ x.v) := by
  unfold En.chk Ytjbcfflbfnddeac.chk at h
  split at h
  · cases h
  · split at h
    · cases h
    · split at h
      · cases h
      · split at h
        · cases h
        · rename_i h1 h2 h3 h4
          have h2' : inR x.j x.v x.t x.c = true := by simpa using h2
          have h5 := of_decide_eq_true h2'
          refine ⟨by omega, by omega, by omega, by omega, by omega, by omega⟩

theorem bk_slices {w : World} {v1 v2 : Value} {js : List Jb} {rs : List Rg} (h1 : JobSl w v1 js) (h2 : RungSl w v2 rs) : ∃ a1 c1 a2 c2, v1 = .slice a1 js.length c1 ∧ v2 = .slice a2 rs.length c2 := by
  obtain ⟨a1, c1, e1, _⟩ := h1
  obtain ⟨a2, c2, e2, _⟩ := h2
  exact ⟨a1, c1, a2, c2, e1, e2⟩

/-- What a call that applies answers: a book as the model has it. -/
abbrev Answers (fn : FuncId) (args : Array Value) (w : World) (r : (List Jb × List Rg) × Int) : Prop :=
  Calls Try.prog fn args w fun e w' => ∃ u1 u2, e = .returned (.tuple #[.agg #[u1, u2], .int .i64 r.2]) ∧ JobSl w' u1 r.1.1 ∧ RungSl w' u2 r.1.2 ∧ Below w.heap.size w w'

theorem zero_book {fn : FuncId} {args : Array Value} {w : World} {n : Int} (h : Calls Try.prog fn args w fun e w' => e = .returned (.tuple #[.agg #[nil0, nil0], .int .i64 n]) ∧ Below w.heap.size w w') : Answers fn args w (([], []), n) :=
  h.mono fun _ _ ⟨he, hb⟩ => ⟨nil0, nil0, he, SlOf.nil _ _, SlOf.nil _ _, hb⟩

theorem zero_roomy {fn : FuncId} {args : Array Value} {w : World} {n : Int} (h : Calls Try.prog fn args w fun e w' => e = .returned (.tuple #[.agg #[nil0, nil0], .int .i64 n]) ∧ Below w.heap.size w w') :
    Calls Try.prog fn args w fun e w' => ∃ u1 u2, e = .returned (.tuple #[.agg #[u1, u2], .int .i64 n]) ∧ JobSl w' u1 [] ∧ RungSl w' u2 [] ∧ Below w.heap.size w w' ∧ Roomy u2 :=
  h.mono fun _ _ ⟨he, hb⟩ => ⟨nil0, nil0, he, SlOf.nil _ _, SlOf.nil _ _, hb, ⟨none, 0, 0, rfl, Nat.le_refl _⟩⟩

/-- Records of numbers, where a block of two slices is written. -/
theorem SlOf.beside {α : Type} {cs : α → List Value} {k : Nat} (hcs : ∀ (x : α) (i : Nat) (v : Value), (cs x)[i]? = some v → ∃ n, v = Value.int .i64 n) {w : World} {v : Value} {xs : List α} (h : SlOf cs k w v xs) {B n1 n2 c1 c2 : Nat} {a1 a2 : Option Addr}
    (hB : w.heap[B]? = some (boxB (.slice a1 n1 c1) (.slice a2 n2 c2))) (i : Nat) (u : Value) : SlOf cs k (w.setCell ⟨B, i, none⟩ u) v xs := by
  obtain ⟨a, c, rfl, hc⟩ := h
  refine ⟨a, c, rfl, ?_⟩
  rcases hc with hc | ⟨b, off, rfl, hE⟩
  · exact Or.inl hc
  · refine Or.inr ⟨b, off, rfl, fun j x hj i' v' hi' => ?_⟩
    have hcell := hE j x hj i' v' hi'
    have hne : b ≠ B := fun e => by
      obtain ⟨n, rfl⟩ := hcs x i' v' hi'
      rw [e, Joins.cell_of_block hB] at hcell
      have h2 : ∀ (m : Nat), #[Value.slice a1 n1 c1, Value.slice a2 n2 c2][m]? = some (Value.int .i64 n) → False := fun m hm => by
        match m, hm with
        | 0, hm => simp at hm
        | 1, hm => simp at hm
        | m + 2, hm => simp at hm
      exact h2 _ hcell
    have hh : (w.setCell ⟨B, i, none⟩ u).heap[b]? = w.heap[b]? := Below.heap_setCell _ _ _ _ (by show b ≠ B; exact hne)
    have : (w.setCell ⟨B, i, none⟩ u).cell? ⟨b, off + j * k + i', none⟩ = w.cell? ⟨b, off + j * k + i', none⟩ := by simp only [World.cell?, hh]
    rw [this]; exact hcell

theorem Jb.ints (x : Jb) (i : Nat) (v : Value) (h : x.cells[i]? = some v) : ∃ n, v = .int .i64 n := by
  match i, h with
  | 0, h => exact ⟨_, (Option.some.inj h).symm⟩
  | 1, h => exact ⟨_, (Option.some.inj h).symm⟩
  | 2, h => exact ⟨_, (Option.some.inj h).symm⟩
  | i + 3, h => simp [Jb.cells] at h
theorem Rg.ints (x : Rg) (i : Nat) (v : Value) (h : x.cells[i]? = some v) : ∃ n, v = .int .i64 n := by
  match i, h with
  | 0, h => exact ⟨_, (Option.some.inj h).symm⟩
  | 1, h => exact ⟨_, (Option.some.inj h).symm⟩
  | 2, h => exact ⟨_, (Option.some.inj h).symm⟩
  | i + 3, h => simp [Rg.cells] at h

theorem bfold_bad {js : List Jb} {rs : List Rg} {x : En} {r : List En} (h : (app js rs x).2 ≠ 0) : bfold js rs (x :: r) = (([], []), (app js rs x).2) := by rw [bfold, if_pos h]
theorem bfold_ok {js : List Jb} {rs : List Rg} {x : En} {r : List En} (h : (app js rs x).2 = 0) : bfold js rs (x :: r) = bfold (app js rs x).1.1 (app js rs x).1.2 r := by rw [bfold, if_neg (by simpa using h)]

theorem step_below {w a b : World} (h : Below w.heap.size w a) (hb : Below a.heap.size a b) : Below w.heap.size w b := h.trans (hb.mono h.size)

end Go.Proofs.Ytjbcfflbfnddeac
