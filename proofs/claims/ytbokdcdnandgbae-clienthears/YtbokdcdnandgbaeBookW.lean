/- The walks of the reference's SameBook and JobAt. Words on books that all walks share: a book that is answered, rows of one's own, a right entry. -/
import Derived.Test.YtbokdcdnandgbaeSlJob
import Derived.Test.YtbokdcdnandgbaeSlRung
import Derived.Deep.CutBlock
namespace Go.Proofs.Ytbokdcdnandgbae
open Go.RowKit
open scoped Classical

abbrev most : Nat := 9223372036854775807

set_option maxHeartbeats 2000000 in
/-- The reference's SameBook, at every two books. -/
theorem ref_same (v1 v2 u1 u2 : Value) (js js' : List Jb) (rs rs' : List Rg) (w : World) (h1 : JobSl w v1 js) (h2 : RungSl w v2 rs) (k1 : JobSl w u1 js') (k2 : RungSl w u2 rs') (hn1 : js.length ≤ most) (hn2 : rs.length ≤ most) :
    Calls Try.prog 61 #[.agg #[v1, v2], .agg #[u1, u2]] w fun e w' => e = .returned (.bool (decide (js = js') && decide (rs = rs'))) ∧ Below w.heap.size w w' := by
  have H1 : Hid (JobSl w v1 js) := h1
  have H2 : Hid (RungSl w v2 rs) := h2
  have K1 : Hid (JobSl w u1 js') := k1
  have K2 : Hid (RungSl w u2 rs') := k2
  obtain ⟨a1, c1, rfl, _⟩ := h1
  obtain ⟨a2, c2, rfl, _⟩ := h2
  obtain ⟨b1, d1, rfl, _⟩ := k1
  obtain ⟨b2, d2, rfl, _⟩ := k2
  have hq1 := fun W g1 g2 => equalJ (.slice a1 js.length c1) (.slice b1 js'.length d1) js js' W g1 g2 hn1
  have hq2 := fun W g1 g2 => equalR (.slice a2 rs.length c2) (.slice b2 rs'.length d2) rs rs' W g1 g2 hn2
  clear hn1 hn2
  generalize hm1 : js.length = n1 at *
  generalize hm2 : rs.length = n2 at *
  generalize hm3 : js'.length = n3 at *
  generalize hm4 : rs'.length = n4 at *
  clear hm1 hm2 hm3 hm4
  generalize decide (js = js') = p at *
  generalize decide (rs = rs') = q at *
  go_enter Try.func61, Try.ntmps61
  go_wp2_with fail
  have hB0 := grew (grew (Below.refl w.heap.size w) (boxB (.slice a1 n1 c1) (.slice a2 n2 c2))) (boxB (.slice b1 n3 d1) (.slice b2 n4 d2))
  refine (hq1 _ (by exact H1.out.later hB0) (by exact K1.out.later hB0)).mono ?_
  rintro e w1 ⟨rfl, hb1⟩
  have x1 : w1.heap[w.heap.size]? = some (boxB (.slice a1 n1 c1) (.slice a2 n2 c2)) := by rw [hb1.block _ (by simp only [World.size_alloc]; omega)]; exact heap_old (heap_new _ _) _
  have x2 : w1.heap[w.heap.size + 1]? = some (boxB (.slice b1 n3 d1) (.slice b2 n4 d2)) := by
    rw [hb1.block _ (by simp only [World.size_alloc]; omega)]
    have := heap_new (w.alloc (boxB (.slice a1 n1 c1) (.slice a2 n2 c2))) (boxB (.slice b1 n3 d1) (.slice b2 n4 d2))
    rwa [World.size_alloc] at this
  have hB1 : Below w.heap.size w w1 := hB0.trans (hb1.mono (by simp; omega))
  clear hb1 hB0 hq1
  have y1 : ∀ i, w1.cell? ⟨w.heap.size, i, none⟩ = #[Value.slice a1 n1 c1, .slice a2 n2 c2][i]? := fun i => Joins.cell_of_block x1 i
  have y2 : ∀ i, w1.cell? ⟨w.heap.size + 1, i, none⟩ = #[Value.slice b1 n3 d1, .slice b2 n4 d2][i]? := fun i => Joins.cell_of_block x2 i
  clear x1 x2
  cases p with
  | false =>
    clear hq2
    go_wp2
    go_ret
    exact ⟨rfl, hB1⟩
  | true =>
    go_wp2_with fail
    refine (hq2 _ (by exact H2.out.later hB1) (by exact K2.out.later hB1)).mono ?_
    rintro e w2 ⟨rfl, hb2⟩
    have hB2 := hB1.trans (hb2.mono hB1.size)
    clear hb2 hq2 hB1 y1 y2
    go_wp2
    go_ret
    exact ⟨by cases q <;> rfl, hB2⟩

/-- Where the first job of this ID is; -1: nowhere. -/
def jobAt (js : List Jb) (id : Int) : Int := match js.findIdx? (fun x => x.i == id) with
  | some k => k
  | none => -1

theorem jobAt_some {js : List Jb} {id : Int} {k : Nat} {x : Jb} (hx : js[k]? = some x) (he : x.i = id) (hb : ∀ y, y ∈ js.take k → y.i ≠ id) : jobAt js id = k := by
  have hlt := (List.getElem?_eq_some_iff.1 hx).1
  have : js.findIdx? (fun x => x.i == id) = some k := by
    rw [List.findIdx?_eq_some_iff_getElem]
    refine ⟨hlt, ?_, fun j hj => ?_⟩
    · have := (List.getElem?_eq_some_iff.1 hx).2
      rw [this]; simpa using he
    · have hm : js[j]'(by omega) ∈ js.take k := by
        rw [List.mem_take_iff_getElem]
        exact ⟨j, by omega, rfl⟩
      have := hb _ hm
      simpa using this
  rw [jobAt, this]

theorem jobAt_none {js : List Jb} {id : Int} (hb : ∀ y, y ∈ js → y.i ≠ id) : jobAt js id = -1 := by
  have : js.findIdx? (fun x => x.i == id) = none := by
    rw [List.findIdx?_eq_none_iff]
    intro x hx
    simpa using hb x hx
  rw [jobAt, this]

set_option maxHeartbeats 2000000 in
/-- The reference's JobAt, at every book. -/
theorem ref_jobAt (v1 v2 : Value) (js : List Jb) (rs : List Rg) (id : Int) (w : World) (h1 : JobSl w v1 js) (h2 : RungSl w v2 rs) (hn : js.length ≤ most) :
    Calls Try.prog 56 #[.agg #[v1, v2], .int .i64 id] w fun e w' => e = .returned (.int .i64 (jobAt js id)) ∧ Below w.heap.size w w' := by
  have H1 : Hid (JobSl w v1 js) := h1
  obtain ⟨a1, c1, rfl, _⟩ := h1
  obtain ⟨a2, c2, rfl, _⟩ := h2
  have L1 : Hid (js.length = js.length) := rfl
  generalize rs.length = n2 at *
  obtain ⟨n1, hn1⟩ : ∃ n1, js.length = n1 := ⟨_, rfl⟩
  rw [hn1] at H1 hn ⊢
  replace L1 : Hid (js.length = n1) := hn1
  replace hn : n1 ≤ 9223372036854775807 := hn
  clear hn1
  go_enter Try.func56, Try.ntmps56
  go_wp2
  go_loopg [10] n1 (fun g i wr => ∃ k : Nat, k ≤ n1 ∧ n1 - k ≤ g ∧ i = .int .i64 k ∧ Below w.heap.size w wr ∧ Hid (∀ y, y ∈ js.take k → y.i ≠ id))
  case atStart => exact ⟨0, Nat.zero_le _, by omega, rfl, grew (Below.refl _ _) _, fun y hy => by simp at hy⟩
  case round =>
    obtain ⟨k, hk, hg, rfl, hB, hst⟩ := hrel
    by_cases hlt : k < n1
    · obtain ⟨x, hx⟩ : ∃ x, js[k]? = some x := ⟨js[k]'(by have := L1.out; omega), List.getElem?_eq_getElem _⟩
      obtain ⟨b, off, rfl, hE0⟩ := H1.out.at (by omega)
      have hE := hE0.later hB
      have c0 : wr.cell? ⟨b, off + k * 3, none⟩ = some (.int .i64 x.i) := hE k x hx 0 _ rfl
      have c1 : wr.cell? ⟨b, off + k * 3 + 1, none⟩ = some (.int .i64 x.e) := hE k x hx 1 _ rfl
      have c2 : wr.cell? ⟨b, off + k * 3 + 2, none⟩ = some (.int .i64 x.n) := hE k x hx 2 _ rfl
      by_cases he : x.i = id
      · have HF : Hid (jobAt js id = k) := jobAt_some hx he hst.out
        have heb : (x.i == id) = true := by rw [beq_iff_eq]; exact he
        clear hE hE0 hx hst H1 he
        go_wp2
        go_ret
        exact ⟨by rw [HF.out]; rfl, grew hB _⟩
      · have HN : Hid (∀ y, y ∈ js.take (k + 1) → y.i ≠ id) := fun y hy => by
          rw [List.take_add_one, hx] at hy
          rcases List.mem_append.1 hy with hy | hy
          · exact hst.out y hy
          · simp at hy; rw [hy]; exact he
        have heb : (x.i == id) = false := by rw [beq_eq_false_iff_ne]; exact he
        clear hE hE0 hx hst H1 he
        go_wp2
        go_roundg (n1 - (k + 1))
        case measure => omega
        case rel => exact ⟨k + 1, by omega, by omega, by go_num, grew hB _, HN⟩
    · have hkn : k = n1 := by omega
      subst hkn
      have HF : Hid (jobAt js id = -1) := by
        have h := hst.out
        rw [List.take_of_length_le (by have := L1.out; omega)] at h
        exact jobAt_none h
      clear hst H1
      go_wp2
      go_ret
      exact ⟨by rw [HF.out]; rfl, hB⟩

end Go.Proofs.Ytbokdcdnandgbae
namespace Go.Proofs.Ytbokdcdnandgbae
open Go.RowKit

theorem ret_book {fn : Func} {R : Ending → World → Prop} {a : Act} {W : World} {b p q : Nat} {v1 v2 y : Value} (hf : fn.results = #[.cell p 45, .tmp q]) (hd : a.defers = [])
    (h2 : a.tmps.getD p undef = .pointer (some ⟨b, 0, none⟩)) (h3 : a.tmps.getD q undef = y) (hR : W.heap[b]? = some (boxB v1 v2)) (hp : R (.returned (.tuple #[.agg #[v1, v2], y])) W) :
    bodyPost Try.prog fn R .ret a W := by
  have c0 : ∀ i, W.cell? ⟨b, i, none⟩ = #[v1, v2][i]? := fun i => Joins.cell_of_block hR i
  refine bodyPost_ret (v := .tuple #[.agg #[v1, v2], y]) ?_ hd hp
  rw [results_cell_tmp hf, h2, h3]
  simp [go_sem, c0]

abbrev nil0 : Value := .slice none 0 0

theorem owns_slice {w : World} {base : Nat} {e : TypeId} {size : Nat} {v : Value} {n : Nat} {xs : List Value} (h : w.ownsRow base e size v n xs) : ∃ ao cap, v = .slice ao n cap := by
  rcases h.2 with ⟨h1, h2⟩ | ⟨g, cap, cur, h1, _⟩
  · exact ⟨none, 0, by rw [h1, h2]⟩
  · exact ⟨_, cap, h1⟩

theorem owns_keep {w w' : World} {base : Nat} {e : TypeId} {size : Nat} {v : Value} {n : Nat} {xs : List Value} (h : w.ownsRow base e size v n xs) (hk : ∀ (b : Nat) (cur : Array Value), base ≤ b → w.heap[b]? = some (.cells cur e) → w'.heap[b]? = some (.cells cur e)) : w'.ownsRow base e size v n xs := by
  refine ⟨h.1, ?_⟩
  rcases h.2 with h' | ⟨g, cap, cur, h1, h2, h3, h4⟩
  · exact Or.inl h'
  · exact Or.inr ⟨g, cap, cur, h1, h2, hk g _ h2 h3, h4⟩

theorem owns_ge {w : World} {base : Nat} {e : TypeId} {size : Nat} {v : Value} {n : Nat} {xs : List Value} (h : w.ownsRow base e size v n xs) {b : Nat} (hb : some b = v.ownBlock) : base ≤ b := (h.lt b hb.symm).1

theorem one3 (a b c : Int) : ∀ u ∈ [Value.int .i64 a, .int .i64 b, .int .i64 c], u.oneCell' = true := fun u hu => by
  simp only [List.mem_cons, List.not_mem_nil, or_false] at hu
  rcases hu with rfl | rfl | rfl <;> rfl

theorem owns_type {w : World} {base : Nat} {e : TypeId} {size : Nat} {v : Value} {n : Nat} {xs : List Value} (h : w.ownsRow base e size v n xs) {b : Nat} (hb : some b = v.ownBlock) : ∃ cur, w.heap[b]? = some (.cells cur e) := by
  rcases h.2 with ⟨h1, _⟩ | ⟨g, cap, cur, h1, _, h3, _⟩
  · rw [h1] at hb; cases hb
  · rw [h1] at hb
    obtain rfl : b = g := Option.some.inj hb
    exact ⟨cur, h3⟩

/-- What a right entry is. -/
theorem En.right {x : En} (h : x.chk = 0) : (0 ≤ x.k ∧ x.k ≤ 3) ∧ (0 ≤ x.j ∧ x.j ≤ 5) ∧ (0 ≤ x.v ∧ x.v ≤ 100) ∧ (0 ≤ x.t ∧ x.t ≤ 100000) ∧ (0 ≤ x.c ∧ x.c ≤ 2) ∧ (x.k = 1 → 1 ≤ x.v) := by
  unfold En.chk Ytbokdcdnandgbae.chk at h
  split at h
  · cases h
  · split at h
    · cases h
    · split at h
      · cases h
      · split at h
        · cases h
        · rename_i h1 h2 h3 h4
          have h2' : inR x.j x.v x.t x.c = true := by simpa using h2
          have h5 := of_decide_eq_true h2'
          refine ⟨by omega, by omega, by omega, by omega, by omega, by omega⟩

theorem bk_slices {w : World} {v1 v2 : Value} {js : List Jb} {rs : List Rg} (h1 : JobSl w v1 js) (h2 : RungSl w v2 rs) : ∃ a1 c1 a2 c2, v1 = .slice a1 js.length c1 ∧ v2 = .slice a2 rs.length c2 := by
  obtain ⟨a1, c1, e1, _⟩ := h1
  obtain ⟨a2, c2, e2, _⟩ := h2
  exact ⟨a1, c1, a2, c2, e1, e2⟩

/-- What a call that applies answers: a book as the model has it. -/
abbrev Answers (fn : FuncId) (args : Array Value) (w : World) (r : (List Jb × List Rg) × Int) : Prop :=
  Calls Try.prog fn args w fun e w' => ∃ u1 u2, e = .returned (.tuple #[.agg #[u1, u2], .int .i64 r.2]) ∧ JobSl w' u1 r.1.1 ∧ RungSl w' u2 r.1.2 ∧ Below w.heap.size w w'

theorem zero_book {fn : FuncId} {args : Array Value} {w : World} {n : Int} (h : Calls Try.prog fn args w fun e w' => e = .returned (.tuple #[.agg #[nil0, nil0], .int .i64 n]) ∧ Below w.heap.size w w') : Answers fn args w (([], []), n) :=
  h.mono fun _ _ ⟨he, hb⟩ => ⟨nil0, nil0, he, SlOf.nil _ _, SlOf.nil _ _, hb⟩

theorem zero_roomy {fn : FuncId} {args : Array Value} {w : World} {n : Int} (h : Calls Try.prog fn args w fun e w' => e = .returned (.tuple #[.agg #[nil0, nil0], .int .i64 n]) ∧ Below w.heap.size w w') :
    Calls Try.prog fn args w fun e w' => ∃ u1 u2, e = .returned (.tuple #[.agg #[u1, u2], .int .i64 n]) ∧ JobSl w' u1 [] ∧ RungSl w' u2 [] ∧ Below w.heap.size w w' ∧ Roomy u2 :=
  h.mono fun _ _ ⟨he, hb⟩ => ⟨nil0, nil0, he, SlOf.nil _ _, SlOf.nil _ _, hb, ⟨none, 0, 0, rfl, Nat.le_refl _⟩⟩

theorem zero_typed {fn : FuncId} {args : Array Value} {w : World} {n : Int} (h : Calls Try.prog fn args w fun e w' => e = .returned (.tuple #[.agg #[nil0, nil0], .int .i64 n]) ∧ Below w.heap.size w w') :
    Calls Try.prog fn args w fun e w' => ∃ u1 u2, e = .returned (.tuple #[.agg #[u1, u2], .int .i64 n]) ∧ JobSl w' u1 [] ∧ RungSl w' u2 [] ∧ Below w.heap.size w w' ∧ Roomy u2 ∧ Typed 64 w' u1 ∧ Typed 91 w' u2 :=
  h.mono fun _ _ ⟨he, hb⟩ => ⟨nil0, nil0, he, SlOf.nil _ _, SlOf.nil _ _, hb, ⟨none, 0, 0, rfl, Nat.le_refl _⟩, Typed.nil, Typed.nil⟩

/-- Records of numbers, where a block of two slices is written. -/
theorem SlOf.beside {α : Type} {cs : α → List Value} {k : Nat} (hcs : ∀ (x : α) (i : Nat) (v : Value), (cs x)[i]? = some v → ∃ n, v = Value.int .i64 n) {w : World} {v : Value} {xs : List α} (h : SlOf cs k w v xs) {B n1 n2 c1 c2 : Nat} {a1 a2 : Option Addr}
    (hB : w.heap[B]? = some (boxB (.slice a1 n1 c1) (.slice a2 n2 c2))) (i : Nat) (u : Value) : SlOf cs k (w.setCell ⟨B, i, none⟩ u) v xs := by
  obtain ⟨a, c, rfl, hc⟩ := h
  refine ⟨a, c, rfl, ?_⟩
  rcases hc with hc | ⟨b, off, rfl, hE⟩
  · exact Or.inl hc
  · refine Or.inr ⟨b, off, rfl, fun j x hj i' v' hi' => ?_⟩
    have hcell := hE j x hj i' v' hi'
    have hne : b ≠ B := fun e => by
      obtain ⟨n, rfl⟩ := hcs x i' v' hi'
      rw [e, Joins.cell_of_block hB] at hcell
      have h2 : ∀ (m : Nat), #[Value.slice a1 n1 c1, Value.slice a2 n2 c2][m]? = some (Value.int .i64 n) → False := fun m hm => by
        match m, hm with
        | 0, hm => simp at hm
        | 1, hm => simp at hm
        | m + 2, hm => simp at hm
      exact h2 _ hcell
    have hh : (w.setCell ⟨B, i, none⟩ u).heap[b]? = w.heap[b]? := Below.heap_setCell _ _ _ _ (by show b ≠ B; exact hne)
    have : (w.setCell ⟨B, i, none⟩ u).cell? ⟨b, off + j * k + i', none⟩ = w.cell? ⟨b, off + j * k + i', none⟩ := by simp only [World.cell?, hh]
    rw [this]; exact hcell

theorem Jb.ints (x : Jb) (i : Nat) (v : Value) (h : x.cells[i]? = some v) : ∃ n, v = .int .i64 n := by
  match i, h with
  | 0, h => exact ⟨_, (Option.some.inj h).symm⟩
  | 1, h => exact ⟨_, (Option.some.inj h).symm⟩
  | 2, h => exact ⟨_, (Option.some.inj h).symm⟩
  | i + 3, h => simp [Jb.cells] at h
theorem Rg.ints (x : Rg) (i : Nat) (v : Value) (h : x.cells[i]? = some v) : ∃ n, v = .int .i64 n := by
  match i, h with
  | 0, h => exact ⟨_, (Option.some.inj h).symm⟩
  | 1, h => exact ⟨_, (Option.some.inj h).symm⟩
  | 2, h => exact ⟨_, (Option.some.inj h).symm⟩
  | i + 3, h => simp [Rg.cells] at h

theorem bfold_bad {js : List Jb} {rs : List Rg} {x : En} {r : List En} (h : (app js rs x).2 ≠ 0) : bfold js rs (x :: r) = (([], []), (app js rs x).2) := by rw [bfold, if_pos h]
theorem bfold_ok {js : List Jb} {rs : List Rg} {x : En} {r : List En} (h : (app js rs x).2 = 0) : bfold js rs (x :: r) = bfold (app js rs x).1.1 (app js rs x).1.2 r := by rw [bfold, if_neg (by simpa using h)]

theorem step_below {w a b : World} (h : Below w.heap.size w a) (hb : Below a.heap.size a b) : Below w.heap.size w b := h.trans (hb.mono h.size)

end Go.Proofs.Ytbokdcdnandgbae
