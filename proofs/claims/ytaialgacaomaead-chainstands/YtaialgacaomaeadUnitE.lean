/- The reference's UnitNext. -/
import Derived.Test.YtaialgacaomaeadUnitC
import Derived.Laws.OwnMore
namespace Go.Proofs.Ytaialgacaomaead
open Go.RowKit

/-- Answers a unit and what is wrong. -/
abbrev AnsU (f : Nat) (args : Array Value) (w : World) (r : Un × Int) : Prop :=
  Calls Try.prog f args w fun e w' => ∃ v', e = .returned (.tuple #[.agg #[.int .i64 r.1.p, v'], .int .i64 r.2]) ∧ UnitAt w' v' r.1 ∧ Below w.heap.size w w'

theorem unit_nil (w : World) : UnitAt w (.slice none 0 0) Un.zero := ⟨⟨none, 0, rfl, Or.inl rfl⟩, ⟨none, 0, 0, rfl, Nat.le_refl _⟩⟩

theorem unit_stored {W : World} {b : Nat} {p : Int} {v : Value} (h : W.heap[b]? = some (boxU p v)) (x : Int) (u : Value) : ((W.setCell ⟨b, 0, none⟩ (.int .i64 x)).setCell ⟨b, 1, none⟩ u).heap[b]? = some (boxU x u) := by
  have h0 : (W.setCell ⟨b, 0, none⟩ (.int .i64 x)).heap[b]? = some (boxU x v) := by rw [Joins.block_setCell h]; rfl
  rw [Joins.block_setCell h0]; rfl

theorem below_two2 {B : Nat} {a W : World} {b : Nat} (h : Below B a W) (hb : B ≤ b) (u1 u2 : Value) : Below B a ((W.setCell ⟨b, 0, none⟩ u1).setCell ⟨b, 1, none⟩ u2) :=
  (h.setCell (p := ⟨b, 0, none⟩) hb _).setCell (p := ⟨b, 1, none⟩) hb _

/-- The end of a function whose results are a unit in memory and a slot. -/
theorem ret_unit {fn : Func} {R : Ending → World → Prop} {a : Act} {W : World} {b p q : Nat} {x : Int} {s : Option Addr} {n c : Nat} {y : Value} (hf : fn.results = #[.cell p 24, .tmp q]) (hd : a.defers = [])
    (h2 : a.tmps.getD p undef = .pointer (some ⟨b, 0, none⟩)) (h3 : a.tmps.getD q undef = y) (hR : W.heap[b]? = some (boxU x (.slice s n c))) (hp : R (.returned (.tuple #[.agg #[.int .i64 x, .slice s n c], y])) W) :
    bodyPost Try.prog fn R .ret a W := by
  have c0 : ∀ i, W.cell? ⟨b, i, none⟩ = #[Value.int .i64 x, .slice s n c][i]? := fun i => Joins.cell_of_block hR i
  refine bodyPost_ret (v := .tuple #[.agg #[.int .i64 x, .slice s n c], y]) ?_ hd hp
  rw [results_cell_tmp hf, h2, h3]
  simp [go_sem, c0]

theorem flat_setE : ∀ {es : List En} {k f : Nat} {y z : En} {u : Value}, es[k]? = some y → f < 5 → z.cells = y.cells.set f u → (es.flatMap En.cells).set (k * 5 + f) u = (es.set k z).flatMap En.cells
  | [], k, _, _, _, _, h, _, _ => by simp at h
  | x :: r, 0, f, y, z, u, h, hf, hz => by
    simp at h; subst h
    rw [Nat.zero_mul, Nat.zero_add, List.set_cons_zero, List.flatMap_cons, List.flatMap_cons, List.set_append, if_pos (by rw [En.five]; exact hf), hz]
  | x :: r, k + 1, f, y, z, u, h, hf, hz => by
    have ih := flat_setE (es := r) (k := k) (by simpa using h) hf hz
    rw [List.set_cons_succ, List.flatMap_cons, List.flatMap_cons, List.set_append, if_neg (by rw [En.five]; omega), En.five, show (k + 1) * 5 + f - 5 = k * 5 + f by omega, ih]

theorem flat_five {es : List En} {k : Nat} (hk : k < es.length) (e : En) (tl : List Value) :
    ((((((es.flatMap En.cells ++ tl).set (k * 5) (.int .i64 e.k)).set (k * 5 + 1) (.int .i64 e.j)).set (k * 5 + 2) (.int .i64 e.v)).set (k * 5 + 3) (.int .i64 e.t)).set (k * 5 + 4) (.int .i64 e.c)) = (es.set k e).flatMap En.cells ++ tl := by
  obtain ⟨y, hy⟩ : ∃ y, es[k]? = some y := ⟨es[k], List.getElem?_eq_getElem hk⟩
  have hl : (es.flatMap En.cells).length = es.length * 5 := row_len En.five es
  have g := fun (xs : List En) (hx : xs.length = es.length) (o : Nat) (ho : o < 5) (u : Value) => List.set_append_left (t := tl) (s := xs.flatMap En.cells) (k * 5 + o) u (by rw [row_len En.five, hx]; omega)
  rw [show k * 5 = k * 5 + 0 from rfl, g es rfl 0 (by omega), flat_setE hy (by omega) (z := ⟨e.k, y.j, y.v, y.t, y.c⟩) rfl]
  have h1 : (es.set k ⟨e.k, y.j, y.v, y.t, y.c⟩)[k]? = some ⟨e.k, y.j, y.v, y.t, y.c⟩ := List.getElem?_set_self hk
  rw [Nat.add_zero, g _ (by simp) 1 (by omega), flat_setE h1 (by omega) (z := ⟨e.k, e.j, y.v, y.t, y.c⟩) rfl, List.set_set]
  have h2 : (es.set k ⟨e.k, e.j, y.v, y.t, y.c⟩)[k]? = some ⟨e.k, e.j, y.v, y.t, y.c⟩ := List.getElem?_set_self hk
  rw [g _ (by simp) 2 (by omega), flat_setE h2 (by omega) (z := ⟨e.k, e.j, e.v, y.t, y.c⟩) rfl, List.set_set]
  have h3 : (es.set k ⟨e.k, e.j, e.v, y.t, y.c⟩)[k]? = some ⟨e.k, e.j, e.v, y.t, y.c⟩ := List.getElem?_set_self hk
  rw [g _ (by simp) 3 (by omega), flat_setE h3 (by omega) (z := ⟨e.k, e.j, e.v, e.t, y.c⟩) rfl, List.set_set]
  have h4 : (es.set k ⟨e.k, e.j, e.v, e.t, y.c⟩)[k]? = some ⟨e.k, e.j, e.v, e.t, y.c⟩ := List.getElem?_set_self hk
  rw [g _ (by simp) 4 (by omega), flat_setE h4 (by omega) (z := ⟨e.k, e.j, e.v, e.t, e.c⟩) rfl, List.set_set]

/-- One entry stored into a block of entries. -/
theorem stored_five {W : World} {g : Nat} {T : TypeId} {es : List En} {tl : List Value} (h : W.heap[g]? = some (.cells (es.flatMap En.cells ++ tl).toArray T)) {k : Nat} (hk : k < es.length) (e : En) :
    (((((W.setCell ⟨g, k * 5, none⟩ (.int .i64 e.k)).setCell ⟨g, k * 5 + 1, none⟩ (.int .i64 e.j)).setCell ⟨g, k * 5 + 2, none⟩ (.int .i64 e.v)).setCell ⟨g, k * 5 + 3, none⟩ (.int .i64 e.t)).setCell ⟨g, k * 5 + 4, none⟩ (.int .i64 e.c)).heap[g]? = some (.cells ((es.set k e).flatMap En.cells ++ tl).toArray T) := by
  have h1 := Joins.block_setCell h (i := k * 5) (.int .i64 e.k)
  have h2 := Joins.block_setCell h1 (i := k * 5 + 1) (.int .i64 e.j)
  have h3 := Joins.block_setCell h2 (i := k * 5 + 2) (.int .i64 e.v)
  have h4 := Joins.block_setCell h3 (i := k * 5 + 3) (.int .i64 e.t)
  have h5 := Joins.block_setCell h4 (i := k * 5 + 4) (.int .i64 e.c)
  rw [h5]
  simp only [List.setIfInBounds_toArray]
  rw [flat_five hk]

theorem below_fiveE {B : Nat} {a W : World} {g : Nat} (h : Below B a W) (hb : B ≤ g) (o : Nat) (v0 v1 v2 v3 v4 : Value) :
    Below B a (((((W.setCell ⟨g, o, none⟩ v0).setCell ⟨g, o + 1, none⟩ v1).setCell ⟨g, o + 2, none⟩ v2).setCell ⟨g, o + 3, none⟩ v3).setCell ⟨g, o + 4, none⟩ v4) :=
  ((((h.setCell (p := ⟨g, o, none⟩) hb _).setCell (p := ⟨g, o + 1, none⟩) hb _).setCell (p := ⟨g, o + 2, none⟩) hb _).setCell (p := ⟨g, o + 3, none⟩) hb _).setCell (p := ⟨g, o + 4, none⟩) hb _

theorem other_fiveE {W : World} {g b : Nat} (hne : b ≠ g) (o : Nat) (v0 v1 v2 v3 v4 : Value) :
    (((((W.setCell ⟨g, o, none⟩ v0).setCell ⟨g, o + 1, none⟩ v1).setCell ⟨g, o + 2, none⟩ v2).setCell ⟨g, o + 3, none⟩ v3).setCell ⟨g, o + 4, none⟩ v4).heap[b]? = W.heap[b]? := by
  rw [Below.heap_setCell _ _ _ _ (by exact hne), Below.heap_setCell _ _ _ _ (by exact hne), Below.heap_setCell _ _ _ _ (by exact hne), Below.heap_setCell _ _ _ _ (by exact hne), Below.heap_setCell _ _ _ _ (by exact hne)]

set_option maxHeartbeats 4000000 in
set_option maxRecDepth 100000 in
theorem next_badU (a : Option Addr) (n c : Nat) (p : Int) (es : List En) (r : Rc) (w : World) (h : EntSl w (.slice a n c) es) (d : Int) (hd : Un.ck ⟨p, es⟩ = d) (hz : (d != 0) = true) :
    AnsU 8 #[.agg #[.int .i64 p, .slice a n c], r.val] w (Un.zero, d) := by
  have HB0 : Aside (Below w.heap.size w (((w.alloc (boxU p (.slice a n c))).alloc (boxRc r)).alloc (boxU 0 (.slice none 0 0)))) := grew (grew (grew (Below.refl _ _) _) _) _
  have HX0 : Aside ((((w.alloc (boxU p (.slice a n c))).alloc (boxRc r)).alloc (boxU 0 (.slice none 0 0))).heap[w.heap.size]? = some (boxU p (.slice a n c))) := heap_old (heap_old (heap_new _ _) _) _
  have HY0 : Aside ((((w.alloc (boxU p (.slice a n c))).alloc (boxRc r)).alloc (boxU 0 (.slice none 0 0))).heap[w.heap.size + 1]? = some (boxRc r)) := by
    have := heap_new (w.alloc (boxU p (.slice a n c))) (boxRc r)
    rw [World.size_alloc] at this
    exact heap_old this _
  have HZ0 : Aside ((((w.alloc (boxU p (.slice a n c))).alloc (boxRc r)).alloc (boxU 0 (.slice none 0 0))).heap[w.heap.size + 1 + 1]? = some (boxU 0 (.slice none 0 0))) := by
    have := heap_new ((w.alloc (boxU p (.slice a n c))).alloc (boxRc r)) (boxU 0 (.slice none 0 0))
    rwa [World.size_alloc, World.size_alloc] at this
  have hln := SlOf.len (cs := En.cells) (k := 5) h
  have hck := ref_ckUnit (.slice a n c) ⟨p, es⟩ (((w.alloc (boxU p (.slice a n c))).alloc (boxRc r)).alloc (boxU 0 (.slice none 0 0))) (h.later HB0.out)
  rw [hd] at hck
  clear hd h hln
  go_enter Try.func8, Try.ntmps8
  go_wp2_with fail
  refine hck.mono ?_
  rintro e w1 ⟨rfl, hb1⟩
  have x1 := heap_below HX0.out hb1 (heap_lt HX0.out)
  have y1 := heap_below HY0.out hb1 (heap_lt HY0.out)
  have t1 := heap_below HZ0.out hb1 (heap_lt HZ0.out)
  have HB1 : Aside (Below w.heap.size w w1) := step_below1 HB0.out hb1
  have HX1 : Aside _ := x1
  have HY1 : Aside _ := y1
  have HZ1 : Aside _ := t1
  clear hb1 x1 y1 t1 HX0 HY0 HZ0 HB0
  clear hck
  have z2 : ∀ i, w1.cell? ⟨w.heap.size + 1 + 1, i, none⟩ = #[Value.int .i64 0, .slice none 0 0][i]? := fun i => Joins.cell_of_block HZ1.out i
  have f2 : ∀ i, w1.frozen? ⟨w.heap.size + 1 + 1, i, none⟩ = false := fun i => Joins.unfrozen_of_block HZ1.out i
  go_wp2
  exact ret_unit (p := 4) (q := 5) Try.results8 rfl rfl rfl (unit_stored HZ1.out _ _) ⟨_, rfl, unit_nil _, below_two2 HB1.out (by omega) _ _⟩

set_option maxHeartbeats 4000000 in
set_option maxRecDepth 100000 in
theorem next_badR (a : Option Addr) (n c : Nat) (p : Int) (es : List En) (r : Rc) (w : World) (h : EntSl w (.slice a n c) es) (d : Int) (hd : Un.ck ⟨p, es⟩ = 0) (hr : r.chk = d) (hz : (d != 0) = true) :
    AnsU 8 #[.agg #[.int .i64 p, .slice a n c], r.val] w (Un.zero, d) := by
  have HB0 : Aside (Below w.heap.size w (((w.alloc (boxU p (.slice a n c))).alloc (boxRc r)).alloc (boxU 0 (.slice none 0 0)))) := grew (grew (grew (Below.refl _ _) _) _) _
  have HX0 : Aside ((((w.alloc (boxU p (.slice a n c))).alloc (boxRc r)).alloc (boxU 0 (.slice none 0 0))).heap[w.heap.size]? = some (boxU p (.slice a n c))) := heap_old (heap_old (heap_new _ _) _) _
  have HY0 : Aside ((((w.alloc (boxU p (.slice a n c))).alloc (boxRc r)).alloc (boxU 0 (.slice none 0 0))).heap[w.heap.size + 1]? = some (boxRc r)) := by
    have := heap_new (w.alloc (boxU p (.slice a n c))) (boxRc r)
    rw [World.size_alloc] at this
    exact heap_old this _
  have HZ0 : Aside ((((w.alloc (boxU p (.slice a n c))).alloc (boxRc r)).alloc (boxU 0 (.slice none 0 0))).heap[w.heap.size + 1 + 1]? = some (boxU 0 (.slice none 0 0))) := by
    have := heap_new ((w.alloc (boxU p (.slice a n c))).alloc (boxRc r)) (boxU 0 (.slice none 0 0))
    rwa [World.size_alloc, World.size_alloc] at this
  have hln := SlOf.len (cs := En.cells) (k := 5) h
  have hck := ref_ckUnit (.slice a n c) ⟨p, es⟩ (((w.alloc (boxU p (.slice a n c))).alloc (boxRc r)).alloc (boxU 0 (.slice none 0 0))) (h.later HB0.out)
  rw [hd] at hck
  have hcr := fun W => ref_chkRec r W
  rw [hr] at hcr
  clear hd hr h hln
  go_enter Try.func8, Try.ntmps8
  go_wp2_with fail
  refine hck.mono ?_
  rintro e w1 ⟨rfl, hb1⟩
  have x1 := heap_below HX0.out hb1 (heap_lt HX0.out)
  have y1 := heap_below HY0.out hb1 (heap_lt HY0.out)
  have t1 := heap_below HZ0.out hb1 (heap_lt HZ0.out)
  have HB1 : Aside (Below w.heap.size w w1) := step_below1 HB0.out hb1
  have HX1 : Aside _ := x1
  have HY1 : Aside _ := y1
  have HZ1 : Aside _ := t1
  clear hb1 x1 y1 t1 HX0 HY0 HZ0 HB0
  clear hck
  have z1 : ∀ i, w1.cell? ⟨w.heap.size + 1, i, none⟩ = #[Value.int .i64 r.k, .int .i64 r.a, .int .i64 r.p, .int .i64 r.e.k, .int .i64 r.e.j, .int .i64 r.e.v, .int .i64 r.e.t, .int .i64 r.e.c][i]? := fun i => Joins.cell_of_block HY1.out i
  go_wp2_with fail
  refine (hcr _).mono ?_
  rintro e w2 ⟨rfl, hb2⟩
  have x2 := heap_below HX1.out hb2 (heap_lt HX1.out)
  have y2 := heap_below HY1.out hb2 (heap_lt HY1.out)
  have t2 := heap_below HZ1.out hb2 (heap_lt HZ1.out)
  have HB2 : Aside (Below w.heap.size w w2) := step_below1 HB1.out hb2
  have HX2 : Aside _ := x2
  have HY2 : Aside _ := y2
  have HZ2 : Aside _ := t2
  clear hb2 x2 y2 t2 HX1 HY1 HZ1 HB1
  clear hcr z1
  have z2 : ∀ i, w2.cell? ⟨w.heap.size + 1 + 1, i, none⟩ = #[Value.int .i64 0, .slice none 0 0][i]? := fun i => Joins.cell_of_block HZ2.out i
  have f2 : ∀ i, w2.frozen? ⟨w.heap.size + 1 + 1, i, none⟩ = false := fun i => Joins.unfrozen_of_block HZ2.out i
  go_wp2
  exact ret_unit (p := 4) (q := 5) Try.results8 rfl rfl rfl (unit_stored HZ2.out _ _) ⟨_, rfl, unit_nil _, below_two2 HB2.out (by omega) _ _⟩

set_option maxHeartbeats 4000000 in
set_option maxRecDepth 100000 in
theorem next_old (a : Option Addr) (n c : Nat) (p : Int) (es : List En) (r : Rc) (w : World) (h : EntSl w (.slice a n c) es) (hd : Un.ck ⟨p, es⟩ = 0) (hr : r.chk = 0) (hk : (r.k == 2) = true) (hp : r.p ≤ p) :
    AnsU 8 #[.agg #[.int .i64 p, .slice a n c], r.val] w (Un.zero, 8) := by
  have HB0 : Aside (Below w.heap.size w (((w.alloc (boxU p (.slice a n c))).alloc (boxRc r)).alloc (boxU 0 (.slice none 0 0)))) := grew (grew (grew (Below.refl _ _) _) _) _
  have HX0 : Aside ((((w.alloc (boxU p (.slice a n c))).alloc (boxRc r)).alloc (boxU 0 (.slice none 0 0))).heap[w.heap.size]? = some (boxU p (.slice a n c))) := heap_old (heap_old (heap_new _ _) _) _
  have HY0 : Aside ((((w.alloc (boxU p (.slice a n c))).alloc (boxRc r)).alloc (boxU 0 (.slice none 0 0))).heap[w.heap.size + 1]? = some (boxRc r)) := by
    have := heap_new (w.alloc (boxU p (.slice a n c))) (boxRc r)
    rw [World.size_alloc] at this
    exact heap_old this _
  have HZ0 : Aside ((((w.alloc (boxU p (.slice a n c))).alloc (boxRc r)).alloc (boxU 0 (.slice none 0 0))).heap[w.heap.size + 1 + 1]? = some (boxU 0 (.slice none 0 0))) := by
    have := heap_new ((w.alloc (boxU p (.slice a n c))).alloc (boxRc r)) (boxU 0 (.slice none 0 0))
    rwa [World.size_alloc, World.size_alloc] at this
  have hln := SlOf.len (cs := En.cells) (k := 5) h
  have hck := ref_ckUnit (.slice a n c) ⟨p, es⟩ (((w.alloc (boxU p (.slice a n c))).alloc (boxRc r)).alloc (boxU 0 (.slice none 0 0))) (h.later HB0.out)
  rw [hd] at hck
  have hcr := fun W => ref_chkRec r W
  rw [hr] at hcr
  clear hd hr h hln
  go_enter Try.func8, Try.ntmps8
  go_wp2_with fail
  refine hck.mono ?_
  rintro e w1 ⟨rfl, hb1⟩
  have x1 := heap_below HX0.out hb1 (heap_lt HX0.out)
  have y1 := heap_below HY0.out hb1 (heap_lt HY0.out)
  have t1 := heap_below HZ0.out hb1 (heap_lt HZ0.out)
  have HB1 : Aside (Below w.heap.size w w1) := step_below1 HB0.out hb1
  have HX1 : Aside _ := x1
  have HY1 : Aside _ := y1
  have HZ1 : Aside _ := t1
  clear hb1 x1 y1 t1 HX0 HY0 HZ0 HB0
  clear hck
  have z1 : ∀ i, w1.cell? ⟨w.heap.size + 1, i, none⟩ = #[Value.int .i64 r.k, .int .i64 r.a, .int .i64 r.p, .int .i64 r.e.k, .int .i64 r.e.j, .int .i64 r.e.v, .int .i64 r.e.t, .int .i64 r.e.c][i]? := fun i => Joins.cell_of_block HY1.out i
  go_wp2_with fail
  refine (hcr _).mono ?_
  rintro e w2 ⟨rfl, hb2⟩
  have x2 := heap_below HX1.out hb2 (heap_lt HX1.out)
  have y2 := heap_below HY1.out hb2 (heap_lt HY1.out)
  have t2 := heap_below HZ1.out hb2 (heap_lt HZ1.out)
  have HB2 : Aside (Below w.heap.size w w2) := step_below1 HB1.out hb2
  have HX2 : Aside _ := x2
  have HY2 : Aside _ := y2
  have HZ2 : Aside _ := t2
  clear hb2 x2 y2 t2 HX1 HY1 HZ1 HB1
  clear hcr z1
  have z0 : ∀ i, w2.cell? ⟨w.heap.size, i, none⟩ = #[Value.int .i64 p, .slice a n c][i]? := fun i => Joins.cell_of_block HX2.out i
  have f0 : ∀ i, w2.frozen? ⟨w.heap.size, i, none⟩ = false := fun i => Joins.unfrozen_of_block HX2.out i
  have z1 : ∀ i, w2.cell? ⟨w.heap.size + 1, i, none⟩ = #[Value.int .i64 r.k, .int .i64 r.a, .int .i64 r.p, .int .i64 r.e.k, .int .i64 r.e.j, .int .i64 r.e.v, .int .i64 r.e.t, .int .i64 r.e.c][i]? := fun i => Joins.cell_of_block HY2.out i
  have z2 : ∀ i, w2.cell? ⟨w.heap.size + 1 + 1, i, none⟩ = #[Value.int .i64 0, .slice none 0 0][i]? := fun i => Joins.cell_of_block HZ2.out i
  have f2 : ∀ i, w2.frozen? ⟨w.heap.size + 1 + 1, i, none⟩ = false := fun i => Joins.unfrozen_of_block HZ2.out i
  go_wp2
  exact ret_unit (p := 4) (q := 5) Try.results8 rfl rfl rfl (unit_stored HZ2.out _ _) ⟨_, rfl, unit_nil _, below_two2 HB2.out (by omega) _ _⟩

set_option maxHeartbeats 4000000 in
set_option maxRecDepth 100000 in
theorem next_seal (a : Option Addr) (n c : Nat) (p : Int) (es : List En) (r : Rc) (w : World) (h : EntSl w (.slice a n c) es) (hnc : n ≤ c) (hd : Un.ck ⟨p, es⟩ = 0) (hr : r.chk = 0) (hk : (r.k == 2) = true) (hp : p < r.p) :
    AnsU 8 #[.agg #[.int .i64 p, .slice a n c], r.val] w (⟨r.p, es⟩, 0) := by
  have HB0 : Aside (Below w.heap.size w (((w.alloc (boxU p (.slice a n c))).alloc (boxRc r)).alloc (boxU 0 (.slice none 0 0)))) := grew (grew (grew (Below.refl _ _) _) _) _
  have HX0 : Aside ((((w.alloc (boxU p (.slice a n c))).alloc (boxRc r)).alloc (boxU 0 (.slice none 0 0))).heap[w.heap.size]? = some (boxU p (.slice a n c))) := heap_old (heap_old (heap_new _ _) _) _
  have HY0 : Aside ((((w.alloc (boxU p (.slice a n c))).alloc (boxRc r)).alloc (boxU 0 (.slice none 0 0))).heap[w.heap.size + 1]? = some (boxRc r)) := by
    have := heap_new (w.alloc (boxU p (.slice a n c))) (boxRc r)
    rw [World.size_alloc] at this
    exact heap_old this _
  have HZ0 : Aside ((((w.alloc (boxU p (.slice a n c))).alloc (boxRc r)).alloc (boxU 0 (.slice none 0 0))).heap[w.heap.size + 1 + 1]? = some (boxU 0 (.slice none 0 0))) := by
    have := heap_new ((w.alloc (boxU p (.slice a n c))).alloc (boxRc r)) (boxU 0 (.slice none 0 0))
    rwa [World.size_alloc, World.size_alloc] at this
  have hln := SlOf.len (cs := En.cells) (k := 5) h
  have hck := ref_ckUnit (.slice a n c) ⟨p, es⟩ (((w.alloc (boxU p (.slice a n c))).alloc (boxRc r)).alloc (boxU 0 (.slice none 0 0))) (h.later HB0.out)
  rw [hd] at hck
  have hcr := fun W => ref_chkRec r W
  rw [hr] at hcr
  have H : Aside (EntSl w (.slice a n c) es) := h
  clear hd hr h hln
  go_enter Try.func8, Try.ntmps8
  go_wp2_with fail
  refine hck.mono ?_
  rintro e w1 ⟨rfl, hb1⟩
  have x1 := heap_below HX0.out hb1 (heap_lt HX0.out)
  have y1 := heap_below HY0.out hb1 (heap_lt HY0.out)
  have t1 := heap_below HZ0.out hb1 (heap_lt HZ0.out)
  have HB1 : Aside (Below w.heap.size w w1) := step_below1 HB0.out hb1
  have HX1 : Aside _ := x1
  have HY1 : Aside _ := y1
  have HZ1 : Aside _ := t1
  clear hb1 x1 y1 t1 HX0 HY0 HZ0 HB0
  clear hck
  have z1 : ∀ i, w1.cell? ⟨w.heap.size + 1, i, none⟩ = #[Value.int .i64 r.k, .int .i64 r.a, .int .i64 r.p, .int .i64 r.e.k, .int .i64 r.e.j, .int .i64 r.e.v, .int .i64 r.e.t, .int .i64 r.e.c][i]? := fun i => Joins.cell_of_block HY1.out i
  go_wp2_with fail
  refine (hcr _).mono ?_
  rintro e w2 ⟨rfl, hb2⟩
  have x2 := heap_below HX1.out hb2 (heap_lt HX1.out)
  have y2 := heap_below HY1.out hb2 (heap_lt HY1.out)
  have t2 := heap_below HZ1.out hb2 (heap_lt HZ1.out)
  have HB2 : Aside (Below w.heap.size w w2) := step_below1 HB1.out hb2
  have HX2 : Aside _ := x2
  have HY2 : Aside _ := y2
  have HZ2 : Aside _ := t2
  clear hb2 x2 y2 t2 HX1 HY1 HZ1 HB1
  clear hcr z1
  have z0 : ∀ i, w2.cell? ⟨w.heap.size, i, none⟩ = #[Value.int .i64 p, .slice a n c][i]? := fun i => Joins.cell_of_block HX2.out i
  have f0 : ∀ i, w2.frozen? ⟨w.heap.size, i, none⟩ = false := fun i => Joins.unfrozen_of_block HX2.out i
  have z1 : ∀ i, w2.cell? ⟨w.heap.size + 1, i, none⟩ = #[Value.int .i64 r.k, .int .i64 r.a, .int .i64 r.p, .int .i64 r.e.k, .int .i64 r.e.j, .int .i64 r.e.v, .int .i64 r.e.t, .int .i64 r.e.c][i]? := fun i => Joins.cell_of_block HY2.out i
  have z2 : ∀ i, w2.cell? ⟨w.heap.size + 1 + 1, i, none⟩ = #[Value.int .i64 0, .slice none 0 0][i]? := fun i => Joins.cell_of_block HZ2.out i
  have f2 : ∀ i, w2.frozen? ⟨w.heap.size + 1 + 1, i, none⟩ = false := fun i => Joins.unfrozen_of_block HZ2.out i
  go_wp2
  have hBB := below_two2 HB2.out (show w.heap.size ≤ w.heap.size + 1 + 1 by omega) (.int .i64 r.p) (.slice a n c)
  exact ret_unit (p := 4) (q := 5) Try.results8 rfl rfl rfl (unit_stored HZ2.out _ _) ⟨_, rfl, ⟨H.out.later hBB, ⟨_, _, _, rfl, hnc⟩⟩, hBB⟩

end Go.Proofs.Ytaialgacaomaead
