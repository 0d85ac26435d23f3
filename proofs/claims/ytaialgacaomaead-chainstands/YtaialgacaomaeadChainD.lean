/- The reference's Linked. -/
import Derived.Test.YtaialgacaomaeadChainC
import Derived.Deep.QuietTactic
import Derived.BigQuiet
namespace Go.Proofs.Ytaialgacaomaead
open Go.RowKit
open scoped Classical

/-- The end of a function whose results are a record and an entry in memory, and a slot. -/
theorem ret3 {fn : Func} {R : Ending → World → Prop} {a : Act} {W : World} {rb eb p q t : Nat} {r : Rc} {e : En} {y : Value} (hf : fn.results = #[.cell p 28, .cell q 26, .tmp t]) (hd : a.defers = [])
    (h1 : a.tmps.getD p undef = .pointer (some ⟨rb, 0, none⟩)) (h2 : a.tmps.getD q undef = .pointer (some ⟨eb, 0, none⟩)) (h3 : a.tmps.getD t undef = y) (hR : W.heap[rb]? = some (boxRc r)) (hE : W.heap[eb]? = some (boxE e.k e.j e.v e.t e.c)) (hp : R (.returned (.tuple #[r.val, e.val, y])) W) :
    bodyPost Try.prog fn R .ret a W := by
  have c0 : ∀ i, W.cell? ⟨rb, i, none⟩ = #[Value.int .i64 r.k, .int .i64 r.a, .int .i64 r.p, .int .i64 r.e.k, .int .i64 r.e.j, .int .i64 r.e.v, .int .i64 r.e.t, .int .i64 r.e.c][i]? := fun i => Joins.cell_of_block hR i
  have c1 : ∀ i, W.cell? ⟨eb, i, none⟩ = #[Value.int .i64 e.k, .int .i64 e.j, .int .i64 e.v, .int .i64 e.t, .int .i64 e.c][i]? := fun i => Joins.cell_of_block hE i
  have h1' : a.tmps[p]?.getD undef = .pointer (some ⟨rb, 0, none⟩) := by simpa using h1
  have h2' : a.tmps[q]?.getD undef = .pointer (some ⟨eb, 0, none⟩) := by simpa using h2
  have h3' : a.tmps[t]?.getD undef = y := by simpa using h3
  refine bodyPost_ret (v := .tuple #[r.val, e.val, y]) ?_ hd hp
  simp [results, hf, h1', h2', h3', go_sem, c0, c1]

/-- The two results, stored. -/
theorem link_stored {w : World} {rb eb : Nat} {q : Rc} {f : En} (hr : w.heap[rb]? = some (boxRc q)) (he : w.heap[eb]? = some (boxE f.k f.j f.v f.t f.c)) (hne : rb ≠ eb) (r : Rc) (e : En) {E : World}
    (hE : E = ((((((((w.setCell ⟨rb, 0, none⟩ (.int .i64 r.k)).setCell ⟨rb, 1, none⟩ (.int .i64 r.a)).setCell ⟨rb, 2, none⟩ (.int .i64 r.p)).setCell ⟨rb, 3, none⟩ (.int .i64 r.e.k)).setCell ⟨rb, 4, none⟩ (.int .i64 r.e.j)).setCell ⟨rb, 5, none⟩ (.int .i64 r.e.v)).setCell ⟨rb, 6, none⟩ (.int .i64 r.e.t)).setCell ⟨rb, 7, none⟩ (.int .i64 r.e.c))) :
    (((((E.setCell ⟨eb, 0, none⟩ (.int .i64 e.k)).setCell ⟨eb, 1, none⟩ (.int .i64 e.j)).setCell ⟨eb, 2, none⟩ (.int .i64 e.v)).setCell ⟨eb, 3, none⟩ (.int .i64 e.t)).setCell ⟨eb, 4, none⟩ (.int .i64 e.c)).heap[rb]? = some (boxRc r) ∧
    (((((E.setCell ⟨eb, 0, none⟩ (.int .i64 e.k)).setCell ⟨eb, 1, none⟩ (.int .i64 e.j)).setCell ⟨eb, 2, none⟩ (.int .i64 e.v)).setCell ⟨eb, 3, none⟩ (.int .i64 e.t)).setCell ⟨eb, 4, none⟩ (.int .i64 e.c)).heap[eb]? = some (boxE e.k e.j e.v e.t e.c) := by
  have h1 : E.heap[rb]? = some (boxRc r) := by rw [hE]; exact eight_stores hr r
  have h2 : E.heap[eb]? = some (boxE f.k f.j f.v f.t f.c) := by
    rw [hE, Below.heap_setCell _ _ _ _ (by exact hne.symm), Below.heap_setCell _ _ _ _ (by exact hne.symm), Below.heap_setCell _ _ _ _ (by exact hne.symm), Below.heap_setCell _ _ _ _ (by exact hne.symm), Below.heap_setCell _ _ _ _ (by exact hne.symm), Below.heap_setCell _ _ _ _ (by exact hne.symm), Below.heap_setCell _ _ _ _ (by exact hne.symm), Below.heap_setCell _ _ _ _ (by exact hne.symm)]
    exact he
  refine ⟨?_, ?_⟩
  · rw [Below.heap_setCell _ _ _ _ (by exact hne), Below.heap_setCell _ _ _ _ (by exact hne), Below.heap_setCell _ _ _ _ (by exact hne), Below.heap_setCell _ _ _ _ (by exact hne), Below.heap_setCell _ _ _ _ (by exact hne)]
    exact h1
  · have g1 := Joins.block_setCell h2 (i := 0) (.int .i64 e.k)
    have g2 := Joins.block_setCell g1 (i := 1) (.int .i64 e.j)
    have g3 := Joins.block_setCell g2 (i := 2) (.int .i64 e.v)
    have g4 := Joins.block_setCell g3 (i := 3) (.int .i64 e.t)
    have g5 := Joins.block_setCell g4 (i := 4) (.int .i64 e.c)
    simp only [List.setIfInBounds_toArray, List.set_cons_zero, List.set_cons_succ] at g5
    exact g5

theorem link_below {w W : World} {rb eb : Nat} (h : Below w.heap.size w W) (hr : w.heap.size ≤ rb) (he : w.heap.size ≤ eb) (v0 v1 v2 v3 v4 v5 v6 v7 u0 u1 u2 u3 u4 : Value) :
    Below w.heap.size w (((((((((((((W.setCell ⟨rb, 0, none⟩ v0).setCell ⟨rb, 1, none⟩ v1).setCell ⟨rb, 2, none⟩ v2).setCell ⟨rb, 3, none⟩ v3).setCell ⟨rb, 4, none⟩ v4).setCell ⟨rb, 5, none⟩ v5).setCell ⟨rb, 6, none⟩ v6).setCell ⟨rb, 7, none⟩ v7).setCell ⟨eb, 0, none⟩ u0).setCell ⟨eb, 1, none⟩ u1).setCell ⟨eb, 2, none⟩ u2).setCell ⟨eb, 3, none⟩ u3).setCell ⟨eb, 4, none⟩ u4) :=
  (((((below_eight h hr v0 v1 v2 v3 v4 v5 v6 v7).setCell (p := ⟨eb, 0, none⟩) he _).setCell (p := ⟨eb, 1, none⟩) he _).setCell (p := ⟨eb, 2, none⟩) he _).setCell (p := ⟨eb, 3, none⟩) he _).setCell (p := ⟨eb, 4, none⟩) he _

/-- An entry's cells. -/
abbrev C5 (w : World) (g : Nat) (x : En) : Prop := w.cell? ⟨g, 0, none⟩ = some (.int .i64 x.k) ∧ w.cell? ⟨g, 1, none⟩ = some (.int .i64 x.j) ∧ w.cell? ⟨g, 2, none⟩ = some (.int .i64 x.v) ∧ w.cell? ⟨g, 3, none⟩ = some (.int .i64 x.t) ∧ w.cell? ⟨g, 4, none⟩ = some (.int .i64 x.c)
theorem c5_far {w : World} {b g : Nat} (hne : g ≠ b) (i j : Nat) (v : Value) : (w.setCell ⟨b, i, none⟩ v).cell? ⟨g, j, none⟩ = w.cell? ⟨g, j, none⟩ := by
  have hh : (w.setCell ⟨b, i, none⟩ v).heap[g]? = w.heap[g]? := Below.heap_setCell _ _ _ _ (by show g ≠ b; exact hne)
  simp only [World.cell?, hh]
theorem c5_set {w : World} {g b : Nat} {x : En} (h : C5 w g x) (hne : g ≠ b) (i : Nat) (v : Value) : C5 (w.setCell ⟨b, i, none⟩ v) g x :=
  ⟨(c5_far hne _ _ _).trans h.1, (c5_far hne _ _ _).trans h.2.1, (c5_far hne _ _ _).trans h.2.2.1, (c5_far hne _ _ _).trans h.2.2.2.1, (c5_far hne _ _ _).trans h.2.2.2.2⟩
theorem c5_of {w : World} {g : Nat} {x : En} (h : w.heap[g]? = some (boxE x.k x.j x.v x.t x.c)) : C5 w g x := ⟨Joins.cell_of_block h 0, Joins.cell_of_block h 1, Joins.cell_of_block h 2, Joins.cell_of_block h 3, Joins.cell_of_block h 4⟩

theorem linkBad (d : Int) (w : World) :
    Calls Try.prog 42 #[.int .i64 d] w fun e w' => e = .returned (.tuple #[Rc.zero.val, En.zero.val, .int .i64 d]) ∧ Below w.heap.size w w' := by
  have hr : ((w.alloc (boxRc Rc.zero)).alloc (boxE 0 0 0 0 0)).heap[w.heap.size]? = some (boxRc Rc.zero) := heap_old (heap_new _ _) _
  have he : ((w.alloc (boxRc Rc.zero)).alloc (boxE 0 0 0 0 0)).heap[w.heap.size + 1]? = some (boxE En.zero.k En.zero.j En.zero.v En.zero.t En.zero.c) := by
    have := heap_new (w.alloc (boxRc Rc.zero)) (boxE 0 0 0 0 0)
    rwa [World.size_alloc] at this
  go_enter Try.func42, Try.ntmps42
  go_wp2
  exact ret3 (p := 2) (q := 3) (t := 4) Try.results42 rfl rfl rfl rfl hr he ⟨rfl, grew (grew (Below.refl _ _) _) _⟩

set_option linter.unusedSimpArgs false in
set_option maxHeartbeats 4000000 in
set_option maxRecDepth 100000 in
theorem linked_ck (v : Value) (xs : List Ub) (k a ep : Int) (x : En) (w : World) (h : ChAt w v xs) (d : Int) (hd : rkChain (unitsOf xs) = d) (hz : (d != 0) = true) :
    Calls Try.prog 22 #[v, .int .i64 k, .int .i64 a, x.val, .int .i64 ep] w fun e w' => e = .returned (.tuple #[(((Rc.zero, En.zero, d) : Rc × En × Int)).1.val, (((Rc.zero, En.zero, d) : Rc × En × Int)).2.1.val, .int .i64 (((Rc.zero, En.zero, d) : Rc × En × Int)).2.2]) ∧ Below w.heap.size w w' := by
  have HB0 : Aside (Below w.heap.size w (((w.alloc (boxE x.k x.j x.v x.t x.c)).alloc (boxRc Rc.zero)).alloc (boxE 0 0 0 0 0))) := grew (grew (grew (Below.refl _ _) _) _) _
  have HX0 : Aside ((((w.alloc (boxE x.k x.j x.v x.t x.c)).alloc (boxRc Rc.zero)).alloc (boxE 0 0 0 0 0)).heap[w.heap.size]? = some (boxE x.k x.j x.v x.t x.c)) := heap_old (heap_old (heap_new _ _) _) _
  have HR0 : Aside ((((w.alloc (boxE x.k x.j x.v x.t x.c)).alloc (boxRc Rc.zero)).alloc (boxE 0 0 0 0 0)).heap[w.heap.size + 1]? = some (boxRc Rc.zero)) := by
    have := heap_new (w.alloc (boxE x.k x.j x.v x.t x.c)) (boxRc Rc.zero)
    rw [World.size_alloc] at this
    exact heap_old this _
  have HE0 : Aside ((((w.alloc (boxE x.k x.j x.v x.t x.c)).alloc (boxRc Rc.zero)).alloc (boxE 0 0 0 0 0)).heap[w.heap.size + 1 + 1]? = some (boxE 0 0 0 0 0)) := by
    have := heap_new ((w.alloc (boxE x.k x.j x.v x.t x.c)).alloc (boxRc Rc.zero)) (boxE 0 0 0 0 0)
    rwa [World.size_alloc, World.size_alloc] at this
  have hck := ref_rkChain v xs _ (h.later HB0.out)
  rw [hd] at hck
  clear h hd
  go_enter Try.func22, Try.ntmps22
  go_wp2_with fail
  refine hck.mono ?_
  rintro e w1 ⟨rfl, hb1⟩
  have HX1 : Aside _ := heap_below HX0.out hb1 (heap_lt HX0.out)
  have HR1 : Aside _ := heap_below HR0.out hb1 (heap_lt HR0.out)
  have HE1 : Aside _ := heap_below HE0.out hb1 (heap_lt HE0.out)
  have HB1 : Aside (Below w.heap.size w w1) := step_below1 HB0.out hb1
  clear hb1 HX0 HR0 HE0 HB0
  clear hck
  go_wp2_with fail
  refine (linkBad d _).mono ?_
  rintro e w2 ⟨rfl, hb2⟩
  have HX2 : Aside _ := heap_below HX1.out hb2 (heap_lt HX1.out)
  have HR2 : Aside _ := heap_below HR1.out hb2 (heap_lt HR1.out)
  have HE2 : Aside _ := heap_below HE1.out hb2 (heap_lt HE1.out)
  have HB2 : Aside (Below w.heap.size w w2) := step_below1 HB1.out hb2
  clear hb2 HX1 HR1 HE1 HB1
  have zr : ∀ i, w2.cell? ⟨w.heap.size + 1, i, none⟩ = #[Value.int .i64 0, .int .i64 0, .int .i64 0, .int .i64 0, .int .i64 0, .int .i64 0, .int .i64 0, .int .i64 0][i]? := fun i => Joins.cell_of_block HR2.out i
  have fr : ∀ i, w2.frozen? ⟨w.heap.size + 1, i, none⟩ = false := fun i => Joins.unfrozen_of_block HR2.out i
  have ze : ∀ i, w2.cell? ⟨w.heap.size + 1 + 1, i, none⟩ = #[Value.int .i64 0, .int .i64 0, .int .i64 0, .int .i64 0, .int .i64 0][i]? := fun i => Joins.cell_of_block HE2.out i
  have fe : ∀ i, w2.frozen? ⟨w.heap.size + 1 + 1, i, none⟩ = false := fun i => Joins.unfrozen_of_block HE2.out i
  go_wp2
  have hst := link_stored HR2.out (f := En.zero) HE2.out (by omega) (Rc.zero) (En.zero) rfl
  exact ret3 (p := 10) (q := 11) (t := 12) (r := Rc.zero) (e := En.zero) Try.results22 rfl rfl rfl rfl hst.1 hst.2 ⟨rfl, link_below HB2.out (by omega) (by omega) _ _ _ _ _ _ _ _ _ _ _ _ _⟩

set_option linter.unusedSimpArgs false in
set_option maxHeartbeats 4000000 in
set_option maxRecDepth 100000 in
theorem linked_who1 (v : Value) (xs : List Ub) (k a ep : Int) (x : En) (w : World) (h : ChAt w v xs) (hd : rkChain (unitsOf xs) = 0) (hk : ¬ (0 ≤ k ∧ k ≤ 2)) :
    Calls Try.prog 22 #[v, .int .i64 k, .int .i64 a, x.val, .int .i64 ep] w fun e w' => e = .returned (.tuple #[(((Rc.zero, En.zero, 5) : Rc × En × Int)).1.val, (((Rc.zero, En.zero, 5) : Rc × En × Int)).2.1.val, .int .i64 (((Rc.zero, En.zero, 5) : Rc × En × Int)).2.2]) ∧ Below w.heap.size w w' := by
  have HB0 : Aside (Below w.heap.size w (((w.alloc (boxE x.k x.j x.v x.t x.c)).alloc (boxRc Rc.zero)).alloc (boxE 0 0 0 0 0))) := grew (grew (grew (Below.refl _ _) _) _) _
  have HX0 : Aside ((((w.alloc (boxE x.k x.j x.v x.t x.c)).alloc (boxRc Rc.zero)).alloc (boxE 0 0 0 0 0)).heap[w.heap.size]? = some (boxE x.k x.j x.v x.t x.c)) := heap_old (heap_old (heap_new _ _) _) _
  have HR0 : Aside ((((w.alloc (boxE x.k x.j x.v x.t x.c)).alloc (boxRc Rc.zero)).alloc (boxE 0 0 0 0 0)).heap[w.heap.size + 1]? = some (boxRc Rc.zero)) := by
    have := heap_new (w.alloc (boxE x.k x.j x.v x.t x.c)) (boxRc Rc.zero)
    rw [World.size_alloc] at this
    exact heap_old this _
  have HE0 : Aside ((((w.alloc (boxE x.k x.j x.v x.t x.c)).alloc (boxRc Rc.zero)).alloc (boxE 0 0 0 0 0)).heap[w.heap.size + 1 + 1]? = some (boxE 0 0 0 0 0)) := by
    have := heap_new ((w.alloc (boxE x.k x.j x.v x.t x.c)).alloc (boxRc Rc.zero)) (boxE 0 0 0 0 0)
    rwa [World.size_alloc, World.size_alloc] at this
  have hck := ref_rkChain v xs _ (h.later HB0.out)
  rw [hd] at hck
  have i1 := fun W => in_any k 0 2 W
  rw [decide_eq_false hk] at i1
  clear h hd hk
  go_enter Try.func22, Try.ntmps22
  go_wp2_with fail
  refine hck.mono ?_
  rintro e w1 ⟨rfl, hb1⟩
  have HX1 : Aside _ := heap_below HX0.out hb1 (heap_lt HX0.out)
  have HR1 : Aside _ := heap_below HR0.out hb1 (heap_lt HR0.out)
  have HE1 : Aside _ := heap_below HE0.out hb1 (heap_lt HE0.out)
  have HB1 : Aside (Below w.heap.size w w1) := step_below1 HB0.out hb1
  clear hb1 HX0 HR0 HE0 HB0
  clear hck
  go_wp2_with fail
  refine (i1 _).mono ?_
  rintro e w1 ⟨rfl, rfl⟩
  go_wp2_with fail
  refine (linkBad 5 _).mono ?_
  rintro e w3 ⟨rfl, hb3⟩
  have HX3 : Aside _ := heap_below HX1.out hb3 (heap_lt HX1.out)
  have HR3 : Aside _ := heap_below HR1.out hb3 (heap_lt HR1.out)
  have HE3 : Aside _ := heap_below HE1.out hb3 (heap_lt HE1.out)
  have HB3 : Aside (Below w.heap.size w w3) := step_below1 HB1.out hb3
  clear hb3 HX1 HR1 HE1 HB1
  have zr : ∀ i, w3.cell? ⟨w.heap.size + 1, i, none⟩ = #[Value.int .i64 0, .int .i64 0, .int .i64 0, .int .i64 0, .int .i64 0, .int .i64 0, .int .i64 0, .int .i64 0][i]? := fun i => Joins.cell_of_block HR3.out i
  have fr : ∀ i, w3.frozen? ⟨w.heap.size + 1, i, none⟩ = false := fun i => Joins.unfrozen_of_block HR3.out i
  have ze : ∀ i, w3.cell? ⟨w.heap.size + 1 + 1, i, none⟩ = #[Value.int .i64 0, .int .i64 0, .int .i64 0, .int .i64 0, .int .i64 0][i]? := fun i => Joins.cell_of_block HE3.out i
  have fe : ∀ i, w3.frozen? ⟨w.heap.size + 1 + 1, i, none⟩ = false := fun i => Joins.unfrozen_of_block HE3.out i
  go_wp2
  have hst := link_stored HR3.out (f := En.zero) HE3.out (by omega) (Rc.zero) (En.zero) rfl
  exact ret3 (p := 10) (q := 11) (t := 12) (r := Rc.zero) (e := En.zero) Try.results22 rfl rfl rfl rfl hst.1 hst.2 ⟨rfl, link_below HB3.out (by omega) (by omega) _ _ _ _ _ _ _ _ _ _ _ _ _⟩

set_option linter.unusedSimpArgs false in
set_option maxHeartbeats 4000000 in
set_option maxRecDepth 100000 in
theorem linked_who2 (v : Value) (xs : List Ub) (k a ep : Int) (x : En) (w : World) (h : ChAt w v xs) (hd : rkChain (unitsOf xs) = 0) (hk : 0 ≤ k ∧ k ≤ 2) (ha : ¬ (0 ≤ a ∧ a ≤ 59)) :
    Calls Try.prog 22 #[v, .int .i64 k, .int .i64 a, x.val, .int .i64 ep] w fun e w' => e = .returned (.tuple #[(((Rc.zero, En.zero, 5) : Rc × En × Int)).1.val, (((Rc.zero, En.zero, 5) : Rc × En × Int)).2.1.val, .int .i64 (((Rc.zero, En.zero, 5) : Rc × En × Int)).2.2]) ∧ Below w.heap.size w w' := by
  have HB0 : Aside (Below w.heap.size w (((w.alloc (boxE x.k x.j x.v x.t x.c)).alloc (boxRc Rc.zero)).alloc (boxE 0 0 0 0 0))) := grew (grew (grew (Below.refl _ _) _) _) _
  have HX0 : Aside ((((w.alloc (boxE x.k x.j x.v x.t x.c)).alloc (boxRc Rc.zero)).alloc (boxE 0 0 0 0 0)).heap[w.heap.size]? = some (boxE x.k x.j x.v x.t x.c)) := heap_old (heap_old (heap_new _ _) _) _
  have HR0 : Aside ((((w.alloc (boxE x.k x.j x.v x.t x.c)).alloc (boxRc Rc.zero)).alloc (boxE 0 0 0 0 0)).heap[w.heap.size + 1]? = some (boxRc Rc.zero)) := by
    have := heap_new (w.alloc (boxE x.k x.j x.v x.t x.c)) (boxRc Rc.zero)
    rw [World.size_alloc] at this
    exact heap_old this _
  have HE0 : Aside ((((w.alloc (boxE x.k x.j x.v x.t x.c)).alloc (boxRc Rc.zero)).alloc (boxE 0 0 0 0 0)).heap[w.heap.size + 1 + 1]? = some (boxE 0 0 0 0 0)) := by
    have := heap_new ((w.alloc (boxE x.k x.j x.v x.t x.c)).alloc (boxRc Rc.zero)) (boxE 0 0 0 0 0)
    rwa [World.size_alloc, World.size_alloc] at this
  have hck := ref_rkChain v xs _ (h.later HB0.out)
  rw [hd] at hck
  have i1 := fun W => in_any k 0 2 W
  rw [decide_eq_true hk] at i1
  have i2 := fun W => in_any a 0 59 W
  rw [decide_eq_false ha] at i2
  clear h hd hk
  go_enter Try.func22, Try.ntmps22
  go_wp2_with fail
  refine hck.mono ?_
  rintro e w1 ⟨rfl, hb1⟩
  have HX1 : Aside _ := heap_below HX0.out hb1 (heap_lt HX0.out)
  have HR1 : Aside _ := heap_below HR0.out hb1 (heap_lt HR0.out)
  have HE1 : Aside _ := heap_below HE0.out hb1 (heap_lt HE0.out)
  have HB1 : Aside (Below w.heap.size w w1) := step_below1 HB0.out hb1
  clear hb1 HX0 HR0 HE0 HB0
  clear hck
  go_wp2_with fail
  refine (i1 _).mono ?_
  rintro e w1 ⟨rfl, rfl⟩
  go_wp2_with fail
  refine (i2 _).mono ?_
  rintro e w1 ⟨rfl, rfl⟩
  go_wp2_with fail
  refine (linkBad 5 _).mono ?_
  rintro e w3 ⟨rfl, hb3⟩
  have HX3 : Aside _ := heap_below HX1.out hb3 (heap_lt HX1.out)
  have HR3 : Aside _ := heap_below HR1.out hb3 (heap_lt HR1.out)
  have HE3 : Aside _ := heap_below HE1.out hb3 (heap_lt HE1.out)
  have HB3 : Aside (Below w.heap.size w w3) := step_below1 HB1.out hb3
  clear hb3 HX1 HR1 HE1 HB1
  have zr : ∀ i, w3.cell? ⟨w.heap.size + 1, i, none⟩ = #[Value.int .i64 0, .int .i64 0, .int .i64 0, .int .i64 0, .int .i64 0, .int .i64 0, .int .i64 0, .int .i64 0][i]? := fun i => Joins.cell_of_block HR3.out i
  have fr : ∀ i, w3.frozen? ⟨w.heap.size + 1, i, none⟩ = false := fun i => Joins.unfrozen_of_block HR3.out i
  have ze : ∀ i, w3.cell? ⟨w.heap.size + 1 + 1, i, none⟩ = #[Value.int .i64 0, .int .i64 0, .int .i64 0, .int .i64 0, .int .i64 0][i]? := fun i => Joins.cell_of_block HE3.out i
  have fe : ∀ i, w3.frozen? ⟨w.heap.size + 1 + 1, i, none⟩ = false := fun i => Joins.unfrozen_of_block HE3.out i
  go_wp2
  have hst := link_stored HR3.out (f := En.zero) HE3.out (by omega) (Rc.zero) (En.zero) rfl
  exact ret3 (p := 10) (q := 11) (t := 12) (r := Rc.zero) (e := En.zero) Try.results22 rfl rfl rfl rfl hst.1 hst.2 ⟨rfl, link_below HB3.out (by omega) (by omega) _ _ _ _ _ _ _ _ _ _ _ _ _⟩

set_option linter.unusedSimpArgs false in
set_option maxHeartbeats 4000000 in
set_option maxRecDepth 100000 in
theorem linked_chk (v : Value) (xs : List Ub) (k a ep : Int) (x : En) (w : World) (h : ChAt w v xs) (hd : rkChain (unitsOf xs) = 0) (hk : 0 ≤ k ∧ k ≤ 2) (ha : 0 ≤ a ∧ a ≤ 59) (d : Int) (hx : x.chk = d) (hz : (d != 0) = true) :
    Calls Try.prog 22 #[v, .int .i64 k, .int .i64 a, x.val, .int .i64 ep] w fun e w' => e = .returned (.tuple #[(((Rc.zero, En.zero, d) : Rc × En × Int)).1.val, (((Rc.zero, En.zero, d) : Rc × En × Int)).2.1.val, .int .i64 (((Rc.zero, En.zero, d) : Rc × En × Int)).2.2]) ∧ Below w.heap.size w w' := by
  have HB0 : Aside (Below w.heap.size w (((w.alloc (boxE x.k x.j x.v x.t x.c)).alloc (boxRc Rc.zero)).alloc (boxE 0 0 0 0 0))) := grew (grew (grew (Below.refl _ _) _) _) _
  have HX0 : Aside ((((w.alloc (boxE x.k x.j x.v x.t x.c)).alloc (boxRc Rc.zero)).alloc (boxE 0 0 0 0 0)).heap[w.heap.size]? = some (boxE x.k x.j x.v x.t x.c)) := heap_old (heap_old (heap_new _ _) _) _
  have HR0 : Aside ((((w.alloc (boxE x.k x.j x.v x.t x.c)).alloc (boxRc Rc.zero)).alloc (boxE 0 0 0 0 0)).heap[w.heap.size + 1]? = some (boxRc Rc.zero)) := by
    have := heap_new (w.alloc (boxE x.k x.j x.v x.t x.c)) (boxRc Rc.zero)
    rw [World.size_alloc] at this
    exact heap_old this _
  have HE0 : Aside ((((w.alloc (boxE x.k x.j x.v x.t x.c)).alloc (boxRc Rc.zero)).alloc (boxE 0 0 0 0 0)).heap[w.heap.size + 1 + 1]? = some (boxE 0 0 0 0 0)) := by
    have := heap_new ((w.alloc (boxE x.k x.j x.v x.t x.c)).alloc (boxRc Rc.zero)) (boxE 0 0 0 0 0)
    rwa [World.size_alloc, World.size_alloc] at this
  have hck := ref_rkChain v xs _ (h.later HB0.out)
  rw [hd] at hck
  have i1 := fun W => in_any k 0 2 W
  rw [decide_eq_true hk] at i1
  have i2 := fun W => in_any a 0 59 W
  rw [decide_eq_true ha] at i2
  have hce := fun W => ref_check x.k x.j x.v x.t x.c W
  change ∀ W, Calls _ _ _ _ fun e w' => e = .returned (.int .i64 x.chk) ∧ _ at hce
  rw [hx] at hce
  clear h hd hk ha hx
  go_enter Try.func22, Try.ntmps22
  go_wp2_with fail
  refine hck.mono ?_
  rintro e w1 ⟨rfl, hb1⟩
  have HX1 : Aside _ := heap_below HX0.out hb1 (heap_lt HX0.out)
  have HR1 : Aside _ := heap_below HR0.out hb1 (heap_lt HR0.out)
  have HE1 : Aside _ := heap_below HE0.out hb1 (heap_lt HE0.out)
  have HB1 : Aside (Below w.heap.size w w1) := step_below1 HB0.out hb1
  clear hb1 HX0 HR0 HE0 HB0
  clear hck
  go_wp2_with fail
  refine (i1 _).mono ?_
  rintro e w1 ⟨rfl, rfl⟩
  go_wp2_with fail
  refine (i2 _).mono ?_
  rintro e w1 ⟨rfl, rfl⟩
  have zx : ∀ i, w1.cell? ⟨w.heap.size, i, none⟩ = #[Value.int .i64 x.k, .int .i64 x.j, .int .i64 x.v, .int .i64 x.t, .int .i64 x.c][i]? := fun i => Joins.cell_of_block HX1.out i
  go_wp2_with fail
  refine (hce _).mono ?_
  rintro e w3 ⟨rfl, hb3⟩
  have HX3 : Aside _ := heap_below HX1.out hb3 (heap_lt HX1.out)
  have HR3 : Aside _ := heap_below HR1.out hb3 (heap_lt HR1.out)
  have HE3 : Aside _ := heap_below HE1.out hb3 (heap_lt HE1.out)
  have HB3 : Aside (Below w.heap.size w w3) := step_below1 HB1.out hb3
  clear hb3 HX1 HR1 HE1 HB1
  clear hce zx i1 i2
  go_wp2_with fail
  refine (linkBad d _).mono ?_
  rintro e w4 ⟨rfl, hb4⟩
  have HX4 : Aside _ := heap_below HX3.out hb4 (heap_lt HX3.out)
  have HR4 : Aside _ := heap_below HR3.out hb4 (heap_lt HR3.out)
  have HE4 : Aside _ := heap_below HE3.out hb4 (heap_lt HE3.out)
  have HB4 : Aside (Below w.heap.size w w4) := step_below1 HB3.out hb4
  clear hb4 HX3 HR3 HE3 HB3
  have zr : ∀ i, w4.cell? ⟨w.heap.size + 1, i, none⟩ = #[Value.int .i64 0, .int .i64 0, .int .i64 0, .int .i64 0, .int .i64 0, .int .i64 0, .int .i64 0, .int .i64 0][i]? := fun i => Joins.cell_of_block HR4.out i
  have fr : ∀ i, w4.frozen? ⟨w.heap.size + 1, i, none⟩ = false := fun i => Joins.unfrozen_of_block HR4.out i
  have ze : ∀ i, w4.cell? ⟨w.heap.size + 1 + 1, i, none⟩ = #[Value.int .i64 0, .int .i64 0, .int .i64 0, .int .i64 0, .int .i64 0][i]? := fun i => Joins.cell_of_block HE4.out i
  have fe : ∀ i, w4.frozen? ⟨w.heap.size + 1 + 1, i, none⟩ = false := fun i => Joins.unfrozen_of_block HE4.out i
  go_wp2
  have hst := link_stored HR4.out (f := En.zero) HE4.out (by omega) (Rc.zero) (En.zero) rfl
  exact ret3 (p := 10) (q := 11) (t := 12) (r := Rc.zero) (e := En.zero) Try.results22 rfl rfl rfl rfl hst.1 hst.2 ⟨rfl, link_below HB4.out (by omega) (by omega) _ _ _ _ _ _ _ _ _ _ _ _ _⟩

end Go.Proofs.Ytaialgacaomaead
