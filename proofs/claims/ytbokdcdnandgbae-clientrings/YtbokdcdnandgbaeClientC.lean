/- The reference's SameClient; results that are clients. -/
import Derived.Test.YtbokdcdnandgbaeClientB
namespace Go.Proofs.Ytbokdcdnandgbae
open Go.RowKit
open scoped Classical

/-- Are two clients alike? -/
noncomputable def sameC (c x : Cl) : Bool := (c.p == x.p) && ((c.d == x.d) && (!(c.e.ne x.e) && ((c.a == x.a) && ((c.l == x.l) && ((c.n == x.n) && (decide (c.js = x.js) && decide (c.rs = x.rs)))))))

theorem sameC_self (c : Cl) : sameC c c = true := by simp [sameC, ne_self]
theorem sameC_eq {c x : Cl} (h : sameC c x = true) : c = x := by
  simp only [sameC, Bool.and_eq_true, beq_iff_eq, Bool.not_eq_true', decide_eq_true_eq] at h
  obtain ⟨h1, h2, h3, h4, h5, h6, h7, h8⟩ := h
  obtain ⟨p, d, e, a, l, n, js, rs⟩ := c
  obtain ⟨p', d', e', a', l', n', js', rs'⟩ := x
  simp only at *
  rw [h1, h2, ne_false.1 h3, h4, h5, h6, h7, h8]

set_option linter.unusedSimpArgs false in
set_option maxHeartbeats 4000000 in
set_option maxRecDepth 100000 in
theorem sc_0 (c x : Cl) (a1 a2 b1 b2 : Option Addr) (m1 k1 m2 k2 n1 o1 n2 o2 : Nat) (w : World)  (h0 : (c.p == x.p) = false) :
    Calls Try.prog 26 #[c.val (.slice a1 m1 k1) (.slice a2 m2 k2), x.val (.slice b1 n1 o1) (.slice b2 n2 o2)] w fun e w' => e = .returned (.bool (false)) ∧ Below w.heap.size w w' := by
  have HB0 : Aside (Below w.heap.size w ((w.alloc (boxC c (.slice a1 m1 k1) (.slice a2 m2 k2))).alloc (boxC x (.slice b1 n1 o1) (.slice b2 n2 o2)))) := grew (grew (Below.refl _ _) _) _
  obtain ⟨p, d, e, a, l, n, js, rs⟩ := c
  obtain ⟨p', d', e', a', l', n', js', rs'⟩ := x
  simp only at *
  go_enter Try.func26, Try.ntmps26
  go_wp2
  go_ret
  exact ⟨rfl, HB0.out⟩

set_option linter.unusedSimpArgs false in
set_option maxHeartbeats 4000000 in
set_option maxRecDepth 100000 in
theorem sc_1 (c x : Cl) (a1 a2 b1 b2 : Option Addr) (m1 k1 m2 k2 n1 o1 n2 o2 : Nat) (w : World) (h0 : (c.p == x.p) = true) (h1 : (c.d == x.d) = false) :
    Calls Try.prog 26 #[c.val (.slice a1 m1 k1) (.slice a2 m2 k2), x.val (.slice b1 n1 o1) (.slice b2 n2 o2)] w fun e w' => e = .returned (.bool (false)) ∧ Below w.heap.size w w' := by
  have HB0 : Aside (Below w.heap.size w ((w.alloc (boxC c (.slice a1 m1 k1) (.slice a2 m2 k2))).alloc (boxC x (.slice b1 n1 o1) (.slice b2 n2 o2)))) := grew (grew (Below.refl _ _) _) _
  obtain ⟨p, d, e, a, l, n, js, rs⟩ := c
  obtain ⟨p', d', e', a', l', n', js', rs'⟩ := x
  simp only at *
  go_enter Try.func26, Try.ntmps26
  go_wp2
  go_ret
  exact ⟨rfl, HB0.out⟩

set_option linter.unusedSimpArgs false in
set_option maxHeartbeats 4000000 in
set_option maxRecDepth 100000 in
theorem sc_2 (c x : Cl) (a1 a2 b1 b2 : Option Addr) (m1 k1 m2 k2 n1 o1 n2 o2 : Nat) (w : World) (h0 : (c.p == x.p) = true) (h1 : (c.d == x.d) = true) (h2 : unlike c.e.k c.e.j c.e.v c.e.t c.e.c x.e.k x.e.j x.e.v x.e.t x.e.c = true) :
    Calls Try.prog 26 #[c.val (.slice a1 m1 k1) (.slice a2 m2 k2), x.val (.slice b1 n1 o1) (.slice b2 n2 o2)] w fun e w' => e = .returned (.bool (false)) ∧ Below w.heap.size w w' := by
  have HB0 : Aside (Below w.heap.size w ((w.alloc (boxC c (.slice a1 m1 k1) (.slice a2 m2 k2))).alloc (boxC x (.slice b1 n1 o1) (.slice b2 n2 o2)))) := grew (grew (Below.refl _ _) _) _
  obtain ⟨p, d, e, a, l, n, js, rs⟩ := c
  obtain ⟨p', d', e', a', l', n', js', rs'⟩ := x
  simp only at *
  have hq := fun W => eql_entry e.k e.j e.v e.t e.c e'.k e'.j e'.v e'.t e'.c W
  rw [h2, Bool.not_true] at hq
  clear h2
  go_enter Try.func26, Try.ntmps26
  go_wp2
  go_ret
  exact ⟨rfl, HB0.out⟩

set_option linter.unusedSimpArgs false in
set_option maxHeartbeats 4000000 in
set_option maxRecDepth 100000 in
theorem sc_3 (c x : Cl) (a1 a2 b1 b2 : Option Addr) (m1 k1 m2 k2 n1 o1 n2 o2 : Nat) (w : World) (h0 : (c.p == x.p) = true) (h1 : (c.d == x.d) = true) (h2 : unlike c.e.k c.e.j c.e.v c.e.t c.e.c x.e.k x.e.j x.e.v x.e.t x.e.c = false) (h3 : (c.a == x.a) = false) :
    Calls Try.prog 26 #[c.val (.slice a1 m1 k1) (.slice a2 m2 k2), x.val (.slice b1 n1 o1) (.slice b2 n2 o2)] w fun e w' => e = .returned (.bool (false)) ∧ Below w.heap.size w w' := by
  have HB0 : Aside (Below w.heap.size w ((w.alloc (boxC c (.slice a1 m1 k1) (.slice a2 m2 k2))).alloc (boxC x (.slice b1 n1 o1) (.slice b2 n2 o2)))) := grew (grew (Below.refl _ _) _) _
  obtain ⟨p, d, e, a, l, n, js, rs⟩ := c
  obtain ⟨p', d', e', a', l', n', js', rs'⟩ := x
  simp only at *
  have hq := fun W => eql_entry e.k e.j e.v e.t e.c e'.k e'.j e'.v e'.t e'.c W
  rw [h2, Bool.not_false] at hq
  clear h2
  go_enter Try.func26, Try.ntmps26
  go_wp2
  go_ret
  exact ⟨rfl, HB0.out⟩

set_option linter.unusedSimpArgs false in
set_option maxHeartbeats 4000000 in
set_option maxRecDepth 100000 in
theorem sc_4 (c x : Cl) (a1 a2 b1 b2 : Option Addr) (m1 k1 m2 k2 n1 o1 n2 o2 : Nat) (w : World) (h0 : (c.p == x.p) = true) (h1 : (c.d == x.d) = true) (h2 : unlike c.e.k c.e.j c.e.v c.e.t c.e.c x.e.k x.e.j x.e.v x.e.t x.e.c = false) (h3 : (c.a == x.a) = true) (h4 : (c.l == x.l) = false) :
    Calls Try.prog 26 #[c.val (.slice a1 m1 k1) (.slice a2 m2 k2), x.val (.slice b1 n1 o1) (.slice b2 n2 o2)] w fun e w' => e = .returned (.bool (false)) ∧ Below w.heap.size w w' := by
  have HB0 : Aside (Below w.heap.size w ((w.alloc (boxC c (.slice a1 m1 k1) (.slice a2 m2 k2))).alloc (boxC x (.slice b1 n1 o1) (.slice b2 n2 o2)))) := grew (grew (Below.refl _ _) _) _
  obtain ⟨p, d, e, a, l, n, js, rs⟩ := c
  obtain ⟨p', d', e', a', l', n', js', rs'⟩ := x
  simp only at *
  have hq := fun W => eql_entry e.k e.j e.v e.t e.c e'.k e'.j e'.v e'.t e'.c W
  rw [h2, Bool.not_false] at hq
  clear h2
  go_enter Try.func26, Try.ntmps26
  go_wp2
  go_ret
  exact ⟨rfl, HB0.out⟩

set_option linter.unusedSimpArgs false in
set_option maxHeartbeats 4000000 in
set_option maxRecDepth 100000 in
theorem sc_5 (c x : Cl) (a1 a2 b1 b2 : Option Addr) (m1 k1 m2 k2 n1 o1 n2 o2 : Nat) (w : World) (h0 : (c.p == x.p) = true) (h1 : (c.d == x.d) = true) (h2 : unlike c.e.k c.e.j c.e.v c.e.t c.e.c x.e.k x.e.j x.e.v x.e.t x.e.c = false) (h3 : (c.a == x.a) = true) (h4 : (c.l == x.l) = true) (h5 : (c.n == x.n) = false) :
    Calls Try.prog 26 #[c.val (.slice a1 m1 k1) (.slice a2 m2 k2), x.val (.slice b1 n1 o1) (.slice b2 n2 o2)] w fun e w' => e = .returned (.bool (false)) ∧ Below w.heap.size w w' := by
  have HB0 : Aside (Below w.heap.size w ((w.alloc (boxC c (.slice a1 m1 k1) (.slice a2 m2 k2))).alloc (boxC x (.slice b1 n1 o1) (.slice b2 n2 o2)))) := grew (grew (Below.refl _ _) _) _
  obtain ⟨p, d, e, a, l, n, js, rs⟩ := c
  obtain ⟨p', d', e', a', l', n', js', rs'⟩ := x
  simp only at *
  have hq := fun W => eql_entry e.k e.j e.v e.t e.c e'.k e'.j e'.v e'.t e'.c W
  rw [h2, Bool.not_false] at hq
  clear h2
  go_enter Try.func26, Try.ntmps26
  go_wp2
  go_ret
  exact ⟨rfl, HB0.out⟩

set_option linter.unusedSimpArgs false in
set_option maxHeartbeats 4000000 in
set_option maxRecDepth 100000 in
theorem sc_bk (c x : Cl) (a1 a2 b1 b2 : Option Addr) (m1 k1 m2 k2 n1 o1 n2 o2 : Nat) (w : World) (h0 : (c.p == x.p) = true) (h1 : (c.d == x.d) = true) (h2 : unlike c.e.k c.e.j c.e.v c.e.t c.e.c x.e.k x.e.j x.e.v x.e.t x.e.c = false) (h3 : (c.a == x.a) = true) (h4 : (c.l == x.l) = true) (h5 : (c.n == x.n) = true) (hc : BkAt w (.slice a1 m1 k1) (.slice a2 m2 k2) c) (hx : BkAt w (.slice b1 n1 o1) (.slice b2 n2 o2) x) (hn1 : c.js.length ≤ most) (hn2 : c.rs.length ≤ most) :
    Calls Try.prog 26 #[c.val (.slice a1 m1 k1) (.slice a2 m2 k2), x.val (.slice b1 n1 o1) (.slice b2 n2 o2)] w fun e w' => e = .returned (.bool (decide (c.js = x.js) && decide (c.rs = x.rs))) ∧ Below w.heap.size w w' := by
  have HB0 : Aside (Below w.heap.size w ((w.alloc (boxC c (.slice a1 m1 k1) (.slice a2 m2 k2))).alloc (boxC x (.slice b1 n1 o1) (.slice b2 n2 o2)))) := grew (grew (Below.refl _ _) _) _
  have ks := ref_same (.slice a1 m1 k1) (.slice a2 m2 k2) (.slice b1 n1 o1) (.slice b2 n2 o2) c.js x.js c.rs x.rs _ (hc.1.later HB0.out) (hc.2.later HB0.out) (hx.1.later HB0.out) (hx.2.later HB0.out) hn1 hn2
  clear hc hx hn1 hn2
  obtain ⟨p, d, e, a, l, n, js, rs⟩ := c
  obtain ⟨p', d', e', a', l', n', js', rs'⟩ := x
  simp only at *
  have hq := fun W => eql_entry e.k e.j e.v e.t e.c e'.k e'.j e'.v e'.t e'.c W
  rw [h2, Bool.not_false] at hq
  clear h2
  go_enter Try.func26, Try.ntmps26
  go_wp2_with fail
  refine ks.mono ?_
  rintro r w1 ⟨rfl, hb1⟩
  have HB1 : Aside (Below w.heap.size w w1) := step_below HB0.out hb1
  clear hb1 ks HB0
  go_wp2
  go_ret
  exact ⟨rfl, HB1.out⟩

/-- The reference's SameClient. -/
theorem ref_sameC (c x : Cl) (v1 v2 u1 u2 : Value) (w : World) (hc : BkAt w v1 v2 c) (hx : BkAt w u1 u2 x) (hn1 : c.js.length ≤ most) (hn2 : c.rs.length ≤ most) :
    Calls Try.prog 26 #[c.val v1 v2, x.val u1 u2] w fun e w' => e = .returned (.bool (sameC c x)) ∧ Below w.heap.size w w' := by
  obtain ⟨a1, k1, a2, k2, rfl, rfl⟩ := bk_slices hc.1 hc.2
  obtain ⟨b1, o1, b2, o2, rfl, rfl⟩ := bk_slices hx.1 hx.2
  unfold sameC
  cases h0 : (c.p == x.p) with
  | false => exact sc_0 c x a1 a2 b1 b2 _ k1 _ k2 _ o1 _ o2 w h0
  | true =>
    cases h1 : (c.d == x.d) with
    | false => exact sc_1 c x a1 a2 b1 b2 _ k1 _ k2 _ o1 _ o2 w h0 h1
    | true =>
      cases h2 : (c.e.ne x.e) with
      | true => exact sc_2 c x a1 a2 b1 b2 _ k1 _ k2 _ o1 _ o2 w h0 h1 h2
      | false =>
        cases h3 : (c.a == x.a) with
        | false => exact sc_3 c x a1 a2 b1 b2 _ k1 _ k2 _ o1 _ o2 w h0 h1 h2 h3
        | true =>
          cases h4 : (c.l == x.l) with
          | false => exact sc_4 c x a1 a2 b1 b2 _ k1 _ k2 _ o1 _ o2 w h0 h1 h2 h3 h4
          | true =>
            cases h5 : (c.n == x.n) with
            | false => exact sc_5 c x a1 a2 b1 b2 _ k1 _ k2 _ o1 _ o2 w h0 h1 h2 h3 h4 h5
            | true =>
              exact sc_bk c x a1 a2 b1 b2 _ k1 _ k2 _ o1 _ o2 w h0 h1 h2 h3 h4 h5 hc hx hn1 hn2

/-- The end of a function whose results are a client in memory and a slot. -/
theorem ret_client {fn : Func} {R : Ending → World → Prop} {a : Act} {W : World} {b p q : Nat} {c : Cl} {v1 v2 y : Value} (hf : fn.results = #[.cell p 47, .tmp q]) (hd : a.defers = [])
    (h2 : a.tmps.getD p undef = .pointer (some ⟨b, 0, none⟩)) (h3 : a.tmps.getD q undef = y) (hR : W.heap[b]? = some (boxC c v1 v2)) (hp : R (.returned (.tuple #[c.val v1 v2, y])) W) :
    bodyPost Try.prog fn R .ret a W := by
  have c0 : ∀ i, W.cell? ⟨b, i, none⟩ = #[Value.int .i64 c.p, .int .i64 c.d, .int .i64 c.e.k, .int .i64 c.e.j, .int .i64 c.e.v, .int .i64 c.e.t, .int .i64 c.e.c, .int .i64 c.a, .int .i64 c.l, .int .i64 c.n, v1, v2][i]? := fun i => Joins.cell_of_block hR i
  refine bodyPost_ret (v := .tuple #[c.val v1 v2, y]) ?_ hd hp
  rw [results_cell_tmp hf, h2, h3]
  simp [go_sem, c0]

/-- A client stored, cell by cell. -/
def st12 (W : World) (b : Nat) (c : Cl) (v1 v2 : Value) : World :=
  (((((((((((W.setCell ⟨b, 0, none⟩ (.int .i64 c.p)).setCell ⟨b, 1, none⟩ (.int .i64 c.d)).setCell ⟨b, 2, none⟩ (.int .i64 c.e.k)).setCell ⟨b, 3, none⟩ (.int .i64 c.e.j)).setCell ⟨b, 4, none⟩ (.int .i64 c.e.v)).setCell ⟨b, 5, none⟩ (.int .i64 c.e.t)).setCell ⟨b, 6, none⟩ (.int .i64 c.e.c)).setCell ⟨b, 7, none⟩ (.int .i64 c.a)).setCell ⟨b, 8, none⟩ (.int .i64 c.l)).setCell ⟨b, 9, none⟩ (.int .i64 c.n)).setCell ⟨b, 10, none⟩ v1).setCell ⟨b, 11, none⟩ v2

theorem st12_box {W : World} {b : Nat} {q : Cl} {u1 u2 : Value} (h : W.heap[b]? = some (boxC q u1 u2)) (c : Cl) (v1 v2 : Value) : (st12 W b c v1 v2).heap[b]? = some (boxC c v1 v2) := by
  have g0 := Joins.block_setCell h (i := 0) (.int .i64 c.p)
  have g1 := Joins.block_setCell g0 (i := 1) (.int .i64 c.d)
  have g2 := Joins.block_setCell g1 (i := 2) (.int .i64 c.e.k)
  have g3 := Joins.block_setCell g2 (i := 3) (.int .i64 c.e.j)
  have g4 := Joins.block_setCell g3 (i := 4) (.int .i64 c.e.v)
  have g5 := Joins.block_setCell g4 (i := 5) (.int .i64 c.e.t)
  have g6 := Joins.block_setCell g5 (i := 6) (.int .i64 c.e.c)
  have g7 := Joins.block_setCell g6 (i := 7) (.int .i64 c.a)
  have g8 := Joins.block_setCell g7 (i := 8) (.int .i64 c.l)
  have g9 := Joins.block_setCell g8 (i := 9) (.int .i64 c.n)
  have g10 := Joins.block_setCell g9 (i := 10) (v1)
  have g11 := Joins.block_setCell g10 (i := 11) (v2)
  simp only [List.setIfInBounds_toArray, List.set_cons_zero, List.set_cons_succ] at g11
  exact g11

theorem st12_below {B : Nat} {a W : World} {b : Nat} (h : Below B a W) (hb : B ≤ b) (c : Cl) (v1 v2 : Value) : Below B a (st12 W b c v1 v2) :=
  ((((((((((((h).setCell (p := ⟨b, 0, none⟩) hb _).setCell (p := ⟨b, 1, none⟩) hb _).setCell (p := ⟨b, 2, none⟩) hb _).setCell (p := ⟨b, 3, none⟩) hb _).setCell (p := ⟨b, 4, none⟩) hb _).setCell (p := ⟨b, 5, none⟩) hb _).setCell (p := ⟨b, 6, none⟩) hb _).setCell (p := ⟨b, 7, none⟩) hb _).setCell (p := ⟨b, 8, none⟩) hb _).setCell (p := ⟨b, 9, none⟩) hb _).setCell (p := ⟨b, 10, none⟩) hb _).setCell (p := ⟨b, 11, none⟩) hb _

/-- The end, behind the store of a client. -/
theorem ret_st {fn : Func} {R : Ending → World → Prop} {a : Act} {W : World} {p q : Nat} {y : Value} (W0 : World) (b : Nat) (c : Cl) (v1 v2 : Value) {o : Cl} {u1 u2 : Value} (hf : fn.results = #[.cell p 47, .tmp q]) (hd : a.defers = [])
    (h2 : a.tmps.getD p undef = .pointer (some ⟨b, 0, none⟩)) (h3 : a.tmps.getD q undef = y) (hR : W0.heap[b]? = some (boxC o u1 u2)) (hW : W = st12 W0 b c v1 v2) (hp : R (.returned (.tuple #[c.val v1 v2, y])) (st12 W0 b c v1 v2)) :
    bodyPost Try.prog fn R .ret a W := by
  rw [hW]
  exact ret_client hf hd h2 h3 (st12_box hR c v1 v2) hp

end Go.Proofs.Ytbokdcdnandgbae
