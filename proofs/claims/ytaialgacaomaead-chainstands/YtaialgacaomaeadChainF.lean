/- The reference's Linked, whole; ReadAt. -/
import Derived.Test.YtaialgacaomaeadChainE0
import Derived.Test.YtaialgacaomaeadChainE1
import Derived.Test.YtaialgacaomaeadChainE2
namespace Go.Proofs.Ytaialgacaomaead
open Go.RowKit
open scoped Classical

theorem plc_eq {us : List Un} {k m : Nat} {u : Un} {y : En} (hu : us[k]? = some u) (hy : u.cells[m]? = some y) : plc us k m = y := by
  have e : us.getD k Un.zero = u := by rw [List.getD_eq_getElem?_getD, hu]; rfl
  unfold plc
  rw [e, List.getD_eq_getElem?_getD, hy]
  rfl

/-- A right chain in memory. -/
theorem right_three {w : World} {v : Value} {xs : List Ub} (h : ChAt w v xs) (hd : ckChain (unitsOf xs) = 0) :
    ∃ U0 U1 U2 a0 c0 a1 c1 a2 c2 b off c, xs = [⟨U0, .slice a0 60 c0⟩, ⟨U1, .slice a1 60 c1⟩, ⟨U2, .slice a2 60 c2⟩] ∧ v = .slice (some ⟨b, off, none⟩) 3 c ∧ U0.ck = 0 ∧ U1.ck = 0 ∧ U2.ck = 0 := by
  obtain ⟨a, n, c, rfl, _⟩ := id h.room
  have hl := h.rows.len
  have h3 := ckChain_len hd
  rw [List.length_map] at h3
  obtain rfl : n = 3 := by omega
  obtain ⟨u0, u1, u2, a0, n0, c0, a1, n1, c1, a2, n2, c2, b, off, rfl, rfl, hE, ⟨g0, g1, g2⟩, l0, l1, l2⟩ := three_of h
  obtain ⟨v0, v1, v2, e, d0, d1, d2, _, _⟩ := ckChain_zero.1 hd
  have e' : [u0, u1, u2] = [v0, v1, v2] := e
  simp only [List.cons.injEq, and_true] at e'
  obtain ⟨rfl, rfl, rfl⟩ := e'
  have m0 := (Un.ck_zero.1 d0).2.1
  have m1 := (Un.ck_zero.1 d1).2.1
  have m2 := (Un.ck_zero.1 d2).2.1
  obtain rfl : n0 = 60 := by omega
  obtain rfl : n1 = 60 := by omega
  obtain rfl : n2 = 60 := by omega
  exact ⟨u0, u1, u2, a0, c0, a1, c1, a2, c2, b, off, c, rfl, rfl, d0, d1, d2⟩

set_option maxRecDepth 10000 in
/-- The reference's Linked. -/
theorem ref_linked (v : Value) (xs : List Ub) (k a ep : Int) (x : En) (w : World) (h : ChAt w v xs) :
    Calls Try.prog 22 #[v, .int .i64 k, .int .i64 a, x.val, .int .i64 ep] w fun e w' => e = .returned (.tuple #[(linkRef (unitsOf xs) k a x ep).1.val, (linkRef (unitsOf xs) k a x ep).2.1.val, .int .i64 (linkRef (unitsOf xs) k a x ep).2.2]) ∧ Below w.heap.size w w' := by
  by_cases hd : rkChain (unitsOf xs) = 0
  · by_cases hr : ¬ (0 ≤ k ∧ k ≤ 2) ∨ ¬ (0 ≤ a ∧ a ≤ 59)
    · rw [linkRef, if_neg (by simpa using hd), linkOf, if_neg (by simpa using rk_ck hd), if_pos hr]
      by_cases hk : 0 ≤ k ∧ k ≤ 2
      · exact linked_who2 v xs k a ep x w h hd hk (hr.resolve_left (by simpa using hk))
      · exact linked_who1 v xs k a ep x w h hd hk
    · have hk : 0 ≤ k ∧ k ≤ 2 := Classical.byContradiction fun e => hr (Or.inl e)
      have ha : 0 ≤ a ∧ a ≤ 59 := Classical.byContradiction fun e => hr (Or.inr e)
      by_cases hx : x.chk = 0
      · rw [linkRef, if_neg (by simpa using hd), linkOf, if_neg (by simpa using rk_ck hd), if_neg hr, if_neg (by simpa using hx)]
        obtain ⟨U0, U1, U2, a0, c0, a1, c1, a2, c2, b, off, c, rfl, rfl, d0, d1, d2⟩ := right_three h (rk_ck hd)
        obtain ⟨m, rfl⟩ : ∃ m : Nat, a = m := ⟨a.toNat, by omega⟩
        have hm : m < 60 := by omega
        have hd' : rkChain [U0, U1, U2] = 0 := hd
        obtain ⟨y0, hy0⟩ : ∃ y, U0.cells[m]? = some y := ⟨_, plc_some (us := [U0]) (k := 0) rfl d0 hm⟩
        obtain ⟨y1, hy1⟩ : ∃ y, U1.cells[m]? = some y := ⟨_, plc_some (us := [U1]) (k := 0) rfl d1 hm⟩
        obtain ⟨y2, hy2⟩ : ∃ y, U2.cells[m]? = some y := ⟨_, plc_some (us := [U2]) (k := 0) rfl d2 hm⟩
        have e0 : plc (unitsOf [⟨U0, .slice a0 60 c0⟩, ⟨U1, .slice a1 60 c1⟩, ⟨U2, .slice a2 60 c2⟩]) 0 m = y0 := plc_eq (u := U0) rfl hy0
        have e1 : plc (unitsOf [⟨U0, .slice a0 60 c0⟩, ⟨U1, .slice a1 60 c1⟩, ⟨U2, .slice a2 60 c2⟩]) 1 m = y1 := plc_eq (u := U1) rfl hy1
        have e2 : plc (unitsOf [⟨U0, .slice a0 60 c0⟩, ⟨U1, .slice a1 60 c1⟩, ⟨U2, .slice a2 60 c2⟩]) 2 m = y2 := plc_eq (u := U2) rfl hy2
        have hk' : k = 0 ∨ k = 1 ∨ k = 2 := by omega
        rcases hk' with rfl | rfl | rfl
        · rw [show ((m : Int).toNat) = m from rfl, show ((0 : Int).toNat) = 0 from rfl, show (0 - 1 : Nat) = 0 from rfl, e0]
          show Calls _ _ _ _ fun e w' => e = .returned (.tuple #[(if U0.p ≠ ep then ((Rc.zero, En.zero, 8) : Rc × En × Int) else _).1.val, (if U0.p ≠ ep then ((Rc.zero, En.zero, 8) : Rc × En × Int) else _).2.1.val, .int .i64 (if U0.p ≠ ep then ((Rc.zero, En.zero, 8) : Rc × En × Int) else _).2.2]) ∧ _
          by_cases hp : U0.p = ep
          · have hpb : (U0.p != ep) = false := by rw [hp]; simp
            rw [if_neg (by simpa using hp)]
            rw [if_neg (by omega)]
            cases hb : y0.isB with
            | false => rw [if_pos rfl]; exact linked0_stands b off c m ep x U0 U1 U2 a0 a1 a2 c0 c1 c2 w h hd' hm hx y0 hy0 hpb hb
            | true => rw [if_neg (by simp)]; exact linked0_new b off c m ep x U0 U1 U2 a0 a1 a2 c0 c1 c2 w h hd' hm hx y0 hy0 hpb hb
          · rw [if_pos hp]
            exact linked0_old b off c m ep x U0 U1 U2 a0 a1 a2 c0 c1 c2 w h hd' hm hx y0 hy0 (by rw [bne_iff_ne]; exact hp)
        · rw [show ((m : Int).toNat) = m from rfl, show ((1 : Int).toNat) = 1 from rfl, show (1 - 1 : Nat) = 0 from rfl, e1, e0]
          show Calls _ _ _ _ fun e w' => e = .returned (.tuple #[(if U1.p ≠ ep then ((Rc.zero, En.zero, 8) : Rc × En × Int) else _).1.val, (if U1.p ≠ ep then ((Rc.zero, En.zero, 8) : Rc × En × Int) else _).2.1.val, .int .i64 (if U1.p ≠ ep then ((Rc.zero, En.zero, 8) : Rc × En × Int) else _).2.2]) ∧ _
          by_cases hp : U1.p = ep
          · have hpb : (U1.p != ep) = false := by rw [hp]; simp
            rw [if_neg (by simpa using hp)]
            by_cases hxz : x = y0
            · have hun : unlike x.k x.j x.v x.t x.c y0.k y0.j y0.v y0.t y0.c = false := by rw [hxz]; simp [unlike]
              rw [if_neg (fun hh => hh.2 hxz)]
              cases hb : y1.isB with
              | false => rw [if_pos rfl]; exact linked1_stands b off c m ep x U0 U1 U2 a0 a1 a2 c0 c1 c2 w h hd' hm hx y1 hy1 y0 hy0 hpb hun hb
              | true => rw [if_neg (by simp)]; exact linked1_new b off c m ep x U0 U1 U2 a0 a1 a2 c0 c1 c2 w h hd' hm hx y1 hy1 y0 hy0 hpb hun hb
            · have hun : unlike x.k x.j x.v x.t x.c y0.k y0.j y0.v y0.t y0.c = true := by rw [← Bool.not_eq_false]; exact fun hh => hxz (en_eq hh)
              rw [if_pos ⟨by omega, hxz⟩]
              exact linked1_late b off c m ep x U0 U1 U2 a0 a1 a2 c0 c1 c2 w h hd' hm hx y1 hy1 y0 hy0 hpb hun
          · rw [if_pos hp]
            exact linked1_old b off c m ep x U0 U1 U2 a0 a1 a2 c0 c1 c2 w h hd' hm hx y1 hy1 y0 hy0 (by rw [bne_iff_ne]; exact hp)
        · rw [show ((m : Int).toNat) = m from rfl, show ((2 : Int).toNat) = 2 from rfl, show (2 - 1 : Nat) = 1 from rfl, e2, e1]
          show Calls _ _ _ _ fun e w' => e = .returned (.tuple #[(if U2.p ≠ ep then ((Rc.zero, En.zero, 8) : Rc × En × Int) else _).1.val, (if U2.p ≠ ep then ((Rc.zero, En.zero, 8) : Rc × En × Int) else _).2.1.val, .int .i64 (if U2.p ≠ ep then ((Rc.zero, En.zero, 8) : Rc × En × Int) else _).2.2]) ∧ _
          by_cases hp : U2.p = ep
          · have hpb : (U2.p != ep) = false := by rw [hp]; simp
            rw [if_neg (by simpa using hp)]
            by_cases hxz : x = y1
            · have hun : unlike x.k x.j x.v x.t x.c y1.k y1.j y1.v y1.t y1.c = false := by rw [hxz]; simp [unlike]
              rw [if_neg (fun hh => hh.2 hxz)]
              cases hb : y2.isB with
              | false => rw [if_pos rfl]; exact linked2_stands b off c m ep x U0 U1 U2 a0 a1 a2 c0 c1 c2 w h hd' hm hx y2 hy2 y1 hy1 hpb hun hb
              | true => rw [if_neg (by simp)]; exact linked2_new b off c m ep x U0 U1 U2 a0 a1 a2 c0 c1 c2 w h hd' hm hx y2 hy2 y1 hy1 hpb hun hb
            · have hun : unlike x.k x.j x.v x.t x.c y1.k y1.j y1.v y1.t y1.c = true := by rw [← Bool.not_eq_false]; exact fun hh => hxz (en_eq hh)
              rw [if_pos ⟨by omega, hxz⟩]
              exact linked2_late b off c m ep x U0 U1 U2 a0 a1 a2 c0 c1 c2 w h hd' hm hx y2 hy2 y1 hy1 hpb hun
          · rw [if_pos hp]
            exact linked2_old b off c m ep x U0 U1 U2 a0 a1 a2 c0 c1 c2 w h hd' hm hx y2 hy2 y1 hy1 (by rw [bne_iff_ne]; exact hp)
      · rw [linkRef, if_neg (by simpa using hd), linkOf, if_neg (by simpa using rk_ck hd), if_neg hr, if_pos hx]
        exact linked_chk v xs k a ep x w h hd hk ha x.chk rfl (by rw [bne_iff_ne]; exact hx)
  · rw [linkRef, if_pos hd]
    exact linked_ck v xs k a ep x w h _ rfl (by rw [bne_iff_ne]; exact hd)

/-- The end of a function whose results are an entry in memory and a slot. -/
theorem ret_ent {fn : Func} {R : Ending → World → Prop} {a : Act} {W : World} {b p q : Nat} {e : En} {y : Value} (hf : fn.results = #[.cell p 26, .tmp q]) (hd : a.defers = [])
    (h2 : a.tmps.getD p undef = .pointer (some ⟨b, 0, none⟩)) (h3 : a.tmps.getD q undef = y) (hR : W.heap[b]? = some (boxE e.k e.j e.v e.t e.c)) (hp : R (.returned (.tuple #[e.val, y])) W) :
    bodyPost Try.prog fn R .ret a W := by
  have c0 : ∀ i, W.cell? ⟨b, i, none⟩ = #[Value.int .i64 e.k, .int .i64 e.j, .int .i64 e.v, .int .i64 e.t, .int .i64 e.c][i]? := fun i => Joins.cell_of_block hR i
  refine bodyPost_ret (v := .tuple #[e.val, y]) ?_ hd hp
  rw [results_cell_tmp hf, h2, h3]
  simp [go_sem, c0]

theorem five_below {B : Nat} {a W : World} {b : Nat} (h : Below B a W) (hb : B ≤ b) (v0 v1 v2 v3 v4 : Value) :
    Below B a (((((W.setCell ⟨b, 0, none⟩ v0).setCell ⟨b, 1, none⟩ v1).setCell ⟨b, 2, none⟩ v2).setCell ⟨b, 3, none⟩ v3).setCell ⟨b, 4, none⟩ v4) :=
  ((((h.setCell (p := ⟨b, 0, none⟩) hb _).setCell (p := ⟨b, 1, none⟩) hb _).setCell (p := ⟨b, 2, none⟩) hb _).setCell (p := ⟨b, 3, none⟩) hb _).setCell (p := ⟨b, 4, none⟩) hb _

theorem five_box {W : World} {b : Nat} {f : En} (h : W.heap[b]? = some (boxE f.k f.j f.v f.t f.c)) (e : En) :
    (((((W.setCell ⟨b, 0, none⟩ (.int .i64 e.k)).setCell ⟨b, 1, none⟩ (.int .i64 e.j)).setCell ⟨b, 2, none⟩ (.int .i64 e.v)).setCell ⟨b, 3, none⟩ (.int .i64 e.t)).setCell ⟨b, 4, none⟩ (.int .i64 e.c)).heap[b]? = some (boxE e.k e.j e.v e.t e.c) := by
  have g1 := Joins.block_setCell h (i := 0) (.int .i64 e.k)
  have g2 := Joins.block_setCell g1 (i := 1) (.int .i64 e.j)
  have g3 := Joins.block_setCell g2 (i := 2) (.int .i64 e.v)
  have g4 := Joins.block_setCell g3 (i := 3) (.int .i64 e.t)
  have g5 := Joins.block_setCell g4 (i := 4) (.int .i64 e.c)
  simp only [List.setIfInBounds_toArray, List.set_cons_zero, List.set_cons_succ] at g5
  exact g5

set_option linter.unusedSimpArgs false in
set_option maxHeartbeats 1000000 in
set_option maxRecDepth 100000 in
theorem read_ck (v : Value) (xs : List Ub) (a : Int) (w : World) (h : ChAt w v xs) (d : Int) (hd : rkChain (unitsOf xs) = d) (hz : (d != 0) = true) :
    Calls Try.prog 23 #[v, .int .i64 a] w fun e w' => e = .returned (.tuple #[(((En.zero, d) : En × Int)).1.val, .int .i64 (((En.zero, d) : En × Int)).2]) ∧ Below w.heap.size w w' := by
  have HB0 : Aside (Below w.heap.size w (w.alloc (boxE 0 0 0 0 0))) := grew (Below.refl _ _) _
  have HE0 : Aside ((w.alloc (boxE 0 0 0 0 0)).heap[w.heap.size]? = some (boxE 0 0 0 0 0)) := heap_new _ _
  have hck := ref_rkChain v xs _ (h.later HB0.out)
  rw [hd] at hck
  clear h hd
  go_enter Try.func23, Try.ntmps23
  go_wp2_with fail
  refine hck.mono ?_
  rintro e w1 ⟨rfl, hb1⟩
  have HE1 : Aside _ := heap_below HE0.out hb1 (heap_lt HE0.out)
  have HB1 : Aside (Below w.heap.size w w1) := step_below1 HB0.out hb1
  clear HE0 HB0
  clear hck hb1
  have ze : ∀ i, w1.cell? ⟨w.heap.size, i, none⟩ = #[Value.int .i64 0, .int .i64 0, .int .i64 0, .int .i64 0, .int .i64 0][i]? := fun i => Joins.cell_of_block HE1.out i
  have fe : ∀ i, w1.frozen? ⟨w.heap.size, i, none⟩ = false := fun i => Joins.unfrozen_of_block HE1.out i
  go_wp2
  exact ret_ent (p := 4) (q := 5) (e := En.zero) Try.results23 rfl rfl rfl (five_box (f := En.zero) HE1.out (En.zero)) ⟨rfl, five_below HB1.out (Nat.le_refl _) _ _ _ _ _⟩

set_option linter.unusedSimpArgs false in
set_option maxHeartbeats 1000000 in
set_option maxRecDepth 100000 in
theorem read_who (v : Value) (xs : List Ub) (a : Int) (w : World) (h : ChAt w v xs) (hd : rkChain (unitsOf xs) = 0) (ha : ¬ (0 ≤ a ∧ a ≤ 59)) :
    Calls Try.prog 23 #[v, .int .i64 a] w fun e w' => e = .returned (.tuple #[(((En.zero, 5) : En × Int)).1.val, .int .i64 (((En.zero, 5) : En × Int)).2]) ∧ Below w.heap.size w w' := by
  have HB0 : Aside (Below w.heap.size w (w.alloc (boxE 0 0 0 0 0))) := grew (Below.refl _ _) _
  have HE0 : Aside ((w.alloc (boxE 0 0 0 0 0)).heap[w.heap.size]? = some (boxE 0 0 0 0 0)) := heap_new _ _
  have hck := ref_rkChain v xs _ (h.later HB0.out)
  rw [hd] at hck
  have i1 := fun W => in_any a 0 59 W
  rw [decide_eq_false ha] at i1
  clear h hd ha
  go_enter Try.func23, Try.ntmps23
  go_wp2_with fail
  refine hck.mono ?_
  rintro e w1 ⟨rfl, hb1⟩
  have HE1 : Aside _ := heap_below HE0.out hb1 (heap_lt HE0.out)
  have HB1 : Aside (Below w.heap.size w w1) := step_below1 HB0.out hb1
  clear HE0 HB0
  clear hck hb1
  go_wp2_with fail
  refine (i1 _).mono ?_
  rintro e w1 ⟨rfl, rfl⟩
  have ze : ∀ i, w1.cell? ⟨w.heap.size, i, none⟩ = #[Value.int .i64 0, .int .i64 0, .int .i64 0, .int .i64 0, .int .i64 0][i]? := fun i => Joins.cell_of_block HE1.out i
  have fe : ∀ i, w1.frozen? ⟨w.heap.size, i, none⟩ = false := fun i => Joins.unfrozen_of_block HE1.out i
  go_wp2
  exact ret_ent (p := 4) (q := 5) (e := En.zero) Try.results23 rfl rfl rfl (five_box (f := En.zero) HE1.out (En.zero)) ⟨rfl, five_below HB1.out (Nat.le_refl _) _ _ _ _ _⟩

/-- What ReadAt reads. -/
abbrev WrS2 (W w : World) (B o : Nat) (s : Value) (b off k : Nat) (x : En) : Prop :=
  Below W.heap.size W w ∧ w.cell? ⟨B, o, none⟩ = some s ∧ w.cell? ⟨b, off + k * 5, none⟩ = some (.int .i64 x.k) ∧ w.cell? ⟨b, off + k * 5 + 1, none⟩ = some (.int .i64 x.j) ∧ w.cell? ⟨b, off + k * 5 + 2, none⟩ = some (.int .i64 x.v) ∧ w.cell? ⟨b, off + k * 5 + 3, none⟩ = some (.int .i64 x.t) ∧ w.cell? ⟨b, off + k * 5 + 4, none⟩ = some (.int .i64 x.c)
theorem wrS2_step {W w w' : World} {B o : Nat} {s : Value} {b off k : Nat} {x : En} (h : WrS2 W w B o s b off k x) (hb : Below w.heap.size w w') : WrS2 W w' B o s b off k x :=
  ⟨h.1.trans (hb.mono h.1.size), cell_later hb h.2.1, cell_later hb h.2.2.1, cell_later hb h.2.2.2.1, cell_later hb h.2.2.2.2.1, cell_later hb h.2.2.2.2.2.1, cell_later hb h.2.2.2.2.2.2⟩

set_option linter.unusedSimpArgs false in
set_option maxHeartbeats 1000000 in
set_option maxRecDepth 100000 in
theorem read_late (b off c m : Nat) (U0 U1 U2 : Un) (a0 a1 a2 : Option Addr) (c0 c1 c2 : Nat) (w : World) (h : ChAt w (.slice (some ⟨b, off, none⟩) 3 c) [⟨U0, .slice a0 60 c0⟩, ⟨U1, .slice a1 60 c1⟩, ⟨U2, .slice a2 60 c2⟩]) (hd : rkChain [U0, U1, U2] = 0) (hm : m < 60) (y : En) (hy : U2.cells[m]? = some y) (hib : y.isB = true) :
    Calls Try.prog 23 #[.slice (some ⟨b, off, none⟩) 3 c, .int .i64 (m : Int)] w fun e w' => e = .returned (.tuple #[(((En.zero, 7) : En × Int)).1.val, .int .i64 (((En.zero, 7) : En × Int)).2]) ∧ Below w.heap.size w w' := by
  have HB0 : Aside (Below w.heap.size w (w.alloc (boxE 0 0 0 0 0))) := grew (Below.refl _ _) _
  have HE0 : Aside ((w.alloc (boxE 0 0 0 0 0)).heap[w.heap.size]? = some (boxE 0 0 0 0 0)) := heap_new _ _
  have hck := ref_rkChain _ _ _ (h.later HB0.out)
  rw [show rkChain (unitsOf [⟨U0, .slice a0 60 c0⟩, ⟨U1, .slice a1 60 c1⟩, ⟨U2, .slice a2 60 c2⟩]) = 0 from hd] at hck
  have i1 := fun W => in_any (m : Int) 0 59 W
  rw [decide_eq_true (by omega)] at i1
  have HCH : Aside (ChAt w (.slice (some ⟨b, off, none⟩) 3 c) [⟨U0, .slice a0 60 c0⟩, ⟨U1, .slice a1 60 c1⟩, ⟨U2, .slice a2 60 c2⟩]) := h
  have HY : Hid (U2.cells[m]? = some y) := hy
  have hmi : (m : Int) < 60 := by omega
  have hm0 : (0 : Int) ≤ (m : Int) := by omega
  have hnb : ∀ W, (binOp .eql 26 (ev y.k y.j y.v y.t y.c) (ev 4 0 0 0 0)).run Try.prog W = .ok (.bool y.isB) W := fun W => by
    rw [eql_entry y.k y.j y.v y.t y.c 4 0 0 0 0 W, En.isB]
  rw [hib] at hnb
  clear h hd hy
  go_enter Try.func23, Try.ntmps23
  go_wp2_with fail
  refine hck.mono ?_
  rintro e w1 ⟨rfl, hb1⟩
  have HE1 : Aside _ := heap_below HE0.out hb1 (heap_lt HE0.out)
  have HB1 : Aside (Below w.heap.size w w1) := step_below1 HB0.out hb1
  clear HE0 HB0
  clear hck hb1
  go_wp2_with fail
  refine (i1 _).mono ?_
  rintro e w1 ⟨rfl, rfl⟩
  have hc1 := HCH.out.later HB1.out
  obtain ⟨b', off', eb, hrow⟩ := hc1.rows.at (by omega)
  injection eb with eb
  injection eb with eb1 eb2 _
  subst eb1 eb2
  obtain ⟨⟨p0, s0⟩, ⟨p1, s1⟩, ⟨p2, s2⟩⟩ := row_three hrow
  obtain ⟨by_, oy, ey, hEy⟩ := SlOf.at (cs := En.cells) (k := 5) (hc1.each ⟨U2, .slice a2 60 c2⟩ (by simp)).ents (by omega)
  subst ey
  have hS0 : WrS2 w1 w1 b (off + 4 + 1) (.slice (some ⟨by_, oy, none⟩) 60 c2) by_ oy m y := ⟨Below.refl _ _, s2, hEy m y HY.out 0 _ rfl, hEy m y HY.out 1 _ rfl, hEy m y HY.out 2 _ rfl, hEy m y HY.out 3 _ rfl, hEy m y HY.out 4 _ rfl⟩
  have hbd : Below w1.heap.size w1 w1.drew := (Below.refl _ _).drew
  clear hrow hEy hc1 HCH i1 p0 s0 p1 s1 p2 s2
  go_wp2_with fail
  go_region_held3 (fun w' => WrS2 w1 w' b (off + 4 + 1) (.slice (some ⟨by_, oy, none⟩) 60 c2) by_ oy m y) (exact wrS2_step (by assumption) (by assumption)) (first | (go_at_call 30; refine (blank_any _).mono ?_; rintro e w3 ⟨rfl, hb3⟩))
  rename_i hS
  have HE3 : Aside _ := heap_below HE1.out hS.1 (heap_lt HE1.out)
  have HB3 : Aside (Below w.heap.size w _) := step_below1 HB1.out hS.1
  obtain ⟨_, s2, g0, g1, g2, g3, g4⟩ := hS
  clear hS0 hbd hb3 HE1 HB1
  have ze : ∀ i, w3.cell? ⟨w.heap.size, i, none⟩ = #[Value.int .i64 0, .int .i64 0, .int .i64 0, .int .i64 0, .int .i64 0][i]? := fun i => Joins.cell_of_block HE3.out i
  have fe : ∀ i, w3.frozen? ⟨w.heap.size, i, none⟩ = false := fun i => Joins.unfrozen_of_block HE3.out i
  go_wp2
  exact ret_ent (p := 4) (q := 5) (e := En.zero) Try.results23 rfl rfl rfl (five_box (f := En.zero) HE3.out (En.zero)) ⟨rfl, five_below HB3.out (Nat.le_refl _) _ _ _ _ _⟩

set_option linter.unusedSimpArgs false in
set_option maxHeartbeats 1000000 in
set_option maxRecDepth 100000 in
theorem read_stands (b off c m : Nat) (U0 U1 U2 : Un) (a0 a1 a2 : Option Addr) (c0 c1 c2 : Nat) (w : World) (h : ChAt w (.slice (some ⟨b, off, none⟩) 3 c) [⟨U0, .slice a0 60 c0⟩, ⟨U1, .slice a1 60 c1⟩, ⟨U2, .slice a2 60 c2⟩]) (hd : rkChain [U0, U1, U2] = 0) (hm : m < 60) (y : En) (hy : U2.cells[m]? = some y) (hib : y.isB = false) :
    Calls Try.prog 23 #[.slice (some ⟨b, off, none⟩) 3 c, .int .i64 (m : Int)] w fun e w' => e = .returned (.tuple #[(((y, 0) : En × Int)).1.val, .int .i64 (((y, 0) : En × Int)).2]) ∧ Below w.heap.size w w' := by
  have HB0 : Aside (Below w.heap.size w (w.alloc (boxE 0 0 0 0 0))) := grew (Below.refl _ _) _
  have HE0 : Aside ((w.alloc (boxE 0 0 0 0 0)).heap[w.heap.size]? = some (boxE 0 0 0 0 0)) := heap_new _ _
  have hck := ref_rkChain _ _ _ (h.later HB0.out)
  rw [show rkChain (unitsOf [⟨U0, .slice a0 60 c0⟩, ⟨U1, .slice a1 60 c1⟩, ⟨U2, .slice a2 60 c2⟩]) = 0 from hd] at hck
  have i1 := fun W => in_any (m : Int) 0 59 W
  rw [decide_eq_true (by omega)] at i1
  have HCH : Aside (ChAt w (.slice (some ⟨b, off, none⟩) 3 c) [⟨U0, .slice a0 60 c0⟩, ⟨U1, .slice a1 60 c1⟩, ⟨U2, .slice a2 60 c2⟩]) := h
  have HY : Hid (U2.cells[m]? = some y) := hy
  have hmi : (m : Int) < 60 := by omega
  have hm0 : (0 : Int) ≤ (m : Int) := by omega
  have hnb : ∀ W, (binOp .eql 26 (ev y.k y.j y.v y.t y.c) (ev 4 0 0 0 0)).run Try.prog W = .ok (.bool y.isB) W := fun W => by
    rw [eql_entry y.k y.j y.v y.t y.c 4 0 0 0 0 W, En.isB]
  rw [hib] at hnb
  clear h hd hy
  go_enter Try.func23, Try.ntmps23
  go_wp2_with fail
  refine hck.mono ?_
  rintro e w1 ⟨rfl, hb1⟩
  have HE1 : Aside _ := heap_below HE0.out hb1 (heap_lt HE0.out)
  have HB1 : Aside (Below w.heap.size w w1) := step_below1 HB0.out hb1
  clear HE0 HB0
  clear hck hb1
  go_wp2_with fail
  refine (i1 _).mono ?_
  rintro e w1 ⟨rfl, rfl⟩
  have hc1 := HCH.out.later HB1.out
  obtain ⟨b', off', eb, hrow⟩ := hc1.rows.at (by omega)
  injection eb with eb
  injection eb with eb1 eb2 _
  subst eb1 eb2
  obtain ⟨⟨p0, s0⟩, ⟨p1, s1⟩, ⟨p2, s2⟩⟩ := row_three hrow
  obtain ⟨by_, oy, ey, hEy⟩ := SlOf.at (cs := En.cells) (k := 5) (hc1.each ⟨U2, .slice a2 60 c2⟩ (by simp)).ents (by omega)
  subst ey
  have hS0 : WrS2 w1 w1 b (off + 4 + 1) (.slice (some ⟨by_, oy, none⟩) 60 c2) by_ oy m y := ⟨Below.refl _ _, s2, hEy m y HY.out 0 _ rfl, hEy m y HY.out 1 _ rfl, hEy m y HY.out 2 _ rfl, hEy m y HY.out 3 _ rfl, hEy m y HY.out 4 _ rfl⟩
  have hbd : Below w1.heap.size w1 w1.drew := (Below.refl _ _).drew
  clear hrow hEy hc1 HCH i1 p0 s0 p1 s1 p2 s2
  go_wp2_with fail
  go_region_held3 (fun w' => WrS2 w1 w' b (off + 4 + 1) (.slice (some ⟨by_, oy, none⟩) 60 c2) by_ oy m y) (exact wrS2_step (by assumption) (by assumption)) (first | (go_at_call 30; refine (blank_any _).mono ?_; rintro e w3 ⟨rfl, hb3⟩))
  rename_i hS
  have HE3 : Aside _ := heap_below HE1.out hS.1 (heap_lt HE1.out)
  have HB3 : Aside (Below w.heap.size w _) := step_below1 HB1.out hS.1
  obtain ⟨_, s2, g0, g1, g2, g3, g4⟩ := hS
  clear hS0 hbd hb3 HE1 HB1
  have ze : ∀ i, w3.cell? ⟨w.heap.size, i, none⟩ = #[Value.int .i64 0, .int .i64 0, .int .i64 0, .int .i64 0, .int .i64 0][i]? := fun i => Joins.cell_of_block HE3.out i
  have fe : ∀ i, w3.frozen? ⟨w.heap.size, i, none⟩ = false := fun i => Joins.unfrozen_of_block HE3.out i
  go_wp2
  exact ret_ent (p := 4) (q := 5) (e := y) Try.results23 rfl rfl rfl (five_box (f := En.zero) HE3.out (y)) ⟨rfl, five_below HB3.out (Nat.le_refl _) _ _ _ _ _⟩

/-- The reference's ReadAt. -/
theorem ref_read (v : Value) (xs : List Ub) (a : Int) (w : World) (h : ChAt w v xs) :
    Calls Try.prog 23 #[v, .int .i64 a] w fun e w' => e = .returned (.tuple #[(readRef (unitsOf xs) a).1.val, .int .i64 (readRef (unitsOf xs) a).2]) ∧ Below w.heap.size w w' := by
  by_cases hd : rkChain (unitsOf xs) = 0
  · by_cases ha : 0 ≤ a ∧ a ≤ 59
    · obtain ⟨U0, U1, U2, a0, c0, a1, c1, a2, c2, b, off, c, rfl, rfl, d0, d1, d2⟩ := right_three h (rk_ck hd)
      obtain ⟨m, rfl⟩ : ∃ m : Nat, a = m := ⟨a.toNat, by omega⟩
      have hm : m < 60 := by omega
      obtain ⟨y2, hy2⟩ : ∃ y, U2.cells[m]? = some y := ⟨_, plc_some (us := [U2]) (k := 0) rfl d2 hm⟩
      have e2 : plc (unitsOf [⟨U0, .slice a0 60 c0⟩, ⟨U1, .slice a1 60 c1⟩, ⟨U2, .slice a2 60 c2⟩]) 2 m = y2 := plc_eq (u := U2) rfl hy2
      rw [readRef, if_neg (by simpa using hd), readOf, if_neg (by simpa using rk_ck hd), if_neg (by simpa using ha), show ((m : Int).toNat) = m from rfl, e2]
      cases hb : y2.isB with
      | true => rw [if_pos rfl]; exact read_late b off c m U0 U1 U2 a0 a1 a2 c0 c1 c2 w h hd hm y2 hy2 hb
      | false => rw [if_neg (by simp)]; exact read_stands b off c m U0 U1 U2 a0 a1 a2 c0 c1 c2 w h hd hm y2 hy2 hb
    · rw [readRef, if_neg (by simpa using hd), readOf, if_neg (by simpa using rk_ck hd), if_pos ha]
      exact read_who v xs a w h hd ha
  · rw [readRef, if_pos hd]
    exact read_ck v xs a w h _ rfl (by rw [bne_iff_ne]; exact hd)

end Go.Proofs.Ytaialgacaomaead
