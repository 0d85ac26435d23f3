/- For the law. -/
import Derived.Test.YtmoaobfmopimlafGreatDoorM64
set_option linter.unusedSimpArgs false
set_option linter.unusedVariables false
namespace Go.Proofs.YtmoaobfmopimlafGreatDoor
open Go.RowKit
section
open scoped Classical
set_option maxHeartbeats 2000000 in
theorem idxFE (p : Int → Bool) (g : Nat) (lb : Array Value) (eg : ∀ args w, (callFunc g args).run Tryz.prog w = .ok (.enter g args) w) (v : Value) (xs : List Int) (w : World) (hv : ErSl w v xs) (hn : xs.length ≤ most)
  (hp : ∀ (W : World) (x : Int), Below w.heap.size w W → Calls Tryz.prog g (#[.int .i64 x] ++ lb) W fun e w' => e = .returned (.bool (p x)) ∧ Below w.heap.size w w') :
  Calls Tryz.prog 79 #[v, .func (.func g) #[] lb] w fun e w' => e = .returned (.int .i64 (idx p xs)) ∧ Below w.heap.size w w' := by
 have H1 : Hid (ErSl w v xs) := hv
 obtain ⟨a1, c1, rfl, _⟩ := hv
 obtain ⟨n1, hn1⟩ : ∃ n1, xs.length = n1 := ⟨_, rfl⟩
 rw [hn1] at H1 hn ⊢
 have L1 : Hid (xs.length = n1) := hn1
 replace hn : n1 ≤ 9223372036854775807 := hn
 clear hn1
 have HP : Aside _ := hp
 clear hp
 go_enter Tryz.func79, Tryz.ntmps79
 go_wp2
 go_loopg [5, 8] n1 (fun gg _ i wr => ∃ k : Nat, k ≤ n1 ∧ n1 - k ≤ gg ∧ i = .int .i64 k ∧ Aside (Below w.heap.size w wr) ∧ Hid (∀ y, y ∈ xs.take k → p y = false))
 case atStart => exact ⟨0, Nat.zero_le _, by omega, rfl, Below.refl _ w, fun y hy => by simp at hy⟩
 case round =>
  obtain ⟨k, hk, hgg, rfl, hB, hst⟩ := hrel
  by_cases hlt : k < n1
  ·obtain ⟨x, hx⟩ : ∃ x, xs[k]? = some x := ⟨xs[k]'(by have := L1.out; omega), List.getElem?_eq_getElem _⟩
   obtain ⟨b, off, rfl, hE0⟩ := H1.out.at (by omega)
   have hE := hE0.later hB.out
   have c0 : wr.cell? ⟨b, off + k, none⟩ = some (.int .i64 x) := by have := hE k x hx 0 _ rfl; rwa [Nat.mul_one, Nat.add_zero] at this
   have hcall := HP.out wr x hB.out
   cases hq : p x with
   | true =>
    have HF : Hid (idx p xs = k) := idx_some hx hq hst.out
    rw [hq] at hcall
    clear hE hE0 hx hst H1 hq HP
    go_wp2_with (go_at_fn g; refine hcall.mono ?_; rintro e w' ⟨rfl, hb'⟩)
    go_ret
    exact ⟨by rw [HF.out]; rfl, hb'⟩
   | false =>
    have HN : Hid (∀ y, y ∈ xs.take (k + 1) → p y = false) := fun y hy => by
     rw [List.take_add_one, hx] at hy
     rcases List.mem_append.1 hy with hy | hy
     ·exact hst.out y hy
     ·simp at hy; rw [hy]; exact hq
    rw [hq] at hcall
    clear hE hE0 hx hst H1 hq HP
    go_wp2_with (go_at_fn g; refine hcall.mono ?_; rintro e w' ⟨rfl, hb'⟩)
    go_roundg (n1 - (k + 1))
    case measure => omega
    case rel => exact ⟨k + 1, by omega, by omega, by go_num, hb', HN⟩
  ·have hkn : k = n1 := by omega
   subst hkn
   have HF : Hid (idx p xs = -1) := by
    have h := hst.out
    rw [List.take_of_length_le (by have := L1.out; omega)] at h
    exact idx_none h
   clear hst H1 HP
   go_wp2
   go_ret
   exact ⟨by rw [HF.out]; rfl, hB.out⟩
set_option maxHeartbeats 2000000 in
theorem indexE (v : Value) (xs : List Int) (q : Int) (w : World) (hv : ErSl w v xs) (hn : xs.length ≤ most) :
  Calls Tryz.prog 29 #[v, .int .i64 q] w fun e w' => e = .returned (.int .i64 (idx (fun x => q == x) xs)) ∧ Below w.heap.size w w' := by
 have H1 : Hid (ErSl w v xs) := hv
 obtain ⟨a1, c1, rfl, _⟩ := hv
 obtain ⟨n1, hn1⟩ : ∃ n1, xs.length = n1 := ⟨_, rfl⟩
 rw [hn1] at H1 hn ⊢
 have L1 : Hid (xs.length = n1) := hn1
 replace hn : n1 ≤ 9223372036854775807 := hn
 clear hn1
 obtain ⟨p, hp⟩ : ∃ p : Int → Bool, Hid ((fun x => q == x) = p) := ⟨_, rfl⟩
 rw [hp.out]
 go_enter Tryz.func29, Tryz.ntmps29
 go_wp2
 go_loopg [5, 8] n1 (fun gg _ i wr => ∃ k : Nat, k ≤ n1 ∧ n1 - k ≤ gg ∧ i = .int .i64 k ∧ Aside (Below w.heap.size w wr) ∧ Hid (∀ y, y ∈ xs.take k → p y = false))
 case atStart => exact ⟨0, Nat.zero_le _, by omega, rfl, Below.refl _ w, fun y hy => by simp at hy⟩
 case round =>
  obtain ⟨k, hk, hgg, rfl, hB, hst⟩ := hrel
  by_cases hlt : k < n1
  ·obtain ⟨x, hx⟩ : ∃ x, xs[k]? = some x := ⟨xs[k]'(by have := L1.out; omega), List.getElem?_eq_getElem _⟩
   obtain ⟨b, off, rfl, hE0⟩ := H1.out.at (by omega)
   have hE := hE0.later hB.out
   have c0 : wr.cell? ⟨b, off + k, none⟩ = some (.int .i64 x) := by have := hE k x hx 0 _ rfl; rwa [Nat.mul_one, Nat.add_zero] at this
   have hpx : p x = (q == x) := by rw [← hp.out]
   cases hq : (q == x) with
   | true =>
    have HF : Hid (idx p xs = k) := idx_some hx (hpx.trans hq) hst.out
    clear hE hE0 hx hst H1 hpx
    go_wp2
    go_ret
    exact ⟨by rw [HF.out]; rfl, hB.out⟩
   | false =>
    have HN : Hid (∀ y, y ∈ xs.take (k + 1) → p y = false) := fun y hy => by
     rw [List.take_add_one, hx] at hy
     rcases List.mem_append.1 hy with hy | hy
     ·exact hst.out y hy
     ·simp at hy; rw [hy]; exact hpx.trans hq
    clear hE hE0 hx hst H1 hpx
    go_wp2
    go_roundg (n1 - (k + 1))
    case measure => omega
    case rel => exact ⟨k + 1, by omega, by omega, by go_num, hB, HN⟩
  ·have hkn : k = n1 := by omega
   subst hkn
   have HF : Hid (idx p xs = -1) := by
    have h := hst.out
    rw [List.take_of_length_le (by have := L1.out; omega)] at h
    exact idx_none h
   clear hst H1
   go_wp2
   go_ret
   exact ⟨by rw [HF.out]; rfl, hB.out⟩
set_option maxHeartbeats 1000000 in
theorem containsFE (p : Int → Bool) (g : Nat) (lb : Array Value) (eg : ∀ args w, (callFunc g args).run Tryz.prog w = .ok (.enter g args) w) (v : Value) (xs : List Int) (w : World) (hv : ErSl w v xs) (hn : xs.length ≤ most)
  (hp : ∀ (W : World) (x : Int), Below w.heap.size w W → Calls Tryz.prog g (#[.int .i64 x] ++ lb) W fun e w' => e = .returned (.bool (p x)) ∧ Below w.heap.size w w') :
  Calls Tryz.prog 30 #[v, .func (.func g) #[] lb] w fun e w' => e = .returned (.bool (decide (0 ≤ idx p xs))) ∧ Below w.heap.size w w' := by
 have h := idxFE p g lb eg v xs w hv hn hp
 clear hv hp
 go_enter Tryz.func30, Tryz.ntmps30
 go_wp2_with fail
 refine h.mono ?_
 rintro e w' ⟨rfl, hb'⟩
 clear h
 go_wp2
 go_ret
 exact ⟨rfl, hb'⟩
theorem t_bad (q : Int) (w : World) : Calls Tryz.prog 31 #[.int .i64 q] w fun e w' => e = .returned (.bool ((q != 0) && (q != 5))) ∧ w' = w := by
 cases h0 : (q != 0) with
 | false =>
  go_enter Tryz.func31, Tryz.ntmps31
  go_wp2
  go_ret
  exact ⟨rfl, rfl⟩
 | true =>
  cases h5 : (q != 5) with
  | false =>
   go_enter Tryz.func31, Tryz.ntmps31
   go_wp2
   go_ret
   exact ⟨rfl, rfl⟩
  | true =>
   go_enter Tryz.func31, Tryz.ntmps31
   go_wp2
   go_ret
   exact ⟨rfl, rfl⟩
theorem t_of (k c : Int) (w : World) : Calls Tryz.prog 25 #[.int .i64 k, .int .i64 c] w fun e w' => e = .returned (.agg #[.int .i64 k, .int .i64 c, .int .i64 0, .int .i64 0, .int .i64 0, .int .i64 0, .int .i64 0, .int .i64 0, .int .i64 0, .int .i64 0]) ∧ Below w.heap.size w w' := by
 go_enter Tryz.func25, Tryz.ntmps25
 go_wp2
 exact bodyPost_ret (v := .agg #[.int .i64 k, .int .i64 c, .int .i64 0, .int .i64 0, .int .i64 0, .int .i64 0, .int .i64 0, .int .i64 0, .int .i64 0, .int .i64 0]) (by simp [results, Tryz.results25, go_sem]) rfl ⟨rfl, grew (Below.refl _ _) _⟩
theorem t_put (a b c : Int) (w : World) : Calls Tryz.prog 28 #[.int .i64 a, .int .i64 b, .int .i64 c] w fun e w' => e = .returned (.agg #[.int .i64 1, .int .i64 a, .int .i64 b, .int .i64 c, .int .i64 0]) ∧ Below w.heap.size w w' := by
 go_enter Tryz.func28, Tryz.ntmps28
 go_wp2
 exact bodyPost_ret (v := .agg #[.int .i64 1, .int .i64 a, .int .i64 b, .int .i64 c, .int .i64 0]) (by simp [results, Tryz.results28, go_sem]) rfl ⟨rfl, grew (Below.refl _ _) _⟩
def tl1 : List Hp := [⟨1, 0, 0, 0, 0, ⟨1, 2, 5, 3, 0⟩⟩]
def tl2 : List Hp := [⟨3, 0, 0, 0, 0, En.zero⟩, ⟨4, 0, 0, 0, 0, En.zero⟩, ⟨4, 0, 0, 0, 0, En.zero⟩, ⟨4, 0, 0, 0, 0, En.zero⟩, ⟨7, 0, 0, 0, 0, En.zero⟩]
def tl3 : List Hp := [⟨2, 0, 0, 2, 0, En.zero⟩, ⟨11, 0, 4, 0, 0, En.zero⟩, ⟨2, 0, 0, 2, 0, En.zero⟩]
def tlw : Wd := (runOf wnew (tl1 ++ tl2 ++ tl3 ++ tl2)).1
theorem toll_said : (runOf wnew (tl1 ++ tl2 ++ tl3 ++ tl2)).2 = ([0, 0, 0, 0, 0, 0, 5, 0, 0, 0, 0, 0, 0, 0], 0) := by kernel_rfl
theorem toll_tip : tlw.tip = 2 := by kernel_rfl
theorem toll_cl : (tlw.cs.map fun c => (c.n, c.rs.map fun r => (r.j, r.t, r.c))) = [(2, [(2, 3, 0)]), (0, []), (0, [])] := by kernel_rfl
end
section
open scoped Classical
set_option maxHeartbeats 4000000 in
set_option maxRecDepth 100000 in
theorem sameNode_at (u u' : Un) (s t s' t' : List UInt8) (up up' : Bool) (a0 a1 a2 d0 d1 d2 : Option Addr) (m0 k0 m1 k1 m2 k2 n0 l0 n1 l1 n2 l2 : Nat) (w : World)
  (hU : UnitAt w (.slice a0 m0 k0) u) (hD : DiskR w (.slice a1 m1 k1) (.slice a2 m2 k2) (s, t)) (hU' : UnitAt w (.slice d0 n0 l0) u') (hD' : DiskR w (.slice d1 n1 l1) (.slice d2 n2 l2) (s', t')) (hn0 : u.cells.length ≤ topN) :
  Calls Tryz.prog 38 #[.agg #[.int .i64 u.p, .slice a0 m0 k0, .slice a1 m1 k1, .slice a2 m2 k2, .bool up], .agg #[.int .i64 u'.p, .slice d0 n0 l0, .slice d1 n1 l1, .slice d2 n2 l2, .bool up']] w fun e w' => e = .returned (.bool (decide (u = u') && (decide ((s, t) = (s', t')) && (up == up')))) ∧ Below w.heap.size w w' := by
 have hB0 : Below w.heap.size w ((w.alloc (boxNb ⟨⟨u, s, t, up⟩, .slice a0 m0 k0, .slice a1 m1 k1, .slice a2 m2 k2⟩)).alloc (boxNb ⟨⟨u', s', t', up'⟩, .slice d0 n0 l0, .slice d1 n1 l1, .slice d2 n2 l2⟩)) := grew (grew (Below.refl _ _) _) _
 have HB0 : Aside (Below w.heap.size w ((w.alloc (boxNb ⟨⟨u, s, t, up⟩, .slice a0 m0 k0, .slice a1 m1 k1, .slice a2 m2 k2⟩)).alloc (boxNb ⟨⟨u', s', t', up'⟩, .slice d0 n0 l0, .slice d1 n1 l1, .slice d2 n2 l2⟩))) := hB0
 have HX0 : Aside (((w.alloc (boxNb ⟨⟨u, s, t, up⟩, .slice a0 m0 k0, .slice a1 m1 k1, .slice a2 m2 k2⟩)).alloc (boxNb ⟨⟨u', s', t', up'⟩, .slice d0 n0 l0, .slice d1 n1 l1, .slice d2 n2 l2⟩)).heap[w.heap.size]? = some (.cells #[.int .i64 u.p, .slice a0 m0 k0, .slice a1 m1 k1, .slice a2 m2 k2, .bool up] 49)) := heap_old (heap_new _ _) _
 have HY0 : Aside (((w.alloc (boxNb ⟨⟨u, s, t, up⟩, .slice a0 m0 k0, .slice a1 m1 k1, .slice a2 m2 k2⟩)).alloc (boxNb ⟨⟨u', s', t', up'⟩, .slice d0 n0 l0, .slice d1 n1 l1, .slice d2 n2 l2⟩)).heap[w.heap.size + 1]? = some (.cells #[.int .i64 u'.p, .slice d0 n0 l0, .slice d1 n1 l1, .slice d2 n2 l2, .bool up'] 49)) := by
  have := heap_new (w.alloc (boxNb ⟨⟨u, s, t, up⟩, .slice a0 m0 k0, .slice a1 m1 k1, .slice a2 m2 k2⟩)) (boxNb ⟨⟨u', s', t', up'⟩, .slice d0 n0 l0, .slice d1 n1 l1, .slice d2 n2 l2⟩)
  rwa [World.size_alloc] at this
 have HG : Hid (∀ W, Below w.heap.size w W → DiskR W (.slice a1 m1 k1) (.slice a2 m2 k2) (s, t) ∧ DiskR W (.slice d1 n1 l1) (.slice d2 n2 l2) (s', t')) := fun W hb => ⟨hD.later hb, hD'.later hb⟩
 have ks := unitSame_any (.slice a0 m0 k0) (.slice d0 n0 l0) u u' ((w.alloc (boxNb ⟨⟨u, s, t, up⟩, .slice a0 m0 k0, .slice a1 m1 k1, .slice a2 m2 k2⟩)).alloc (boxNb ⟨⟨u', s', t', up'⟩, .slice d0 n0 l0, .slice d1 n1 l1, .slice d2 n2 l2⟩)) (hU.ents.later hB0) (hU'.ents.later hB0) hn0
 generalize decide (u = u') = b1 at *
 obtain ⟨b2, HB2E⟩ : ∃ b2, Hid (decide ((s, t) = (s', t')) = b2) := ⟨_, rfl⟩
 rw [HB2E.out]
 clear hU hU' hD hD' hn0 hB0
 go_enter Tryz.func38, Tryz.ntmps38
 go_upto_region 1 with fail
 generalize (w.alloc (boxNb ⟨⟨u, s, t, up⟩, .slice a0 m0 k0, .slice a1 m1 k1, .slice a2 m2 k2⟩)).alloc (boxNb ⟨⟨u', s', t', up'⟩, .slice d0 n0 l0, .slice d1 n1 l1, .slice d2 n2 l2⟩) = W0 at *
 have z0 := cb HX0
 have y0 := cb HY0
 cases b1 with
 | false =>
  go_wp2_with fail
  refine ks.mono ?_
  rintro e w1 ⟨rfl, hb1⟩
  have HB1 := sb HB0 hb1
  clear ks z0 y0 HX0 HY0 HB0 hb1
  go_wp2
  go_ret
  exact ⟨rfl, HB1.out⟩
 | true =>
  go_wp2_with fail
  refine ks.mono ?_
  rintro e w1 ⟨rfl, hb1⟩
  have HB1 := sb HB0 hb1
  have HX1 := hv HX0 hb1
  have HY1 := hv HY0 hb1
  clear ks z0 y0 HX0 HY0 HB0 hb1
  have z1 := cb HX1
  have y1 := cb HY1
  have kd := diskSame_any (.slice a1 m1 k1) (.slice a2 m2 k2) (.slice d1 n1 l1) (.slice d2 n2 l2) (s, t) (s', t') w1 (HG.out w1 HB1.out).1 (HG.out w1 HB1.out).2
  rw [HB2E.out] at kd
  go_wp2_with fail
  refine kd.mono ?_
  rintro e w2 ⟨rfl, hb2⟩
  have HB2 := sb HB1 hb2
  have HX2 := hv HX1 hb2
  have HY2 := hv HY1 hb2
  clear kd z1 y1 HX1 HY1 HB1 hb2
  have z2 := cb HX2
  have y2 := cb HY2
  cases b2 with
  | false =>
   go_wp2
   go_ret
   exact ⟨rfl, HB2.out⟩
  | true =>
   go_wp2
   go_ret
   exact ⟨rfl, HB2.out⟩
end
section
open scoped Classical
theorem w_sameNode (x y : Nb) (w : World) (h : NodeT w x) (h' : NodeT w y) (hn0 : x.n.u.cells.length ≤ topN) :
  Calls Tryz.prog 38 #[x.val, y.val] w fun e w' => e = .returned (.bool (decide (x.n = y.n))) ∧ Below w.heap.size w w' := by
 obtain ⟨⟨u, s, t, up⟩, vc, vs, vw⟩ := x
 obtain ⟨⟨u', s', t', up'⟩, vc', vs', vw'⟩ := y
 obtain ⟨a0, m0, k0, e0⟩ := roomy_sl h.unit.room
 obtain ⟨a1, m1, k1, e1⟩ := roomy_sl h.disk.room1
 obtain ⟨a2, m2, k2, e2⟩ := roomy_sl h.disk.room2
 obtain ⟨d0, n0, l0, f0⟩ := roomy_sl h'.unit.room
 obtain ⟨d1, n1, l1, f1⟩ := roomy_sl h'.disk.room1
 obtain ⟨d2, n2, l2, f2⟩ := roomy_sl h'.disk.room2
 dsimp only at e0 e1 e2 f0 f1 f2
 subst e0 e1 e2 f0 f1 f2
 have := sameNode_at u u' s t s' t' up up' a0 a1 a2 d0 d1 d2 m0 k0 m1 k1 m2 k2 n0 l0 n1 l1 n2 l2 w h.unit h.disk h'.unit h'.disk hn0
 have e : decide ((⟨u, s, t, up⟩ : Nd) = ⟨u', s', t', up'⟩) = (decide (u = u') && (decide ((s, t) = (s', t')) && (up == up'))) := by
  rw [Bool.eq_iff_iff, decide_eq_true_iff]
  simp only [Nd.mk.injEq, Bool.and_eq_true, decide_eq_true_eq, Prod.mk.injEq, beq_iff_eq, and_assoc]
 dsimp only
 rw [e]
 exact this
set_option maxHeartbeats 4000000 in
set_option maxRecDepth 100000 in
theorem eqfN (v v' : Value) (xs ys : List Nb) (w : World) (h : SlOf Nb.cells 5 w v xs) (h' : SlOf Nb.cells 5 w v' ys) (hX : ∀ x, x ∈ xs → NodeT w x ∧ x.n.u.cells.length ≤ topN) (hY : ∀ x, x ∈ ys → NodeT w x) (hn : xs.length ≤ most) :
  Calls Tryz.prog 37 #[v, v', .func (.func 38) #[] #[]] w fun e w' => e = .returned (.bool (decide (nodesOf xs = nodesOf ys))) ∧ Below w.heap.size w w' := by
 have eg : ∀ args w, (callFunc 38 args).run Tryz.prog w = .ok (.enter 38 args) w := fun _ _ => rfl
 have H1 : Hid (SlOf Nb.cells 5 w v xs) := h
 have H2 : Hid (SlOf Nb.cells 5 w v' ys) := h'
 have HXY : Aside ((∀ x, x ∈ xs → NodeT w x ∧ x.n.u.cells.length ≤ topN) ∧ ∀ x, x ∈ ys → NodeT w x) := ⟨hX, hY⟩
 obtain ⟨a, n, c, rfl⟩ := slOf_sl h
 obtain ⟨a', n', c', rfl⟩ := slOf_sl h'
 have L1 : Hid (xs.length = n) := SlOf.len h
 have L2 : Hid (ys.length = n') := SlOf.len h'
 rw [L1.out] at hn
 replace hn : n ≤ 9223372036854775807 := hn
 obtain ⟨bb, HBB⟩ : ∃ bb, Hid (decide (nodesOf xs = nodesOf ys) = bb) := ⟨_, rfl⟩
 rw [HBB.out]
 clear h h' hX hY
 by_cases hnn : n = n'
 ·subst hnn
  go_enter Tryz.func37, Tryz.ntmps37
  go_wp2
  go_loopw [17] (fun i wr => ∃ k : Nat, k ≤ n ∧ i = .int .i64 k ∧ Below w.heap.size w wr ∧ Hid ((nodesOf xs).take k = (nodesOf ys).take k)) (fun i _ => n - (intOf i).toNat)
  case atStart => exact ⟨0, Nat.zero_le _, rfl, Below.refl _ _, rfl⟩
  case round =>
   obtain ⟨k, hk, rfl, hB, hst⟩ := hrel
   by_cases hlt : k < n
   ·obtain ⟨x, hx⟩ : ∃ x, xs[k]? = some x := ⟨xs[k]'(by have := L1.out; omega), List.getElem?_eq_getElem _⟩
    obtain ⟨y, hy⟩ : ∃ y, ys[k]? = some y := ⟨ys[k]'(by have := L2.out; omega), List.getElem?_eq_getElem _⟩
    obtain ⟨b, off, rfl, hE0⟩ := H1.out.at (by omega)
    obtain ⟨b', off_, rfl, hE0'⟩ := H2.out.at (by omega)
    have hTx := HXY.out.1 x (List.mem_of_getElem? hx)
    have hTy := HXY.out.2 y (List.mem_of_getElem? hy)
    have hEx : Hid ((nodesOf xs)[k]? = some x.n) := nodes_at hx
    have hEy : Hid ((nodesOf ys)[k]? = some y.n) := nodes_at hy
    obtain ⟨N, vc, vs, vw⟩ := x
    obtain ⟨M, wc, ws, ww⟩ := y
    obtain ⟨a0, m0, k0, e0⟩ := roomy_sl hTx.1.unit.room
    obtain ⟨a1, m1, k1, e1⟩ := roomy_sl hTx.1.disk.room1
    obtain ⟨a2, m2, k2, e2⟩ := roomy_sl hTx.1.disk.room2
    obtain ⟨d0, o0, l0, f0⟩ := roomy_sl hTy.unit.room
    obtain ⟨d1, o1, l1, f1⟩ := roomy_sl hTy.disk.room1
    obtain ⟨d2, o2, l2, f2⟩ := roomy_sl hTy.disk.room2
    dsimp only at e0 e1 e2 f0 f1 f2 hEx hEy
    subst e0 e1 e2 f0 f1 f2
    have hE := hE0.later hB
    have c0 : wr.cell? ⟨b, off + k * 5, none⟩ = some (.int .i64 N.u.p) := hE k _ hx 0 _ rfl
    have c1 : wr.cell? ⟨b, off + k * 5 + 1, none⟩ = some (.slice a0 m0 k0) := hE k _ hx 1 _ rfl
    have c2 : wr.cell? ⟨b, off + k * 5 + 2, none⟩ = some (.slice a1 m1 k1) := hE k _ hx 2 _ rfl
    have c3 : wr.cell? ⟨b, off + k * 5 + 3, none⟩ = some (.slice a2 m2 k2) := hE k _ hx 3 _ rfl
    have c4 : wr.cell? ⟨b, off + k * 5 + 4, none⟩ = some (.bool N.up) := hE k _ hx 4 _ rfl
    have hB1 := grew hB (boxNb ⟨N, .slice a0 m0 k0, .slice a1 m1 k1, .slice a2 m2 k2⟩)
    have HB1 : Aside (Below w.heap.size w (wr.alloc (boxNb ⟨N, .slice a0 m0 k0, .slice a1 m1 k1, .slice a2 m2 k2⟩))) := hB1
    have HZ1 : Aside ((wr.alloc (boxNb ⟨N, .slice a0 m0 k0, .slice a1 m1 k1, .slice a2 m2 k2⟩)).heap[wr.heap.size]? = some (boxNb ⟨N, .slice a0 m0 k0, .slice a1 m1 k1, .slice a2 m2 k2⟩)) := heap_new _ _
    have hE' := hE0'.later hB1
    have hki : (k : Int) < n := by omega
    have hk0 : (0 : Int) ≤ (k : Int) := by omega
    obtain ⟨sb, HSB⟩ : ∃ sb, Hid (decide (N = M) = sb) := ⟨_, rfl⟩
    have kf := fun W (hb : Below w.heap.size w W) => w_sameNode ⟨N, .slice a0 m0 k0, .slice a1 m1 k1, .slice a2 m2 k2⟩ ⟨M, .slice d0 o0 l0, .slice d1 o1 l1, .slice d2 o2 l2⟩ W (hTx.1.later hb) (hTy.later hb) hTx.2
    dsimp only at kf
    rw [HSB.out] at kf
    have KF : Aside _ := kf
    have HST : Hid _ := hst.out
    clear hE hB hB1 hE0 hE0' kf hst hTx hTy hx
    go_upto_region 6 with fail
    clear c0 c1 c2 c3 c4
    generalize wr.alloc (boxNb ⟨N, .slice a0 m0 k0, .slice a1 m1 k1, .slice a2 m2 k2⟩) = Z at *
    generalize wr.heap.size = cb at *
    have e0 : Z.cell? ⟨b', off_ + k * 5, none⟩ = some (.int .i64 M.u.p) := hE' k _ hy 0 _ rfl
    have e1 : Z.cell? ⟨b', off_ + k * 5 + 1, none⟩ = some (.slice d0 o0 l0) := hE' k _ hy 1 _ rfl
    have e2 : Z.cell? ⟨b', off_ + k * 5 + 2, none⟩ = some (.slice d1 o1 l1) := hE' k _ hy 2 _ rfl
    have e3 : Z.cell? ⟨b', off_ + k * 5 + 3, none⟩ = some (.slice d2 o2 l2) := hE' k _ hy 3 _ rfl
    have e4 : Z.cell? ⟨b', off_ + k * 5 + 4, none⟩ = some (.bool M.up) := hE' k _ hy 4 _ rfl
    have HB2 : Aside (Below w.heap.size w (Z.alloc (boxNb ⟨M, .slice d0 o0 l0, .slice d1 o1 l1, .slice d2 o2 l2⟩))) := grew HB1.out _
    have HX2 : Aside ((Z.alloc (boxNb ⟨M, .slice d0 o0 l0, .slice d1 o1 l1, .slice d2 o2 l2⟩)).heap[cb]? = some (boxNb ⟨N, .slice a0 m0 k0, .slice a1 m1 k1, .slice a2 m2 k2⟩)) := heap_old HZ1.out _
    have HY2 : Aside ((Z.alloc (boxNb ⟨M, .slice d0 o0 l0, .slice d1 o1 l1, .slice d2 o2 l2⟩)).heap[Z.heap.size]? = some (boxNb ⟨M, .slice d0 o0 l0, .slice d1 o1 l1, .slice d2 o2 l2⟩)) := heap_new _ _
    clear hE' hy
    go_upto_region 7 with fail
    clear e0 e1 e2 e3 e4 HZ1 HB1
    generalize Z.alloc (boxNb ⟨M, .slice d0 o0 l0, .slice d1 o1 l1, .slice d2 o2 l2⟩) = Z2 at *
    generalize Z.heap.size = db at *
    have kf := KF.out Z2 HB2.out
    have z1 := cb HX2
    have z2 := cb HY2
    cases sb with
    | true =>
     have HN : Hid ((nodesOf xs).take (k + 1) = (nodesOf ys).take (k + 1)) := by
      rw [Hid, List.take_add_one, List.take_add_one, hEx.out, hEy.out, HST.out, of_decide_eq_true HSB.out]
     clear KF
     go_wp2_with (go_at_fn 38; refine kf.mono ?_; rintro e w3 ⟨rfl, hb3⟩)
     have HB3 := sb HB2 hb3
     go_roundw
     case rel => exact ⟨k + 1, by omega, by go_num, HB3.out, HN⟩
     case measure => simp [intOf]; omega
    | false =>
     have HR : Hid (bb = false) := by
      rw [Hid, ← HBB.out, decide_eq_false]
      intro hc
      have h1 := hEx.out
      rw [hc, hEy.out] at h1
      exact of_decide_eq_false HSB.out (Option.some.inj h1).symm
     clear KF HBB
     go_wp2_with (go_at_fn 38; refine kf.mono ?_; rintro e w3 ⟨rfl, hb3⟩)
     go_ret
     exact ⟨by rw [HR.out]; rfl, step_below1 HB2.out hb3⟩
   ·have HR : Hid (bb = true) := by
     rw [Hid, ← HBB.out, decide_eq_true]
     have h := hst.out
     rwa [List.take_of_length_le (by rw [List.length_map, L1.out]; omega), List.take_of_length_le (by rw [List.length_map, L2.out]; omega)] at h
    have HB2 : Aside (Below w.heap.size w wr) := hB
    clear hst HBB hB
    go_wp2
    go_ret
    exact ⟨by rw [HR.out]; rfl, HB2.out⟩
 ·have HR : Hid (bb = false) := by
   rw [Hid, ← HBB.out, decide_eq_false]
   intro hc
   have := congrArg List.length hc
   rw [List.length_map, List.length_map, L1.out, L2.out] at this
   exact hnn this
  have hnb : ((n : Int) != (n' : Int)) = true := by rw [bne_iff_ne]; omega
  clear HBB
  go_enter Tryz.func37, Tryz.ntmps37
  go_wp2
  go_ret
  exact ⟨by rw [HR.out]; rfl, Below.refl _ _⟩
end
end Go.Proofs.YtmoaobfmopimlafGreatDoor
