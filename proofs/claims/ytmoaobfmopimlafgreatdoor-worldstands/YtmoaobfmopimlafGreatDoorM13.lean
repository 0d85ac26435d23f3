/- For the law. -/
import Derived.Test.YtmoaobfmopimlafGreatDoorM12
set_option linter.unusedSimpArgs false
set_option linter.unusedVariables false
set_option maxHeartbeats 16000000
set_option maxRecDepth 100000
namespace Go.Proofs.YtmoaobfmopimlafGreatDoor
open Go Go.ChangeShapes Go.WideShapes Go.ChangeAt Go.RowKit
section
open scoped Classical
theorem idxFE (p : Int → Bool) (g : Nat) (lb : Array Value) (eg : ∀ args w, (callFunc g args).run Tryz.prog w = .ok (.enter g args) w) (v : Value) (xs : List Int) (w : World) (hv : ErSl w v xs) (hn : xs.length ≤ most)
  (hp : ∀ (W : World) (x : Int), Below w.heap.size w W → Calls Tryz.prog g (#[.int .i64 x] ++ lb) W fun e w' => e = .returned (.bool (p x)) ∧ Below w.heap.size w w') :
  Calls Tryz.prog 79 #[v, .func (.func g) #[] lb] w fun e w' => e = .returned (.int .i64 (idx p xs)) ∧ Below w.heap.size w w' := by
 have H1 : Hid (ErSl w v xs) := hv
 obtain ⟨a1, c1, rfl, _⟩ := hv
 obtain ⟨n1, hn1⟩ : ∃ n1, xs.length = n1 := ⟨_, rfl⟩
 rw [hn1] at H1 hn ⊢
 have L1 : Hid (xs.length = n1) := hn1
 replace hn : n1 ≤ 9223372036854775807 := hn
 clear hn1
 have HP : Aside _ := hp
 clear hp
 go_enter Tryz.func79, Tryz.ntmps79
 go_wp2
 go_loopg [5, 8] n1 (fun gg _ i wr => ∃ k : Nat, k ≤ n1 ∧ n1 - k ≤ gg ∧ i = .int .i64 k ∧ Aside (Below w.heap.size w wr) ∧ Hid (∀ y, y ∈ xs.take k → p y = false))
 case atStart => exact ⟨0, Nat.zero_le _, by omega, rfl, Below.refl _ w, fun y hy => by simp at hy⟩
 case round =>
  obtain ⟨k, hk, hgg, rfl, hB, hst⟩ := hrel
  by_cases hlt : k < n1
  · obtain ⟨x, hx⟩ : ∃ x, xs[k]? = some x := ⟨xs[k]'(by have := L1.out; omega), List.getElem?_eq_getElem _⟩
   obtain ⟨b, off, rfl, hE0⟩ := H1.out.at (by omega)
   have hE := hE0.later hB.out
   have c0 : wr.cell? ⟨b, off + k, none⟩ = some (.int .i64 x) := by have := hE k x hx 0 _ rfl; rwa [Nat.mul_one, Nat.add_zero] at this
   have hcall := HP.out wr x hB.out
   cases hq : p x with
   | true =>
    have HF : Hid (idx p xs = k) := idx_some hx hq hst.out
    rw [hq] at hcall
    clear hE hE0 hx hst H1 hq HP
    go_wp2_with (go_at_fn g; refine hcall.mono ?_; rintro e w' ⟨rfl, hb'⟩)
    go_ret
    exact ⟨by rw [HF.out]; rfl, hb'⟩
   | false =>
    have HN : Hid (∀ y, y ∈ xs.take (k + 1) → p y = false) := fun y hy => by
     rw [List.take_add_one, hx] at hy
     rcases List.mem_append.1 hy with hy | hy
     · exact hst.out y hy
     · simp at hy; rw [hy]; exact hq
    rw [hq] at hcall
    clear hE hE0 hx hst H1 hq HP
    go_wp2_with (go_at_fn g; refine hcall.mono ?_; rintro e w' ⟨rfl, hb'⟩)
    go_roundg (n1 - (k + 1))
    case measure => omega
    case rel => exact ⟨k + 1, by omega, by omega, by go_num, hb', HN⟩
  · have hkn : k = n1 := by omega
   subst hkn
   have HF : Hid (idx p xs = -1) := by
    have h := hst.out
    rw [List.take_of_length_le (by have := L1.out; omega)] at h
    exact idx_none h
   clear hst H1 HP
   go_wp2
   go_ret
   exact ⟨by rw [HF.out]; rfl, hB.out⟩
theorem indexE (v : Value) (xs : List Int) (q : Int) (w : World) (hv : ErSl w v xs) (hn : xs.length ≤ most) :
  Calls Tryz.prog 29 #[v, .int .i64 q] w fun e w' => e = .returned (.int .i64 (idx (fun x => q == x) xs)) ∧ Below w.heap.size w w' := by
 have H1 : Hid (ErSl w v xs) := hv
 obtain ⟨a1, c1, rfl, _⟩ := hv
 obtain ⟨n1, hn1⟩ : ∃ n1, xs.length = n1 := ⟨_, rfl⟩
 rw [hn1] at H1 hn ⊢
 have L1 : Hid (xs.length = n1) := hn1
 replace hn : n1 ≤ 9223372036854775807 := hn
 clear hn1
 obtain ⟨p, hp⟩ : ∃ p : Int → Bool, Hid ((fun x => q == x) = p) := ⟨_, rfl⟩
 rw [hp.out]
 go_enter Tryz.func29, Tryz.ntmps29
 go_wp2
 go_loopg [5, 8] n1 (fun gg _ i wr => ∃ k : Nat, k ≤ n1 ∧ n1 - k ≤ gg ∧ i = .int .i64 k ∧ Aside (Below w.heap.size w wr) ∧ Hid (∀ y, y ∈ xs.take k → p y = false))
 case atStart => exact ⟨0, Nat.zero_le _, by omega, rfl, Below.refl _ w, fun y hy => by simp at hy⟩
 case round =>
  obtain ⟨k, hk, hgg, rfl, hB, hst⟩ := hrel
  by_cases hlt : k < n1
  · obtain ⟨x, hx⟩ : ∃ x, xs[k]? = some x := ⟨xs[k]'(by have := L1.out; omega), List.getElem?_eq_getElem _⟩
   obtain ⟨b, off, rfl, hE0⟩ := H1.out.at (by omega)
   have hE := hE0.later hB.out
   have c0 : wr.cell? ⟨b, off + k, none⟩ = some (.int .i64 x) := by have := hE k x hx 0 _ rfl; rwa [Nat.mul_one, Nat.add_zero] at this
   have hpx : p x = (q == x) := by rw [← hp.out]
   cases hq : (q == x) with
   | true =>
    have HF : Hid (idx p xs = k) := idx_some hx (hpx.trans hq) hst.out
    clear hE hE0 hx hst H1 hpx
    go_wp2
    go_ret
    exact ⟨by rw [HF.out]; rfl, hB.out⟩
   | false =>
    have HN : Hid (∀ y, y ∈ xs.take (k + 1) → p y = false) := fun y hy => by
     rw [List.take_add_one, hx] at hy
     rcases List.mem_append.1 hy with hy | hy
     · exact hst.out y hy
     · simp at hy; rw [hy]; exact hpx.trans hq
    clear hE hE0 hx hst H1 hpx
    go_wp2
    go_roundg (n1 - (k + 1))
    case measure => omega
    case rel => exact ⟨k + 1, by omega, by omega, by go_num, hB, HN⟩
  · have hkn : k = n1 := by omega
   subst hkn
   have HF : Hid (idx p xs = -1) := by
    have h := hst.out
    rw [List.take_of_length_le (by have := L1.out; omega)] at h
    exact idx_none h
   clear hst H1
   go_wp2
   go_ret
   exact ⟨by rw [HF.out]; rfl, hB.out⟩
theorem containsFE (p : Int → Bool) (g : Nat) (lb : Array Value) (eg : ∀ args w, (callFunc g args).run Tryz.prog w = .ok (.enter g args) w) (v : Value) (xs : List Int) (w : World) (hv : ErSl w v xs) (hn : xs.length ≤ most)
  (hp : ∀ (W : World) (x : Int), Below w.heap.size w W → Calls Tryz.prog g (#[.int .i64 x] ++ lb) W fun e w' => e = .returned (.bool (p x)) ∧ Below w.heap.size w w') :
  Calls Tryz.prog 30 #[v, .func (.func g) #[] lb] w fun e w' => e = .returned (.bool (decide (0 ≤ idx p xs))) ∧ Below w.heap.size w w' := by
 have h := idxFE p g lb eg v xs w hv hn hp
 clear hv hp
 go_enter Tryz.func30, Tryz.ntmps30
 go_wp2_with fail
 refine h.mono ?_
 rintro e w' ⟨rfl, hb'⟩
 clear h
 go_wp2
 go_ret
 exact ⟨rfl, hb'⟩
theorem t_bad (q : Int) (w : World) : Calls Tryz.prog 31 #[.int .i64 q] w fun e w' => e = .returned (.bool ((q != 0) && (q != 5))) ∧ w' = w := by
 cases h0 : (q != 0) with
 | false =>
  go_enter Tryz.func31, Tryz.ntmps31
  go_wp2
  go_ret
  exact ⟨rfl, rfl⟩
 | true =>
  cases h5 : (q != 5) with
  | false =>
   go_enter Tryz.func31, Tryz.ntmps31
   go_wp2
   go_ret
   exact ⟨rfl, rfl⟩
  | true =>
   go_enter Tryz.func31, Tryz.ntmps31
   go_wp2
   go_ret
   exact ⟨rfl, rfl⟩
theorem t_of (k c : Int) (w : World) : Calls Tryz.prog 25 #[.int .i64 k, .int .i64 c] w fun e w' => e = .returned (.agg #[.int .i64 k, .int .i64 c, .int .i64 0, .int .i64 0, .int .i64 0, .int .i64 0, .int .i64 0, .int .i64 0, .int .i64 0, .int .i64 0]) ∧ Below w.heap.size w w' := by
 go_enter Tryz.func25, Tryz.ntmps25
 go_wp2
 exact bodyPost_ret (v := .agg #[.int .i64 k, .int .i64 c, .int .i64 0, .int .i64 0, .int .i64 0, .int .i64 0, .int .i64 0, .int .i64 0, .int .i64 0, .int .i64 0]) (by simp [results, Tryz.results25, go_sem]) rfl ⟨rfl, grew (Below.refl _ _) _⟩
theorem t_put (a b c : Int) (w : World) : Calls Tryz.prog 28 #[.int .i64 a, .int .i64 b, .int .i64 c] w fun e w' => e = .returned (.agg #[.int .i64 1, .int .i64 a, .int .i64 b, .int .i64 c, .int .i64 0]) ∧ Below w.heap.size w w' := by
 go_enter Tryz.func28, Tryz.ntmps28
 go_wp2
 exact bodyPost_ret (v := .agg #[.int .i64 1, .int .i64 a, .int .i64 b, .int .i64 c, .int .i64 0]) (by simp [results, Tryz.results28, go_sem]) rfl ⟨rfl, grew (Below.refl _ _) _⟩
def tl1 : List Hp := [⟨1, 0, 0, 0, 0, ⟨1, 2, 5, 3, 0⟩⟩]
def tl2 : List Hp := [⟨3, 0, 0, 0, 0, En.zero⟩, ⟨4, 0, 0, 0, 0, En.zero⟩, ⟨4, 0, 0, 0, 0, En.zero⟩, ⟨4, 0, 0, 0, 0, En.zero⟩, ⟨7, 0, 0, 0, 0, En.zero⟩]
def tl3 : List Hp := [⟨2, 0, 0, 2, 0, En.zero⟩, ⟨11, 0, 4, 0, 0, En.zero⟩, ⟨2, 0, 0, 2, 0, En.zero⟩]
def tlw : Wd := (runOf wnew (tl1 ++ tl2 ++ tl3 ++ tl2)).1
theorem toll_said : (runOf wnew (tl1 ++ tl2 ++ tl3 ++ tl2)).2 = ([0, 0, 0, 0, 0, 0, 5, 0, 0, 0, 0, 0, 0, 0], 0) := by kernel_rfl
theorem toll_tip : tlw.tip = 2 := by kernel_rfl
theorem toll_cl : (tlw.cs.map fun c => (c.n, c.rs.map fun r => (r.j, r.t, r.c))) = [(2, [(2, 3, 0)]), (0, []), (0, [])] := by kernel_rfl
end
section
open scoped Classical
theorem sameNode_at (u u' : Un) (s t s' t' : List UInt8) (up up' : Bool) (a0 a1 a2 d0 d1 d2 : Option Addr) (m0 k0 m1 k1 m2 k2 n0 l0 n1 l1 n2 l2 : Nat) (w : World)
  (hU : UnitAt w (.slice a0 m0 k0) u) (hD : DiskR w (.slice a1 m1 k1) (.slice a2 m2 k2) (s, t)) (hU' : UnitAt w (.slice d0 n0 l0) u') (hD' : DiskR w (.slice d1 n1 l1) (.slice d2 n2 l2) (s', t')) (hn0 : u.cells.length ≤ topN) :
  Calls Tryz.prog 38 #[.agg #[.int .i64 u.p, .slice a0 m0 k0, .slice a1 m1 k1, .slice a2 m2 k2, .bool up], .agg #[.int .i64 u'.p, .slice d0 n0 l0, .slice d1 n1 l1, .slice d2 n2 l2, .bool up']] w fun e w' => e = .returned (.bool (decide (u = u') && (decide ((s, t) = (s', t')) && (up == up')))) ∧ Below w.heap.size w w' := by
 have hB0 : Below w.heap.size w ((w.alloc (boxNb ⟨⟨u, s, t, up⟩, .slice a0 m0 k0, .slice a1 m1 k1, .slice a2 m2 k2⟩)).alloc (boxNb ⟨⟨u', s', t', up'⟩, .slice d0 n0 l0, .slice d1 n1 l1, .slice d2 n2 l2⟩)) := grew (grew (Below.refl _ _) _) _
 have HB0 : Aside (Below w.heap.size w ((w.alloc (boxNb ⟨⟨u, s, t, up⟩, .slice a0 m0 k0, .slice a1 m1 k1, .slice a2 m2 k2⟩)).alloc (boxNb ⟨⟨u', s', t', up'⟩, .slice d0 n0 l0, .slice d1 n1 l1, .slice d2 n2 l2⟩))) := hB0
 have HX0 : Aside (((w.alloc (boxNb ⟨⟨u, s, t, up⟩, .slice a0 m0 k0, .slice a1 m1 k1, .slice a2 m2 k2⟩)).alloc (boxNb ⟨⟨u', s', t', up'⟩, .slice d0 n0 l0, .slice d1 n1 l1, .slice d2 n2 l2⟩)).heap[w.heap.size]? = some (.cells #[.int .i64 u.p, .slice a0 m0 k0, .slice a1 m1 k1, .slice a2 m2 k2, .bool up] 49)) := heap_old (heap_new _ _) _
 have HY0 : Aside (((w.alloc (boxNb ⟨⟨u, s, t, up⟩, .slice a0 m0 k0, .slice a1 m1 k1, .slice a2 m2 k2⟩)).alloc (boxNb ⟨⟨u', s', t', up'⟩, .slice d0 n0 l0, .slice d1 n1 l1, .slice d2 n2 l2⟩)).heap[w.heap.size + 1]? = some (.cells #[.int .i64 u'.p, .slice d0 n0 l0, .slice d1 n1 l1, .slice d2 n2 l2, .bool up'] 49)) := by
  have := heap_new (w.alloc (boxNb ⟨⟨u, s, t, up⟩, .slice a0 m0 k0, .slice a1 m1 k1, .slice a2 m2 k2⟩)) (boxNb ⟨⟨u', s', t', up'⟩, .slice d0 n0 l0, .slice d1 n1 l1, .slice d2 n2 l2⟩)
  rwa [World.size_alloc] at this
 have HG : Hid (∀ W, Below w.heap.size w W → DiskR W (.slice a1 m1 k1) (.slice a2 m2 k2) (s, t) ∧ DiskR W (.slice d1 n1 l1) (.slice d2 n2 l2) (s', t')) := fun W hb => ⟨hD.later hb, hD'.later hb⟩
 have ks := unitSame_any (.slice a0 m0 k0) (.slice d0 n0 l0) u u' ((w.alloc (boxNb ⟨⟨u, s, t, up⟩, .slice a0 m0 k0, .slice a1 m1 k1, .slice a2 m2 k2⟩)).alloc (boxNb ⟨⟨u', s', t', up'⟩, .slice d0 n0 l0, .slice d1 n1 l1, .slice d2 n2 l2⟩)) (hU.ents.later hB0) (hU'.ents.later hB0) hn0
 generalize decide (u = u') = b1 at *
 obtain ⟨b2, HB2E⟩ : ∃ b2, Hid (decide ((s, t) = (s', t')) = b2) := ⟨_, rfl⟩
 rw [HB2E.out]
 clear hU hU' hD hD' hn0 hB0
 go_enter Tryz.func38, Tryz.ntmps38
 go_upto_region 1 with fail
 generalize (w.alloc (boxNb ⟨⟨u, s, t, up⟩, .slice a0 m0 k0, .slice a1 m1 k1, .slice a2 m2 k2⟩)).alloc (boxNb ⟨⟨u', s', t', up'⟩, .slice d0 n0 l0, .slice d1 n1 l1, .slice d2 n2 l2⟩) = W0 at *
 have z0 := fun i => Joins.cell_of_block HX0.out i
 have y0 := fun i => Joins.cell_of_block HY0.out i
 cases b1 with
 | false =>
  go_wp2_with fail
  refine ks.mono ?_
  rintro e w1 ⟨rfl, hb1⟩
  have HB1 : Aside _ := step_below1 HB0.out hb1
  clear ks z0 y0 HX0 HY0 HB0 hb1
  go_wp2
  go_ret
  exact ⟨rfl, HB1.out⟩
 | true =>
  go_wp2_with fail
  refine ks.mono ?_
  rintro e w1 ⟨rfl, hb1⟩
  have HB1 : Aside _ := step_below1 HB0.out hb1
  have HX1 : Aside _ := heap_below HX0.out hb1 (heap_lt HX0.out)
  have HY1 : Aside _ := heap_below HY0.out hb1 (heap_lt HY0.out)
  clear ks z0 y0 HX0 HY0 HB0 hb1
  have z1 := fun i => Joins.cell_of_block HX1.out i
  have y1 := fun i => Joins.cell_of_block HY1.out i
  have kd := diskSame_any (.slice a1 m1 k1) (.slice a2 m2 k2) (.slice d1 n1 l1) (.slice d2 n2 l2) (s, t) (s', t') w1 (HG.out w1 HB1.out).1 (HG.out w1 HB1.out).2
  rw [HB2E.out] at kd
  go_wp2_with fail
  refine kd.mono ?_
  rintro e w2 ⟨rfl, hb2⟩
  have HB2 : Aside _ := step_below1 HB1.out hb2
  have HX2 : Aside _ := heap_below HX1.out hb2 (heap_lt HX1.out)
  have HY2 : Aside _ := heap_below HY1.out hb2 (heap_lt HY1.out)
  clear kd z1 y1 HX1 HY1 HB1 hb2
  have z2 := fun i => Joins.cell_of_block HX2.out i
  have y2 := fun i => Joins.cell_of_block HY2.out i
  cases b2 with
  | false =>
   go_wp2
   go_ret
   exact ⟨rfl, HB2.out⟩
  | true =>
   go_wp2
   go_ret
   exact ⟨rfl, HB2.out⟩
end
section
open scoped Classical
theorem w_sameNode (x y : Nb) (w : World) (h : NodeT w x) (h' : NodeT w y) (hn0 : x.n.u.cells.length ≤ topN) :
  Calls Tryz.prog 38 #[x.val, y.val] w fun e w' => e = .returned (.bool (decide (x.n = y.n))) ∧ Below w.heap.size w w' := by
 obtain ⟨⟨u, s, t, up⟩, vc, vs, vw⟩ := x
 obtain ⟨⟨u', s', t', up'⟩, vc', vs', vw'⟩ := y
 obtain ⟨a0, m0, k0, e0⟩ := roomy_sl h.unit.room
 obtain ⟨a1, m1, k1, e1⟩ := roomy_sl h.disk.room1
 obtain ⟨a2, m2, k2, e2⟩ := roomy_sl h.disk.room2
 obtain ⟨d0, n0, l0, f0⟩ := roomy_sl h'.unit.room
 obtain ⟨d1, n1, l1, f1⟩ := roomy_sl h'.disk.room1
 obtain ⟨d2, n2, l2, f2⟩ := roomy_sl h'.disk.room2
 dsimp only at e0 e1 e2 f0 f1 f2
 subst e0 e1 e2 f0 f1 f2
 have := sameNode_at u u' s t s' t' up up' a0 a1 a2 d0 d1 d2 m0 k0 m1 k1 m2 k2 n0 l0 n1 l1 n2 l2 w h.unit h.disk h'.unit h'.disk hn0
 have e : decide ((⟨u, s, t, up⟩ : Nd) = ⟨u', s', t', up'⟩) = (decide (u = u') && (decide ((s, t) = (s', t')) && (up == up'))) := by
  rw [Bool.eq_iff_iff, decide_eq_true_iff]
  simp only [Nd.mk.injEq, Bool.and_eq_true, decide_eq_true_eq, Prod.mk.injEq, beq_iff_eq, and_assoc]
 dsimp only
 rw [e]
 exact this
theorem eqfN (v v' : Value) (xs ys : List Nb) (w : World) (h : SlOf Nb.cells 5 w v xs) (h' : SlOf Nb.cells 5 w v' ys) (hX : ∀ x, x ∈ xs → NodeT w x ∧ x.n.u.cells.length ≤ topN) (hY : ∀ x, x ∈ ys → NodeT w x) (hn : xs.length ≤ most) :
  Calls Tryz.prog 37 #[v, v', .func (.func 38) #[] #[]] w fun e w' => e = .returned (.bool (decide (nodesOf xs = nodesOf ys))) ∧ Below w.heap.size w w' := by
 have eg : ∀ args w, (callFunc 38 args).run Tryz.prog w = .ok (.enter 38 args) w := fun _ _ => rfl
 have H1 : Hid (SlOf Nb.cells 5 w v xs) := h
 have H2 : Hid (SlOf Nb.cells 5 w v' ys) := h'
 have HXY : Aside ((∀ x, x ∈ xs → NodeT w x ∧ x.n.u.cells.length ≤ topN) ∧ ∀ x, x ∈ ys → NodeT w x) := ⟨hX, hY⟩
 obtain ⟨a, n, c, rfl⟩ := slOf_sl h
 obtain ⟨a', n', c', rfl⟩ := slOf_sl h'
 have L1 : Hid (xs.length = n) := SlOf.len h
 have L2 : Hid (ys.length = n') := SlOf.len h'
 rw [L1.out] at hn
 replace hn : n ≤ 9223372036854775807 := hn
 obtain ⟨bb, HBB⟩ : ∃ bb, Hid (decide (nodesOf xs = nodesOf ys) = bb) := ⟨_, rfl⟩
 rw [HBB.out]
 clear h h' hX hY
 by_cases hnn : n = n'
 · subst hnn
  go_enter Tryz.func37, Tryz.ntmps37
  go_wp2
  go_loopw [17] (fun i wr => ∃ k : Nat, k ≤ n ∧ i = .int .i64 k ∧ Below w.heap.size w wr ∧ Hid ((nodesOf xs).take k = (nodesOf ys).take k)) (fun i _ => n - (intOf i).toNat)
  case atStart => exact ⟨0, Nat.zero_le _, rfl, Below.refl _ _, rfl⟩
  case round =>
   obtain ⟨k, hk, rfl, hB, hst⟩ := hrel
   by_cases hlt : k < n
   · obtain ⟨x, hx⟩ : ∃ x, xs[k]? = some x := ⟨xs[k]'(by have := L1.out; omega), List.getElem?_eq_getElem _⟩
    obtain ⟨y, hy⟩ : ∃ y, ys[k]? = some y := ⟨ys[k]'(by have := L2.out; omega), List.getElem?_eq_getElem _⟩
    obtain ⟨b, off, rfl, hE0⟩ := H1.out.at (by omega)
    obtain ⟨b', off_, rfl, hE0'⟩ := H2.out.at (by omega)
    have hTx := HXY.out.1 x (List.mem_of_getElem? hx)
    have hTy := HXY.out.2 y (List.mem_of_getElem? hy)
    have hEx : Hid ((nodesOf xs)[k]? = some x.n) := nodes_at hx
    have hEy : Hid ((nodesOf ys)[k]? = some y.n) := nodes_at hy
    obtain ⟨N, vc, vs, vw⟩ := x
    obtain ⟨M, wc, ws, ww⟩ := y
    obtain ⟨a0, m0, k0, e0⟩ := roomy_sl hTx.1.unit.room
    obtain ⟨a1, m1, k1, e1⟩ := roomy_sl hTx.1.disk.room1
    obtain ⟨a2, m2, k2, e2⟩ := roomy_sl hTx.1.disk.room2
    obtain ⟨d0, o0, l0, f0⟩ := roomy_sl hTy.unit.room
    obtain ⟨d1, o1, l1, f1⟩ := roomy_sl hTy.disk.room1
    obtain ⟨d2, o2, l2, f2⟩ := roomy_sl hTy.disk.room2
    dsimp only at e0 e1 e2 f0 f1 f2 hEx hEy
    subst e0 e1 e2 f0 f1 f2
    have hE := hE0.later hB
    have c0 : wr.cell? ⟨b, off + k * 5, none⟩ = some (.int .i64 N.u.p) := hE k _ hx 0 _ rfl
    have c1 : wr.cell? ⟨b, off + k * 5 + 1, none⟩ = some (.slice a0 m0 k0) := hE k _ hx 1 _ rfl
    have c2 : wr.cell? ⟨b, off + k * 5 + 2, none⟩ = some (.slice a1 m1 k1) := hE k _ hx 2 _ rfl
    have c3 : wr.cell? ⟨b, off + k * 5 + 3, none⟩ = some (.slice a2 m2 k2) := hE k _ hx 3 _ rfl
    have c4 : wr.cell? ⟨b, off + k * 5 + 4, none⟩ = some (.bool N.up) := hE k _ hx 4 _ rfl
    have hB1 := grew hB (boxNb ⟨N, .slice a0 m0 k0, .slice a1 m1 k1, .slice a2 m2 k2⟩)
    have HB1 : Aside (Below w.heap.size w (wr.alloc (boxNb ⟨N, .slice a0 m0 k0, .slice a1 m1 k1, .slice a2 m2 k2⟩))) := hB1
    have HZ1 : Aside ((wr.alloc (boxNb ⟨N, .slice a0 m0 k0, .slice a1 m1 k1, .slice a2 m2 k2⟩)).heap[wr.heap.size]? = some (boxNb ⟨N, .slice a0 m0 k0, .slice a1 m1 k1, .slice a2 m2 k2⟩)) := heap_new _ _
    have hE' := hE0'.later hB1
    have hki : (k : Int) < n := by omega
    have hk0 : (0 : Int) ≤ (k : Int) := by omega
    obtain ⟨sb, HSB⟩ : ∃ sb, Hid (decide (N = M) = sb) := ⟨_, rfl⟩
    have kf := fun W (hb : Below w.heap.size w W) => w_sameNode ⟨N, .slice a0 m0 k0, .slice a1 m1 k1, .slice a2 m2 k2⟩ ⟨M, .slice d0 o0 l0, .slice d1 o1 l1, .slice d2 o2 l2⟩ W (hTx.1.later hb) (hTy.later hb) hTx.2
    dsimp only at kf
    rw [HSB.out] at kf
    have KF : Aside _ := kf
    have HST : Hid _ := hst.out
    clear hE hB hB1 hE0 hE0' kf hst hTx hTy hx
    go_upto_region 6 with fail
    clear c0 c1 c2 c3 c4
    generalize wr.alloc (boxNb ⟨N, .slice a0 m0 k0, .slice a1 m1 k1, .slice a2 m2 k2⟩) = Z at *
    generalize wr.heap.size = cb at *
    have e0 : Z.cell? ⟨b', off_ + k * 5, none⟩ = some (.int .i64 M.u.p) := hE' k _ hy 0 _ rfl
    have e1 : Z.cell? ⟨b', off_ + k * 5 + 1, none⟩ = some (.slice d0 o0 l0) := hE' k _ hy 1 _ rfl
    have e2 : Z.cell? ⟨b', off_ + k * 5 + 2, none⟩ = some (.slice d1 o1 l1) := hE' k _ hy 2 _ rfl
    have e3 : Z.cell? ⟨b', off_ + k * 5 + 3, none⟩ = some (.slice d2 o2 l2) := hE' k _ hy 3 _ rfl
    have e4 : Z.cell? ⟨b', off_ + k * 5 + 4, none⟩ = some (.bool M.up) := hE' k _ hy 4 _ rfl
    have HB2 : Aside (Below w.heap.size w (Z.alloc (boxNb ⟨M, .slice d0 o0 l0, .slice d1 o1 l1, .slice d2 o2 l2⟩))) := grew HB1.out _
    have HX2 : Aside ((Z.alloc (boxNb ⟨M, .slice d0 o0 l0, .slice d1 o1 l1, .slice d2 o2 l2⟩)).heap[cb]? = some (boxNb ⟨N, .slice a0 m0 k0, .slice a1 m1 k1, .slice a2 m2 k2⟩)) := heap_old HZ1.out _
    have HY2 : Aside ((Z.alloc (boxNb ⟨M, .slice d0 o0 l0, .slice d1 o1 l1, .slice d2 o2 l2⟩)).heap[Z.heap.size]? = some (boxNb ⟨M, .slice d0 o0 l0, .slice d1 o1 l1, .slice d2 o2 l2⟩)) := heap_new _ _
    clear hE' hy
    go_upto_region 7 with fail
    clear e0 e1 e2 e3 e4 HZ1 HB1
    generalize Z.alloc (boxNb ⟨M, .slice d0 o0 l0, .slice d1 o1 l1, .slice d2 o2 l2⟩) = Z2 at *
    generalize Z.heap.size = db at *
    have kf := KF.out Z2 HB2.out
    have z1 := fun i => Joins.cell_of_block HX2.out i
    have z2 := fun i => Joins.cell_of_block HY2.out i
    cases sb with
    | true =>
     have HN : Hid ((nodesOf xs).take (k + 1) = (nodesOf ys).take (k + 1)) := by
      rw [Hid, List.take_add_one, List.take_add_one, hEx.out, hEy.out, HST.out, of_decide_eq_true HSB.out]
     clear KF
     go_wp2_with (go_at_fn 38; refine kf.mono ?_; rintro e w3 ⟨rfl, hb3⟩)
     have HB3 : Aside _ := step_below1 HB2.out hb3
     go_roundw
     case rel => exact ⟨k + 1, by omega, by go_num, HB3.out, HN⟩
     case measure => simp [intOf]; omega
    | false =>
     have HR : Hid (bb = false) := by
      rw [Hid, ← HBB.out, decide_eq_false]
      intro hc
      have h1 := hEx.out
      rw [hc, hEy.out] at h1
      exact of_decide_eq_false HSB.out (Option.some.inj h1).symm
     clear KF HBB
     go_wp2_with (go_at_fn 38; refine kf.mono ?_; rintro e w3 ⟨rfl, hb3⟩)
     go_ret
     exact ⟨by rw [HR.out]; rfl, step_below1 HB2.out hb3⟩
   · have HR : Hid (bb = true) := by
     rw [Hid, ← HBB.out, decide_eq_true]
     have h := hst.out
     rwa [List.take_of_length_le (by rw [List.length_map, L1.out]; omega), List.take_of_length_le (by rw [List.length_map, L2.out]; omega)] at h
    have HB2 : Aside (Below w.heap.size w wr) := hB
    clear hst HBB hB
    go_wp2
    go_ret
    exact ⟨by rw [HR.out]; rfl, HB2.out⟩
 · have HR : Hid (bb = false) := by
   rw [Hid, ← HBB.out, decide_eq_false]
   intro hc
   have := congrArg List.length hc
   rw [List.length_map, List.length_map, L1.out, L2.out] at this
   exact hnn this
  have hnb : ((n : Int) != (n' : Int)) = true := by rw [bne_iff_ne]; omega
  clear HBB
  go_enter Tryz.func37, Tryz.ntmps37
  go_wp2
  go_ret
  exact ⟨by rw [HR.out]; rfl, Below.refl _ _⟩
end
section
open scoped Classical
theorem eqfC (v v' : Value) (xs ys : List Cb) (w : World) (h : SlOf Cb.cells 12 w v xs) (h' : SlOf Cb.cells 12 w v' ys) (hX : ∀ x, x ∈ xs → ClientT w x ∧ x.c.js.length ≤ most ∧ x.c.rs.length ≤ most) (hY : ∀ x, x ∈ ys → ClientT w x) (hn : xs.length ≤ most) :
  Calls Tryz.prog 39 #[v, v', .func (.func 12) #[] #[]] w fun e w' => e = .returned (.bool (decide (clientsOf xs = clientsOf ys))) ∧ Below w.heap.size w w' := by
 have eg : ∀ args w, (callFunc 12 args).run Tryz.prog w = .ok (.enter 12 args) w := fun _ _ => rfl
 have H1 : Hid (SlOf Cb.cells 12 w v xs) := h
 have H2 : Hid (SlOf Cb.cells 12 w v' ys) := h'
 have HXY : Aside ((∀ x, x ∈ xs → ClientT w x ∧ x.c.js.length ≤ most ∧ x.c.rs.length ≤ most) ∧ ∀ x, x ∈ ys → ClientT w x) := ⟨hX, hY⟩
 obtain ⟨a, n, c, rfl⟩ := slOf_sl h
 obtain ⟨a', n', c', rfl⟩ := slOf_sl h'
 have L1 : Hid (xs.length = n) := SlOf.len h
 have L2 : Hid (ys.length = n') := SlOf.len h'
 rw [L1.out] at hn
 replace hn : n ≤ 9223372036854775807 := hn
 obtain ⟨bb, HBB⟩ : ∃ bb, Hid (decide (clientsOf xs = clientsOf ys) = bb) := ⟨_, rfl⟩
 rw [HBB.out]
 clear h h' hX hY
 by_cases hnn : n = n'
 · subst hnn
  go_enter Tryz.func39, Tryz.ntmps39
  go_wp2
  go_loopw [17] (fun i wr => ∃ k : Nat, k ≤ n ∧ i = .int .i64 k ∧ Below w.heap.size w wr ∧ Hid ((clientsOf xs).take k = (clientsOf ys).take k)) (fun i _ => n - (intOf i).toNat)
  case atStart => exact ⟨0, Nat.zero_le _, rfl, Below.refl _ _, rfl⟩
  case round =>
   obtain ⟨k, hk, rfl, hB, hst⟩ := hrel
   by_cases hlt : k < n
   · obtain ⟨x, hx⟩ : ∃ x, xs[k]? = some x := ⟨xs[k]'(by have := L1.out; omega), List.getElem?_eq_getElem _⟩
    obtain ⟨y, hy⟩ : ∃ y, ys[k]? = some y := ⟨ys[k]'(by have := L2.out; omega), List.getElem?_eq_getElem _⟩
    obtain ⟨b, off, rfl, hE0⟩ := H1.out.at (by omega)
    obtain ⟨b', off_, rfl, hE0'⟩ := H2.out.at (by omega)
    have hTx := HXY.out.1 x (List.mem_of_getElem? hx)
    have hTy := HXY.out.2 y (List.mem_of_getElem? hy)
    have hEx : Hid ((clientsOf xs)[k]? = some x.c) := clients_at hx
    have hEy : Hid ((clientsOf ys)[k]? = some y.c) := clients_at hy
    obtain ⟨N, v1, v2⟩ := x
    obtain ⟨M, u1, u2⟩ := y
    obtain ⟨a1, m1, k1, e1⟩ := slOf_sl hTx.1.1
    obtain ⟨a2, m2, k2, e2⟩ := slOf_sl hTx.1.2
    obtain ⟨d1, o1, l1, f1⟩ := slOf_sl hTy.1
    obtain ⟨d2, o2, l2, f2⟩ := slOf_sl hTy.2
    dsimp only at e1 e2 f1 f2 hEx hEy
    subst e1 e2 f1 f2
    have hE := hE0.later hB
    have c0 : wr.cell? ⟨b, off + k * 12, none⟩ = some (.int .i64 N.p) := hE k _ hx 0 _ rfl
    have c1 : wr.cell? ⟨b, off + k * 12 + 1, none⟩ = some (.int .i64 N.d) := hE k _ hx 1 _ rfl
    have c2 : wr.cell? ⟨b, off + k * 12 + 2, none⟩ = some (.int .i64 N.e.k) := hE k _ hx 2 _ rfl
    have c3 : wr.cell? ⟨b, off + k * 12 + 3, none⟩ = some (.int .i64 N.e.j) := hE k _ hx 3 _ rfl
    have c4 : wr.cell? ⟨b, off + k * 12 + 4, none⟩ = some (.int .i64 N.e.v) := hE k _ hx 4 _ rfl
    have c5 : wr.cell? ⟨b, off + k * 12 + 5, none⟩ = some (.int .i64 N.e.t) := hE k _ hx 5 _ rfl
    have c6 : wr.cell? ⟨b, off + k * 12 + 6, none⟩ = some (.int .i64 N.e.c) := hE k _ hx 6 _ rfl
    have c7 : wr.cell? ⟨b, off + k * 12 + 7, none⟩ = some (.int .i64 N.a) := hE k _ hx 7 _ rfl
    have c8 : wr.cell? ⟨b, off + k * 12 + 8, none⟩ = some (.int .i64 N.l) := hE k _ hx 8 _ rfl
    have c9 : wr.cell? ⟨b, off + k * 12 + 9, none⟩ = some (.int .i64 N.n) := hE k _ hx 9 _ rfl
    have c10 : wr.cell? ⟨b, off + k * 12 + 10, none⟩ = some (.slice a1 m1 k1) := hE k _ hx 10 _ rfl
    have c11 : wr.cell? ⟨b, off + k * 12 + 11, none⟩ = some (.slice a2 m2 k2) := hE k _ hx 11 _ rfl
    have hB1 := grew hB (boxC N (.slice a1 m1 k1) (.slice a2 m2 k2))
    have HB1 : Aside (Below w.heap.size w (wr.alloc (boxC N (.slice a1 m1 k1) (.slice a2 m2 k2)))) := hB1
    have HZ1 : Aside ((wr.alloc (boxC N (.slice a1 m1 k1) (.slice a2 m2 k2))).heap[wr.heap.size]? = some (boxC N (.slice a1 m1 k1) (.slice a2 m2 k2))) := heap_new _ _
    have hE' := hE0'.later hB1
    have hki : (k : Int) < n := by omega
    have hk0 : (0 : Int) ≤ (k : Int) := by omega
    obtain ⟨sb, HSB⟩ : ∃ sb, Hid (sameC N M = sb) := ⟨_, rfl⟩
    have kf := fun W (hb : Below w.heap.size w W) => cl_same N M (.slice a1 m1 k1) (.slice a2 m2 k2) (.slice d1 o1 l1) (.slice d2 o2 l2) W (bkAt_later hTx.1 hb) (bkAt_later hTy hb) hTx.2.1 hTx.2.2
    rw [HSB.out] at kf
    have KF : Aside _ := kf
    have HST : Hid _ := hst.out
    clear hE hB hB1 hE0 hE0' kf hst hTx hTy hx
    go_upto_region 6 with fail
    clear c0 c1 c2 c3 c4 c5 c6 c7 c8 c9 c10 c11
    generalize wr.alloc (boxC N (.slice a1 m1 k1) (.slice a2 m2 k2)) = Z at *
    generalize wr.heap.size = cb at *
    have e0 : Z.cell? ⟨b', off_ + k * 12, none⟩ = some (.int .i64 M.p) := hE' k _ hy 0 _ rfl
    have e1 : Z.cell? ⟨b', off_ + k * 12 + 1, none⟩ = some (.int .i64 M.d) := hE' k _ hy 1 _ rfl
    have e2 : Z.cell? ⟨b', off_ + k * 12 + 2, none⟩ = some (.int .i64 M.e.k) := hE' k _ hy 2 _ rfl
    have e3 : Z.cell? ⟨b', off_ + k * 12 + 3, none⟩ = some (.int .i64 M.e.j) := hE' k _ hy 3 _ rfl
    have e4 : Z.cell? ⟨b', off_ + k * 12 + 4, none⟩ = some (.int .i64 M.e.v) := hE' k _ hy 4 _ rfl
    have e5 : Z.cell? ⟨b', off_ + k * 12 + 5, none⟩ = some (.int .i64 M.e.t) := hE' k _ hy 5 _ rfl
    have e6 : Z.cell? ⟨b', off_ + k * 12 + 6, none⟩ = some (.int .i64 M.e.c) := hE' k _ hy 6 _ rfl
    have e7 : Z.cell? ⟨b', off_ + k * 12 + 7, none⟩ = some (.int .i64 M.a) := hE' k _ hy 7 _ rfl
    have e8 : Z.cell? ⟨b', off_ + k * 12 + 8, none⟩ = some (.int .i64 M.l) := hE' k _ hy 8 _ rfl
    have e9 : Z.cell? ⟨b', off_ + k * 12 + 9, none⟩ = some (.int .i64 M.n) := hE' k _ hy 9 _ rfl
    have e10 : Z.cell? ⟨b', off_ + k * 12 + 10, none⟩ = some (.slice d1 o1 l1) := hE' k _ hy 10 _ rfl
    have e11 : Z.cell? ⟨b', off_ + k * 12 + 11, none⟩ = some (.slice d2 o2 l2) := hE' k _ hy 11 _ rfl
    have HB2 : Aside (Below w.heap.size w (Z.alloc (boxC M (.slice d1 o1 l1) (.slice d2 o2 l2)))) := grew HB1.out _
    have HX2 : Aside ((Z.alloc (boxC M (.slice d1 o1 l1) (.slice d2 o2 l2))).heap[cb]? = some (boxC N (.slice a1 m1 k1) (.slice a2 m2 k2))) := heap_old HZ1.out _
    have HY2 : Aside ((Z.alloc (boxC M (.slice d1 o1 l1) (.slice d2 o2 l2))).heap[Z.heap.size]? = some (boxC M (.slice d1 o1 l1) (.slice d2 o2 l2))) := heap_new _ _
    clear hE' hy
    go_upto_region 7 with fail
    clear e0 e1 e2 e3 e4 e5 e6 e7 e8 e9 e10 e11 HZ1 HB1
    generalize Z.alloc (boxC M (.slice d1 o1 l1) (.slice d2 o2 l2)) = Z2 at *
    generalize Z.heap.size = db at *
    have kf := KF.out Z2 HB2.out
    have z1 := fun i => Joins.cell_of_block HX2.out i
    have z2 := fun i => Joins.cell_of_block HY2.out i
    cases sb with
    | true =>
     have HN : Hid ((clientsOf xs).take (k + 1) = (clientsOf ys).take (k + 1)) := by
      rw [Hid, List.take_add_one, List.take_add_one, hEx.out, hEy.out, HST.out, sameC_eq HSB.out]
     clear KF
     go_wp2_with (go_at_fn 12; refine kf.mono ?_; rintro e w3 ⟨rfl, hb3⟩)
     have HB3 : Aside _ := step_below1 HB2.out hb3
     go_roundw
     case rel => exact ⟨k + 1, by omega, by go_num, HB3.out, HN⟩
     case measure => simp [intOf]; omega
    | false =>
     have HR : Hid (bb = false) := by
      rw [Hid, ← HBB.out, decide_eq_false]
      intro hc
      have h1 := hEx.out
      rw [hc, hEy.out] at h1
      exact absurd (show sameC N M = true by rw [show N = M from (Option.some.inj h1).symm]; exact sameC_self _) (by rw [HSB.out]; simp)
     clear KF HBB
     go_wp2_with (go_at_fn 12; refine kf.mono ?_; rintro e w3 ⟨rfl, hb3⟩)
     go_ret
     exact ⟨by rw [HR.out]; rfl, step_below1 HB2.out hb3⟩
   · have HR : Hid (bb = true) := by
     rw [Hid, ← HBB.out, decide_eq_true]
     have h := hst.out
     rwa [List.take_of_length_le (by rw [List.length_map, L1.out]; omega), List.take_of_length_le (by rw [List.length_map, L2.out]; omega)] at h
    have HB2 : Aside (Below w.heap.size w wr) := hB
    clear hst HBB hB
    go_wp2
    go_ret
    exact ⟨by rw [HR.out]; rfl, HB2.out⟩
 · have HR : Hid (bb = false) := by
   rw [Hid, ← HBB.out, decide_eq_false]
   intro hc
   have := congrArg List.length hc
   rw [List.length_map, List.length_map, L1.out, L2.out] at this
   exact hnn this
  have hnb : ((n : Int) != (n' : Int)) = true := by rw [bne_iff_ne]; omega
  clear HBB
  go_enter Tryz.func39, Tryz.ntmps39
  go_wp2
  go_ret
  exact ⟨by rw [HR.out]; rfl, Below.refl _ _⟩
end
section
open scoped Classical
theorem same_at (a1 a2 d1 d2 : Option Addr) (n1 c1 n2 c2 m1 k1 m2 k2 : Nat) (tip t tip' t' : Int) (p q : Bool) (w : World)
  (kn : ∀ W, Below w.heap.size w W → Calls Tryz.prog 37 #[.slice a1 n1 c1, .slice d1 m1 k1, .func (.func 38) #[] #[]] W fun e w' => e = .returned (.bool p) ∧ Below W.heap.size W w')
  (kc : ∀ W, Below w.heap.size w W → Calls Tryz.prog 39 #[.slice a2 n2 c2, .slice d2 m2 k2, .func (.func 12) #[] #[]] W fun e w' => e = .returned (.bool q) ∧ Below W.heap.size W w') :
  Calls Tryz.prog 16 #[wval (.slice a1 n1 c1) tip (.slice a2 n2 c2) t, wval (.slice d1 m1 k1) tip' (.slice d2 m2 k2) t'] w fun e w' => e = .returned (.bool ((tip == tip') && ((t == t') && (p && q)))) ∧ Below w.heap.size w w' := by
 have HB0 : Aside (Below w.heap.size w ((w.alloc (boxW (.slice a1 n1 c1) tip (.slice a2 n2 c2) t)).alloc (boxW (.slice d1 m1 k1) tip' (.slice d2 m2 k2) t'))) := grew (grew (Below.refl _ _) _) _
 have HX0 : Aside (((w.alloc (boxW (.slice a1 n1 c1) tip (.slice a2 n2 c2) t)).alloc (boxW (.slice d1 m1 k1) tip' (.slice d2 m2 k2) t')).heap[w.heap.size]? = some (boxW (.slice a1 n1 c1) tip (.slice a2 n2 c2) t)) := heap_old (heap_new _ _) _
 have HY0 : Aside (((w.alloc (boxW (.slice a1 n1 c1) tip (.slice a2 n2 c2) t)).alloc (boxW (.slice d1 m1 k1) tip' (.slice d2 m2 k2) t')).heap[w.heap.size + 1]? = some (boxW (.slice d1 m1 k1) tip' (.slice d2 m2 k2) t')) := by
  have := heap_new (w.alloc (boxW (.slice a1 n1 c1) tip (.slice a2 n2 c2) t)) (boxW (.slice d1 m1 k1) tip' (.slice d2 m2 k2) t')
  rwa [World.size_alloc] at this
 have KN : Aside _ := kn
 have KC : Aside _ := kc
 clear kn kc
 cases hti : (tip == tip') with
 | false =>
  go_enter Tryz.func16, Tryz.ntmps16
  go_upto_region 1 with fail
  generalize (w.alloc (boxW (.slice a1 n1 c1) tip (.slice a2 n2 c2) t)).alloc (boxW (.slice d1 m1 k1) tip' (.slice d2 m2 k2) t') = W0 at *
  have z0 := fun i => Joins.cell_of_block HX0.out i
  have y0 := fun i => Joins.cell_of_block HY0.out i
  go_wp2
  go_ret
  exact ⟨rfl, HB0.out⟩
 | true =>
  cases htt : (t == t') with
  | false =>
   go_enter Tryz.func16, Tryz.ntmps16
   go_upto_region 1 with fail
   generalize (w.alloc (boxW (.slice a1 n1 c1) tip (.slice a2 n2 c2) t)).alloc (boxW (.slice d1 m1 k1) tip' (.slice d2 m2 k2) t') = W0 at *
   have z0 := fun i => Joins.cell_of_block HX0.out i
   have y0 := fun i => Joins.cell_of_block HY0.out i
   go_wp2
   go_ret
   exact ⟨rfl, HB0.out⟩
  | true =>
   go_enter Tryz.func16, Tryz.ntmps16
   go_upto_region 1 with fail
   generalize (w.alloc (boxW (.slice a1 n1 c1) tip (.slice a2 n2 c2) t)).alloc (boxW (.slice d1 m1 k1) tip' (.slice d2 m2 k2) t') = W0 at *
   have z0 := fun i => Joins.cell_of_block HX0.out i
   have y0 := fun i => Joins.cell_of_block HY0.out i
   have kn := KN.out W0 HB0.out
   go_wp2_with fail
   refine kn.mono ?_
   rintro e w1 ⟨rfl, hb1⟩
   have HB1 : Aside _ := step_below1 HB0.out hb1
   have HX1 : Aside _ := heap_below HX0.out hb1 (heap_lt HX0.out)
   have HY1 : Aside _ := heap_below HY0.out hb1 (heap_lt HY0.out)
   clear kn z0 y0 HX0 HY0 HB0 hb1
   have z1 := fun i => Joins.cell_of_block HX1.out i
   have y1 := fun i => Joins.cell_of_block HY1.out i
   cases p with
   | false =>
    go_wp2
    go_ret
    exact ⟨rfl, HB1.out⟩
   | true =>
    have kc := KC.out w1 HB1.out
    go_wp2_with fail
    refine kc.mono ?_
    rintro e w2 ⟨rfl, hb2⟩
    have HB2 : Aside _ := step_below1 HB1.out hb2
    clear kc z1 y1 HX1 HY1 HB1 hb2
    go_wp2
    go_ret
    exact ⟨by simp, HB2.out⟩
theorem w_same (vn vc un uc : Value) (xs ys : List Nb) (cs ds : List Cb) (tip t tip' t' : Int) (w : World) (h : WdAt w vn vc xs cs) (h' : WdAt w un uc ys ds) (hf : WdFits xs cs) :
  Calls Tryz.prog 16 #[wval vn tip vc t, wval un tip' uc t'] w fun e w' => e = .returned (.bool (decide (wdOf xs tip cs t = wdOf ys tip' ds t'))) ∧ Below w.heap.size w w' := by
 have kn := fun W (hb : Below w.heap.size w W) => eqfN vn un xs ys W (h.rowN.later hb) (h'.rowN.later hb) (fun x hx => ⟨(h.node x hx).later hb, hf.cells x hx⟩) (fun x hx => (h'.node x hx).later hb) hf.nsl
 have kc := fun W (hb : Below w.heap.size w W) => eqfC vc uc cs ds W (h.rowC.later hb) (h'.rowC.later hb) (fun x hx => ⟨bkAt_later (h.client x hx) hb, hf.jobs x hx, hf.rung x hx⟩) (fun x hx => bkAt_later (h'.client x hx) hb) hf.csl
 obtain ⟨a1, n1, c1, rfl⟩ := slOf_sl h.rowN
 obtain ⟨a2, n2, c2, rfl⟩ := slOf_sl h.rowC
 obtain ⟨d1, m1, k1, rfl⟩ := slOf_sl h'.rowN
 obtain ⟨d2, m2, k2, rfl⟩ := slOf_sl h'.rowC
 have := same_at a1 a2 d1 d2 n1 c1 n2 c2 m1 k1 m2 k2 tip t tip' t' _ _ w kn kc
 have e : decide (wdOf xs tip cs t = wdOf ys tip' ds t') = ((tip == tip') && ((t == t') && (decide (nodesOf xs = nodesOf ys) && decide (clientsOf cs = clientsOf ds)))) := by
  rw [Bool.eq_iff_iff, decide_eq_true_iff]
  simp only [Wd.mk.injEq, Bool.and_eq_true, decide_eq_true_eq, beq_iff_eq]
  constructor
  · rintro ⟨h1, h2, h3, h4⟩; exact ⟨h2, h4, h1, h3⟩
  · rintro ⟨h1, h2, h3, h4⟩; exact ⟨h3, h1, h4, h2⟩
 rw [e]
 exact this
end
section
open scoped Classical
def WV (w : World) (vn vc : Value) (W : Wd) : Prop := ∃ xs cs, WdAt w vn vc xs cs ∧ WdFits xs cs ∧ nodesOf xs = W.ns ∧ clientsOf cs = W.cs
theorem WV.later {w w' : World} {vn vc : Value} {W : Wd} (h : WV w vn vc W) (hb : Below w.heap.size w w') : WV w' vn vc W := by
 obtain ⟨xs, cs, h1, h2, h3⟩ := h
 exact ⟨xs, cs, h1.later hb, h2, h3⟩
theorem wd_eq {xs : List Nb} {cs : List Cb} {W : Wd} (h1 : nodesOf xs = W.ns) (h2 : clientsOf cs = W.cs) : wdOf xs W.tip cs W.t = W := by
 show (⟨nodesOf xs, W.tip, clientsOf cs, W.t⟩ : Wd) = W
 rw [h1, h2]
abbrev Good (W : Wd) : Prop := W = Wd.zero ∨ RW W
theorem wd_fits {xs : List Nb} {cs : List Cb} {W : Wd} (h : Good W) (e1 : nodesOf xs = W.ns) (e2 : clientsOf cs = W.cs) : WdFits xs cs := by
 have l1 : xs.length = W.ns.length := by rw [← e1]; exact (List.length_map ..).symm
 have l2 : cs.length = W.cs.length := by rw [← e2]; exact (List.length_map ..).symm
 have hn : ∀ x, x ∈ xs → x.n ∈ W.ns := fun x hx => by rw [← e1]; exact List.mem_map_of_mem hx
 have hc : ∀ x, x ∈ cs → x.c ∈ W.cs := fun x hx => by rw [← e2]; exact List.mem_map_of_mem hx
 rcases h with rfl | hR
 · exact ⟨by rw [l1]; exact Nat.zero_le _, by rw [l2]; exact Nat.zero_le _, fun x hx => (by cases hn x hx), fun x hx => (by cases hn x hx), fun x hx => (by cases hn x hx), fun x hx => (by cases hc x hx), fun x hx => (by cases hc x hx)⟩
 · have hk : ∀ x, x ∈ xs → x.n.ck = 0 := fun x hx => by
   obtain ⟨k, h⟩ := List.getElem?_of_mem (hn x hx)
   exact hR.node k x.n h
  have hq : ∀ x, x ∈ cs → x.c.ck = 0 := fun x hx => hR.client x.c (hc x hx)
  exact ⟨by rw [l1, hR.ns3]; decide, by rw [l2, hR.cs3]; decide, fun x hx => Nat.le_trans (Nat.le_of_eq (ckN_ok (hk x hx)).2.2) (by decide), fun x hx => Nat.le_trans (ck_short (hk x hx)).1 (by decide), fun x hx => Nat.le_trans (ck_short (hk x hx)).2 (by decide), fun x hx => Nat.le_trans (ckC_short (hq x hx)).1 (by decide), fun x hx => Nat.le_trans (ckC_short (hq x hx)).2 (by decide)⟩
theorem WRow.at {X w : World} {g1 g2 : Nat} {xs : List Nb} {cs : List Cb} (h : WRow X w g1 g2 xs cs) : WdAt w (.slice (some ⟨g1, 0, none⟩) 3 3) (.slice (some ⟨g2, 0, none⟩) 3 3) xs cs :=
 ⟨by have := slOf_lit (c := 3) Nb.five h.nrow rfl; rwa [h.three] at this, by have := slOf_lit (c := 3) Cb.twelve h.crow rfl; rwa [h.three'] at this, ⟨_, _, _, rfl, Nat.le_refl _⟩, ⟨_, _, _, rfl, Nat.le_refl _⟩, fun x hx => (h.nodes x hx).1, fun x hx => (h.clients x hx).1⟩
theorem WOut.wv {X w : World} {vn vc : Value} {W : Wd} (h : WOut X w vn vc W) (hg : Good W) : WV w vn vc W := by
 rcases h with ⟨rfl, rfl, rfl⟩ | ⟨g1, g2, ys, ds, rfl, rfl, hR, e1, e2⟩
 · exact ⟨[], [], ⟨SlOf.nil _ _, SlOf.nil _ _, ⟨_, _, _, rfl, Nat.le_refl _⟩, ⟨_, _, _, rfl, Nat.le_refl _⟩, fun x hx => (by cases hx), fun x hx => (by cases hx)⟩, wd_fits (W := Wd.zero) (Or.inl rfl) rfl rfl, rfl, rfl⟩
 · exact ⟨ys, ds, hR.at, wd_fits hg e1 e2, e1, e2⟩
theorem wnew_right : RW wnew := rw_iff.1 (by kernel_rfl)
theorem doOf_good (W : Wd) (x : Hp) : Good (doOf W x).1 := by
 rw [doOf]
 by_cases h1 : W.ck = 0
 · rw [if_neg (not_not_intro h1)]
  by_cases h2 : (happened W x).2 = 0
  · rw [if_neg (not_not_intro h2)]
   exact Or.inr (happened_right (rw_iff.1 h1) x)
  · rw [if_pos h2]; exact Or.inl rfl
 · rw [if_pos h1]; exact Or.inl rfl
theorem runOf_good (W : Wd) (l : List Hp) : Good (runOf W l).1 := by
 rw [runOf]
 by_cases h1 : W.ck = 0
 · rw [if_neg (not_not_intro h1)]
  by_cases h2 : 150 < l.length
  · rw [if_pos h2]; exact Or.inl rfl
  · rw [if_neg h2]
   exact Or.inr (runL_right l (rw_iff.1 h1))
 · rw [if_pos h1]; exact Or.inl rfl
theorem k_check {w : World} {vn vc : Value} {W : Wd} (hL : Laid w) (h : WV w vn vc W) :
  Calls Tryz.prog 11 #[wval vn W.tip vc W.t] w fun e w' => e = .returned (.int .i64 W.ck) ∧ Below w.heap.size w w' := by
 obtain ⟨xs, cs, h1, hf, e1, e2⟩ := h
 have := w_check vn vc xs cs W.tip W.t w hL h1 hf
 rwa [wd_eq e1 e2] at this
abbrev AnsK (f : FuncId) (args : Array Value) (w : World) (r : Wd × Int) : Prop :=
 Calls Tryz.prog f args w fun e w' => ∃ vn vc, e = .returned (.tuple #[wval vn r.1.tip vc r.1.t, .int .i64 r.2]) ∧ WV w' vn vc r.1 ∧ Below w.heap.size w w'
theorem k_do {w : World} {vn vc : Value} {W : Wd} (hL : Laid w) (h : WV w vn vc W) (x : Hp) : AnsK 9 #[wval vn W.tip vc W.t, x.val] w (doOf W x) := by
 obtain ⟨xs, cs, h1, hf, e1, e2⟩ := h
 have := w_do vn vc xs cs W.tip W.t x w hL h1 hf
 rw [wd_eq e1 e2] at this
 exact this.mono fun _ _ ⟨un, uc, he, hO, hb⟩ => ⟨un, uc, he, hO.wv (doOf_good W x), hb⟩
theorem k_run {w : World} {vn vc : Value} {W : Wd} (hL : Laid w) (h : WV w vn vc W) {v : Value} {l : List Hp} (hl : HpSl w v l) :
  Calls Tryz.prog 17 #[wval vn W.tip vc W.t, v] w fun e w' => ∃ un uc sv, e = .returned (.tuple #[wval un (runOf W l).1.tip uc (runOf W l).1.t, sv, .int .i64 (runOf W l).2.2]) ∧ WV w' un uc (runOf W l).1 ∧ ErSl w' sv (runOf W l).2.1 ∧ Below w.heap.size w w' := by
 obtain ⟨xs, cs, h1, hf, e1, e2⟩ := h
 have := w_run vn vc xs cs W.tip W.t v l w hL h1 hf hl
 rw [wd_eq e1 e2] at this
 exact this.mono fun _ _ ⟨un, uc, sv, he, hO, hs, hb⟩ => ⟨un, uc, sv, he, hO.wv (runOf_good W l), hs.sl, hb⟩
theorem k_same {w : World} {vn vc un uc : Value} {A B : Wd} (h : WV w vn vc A) (h' : WV w un uc B) :
  Calls Tryz.prog 16 #[wval vn A.tip vc A.t, wval un B.tip uc B.t] w fun e w' => e = .returned (.bool (decide (A = B))) ∧ Below w.heap.size w w' := by
 obtain ⟨xs, cs, h1, hf, e1, e2⟩ := h
 obtain ⟨ys, ds, h2, _, e3, e4⟩ := h'
 have := w_same vn vc un uc xs ys cs ds A.tip A.t B.tip B.t w h1 h2 hf
 rwa [wd_eq e1 e2, wd_eq e3 e4] at this
theorem k_new (w : World) : Calls Tryz.prog 26 #[] w fun e w' => ∃ vn vc, e = .returned (wval vn 0 vc 0) ∧ WV w' vn vc wnew ∧ Below w.heap.size w w' :=
 (w_new w).mono fun _ _ ⟨un, uc, he, hO, hb⟩ => ⟨un, uc, he, hO.wv (Or.inr wnew_right), hb⟩
structure WF (w : World) (b o b' o' : Nat) (xs : List Nb) (cs : List Cb) (W : Wd) : Prop where
 rowN : RowAt Nb.cells 5 w b o xs
 rowC : RowAt Cb.cells 12 w b' o' cs
 node : ∀ x, x ∈ xs → NodeT w x
 client : ∀ x, x ∈ cs → ClientT w x
 fits : WdFits xs cs
 ns : nodesOf xs = W.ns
 cs : clientsOf cs = W.cs
theorem WF.later {w w' : World} {b o b' o' : Nat} {xs : List Nb} {cs : List Cb} {W : Wd} (h : WF w b o b' o' xs cs W) (hb : Below w.heap.size w w') : WF w' b o b' o' xs cs W :=
 ⟨h.rowN.later hb, h.rowC.later hb, fun x hx => (h.node x hx).later hb, fun x hx => bkAt_later (h.client x hx) hb, h.fits, h.ns, h.cs⟩
theorem roomy_le {a : Option Addr} {n c : Nat} (h : Roomy (.slice a n c)) : n ≤ c := by
 obtain ⟨_, _, _, e, hle⟩ := h
 injection e with _ e1 e2
 omega
theorem WV.form {w : World} {vn vc : Value} {W : Wd} (h : WV w vn vc W) (hR : RW W) : ∃ b o c b' o' c' xs cs, vn = .slice (some ⟨b, o, none⟩) 3 c ∧ vc = .slice (some ⟨b', o', none⟩) 3 c' ∧ 3 ≤ c ∧ 3 ≤ c' ∧ WF w b o b' o' xs cs W := by
 obtain ⟨xs, cs, h1, hf, e1, e2⟩ := h
 have l1 : xs.length = 3 := by rw [← hR.ns3, ← e1]; exact (List.length_map ..).symm
 have l2 : cs.length = 3 := by rw [← hR.cs3, ← e2]; exact (List.length_map ..).symm
 have r1 := h1.roomN
 have r2 := h1.roomC
 obtain ⟨b, o, c, rfl, hE⟩ := h1.rowN.form (by omega)
 obtain ⟨b', o', c', rfl, hE'⟩ := h1.rowC.form (by omega)
 exact ⟨b, o, c, b', o', c', xs, cs, by rw [l1], by rw [l2], by have := roomy_le r1; omega, by have := roomy_le r2; omega, hE, hE', h1.node, h1.client, hf, e1, e2⟩
theorem WF.back {w : World} {b o c b' o' c' : Nat} {xs : List Nb} {cs : List Cb} {W : Wd} (h : WF w b o b' o' xs cs W) (hR : RW W) (hc : 3 ≤ c) (hc' : 3 ≤ c') : WV w (.slice (some ⟨b, o, none⟩) 3 c) (.slice (some ⟨b', o', none⟩) 3 c') W := by
 have l1 : xs.length = 3 := by rw [← hR.ns3, ← h.ns]; exact (List.length_map ..).symm
 have l2 : cs.length = 3 := by rw [← hR.cs3, ← h.cs]; exact (List.length_map ..).symm
 exact ⟨xs, cs, ⟨⟨_, c, by rw [l1], Or.inr ⟨b, o, rfl, h.rowN⟩⟩, ⟨_, c', by rw [l2], Or.inr ⟨b', o', rfl, h.rowC⟩⟩, ⟨_, _, _, rfl, hc⟩, ⟨_, _, _, rfl, hc'⟩, h.node, h.client⟩, h.fits, h.ns, h.cs⟩
theorem WF.nodeAt {w : World} {b o b' o' : Nat} {xs : List Nb} {cs : List Cb} {W : Wd} (h : WF w b o b' o' xs cs W) {k : Nat} {n : Nd} (hn : W.ns[k]? = some n) : ∃ x : Nb, x ∈ xs ∧ x.n = n ∧ NodeT w x ∧ ∀ i v, x.cells[i]? = some v → w.cell? ⟨b, o + k * 5 + i, none⟩ = some v := by
 rw [← h.ns] at hn
 obtain ⟨x, hx, rfl⟩ : ∃ x, xs[k]? = some x ∧ x.n = n := by
  have : (xs.map Nb.n)[k]? = some n := hn
  rw [List.getElem?_map] at this
  cases hx : xs[k]? with
  | none => rw [hx] at this; cases this
  | some x => rw [hx] at this; exact ⟨x, rfl, Option.some.inj this⟩
 exact ⟨x, List.mem_of_getElem? hx, rfl, h.node x (List.mem_of_getElem? hx), fun i v hv => h.rowN k x hx i v hv⟩
theorem WF.clientAt {w : World} {b o b' o' : Nat} {xs : List Nb} {cs : List Cb} {W : Wd} (h : WF w b o b' o' xs cs W) {k : Nat} {c : Cl} (hc : W.cs[k]? = some c) : ∃ x : Cb, x ∈ cs ∧ x.c = c ∧ ClientT w x ∧ ∀ i v, x.cells[i]? = some v → w.cell? ⟨b', o' + k * 12 + i, none⟩ = some v := by
 rw [← h.cs] at hc
 obtain ⟨x, hx, rfl⟩ : ∃ x, cs[k]? = some x ∧ x.c = c := by
  have : (cs.map Cb.c)[k]? = some c := hc
  rw [List.getElem?_map] at this
  cases hx : cs[k]? with
  | none => rw [hx] at this; cases this
  | some x => rw [hx] at this; exact ⟨x, rfl, Option.some.inj this⟩
 exact ⟨x, List.mem_of_getElem? hx, rfl, h.client x (List.mem_of_getElem? hx), fun i v hv => h.rowC k x hx i v hv⟩
end
section
open scoped Classical
theorem tlw_right : Good tlw := runOf_good wnew _
theorem toll_first : ∃ c, tlw.cs[0]? = some c ∧ c.n = 2 ∧ c.rs = [⟨2, 3, 0⟩] := by
 have h := toll_cl
 generalize tlw.cs = l at h
 match l, h with
 | c :: r, h =>
  rw [List.map_cons] at h
  injection h with h1 _
  injection h1 with h1 h2
  refine ⟨c, rfl, h1, ?_⟩
  cases hr : c.rs with
  | nil => rw [hr] at h2; cases h2
  | cons q t =>
   rw [hr, List.map_cons] at h2
   injection h2 with h3 h4
   obtain rfl : t = [] := List.map_eq_nil_iff.1 h4
   injection h3 with e1 e2
   injection e2 with e2 e3
   cases q
   simp_all
theorem tolled_any (w : World) (hL : Laid w) : Calls Tryz.prog 10 #[] w fun e w' => e = .returned (.bool true) ∧ Below w.heap.size w w' := by
 have HL : Aside (Laid w) := hL
 clear hL
 go_enter Tryz.func10, Tryz.ntmps10
 go_wp2_with fail
 refine (t_of 3 0 _).mono ?_
 rintro e w1 ⟨rfl, hb1⟩
 have B1 : Aside (Below w.heap.size w w1) := hb1
 clear hb1
 go_wp2_with fail
 refine (t_of 4 0 _).mono ?_
 rintro e w2 ⟨rfl, hb2⟩
 have B2 : Aside _ := step_below1 B1.out hb2
 clear hb2 B1
 go_wp2_with fail
 refine (t_of 4 0 _).mono ?_
 rintro e w3 ⟨rfl, hb3⟩
 have B3 : Aside _ := step_below1 B2.out hb3
 clear hb3 B2
 go_wp2_with fail
 refine (t_of 4 0 _).mono ?_
 rintro e w4 ⟨rfl, hb4⟩
 have B4 : Aside _ := step_below1 B3.out hb4
 clear hb4 B3
 go_wp2_with fail
 refine (t_of 7 0 _).mono ?_
 rintro e w5 ⟨rfl, hb5⟩
 have B5 : Aside _ := step_below1 B4.out hb5
 clear hb5 B4
 go_upto_region 3 with fail
 have hA : Below w5.heap.size w5 (w5.alloc (.cells #[.int .i64 3, .int .i64 0, .int .i64 0, .int .i64 0, .int .i64 0, .int .i64 0, .int .i64 0, .int .i64 0, .int .i64 0, .int .i64 0, .int .i64 4, .int .i64 0, .int .i64 0, .int .i64 0, .int .i64 0, .int .i64 0, .int .i64 0, .int .i64 0, .int .i64 0, .int .i64 0, .int .i64 4, .int .i64 0, .int .i64 0, .int .i64 0, .int .i64 0, .int .i64 0, .int .i64 0, .int .i64 0, .int .i64 0, .int .i64 0, .int .i64 4, .int .i64 0, .int .i64 0, .int .i64 0, .int .i64 0, .int .i64 0, .int .i64 0, .int .i64 0, .int .i64 0, .int .i64 0, .int .i64 7, .int .i64 0, .int .i64 0, .int .i64 0, .int .i64 0, .int .i64 0, .int .i64 0, .int .i64 0, .int .i64 0, .int .i64 0] 29)) := grew (Below.refl _ _) _
 have B6 : Aside _ := step_below1 B5.out hA
 have S6 : Aside (HpSl (w5.alloc (.cells #[.int .i64 3, .int .i64 0, .int .i64 0, .int .i64 0, .int .i64 0, .int .i64 0, .int .i64 0, .int .i64 0, .int .i64 0, .int .i64 0, .int .i64 4, .int .i64 0, .int .i64 0, .int .i64 0, .int .i64 0, .int .i64 0, .int .i64 0, .int .i64 0, .int .i64 0, .int .i64 0, .int .i64 4, .int .i64 0, .int .i64 0, .int .i64 0, .int .i64 0, .int .i64 0, .int .i64 0, .int .i64 0, .int .i64 0, .int .i64 0, .int .i64 4, .int .i64 0, .int .i64 0, .int .i64 0, .int .i64 0, .int .i64 0, .int .i64 0, .int .i64 0, .int .i64 0, .int .i64 0, .int .i64 7, .int .i64 0, .int .i64 0, .int .i64 0, .int .i64 0, .int .i64 0, .int .i64 0, .int .i64 0, .int .i64 0, .int .i64 0] 29)) (.slice (some ⟨w5.heap.size, 0, none⟩) 5 5) tl2) := slOf_lit (xs := tl2) Hp.ten (heap_new w5 (.cells #[.int .i64 3, .int .i64 0, .int .i64 0, .int .i64 0, .int .i64 0, .int .i64 0, .int .i64 0, .int .i64 0, .int .i64 0, .int .i64 0, .int .i64 4, .int .i64 0, .int .i64 0, .int .i64 0, .int .i64 0, .int .i64 0, .int .i64 0, .int .i64 0, .int .i64 0, .int .i64 0, .int .i64 4, .int .i64 0, .int .i64 0, .int .i64 0, .int .i64 0, .int .i64 0, .int .i64 0, .int .i64 0, .int .i64 0, .int .i64 0, .int .i64 4, .int .i64 0, .int .i64 0, .int .i64 0, .int .i64 0, .int .i64 0, .int .i64 0, .int .i64 0, .int .i64 0, .int .i64 0, .int .i64 7, .int .i64 0, .int .i64 0, .int .i64 0, .int .i64 0, .int .i64 0, .int .i64 0, .int .i64 0, .int .i64 0, .int .i64 0] 29)) rfl
 generalize w5.alloc (.cells #[.int .i64 3, .int .i64 0, .int .i64 0, .int .i64 0, .int .i64 0, .int .i64 0, .int .i64 0, .int .i64 0, .int .i64 0, .int .i64 0, .int .i64 4, .int .i64 0, .int .i64 0, .int .i64 0, .int .i64 0, .int .i64 0, .int .i64 0, .int .i64 0, .int .i64 0, .int .i64 0, .int .i64 4, .int .i64 0, .int .i64 0, .int .i64 0, .int .i64 0, .int .i64 0, .int .i64 0, .int .i64 0, .int .i64 0, .int .i64 0, .int .i64 4, .int .i64 0, .int .i64 0, .int .i64 0, .int .i64 0, .int .i64 0, .int .i64 0, .int .i64 0, .int .i64 0, .int .i64 0, .int .i64 7, .int .i64 0, .int .i64 0, .int .i64 0, .int .i64 0, .int .i64 0, .int .i64 0, .int .i64 0, .int .i64 0, .int .i64 0] 29) = w6 at *
 generalize w5.heap.size = s2 at *
 clear hA B5
 go_wp2_with fail
 refine (k_new _).mono ?_
 rintro e w7 ⟨vn, vc, rfl, hO, hb7⟩
 have B7 : Aside _ := step_below1 B6.out hb7
 have S7 : Aside _ := S6.out.later hb7
 have O7 : Aside (WV w7 vn vc wnew) := hO
 clear hb7 B6 S6 hO
 go_wp2_with fail
 refine (t_put 2 5 3 _).mono ?_
 rintro e w8 ⟨rfl, hb8⟩
 have B8 : Aside _ := step_below1 B7.out hb8
 have S8 : Aside _ := S7.out.later hb8
 have O8 : Aside _ := O7.out.later hb8
 clear hb8 B7 S7 O7
 have hA : Below w8.heap.size w8 (((w8.alloc (.cells #[.int .i64 1, .int .i64 0, .int .i64 0, .int .i64 0, .int .i64 0, .int .i64 1, .int .i64 2, .int .i64 5, .int .i64 3, .int .i64 0] 29)).alloc (.cells #[.int .i64 2, .int .i64 0, .int .i64 0, .int .i64 2, .int .i64 0, .int .i64 0, .int .i64 0, .int .i64 0, .int .i64 0, .int .i64 0, .int .i64 11, .int .i64 0, .int .i64 4, .int .i64 0, .int .i64 0, .int .i64 0, .int .i64 0, .int .i64 0, .int .i64 0, .int .i64 0, .int .i64 2, .int .i64 0, .int .i64 0, .int .i64 2, .int .i64 0, .int .i64 0, .int .i64 0, .int .i64 0, .int .i64 0, .int .i64 0] 29)).alloc (.cells #[.slice (some ⟨w8.heap.size, 0, none⟩) 1 1, .slice (some ⟨s2, 0, none⟩) 5 5, .slice (some ⟨w8.heap.size + 1, 0, none⟩) 3 3, .slice (some ⟨s2, 0, none⟩) 5 5] 57)) := grew (grew (grew (Below.refl _ _) _) _) _
 have B9 : Aside _ := step_below1 B8.out hA
 have S9 : Aside _ := S8.out.later hA
 have O9 : Aside _ := O8.out.later hA
 have S1 : Aside (HpSl (((w8.alloc (.cells #[.int .i64 1, .int .i64 0, .int .i64 0, .int .i64 0, .int .i64 0, .int .i64 1, .int .i64 2, .int .i64 5, .int .i64 3, .int .i64 0] 29)).alloc (.cells #[.int .i64 2, .int .i64 0, .int .i64 0, .int .i64 2, .int .i64 0, .int .i64 0, .int .i64 0, .int .i64 0, .int .i64 0, .int .i64 0, .int .i64 11, .int .i64 0, .int .i64 4, .int .i64 0, .int .i64 0, .int .i64 0, .int .i64 0, .int .i64 0, .int .i64 0, .int .i64 0, .int .i64 2, .int .i64 0, .int .i64 0, .int .i64 2, .int .i64 0, .int .i64 0, .int .i64 0, .int .i64 0, .int .i64 0, .int .i64 0] 29)).alloc (.cells #[.slice (some ⟨w8.heap.size, 0, none⟩) 1 1, .slice (some ⟨s2, 0, none⟩) 5 5, .slice (some ⟨w8.heap.size + 1, 0, none⟩) 3 3, .slice (some ⟨s2, 0, none⟩) 5 5] 57)) (.slice (some ⟨w8.heap.size, 0, none⟩) 1 1) tl1) := slOf_lit (xs := tl1) Hp.ten (heap_old (heap_old (heap_new w8 (.cells #[.int .i64 1, .int .i64 0, .int .i64 0, .int .i64 0, .int .i64 0, .int .i64 1, .int .i64 2, .int .i64 5, .int .i64 3, .int .i64 0] 29)) _) _) rfl
 have S3 : Aside (HpSl (((w8.alloc (.cells #[.int .i64 1, .int .i64 0, .int .i64 0, .int .i64 0, .int .i64 0, .int .i64 1, .int .i64 2, .int .i64 5, .int .i64 3, .int .i64 0] 29)).alloc (.cells #[.int .i64 2, .int .i64 0, .int .i64 0, .int .i64 2, .int .i64 0, .int .i64 0, .int .i64 0, .int .i64 0, .int .i64 0, .int .i64 0, .int .i64 11, .int .i64 0, .int .i64 4, .int .i64 0, .int .i64 0, .int .i64 0, .int .i64 0, .int .i64 0, .int .i64 0, .int .i64 0, .int .i64 2, .int .i64 0, .int .i64 0, .int .i64 2, .int .i64 0, .int .i64 0, .int .i64 0, .int .i64 0, .int .i64 0, .int .i64 0] 29)).alloc (.cells #[.slice (some ⟨w8.heap.size, 0, none⟩) 1 1, .slice (some ⟨s2, 0, none⟩) 5 5, .slice (some ⟨w8.heap.size + 1, 0, none⟩) 3 3, .slice (some ⟨s2, 0, none⟩) 5 5] 57)) (.slice (some ⟨w8.heap.size + 1, 0, none⟩) 3 3) tl3) := by
  have h := heap_new (w8.alloc (.cells #[.int .i64 1, .int .i64 0, .int .i64 0, .int .i64 0, .int .i64 0, .int .i64 1, .int .i64 2, .int .i64 5, .int .i64 3, .int .i64 0] 29)) (.cells #[.int .i64 2, .int .i64 0, .int .i64 0, .int .i64 2, .int .i64 0, .int .i64 0, .int .i64 0, .int .i64 0, .int .i64 0, .int .i64 0, .int .i64 11, .int .i64 0, .int .i64 4, .int .i64 0, .int .i64 0, .int .i64 0, .int .i64 0, .int .i64 0, .int .i64 0, .int .i64 0, .int .i64 2, .int .i64 0, .int .i64 0, .int .i64 2, .int .i64 0, .int .i64 0, .int .i64 0, .int .i64 0, .int .i64 0, .int .i64 0] 29)
  rw [World.size_alloc] at h
  exact slOf_lit (xs := tl3) Hp.ten (heap_old h _) rfl
 have R9 : Aside ((((w8.alloc (.cells #[.int .i64 1, .int .i64 0, .int .i64 0, .int .i64 0, .int .i64 0, .int .i64 1, .int .i64 2, .int .i64 5, .int .i64 3, .int .i64 0] 29)).alloc (.cells #[.int .i64 2, .int .i64 0, .int .i64 0, .int .i64 2, .int .i64 0, .int .i64 0, .int .i64 0, .int .i64 0, .int .i64 0, .int .i64 0, .int .i64 11, .int .i64 0, .int .i64 4, .int .i64 0, .int .i64 0, .int .i64 0, .int .i64 0, .int .i64 0, .int .i64 0, .int .i64 0, .int .i64 2, .int .i64 0, .int .i64 0, .int .i64 2, .int .i64 0, .int .i64 0, .int .i64 0, .int .i64 0, .int .i64 0, .int .i64 0] 29)).alloc (.cells #[.slice (some ⟨w8.heap.size, 0, none⟩) 1 1, .slice (some ⟨s2, 0, none⟩) 5 5, .slice (some ⟨w8.heap.size + 1, 0, none⟩) 3 3, .slice (some ⟨s2, 0, none⟩) 5 5] 57)).heap[w8.heap.size + 1 + 1]? = some (.cells #[.slice (some ⟨w8.heap.size, 0, none⟩) 1 1, .slice (some ⟨s2, 0, none⟩) 5 5, .slice (some ⟨w8.heap.size + 1, 0, none⟩) 3 3, .slice (some ⟨s2, 0, none⟩) 5 5] 57)) := by
  have h := heap_new ((w8.alloc (.cells #[.int .i64 1, .int .i64 0, .int .i64 0, .int .i64 0, .int .i64 0, .int .i64 1, .int .i64 2, .int .i64 5, .int .i64 3, .int .i64 0] 29)).alloc (.cells #[.int .i64 2, .int .i64 0, .int .i64 0, .int .i64 2, .int .i64 0, .int .i64 0, .int .i64 0, .int .i64 0, .int .i64 0, .int .i64 0, .int .i64 11, .int .i64 0, .int .i64 4, .int .i64 0, .int .i64 0, .int .i64 0, .int .i64 0, .int .i64 0, .int .i64 0, .int .i64 0, .int .i64 2, .int .i64 0, .int .i64 0, .int .i64 2, .int .i64 0, .int .i64 0, .int .i64 0, .int .i64 0, .int .i64 0, .int .i64 0] 29)) (.cells #[.slice (some ⟨w8.heap.size, 0, none⟩) 1 1, .slice (some ⟨s2, 0, none⟩) 5 5, .slice (some ⟨w8.heap.size + 1, 0, none⟩) 3 3, .slice (some ⟨s2, 0, none⟩) 5 5] 57)
  rwa [World.size_alloc, World.size_alloc] at h
 have kc := concat4H (w8.heap.size + 1 + 1) _ _ _ _ tl1 tl2 tl3 tl2 (((w8.alloc (.cells #[.int .i64 1, .int .i64 0, .int .i64 0, .int .i64 0, .int .i64 0, .int .i64 1, .int .i64 2, .int .i64 5, .int .i64 3, .int .i64 0] 29)).alloc (.cells #[.int .i64 2, .int .i64 0, .int .i64 0, .int .i64 2, .int .i64 0, .int .i64 0, .int .i64 0, .int .i64 0, .int .i64 0, .int .i64 0, .int .i64 11, .int .i64 0, .int .i64 4, .int .i64 0, .int .i64 0, .int .i64 0, .int .i64 0, .int .i64 0, .int .i64 0, .int .i64 0, .int .i64 2, .int .i64 0, .int .i64 0, .int .i64 2, .int .i64 0, .int .i64 0, .int .i64 0, .int .i64 0, .int .i64 0, .int .i64 0] 29)).alloc (.cells #[.slice (some ⟨w8.heap.size, 0, none⟩) 1 1, .slice (some ⟨s2, 0, none⟩) 5 5, .slice (some ⟨w8.heap.size + 1, 0, none⟩) 3 3, .slice (some ⟨s2, 0, none⟩) 5 5] 57)) R9.out S1.out S9.out S3.out S9.out (by decide)
 go_wp2_with fail
 refine kc.mono ?_
 rintro e w10 ⟨v, rfl, hS, hb10⟩
 have B10 : Aside _ := step_below1 B9.out hb10
 have O10 : Aside _ := O9.out.later hb10
 have kr := k_run (HL.out.later B10.out) O10.out hS
 rw [toll_said] at kr
 change Calls _ _ _ _ (fun e w' => ∃ un uc sv, e = .returned (.tuple #[wval un tlw.tip uc tlw.t, sv, .int .i64 0]) ∧ WV w' un uc tlw ∧ ErSl w' sv [0, 0, 0, 0, 0, 0, 5, 0, 0, 0, 0, 0, 0, 0] ∧ Below w10.heap.size w10 w') at kr
 rw [toll_tip] at kr
 obtain ⟨tt, htt⟩ : ∃ tt, tlw.t = tt := ⟨_, rfl⟩
 rw [htt] at kr
 clear kc hb10 B9 S9 O9 S1 S3 R9 hA B8 S8 O8 hS htt
 go_wp2_with fail
 refine kr.mono ?_
 rintro e w11 ⟨un, uc, sv, rfl, hO, hs, hb11⟩
 obtain ⟨b, o, c, b', o', c', xs, cs, rfl, rfl, _, _, hF⟩ := hO.form (tlw_right.resolve_left (fun h => by have := congrArg Wd.tip h; rw [toll_tip] at this; cases this))
 have B11 : Aside _ := step_below1 B10.out hb11
 have HF : Aside (WF w11 b o b' o' xs cs tlw) := hF
 have HS : Aside (ErSl w11 sv [0, 0, 0, 0, 0, 0, 5, 0, 0, 0, 0, 0, 0, 0]) := hs
 clear kr hO hs hb11 hF B10 O10
 go_upto_region 4 with fail
 have hA : Below w11.heap.size w11 (w11.alloc (boxW (.slice (some ⟨b, o, none⟩) 3 c) 2 (.slice (some ⟨b', o', none⟩) 3 c') tt)) := grew (Below.refl _ _) _
 have B12 : Aside _ := step_below1 B11.out hA
 have F12 : Aside _ := HF.out.later hA
 have S12 : Aside _ := HS.out.later hA
 have X12 : Aside ((w11.alloc (boxW (.slice (some ⟨b, o, none⟩) 3 c) 2 (.slice (some ⟨b', o', none⟩) 3 c') tt)).heap[w11.heap.size]? = some (boxW (.slice (some ⟨b, o, none⟩) 3 c) 2 (.slice (some ⟨b', o', none⟩) 3 c') tt)) := heap_new _ _
 generalize w11.alloc (boxW (.slice (some ⟨b, o, none⟩) 3 c) 2 (.slice (some ⟨b', o', none⟩) 3 c') tt) = w12 at *
 generalize w11.heap.size = bx at *
 clear hA B11 HF HS
 have ki := indexE sv [0, 0, 0, 0, 0, 0, 5, 0, 0, 0, 0, 0, 0, 0] 5 w12 S12.out (by decide)
 rw [show idx (fun x : Int => 5 == x) [0, 0, 0, 0, 0, 0, 5, 0, 0, 0, 0, 0, 0, 0] = 6 from rfl] at ki
 go_wp2_with fail
 refine ki.mono ?_
 rintro e w13 ⟨rfl, hb13⟩
 have B13 : Aside _ := step_below1 B12.out hb13
 have F13 : Aside _ := F12.out.later hb13
 have S13 : Aside _ := S12.out.later hb13
 have X13 : Aside _ := heap_below X12.out hb13 (heap_lt X12.out)
 clear ki hb13 B12 F12 S12 X12
 have kf := containsFE (fun q => (q != 0) && (q != 5)) 31 #[] (fun _ _ => rfl) sv [0, 0, 0, 0, 0, 0, 5, 0, 0, 0, 0, 0, 0, 0] w13 S13.out (by decide) (fun W x hb => (t_bad x W).mono fun _ _ ⟨he, hw⟩ => ⟨he, by rw [hw]; exact hb⟩)
 rw [show decide (0 ≤ idx (fun q : Int => (q != 0) && (q != 5)) [0, 0, 0, 0, 0, 0, 5, 0, 0, 0, 0, 0, 0, 0]) = false from rfl] at kf
 go_wp2_with fail
 refine kf.mono ?_
 rintro e w14 ⟨rfl, hb14⟩
 have B14 : Aside _ := step_below1 B13.out hb14
 have X14 : Aside _ := heap_below X13.out hb14 (heap_lt X13.out)
 obtain ⟨cl, hcl, hcn, hcr⟩ := toll_first
 obtain ⟨y, _, hy, hyT, hyc⟩ := (F13.out.later hb14).clientAt hcl
 have hr := hyT.2
 rw [hy, hcr] at hr
 obtain ⟨rb, ro, rc, hv2, hE⟩ := SlOf.form (cs := Rg.cells) (k := 3) hr (by decide)
 have y9 := hyc 9 _ rfl
 have y11 := hyc 11 _ rfl
 rw [hy, hcn] at y9
 rw [hv2] at y11
 have r0 := hE 0 ⟨2, 3, 0⟩ rfl 0 _ rfl
 have r1 := hE 0 ⟨2, 3, 0⟩ rfl 1 _ rfl
 have r2 := hE 0 ⟨2, 3, 0⟩ rfl 2 _ rfl
 simp only [Nat.zero_mul, Nat.add_zero] at y9 y11 r0 r1 r2
 have zx := fun i => Joins.cell_of_block X14.out i
 clear kf hb14 B13 F13 S13 X13 hcl hcn hcr hy hyT hyc hr hv2 hE
 go_wp2
 go_ret
 exact ⟨rfl, B14.out⟩
end
section
open scoped Classical
theorem at_same (k : Int) : ∃ m : Nat, m < 3 ∧ ∀ w : World, Calls Tryz.prog 15 #[.int .i64 k, .int .i64 3] w fun e w' => e = .returned (.int .i64 m) ∧ w' = w := by
 have hb := Int.tmod_lt_of_pos k (show (0 : Int) < 3 by omega)
 have hb' : -3 < k.tmod 3 := Int.lt_tmod_of_pos k (by omega)
 by_cases h : k.tmod 3 < 0
 · refine ⟨(k.tmod 3 + 3).toNat, by omega, fun w => ?_⟩
  go_enter Tryz.func15, Tryz.ntmps15
  go_wp2
  go_ret
  refine ⟨?_, rfl⟩
  exact congrArg (fun q : Int => Ending.returned (Value.int .i64 q)) (by omega)
 · refine ⟨(k.tmod 3).toNat, by omega, fun w => ?_⟩
  go_enter Tryz.func15, Tryz.ntmps15
  go_wp2
  go_ret
  refine ⟨?_, rfl⟩
  exact congrArg (fun q : Int => Ending.returned (Value.int .i64 q)) (by omega)
theorem at_three (k : Int) (w : World) : Calls Tryz.prog 15 #[.int .i64 k, .int .i64 3] w fun e w' => ∃ m : Nat, m < 3 ∧ e = .returned (.int .i64 m) ∧ w' = w := by
 obtain ⟨m, hm, h⟩ := at_same k
 exact (h w).mono fun e w' ⟨he, hw⟩ => ⟨m, hm, he, hw⟩
theorem doOf_ok {W X : Wd} {x : Hp} (h : RW W) (hx : happened W x = (X, 0)) : doOf W x = (X, 0) := by
 rw [doOf, if_neg (not_not_intro (rw_iff.2 h)), hx, if_neg (by simp)]
theorem nd_at {W : Wd} (h : RW W) {m : Nat} (hm : m < 3) : W.ns[m]? = some (W.nd m) := by
 have := h.nd_at (k := (m : Int)) (by omega)
 simpa using this
theorem stands_wrong (vn vc : Value) (W : Wd) (k : Int) (w : World) (hL : Laid w) (h : WV w vn vc W) (hz : W.ck ≠ 0) :
  Calls Tryz.prog 4 #[wval vn W.tip vc W.t, .int .i64 k] w fun e w' => e = .returned (.bool true) ∧ Below w.heap.size w w' := by
 have hA0 : Below w.heap.size w (w.alloc (boxW (vn) W.tip (vc) W.t)) := grew (Below.refl _ _) _
 have B_0 : Aside (Below w.heap.size w (w.alloc (boxW (vn) W.tip (vc) W.t))) := hA0
 have Q_0 : Aside ((w.alloc (boxW (vn) W.tip (vc) W.t)).heap[w.heap.size]? = some (boxW (vn) W.tip (vc) W.t)) := by
  have h := heap_new w (boxW (vn) W.tip (vc) W.t)
  exact h
 have HL : Aside (Laid w) := hL
 have hzb : (W.ck != 0) = true := by rw [bne_iff_ne]; exact hz
 have V_0 : Aside (WV (w.alloc (boxW (vn) W.tip (vc) W.t)) vn vc W) := h.later hA0
 clear hL h hz
 go_enter Tryz.func4, Tryz.ntmps4
 go_upto_region 1 with fail
 generalize (w.alloc (boxW (vn) W.tip (vc) W.t)) = w0 at *
 clear hA0
 go_wp2_with fail
 refine (tolled_any _ (HL.out.later B_0.out)).mono ?_
 rintro e w1 ⟨rfl, hb1⟩
 have Q_1 : Aside _ := heap_below Q_0.out hb1 (heap_lt Q_0.out)
 have V_1 : Aside _ := V_0.out.later hb1
 have B_1 : Aside _ := step_below1 B_0.out hb1
 clear hb1 Q_0 V_0 B_0
 have zQ := fun i => Joins.cell_of_block Q_1.out i
 have kc := k_check (HL.out.later B_1.out) V_1.out
 go_wp2_with fail
 refine (kc).mono ?_
 rintro e w2 ⟨rfl, hb2⟩
 have Q_2 : Aside _ := heap_below Q_1.out hb2 (heap_lt Q_1.out)
 have V_2 : Aside _ := V_1.out.later hb2
 have B_2 : Aside _ := step_below1 B_1.out hb2
 clear hb2 Q_1 V_1 B_1 kc zQ
 go_wp2_with fail
 refine (tolled_any _ (HL.out.later B_2.out)).mono ?_
 rintro e w3 ⟨rfl, hb3⟩
 have Q_3 : Aside _ := heap_below Q_2.out hb3 (heap_lt Q_2.out)
 have V_3 : Aside _ := V_2.out.later hb3
 have B_3 : Aside _ := step_below1 B_2.out hb3
 clear hb3 Q_2 V_2 B_2
 go_wp2
 go_ret
 exact ⟨rfl, B_3.out⟩
theorem stands_right (b o c b' o' c' : Nat) (xs : List Nb) (cs : List Cb) (W : Wd) (k : Int) (w : World) (hL : Laid w) (h : WF w b o b' o' xs cs W) (hR : RW W) (hc : 3 ≤ c) (hc' : 3 ≤ c') :
  Calls Tryz.prog 4 #[wval (.slice (some ⟨b, o, none⟩) 3 c) W.tip (.slice (some ⟨b', o', none⟩) 3 c') W.t, .int .i64 k] w fun e w' => e = .returned (.bool true) ∧ Below w.heap.size w w' := by
 have hA0 : Below w.heap.size w (w.alloc (boxW (.slice (some ⟨b, o, none⟩) 3 c) W.tip (.slice (some ⟨b', o', none⟩) 3 c') W.t)) := grew (Below.refl _ _) _
 have B_0 : Aside (Below w.heap.size w (w.alloc (boxW (.slice (some ⟨b, o, none⟩) 3 c) W.tip (.slice (some ⟨b', o', none⟩) 3 c') W.t))) := hA0
 have Q_0 : Aside ((w.alloc (boxW (.slice (some ⟨b, o, none⟩) 3 c) W.tip (.slice (some ⟨b', o', none⟩) 3 c') W.t)).heap[w.heap.size]? = some (boxW (.slice (some ⟨b, o, none⟩) 3 c) W.tip (.slice (some ⟨b', o', none⟩) 3 c') W.t)) := by
  have h := heap_new w (boxW (.slice (some ⟨b, o, none⟩) 3 c) W.tip (.slice (some ⟨b', o', none⟩) 3 c') W.t)
  exact h
 have HL : Aside (Laid w) := hL
 have HR : Hid (RW W) := hR
 have HC : Hid (3 ≤ c ∧ 3 ≤ c') := ⟨hc, hc'⟩
 have V_0 : Aside (WF (w.alloc (boxW (.slice (some ⟨b, o, none⟩) 3 c) W.tip (.slice (some ⟨b', o', none⟩) 3 c') W.t)) b o b' o' xs cs W) := h.later hA0
 clear hL h hR hc hc'
 go_enter Tryz.func4, Tryz.ntmps4
 go_upto_region 1 with fail
 generalize (w.alloc (boxW (.slice (some ⟨b, o, none⟩) 3 c) W.tip (.slice (some ⟨b', o', none⟩) 3 c') W.t)) = w0 at *
 clear hA0
 go_wp2_with fail
 refine (tolled_any _ (HL.out.later B_0.out)).mono ?_
 rintro e w1 ⟨rfl, hb1⟩
 have Q_1 : Aside _ := heap_below Q_0.out hb1 (heap_lt Q_0.out)
 have V_1 : Aside _ := V_0.out.later hb1
 have B_1 : Aside _ := step_below1 B_0.out hb1
 clear hb1 Q_0 V_0 B_0
 have zQ := fun i => Joins.cell_of_block Q_1.out i
 have kc := k_check (HL.out.later B_1.out) (V_1.out.back HR.out HC.out.1 HC.out.2)
 rw [rw_iff.2 HR.out] at kc
 go_wp2_with fail
 refine (kc).mono ?_
 rintro e w2 ⟨rfl, hb2⟩
 have Q_2 : Aside _ := heap_below Q_1.out hb2 (heap_lt Q_1.out)
 have V_2 : Aside _ := V_1.out.later hb2
 have B_2 : Aside _ := step_below1 B_1.out hb2
 clear hb2 Q_1 V_1 B_1 kc zQ
 go_wp2_with fail
 refine (at_three k _).mono ?_
 rintro e wx ⟨m, hm, rfl, hwx⟩
 obtain rfl : w2 = wx := hwx.symm
 have zQ := fun i => Joins.cell_of_block Q_2.out i
 obtain ⟨x, _, hxn, _, hx⟩ := V_2.out.nodeAt (nd_at HR.out hm)
 have x4 := hx 4 _ rfl
 rw [hxn] at x4
 have hmi : (m : Int) < 3 := by omega
 have hm0 : (0 : Int) ≤ (m : Int) := by omega
 have HM : Hid (m < 3) := hm
 clear hx hxn hm
 cases hup : (W.nd m).up with
 | false =>
  rw [hup] at x4
  clear hup
  go_wp2
  go_ret
  exact ⟨rfl, B_2.out⟩
 | true =>
  rw [hup] at x4
  obtain ⟨X, hd1, hX, hxu, hd2⟩ := stands_facts HR.out (k := (m : Int)) (by omega) hup
  have HX : Hid (RW X) := hX
  have HXU : Hid ((X.nd m).up = false) := hxu
  have kd := k_do (HL.out.later B_2.out) (V_2.out.back HR.out HC.out.1 HC.out.2) (hp 12 0 m)
  rw [doOf_ok HR.out hd1] at kd
  have kd2 := fun (W' : World) un uc (hL : Laid W') (hv : WV W' un uc X) => k_do hL hv (hp 13 0 m)
  rw [doOf_ok hX hd2] at kd2
  clear hd1 hX hxu hd2 hup
  go_wp2_with fail
  refine (kd).mono ?_
  rintro e w3 ⟨un, uc, rfl, hv, hb3⟩
  have Q_3 : Aside _ := heap_below Q_2.out hb3 (heap_lt Q_2.out)
  have V_3 : Aside _ := V_2.out.later hb3
  have B_3 : Aside _ := step_below1 B_2.out hb3
  clear hb3 Q_2 V_2 B_2 kd x4 zQ
  obtain ⟨g, r, q, g', r', q', ys, ds, rfl, rfl, hq, hq', hF⟩ := hv.form HX.out
  have HQ : Hid (3 ≤ q ∧ 3 ≤ q') := ⟨hq, hq'⟩
  clear hv hq hq'
  have F_3 : Aside (WF w3 g r g' r' ys ds X) := hF
  clear hF
  go_upto_region 7 with fail
  have hb4 : Below w3.heap.size w3 (w3.alloc (boxW (.slice (some ⟨g, r, none⟩) 3 q) X.tip (.slice (some ⟨g', r', none⟩) 3 q') X.t)) := grew (Below.refl _ _) _
  have Y_4 : Aside ((w3.alloc (boxW (.slice (some ⟨g, r, none⟩) 3 q) X.tip (.slice (some ⟨g', r', none⟩) 3 q') X.t)).heap[w3.heap.size]? = some (boxW (.slice (some ⟨g, r, none⟩) 3 q) X.tip (.slice (some ⟨g', r', none⟩) 3 q') X.t)) := heap_new _ _
  have Q_4 : Aside _ := heap_below Q_3.out hb4 (heap_lt Q_3.out)
  have V_4 : Aside _ := V_3.out.later hb4
  have F_4 : Aside _ := F_3.out.later hb4
  have B_4 : Aside _ := step_below1 B_3.out hb4
  clear hb4 Q_3 V_3 F_3 B_3
  generalize w3.alloc (boxW (.slice (some ⟨g, r, none⟩) 3 q) X.tip (.slice (some ⟨g', r', none⟩) 3 q') X.t) = w4 at *
  generalize w3.heap.size = bY at *
  have zY := fun i => Joins.cell_of_block Y_4.out i
  obtain ⟨x, _, hxn, _, hx⟩ := F_4.out.nodeAt (nd_at HX.out HM.out)
  have x4 := hx 4 _ rfl
  rw [hxn, HXU.out] at x4
  have kd := kd2 _ _ _ (HL.out.later B_4.out) (F_4.out.back HX.out HQ.out.1 HQ.out.2)
  clear kd2 hx hxn
  go_wp2_with fail
  refine (kd).mono ?_
  rintro e w5 ⟨un, uc, rfl, hv, hb5⟩
  have Q_5 : Aside _ := heap_below Q_4.out hb5 (heap_lt Q_4.out)
  have V_5 : Aside _ := V_4.out.later hb5
  have F_5 : Aside _ := F_4.out.later hb5
  have Y_5 : Aside _ := heap_below Y_4.out hb5 (heap_lt Y_4.out)
  have B_5 : Aside _ := step_below1 B_4.out hb5
  clear hb5 Q_4 V_4 F_4 Y_4 B_4 kd x4 zY
  obtain ⟨p, s, t, p', s', t', zs, es, rfl, rfl, ht, ht', hF⟩ := hv.form HR.out
  have HT : Hid (3 ≤ t ∧ 3 ≤ t') := ⟨ht, ht'⟩
  clear hv ht ht'
  have G_5 : Aside (WF w5 p s p' s' zs es W) := hF
  clear hF
  go_upto_region 10 with fail
  have hb6 : Below w5.heap.size w5 (w5.alloc (boxW (.slice (some ⟨p, s, none⟩) 3 t) W.tip (.slice (some ⟨p', s', none⟩) 3 t') W.t)) := grew (Below.refl _ _) _
  have Z_6 : Aside ((w5.alloc (boxW (.slice (some ⟨p, s, none⟩) 3 t) W.tip (.slice (some ⟨p', s', none⟩) 3 t') W.t)).heap[w5.heap.size]? = some (boxW (.slice (some ⟨p, s, none⟩) 3 t) W.tip (.slice (some ⟨p', s', none⟩) 3 t') W.t)) := heap_new _ _
  have Q_6 : Aside _ := heap_below Q_5.out hb6 (heap_lt Q_5.out)
  have V_6 : Aside _ := V_5.out.later hb6
  have F_6 : Aside _ := F_5.out.later hb6
  have Y_6 : Aside _ := heap_below Y_5.out hb6 (heap_lt Y_5.out)
  have G_6 : Aside _ := G_5.out.later hb6
  have B_6 : Aside _ := step_below1 B_5.out hb6
  clear hb6 Q_5 V_5 F_5 Y_5 G_5 B_5
  generalize w5.alloc (boxW (.slice (some ⟨p, s, none⟩) 3 t) W.tip (.slice (some ⟨p', s', none⟩) 3 t') W.t) = w6 at *
  generalize w5.heap.size = bZ at *
  have zZ := fun i => Joins.cell_of_block Z_6.out i
  have zQ := fun i => Joins.cell_of_block Q_6.out i
  have ks := k_same (G_6.out.back HR.out HT.out.1 HT.out.2) (V_6.out.back HR.out HC.out.1 HC.out.2)
  rw [decide_eq_true (rfl : W = W)] at ks
  go_wp2_with fail
  refine (ks).mono ?_
  rintro e w7 ⟨rfl, hb7⟩
  have Q_7 : Aside _ := heap_below Q_6.out hb7 (heap_lt Q_6.out)
  have V_7 : Aside _ := V_6.out.later hb7
  have F_7 : Aside _ := F_6.out.later hb7
  have Y_7 : Aside _ := heap_below Y_6.out hb7 (heap_lt Y_6.out)
  have G_7 : Aside _ := G_6.out.later hb7
  have Z_7 : Aside _ := heap_below Z_6.out hb7 (heap_lt Z_6.out)
  have B_7 : Aside _ := step_below1 B_6.out hb7
  clear hb7 Q_6 V_6 F_6 Y_6 G_6 Z_6 B_6 ks zZ zQ
  go_wp2
  go_ret
  exact ⟨rfl, B_7.out⟩
theorem stands_at (vn vc : Value) (W : Wd) (k : Int) (w : World) (hL : Laid w) (h : WV w vn vc W) :
  Calls Tryz.prog 4 #[wval vn W.tip vc W.t, .int .i64 k] w fun e w' => e = .returned (.bool true) ∧ Below w.heap.size w w' := by
 by_cases hz : W.ck = 0
 · obtain ⟨b, o, c, b', o', c', xs, cs, rfl, rfl, hc, hc', hF⟩ := h.form (rw_iff.1 hz)
  exact stands_right b o c b' o' c' xs cs W k w hL hF (rw_iff.1 hz) hc hc'
 · exact stands_wrong vn vc W k w hL h hz
end
theorem worldStands_contract (σ : ChangeSpec) (hσ : σ.vars = []) (hfn : ∀ (H : Type) (d0 d1 : DataW H), σ.fn H [d0, d1] = { results := [.lit (.bool true)], args := [d0, d1] })
  (H : Type) (enc : TypeId × Value → H) (W : World) (base : Nat) (args : Array Value) (ds gs : List (DataW H)) (before : List MemPlace)
  (hval : ∀ (j : Nat) t v, Tryz.f4.params[j]? = some t → args[j]? = some v → Value.okWide Tryz.prog W .any base t v)
  (hW : DataW.Whole enc Tryz.prog Tryz.f4.params.toList σ.vars false W args.toList ds gs before) (hL : Laid W) (VT : List TypeId) (hZ : (DataW.weightsEach Tryz.prog (Tryz.f4.params.toList ++ VT) (ds ++ gs)).all (· ≤ reachBytes) = true) :
  Calls Tryz.prog 4 args W fun e W' => ∃ v, e = .returned v ∧ σ.post enc Tryz.prog Tryz.f4 false true false false W args v W' := by
 have hW' := hW
 rw [hσ] at hW
 obtain ⟨p, q, hA0, hV, rfl, hfz, hnd⟩ := hW
 have hA : DataW.TrodAll enc Tryz.prog W 0 (fun _ => true) true Tryz.f4.params.toList args.toList ds p := hA0
 rw [Tryz.params4] at hA hval hZ
 have hlt := DataW.TrodAll.lt hA
 obtain ⟨v0, v1, d0, d1, p0, p1, rfl, rfl, rfl, h0, h1⟩ := trodAll_two hA
 obtain ⟨rfl, rfl⟩ := trodVars_none hV
 obtain ⟨vn, vc, tip, t, xs, cs, rfl, ga, gb⟩ := openWd (hval 0 25 v0 rfl rfl) h0 (fun n hn => of_decide_eq_true (List.all_eq_true.1 hZ n (DataW.weights_mem_each (j := 0) rfl rfl n hn)))
 obtain ⟨k, rfl⟩ := openI (hval 1 3 v1 rfl rfl) h1
 have hf : σ.fn H ([d0, d1] ++ []) = _ := hfn H d0 d1
 clear hA0
 refine (stands_at vn vc (wdOf xs tip cs t) k W hL ⟨xs, cs, ga, gb, rfl, rfl⟩).mono fun e W' ⟨he, hb⟩ => ?_
 subst he
 refine ⟨_, rfl, _, _, _, [], p0 ++ p1, [], hW', ?_, ?_, ?_, hb.frame _, fun h => by cases h⟩
 · rw [hf]
  exact trodAll_mk1 (shut_bool Tryz.underlying4 _)
 · rw [hf]
  exact trodAll_mk2 (Below.trod laidOut (by kernel_rfl) (of_decide_eq_true (by kernel_rfl)) h0 hb (fun x hx => hlt x (by simp [hx]))) (Below.trod laidOut (by kernel_rfl) (of_decide_eq_true (by kernel_rfl)) h1 hb (fun x hx => hlt x (by simp [hx])))
 · rw [hf, hσ]
  rfl
end Go.Proofs.YtmoaobfmopimlafGreatDoor
