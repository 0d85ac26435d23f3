/- For the law. -/
import Derived.Test.YtmoaobfmopimlafGreatDoorM28
set_option linter.unusedSimpArgs false
set_option linter.unusedVariables false
namespace Go.Proofs.YtmoaobfmopimlafGreatDoor
open Go.RowKit
theorem infoUn : (Tryz.prog.info? 44).map (fun i => (i.zero, i.size, i.bytes)) = some (some (Value.agg #[.int .i64 0, .slice none 0 0]), 2, 32) := by kernel_rfl
def Nb.ub (x : Nb) : Ub := ⟨x.n.u, x.vc⟩
abbrev ubsOf (xs : List Nb) : List Ub := xs.map Nb.ub
theorem ubs_units (xs : List Nb) : unitsOf (ubsOf xs) = (nodesOf xs).map Nd.u := by
 show (xs.map Nb.ub).map Ub.u = (xs.map Nb.n).map Nd.u
 rw [List.map_map, List.map_map]; rfl
def UnAt (wr : World) (g n k : Nat) (xs : List Nb) : Prop := ∃ C : List Value, wr.heap[g]? = some (.cells ((ubsOf (xs.take k)).flatMap Ub.cells ++ C).toArray 44) ∧ C.length = (n - k) * 2
theorem UnAt.later {wr w' : World} {g n k : Nat} {xs : List Nb} (h : UnAt wr g n k xs) (hb : Below wr.heap.size wr w') : UnAt w' g n k xs := by
 obtain ⟨C, h1, h2⟩ := h
 exact ⟨C, heap_below h1 hb (heap_lt h1), h2⟩
theorem UnAt.step {wr : World} {g n k : Nat} {xs : List Nb} (h : UnAt wr g n k xs) (hk : k < n) {x : Nb} (hx : xs[k]? = some x) :
  UnAt ((wr.setCell ⟨g, k * 2, none⟩ (.int .i64 x.n.u.p)).setCell ⟨g, k * 2 + 1, none⟩ x.vc) g n (k + 1) xs := by
 obtain ⟨C, h1, h2⟩ := h
 have hlt := (List.getElem?_eq_some_iff.1 hx).1
 match C, h2 with
 | [], h2 => simp at h2; omega
 | [c], h2 => simp at h2; omega
 | a :: b :: C', h2 =>
  have hA : ((ubsOf (xs.take k)).flatMap Ub.cells).length = k * 2 := by rw [row_len Ub.two]; simp; omega
  refine ⟨C', ?_, by simp at h2; omega⟩
  have e : xs.take (k + 1) = xs.take k ++ [x] := by rw [List.take_add_one, hx]; rfl
  have h3 := block_put (block_put h1 (k * 2 + 0) (.int .i64 x.n.u.p)) (k * 2 + 1) x.vc
  rw [show a :: b :: C' = [a, b] ++ C' from rfl, seg_set hA (by simp), seg_set hA (by simp)] at h3
  rw [e]
  simp only [ubsOf, List.map_append, List.flatMap_append, List.map_cons, List.map_nil, List.flatMap_cons, List.flatMap_nil, List.append_nil, List.append_assoc]
  exact h3
theorem UnAt.cells {wr : World} {g n k : Nat} {xs : List Nb} (h : UnAt wr g n k xs) (hk : k < n) (hn : xs.length = n) : (∃ v, wr.cell? ⟨g, k * 2, none⟩ = some v) ∧ (∃ v, wr.cell? ⟨g, k * 2 + 1, none⟩ = some v) ∧ ∀ i, wr.frozen? ⟨g, i, none⟩ = false := by
 obtain ⟨C, h1, h2⟩ := h
 have hA : ((ubsOf (xs.take k)).flatMap Ub.cells).length = k * 2 := by rw [row_len Ub.two]; simp; omega
 refine ⟨?_, ?_, fun i => Joins.unfrozen_of_block h1 i⟩
 ·rw [Joins.cell_of_block h1]
  simp only [List.getElem?_toArray]
  exact ⟨_, List.getElem?_eq_getElem (by rw [List.length_append, hA]; omega)⟩
 ·rw [Joins.cell_of_block h1]
  simp only [List.getElem?_toArray]
  exact ⟨_, List.getElem?_eq_getElem (by rw [List.length_append, hA]; omega)⟩
theorem UnAt.done {wr : World} {g n : Nat} {xs : List Nb} (h : UnAt wr g n n xs) (hn : xs.length = n) : SlOf Ub.cells 2 wr (.slice (some ⟨g, 0, none⟩) n n) (ubsOf xs) := by
 obtain ⟨C, h1, h2⟩ := h
 have hC : C = [] := List.eq_nil_of_length_eq_zero (by simpa using h2)
 rw [hC, List.append_nil, List.take_of_length_le (by omega)] at h1
 have := slOf_lit (xs := ubsOf xs) (c := n) Ub.two h1 rfl
 rwa [List.length_map, hn] at this
set_option maxHeartbeats 4000000 in
set_option maxRecDepth 100000 in
theorem w_units (v : Value) (xs : List Nb) (w : World) (hv : SlOf Nb.cells 5 w v xs) (hn : xs.length ≤ 1000000) (hu : ∀ x, x ∈ xs → NodeT w x) :
  Calls Tryz.prog 106 #[v] w fun e w' => ∃ u, e = .returned u ∧ ChAt w' u (ubsOf xs) ∧ Below w.heap.size w w' := by
 obtain ⟨i0, hi, hz0, hz1, hz2⟩ := info_parts infoUn
 have H1 : Aside (SlOf Nb.cells 5 w v xs) := hv
 have HU : Aside (∀ x, x ∈ xs → NodeT w x) := hu
 obtain ⟨a1, c1, rfl, _⟩ := hv
 obtain ⟨n, hn1⟩ : ∃ n, xs.length = n := ⟨_, rfl⟩
 have HL : Aside (xs.length = n) := hn1
 rw [hn1] at H1 hn ⊢
 clear hn1 hu
 go_enter Tryz.func106, Tryz.ntmps106
 go_wp2_with (at_make; refine wpList_make_full _ rfl _ _ 100 rfl w.heap.size 44 i0 (.agg #[.int .i64 0, .slice none 0 0]) 2 Tryz.underlying100 hi hz0 hz1 _ _ _ _ n rfl rfl rfl rfl (by rw [hz2]; omega) (by unfold maxLen; omega) (Nat.le_refl _) ?_)
 intro w1 hown hgrow
 obtain ⟨hl0, ho⟩ := hown
 rcases ho with ⟨h, _⟩ | ⟨g, cap, cur, hv', _, hg, _, _, hsz, htake⟩
 ·cases h
 injection hv' with ha _ hc
 injection ha with ha
 injection ha with ha _ _
 subst ha hc
 have HB1 : Aside (Below w.heap.size w w1) := ⟨hgrow.os, hgrow.tape, hgrow.output, hgrow.size, fun k hk => hgrow.block k hk (fun h => by cases h)⟩
 have HS1 : Aside (UnAt w1 w.heap.size n 0 xs) := ⟨cur.toList, by simpa using hg, by simpa using hsz⟩
 clear hi hz0 hz1 hz2 hl0 htake hgrow hg hsz
 go_wp2
 go_loopw [11] (fun i wr => ∃ k : Nat, k ≤ n ∧ i = .int .i64 k ∧ Below w.heap.size w wr ∧ UnAt wr w.heap.size n k xs) (fun i _ => n - (intOf i).toNat)
 case atStart => exact ⟨0, Nat.zero_le _, rfl, HB1.out, HS1.out⟩
 case round =>
  clear HB1 HS1
  obtain ⟨k, hk, rfl, hB, hU⟩ := hrel
  by_cases hlt : k < n
  ·obtain ⟨x, hx⟩ : ∃ x, xs[k]? = some x := ⟨xs[k]'(by have := HL.out; omega), List.getElem?_eq_getElem _⟩
   obtain ⟨b, off, rfl, hE0⟩ := SlOf.at (cs := Nb.cells) (k := 5) H1.out (by omega)
   have hE := RowAt.later hE0 hB
   have hxt := HU.out x (List.mem_of_getElem? hx)
   obtain ⟨⟨u, s, t, up⟩, vc, vs, vw⟩ := x
   obtain ⟨a4, m4, k4, rfl⟩ := roomy_sl hxt.unit.room
   obtain ⟨a5, m5, k5, rfl⟩ := roomy_sl hxt.disk.room1
   obtain ⟨a6, m6, k6, rfl⟩ := roomy_sl hxt.disk.room2
   have y0 : wr.cell? ⟨b, off + k * 5, none⟩ = some (.int .i64 u.p) := hE k _ hx 0 _ rfl
   have y1 : wr.cell? ⟨b, off + k * 5 + 1, none⟩ = some (.slice a4 m4 k4) := hE k _ hx 1 _ rfl
   have y2 : wr.cell? ⟨b, off + k * 5 + 2, none⟩ = some (.slice a5 m5 k5) := hE k _ hx 2 _ rfl
   have y3 : wr.cell? ⟨b, off + k * 5 + 3, none⟩ = some (.slice a6 m6 k6) := hE k _ hx 3 _ rfl
   have y4 : wr.cell? ⟨b, off + k * 5 + 4, none⟩ = some (.bool up) := hE k _ hx 4 _ rfl
   have HB2 : Aside (Below w.heap.size w (wr.alloc (boxNb ⟨⟨u, s, t, up⟩, .slice a4 m4 k4, .slice a5 m5 k5, .slice a6 m6 k6⟩))) := grew hB _
   have HU2 : Aside (UnAt (wr.alloc (boxNb ⟨⟨u, s, t, up⟩, .slice a4 m4 k4, .slice a5 m5 k5, .slice a6 m6 k6⟩)) w.heap.size n k xs) := hU.later (grew (Below.refl _ _) _)
   have HXB : Aside ((wr.alloc (boxNb ⟨⟨u, s, t, up⟩, .slice a4 m4 k4, .slice a5 m5 k5, .slice a6 m6 k6⟩)).heap[wr.heap.size]? = some (boxNb ⟨⟨u, s, t, up⟩, .slice a4 m4 k4, .slice a5 m5 k5, .slice a6 m6 k6⟩)) := heap_new _ _
   have HX : Aside (xs[k]? = some ⟨⟨u, s, t, up⟩, .slice a4 m4 k4, .slice a5 m5 k5, .slice a6 m6 k6⟩) := hx
   clear hE hE0 hxt hx hB hU
   go_upto_region 5 with fail
   generalize wr.alloc (boxNb ⟨⟨u, s, t, up⟩, .slice a4 m4 k4, .slice a5 m5 k5, .slice a6 m6 k6⟩) = W at *
   generalize wr.heap.size = d at *
   have z := cb HXB
   obtain ⟨⟨o1, r1⟩, ⟨o2, r2⟩, fz⟩ := HU2.out.cells hlt HL.out
   have HB3 : Aside (Below w.heap.size w ((W.setCell ⟨w.heap.size, k * 2, none⟩ (.int .i64 u.p)).setCell ⟨w.heap.size, k * 2 + 1, none⟩ (.slice a4 m4 k4))) := (HB2.out.setCell (p := ⟨w.heap.size, k * 2, none⟩) (Nat.le_refl _) _).setCell (p := ⟨w.heap.size, k * 2 + 1, none⟩) (Nat.le_refl _) _
   have HU3 : Aside (UnAt ((W.setCell ⟨w.heap.size, k * 2, none⟩ (.int .i64 u.p)).setCell ⟨w.heap.size, k * 2 + 1, none⟩ (.slice a4 m4 k4)) w.heap.size n (k + 1) xs) := by
    have := HU2.out.step hlt HX.out
    exact this
   clear y0 y1 y2 y3 y4 HB2 HU2 HX HXB
   go_wp2
   go_roundw
   case rel => exact ⟨k + 1, by omega, by go_num, HB3.out, HU3.out⟩
   case measure => simp [intOf]; omega
  ·obtain rfl : k = n := by omega
   have HB2 : Aside (Below w.heap.size w wr) := hB
   have HU2 : Aside (UnAt wr w.heap.size k k xs) := hU
   clear hB hU
   go_wp2
   go_ret
   refine ⟨_, rfl, ⟨HU2.out.done HL.out, fun y hy => ?_, ⟨_, _, _, rfl, Nat.le_refl _⟩⟩, HB2.out⟩
   obtain ⟨x, hx, rfl⟩ := List.mem_map.1 hy
   exact (HU.out x hx).unit.later HB2.out
section
open scoped Classical
set_option maxHeartbeats 4000000 in
set_option maxRecDepth 100000 in
theorem wfollows_any (au aa : Option Addr) (cu ca : Nat) (p q : Int) (us ah : List En) (w : World) (hu : EntSl w (.slice au 60 cu) us) (ha : EntSl w (.slice aa 60 ca) ah) (lu : us.length = 60) (la : ah.length = 60) :
  Calls Tryz.prog 81 #[.agg #[.int .i64 p, .slice au 60 cu], .agg #[.int .i64 q, .slice aa 60 ca]] w fun e w' => e = .returned (.bool (decide (Within us ah))) ∧ Below w.heap.size w w' := by
 obtain ⟨bu, ou, rfl, hEu⟩ := SlOf.at (cs := En.cells) (k := 5) hu (by omega)
 obtain ⟨bv, ov, rfl, hEv⟩ := SlOf.at (cs := En.cells) (k := 5) ha (by omega)
 have HEu : Aside (RowAt En.cells 5 w bu ou us) := hEu
 have HEv : Aside (RowAt En.cells 5 w bv ov ah) := hEv
 have HL : Hid (us.length = 60 ∧ ah.length = 60) := ⟨lu, la⟩
 have HB0 : Aside (Below w.heap.size w ((w.alloc (boxU p (.slice (some ⟨bu, ou, none⟩) 60 cu))).alloc (boxU q (.slice (some ⟨bv, ov, none⟩) 60 ca)))) := grew (grew (Below.refl _ _) _) _
 have HX0 : Aside (((w.alloc (boxU p (.slice (some ⟨bu, ou, none⟩) 60 cu))).alloc (boxU q (.slice (some ⟨bv, ov, none⟩) 60 ca))).heap[w.heap.size + 1]? = some (boxU q (.slice (some ⟨bv, ov, none⟩) 60 ca))) := by
  have := heap_new (w.alloc (boxU p (.slice (some ⟨bu, ou, none⟩) 60 cu))) (boxU q (.slice (some ⟨bv, ov, none⟩) 60 ca))
  rwa [World.size_alloc] at this
 obtain ⟨bb, HBB⟩ : ∃ bb, Hid (decide (Within us ah) = bb) := ⟨_, rfl⟩
 rw [HBB.out]
 clear hu ha lu la hEu hEv
 go_enter Tryz.func81, Tryz.ntmps81
 go_wp2
 go_loopw [10] (fun i wr => ∃ k : Nat, k ≤ 60 ∧ i = .int .i64 k ∧ Below w.heap.size w wr ∧ wr.heap[w.heap.size + 1]? = some (boxU q (.slice (some ⟨bv, ov, none⟩) 60 ca)) ∧ Hid (∀ (j : Nat) (c : En), j < k → us[j]? = some c → c.isB = true ∨ ah[j]? = some c)) (fun i _ => 60 - (intOf i).toNat)
 case atStart => exact ⟨0, Nat.zero_le _, rfl, HB0.out, HX0.out, fun j c hj => absurd hj (Nat.not_lt_zero j)⟩
 case round =>
  clear HB0 HX0
  obtain ⟨k, hk, rfl, hB, hX, hst⟩ := hrel
  by_cases hlt : k < 60
  ·obtain ⟨x, hx⟩ : ∃ x, us[k]? = some x := ⟨us[k]'(by have := HL.out.1; omega), List.getElem?_eq_getElem _⟩
   obtain ⟨y, hy⟩ : ∃ y, ah[k]? = some y := ⟨ah[k]'(by have := HL.out.2; omega), List.getElem?_eq_getElem _⟩
   have hE := RowAt.later HEu.out hB
   have c0 : wr.cell? ⟨bu, ou + k * 5, none⟩ = some (.int .i64 x.k) := hE k x hx 0 _ rfl
   have c1 : wr.cell? ⟨bu, ou + k * 5 + 1, none⟩ = some (.int .i64 x.j) := hE k x hx 1 _ rfl
   have c2 : wr.cell? ⟨bu, ou + k * 5 + 2, none⟩ = some (.int .i64 x.v) := hE k x hx 2 _ rfl
   have c3 : wr.cell? ⟨bu, ou + k * 5 + 3, none⟩ = some (.int .i64 x.t) := hE k x hx 3 _ rfl
   have c4 : wr.cell? ⟨bu, ou + k * 5 + 4, none⟩ = some (.int .i64 x.c) := hE k x hx 4 _ rfl
   have hB1 := grew hB (boxE x.k x.j x.v x.t x.c)
   have hF := RowAt.later HEv.out hB1
   have hX1 := heap_old hX (boxE x.k x.j x.v x.t x.c)
   have hS1 : WiS (wr.alloc (boxE x.k x.j x.v x.t x.c)) (wr.alloc (boxE x.k x.j x.v x.t x.c)) wr.heap.size (w.heap.size + 1) (.slice (some ⟨bv, ov, none⟩) 60 ca) bv ov k x y := ⟨beS_of (heap_new _ _), Joins.cell_of_block hX1 1, hF k y hy 0 _ rfl, hF k y hy 1 _ rfl, hF k y hy 2 _ rfl, hF k y hy 3 _ rfl, hF k y hy 4 _ rfl⟩
   have hn1 : ∀ W, (binOp .neq 27 (ev x.k x.j x.v x.t x.c) (ev 4 0 0 0 0)).run Tryz.prog W = .ok (.bool (!x.isB)) W := fun W => by
    rw [neq_entry x.k x.j x.v x.t x.c 4 0 0 0 0 W, En.isB, Bool.not_not]
   have hn2 := fun W => neq_entry x.k x.j x.v x.t x.c y.k y.j y.v y.t y.c W
   have HST : Hid (us[k]? = some x ∧ ah[k]? = some y ∧ ∀ (j : Nat) (c : En), j < k → us[j]? = some c → c.isB = true ∨ ah[j]? = some c) := ⟨hx, hy, hst.out⟩
   have nxt : Hid (x.isB = true ∨ ah[k]? = some x → ∀ (j : Nat) (c : En), j < k + 1 → us[j]? = some c → c.isB = true ∨ ah[j]? = some c) := fun h j c hj hc => by
    by_cases hjk : j < k
    ·exact HST.out.2.2 j c hjk hc
    ·obtain rfl : j = k := by omega
     obtain rfl := Option.some.inj (hc.symm.trans HST.out.1)
     exact h
   have HB1 : Aside _ := hB1
   have HX1 : Aside _ := hX1
   have hki : (k : Int) < 60 := by omega
   have hk0 : (0 : Int) ≤ (k : Int) := by omega
   clear hE hF hst hx hy hB hX hB1 hX1
   go_upto_region 4 with fail
   generalize wr.alloc (boxE x.k x.j x.v x.t x.c) = Z at *
   generalize wr.heap.size = cb at *
   clear c0 c1 c2 c3 c4
   cases hib : x.isB with
   | true =>
    rw [hib, Bool.not_true] at hn1
    have hN := nxt.out (Or.inl hib)
    have HN : Hid _ := hN
    have hS0 : BeS Z Z cb x := hS1.1
    obtain ⟨e0, e1, e2, e3, e4⟩ : Z.cell? ⟨cb, 0, none⟩ = some (.int .i64 x.k) ∧ Z.cell? ⟨cb, 1, none⟩ = some (.int .i64 x.j) ∧ Z.cell? ⟨cb, 2, none⟩ = some (.int .i64 x.v) ∧ Z.cell? ⟨cb, 3, none⟩ = some (.int .i64 x.t) ∧ Z.cell? ⟨cb, 4, none⟩ = some (.int .i64 x.c) := hS0.2
    clear nxt hib hN hS1 hn2 hS0
    go_quiet (fail)
    go_wp2
    go_roundw
    case rel => exact ⟨k + 1, by omega, by go_num, below_drewN HB1.out _, heap_below HX1.out (below_drewN (Below.refl _ _) _) (heap_lt HX1.out), HN⟩
    case measure => simp [intOf]; omega
   | false =>
    rw [hib, Bool.not_false] at hn1
    obtain ⟨⟨-, e0, e1, e2, e3, e4⟩, q0, q1, q2, q3, q4, q5⟩ := hS1
    by_cases hxy : x = y
    ·rw [show unlike x.k x.j x.v x.t x.c y.k y.j y.v y.t y.c = false by rw [hxy]; simp [unlike]] at hn2
     have HN : Hid _ := nxt.out (Or.inr (by rw [HST.out.2.1, hxy]))
     clear nxt hib hxy
     go_quiet (fail)
     go_wp2
     go_roundw
     case rel => exact ⟨k + 1, by omega, by go_num, below_drewN HB1.out _, heap_below HX1.out (below_drewN (Below.refl _ _) _) (heap_lt HX1.out), HN⟩
     case measure => simp [intOf]; omega
    ·rw [show unlike x.k x.j x.v x.t x.c y.k y.j y.v y.t y.c = true by rw [← Bool.not_eq_false]; exact fun h => hxy (en_eq h)] at hn2
     have HR : Hid (bb = false) := by
      rw [Hid, ← HBB.out, decide_eq_false]
      intro hw
      rcases hw k x HST.out.1 with h | h
      ·rw [hib] at h; cases h
      ·exact hxy (Option.some.inj (h.symm.trans HST.out.2.1))
     clear nxt hib hxy HBB
     go_quiet (fail)
     go_wp2
     go_ret
     exact ⟨by rw [HR.out]; rfl, below_drewN HB1.out _⟩
  ·have HR : Hid (bb = true) := by
    rw [Hid, ← HBB.out, decide_eq_true]
    exact fun j c hc => hst.out j c (by have := (List.getElem?_eq_some_iff.1 hc).1; have := HL.out.1; omega) hc
   obtain rfl : k = 60 := by omega
   clear hst HBB
   go_wp2
   go_ret
   exact ⟨by rw [HR.out]; rfl, hB⟩
end
end Go.Proofs.YtmoaobfmopimlafGreatDoor
