/- For the law. -/
import Derived.Test.YtmoaobfmopimlafGreatDoorM50
set_option linter.unusedSimpArgs false
set_option linter.unusedVariables false
namespace Go.Proofs.YtmoaobfmopimlafGreatDoor
open Go.RowKit
section
open scoped Classical
theorem stands_any (x : En) (w : World) :
  Calls Tryz.prog 133 #[ev x.k x.j x.v x.t x.c] w fun e w' => e = .returned (.bool (!x.isB)) ∧ Below w.heap.size w w' := by
 have hn : ∀ W, (binOp .neq 27 (ev x.k x.j x.v x.t x.c) (ev 4 0 0 0 0)).run Tryz.prog W = .ok (.bool (!x.isB)) W := fun W => by
  rw [neq_entry x.k x.j x.v x.t x.c 4 0 0 0 0 W, En.isB, Bool.not_not]
 generalize x.isB = ib at *
 have HB : Aside (Below w.heap.size w (w.alloc (boxE x.k x.j x.v x.t x.c))) := grew (Below.refl _ _) _
 go_enter Tryz.func133, Tryz.ntmps133
 go_wp2
 go_ret
 exact ⟨rfl, HB.out⟩
theorem isPlace_any (a : Int) (w : World) :
  Calls Tryz.prog 170 #[.int .i64 a] w fun e w' => e = .returned (.bool (decide (0 ≤ a ∧ a ≤ 59))) ∧ w' = w := by
 have hc : ¬ 0 ≤ a ∨ (0 ≤ a ∧ ¬ a < 60) ∨ (0 ≤ a ∧ a < 60) := by omega
 rcases hc with h | ⟨h, h'⟩ | ⟨h, h'⟩
 ·rw [decide_eq_false (by omega)]
  go_enter Tryz.func170, Tryz.ntmps170
  go_wp2
  go_ret
  exact ⟨rfl, rfl⟩
 ·rw [decide_eq_false (by omega)]
  go_enter Tryz.func170, Tryz.ntmps170
  go_wp2
  go_ret
  exact ⟨rfl, rfl⟩
 ·rw [decide_eq_true (by omega)]
  go_enter Tryz.func170, Tryz.ntmps170
  go_wp2
  go_ret
  exact ⟨rfl, rfl⟩
set_option maxHeartbeats 4000000 in
set_option maxRecDepth 100000 in
theorem follows_any (au aa : Option Addr) (cu ca : Nat) (p q : Int) (us ah : List En) (w : World) (hu : EntSl w (.slice au 60 cu) us) (ha : EntSl w (.slice aa 60 ca) ah) (lu : us.length = 60) (la : ah.length = 60) :
  Calls Tryz.prog 199 #[.agg #[.int .i64 p, .slice au 60 cu], .agg #[.int .i64 q, .slice aa 60 ca]] w fun e w' => e = .returned (.bool (decide (Within us ah))) ∧ Below w.heap.size w w' := by
 obtain ⟨bu, ou, rfl, hEu⟩ := SlOf.at (cs := En.cells) (k := 5) hu (by omega)
 obtain ⟨bv, ov, rfl, hEv⟩ := SlOf.at (cs := En.cells) (k := 5) ha (by omega)
 have HEu : Aside (RowAt En.cells 5 w bu ou us) := hEu
 have HEv : Aside (RowAt En.cells 5 w bv ov ah) := hEv
 have HL : Hid (us.length = 60 ∧ ah.length = 60) := ⟨lu, la⟩
 have HB0 : Aside (Below w.heap.size w ((w.alloc (boxU p (.slice (some ⟨bu, ou, none⟩) 60 cu))).alloc (boxU q (.slice (some ⟨bv, ov, none⟩) 60 ca)))) := grew (grew (Below.refl _ _) _) _
 have HX0 : Aside (((w.alloc (boxU p (.slice (some ⟨bu, ou, none⟩) 60 cu))).alloc (boxU q (.slice (some ⟨bv, ov, none⟩) 60 ca))).heap[w.heap.size + 1]? = some (boxU q (.slice (some ⟨bv, ov, none⟩) 60 ca))) := by
  have := heap_new (w.alloc (boxU p (.slice (some ⟨bu, ou, none⟩) 60 cu))) (boxU q (.slice (some ⟨bv, ov, none⟩) 60 ca))
  rwa [World.size_alloc] at this
 obtain ⟨bb, HBB⟩ : ∃ bb, Hid (decide (Within us ah) = bb) := ⟨_, rfl⟩
 rw [HBB.out]
 clear hu ha lu la hEu hEv
 go_enter Tryz.func199, Tryz.ntmps199
 go_wp2
 go_loopw [10] (fun i wr => ∃ k : Nat, k ≤ 60 ∧ i = .int .i64 k ∧ Below w.heap.size w wr ∧ wr.heap[w.heap.size + 1]? = some (boxU q (.slice (some ⟨bv, ov, none⟩) 60 ca)) ∧ Hid (∀ (j : Nat) (c : En), j < k → us[j]? = some c → c.isB = true ∨ ah[j]? = some c)) (fun i _ => 60 - (intOf i).toNat)
 case atStart => exact ⟨0, Nat.zero_le _, rfl, HB0.out, HX0.out, fun j c hj => absurd hj (Nat.not_lt_zero j)⟩
 case round =>
  clear HB0 HX0
  obtain ⟨k, hk, rfl, hB, hX, hst⟩ := hrel
  by_cases hlt : k < 60
  ·obtain ⟨x, hx⟩ : ∃ x, us[k]? = some x := ⟨us[k]'(by have := HL.out.1; omega), List.getElem?_eq_getElem _⟩
   obtain ⟨y, hy⟩ : ∃ y, ah[k]? = some y := ⟨ah[k]'(by have := HL.out.2; omega), List.getElem?_eq_getElem _⟩
   have hE := RowAt.later HEu.out hB
   have c0 : wr.cell? ⟨bu, ou + k * 5, none⟩ = some (.int .i64 x.k) := hE k x hx 0 _ rfl
   have c1 : wr.cell? ⟨bu, ou + k * 5 + 1, none⟩ = some (.int .i64 x.j) := hE k x hx 1 _ rfl
   have c2 : wr.cell? ⟨bu, ou + k * 5 + 2, none⟩ = some (.int .i64 x.v) := hE k x hx 2 _ rfl
   have c3 : wr.cell? ⟨bu, ou + k * 5 + 3, none⟩ = some (.int .i64 x.t) := hE k x hx 3 _ rfl
   have c4 : wr.cell? ⟨bu, ou + k * 5 + 4, none⟩ = some (.int .i64 x.c) := hE k x hx 4 _ rfl
   have hB1 := grew hB (boxE x.k x.j x.v x.t x.c)
   have hF := RowAt.later HEv.out hB1
   have hX1 := heap_old hX (boxE x.k x.j x.v x.t x.c)
   have hS1 : WiS (wr.alloc (boxE x.k x.j x.v x.t x.c)) (wr.alloc (boxE x.k x.j x.v x.t x.c)) wr.heap.size (w.heap.size + 1) (.slice (some ⟨bv, ov, none⟩) 60 ca) bv ov k x y := ⟨beS_of (heap_new _ _), Joins.cell_of_block hX1 1, hF k y hy 0 _ rfl, hF k y hy 1 _ rfl, hF k y hy 2 _ rfl, hF k y hy 3 _ rfl, hF k y hy 4 _ rfl⟩
   have kst := fun W => stands_any x W
   have hn2 := fun W => neq_entry x.k x.j x.v x.t x.c y.k y.j y.v y.t y.c W
   have HST : Hid (us[k]? = some x ∧ ah[k]? = some y ∧ ∀ (j : Nat) (c : En), j < k → us[j]? = some c → c.isB = true ∨ ah[j]? = some c) := ⟨hx, hy, hst.out⟩
   have nxt : Hid (x.isB = true ∨ ah[k]? = some x → ∀ (j : Nat) (c : En), j < k + 1 → us[j]? = some c → c.isB = true ∨ ah[j]? = some c) := fun h j c hj hc => by
    by_cases hjk : j < k
    ·exact HST.out.2.2 j c hjk hc
    ·obtain rfl : j = k := by omega
     obtain rfl := Option.some.inj (hc.symm.trans HST.out.1)
     exact h
   have HB1 : Aside _ := hB1
   have HX1 : Aside _ := hX1
   have hki : (k : Int) < 60 := by omega
   have hk0 : (0 : Int) ≤ (k : Int) := by omega
   clear hE hF hst hx hy hB hX hB1 hX1
   go_upto_region 4 with fail
   generalize wr.alloc (boxE x.k x.j x.v x.t x.c) = Z at *
   generalize wr.heap.size = cb at *
   have hbd : Below Z.heap.size Z Z.drew := (Below.refl _ _).drew
   clear c0 c1 c2 c3 c4
   cases hib : x.isB with
   | true =>
    rw [hib, Bool.not_true] at kst
    have hN := nxt.out (Or.inl hib)
    have HN : Hid _ := hN
    have hS0 : BeS Z Z cb x := hS1.1
    clear nxt hib hN hS1 hn2
    refine wp_region_held_drew (S := fun w' => BeS Z w' cb x) (by kernel_rfl) (beS_step hS0 hbd) (fun hHeld => ?_)
    refine tk 0 (v := ?_) rfl (by kernel_rfl) (by rfl) (by assumption) (fun _ _ _ h => h) ?_ ?_
    rotate_left
    ·intro w0 hSw; (try dsimp only at hSw); go_simp; first | done | with_reducible rfl
    try simp only [Act.put, qa, qb, qc]
    refine rdy 1 (by kernel_rfl) rfl (fun K hK => ?_)
    go_simp
    refine (kst _).mono ?_
    rintro e y1 ⟨rfl, hb1⟩
    refine hK.out _ _ (beS_step hHeld hb1) (fun hHeld => ?_)
    clear hK K
    try simp only [Act.put, qa, qb, qc]
    refine tk 2 (v := ?_) rfl (by kernel_rfl) (by rfl) (by assumption) (fun _ _ _ h => h) ?_ ?_
    rotate_left
    ·intro w0 hSw; (try dsimp only at hSw); go_simp; first | done | with_reducible rfl
    try simp only [Act.put, qa, qb, qc]
    refine wpAnyH_take (i := 3) (oi := ?oi3) (v := undef) ?hi3 ?hs3 ?hf3 ?hr3 ?hQ3 (Or.inr ⟨?hw3, rfl⟩) (by assumption) ?h3
    case hi3 => (simp only [List.getElem?_toArray, List.getElem?_cons_succ, List.getElem?_cons_zero]; rfl)
    case hs3 => kernel_rfl
    case hf3 => kernel_rfl
    case hr3 => kernel_rfl
    case hw3 => rfl
    case hQ3 => exact fun _ _ _ h => h
    try simp only [Act.put, qa, qb, qc]
    refine wpAnyH_take (i := 4) (oi := ?oi4) (v := undef) ?hi4 ?hs4 ?hf4 ?hr4 ?hQ4 (Or.inr ⟨?hw4, rfl⟩) (by assumption) ?h4
    case hi4 => (simp only [List.getElem?_toArray, List.getElem?_cons_succ, List.getElem?_cons_zero]; rfl)
    case hs4 => kernel_rfl
    case hf4 => kernel_rfl
    case hr4 => kernel_rfl
    case hw4 => rfl
    case hQ4 => exact fun _ _ _ h => h
    try simp only [Act.put, qa, qb, qc]
    refine wpAnyH_take (i := 5) (oi := ?oi5) (v := undef) ?hi5 ?hs5 ?hf5 ?hr5 ?hQ5 (Or.inr ⟨?hw5, rfl⟩) (by assumption) ?h5
    case hi5 => (simp only [List.getElem?_toArray, List.getElem?_cons_succ, List.getElem?_cons_zero]; rfl)
    case hs5 => kernel_rfl
    case hf5 => kernel_rfl
    case hr5 => kernel_rfl
    case hw5 => rfl
    case hQ5 => exact fun _ _ _ h => h
    try simp only [Act.put, qa, qb, qc]
    refine wpAnyH_take (i := 6) (oi := ?oi6) (v := undef) ?hi6 ?hs6 ?hf6 ?hr6 ?hQ6 (Or.inr ⟨?hw6, rfl⟩) (by assumption) ?h6
    case hi6 => (simp only [List.getElem?_toArray, List.getElem?_cons_succ, List.getElem?_cons_zero]; rfl)
    case hs6 => kernel_rfl
    case hf6 => kernel_rfl
    case hr6 => kernel_rfl
    case hw6 => rfl
    case hQ6 => exact fun _ _ _ h => h
    try simp only [Act.put, qa, qb, qc]
    refine wpAnyH_take (i := 7) (oi := ?oi7) (v := undef) ?hi7 ?hs7 ?hf7 ?hr7 ?hQ7 (Or.inr ⟨?hw7, rfl⟩) (by assumption) ?h7
    case hi7 => (simp only [List.getElem?_toArray, List.getElem?_cons_succ, List.getElem?_cons_zero]; rfl)
    case hs7 => kernel_rfl
    case hf7 => kernel_rfl
    case hr7 => kernel_rfl
    case hw7 => rfl
    case hQ7 => exact fun _ _ _ h => h
    try simp only [Act.put, qa, qb, qc]
    refine wpAnyH_take (i := 8) (oi := ?oi8) (v := undef) ?hi8 ?hs8 ?hf8 ?hr8 ?hQ8 (Or.inr ⟨?hw8, rfl⟩) (by assumption) ?h8
    case hi8 => (simp only [List.getElem?_toArray, List.getElem?_cons_succ, List.getElem?_cons_zero]; rfl)
    case hs8 => kernel_rfl
    case hf8 => kernel_rfl
    case hr8 => kernel_rfl
    case hw8 => rfl
    case hQ8 => exact fun _ _ _ h => h
    try simp only [Act.put, qa, qb, qc]
    refine wpAnyH_take (i := 9) (oi := ?oi9) (v := undef) ?hi9 ?hs9 ?hf9 ?hr9 ?hQ9 (Or.inr ⟨?hw9, rfl⟩) (by assumption) ?h9
    case hi9 => (simp only [List.getElem?_toArray, List.getElem?_cons_succ, List.getElem?_cons_zero]; rfl)
    case hs9 => kernel_rfl
    case hf9 => kernel_rfl
    case hr9 => kernel_rfl
    case hw9 => rfl
    case hQ9 => exact fun _ _ _ h => h
    try simp only [Act.put, qa, qb, qc]
    refine tk 10 (v := ?_) rfl (by kernel_rfl) (by rfl) (by assumption) (fun _ _ _ h => h) ?_ ?_
    rotate_left
    ·intro w0 hSw; (try dsimp only at hSw); go_simp; first | done | with_reducible rfl
    try simp only [Act.put, qa, qb, qc]
    refine wpAnyH_done (by kernel_rfl) ?_ _
    have HBE : Aside (Below w.heap.size w y1) := HB1.out.trans (hHeld.1.mono HB1.out.size)
    have HXE : Aside _ := heap_below HX1.out hHeld.1 (heap_lt HX1.out)
    clear hHeld hb1 hS0 hbd kst
    go_wp2
    go_roundw
    case rel => exact ⟨k + 1, by omega, by go_num, HBE.out, HXE.out, HN⟩
    case measure => simp [intOf]; omega
   | false =>
    rw [hib, Bool.not_false] at kst
    by_cases hxy : x = y
    ·rw [show unlike x.k x.j x.v x.t x.c y.k y.j y.v y.t y.c = false by rw [hxy]; simp [unlike]] at hn2
     have HN : Hid _ := nxt.out (Or.inr (by rw [HST.out.2.1, hxy]))
     clear nxt hib hxy
     go_region_held3 (fun w' => WiS Z w' cb (w.heap.size + 1) (.slice (some ⟨bv, ov, none⟩) 60 ca) bv ov k x y) (exact wiS_step (by assumption) (by assumption)) (first | (go_at_call 133; refine (kst _).mono ?_; rintro e y1 ⟨rfl, hb1⟩))
     all_goals
      rename_i hS
      have HBE : Aside (Below w.heap.size w _) := HB1.out.trans (hS.1.1.mono HB1.out.size)
      have HXE : Aside _ := heap_below HX1.out hS.1.1 (heap_lt HX1.out)
      clear hS hS1 hbd kst
      go_wp2
      go_roundw
      case rel => exact ⟨k + 1, by omega, by go_num, HBE.out, HXE.out, HN⟩
      case measure => simp [intOf]; omega
    ·rw [show unlike x.k x.j x.v x.t x.c y.k y.j y.v y.t y.c = true by rw [← Bool.not_eq_false]; exact fun h => hxy (en_eq h)] at hn2
     have HR : Hid (bb = false) := by
      rw [Hid, ← HBB.out, decide_eq_false]
      intro hw
      rcases hw k x HST.out.1 with h | h
      ·rw [hib] at h; cases h
      ·exact hxy (Option.some.inj (h.symm.trans HST.out.2.1))
     clear nxt hib hxy HBB
     go_region_held3 (fun w' => WiS Z w' cb (w.heap.size + 1) (.slice (some ⟨bv, ov, none⟩) 60 ca) bv ov k x y) (exact wiS_step (by assumption) (by assumption)) (first | (go_at_call 133; refine (kst _).mono ?_; rintro e y1 ⟨rfl, hb1⟩))
     all_goals
      rename_i hS
      have HBE : Aside (Below w.heap.size w _) := HB1.out.trans (hS.1.1.mono HB1.out.size)
      clear hS hS1 hbd kst
      go_wp2
      go_ret
      exact ⟨by rw [HR.out]; rfl, HBE.out⟩
  ·have HR : Hid (bb = true) := by
    rw [Hid, ← HBB.out, decide_eq_true]
    exact fun j c hc => hst.out j c (by have := (List.getElem?_eq_some_iff.1 hc).1; have := HL.out.1; omega) hc
   obtain rfl : k = 60 := by omega
   clear hst HBB
   go_wp2
   go_ret
   exact ⟨by rw [HR.out]; rfl, hB⟩
abbrev TrS (W w : World) (b o o' : Nat) (p q : Int) (s t : Value) : Prop :=
 Below W.heap.size W w ∧ w.cell? ⟨b, o, none⟩ = some (.int .i64 p) ∧ w.cell? ⟨b, o + 1, none⟩ = some s ∧ w.cell? ⟨b, o', none⟩ = some (.int .i64 q) ∧ w.cell? ⟨b, o' + 1, none⟩ = some t
theorem trS_step {W w w' : World} {b o o' : Nat} {p q : Int} {s t : Value} (h : TrS W w b o o' p q s t) (hb : Below w.heap.size w w') : TrS W w' b o o' p q s t :=
 ⟨h.1.trans (hb.mono h.1.size), cell_later hb h.2.1, cell_later hb h.2.2.1, cell_later hb h.2.2.2.1, cell_later hb h.2.2.2.2⟩
set_option maxHeartbeats 4000000 in
set_option maxRecDepth 100000 in
theorem chCheck3 (b off c : Nat) (U0 U1 U2 : Un) (a0 a1 a2 : Option Addr) (n0 c0 n1 c1 n2 c2 : Nat) (w : World) (hE : RowAt Ub.cells 2 w b off [⟨U0, .slice a0 n0 c0⟩, ⟨U1, .slice a1 n1 c1⟩, ⟨U2, .slice a2 n2 c2⟩])
  (h0 : UnitAt w (.slice a0 n0 c0) U0) (h1 : UnitAt w (.slice a1 n1 c1) U1) (h2 : UnitAt w (.slice a2 n2 c2) U2) (l0 : U0.cells.length = n0) (l1 : U1.cells.length = n1) (l2 : U2.cells.length = n2) :
  Calls Tryz.prog 169 #[.slice (some ⟨b, off, none⟩) 3 c] w fun e w' => e = .returned (.int .i64 (ck3 U0 U1 U2)) ∧ Below w.heap.size w w' := by
 have HE : Aside (∀ W, Below w.heap.size w W → RowAt Ub.cells 2 W b off [⟨U0, .slice a0 n0 c0⟩, ⟨U1, .slice a1 n1 c1⟩, ⟨U2, .slice a2 n2 c2⟩]) := fun W hb => hE.later hb
 have H0 : Aside (∀ W, Below w.heap.size w W → UnitAt W (.slice a0 n0 c0) U0) := fun W hb => h0.later hb
 have H1 : Aside (∀ W, Below w.heap.size w W → UnitAt W (.slice a1 n1 c1) U1) := fun W hb => h1.later hb
 have H2 : Aside (∀ W, Below w.heap.size w W → UnitAt W (.slice a2 n2 c2) U2) := fun W hb => h2.later hb
 have L0 : Hid (U0.ck = 0 → n0 = 60) := fun h => by rw [← l0]; exact (Un.ck_zero.1 h).2.1
 have L1 : Hid (U1.ck = 0 → n1 = 60) := fun h => by rw [← l1]; exact (Un.ck_zero.1 h).2.1
 have L2 : Hid (U2.ck = 0 → n2 = 60) := fun h => by rw [← l2]; exact (Un.ck_zero.1 h).2.1
 have HC : Hid (ck3 U0 U1 U2 = if U0.ck ≠ 0 then U0.ck else if U1.ck ≠ 0 then U1.ck else if U2.ck ≠ 0 then U2.ck else if ¬ Within U1.cells U0.cells then 4 else if ¬ Within U2.cells U1.cells then 4 else 0) := rfl
 obtain ⟨cc, HCC⟩ : ∃ cc, Hid (ck3 U0 U1 U2 = cc) := ⟨_, rfl⟩
 rw [HCC.out] at HC ⊢
 clear hE h0 h1 h2 l0 l1 l2 HCC
 go_enter Tryz.func169, Tryz.ntmps169
 go_wp2
 go_loopw [12] (fun i wr => ∃ k : Nat, ((k = 0 ∧ i = .int .i64 0) ∨ (k = 1 ∧ i = .int .i64 1) ∨ (k = 2 ∧ i = .int .i64 2) ∨ (k = 3 ∧ i = .int .i64 3)) ∧ Below w.heap.size w wr ∧ Hid ((1 ≤ k → U0.ck = 0) ∧ (2 ≤ k → U1.ck = 0) ∧ (3 ≤ k → U2.ck = 0))) (fun i _ => 3 - (intOf i).toNat)
 case atStart => exact ⟨0, Or.inl ⟨rfl, rfl⟩, Below.refl _ _, ⟨fun h => (by omega), fun h => (by omega), fun h => (by omega)⟩⟩
 case round =>
  obtain ⟨k, hk', hB, hst⟩ := hrel
  obtain ⟨⟨p0, s0⟩, ⟨p1, s1⟩, ⟨p2, s2⟩⟩ := row_three (HE.out _ hB)
  rcases hk' with ⟨rfl, rfl⟩ | ⟨rfl, rfl⟩ | ⟨rfl, rfl⟩ | ⟨rfl, rfl⟩
  ·have hB1 := grew hB (boxU U0.p (.slice a0 n0 c0))
   have kc := unitCheck_any _ U0 _ (H0.out _ hB1).ents
   have HB1 : Aside _ := hB1
   have HS : Hid _ := hst.out
   obtain ⟨d, HD⟩ : ∃ d, Hid (U0.ck = d) := ⟨_, rfl⟩
   rw [HD.out] at kc
   clear hB hB1
   by_cases hd : d = 0
   ·have hdb : (d != 0) = false := by rw [hd]; rfl
    have HZ : Hid (U0.ck = 0) := by rw [Hid, HD.out]; exact hd
    clear hd
    go_wp2_with fail
    refine kc.mono ?_
    rintro e w1 ⟨rfl, hb1⟩
    have HB2 := sb HB1 hb1
    clear kc HB1 p0 s0 p1 s1 p2 s2 hb1
    go_wp2
    go_roundw
    case rel => exact ⟨1, Or.inr (Or.inl ⟨rfl, rfl⟩), HB2.out, ⟨fun _ => HZ.out, fun h => (by omega), fun h => (by omega)⟩⟩
    case measure => simp [intOf]
   ·have hdb : (d != 0) = true := by rw [bne_iff_ne]; exact hd
    have HR : Hid (cc = d) := by rw [Hid, HC.out, if_pos (by rw [HD.out]; exact hd), HD.out]
    clear hd HC
    go_wp2_with fail
    refine kc.mono ?_
    rintro e w1 ⟨rfl, hb1⟩
    have HB2 := sb HB1 hb1
    clear kc HB1 p0 s0 p1 s1 p2 s2 hb1
    go_wp2
    go_ret
    exact ⟨by rw [HR.out]; rfl, HB2.out⟩
  ·have hB1 := grew hB (boxU U1.p (.slice a1 n1 c1))
   have kc := unitCheck_any _ U1 _ (H1.out _ hB1).ents
   have HB1 : Aside _ := hB1
   have HS : Hid _ := hst.out
   obtain ⟨d, HD⟩ : ∃ d, Hid (U1.ck = d) := ⟨_, rfl⟩
   rw [HD.out] at kc
   clear hB hB1
   by_cases hd : d = 0
   ·have hdb : (d != 0) = false := by rw [hd]; rfl
    have HZ : Hid (U1.ck = 0) := by rw [Hid, HD.out]; exact hd
    clear hd
    go_wp2_with fail
    refine kc.mono ?_
    rintro e w1 ⟨rfl, hb1⟩
    have HB2 := sb HB1 hb1
    clear kc HB1 p0 s0 p1 s1 p2 s2 hb1
    go_wp2
    go_roundw
    case rel => exact ⟨2, Or.inr (Or.inr (Or.inl ⟨rfl, rfl⟩)), HB2.out, ⟨fun _ => HS.out.1 (by omega), fun _ => HZ.out, fun h => (by omega)⟩⟩
    case measure => simp [intOf]
   ·have hdb : (d != 0) = true := by rw [bne_iff_ne]; exact hd
    have HR : Hid (cc = d) := by rw [Hid, HC.out, if_neg (by simpa using hst.out.1 (by omega)), if_pos (by rw [HD.out]; exact hd), HD.out]
    clear hd HC
    go_wp2_with fail
    refine kc.mono ?_
    rintro e w1 ⟨rfl, hb1⟩
    have HB2 := sb HB1 hb1
    clear kc HB1 p0 s0 p1 s1 p2 s2 hb1
    go_wp2
    go_ret
    exact ⟨by rw [HR.out]; rfl, HB2.out⟩
  ·have hB1 := grew hB (boxU U2.p (.slice a2 n2 c2))
   have kc := unitCheck_any _ U2 _ (H2.out _ hB1).ents
   have HB1 : Aside _ := hB1
   have HS : Hid _ := hst.out
   obtain ⟨d, HD⟩ : ∃ d, Hid (U2.ck = d) := ⟨_, rfl⟩
   rw [HD.out] at kc
   clear hB hB1
   by_cases hd : d = 0
   ·have hdb : (d != 0) = false := by rw [hd]; rfl
    have HZ : Hid (U2.ck = 0) := by rw [Hid, HD.out]; exact hd
    clear hd
    go_wp2_with fail
    refine kc.mono ?_
    rintro e w1 ⟨rfl, hb1⟩
    have HB2 := sb HB1 hb1
    clear kc HB1 p0 s0 p1 s1 p2 s2 hb1
    go_wp2
    go_roundw
    case rel => exact ⟨3, Or.inr (Or.inr (Or.inr ⟨rfl, rfl⟩)), HB2.out, ⟨fun _ => HS.out.1 (by omega), fun _ => HS.out.2.1 (by omega), fun _ => HZ.out⟩⟩
    case measure => simp [intOf]
   ·have hdb : (d != 0) = true := by rw [bne_iff_ne]; exact hd
    have HR : Hid (cc = d) := by rw [Hid, HC.out, if_neg (by simpa using hst.out.1 (by omega)), if_neg (by simpa using hst.out.2.1 (by omega)), if_pos (by rw [HD.out]; exact hd), HD.out]
    clear hd HC
    go_wp2_with fail
    refine kc.mono ?_
    rintro e w1 ⟨rfl, hb1⟩
    have HB2 := sb HB1 hb1
    clear kc HB1 p0 s0 p1 s1 p2 s2 hb1
    go_wp2
    go_ret
    exact ⟨by rw [HR.out]; rfl, HB2.out⟩
  ·have z0 := hst.out.1 (by omega)
   have z1 := hst.out.2.1 (by omega)
   have z2 := hst.out.2.2 (by omega)
   obtain rfl := L0.out z0
   obtain rfl := L1.out z1
   obtain rfl := L2.out z2
   have HZ : Hid (U0.ck = 0 ∧ U1.ck = 0 ∧ U2.ck = 0) := ⟨z0, z1, z2⟩
   have HC2 : Hid (cc = if ¬ Within U1.cells U0.cells then 4 else if ¬ Within U2.cells U1.cells then 4 else 0) := by
    rw [Hid, HC.out, if_neg (by simpa using z0), if_neg (by simpa using z1), if_neg (by simpa using z2)]
   have HB2 : Aside (Below w.heap.size w wr) := hB
   clear hst HC z0 z1 z2 p0 s0 p1 s1 p2 s2 hB L0 L1 L2
   go_wp2
   go_loopw [6] (fun i wr => ∃ k : Nat, ((k = 1 ∧ i = .int .i64 1) ∨ (k = 2 ∧ i = .int .i64 2) ∨ (k = 3 ∧ i = .int .i64 3)) ∧ Below w.heap.size w wr ∧ Hid ((2 ≤ k → Within U1.cells U0.cells) ∧ (3 ≤ k → Within U2.cells U1.cells))) (fun i _ => 3 - (intOf i).toNat)
   case atStart => exact ⟨1, Or.inl ⟨rfl, rfl⟩, HB2.out, ⟨fun h => (by omega), fun h => (by omega)⟩⟩
   case round =>
    clear HB2
    obtain ⟨k, hk', hB, hst⟩ := hrel
    obtain ⟨⟨p0, s0⟩, ⟨p1, s1⟩, ⟨p2, s2⟩⟩ := row_three (HE.out _ hB)
    have hwr0 : IntKind.i64.wrap 0 = 0 := rfl
    have hwr1 : IntKind.i64.wrap 1 = 1 := rfl
    rcases hk' with ⟨rfl, rfl⟩ | ⟨rfl, rfl⟩ | ⟨rfl, rfl⟩
    ·have kw := fun W (h : Below wr.heap.size wr W) => follows_any a1 a0 c1 c0 U1.p U0.p U1.cells U0.cells W (H1.out W (hB.trans (h.mono hB.size))).ents (H0.out W (hB.trans (h.mono hB.size))).ents (Un.ck_zero.1 HZ.out.2.1).2.1 (Un.ck_zero.1 HZ.out.1).2.1
     have hS0 : TrS wr wr b (off + 2) (off) U1.p U0.p (.slice a1 60 c1) (.slice a0 60 c0) := ⟨Below.refl _ _, p1, s1, p0, s0⟩
     have hbd : Below wr.heap.size wr wr.drew := (Below.refl _ _).drew
     have HB3 : Aside _ := hB
     have HS : Hid _ := hst.out
     by_cases hw : Within U1.cells U0.cells
     ·rw [decide_eq_true hw] at kw
      have HW : Hid (Within U1.cells U0.cells) := hw
      clear hw hB hst p0 s0 p1 s1 p2 s2
      go_wp2_with fail
      go_region_held3 (fun w' => TrS wr w' b (off + 2) (off) U1.p U0.p (.slice a1 60 c1) (.slice a0 60 c0)) (exact trS_step (by assumption) (by assumption)) (first | (go_at_call 199; refine (kw _ (by exact (‹TrS _ _ _ _ _ _ _ _ _›).1)).mono ?_; rintro e y1 ⟨rfl, hb2⟩))
      rename_i hHeld
      have HB4 : Aside (Below w.heap.size w _) := HB3.out.trans (hHeld.1.mono HB3.out.size)
      clear hHeld hS0 hbd kw
      go_wp2
      go_roundw
      case rel => exact ⟨2, Or.inr (Or.inl ⟨rfl, rfl⟩), HB4.out, ⟨fun _ => HW.out, fun h => (by omega)⟩⟩
      case measure => simp [intOf]
     ·rw [decide_eq_false hw] at kw
      have HR : Hid (cc = 4) := by rw [Hid, HC2.out, if_pos hw]
      clear hw hB hst HC2 p0 s0 p1 s1 p2 s2
      go_wp2_with fail
      go_region_held3 (fun w' => TrS wr w' b (off + 2) (off) U1.p U0.p (.slice a1 60 c1) (.slice a0 60 c0)) (exact trS_step (by assumption) (by assumption)) (first | (go_at_call 199; refine (kw _ (by exact (‹TrS _ _ _ _ _ _ _ _ _›).1)).mono ?_; rintro e y1 ⟨rfl, hb2⟩))
      rename_i hHeld
      have HB4 : Aside (Below w.heap.size w _) := HB3.out.trans (hHeld.1.mono HB3.out.size)
      clear hHeld hS0 hbd kw
      go_wp2
      go_ret
      exact ⟨by rw [HR.out]; rfl, HB4.out⟩
    ·have kw := fun W (h : Below wr.heap.size wr W) => follows_any a2 a1 c2 c1 U2.p U1.p U2.cells U1.cells W (H2.out W (hB.trans (h.mono hB.size))).ents (H1.out W (hB.trans (h.mono hB.size))).ents (Un.ck_zero.1 HZ.out.2.2).2.1 (Un.ck_zero.1 HZ.out.2.1).2.1
     have hS0 : TrS wr wr b (off + 4) (off + 2) U2.p U1.p (.slice a2 60 c2) (.slice a1 60 c1) := ⟨Below.refl _ _, p2, s2, p1, s1⟩
     have hbd : Below wr.heap.size wr wr.drew := (Below.refl _ _).drew
     have HB3 : Aside _ := hB
     have HS : Hid _ := hst.out
     by_cases hw : Within U2.cells U1.cells
     ·rw [decide_eq_true hw] at kw
      have HW : Hid (Within U2.cells U1.cells) := hw
      clear hw hB hst p0 s0 p1 s1 p2 s2
      go_wp2_with fail
      go_region_held3 (fun w' => TrS wr w' b (off + 4) (off + 2) U2.p U1.p (.slice a2 60 c2) (.slice a1 60 c1)) (exact trS_step (by assumption) (by assumption)) (first | (go_at_call 199; refine (kw _ (by exact (‹TrS _ _ _ _ _ _ _ _ _›).1)).mono ?_; rintro e y1 ⟨rfl, hb2⟩))
      rename_i hHeld
      have HB4 : Aside (Below w.heap.size w _) := HB3.out.trans (hHeld.1.mono HB3.out.size)
      clear hHeld hS0 hbd kw
      go_wp2
      go_roundw
      case rel => exact ⟨3, Or.inr (Or.inr ⟨rfl, rfl⟩), HB4.out, ⟨fun _ => HS.out.1 (by omega), fun _ => HW.out⟩⟩
      case measure => simp [intOf]
     ·rw [decide_eq_false hw] at kw
      have HR : Hid (cc = 4) := by rw [Hid, HC2.out, if_neg (by simpa using hst.out.1 (by omega)), if_pos hw]
      clear hw hB hst HC2 p0 s0 p1 s1 p2 s2
      go_wp2_with fail
      go_region_held3 (fun w' => TrS wr w' b (off + 4) (off + 2) U2.p U1.p (.slice a2 60 c2) (.slice a1 60 c1)) (exact trS_step (by assumption) (by assumption)) (first | (go_at_call 199; refine (kw _ (by exact (‹TrS _ _ _ _ _ _ _ _ _›).1)).mono ?_; rintro e y1 ⟨rfl, hb2⟩))
      rename_i hHeld
      have HB4 : Aside (Below w.heap.size w _) := HB3.out.trans (hHeld.1.mono HB3.out.size)
      clear hHeld hS0 hbd kw
      go_wp2
      go_ret
      exact ⟨by rw [HR.out]; rfl, HB4.out⟩
    ·have HR : Hid (cc = 0) := by rw [Hid, HC2.out, if_neg (by simpa using hst.out.1 (by omega)), if_neg (by simpa using hst.out.2 (by omega))]
     have HB3 : Aside _ := hB
     clear hst HC2 p0 s0 p1 s1 p2 s2 hB
     go_wp2
     go_ret
     exact ⟨by rw [HR.out]; rfl, HB3.out⟩
theorem ckChain_other {us : List Un} (h : us.length ≠ 3) : ckChain us = 4 := by
 match us, h with
 | [], _ => rfl
 | [_], _ => rfl
 | [_, _], _ => rfl
 | [_, _, _], h => exact absurd rfl h
 | _ :: _ :: _ :: _ :: _, _ => rfl
theorem chCheck_any (v : Value) (xs : List Ub) (w : World) (h : ChAt w v xs) :
  Calls Tryz.prog 169 #[v] w fun e w' => e = .returned (.int .i64 (ckChain (unitsOf xs))) ∧ Below w.heap.size w w' := by
 obtain ⟨a, n, c, rfl, _⟩ := id h.room
 have hl := h.rows.len
 by_cases hn : n = 3
 ·subst hn
  obtain ⟨u0, u1, u2, a0, n0, c0, a1, n1, c1, a2, n2, c2, b, off, rfl, rfl, hE, ⟨g0, g1, g2⟩, l0, l1, l2⟩ := three_of h
  exact chCheck3 b off c u0 u1 u2 a0 a1 a2 n0 c0 n1 c1 n2 c2 w hE g0 g1 g2 l0 l1 l2
 ·rw [ckChain_other (by rw [List.length_map]; omega)]
  have hnb : ((n : Int) != 3) = true := by rw [bne_iff_ne]; omega
  clear h hl hn
  go_enter Tryz.func169, Tryz.ntmps169
  go_wp2
  go_ret
  exact ⟨rfl, Below.refl _ _⟩
end
end Go.Proofs.YtmoaobfmopimlafGreatDoor
