/- The reference's CheckChain and ReadAt. -/
import Derived.Test.YtaialgacaomaeadChainB
namespace Go.Proofs.Ytaialgacaomaead
open Go.RowKit
open scoped Classical

/-- What the reference says is wrong: unit by unit, each held against the one ahead. -/
noncomputable def rk3 (u0 u1 u2 : Un) : Int := if u0.ck ≠ 0 then u0.ck else if u1.ck ≠ 0 then u1.ck else if ¬ Within u1.cells u0.cells then 4 else if u2.ck ≠ 0 then u2.ck else if ¬ Within u2.cells u1.cells then 4 else 0

noncomputable def rkChain : List Un → Int
  | [u0, u1, u2] => rk3 u0 u1 u2
  | _ => 4

noncomputable def linkRef (us : List Un) (k a : Int) (x : En) (ep : Int) : Rc × En × Int := if rkChain us ≠ 0 then (Rc.zero, En.zero, rkChain us) else linkOf us k a x ep
noncomputable def readRef (us : List Un) (a : Int) : En × Int := if rkChain us ≠ 0 then (En.zero, rkChain us) else readOf us a

theorem rkChain_other {us : List Un} (h : us.length ≠ 3) : rkChain us = 4 := by
  match us, h with
  | [], _ => rfl
  | [_], _ => rfl
  | [_, _], _ => rfl
  | [_, _, _], h => exact absurd rfl h
  | _ :: _ :: _ :: _ :: _, _ => rfl

theorem rk_ck {us : List Un} (h : rkChain us = 0) : ckChain us = 0 := by
  match us, h with
  | [u0, u1, u2], h =>
    change rk3 u0 u1 u2 = 0 at h
    unfold rk3 at h
    show ck3 u0 u1 u2 = 0
    unfold ck3
    by_cases h0 : u0.ck = 0
    · rw [if_neg (by simpa using h0)] at h ⊢
      by_cases h1 : u1.ck = 0
      · rw [if_neg (by simpa using h1)] at h ⊢
        by_cases g1 : Within u1.cells u0.cells
        · rw [if_neg (by simpa using g1)] at h
          by_cases h2 : u2.ck = 0
          · rw [if_neg (by simpa using h2)] at h ⊢
            rw [if_neg (by simpa using g1)]
            exact h
          · rw [if_pos h2] at h; exact absurd h h2
        · rw [if_pos g1] at h; cases h
      · rw [if_pos h1] at h; exact absurd h h1
    · rw [if_pos h0] at h; exact absurd h h0

theorem ck_rk {us : List Un} (h : ckChain us = 0) : rkChain us = 0 := by
  obtain ⟨u0, u1, u2, rfl, h0, h1, h2, g1, g2⟩ := ckChain_zero.1 h
  show rk3 u0 u1 u2 = 0
  unfold rk3
  rw [if_neg (by simpa using h0), if_neg (by simpa using h1), if_neg (by simpa using g1), if_neg (by simpa using h2), if_neg (by simpa using g2)]

/-- Three units in a row. -/
theorem three_of {w : World} {a : Option Addr} {c : Nat} {xs : List Ub} (h : ChAt w (.slice a 3 c) xs) : ∃ u0 u1 u2 a0 n0 c0 a1 n1 c1 a2 n2 c2 b off, xs = [⟨u0, .slice a0 n0 c0⟩, ⟨u1, .slice a1 n1 c1⟩, ⟨u2, .slice a2 n2 c2⟩] ∧ a = some ⟨b, off, none⟩ ∧ RowAt Ub.cells 2 w b off xs ∧
    (UnitAt w (.slice a0 n0 c0) u0 ∧ UnitAt w (.slice a1 n1 c1) u1 ∧ UnitAt w (.slice a2 n2 c2) u2) ∧ u0.cells.length = n0 ∧ u1.cells.length = n1 ∧ u2.cells.length = n2 := by
  have hl := h.rows.len
  obtain ⟨b, off, ha, hE⟩ := h.rows.at (by omega)
  match xs, hl with
  | [x0, x1, x2], _ =>
    have h0 := h.each x0 (by simp)
    have h1 := h.each x1 (by simp)
    have h2 := h.each x2 (by simp)
    obtain ⟨u0, v0⟩ := x0
    obtain ⟨u1, v1⟩ := x1
    obtain ⟨u2, v2⟩ := x2
    obtain ⟨a0, n0, c0, e0, _⟩ := h0.room
    obtain ⟨a1, n1, c1, e1, _⟩ := h1.room
    obtain ⟨a2, n2, c2, e2, _⟩ := h2.room
    dsimp only at e0 e1 e2
    subst e0 e1 e2
    exact ⟨u0, u1, u2, a0, n0, c0, a1, n1, c1, a2, n2, c2, b, off, rfl, ha, hE, ⟨h0, h1, h2⟩, SlOf.len (cs := En.cells) (k := 5) h0.ents, SlOf.len (cs := En.cells) (k := 5) h1.ents, SlOf.len (cs := En.cells) (k := 5) h2.ents⟩

theorem row_three {w : World} {b off : Nat} {u0 u1 u2 : Un} {v0 v1 v2 : Value} (h : RowAt Ub.cells 2 w b off [⟨u0, v0⟩, ⟨u1, v1⟩, ⟨u2, v2⟩]) :
    (w.cell? ⟨b, off, none⟩ = some (.int .i64 u0.p) ∧ w.cell? ⟨b, off + 1, none⟩ = some v0) ∧ (w.cell? ⟨b, off + 2, none⟩ = some (.int .i64 u1.p) ∧ w.cell? ⟨b, off + 2 + 1, none⟩ = some v1) ∧ (w.cell? ⟨b, off + 4, none⟩ = some (.int .i64 u2.p) ∧ w.cell? ⟨b, off + 4 + 1, none⟩ = some v2) :=
  ⟨⟨h 0 _ rfl 0 _ rfl, h 0 _ rfl 1 _ rfl⟩, ⟨h 1 _ rfl 0 _ rfl, h 1 _ rfl 1 _ rfl⟩, ⟨h 2 _ rfl 0 _ rfl, h 2 _ rfl 1 _ rfl⟩⟩

/-- A unit in its box, another one in a row. -/
abbrev TwS (W w : World) (B b o : Nat) (p q : Int) (s t : Value) : Prop :=
  Below W.heap.size W w ∧ w.cell? ⟨B, 0, none⟩ = some (.int .i64 p) ∧ w.cell? ⟨B, 1, none⟩ = some s ∧ w.cell? ⟨b, o, none⟩ = some (.int .i64 q) ∧ w.cell? ⟨b, o + 1, none⟩ = some t
theorem twS_step {W w w' : World} {B b o : Nat} {p q : Int} {s t : Value} (h : TwS W w B b o p q s t) (hb : Below w.heap.size w w') : TwS W w' B b o p q s t :=
  ⟨h.1.trans (hb.mono h.1.size), cell_later hb h.2.1, cell_later hb h.2.2.1, cell_later hb h.2.2.2.1, cell_later hb h.2.2.2.2⟩

set_option linter.unusedSimpArgs false in
set_option maxHeartbeats 4000000 in
set_option maxRecDepth 100000 in
theorem ref_rk3 (b off c : Nat) (U0 U1 U2 : Un) (a0 a1 a2 : Option Addr) (n0 c0 n1 c1 n2 c2 : Nat) (w : World) (hE : RowAt Ub.cells 2 w b off [⟨U0, .slice a0 n0 c0⟩, ⟨U1, .slice a1 n1 c1⟩, ⟨U2, .slice a2 n2 c2⟩])
    (h0 : UnitAt w (.slice a0 n0 c0) U0) (h1 : UnitAt w (.slice a1 n1 c1) U1) (h2 : UnitAt w (.slice a2 n2 c2) U2) (l0 : U0.cells.length = n0) (l1 : U1.cells.length = n1) (l2 : U2.cells.length = n2) :
    Calls Try.prog 26 #[.slice (some ⟨b, off, none⟩) 3 c] w fun e w' => e = .returned (.int .i64 (rk3 U0 U1 U2)) ∧ Below w.heap.size w w' := by
  have HE : Aside (∀ W, Below w.heap.size w W → RowAt Ub.cells 2 W b off [⟨U0, .slice a0 n0 c0⟩, ⟨U1, .slice a1 n1 c1⟩, ⟨U2, .slice a2 n2 c2⟩]) := fun W hb => hE.later hb
  have H0 : Aside (∀ W, Below w.heap.size w W → UnitAt W (.slice a0 n0 c0) U0) := fun W hb => h0.later hb
  have H1 : Aside (∀ W, Below w.heap.size w W → UnitAt W (.slice a1 n1 c1) U1) := fun W hb => h1.later hb
  have H2 : Aside (∀ W, Below w.heap.size w W → UnitAt W (.slice a2 n2 c2) U2) := fun W hb => h2.later hb
  have L0 : Hid (U0.ck = 0 → n0 = 60) := fun h => by rw [← l0]; exact (Un.ck_zero.1 h).2.1
  have L1 : Hid (U1.ck = 0 → n1 = 60) := fun h => by rw [← l1]; exact (Un.ck_zero.1 h).2.1
  have L2 : Hid (U2.ck = 0 → n2 = 60) := fun h => by rw [← l2]; exact (Un.ck_zero.1 h).2.1
  have HC : Hid (rk3 U0 U1 U2 = if U0.ck ≠ 0 then U0.ck else if U1.ck ≠ 0 then U1.ck else if ¬ Within U1.cells U0.cells then 4 else if U2.ck ≠ 0 then U2.ck else if ¬ Within U2.cells U1.cells then 4 else 0) := rfl
  obtain ⟨cc, HCC⟩ : ∃ cc, Hid (rk3 U0 U1 U2 = cc) := ⟨_, rfl⟩
  rw [HCC.out] at HC ⊢
  clear hE h0 h1 h2 l0 l1 l2 HCC
  go_enter Try.func26, Try.ntmps26
  go_wp2
  go_loopw [11] (fun i wr => ∃ k : Nat, ((k = 0 ∧ i = .int .i64 0) ∨ (k = 1 ∧ i = .int .i64 1) ∨ (k = 2 ∧ i = .int .i64 2) ∨ (k = 3 ∧ i = .int .i64 3)) ∧ Below w.heap.size w wr ∧ Hid ((1 ≤ k → U0.ck = 0) ∧ (2 ≤ k → U1.ck = 0 ∧ Within U1.cells U0.cells) ∧ (3 ≤ k → U2.ck = 0 ∧ Within U2.cells U1.cells))) (fun i _ => 3 - (intOf i).toNat)
  case atStart => exact ⟨0, Or.inl ⟨rfl, rfl⟩, Below.refl _ _, ⟨fun h => (by omega), fun h => (by omega), fun h => (by omega)⟩⟩
  case round =>
    obtain ⟨k, hk', hB, hst⟩ := hrel
    obtain ⟨⟨p0, s0⟩, ⟨p1, s1⟩, ⟨p2, s2⟩⟩ := row_three (HE.out _ hB)
    rcases hk' with ⟨rfl, rfl⟩ | ⟨rfl, rfl⟩ | ⟨rfl, rfl⟩ | ⟨rfl, rfl⟩
    · have hB1 := grew hB (boxU U0.p (.slice a0 n0 c0))
      have kc := ref_ckUnit _ U0 _ (H0.out _ hB1).ents
      have hx1 := heap_new wr (boxU U0.p (.slice a0 n0 c0))
      have HB1 : Aside _ := hB1
      have HX1 : Aside _ := hx1
      obtain ⟨d, HD⟩ : ∃ d, Hid (U0.ck = d) := ⟨_, rfl⟩
      rw [HD.out] at kc
      clear hB hB1 hx1
      by_cases hd : d = 0
      · have hdb : (d != 0) = false := by rw [hd]; rfl
        have hz : U0.ck = 0 := by rw [HD.out]; exact hd
        have HZ : Hid (U0.ck = 0) := hz
        clear hd hz
        go_wp2_with fail
        refine kc.mono ?_
        rintro e w1 ⟨rfl, hb1⟩
        have hB2 := step_below1 HB1.out hb1
        have hx2 := heap_below HX1.out hb1 (heap_lt HX1.out)
        have z0 : ∀ i, w1.cell? ⟨wr.heap.size, i, none⟩ = #[Value.int .i64 U0.p, .slice a0 n0 c0][i]? := fun i => Joins.cell_of_block hx2 i
        clear kc HX1 HB1 p0 s0 p1 s1 p2 s2
        obtain ⟨⟨p0, s0⟩, ⟨p1, s1⟩, ⟨p2, s2⟩⟩ := row_three (HE.out _ hB2)
        have HB2 : Aside _ := hB2
        clear hB2 hb1 hx2
        go_wp2_with fail
        go_quiet (fail)
        go_wp2
        go_roundw
        case rel => exact ⟨1, Or.inr (Or.inl ⟨rfl, rfl⟩), below_drewN HB2.out _, ⟨fun _ => HZ.out, fun h => (by omega), fun h => (by omega)⟩⟩
        case measure => simp [intOf]
      · have hdb : (d != 0) = true := by rw [bne_iff_ne]; exact hd
        have HR : Hid (cc = d) := by rw [Hid, HC.out, if_pos (by rw [HD.out]; exact hd), HD.out]
        clear hd HC
        go_wp2_with fail
        refine kc.mono ?_
        rintro e w1 ⟨rfl, hb1⟩
        have HB2 : Aside (Below w.heap.size w w1) := step_below1 HB1.out hb1
        clear kc HX1 HB1 p0 s0 p1 s1 p2 s2 hb1
        go_wp2
        go_ret
        exact ⟨by rw [HR.out]; rfl, HB2.out⟩
    · have hB1 := grew hB (boxU U1.p (.slice a1 n1 c1))
      have kc := ref_ckUnit _ U1 _ (H1.out _ hB1).ents
      have hx1 := heap_new wr (boxU U1.p (.slice a1 n1 c1))
      have HB1 : Aside _ := hB1
      have HX1 : Aside _ := hx1
      obtain ⟨d, HD⟩ : ∃ d, Hid (U1.ck = d) := ⟨_, rfl⟩
      rw [HD.out] at kc
      clear hB hB1 hx1
      by_cases hd : d = 0
      · have hdb : (d != 0) = false := by rw [hd]; rfl
        have hz : U1.ck = 0 := by rw [HD.out]; exact hd
        have hzp : U0.ck = 0 := hst.out.1 (by omega)
        obtain rfl := L1.out hz
        obtain rfl := L0.out hzp
        have HZ : Hid (U1.ck = 0) := hz
        clear hd hz
        go_wp2_with fail
        refine kc.mono ?_
        rintro e w1 ⟨rfl, hb1⟩
        have hB2 := step_below1 HB1.out hb1
        have hx2 := heap_below HX1.out hb1 (heap_lt HX1.out)
        have z0 : ∀ i, w1.cell? ⟨wr.heap.size, i, none⟩ = #[Value.int .i64 U1.p, .slice a1 60 c1][i]? := fun i => Joins.cell_of_block hx2 i
        clear kc HX1 HB1 p0 s0 p1 s1 p2 s2
        obtain ⟨⟨p0, s0⟩, ⟨p1, s1⟩, ⟨p2, s2⟩⟩ := row_three (HE.out _ hB2)
        have HZP : Hid (U0.ck = 0) := hzp
        have kw := fun W (h : Below w1.heap.size w1 W) => ref_within a1 a0 c1 c0 U1.p U0.p U1.cells U0.cells W (H1.out W (hB2.trans (h.mono hB2.size))).ents (H0.out W (hB2.trans (h.mono hB2.size))).ents (Un.ck_zero.1 HZ.out).2.1 (Un.ck_zero.1 hzp).2.1
        have hS0 : TwS w1 w1 wr.heap.size b (off) U1.p U0.p (.slice a1 60 c1) (.slice a0 60 c0) := ⟨Below.refl _ _, z0 0, z0 1, p0, s0⟩
        have hbd : Below w1.heap.size w1 w1.drew := (Below.refl _ _).drew
        have HB2 : Aside _ := hB2
        clear hzp hb1 hx2 hB2
        by_cases hw : Within U1.cells U0.cells
        · rw [decide_eq_true hw] at kw
          have HW : Hid (Within U1.cells U0.cells) := hw
          clear hw
          go_wp2_with fail
          clear z0
          have hwr0 : IntKind.i64.wrap 0 = 0 := rfl
          have hwr1 : IntKind.i64.wrap 1 = 1 := rfl
          go_region_held3 (fun w' => TwS w1 w' wr.heap.size b (off) U1.p U0.p (.slice a1 60 c1) (.slice a0 60 c0)) (exact twS_step (by assumption) (by assumption)) (first | (go_at_call 44; refine (kw _ (by exact (‹TwS _ _ _ _ _ _ _ _ _›).1)).mono ?_; rintro e y1 ⟨rfl, hb2⟩))
          rename_i hHeld
          have HB3 : Aside (Below w.heap.size w _) := HB2.out.trans (hHeld.1.mono HB2.out.size)
          clear hHeld hS0 hbd kw
          go_wp2
          go_roundw
          case rel => exact ⟨2, Or.inr (Or.inr (Or.inl ⟨rfl, rfl⟩)), HB3.out, ⟨fun _ => HZP.out, fun _ => ⟨HZ.out, HW.out⟩, fun h => (by omega)⟩⟩
          case measure => simp [intOf]
        · rw [decide_eq_false hw] at kw
          have HR : Hid (cc = 4) := by rw [Hid, HC.out, if_neg (by simpa using HZP.out), if_neg (by simpa using HZ.out), if_pos hw]
          clear hw HC
          go_wp2_with fail
          clear z0
          have hwr0 : IntKind.i64.wrap 0 = 0 := rfl
          have hwr1 : IntKind.i64.wrap 1 = 1 := rfl
          go_region_held3 (fun w' => TwS w1 w' wr.heap.size b (off) U1.p U0.p (.slice a1 60 c1) (.slice a0 60 c0)) (exact twS_step (by assumption) (by assumption)) (first | (go_at_call 44; refine (kw _ (by exact (‹TwS _ _ _ _ _ _ _ _ _›).1)).mono ?_; rintro e y1 ⟨rfl, hb2⟩))
          rename_i hHeld
          have HB3 : Aside (Below w.heap.size w _) := HB2.out.trans (hHeld.1.mono HB2.out.size)
          clear hHeld hS0 hbd kw
          go_wp2
          go_ret
          exact ⟨by rw [HR.out]; rfl, HB3.out⟩
      · have hdb : (d != 0) = true := by rw [bne_iff_ne]; exact hd
        have HR : Hid (cc = d) := by rw [Hid, HC.out, if_neg (by simpa using hst.out.1 (by omega)), if_pos (by rw [HD.out]; exact hd), HD.out]
        clear hd HC
        go_wp2_with fail
        refine kc.mono ?_
        rintro e w1 ⟨rfl, hb1⟩
        have HB2 : Aside (Below w.heap.size w w1) := step_below1 HB1.out hb1
        clear kc HX1 HB1 p0 s0 p1 s1 p2 s2 hb1
        go_wp2
        go_ret
        exact ⟨by rw [HR.out]; rfl, HB2.out⟩
    · have hB1 := grew hB (boxU U2.p (.slice a2 n2 c2))
      have kc := ref_ckUnit _ U2 _ (H2.out _ hB1).ents
      have hx1 := heap_new wr (boxU U2.p (.slice a2 n2 c2))
      have HB1 : Aside _ := hB1
      have HX1 : Aside _ := hx1
      obtain ⟨d, HD⟩ : ∃ d, Hid (U2.ck = d) := ⟨_, rfl⟩
      rw [HD.out] at kc
      clear hB hB1 hx1
      by_cases hd : d = 0
      · have hdb : (d != 0) = false := by rw [hd]; rfl
        have hz : U2.ck = 0 := by rw [HD.out]; exact hd
        have hzp : U1.ck = 0 := hst.out.2.1 (by omega) |>.1
        obtain rfl := L2.out hz
        obtain rfl := L1.out hzp
        have HZ : Hid (U2.ck = 0) := hz
        clear hd hz
        go_wp2_with fail
        refine kc.mono ?_
        rintro e w1 ⟨rfl, hb1⟩
        have hB2 := step_below1 HB1.out hb1
        have hx2 := heap_below HX1.out hb1 (heap_lt HX1.out)
        have z0 : ∀ i, w1.cell? ⟨wr.heap.size, i, none⟩ = #[Value.int .i64 U2.p, .slice a2 60 c2][i]? := fun i => Joins.cell_of_block hx2 i
        clear kc HX1 HB1 p0 s0 p1 s1 p2 s2
        obtain ⟨⟨p0, s0⟩, ⟨p1, s1⟩, ⟨p2, s2⟩⟩ := row_three (HE.out _ hB2)
        have HZP : Hid (U1.ck = 0) := hzp
        have kw := fun W (h : Below w1.heap.size w1 W) => ref_within a2 a1 c2 c1 U2.p U1.p U2.cells U1.cells W (H2.out W (hB2.trans (h.mono hB2.size))).ents (H1.out W (hB2.trans (h.mono hB2.size))).ents (Un.ck_zero.1 HZ.out).2.1 (Un.ck_zero.1 hzp).2.1
        have hS0 : TwS w1 w1 wr.heap.size b (off + 2) U2.p U1.p (.slice a2 60 c2) (.slice a1 60 c1) := ⟨Below.refl _ _, z0 0, z0 1, p1, s1⟩
        have hbd : Below w1.heap.size w1 w1.drew := (Below.refl _ _).drew
        have HB2 : Aside _ := hB2
        clear hzp hb1 hx2 hB2
        by_cases hw : Within U2.cells U1.cells
        · rw [decide_eq_true hw] at kw
          have HW : Hid (Within U2.cells U1.cells) := hw
          clear hw
          go_wp2_with fail
          clear z0
          have hwr0 : IntKind.i64.wrap 0 = 0 := rfl
          have hwr1 : IntKind.i64.wrap 1 = 1 := rfl
          go_region_held3 (fun w' => TwS w1 w' wr.heap.size b (off + 2) U2.p U1.p (.slice a2 60 c2) (.slice a1 60 c1)) (exact twS_step (by assumption) (by assumption)) (first | (go_at_call 44; refine (kw _ (by exact (‹TwS _ _ _ _ _ _ _ _ _›).1)).mono ?_; rintro e y1 ⟨rfl, hb2⟩))
          rename_i hHeld
          have HB3 : Aside (Below w.heap.size w _) := HB2.out.trans (hHeld.1.mono HB2.out.size)
          clear hHeld hS0 hbd kw
          go_wp2
          go_roundw
          case rel => exact ⟨3, Or.inr (Or.inr (Or.inr ⟨rfl, rfl⟩)), HB3.out, ⟨fun _ => hst.out.1 (by omega), fun _ => hst.out.2.1 (by omega), fun _ => ⟨HZ.out, HW.out⟩⟩⟩
          case measure => simp [intOf]
        · rw [decide_eq_false hw] at kw
          have HR : Hid (cc = 4) := by rw [Hid, HC.out, if_neg (by simpa using hst.out.1 (by omega)), if_neg (by simpa using HZP.out), if_neg (by simpa using (hst.out.2.1 (by omega)).2), if_neg (by simpa using HZ.out), if_pos hw]
          clear hw HC
          go_wp2_with fail
          clear z0
          have hwr0 : IntKind.i64.wrap 0 = 0 := rfl
          have hwr1 : IntKind.i64.wrap 1 = 1 := rfl
          go_region_held3 (fun w' => TwS w1 w' wr.heap.size b (off + 2) U2.p U1.p (.slice a2 60 c2) (.slice a1 60 c1)) (exact twS_step (by assumption) (by assumption)) (first | (go_at_call 44; refine (kw _ (by exact (‹TwS _ _ _ _ _ _ _ _ _›).1)).mono ?_; rintro e y1 ⟨rfl, hb2⟩))
          rename_i hHeld
          have HB3 : Aside (Below w.heap.size w _) := HB2.out.trans (hHeld.1.mono HB2.out.size)
          clear hHeld hS0 hbd kw
          go_wp2
          go_ret
          exact ⟨by rw [HR.out]; rfl, HB3.out⟩
      · have hdb : (d != 0) = true := by rw [bne_iff_ne]; exact hd
        have HR : Hid (cc = d) := by rw [Hid, HC.out, if_neg (by simpa using hst.out.1 (by omega)), if_neg (by simpa using (hst.out.2.1 (by omega)).1), if_neg (by simpa using (hst.out.2.1 (by omega)).2), if_pos (by rw [HD.out]; exact hd), HD.out]
        clear hd HC
        go_wp2_with fail
        refine kc.mono ?_
        rintro e w1 ⟨rfl, hb1⟩
        have HB2 : Aside (Below w.heap.size w w1) := step_below1 HB1.out hb1
        clear kc HX1 HB1 p0 s0 p1 s1 p2 s2 hb1
        go_wp2
        go_ret
        exact ⟨by rw [HR.out]; rfl, HB2.out⟩
    · have HR : Hid (cc = 0) := by rw [Hid, HC.out, if_neg (by simpa using hst.out.1 (by omega)), if_neg (by simpa using (hst.out.2.1 (by omega)).1), if_neg (by simpa using (hst.out.2.1 (by omega)).2), if_neg (by simpa using (hst.out.2.2 (by omega)).1), if_neg (by simpa using (hst.out.2.2 (by omega)).2)]
      clear hst HC p0 s0 p1 s1 p2 s2
      go_wp2
      go_ret
      exact ⟨by rw [HR.out]; rfl, hB⟩

/-- The reference's CheckChain. -/
theorem ref_rkChain (v : Value) (xs : List Ub) (w : World) (h : ChAt w v xs) :
    Calls Try.prog 26 #[v] w fun e w' => e = .returned (.int .i64 (rkChain (unitsOf xs))) ∧ Below w.heap.size w w' := by
  obtain ⟨a, n, c, rfl, _⟩ := id h.room
  have hl := h.rows.len
  by_cases h3 : n = 3
  · subst h3
    obtain ⟨u0, u1, u2, a0, n0, c0, a1, n1, c1, a2, n2, c2, b, off, rfl, rfl, hE, ⟨g0, g1, g2⟩, l0, l1, l2⟩ := three_of h
    exact ref_rk3 b off c u0 u1 u2 a0 a1 a2 n0 c0 n1 c1 n2 c2 w hE g0 g1 g2 l0 l1 l2
  · rw [rkChain_other (by rw [List.length_map]; omega)]
    have h3b : ((n : Int) != 3) = true := by rw [bne_iff_ne]; omega
    clear h hl h3
    go_enter Try.func26, Try.ntmps26
    go_wp2
    go_ret
    exact ⟨rfl, Below.refl _ _⟩

end Go.Proofs.Ytaialgacaomaead
