/- For the law. -/
import Derived.Test.YtmoaobfmopimlafGreatDoorM17
set_option linter.unusedSimpArgs false
set_option linter.unusedVariables false
namespace Go.Proofs.YtmoaobfmopimlafGreatDoor
open Go.RowKit
structure RW (w : Wd) : Prop where
 ns3 : w.ns.length = 3
 cs3 : w.cs.length = 3
 tip : 0 ≤ w.tip ∧ w.tip ≤ 60
 time : 0 ≤ w.t ∧ w.t ≤ 100000
 node : ∀ (k : Nat) (n : Nd), w.ns[k]? = some n → n.ck = 0
 behind : ∀ (k : Nat) (a n : Nd), w.ns[k]? = some a → w.ns[k + 1]? = some n → Within n.whole.cells a.u.cells
 client : ∀ c, c ∈ w.cs → c.ck = 0
 holds : ∀ c, c ∈ w.cs → c.lost w.ns = false
theorem ckNds_zero : ∀ (ns : List Nd) (a : Option (List En)), ckNds a ns = 0 ↔ (∀ (k : Nat) (n : Nd), ns[k]? = some n → n.ck = 0) ∧ (∀ (k : Nat) (x n : Nd), ns[k]? = some x → ns[k + 1]? = some n → Within n.whole.cells x.u.cells) ∧
  (∀ (l : List En) (n : Nd), a = some l → ns[0]? = some n → Within n.whole.cells l)
 | [], a => ⟨fun _ => ⟨fun k n h => by simp at h, fun k x n h => by simp at h, fun l n _ h => by simp at h⟩, fun _ => rfl⟩
 | n :: r, a => by
  have ih := ckNds_zero r (some n.u.cells)
  rw [ckNds]
  by_cases h1 : n.ck = 0
  ·rw [if_neg (by simpa using h1)]
   cases hb : behindB a n.whole.cells with
   | false =>
    rw [if_pos rfl]
    refine ⟨fun h => (by cases h), ?_⟩
    rintro ⟨_, _, h3⟩
    cases a with
    | none => cases hb
    | some l =>
     have := (withinB_iff _ _).2 (h3 l n rfl rfl)
     rw [behindB, this] at hb; cases hb
   | true =>
    rw [if_neg (by simp), ih]
    constructor
    ·rintro ⟨g1, g2, g3⟩
     refine ⟨fun k x hx => ?_, fun k x y hx hy => ?_, fun l x hl hx => ?_⟩
     ·cases k with
      | zero => obtain rfl : n = x := by simpa using hx
           exact h1
      | succ k => exact g1 k x (by simpa using hx)
     ·cases k with
      | zero => obtain rfl : n = x := by simpa using hx
           exact g3 _ y rfl (by simpa using hy)
      | succ k => exact g2 k x y (by simpa using hx) (by simpa using hy)
     ·subst hl
      obtain rfl : n = x := by simpa using hx
      exact (withinB_iff _ _).1 hb
    ·rintro ⟨g1, g2, _⟩
     refine ⟨fun k x hx => g1 (k + 1) x (by simpa using hx), fun k x y hx hy => g2 (k + 1) x y (by simpa using hx) (by simpa using hy), fun l x hl hx => ?_⟩
     injection hl with hl
     rw [← hl]
     exact g2 0 n x rfl (by simpa using hx)
  ·rw [if_pos h1]
   exact ⟨fun h => absurd h h1, fun h => absurd (h.1 0 n rfl) h1⟩
theorem ckCls_zero (ns : List Nd) : ∀ (cs : List Cl), ckCls ns cs = 0 ↔ ∀ c, c ∈ cs → c.ck = 0 ∧ c.lost ns = false
 | [] => ⟨fun _ c hc => (by cases hc), fun _ => rfl⟩
 | c :: r => by
  have ih := ckCls_zero ns r
  rw [ckCls]
  by_cases h1 : c.ck = 0
  ·rw [if_neg (by simpa using h1)]
   cases hl : c.lost ns with
   | true => rw [if_pos rfl]; exact ⟨fun h => (by cases h), fun h => by rw [(h c (by simp)).2] at hl; cases hl⟩
   | false =>
    rw [if_neg (by simp), ih]
    exact ⟨fun h x hx => (List.mem_cons.1 hx).elim (fun e => e ▸ ⟨h1, hl⟩) (h x), fun h x hx => h x (List.mem_cons_of_mem _ hx)⟩
  ·rw [if_pos h1]; exact ⟨fun h => absurd h h1, fun h => absurd (h c (by simp)).1 h1⟩
theorem rw_iff {w : Wd} : w.ck = 0 ↔ RW w := by
 rw [Wd.ck]
 by_cases h1 : w.ns.length = 3 ∧ w.cs.length = 3
 ·rw [if_neg (not_not_intro h1)]
  by_cases h2 : (0 ≤ w.tip ∧ w.tip ≤ 60) ∧ (0 ≤ w.t ∧ w.t ≤ 100000)
  ·rw [if_neg (not_not_intro h2)]
   by_cases h3 : ckNds none w.ns = 0
   ·rw [if_neg (by simpa using h3), ckCls_zero]
    obtain ⟨g1, g2, _⟩ := (ckNds_zero w.ns none).1 h3
    exact ⟨fun h => ⟨h1.1, h1.2, h2.1, h2.2, g1, g2, fun c hc => (h c hc).1, fun c hc => (h c hc).2⟩, fun h c hc => ⟨h.client c hc, h.holds c hc⟩⟩
   ·rw [if_pos h3]
    exact ⟨fun h => absurd h h3, fun h => absurd ((ckNds_zero w.ns none).2 ⟨h.node, h.behind, fun l n hl => by cases hl⟩) h3⟩
  ·rw [if_pos h2]; exact ⟨fun h => (by cases h), fun h => absurd ⟨h.tip, h.time⟩ h2⟩
 ·rw [if_pos h1]; exact ⟨fun h => (by cases h), fun h => absurd ⟨h.ns3, h.cs3⟩ h1⟩
theorem RW.nd_at {w : Wd} (h : RW w) {k : Int} (hk : 0 ≤ k ∧ k ≤ 2) : w.ns[k.toNat]? = some (w.nd k) := by
 have hl : k.toNat < w.ns.length := by rw [h.ns3]; omega
 rw [Wd.nd, List.getD_eq_getElem?_getD, List.getElem?_eq_getElem hl]; rfl
theorem RW.cl_at {w : Wd} (h : RW w) {k : Int} (hk : 0 ≤ k ∧ k ≤ 2) : w.cs[k.toNat]? = some (w.cl k) := by
 have hl : k.toNat < w.cs.length := by rw [h.cs3]; omega
 rw [Wd.cl, List.getD_eq_getElem?_getD, List.getElem?_eq_getElem hl]; rfl
theorem RW.nck {w : Wd} (h : RW w) {k : Int} (hk : 0 ≤ k ∧ k ≤ 2) : (w.nd k).ck = 0 := h.node _ _ (h.nd_at hk)
theorem RW.cck {w : Wd} (h : RW w) {k : Int} (hk : 0 ≤ k ∧ k ≤ 2) : (w.cl k).ck = 0 := h.client _ (List.mem_of_getElem? (h.cl_at hk))
theorem RW.clost {w : Wd} (h : RW w) {k : Int} (hk : 0 ≤ k ∧ k ≤ 2) : (w.cl k).lost w.ns = false := h.holds _ (List.mem_of_getElem? (h.cl_at hk))
theorem us_at {ns : List Nd} {k : Nat} {n : Nd} (h : ns[k]? = some n) : (ns.map Nd.u)[k]? = some n.u := by rw [List.getElem?_map, h]; rfl
theorem RW.chain {w : Wd} (h : RW w) : ckChain w.us = 0 := by
 obtain ⟨ns, tip, cs, t⟩ := w
 have h3 := h.ns3
 simp only at h3
 match ns, h3 with
 | [n0, n1, n2], _ =>
  obtain ⟨_, _, R0⟩ := rn_of (h.node 0 n0 rfl)
  obtain ⟨_, _, R1⟩ := rn_of (h.node 1 n1 rfl)
  obtain ⟨_, _, R2⟩ := rn_of (h.node 2 n2 rfl)
  exact ckChain_zero.2 ⟨n0.u, n1.u, n2.u, rfl, R0.uck, R1.uck, R2.uck, within_trans R1.grows (h.behind 0 n0 n1 rfl rfl), within_trans R2.grows (h.behind 1 n1 n2 rfl rfl)⟩
theorem plc_at {us : List Un} {k a : Nat} {u : Un} {e : En} (hk : us[k]? = some u) (ha : u.cells[a]? = some e) : plc us k a = e := by
 have e1 : us.getD k Un.zero = u := by rw [List.getD_eq_getElem?_getD, hk]; rfl
 unfold plc
 rw [e1, List.getD_eq_getElem?_getD, ha]; rfl
theorem lost_iff {ns : List Nd} {c : Cl} : c.lost ns = false ↔ (c.d = 2 → 0 < c.l → plcN ns (c.l.toNat - 1) c.a.toNat = c.e) := by
 rw [Cl.lost]
 by_cases h1 : c.d = 2
 ·by_cases h2 : 0 < c.l
  ·rw [decide_eq_true h1, decide_eq_true h2, Bool.true_and, Bool.true_and, ne_false]
   exact ⟨fun h _ _ => h, fun h => h h1 h2⟩
  ·rw [decide_eq_false h2]; simp [h2]
 ·rw [decide_eq_false h1]; simp [h1]
theorem lost_idle {ns : List Nd} {c : Cl} (h : c.d ≠ 2) : c.lost ns = false := lost_iff.2 fun h' => absurd h' h
theorem lost_first {ns : List Nd} {c : Cl} (h : c.l = 0) : c.lost ns = false := lost_iff.2 fun _ h' => by omega
theorem lost_grow {ns : List Nd} {c : Cl} {k : Nat} {n n' : Nd} (hn : ns[k]? = some n) (hu : n.u.ck = 0) (hw : Within n.u.cells n'.u.cells) (hc : c.ck = 0) (h : c.lost ns = false) : c.lost (ns.set k n') = false := lost_iff.2 fun hd hl => by
 have e := lost_iff.1 h hd hl
 have hck := Cl.ck_zero.1 hc
 have ha := (Cl.good hck.1).2.2.1
 by_cases hk : k = c.l.toNat - 1
 ·have h1 := plc_some (us := ns.map Nd.u) (k := k) (a := c.a.toNat) (us_at hn) hu (by omega)
  have e' : plc (ns.map Nd.u) k c.a.toNat = c.e := by rw [hk]; exact e
  rw [e'] at h1
  have h2 := within_at hw h1 (chk_notB hck.2.1)
  have hlt := (List.getElem?_eq_some_iff.1 hn).1
  rw [← hk]
  exact plc_at (us_at (List.getElem?_set_self hlt)) h2
 ·rw [← e]
  have e1 : (List.map Nd.u (ns.set k n')).getD (c.l.toNat - 1) Un.zero = (List.map Nd.u ns).getD (c.l.toNat - 1) Un.zero := by
   rw [List.getD_eq_getElem?_getD, List.getD_eq_getElem?_getD, List.getElem?_map, List.getElem?_map, List.getElem?_set_ne hk]
  unfold plcN plc
  rw [e1]
theorem RW.putN {w : Wd} (h : RW w) {k : Int} (hk : 0 ≤ k ∧ k ≤ 2) {n' : Nd} (h1 : n'.ck = 0) (h2 : Within (w.nd k).u.cells n'.u.cells) (h3 : ∀ j a, k.toNat = j + 1 → w.ns[j]? = some a → Within n'.whole.cells a.u.cells) : RW (w.putN k n') := by
 have hn := h.nd_at hk
 have hlt := (List.getElem?_eq_some_iff.1 hn).1
 obtain ⟨_, _, R⟩ := rn_of (h.nck hk)
 refine ⟨by show (w.ns.set _ _).length = 3; rw [List.length_set]; exact h.ns3, h.cs3, h.tip, h.time, fun j n hj => ?_, fun j a n ha hj => ?_, h.client, fun c hc => lost_grow hn R.uck h2 (h.client c hc) (h.holds c hc)⟩
 ·change (w.ns.set _ _)[j]? = some n at hj
  by_cases hjk : k.toNat = j
  ·subst hjk
   rw [List.getElem?_set_self hlt] at hj
   rw [← Option.some.inj hj]; exact h1
  ·rw [List.getElem?_set_ne hjk] at hj
   exact h.node j n hj
 ·change (w.ns.set _ _)[j]? = some a at ha
  change (w.ns.set _ _)[j + 1]? = some n at hj
  by_cases hj1 : k.toNat = j + 1
  ·rw [← hj1, List.getElem?_set_self hlt] at hj
   rw [List.getElem?_set_ne (by omega)] at ha
   rw [← Option.some.inj hj]
   exact h3 j a hj1 ha
  ·rw [List.getElem?_set_ne hj1] at hj
   by_cases hj0 : k.toNat = j
   ·subst hj0
    rw [List.getElem?_set_self hlt] at ha
    rw [← Option.some.inj ha]
    exact within_trans (h.behind _ _ n hn hj) h2
   ·rw [List.getElem?_set_ne hj0] at ha
    exact h.behind j a n ha hj
theorem RW.putC {w : Wd} (h : RW w) (k : Int) {c : Cl} (h1 : c.ck = 0) (h2 : c.lost w.ns = false) : RW (w.putC k c) := by
 refine ⟨h.ns3, by show (w.cs.set _ _).length = 3; rw [List.length_set]; exact h.cs3, h.tip, h.time, h.node, h.behind, fun x hx => ?_, fun x hx => ?_⟩
 ·rcases List.mem_or_eq_of_mem_set hx with hx | rfl
  ·exact h.client x hx
  ·exact h1
 ·rcases List.mem_or_eq_of_mem_set hx with hx | rfl
  ·exact h.holds x hx
  ·exact h2
theorem wantsE {c : Cl} (h : c.ck = 0) (hd : c.d = 1) : c.a = 0 ∧ c.l = 0 ∧ c.e.k ≠ 0 := by
 obtain ⟨ho, _, hf, _⟩ := Cl.ck_zero.1 h
 have hg := Cl.good ho
 rw [Cl.odd, if_neg (by omega), if_pos hd] at hf
 simp only [Bool.or_eq_false_iff, decide_eq_false_iff_not] at hf
 obtain ⟨h1, h2, h3⟩ := hf
 exact ⟨by omega, by omega, h3⟩
theorem want_ok {c : Cl} {x : En} (h : (wantOf c x).2 = 0) : c.ck = 0 ∧ c.d = 0 ∧ wantOf c x = (⟨c.p, 1, x, 0, 0, c.n, c.js, c.rs⟩, 0) ∧ (wantOf c x).1.ck = 0 := by
 unfold wantOf at h ⊢
 by_cases h1 : c.ck = 0
 ·rw [if_neg (by simpa using h1)] at h ⊢
  by_cases h2 : c.d = 0
  ·rw [if_neg (by simpa using h2)] at h ⊢
   by_cases h3 : x.chk = 0
   ·rw [if_neg (by simpa using h3)] at h ⊢
    by_cases h4 : x.k = 0
    ·rw [if_pos h4] at h; cases h
    ·rw [if_neg h4]
     have hr := rests h1 h2
     have e : (⟨c.p, 1, x, c.a, c.l, c.n, c.js, c.rs⟩ : Cl) = ⟨c.p, 1, x, 0, 0, c.n, c.js, c.rs⟩ := by rw [hr]
     refine ⟨h1, h2, by rw [e], ?_⟩
     rw [e]
     obtain ⟨ho, _, _, hb⟩ := Cl.ck_zero.1 h1
     have hg := Cl.good ho
     refine Cl.ck_zero.2 ⟨Cl.good_of ⟨hg.1, (show (0 : Int) ≤ 1 ∧ (1 : Int) ≤ 2 by decide), (show (0 : Int) ≤ 0 ∧ (0 : Int) ≤ 59 by decide), (show (0 : Int) ≤ 0 ∧ (0 : Int) ≤ 2 by decide), hg.2.2.2.2⟩, h3, ?_, hb⟩
     show (if (1 : Int) = 0 then _ else if (1 : Int) = 1 then decide ((0 : Int) < 0) || (decide ((0 : Int) < 0) || decide (x.k = 0)) else false) = false
     simp [h4]
   ·rw [if_pos h3] at h; exact absurd h h3
  ·rw [if_pos h2] at h; cases h
 ·rw [if_pos h1] at h; exact absurd h h1
theorem ring_ck {c : Cl} {me j t : Int} (h : (ringOf c me j t).2 = 0) : c.ck = 0 ∧ c.d = 0 ∧ (ringOf c me j t).1.ck = 0 ∧ (ringOf c me j t).1.d = 1 ∧ (ringOf c me j t).2 = 0 := by
 obtain ⟨h1, h2, _, _, z, _, _, h5, e⟩ := ring_ok h
 refine ⟨h1, h2, ?_, by rw [e], h⟩
 rw [e]
 obtain ⟨ho, _, _, hb⟩ := Cl.ck_zero.1 h1
 have hg := Cl.good ho
 exact Cl.ck_zero.2 ⟨Cl.good_of ⟨hg.1, (show (0 : Int) ≤ 1 ∧ (1 : Int) ≤ 2 by decide), (show (0 : Int) ≤ 0 ∧ (0 : Int) ≤ 59 by decide), (show (0 : Int) ≤ 0 ∧ (0 : Int) ≤ 2 by decide), hg.2.2.2.2⟩, h5, rfl, hb⟩
theorem place_ok {c : Cl} {a : Int} (h : (placeOf 1 c a).2 = 0) : c.ck = 0 ∧ (0 ≤ a ∧ a ≤ 59) ∧ placeOf 1 c a = (⟨c.p, 2, c.e, a, 0, c.n, c.js, c.rs⟩, 0) ∧ (placeOf 1 c a).1.ck = 0 := by
 unfold placeOf at h ⊢
 by_cases h1 : c.ck = 0
 ·rw [if_neg (by simpa using h1)] at h ⊢
  by_cases h2 : c.d = 1
  ·rw [if_neg (by simpa using h2)] at h ⊢
   by_cases h3 : 0 ≤ a ∧ a ≤ 59
   ·rw [if_neg (by simpa using h3)]
    obtain ⟨_, hl, _⟩ := wantsE h1 h2
    refine ⟨h1, h3, by rw [hl], ?_⟩
    obtain ⟨ho, he, _, hb⟩ := Cl.ck_zero.1 h1
    have hg := Cl.good ho
    exact Cl.ck_zero.2 ⟨Cl.good_of ⟨hg.1, (show (0 : Int) ≤ 2 ∧ (2 : Int) ≤ 2 by decide), h3, hg.2.2.2.1, hg.2.2.2.2⟩, he, rfl, hb⟩
   ·rw [if_pos h3] at h; cases h
  ·rw [if_pos h2] at h; cases h
 ·rw [if_pos h1] at h; exact absurd h h1
theorem learn_ok {c : Cl} {p : Int} (h : (learnOf c p).2 = 0) : c.ck = 0 ∧ learnOf c p = (⟨p, c.d, c.e, c.a, c.l, c.n, c.js, c.rs⟩, 0) ∧ (learnOf c p).1.ck = 0 := by
 unfold learnOf at h ⊢
 by_cases h1 : c.ck = 0
 ·rw [if_neg (by simpa using h1)] at h ⊢
  by_cases h2 : 1 ≤ p ∧ p ≤ 20
  ·rw [if_neg (by simpa using h2)] at h ⊢
   by_cases h3 : p ≤ c.p
   ·rw [if_pos h3] at h; cases h
   ·rw [if_neg h3]
    refine ⟨h1, rfl, ?_⟩
    obtain ⟨ho, he, hf, hb⟩ := Cl.ck_zero.1 h1
    have hg := Cl.good ho
    exact Cl.ck_zero.2 ⟨Cl.good_of ⟨h2, hg.2.1, hg.2.2.1, hg.2.2.2.1, hg.2.2.2.2⟩, he, hf, hb⟩
  ·rw [if_pos h2] at h; cases h
 ·rw [if_pos h1] at h; exact absurd h h1
theorem cnew_ck : cnew.ck = 0 := by decide
theorem hear_ok {c : Cl} {x : En} (h : c.ck = 0) (hd : c.d = 2) (hx : x.chk = 0) : (hearOf c x).2 = 0 ∧ (hearOf c x).1.ck = 0 ∧ ((hearOf c x).1.d ≠ 2 ∨ (hearOf c x).1 = ⟨c.p, c.d, x, c.a, c.l + 1, c.n, c.js, c.rs⟩) := by
 obtain ⟨ho, he, _, hb⟩ := Cl.ck_zero.1 h
 have hg := Cl.good ho
 rw [hearOf, if_neg (by simpa using h), if_neg (by simpa using hx), if_neg (by simpa using hd)]
 by_cases h1 : c.e.k ≠ 0 ∧ c.e.ne x = true
 ·rw [if_pos h1]
  refine ⟨rfl, Cl.ck_zero.2 ⟨Cl.good_of ⟨hg.1, (show (0 : Int) ≤ 1 ∧ (1 : Int) ≤ 2 by decide), (show (0 : Int) ≤ 0 ∧ (0 : Int) ≤ 59 by decide), (show (0 : Int) ≤ 0 ∧ (0 : Int) ≤ 2 by decide), hg.2.2.2.2⟩, he, ?_, hb⟩, Or.inl (by show (1 : Int) ≠ 2; decide)⟩
  show (if (1 : Int) = 0 then _ else if (1 : Int) = 1 then decide ((0 : Int) < 0) || (decide ((0 : Int) < 0) || decide (c.e.k = 0)) else false) = false
  simp [h1.1]
 ·rw [if_neg h1]
  by_cases h2 : c.l = 2
  ·rw [if_pos h2]
   exact ⟨rfl, Cl.ck_zero.2 ⟨Cl.good_of ⟨hg.1, (show (0 : Int) ≤ 0 ∧ (0 : Int) ≤ 2 by decide), (show (0 : Int) ≤ 0 ∧ (0 : Int) ≤ 59 by decide), (show (0 : Int) ≤ 0 ∧ (0 : Int) ≤ 2 by decide), hg.2.2.2.2⟩, (show En.zero.chk = 0 by decide), rfl, hb⟩, Or.inl (by show (0 : Int) ≠ 2; decide)⟩
  ·rw [if_neg h2]
   refine ⟨rfl, Cl.ck_zero.2 ⟨Cl.good_of ⟨hg.1, hg.2.1, hg.2.2.1, ?_, hg.2.2.2.2⟩, hx, ?_, hb⟩, Or.inr rfl⟩
   ·have := hg.2.2.2.1
    show 0 ≤ c.l + 1 ∧ c.l + 1 ≤ 2
    omega
   ·rw [Cl.odd]
    simp [hd]
end Go.Proofs.YtmoaobfmopimlafGreatDoor
