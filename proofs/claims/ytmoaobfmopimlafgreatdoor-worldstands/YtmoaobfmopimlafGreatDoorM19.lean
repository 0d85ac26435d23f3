/- For the law. -/
import Derived.Test.YtmoaobfmopimlafGreatDoorM18
set_option linter.unusedSimpArgs false
set_option linter.unusedVariables false
namespace Go.Proofs.YtmoaobfmopimlafGreatDoor
open Go.RowKit
theorem onN_ok {w : Wd} {k : Int} {r : Nd × Int} (h : (w.onN k r).2 = 0) : r.2 = 0 ∧ w.onN k r = (w.putN k r.1, 0) := by
 unfold Wd.onN at h ⊢
 by_cases hr : r.2 = 0
 ·exact ⟨hr, by rw [if_neg (by simpa using hr)]⟩
 ·rw [if_pos hr] at h; exact absurd h hr
theorem onC_ok {w : Wd} {k : Int} {r : Cl × Int} (h : (w.onC k r).2 = 0) : r.2 = 0 ∧ w.onC k r = (w.putC k r.1, 0) := by
 unfold Wd.onC at h ⊢
 by_cases hr : r.2 = 0
 ·exact ⟨hr, by rw [if_neg (by simpa using hr)]⟩
 ·rw [if_pos hr] at h; exact absurd h hr
theorem link_facts {w : Wd} (h : RW w) {c : Cl} (hl : (linkIn w.us c.l c.a c.e c.p).2.2 = 0) :
    (0 ≤ c.l ∧ c.l ≤ 2) ∧ (0 ≤ c.a ∧ c.a ≤ 59) ∧ (w.nd c.l).u.p = c.p ∧ ∃ r s, linkIn w.us c.l c.a c.e c.p = (r, s, 0) ∧ s.chk = 0 ∧
      (∀ j a, c.l.toNat = j + 1 → w.ns[j]? = some a → a.u.cells[c.a.toNat]? = some c.e) ∧ c.e.chk = 0 ∧
      ((r = Rc.zero ∧ (w.nd c.l).u.cells[c.a.toNat]? = some s) ∨
       (r = ⟨1, c.a, 0, c.e⟩ ∧ s = c.e ∧ (w.nd c.l).u.cells[c.a.toNat]? = some blankE ∧ unext (w.nd c.l).u r = (⟨(w.nd c.l).u.p, (w.nd c.l).u.cells.set c.a.toNat c.e⟩, 0))) := by
  rw [← linkOf_in h.chain] at hl ⊢
  obtain ⟨_, hk, ha, hx, hp, hah, hw⟩ := linkOf_ok hl
  have hn := h.nd_at hk
  obtain ⟨_, _, R⟩ := rn_of (h.nck hk)
  have hu := us_at hn
  have hpl : (w.nd c.l).u.cells[c.a.toNat]? = some (plc w.us c.l.toNat c.a.toNat) := plc_some hu R.uck (by omega)
  have hep : (w.nd c.l).u.p = c.p := by
    rw [← hp, List.getD_eq_getElem?_getD]
    show _ = (((w.ns.map Nd.u)[c.l.toNat]?).getD Un.zero).p
    rw [hu]; rfl
  have hahead : ∀ j a, c.l.toNat = j + 1 → w.ns[j]? = some a → a.u.cells[c.a.toNat]? = some c.e := fun j a hj hja => by
    obtain ⟨_, _, Ra⟩ := rn_of (h.node j a hja)
    have e := hah (by omega)
    have e2 : c.l.toNat - 1 = j := by omega
    rw [e2] at e
    rw [e]
    exact plc_some (us_at hja) Ra.uck (by omega)
  refine ⟨hk, ha, hep, ?_⟩
  rcases hw with ⟨hb, e⟩ | ⟨hb, e⟩
  · exact ⟨Rc.zero, plc w.us c.l.toNat c.a.toNat, e, cell_chk R.uck hpl hb, hahead, hx, Or.inl ⟨rfl, hpl⟩⟩
  · rw [En.isB_eq.1 hb] at hpl
    have hwr := unext_write R.uck (a := c.a.toNat) (by omega) hx hpl
    rw [Int.toNat_of_nonneg ha.1] at hwr
    exact ⟨_, c.e, e, hx, hahead, hx, Or.inr ⟨rfl, rfl, hpl, hwr⟩⟩
structure Wrote (w : Wd) (c : Cl) (n' : Nd) (s : En) : Prop where
 ck : n'.ck = 0
 grows : Within (w.nd c.l).u.cells n'.u.cells
 behind : ∀ j a, c.l.toNat = j + 1 → w.ns[j]? = some a → Within n'.whole.cells a.u.cells
 place : n'.u.cells[c.a.toNat]? = some s
 ep : n'.u.p = (w.nd c.l).u.p
 up : n'.up = true
theorem any_ok {w : Wd} (h : RW w) {c : Cl} {r : Rc} {s : En} (hl : linkIn w.us c.l c.a c.e c.p = (r, s, 0)) (hup : (w.nd c.l).up = true) (hw : ((w.nd c.l).writeAny r).2 = 0) : Wrote w c ((w.nd c.l).writeAny r).1 s := by
 obtain ⟨hk, ha, hep, r', s', e, hs, hah, hx, hc⟩ := link_facts h (c := c) (by rw [hl])
 rw [hl] at e
 obtain rfl : r = r' := congrArg Prod.fst e
 obtain rfl : s = s' := congrArg (fun q => q.2.1) e
 have hn := h.nd_at hk
 obtain ⟨_, _, R⟩ := rn_of (h.nck hk)
 rcases hc with ⟨rfl, hp⟩ | ⟨rfl, rfl, hb, hun⟩
 ·have e : (w.nd c.l).writeAny Rc.zero = (w.nd c.l, 0) := by rw [Nd.writeAny, if_pos (show Rc.zero.k = 0 from rfl)]
  rw [e]
  exact ⟨h.nck hk, within_refl _, fun j a hj hja => h.behind j a _ hja (by rw [← hj]; exact hn), hp, rfl, hup⟩
 ·have e : (w.nd c.l).writeAny ⟨1, c.a, 0, c.e⟩ = (w.nd c.l).write ⟨1, c.a, 0, c.e⟩ := by rw [Nd.writeAny, if_neg (by simp)]
  rw [e] at hw ⊢
  obtain ⟨_, h2, e3, h4, h5⟩ := write_ok (h.nck hk) hup hw
  have hl60 := (Un.ck_zero.1 R.uck).2.1
  refine ⟨h4, ?_, fun j a hj hja => ?_, ?_, ?_, ?_⟩
  ·rw [e3]; exact unext_within h2
  ·rw [h5, hun]
   exact within_set (within_trans R.grows (h.behind j a _ hja (by rw [← hj]; exact hn))) (hah j a hj hja)
  ·rw [e3, hun]
   show ((w.nd c.l).u.cells.set c.a.toNat c.e)[c.a.toNat]? = some c.e
   rw [List.getElem?_set_self (by omega)]
  ·rw [e3, hun]
  ·rw [e3]
structure Step (w y : Wd) (x : Hp) : Prop where
 right : RW y
 time : w.t ≤ y.t
 others : ∀ k : Nat, (k : Int) ≠ x.c → y.cs[k]? = w.cs[k]?
 nodes : ∃ j : Nat, ∀ k : Nat, k ≠ j → y.ns[k]? = w.ns[k]?
 grows : ∀ (k : Nat) (n m : Nd), w.ns[k]? = some n → y.ns[k]? = some m → Within n.u.cells m.u.cells
theorem grows_same {ns : List Nd} : ∀ (k : Nat) (n m : Nd), ns[k]? = some n → ns[k]? = some m → Within n.u.cells m.u.cells := fun k n m h1 h2 => by
 rw [h1] at h2
 rw [Option.some.inj h2]
 exact within_refl _
theorem step_putC {w : Wd} (h : RW w) {x : Hp} (hx : 0 ≤ x.c ∧ x.c ≤ 2) {c : Cl} (h1 : c.ck = 0) (h2 : c.lost w.ns = false) : Step w (w.putC x.c c) x :=
 ⟨h.putC _ h1 h2, Int.le_refl _, fun k hk => by show (w.cs.set _ _)[k]? = _; rw [List.getElem?_set_ne (by omega)], ⟨0, fun _ _ => rfl⟩, grows_same⟩
theorem step_putN {w : Wd} (h : RW w) (x : Hp) {k : Int} (hk : 0 ≤ k ∧ k ≤ 2) {n' : Nd} (h1 : n'.ck = 0) (h2 : Within (w.nd k).u.cells n'.u.cells) (h3 : ∀ j a, k.toNat = j + 1 → w.ns[j]? = some a → Within n'.whole.cells a.u.cells) : Step w (w.putN k n') x := by
 have hn := h.nd_at hk
 have hlt := (List.getElem?_eq_some_iff.1 hn).1
 refine ⟨h.putN hk h1 h2 h3, Int.le_refl _, fun _ _ => rfl, ⟨k.toNat, fun j hj => by show (w.ns.set _ _)[j]? = _; rw [List.getElem?_set_ne (fun e => hj e.symm)]⟩, fun j n m hj hm => ?_⟩
 change (w.ns.set _ _)[j]? = some m at hm
 by_cases e : k.toNat = j
 ·subst e
  rw [List.getElem?_set_self hlt] at hm
  rw [hn] at hj
  rw [← Option.some.inj hj, ← Option.some.inj hm]
  exact h2
 ·rw [List.getElem?_set_ne e] at hm
  exact grows_same j n m hj hm
theorem step_node {w : Wd} (h : RW w) {x : Hp} (h0 : (atNode w x).2 = 0) : Step w (atNode w x).1 x := by
 rw [atNode] at h0 ⊢
 by_cases g : 0 ≤ x.n ∧ x.n ≤ 2
 ·rw [if_neg (by simpa using g)] at h0 ⊢
  have hn := h.nd_at g
  have hck := h.nck g
  obtain ⟨_, _, R⟩ := rn_of hck
  have hbe : ∀ j a, x.n.toNat = j + 1 → w.ns[j]? = some a → Within (w.nd x.n).whole.cells a.u.cells := fun j a hj hja => h.behind j a _ hja (by rw [← hj]; exact hn)
  by_cases k13 : x.k = 13
  ·rw [if_pos k13] at h0 ⊢
   obtain ⟨h1, e⟩ := onN_ok h0
   rw [e]
   have hup : (w.nd x.n).up = false := by
    cases hu : (w.nd x.n).up with
    | false => rfl
    | true => rw [Nd.boot, hu, if_pos rfl] at h1; cases h1
   obtain ⟨e2, h2, h3⟩ := boot_ok hck hup
   exact step_putN h x g h2 (by rw [e2]; exact R.grows) (by rw [h3]; exact hbe)
  ·rw [if_neg k13] at h0 ⊢
   cases hup : (w.nd x.n).up with
   | false => rw [hup, if_pos rfl] at h0; cases h0
   | true =>
    rw [hup, if_neg (by simp)] at h0
    rw [if_neg (by simp)]
    have hwu := (R.upw hup).2
    by_cases k8 : x.k = 8
    ·rw [if_pos k8] at h0 ⊢
     obtain ⟨h1, e⟩ := onN_ok h0
     rw [e]
     obtain ⟨_, h2, e3, h4, h5⟩ := write_ok hck hup h1
     have hcells : (unext (w.nd x.n).u ⟨2, 0, x.p, En.zero⟩).1.cells = (w.nd x.n).u.cells := by
      rcases (unext_ok h2).2.2 with ⟨_, _, _, e⟩ | ⟨e, _⟩
      ·rw [e]
      ·cases e
     exact step_putN h x g h4 (by rw [e3]; exact unext_within h2) (by rw [h5, hcells, ← hwu]; exact hbe)
    ·rw [if_neg k8] at h0 ⊢
     by_cases k9 : x.k = 9
     ·rw [if_pos k9] at h0 ⊢
      rw [learnAt] at h0 ⊢
      by_cases gc : 0 ≤ x.c ∧ x.c ≤ 2
      ·rw [if_neg (by simpa using gc)] at h0 ⊢
       obtain ⟨h1, e⟩ := onC_ok h0
       rw [e]
       obtain ⟨_, e2, h3⟩ := learn_ok h1
       refine step_putC h gc h3 ?_
       rw [e2]
       exact h.clost gc
      ·rw [if_pos gc] at h0; cases h0
     ·rw [if_neg k9]
      obtain ⟨h1, h2, _⟩ := crash_ok hck hup
      exact step_putN h x g h1 (within_refl _) (by rw [h2, ← hwu]; exact hbe)
 ·rw [if_pos g] at h0; cases h0
theorem step_client {w : Wd} (h : RW w) {x : Hp} (h0 : (atClient w x).2 = 0) : Step w (atClient w x).1 x := by
 rw [atClient] at h0 ⊢
 by_cases g : 0 ≤ x.c ∧ x.c ≤ 2
 ·rw [if_neg (by simpa using g)] at h0 ⊢
  by_cases hd : (doesAt w (w.cl x.c) x).2 = 0
  ·rw [if_neg (by simpa using hd)]
   have key : (doesAt w (w.cl x.c) x).1.ck = 0 ∧ (doesAt w (w.cl x.c) x).1.lost w.ns = false ∧ (x.k = 3 → w.tip + 1 ≤ 60) := by
    clear h0
    have hcl := h.clost g
    have hck := h.cck g
    revert hd
    unfold doesAt
    by_cases k1 : x.k = 1
    ·rw [if_pos k1]
     by_cases ke : x.e.k = 3
     ·rw [if_pos ke]; intro hd; cases hd
     ·rw [if_neg ke]; intro hd
      obtain ⟨_, _, e, h1⟩ := want_ok hd
      exact ⟨h1, by rw [e]; exact lost_first rfl, fun k => by omega⟩
    rw [if_neg k1]
    by_cases k2 : x.k = 2
    ·rw [if_pos k2]; intro hd
     obtain ⟨_, _, h1, h2, _⟩ := ring_ck hd
     exact ⟨h1, lost_idle (by rw [h2]; decide), fun k => by omega⟩
    rw [if_neg k2]
    by_cases k3 : x.k = 3
    ·rw [if_pos k3]
     by_cases kt : w.tip = 60
     ·rw [if_pos kt]; intro hd; cases hd
     ·rw [if_neg kt]; intro hd
      obtain ⟨_, ha, e, h1⟩ := place_ok hd
      exact ⟨h1, by rw [e]; exact lost_first rfl, fun _ => by omega⟩
    rw [if_neg k3]
    by_cases k6 : x.k = 6
    ·rw [if_pos k6]; intro hd
     by_cases ha : 0 ≤ x.n ∧ x.n ≤ 59
     ·obtain ⟨f1, f2⟩ := fill_ok hck ha
      obtain ⟨e, h1⟩ := f2 (f1.1 hd)
      exact ⟨h1, by rw [e]; exact lost_first rfl, fun k => absurd k k3⟩
     ·rw [placeOf, if_neg (by simpa using hck)] at hd
      by_cases hz : (w.cl x.c).d = 0
      ·rw [if_neg (by simpa using hz), if_pos ha] at hd; cases hd
      ·rw [if_pos hz] at hd; cases hd
    rw [if_neg k6]
    by_cases k7 : x.k = 7
    ·rw [if_pos k7, playAt]
     by_cases p1 : (w.cl x.c).n = 60
     ·rw [if_pos p1]; intro hd; cases hd
     ·rw [if_neg p1]
      cases p2 : (w.nd 2).up with
      | false => rw [if_pos rfl]; intro hd; cases hd
      | true =>
       rw [if_neg (by simp)]
       by_cases p3 : (readIn w.us (w.cl x.c).n).2 = 0
       ·rw [if_neg (by simpa using p3)]; intro hd
        obtain ⟨_, _, _, e, h1⟩ := play_ok hd
        refine ⟨h1, ?_, fun k => absurd k k3⟩
        rw [e]
        exact hcl
       ·rw [if_pos p3]; intro hd; exact absurd hd p3
    rw [if_neg k7]
    intro _
    exact ⟨cnew_ck, lost_first rfl, fun k => absurd k k3⟩
   obtain ⟨q1, q2, q3⟩ := key
   have S := step_putC h g q1 q2
   refine ⟨⟨S.right.ns3, S.right.cs3, ?_, S.right.time, S.right.node, S.right.behind, S.right.client, S.right.holds⟩, Int.le_refl _, S.others, S.nodes, S.grows⟩
   have ht := h.tip
   show 0 ≤ (if x.k = 3 then w.tip + 1 else w.tip) ∧ (if x.k = 3 then w.tip + 1 else w.tip) ≤ 60
   by_cases k3 : x.k = 3
   ·rw [if_pos k3]; have := q3 k3; omega
   ·rw [if_neg k3]; exact ht
  ·rw [if_pos hd] at h0; exact absurd h0 hd
 ·rw [if_pos g] at h0; cases h0
theorem hear_right {w : Wd} (h : RW w) {who : Int} (g : 0 ≤ who ∧ who ≤ 2) (hd : (w.cl who).d = 2) {n' : Nd} {s : En} (hk : 0 ≤ (w.cl who).l ∧ (w.cl who).l ≤ 2) (hs : s.chk = 0) (H : Wrote w (w.cl who) n' s) :
  (hearOf (w.cl who) s).2 = 0 ∧ (hearOf (w.cl who) s).1.ck = 0 ∧ (hearOf (w.cl who) s).1.lost (w.putN (w.cl who).l n').ns = false := by
 obtain ⟨h1, h2, h3⟩ := hear_ok (h.cck g) hd hs
 refine ⟨h1, h2, ?_⟩
 rcases h3 with h3 | h3
 ·exact lost_idle h3
 ·rw [h3]
  refine lost_iff.2 fun _ _ => ?_
  have hlt := (List.getElem?_eq_some_iff.1 (h.nd_at hk)).1
  have e : ((w.cl who).l + 1).toNat - 1 = (w.cl who).l.toNat := by omega
  show plcN (w.ns.set _ n') (((w.cl who).l + 1).toNat - 1) (w.cl who).a.toNat = s
  rw [e]
  exact plc_at (us_at (List.getElem?_set_self hlt)) H.place
theorem step_link {w : Wd} (h : RW w) {x : Hp} (h0 : (atLink w x).2 = 0) : Step w (atLink w x).1 x := by
 rw [atLink] at h0 ⊢
 by_cases g : 0 ≤ x.c ∧ x.c ≤ 2
 ·rw [if_neg (by simpa using g)] at h0 ⊢
  by_cases g2 : (w.cl x.c).d ≠ 2 ∨ (w.nd (w.cl x.c).l).up = false
  ·rw [if_pos g2] at h0; cases h0
  ·rw [if_neg g2] at h0 ⊢
   have hd : (w.cl x.c).d = 2 := Classical.byContradiction fun hh => g2 (Or.inl hh)
   have hup : (w.nd (w.cl x.c).l).up = true := by
    cases hu : (w.nd (w.cl x.c).l).up with
    | true => rfl
    | false => exact absurd (Or.inr hu) g2
   rw [goAt] at h0 ⊢
   by_cases gl : (linkIn w.us (w.cl x.c).l (w.cl x.c).a (w.cl x.c).e (w.cl x.c).p).2.2 = 0
   ·rw [if_neg (by simpa using gl)] at h0 ⊢
    obtain ⟨hk, ha, hep, r, s, e, hs, hah, hx, hc⟩ := link_facts h gl
    have hn := h.nd_at hk
    have hck := h.nck hk
    obtain ⟨_, _, R⟩ := rn_of hck
    have hbe : ∀ j a, (w.cl x.c).l.toNat = j + 1 → w.ns[j]? = some a → Within (w.nd (w.cl x.c).l).u.cells a.u.cells := fun j a hj hja => within_trans R.grows (h.behind j a _ hja (by rw [← hj]; exact hn))
    rw [e] at h0 ⊢
    by_cases k15 : x.k = 15
    ·rw [if_pos k15] at h0 ⊢
     obtain ⟨h1, e2⟩ := onN_ok h0
     rw [e2]
     rcases hc with ⟨rfl, _⟩ | ⟨rfl, rfl, hb, hun⟩
     ·rw [Nd.tear, if_pos (show Rc.zero.k = 0 from rfl)] at h1; cases h1
     ·obtain ⟨t1, t2, t3, t4⟩ := tear_ok hck hup (by rw [hun]) h1
      refine step_putN h x hk t1 (by rw [t2]; exact within_refl _) (fun j a hj hja => ?_)
      rcases t4 with ⟨t4, _⟩ | ⟨t4, _⟩
      ·rw [t4]; exact hbe j a hj hja
      ·rw [t4, hun]; exact within_set (hbe j a hj hja) (hah j a hj hja)
    ·rw [if_neg k15] at h0 ⊢
     by_cases k5 : x.k = 5
     ·rw [if_pos k5] at h0 ⊢
      obtain ⟨h1, e2⟩ := onN_ok h0
      rw [e2]
      have H := any_ok h e hup h1
      exact step_putN h x hk H.ck H.grows H.behind
     ·rw [if_neg k5] at h0 ⊢
      rw [hearAt] at h0 ⊢
      by_cases hw : ((w.nd (w.cl x.c).l).writeAny r).2 = 0
      ·rw [if_neg (by simpa using hw)] at h0 ⊢
       have H := any_ok h e hup hw
       obtain ⟨q1, q2, q3⟩ := hear_right h g hd hk hs H
       rw [if_neg (by simpa using q1)]
       have S1 := step_putN h x hk H.ck H.grows H.behind
       have S2 := step_putC S1.right g q2 q3
       refine ⟨S2.right, Int.le_refl _, fun k hk => ?_, S1.nodes, S1.grows⟩
       rw [S2.others k hk]; rfl
      ·rw [if_pos hw] at h0; exact absurd h0 hw
   ·rw [if_pos gl] at h0; exact absurd h0 gl
 ·rw [if_pos g] at h0; cases h0
theorem happened_step {w : Wd} (h : RW w) {x : Hp} (h0 : (happened w x).2 = 0) : Step w (happened w x).1 x := by
 rw [happened] at h0 ⊢
 by_cases k1 : x.k = 10
 ·rw [if_pos k1] at h0 ⊢
  rw [tipOf] at h0 ⊢
  by_cases g : 0 ≤ x.n ∧ x.n ≤ 60
  ·rw [if_neg (by simpa using g)]
   exact ⟨⟨h.ns3, h.cs3, g, h.time, h.node, h.behind, h.client, h.holds⟩, Int.le_refl _, fun _ _ => rfl, ⟨0, fun _ _ => rfl⟩, grows_same⟩
  ·rw [if_pos g] at h0; cases h0
 rw [if_neg k1] at h0 ⊢
 by_cases k2 : x.k = 11
 ·rw [if_pos k2] at h0 ⊢
  rw [tickOf] at h0 ⊢
  by_cases g : 1 ≤ x.n ∧ x.n ≤ 100000 - w.t
  ·rw [if_neg (by simpa using g)]
   have ht := h.time
   exact ⟨⟨h.ns3, h.cs3, h.tip, (show 0 ≤ w.t + x.n ∧ w.t + x.n ≤ 100000 by omega), h.node, h.behind, h.client, h.holds⟩, (show w.t ≤ w.t + x.n by omega), fun _ _ => rfl, ⟨0, fun _ _ => rfl⟩, grows_same⟩
  ·rw [if_pos g] at h0; cases h0
 rw [if_neg k2] at h0 ⊢
 by_cases k3 : x.k = 8 ∨ x.k = 9 ∨ x.k = 12 ∨ x.k = 13
 ·rw [if_pos k3] at h0 ⊢
  exact step_node h h0
 rw [if_neg k3] at h0 ⊢
 by_cases k4 : x.k = 4 ∨ x.k = 5 ∨ x.k = 15
 ·rw [if_pos k4] at h0 ⊢
  exact step_link h h0
 rw [if_neg k4] at h0 ⊢
 by_cases k5 : x.k = 1 ∨ x.k = 2 ∨ x.k = 3 ∨ x.k = 6 ∨ x.k = 7 ∨ x.k = 14
 ·rw [if_pos k5] at h0 ⊢
  exact step_client h h0
 rw [if_neg k5] at h0
 cases h0
theorem set_self {α : Type} : ∀ (l : List α) (k : Nat) (x : α), l[k]? = some x → l.set k x = l
 | [], _, _, _ => rfl
 | y :: r, 0, x, h => by obtain rfl : y = x := by simpa using h
             rfl
 | y :: r, k + 1, x, h => by rw [List.set_cons_succ, set_self r k x (by simpa using h)]
theorem putN_self {w : Wd} (h : RW w) {k : Int} (hk : 0 ≤ k ∧ k ≤ 2) : w.putN k (w.nd k) = w := by
 rw [Wd.putN, set_self _ _ _ (h.nd_at hk)]
theorem putN_putN (w : Wd) (k : Int) (a b : Nd) : (w.putN k a).putN k b = w.putN k b := by
 show (⟨(w.ns.set _ a).set _ b, _, _, _⟩ : Wd) = _
 rw [List.set_set]; rfl
theorem nd_putN {w : Wd} (h : RW w) {k : Int} (hk : 0 ≤ k ∧ k ≤ 2) (n : Nd) : (w.putN k n).nd k = n := by
 have hlt := (List.getElem?_eq_some_iff.1 (h.nd_at hk)).1
 show (w.ns.set _ n).getD _ _ = n
 rw [List.getD_eq_getElem?_getD, List.getElem?_set_self hlt]; rfl
def hp (k c n : Int) : Hp := ⟨k, c, n, 0, 0, En.zero⟩
theorem hp_boot (w : Wd) (k : Int) : happened w (hp 13 0 k) = atNode w (hp 13 0 k) := rfl
theorem hp_crash (w : Wd) (k : Int) : happened w (hp 12 0 k) = atNode w (hp 12 0 k) := rfl
theorem boot_at {w : Wd} {k : Int} (hk : 0 ≤ k ∧ k ≤ 2) {n : Nd} (h : (w.nd k).boot = (n, 0)) : happened w (hp 13 0 k) = (w.putN k n, 0) := by
 rw [hp_boot, atNode, if_neg (by simpa [hp] using hk), if_pos (by simp [hp])]
 show w.onN k (w.nd k).boot = _
 rw [h, Wd.onN, if_neg (by simp)]
theorem stands_facts {w : Wd} (h : RW w) {k : Int} (hk : 0 ≤ k ∧ k ≤ 2) (hup : (w.nd k).up = true) :
  ∃ x, happened w (hp 12 0 k) = (x, 0) ∧ RW x ∧ (x.nd k).up = false ∧ happened x (hp 13 0 k) = (w, 0) := by
 obtain ⟨h1, h2, h3⟩ := crash_ok (h.nck hk) hup
 have e : happened w (hp 12 0 k) = (w.putN k ⟨(w.nd k).u, (w.nd k).s, (w.nd k).w, false⟩, 0) := by
  rw [hp_crash, atNode, if_neg (by simpa [hp] using hk), if_neg (by simp [hp])]
  show (if (w.nd k).up = false then _ else _) = _
  rw [hup, if_neg (by simp), if_neg (by simp [hp]), if_neg (by simp [hp])]
  rfl
 have S := happened_step h (x := hp 12 0 k) (by rw [e])
 rw [e] at S
 refine ⟨_, e, S.right, by rw [nd_putN h hk], ?_⟩
 have hb : ((w.putN k ⟨(w.nd k).u, (w.nd k).s, (w.nd k).w, false⟩).nd k).boot = (w.nd k, 0) := by rw [nd_putN h hk]; exact h3
 rw [boot_at hk hb, putN_putN, putN_self h hk]
theorem happened_stay {w : Wd} {x : Hp} (h0 : (happened w x).2 ≠ 0) : (happened w x).1 = w := by
 have onN : ∀ (k : Int) (r : Nd × Int), (w.onN k r).2 ≠ 0 → (w.onN k r).1 = w := fun k r h => by
  unfold Wd.onN at h ⊢
  by_cases hr : r.2 = 0
  ·rw [if_neg (by simpa using hr)] at h; exact absurd rfl h
  ·rw [if_pos hr]
 have onC : ∀ (k : Int) (r : Cl × Int), (w.onC k r).2 ≠ 0 → (w.onC k r).1 = w := fun k r h => by
  unfold Wd.onC at h ⊢
  by_cases hr : r.2 = 0
  ·rw [if_neg (by simpa using hr)] at h; exact absurd rfl h
  ·rw [if_pos hr]
 revert h0
 unfold happened
 repeat' split
 ·unfold tipOf; split
  ·exact fun _ => rfl
  ·exact fun h => absurd rfl h
 ·unfold tickOf; split
  ·exact fun _ => rfl
  ·exact fun h => absurd rfl h
 ·unfold atNode learnAt
  repeat' split
  all_goals first | exact fun _ => rfl | exact onN _ _ | exact onC _ _ | exact fun h => absurd rfl h
 ·unfold atLink goAt hearAt
  repeat' split
  all_goals first | exact fun _ => rfl | exact onN _ _ | exact onC _ _ | exact fun h => absurd rfl h
 ·unfold atClient
  repeat' split
  all_goals first | exact fun _ => rfl | exact fun h => absurd rfl h
 ·exact fun _ => rfl
theorem happened_right {w : Wd} (h : RW w) (x : Hp) : RW (happened w x).1 := by
 by_cases h0 : (happened w x).2 = 0
 ·exact (happened_step h h0).right
 ·rw [happened_stay h0]; exact h
theorem runL_right : ∀ (l : List Hp) {w : Wd}, RW w → RW (runL w l).1
 | [], _, h => h
 | x :: r, _, h => runL_right r (happened_right h x)
theorem runL_append : ∀ (a b : List Hp) (w : Wd), runL w (a ++ b) = ((runL (runL w a).1 b).1, (runL w a).2 ++ (runL (runL w a).1 b).2)
 | [], _, _ => rfl
 | x :: a, b, w => by rw [List.cons_append, runL, runL_append a b, runL]; rfl
theorem runL_snoc (l : List Hp) (w : Wd) (x : Hp) : runL w (l ++ [x]) = ((happened (runL w l).1 x).1, (runL w l).2 ++ [(happened (runL w l).1 x).2]) := by
 rw [runL_append]; rfl
structure NAt (w : World) (g o : Nat) (NC : List Value) (x : Nb) : Prop where
 blk : w.heap[g]? = some (.cells NC.toArray 49)
 place : ∀ (i : Nat) (v : Value), x.cells[i]? = some v → NC[o + i]? = some v
 rows : NodeT w x
theorem NAt.later {w w' : World} {g o : Nat} {NC : List Value} {x : Nb} (h : NAt w g o NC x) (hb : Below w.heap.size w w') : NAt w' g o NC x := ⟨heap_below h.blk hb (heap_lt h.blk), h.place, h.rows.later hb⟩
theorem NAt.cell {w : World} {g o : Nat} {NC : List Value} {x : Nb} (h : NAt w g o NC x) {i : Nat} {v : Value} (hv : x.cells[i]? = some v) : w.cell? ⟨g, o + i, none⟩ = some v := by
 rw [Joins.cell_of_block h.blk]
 simpa using h.place i v hv
theorem NAt.fz {w : World} {g o : Nat} {NC : List Value} {x : Nb} (h : NAt w g o NC x) (i : Nat) : w.frozen? ⟨g, i, none⟩ = false := Joins.unfrozen_of_block h.blk i
def st4 (w : World) (g o : Nat) (y : Nb) : World := (((w.setCell ⟨g, o, none⟩ (.int .i64 y.n.u.p)).setCell ⟨g, o + 1, none⟩ y.vc).setCell ⟨g, o + 2, none⟩ y.vs).setCell ⟨g, o + 3, none⟩ y.vw
def st3 (w : World) (g o : Nat) (y : Nb) : World := ((w.setCell ⟨g, o + 2, none⟩ y.vs).setCell ⟨g, o + 3, none⟩ y.vw).setCell ⟨g, o + 4, none⟩ (.bool y.n.up)
def st5 (w : World) (g o : Nat) (y : Nb) : World := (st4 w g o y).setCell ⟨g, o + 4, none⟩ (.bool y.n.up)
def Post (st : World → Nat → Nat → Nb → World) (w w' : World) (g o : Nat) (x : Nb) (n' : Nd) : Prop :=
 ∃ w1, Below w.heap.size w w1 ∧ ((w' = w1 ∧ n' = x.n) ∨ ∃ y, NodeT w1 y ∧ y.n = n' ∧ w' = st w1 g o y)
def Post3 (w w' : World) (g o : Nat) (x : Nb) (n' : Nd) : Prop :=
 ∃ w1, Below w.heap.size w w1 ∧ ((w' = w1 ∧ n' = x.n) ∨ ∃ y, NodeT w1 y ∧ y.n = n' ∧ y.vc = x.vc ∧ w' = st3 w1 g o y)
theorem mem_set {α : Type} {xs : List α} {k : Nat} {y x : α} (h : x ∈ xs.set k y) : x ∈ y :: xs := by
 rcases List.mem_or_eq_of_mem_set h with h | h
 ·exact List.mem_cons_of_mem _ h
 ·rw [h]; exact List.mem_cons_self ..
theorem nodes_set (xs : List Nb) (k : Nat) (y : Nb) : nodesOf (xs.set k y) = (nodesOf xs).set k y.n := List.map_set ..
theorem clients_set (xs : List Cb) (k : Nat) (y : Cb) : clientsOf (xs.set k y) = (clientsOf xs).set k y.c := List.map_set ..
theorem nodes_at {xs : List Nb} {k : Nat} {x : Nb} (h : xs[k]? = some x) : (nodesOf xs)[k]? = some x.n := by
 show (xs.map Nb.n)[k]? = _
 rw [List.getElem?_map, h]; rfl
theorem clients_at {xs : List Cb} {k : Nat} {x : Cb} (h : xs[k]? = some x) : (clientsOf xs)[k]? = some x.c := by
 show (xs.map Cb.c)[k]? = _
 rw [List.getElem?_map, h]; rfl
theorem WIn.nat {X w : World} {B g1 g2 : Nat} {xs : List Nb} {cs : List Cb} {tip t : Int} (h : WIn X w B g1 g2 xs tip cs t) {k : Nat} {x : Nb} (hx : xs[k]? = some x) : NAt w g1 (k * 5) (xs.flatMap Nb.cells) x :=
 ⟨h.st.nrow, fun i v hi => row_flat Nb.five xs k x hx i v hi, (h.st.nodes x (List.mem_of_getElem? hx)).1⟩
theorem WSt.with {X w : World} {B g1 g2 : Nat} {NC CC : List Value} {tip t : Int} {L : List Nb} {M : List Cb} (h : WSt X w B g1 g2 NC tip CC t L M) {y : Nb} (hy : NodeR w y) : WSt X w B g1 g2 NC tip CC t (y :: L) M :=
 h.more (fun x hx => (List.mem_cons.1 hx).elim (fun e => e ▸ hy) (h.nodes x)) h.clients
theorem lift4 {X w w' : World} {B g1 g2 : Nat} {xs : List Nb} {cs : List Cb} {tip t : Int} (h : WIn X w B g1 g2 xs tip cs t) {k : Nat} {x : Nb} (hx : xs[k]? = some x) {n' : Nd} (hp : Post st4 w w' g1 (k * 5) x n') (h60 : n'.u.cells.length = 60) (hup : n'.up = x.n.up) :
  ∃ ys, WIn X w' B g1 g2 ys tip cs t ∧ nodesOf ys = (nodesOf xs).set k n' := by
 obtain ⟨w1, hb, hc⟩ := hp
 rcases hc with ⟨rfl, rfl⟩ | ⟨y, hy, rfl, rfl⟩
 ·exact ⟨xs, h.later hb, (set_self _ _ _ (nodes_at hx)).symm⟩
 ·obtain ⟨s1, s2, s3⟩ := (⟨roomy_sl hy.unit.room, roomy_sl hy.disk.room1, roomy_sl hy.disk.room2⟩ : _ ∧ _ ∧ _)
  have H := (((((h.st.later hb).with ⟨hy, h60⟩).setN (k * 5 + 0) (int_nob y.n.u.p)).setN (k * 5 + 1) (slice_nob s1)).setN (k * 5 + 2) (slice_nob s2)).setN (k * 5 + 3) (slice_nob s3)
  rw [nput4 hx y hup] at H
  exact ⟨xs.set k y, ⟨H.more (fun x hx => H.nodes x (mem_set hx)) H.clients, by rw [List.length_set]; exact h.three, h.three'⟩, nodes_set xs k y⟩
theorem lift5 {X w w' : World} {B g1 g2 : Nat} {xs : List Nb} {cs : List Cb} {tip t : Int} (h : WIn X w B g1 g2 xs tip cs t) {k : Nat} {x : Nb} (hx : xs[k]? = some x) {n' : Nd} (hp : Post st5 w w' g1 (k * 5) x n') (h60 : n'.u.cells.length = 60) :
  ∃ ys, WIn X w' B g1 g2 ys tip cs t ∧ nodesOf ys = (nodesOf xs).set k n' := by
 obtain ⟨w1, hb, hc⟩ := hp
 rcases hc with ⟨rfl, rfl⟩ | ⟨y, hy, rfl, rfl⟩
 ·exact ⟨xs, h.later hb, (set_self _ _ _ (nodes_at hx)).symm⟩
 ·obtain ⟨s1, s2, s3⟩ := (⟨roomy_sl hy.unit.room, roomy_sl hy.disk.room1, roomy_sl hy.disk.room2⟩ : _ ∧ _ ∧ _)
  have H := ((((((h.st.later hb).with ⟨hy, h60⟩).setN (k * 5 + 0) (int_nob y.n.u.p)).setN (k * 5 + 1) (slice_nob s1)).setN (k * 5 + 2) (slice_nob s2)).setN (k * 5 + 3) (slice_nob s3)).setN (k * 5 + 4) (bool_nob y.n.up)
  rw [nput5 hx y] at H
  exact ⟨xs.set k y, ⟨H.more (fun x hx => H.nodes x (mem_set hx)) H.clients, by rw [List.length_set]; exact h.three, h.three'⟩, nodes_set xs k y⟩
theorem lift3 {X w w' : World} {B g1 g2 : Nat} {xs : List Nb} {cs : List Cb} {tip t : Int} (h : WIn X w B g1 g2 xs tip cs t) {k : Nat} {x : Nb} (hx : xs[k]? = some x) {n' : Nd} (hp : Post3 w w' g1 (k * 5) x n') (h60 : n'.u.cells.length = 60) (hu : n'.u = x.n.u) :
  ∃ ys, WIn X w' B g1 g2 ys tip cs t ∧ nodesOf ys = (nodesOf xs).set k n' := by
 obtain ⟨w1, hb, hc⟩ := hp
 rcases hc with ⟨rfl, rfl⟩ | ⟨y, hy, rfl, hv, rfl⟩
 ·exact ⟨xs, h.later hb, (set_self _ _ _ (nodes_at hx)).symm⟩
 ·obtain ⟨s2, s3⟩ := (⟨roomy_sl hy.disk.room1, roomy_sl hy.disk.room2⟩ : _ ∧ _)
  have H := ((((h.st.later hb).with ⟨hy, h60⟩).setN (k * 5 + 2) (slice_nob s2)).setN (k * 5 + 3) (slice_nob s3)).setN (k * 5 + 4) (bool_nob y.n.up)
  rw [nput3 hx y (by rw [hu]) hv] at H
  exact ⟨xs.set k y, ⟨H.more (fun x hx => H.nodes x (mem_set hx)) H.clients, by rw [List.length_set]; exact h.three, h.three'⟩, nodes_set xs k y⟩
theorem lift1 {X w : World} {B g1 g2 : Nat} {xs : List Nb} {cs : List Cb} {tip t : Int} (h : WIn X w B g1 g2 xs tip cs t) {k : Nat} {x : Nb} (hx : xs[k]? = some x) (b : Bool) :
  ∃ ys, WIn X (w.setCell ⟨g1, k * 5 + 4, none⟩ (.bool b)) B g1 g2 ys tip cs t ∧ nodesOf ys = (nodesOf xs).set k ⟨x.n.u, x.n.s, x.n.w, b⟩ := by
 have hy := h.st.nodes x (List.mem_of_getElem? hx)
 have H := (h.st.with (y := ⟨⟨x.n.u, x.n.s, x.n.w, b⟩, x.vc, x.vs, x.vw⟩) ⟨⟨hy.1.unit, hy.1.disk⟩, hy.2⟩).setN (k * 5 + 4) (bool_nob b)
 rw [nput1 hx b] at H
 exact ⟨_, ⟨H.more (fun x hx => H.nodes x (mem_set hx)) H.clients, by rw [List.length_set]; exact h.three, h.three'⟩, nodes_set xs k _⟩
def stC (w : World) (g o : Nat) (y : Cb) : World :=
 (((((((((((w.setCell ⟨g, o, none⟩ (.int .i64 y.c.p)).setCell ⟨g, o + 1, none⟩ (.int .i64 y.c.d)).setCell ⟨g, o + 2, none⟩ (.int .i64 y.c.e.k)).setCell ⟨g, o + 3, none⟩ (.int .i64 y.c.e.j)).setCell ⟨g, o + 4, none⟩ (.int .i64 y.c.e.v)).setCell ⟨g, o + 5, none⟩ (.int .i64 y.c.e.t)).setCell ⟨g, o + 6, none⟩ (.int .i64 y.c.e.c)).setCell ⟨g, o + 7, none⟩ (.int .i64 y.c.a)).setCell ⟨g, o + 8, none⟩ (.int .i64 y.c.l)).setCell ⟨g, o + 9, none⟩ (.int .i64 y.c.n)).setCell ⟨g, o + 10, none⟩ y.v1).setCell ⟨g, o + 11, none⟩ y.v2
theorem liftC {X w : World} {B g1 g2 : Nat} {xs : List Nb} {cs : List Cb} {tip t : Int} (h : WIn X w B g1 g2 xs tip cs t) {k : Nat} {x : Cb} (hx : cs[k]? = some x) {y : Cb} (hy : ClientR w y) :
  ∃ ds, WIn X (stC w g2 (k * 12) y) B g1 g2 xs tip ds t ∧ clientsOf ds = (clientsOf cs).set k y.c := by
 have s1 := slOf_sl hy.1.1
 have s2 := slOf_sl hy.1.2
 have h0 := h.st.more (L' := xs) (M' := y :: cs) h.st.nodes (fun z hz => (List.mem_cons.1 hz).elim (fun e => e ▸ hy) (h.st.clients z))
 have H := (((((((((((h0.setC (k * 12 + 0) (int_nob y.c.p)).setC (k * 12 + 1) (int_nob y.c.d)).setC (k * 12 + 2) (int_nob y.c.e.k)).setC (k * 12 + 3) (int_nob y.c.e.j)).setC (k * 12 + 4) (int_nob y.c.e.v)).setC (k * 12 + 5) (int_nob y.c.e.t)).setC (k * 12 + 6) (int_nob y.c.e.c)).setC (k * 12 + 7) (int_nob y.c.a)).setC (k * 12 + 8) (int_nob y.c.l)).setC (k * 12 + 9) (int_nob y.c.n)).setC (k * 12 + 10) (slice_nob s1)).setC (k * 12 + 11) (slice_nob s2)
 rw [cput12 hx y] at H
 exact ⟨cs.set k y, ⟨H.more H.nodes (fun z hz => H.clients z (mem_set hz)), h.three, by rw [List.length_set]; exact h.three'⟩, clients_set cs k y⟩
end Go.Proofs.YtmoaobfmopimlafGreatDoor
