/- For the law. -/
import Derived.Test.YtmoaobfmopimlafGreatDoorM16
set_option linter.unusedSimpArgs false
set_option linter.unusedVariables false
namespace Go.Proofs.YtmoaobfmopimlafGreatDoor
open Go.RowKit
theorem dl_front (most : Nat) : ∀ (f : Nat) (l : List UInt8) (acc : List Rc) (n : Nat),
  ∃ ts, (dl most f l acc n).1 = acc ++ ts ∧ (dl most f l acc n).2.1 = n + (rtxt ts).length ∧ l.take (rtxt ts).length = rtxt ts ∧ ∀ c, c ∈ ts → c.chk = 0
 | 0, l, acc, n => ⟨[], by simp [dl], by simp [dl, rtxt], by simp [rtxt], fun c hc => by cases hc⟩
 | f + 1, l, acc, n => by
  by_cases hl : l = []
  ·subst hl
   exact ⟨[], by rw [dl_nil]; simp, by rw [dl_nil]; simp [rtxt], by simp [rtxt], fun c hc => by cases hc⟩
  ·rcases hc : Lib.cut l [10] with ⟨a, b, g⟩
   cases g with
   | false => exact ⟨[], by rw [dl_torn _ _ _ _ hl hc]; simp, by rw [dl_torn _ _ _ _ hl hc]; simp [rtxt], by simp [rtxt], fun c hc => by cases hc⟩
   | true =>
    by_cases hp : (rcRead a).2 = 0
    ·by_cases hm : most ≤ acc.length
     ·exact ⟨[], by rw [dl_many _ _ _ _ hl hc hp hm]; simp, by rw [dl_many _ _ _ _ hl hc hp hm]; simp [rtxt], by simp [rtxt], fun c hc => by cases hc⟩
     ·obtain ⟨ts, h1, h2, h3, h4⟩ := dl_front most f b (acc ++ [(rcRead a).1]) (n + a.length + 1)
      obtain ⟨k1, k2⟩ := txt_read hp
      refine ⟨(rcRead a).1 :: ts, ?_, ?_, ?_, ?_⟩
      ·rw [dl_more _ _ _ _ hl hc hp hm, h1, List.append_assoc]; rfl
      ·rw [dl_more _ _ _ _ hl hc hp hm, h2, rtxt_cons, List.length_append, List.length_cons, k2]; omega
      ·have e : l = (a ++ [10]) ++ b := by rw [nl_back l a b hc]; simp
       have e2 : rtxt ((rcRead a).1 :: ts) = (a ++ [10]) ++ rtxt ts := by rw [rtxt_cons, k2]; simp
       rw [e2, e, List.length_append, List.take_append, List.take_of_length_le (by omega), Nat.add_sub_cancel_left, h3]
      ·intro c hcm
       rcases List.mem_cons.1 hcm with rfl | hcm
       ·exact k1
       ·exact h4 c hcm
    ·exact ⟨[], by rw [dl_bad _ _ _ _ hl hc hp]; simp, by rw [dl_bad _ _ _ _ hl hc hp]; simp [rtxt], by simp [rtxt], fun c hc => by cases hc⟩
theorem lines_front (s : List UInt8) (most : Nat) : (linesOf s most).2.1 = (rtxt (linesOf s most).1).length ∧ s.take (linesOf s most).2.1 = rtxt (linesOf s most).1 ∧ ∀ c, c ∈ (linesOf s most).1 → c.chk = 0 := by
 obtain ⟨ts, h1, h2, h3, h4⟩ := dl_front most (s.length + 1) s [] 0
 have e1 : (linesOf s most).1 = ts := h1.trans (List.nil_append ts)
 have e2 : (linesOf s most).2.1 = (rtxt ts).length := h2.trans (Nat.zero_add _)
 rw [e1, e2]
 exact ⟨rfl, h3, h4⟩
theorem disk_rows {s : List UInt8} (h : (linesOf s 160).2.2 = 0) : s = rtxt (linesOf s 160).1 := by
 have h2 := (lines_front s 160).2.1
 rw [lines_zero h, List.take_length] at h2
 exact h2
theorem lines_none (most : Nat) : linesOf [] most = ([], 0, 0) := dl_nil most 0 [] 0
theorem ufold_append : ∀ (a b : List Rc) (u : Un), (ufold u a).2 = 0 → ufold u (a ++ b) = ufold (ufold u a).1 b
 | [], _, _, _ => rfl
 | x :: a, b, u, h => by
  rw [ufold] at h
  rw [List.cons_append, ufold, ufold]
  by_cases hx : (unext u x).2 = 0
  ·rw [if_neg (by simpa using hx)] at h ⊢
   rw [if_neg (by simpa using hx)]
   exact ufold_append a b _ h
  ·rw [if_pos hx] at h; exact absurd h hx
theorem unext_within {u : Un} {r : Rc} (h : (unext u r).2 = 0) : Within u.cells (unext u r).1.cells := fun k c hc => by
 rcases unext_stands h k hc with h1 | ⟨rfl, _⟩
 ·exact Or.inr h1
 ·exact Or.inl blank_isB
theorem ufold_right : ∀ (l : List Rc) (u : Un), u.ck = 0 → (ufold u l).2 = 0 → (ufold u l).1.ck = 0 ∧ Within u.cells (ufold u l).1.cells
 | [], u, hu, _ => ⟨hu, within_refl _⟩
 | x :: l, u, hu, h => by
  rw [ufold] at h ⊢
  by_cases hx : (unext u x).2 = 0
  ·rw [if_neg (by simpa using hx)] at h ⊢
   obtain ⟨h1, h2⟩ := ufold_right l _ (unext_ck hx) h
   exact ⟨h1, within_trans (unext_within hx) h2⟩
  ·rw [if_pos hx] at h; exact absurd h hx
theorem uof_few {l : List Rc} (h : l.length ≤ 160) : unitOf l = ufold unew l := by rw [unitOf, if_neg (by omega)]
theorem unitOf_right {l : List Rc} {u : Un} (hl : l.length ≤ 160) (h : unitOf l = (u, 0)) : u.ck = 0 := by
 rw [uof_few hl] at h
 have := (ufold_right l unew unew_ck (by rw [h])).1
 rwa [h] at this
theorem unitOf_more {a b : List Rc} {u v : Un} (hl : (a ++ b).length ≤ 160) (h : unitOf a = (u, 0)) (h' : unitOf (a ++ b) = (v, 0)) : Within u.cells v.cells := by
 rw [List.length_append] at hl
 have hu := unitOf_right (by omega) h
 rw [uof_few (by omega)] at h
 rw [uof_few (by rw [List.length_append]; omega), ufold_append a b unew (by rw [h]), h] at h'
 have := (ufold_right b u hu (by rw [h'])).2
 rwa [h'] at this
theorem unitOf_snoc {l : List Rc} {u : Un} {r : Rc} (hl : l.length + 1 ≤ 160) (h : unitOf l = (u, 0)) (hr : (unext u r).2 = 0) : unitOf (l ++ [r]) = ((unext u r).1, 0) := by
 rw [uof_few (by omega)] at h
 rw [uof_few (by simpa using hl), ufold_snoc l unew r (by rw [h]) (by rw [h]; exact hr), h]
structure RN (n : Nd) (rs ts : List Rc) : Prop where
 txt : n.s = rtxt rs
 each : ∀ c, c ∈ rs → c.chk = 0
 few : rs.length ≤ 160
 unit : unitOf rs = (n.u, 0)
 fits : n.s.length + n.w.length ≤ 30000
 up : n.up = true → n.w = []
 rest : (linesOf n.w (160 - rs.length)).1 = ts
 whole : unitOf (rs ++ ts) = (n.whole, 0)
theorem rows_fit {rs : List Rc} (he : ∀ c, c ∈ rs → c.chk = 0) (hl : rs.length ≤ 160) {t : List UInt8} (hf : (rtxt rs).length + t.length ≤ 30000) : ckDisk (rtxt rs) t = 0 :=
 ckDisk_zero.2 ⟨hf, by rw [lines_all he hl]⟩
theorem recovered_rows {rs : List Rc} (he : ∀ c, c ∈ rs → c.chk = 0) (hl : rs.length ≤ 160) (t : List UInt8) :
  recovered (rtxt rs) t = ((rtxt (rs ++ (linesOf t (160 - rs.length)).1), []), rs ++ (linesOf t (160 - rs.length)).1) := by
 rw [recovered, lines_all he hl, (lines_front t (160 - rs.length)).2.1, rtxt_append]
theorem recov_rows {rs : List Rc} (he : ∀ c, c ∈ rs → c.chk = 0) (hl : rs.length ≤ 160) {t : List UInt8} (hf : (rtxt rs).length + t.length ≤ 30000) :
  recov (rtxt rs) t = unitOf (rs ++ (linesOf t (160 - rs.length)).1) := by
 rw [recov, rows_fit he hl hf, if_neg (by simp), recovered_rows he hl]
theorem rn_of {n : Nd} (h : n.ck = 0) : ∃ rs ts, RN n rs ts := by
 unfold Nd.ck at h
 by_cases h1 : ckDisk n.s n.w = 0
 ·rw [if_neg (by simpa using h1)] at h
  by_cases h2 : n.up = true ∧ 0 < n.w.length
  ·rw [if_pos h2] at h; cases h
  ·rw [if_neg h2] at h
   by_cases h3 : (recov n.s []).2 = 0
   ·rw [if_neg (by simpa using h3)] at h
    cases h4 : n.u.same (recov n.s []).1 with
    | false => rw [h4, if_pos rfl] at h; cases h
    | true =>
     rw [h4, if_neg (by simp)] at h
     obtain ⟨hf, hz⟩ := ckDisk_zero.1 h1
     have hs := disk_rows hz
     have he := (lines_front n.s 160).2.2
     have hl := (lines_len n.s 160).1
     generalize (linesOf n.s 160).1 = rs at *
     have e1 : recov n.s [] = unitOf rs := by
      rw [hs, recov_rows he hl (by rw [← hs]; simp; omega), lines_none, List.append_nil]
     have e2 : recov n.s n.w = unitOf (rs ++ (linesOf n.w (160 - rs.length)).1) := by
      rw [hs, recov_rows he hl (by rw [← hs]; exact hf)]
     refine ⟨rs, _, hs, he, hl, ?_, hf, fun hu => ?_, rfl, ?_⟩
     ·rw [← e1, Un.same_iff.1 h4, ← h3]
     ·have : ¬ 0 < n.w.length := fun hh => h2 ⟨hu, hh⟩
      exact List.eq_nil_of_length_eq_zero (by omega)
     ·rw [← e2, ← h]; rfl
   ·rw [if_pos h3] at h; exact absurd h h3
 ·rw [if_pos h1] at h; exact absurd h h1
theorem RN.ck {n : Nd} {rs ts : List Rc} (h : RN n rs ts) : n.ck = 0 := by
 have hf : (rtxt rs).length + n.w.length ≤ 30000 := by rw [← h.txt]; exact h.fits
 have e1 : recov n.s [] = (n.u, 0) := by rw [h.txt, recov_rows h.each h.few (by simp; omega), lines_none, List.append_nil, h.unit]
 have e2 : (recov n.s n.w).2 = 0 := by rw [h.txt, recov_rows h.each h.few hf, h.rest, h.whole]
 have hd : ckDisk n.s n.w = 0 := by rw [h.txt]; exact rows_fit h.each h.few hf
 have hsame : n.u.same n.u = true := Un.same_iff.2 rfl
 rw [Nd.ck, hd, if_neg (by simp), if_neg (fun hh => by rw [h.up hh.1] at hh; simp at hh), e1, if_neg (by simp), hsame, if_neg (by simp), e2]
theorem rn_mk {n : Nd} {rs ts : List Rc} {wu : Un} (txt : n.s = rtxt rs) (each : ∀ c, c ∈ rs → c.chk = 0) (few : rs.length ≤ 160) (unit : unitOf rs = (n.u, 0)) (fits : n.s.length + n.w.length ≤ 30000)
  (up : n.up = true → n.w = []) (rest : (linesOf n.w (160 - rs.length)).1 = ts) (whole : unitOf (rs ++ ts) = (wu, 0)) : RN n rs ts ∧ n.whole = wu := by
 have hw : n.whole = wu := by rw [Nd.whole, txt, recov_rows each few (by rw [← txt]; exact fits), rest, whole]
 exact ⟨⟨txt, each, few, unit, fits, up, rest, by rw [hw]; exact whole⟩, hw⟩
theorem RN.tsl {n : Nd} {rs ts : List Rc} (h : RN n rs ts) : (rs ++ ts).length ≤ 160 := by
 have h1 := (lines_len n.w (160 - rs.length)).1
 rw [h.rest] at h1
 have := h.few
 rw [List.length_append]
 omega
theorem RN.tse {n : Nd} {rs ts : List Rc} (h : RN n rs ts) : ∀ c, c ∈ rs ++ ts → c.chk = 0 := fun c hc => by
 rcases List.mem_append.1 hc with hc | hc
 ·exact h.each c hc
 ·have h1 := (lines_front n.w (160 - rs.length)).2.2
  rw [h.rest] at h1
  exact h1 c hc
theorem RN.uck {n : Nd} {rs ts : List Rc} (h : RN n rs ts) : n.u.ck = 0 := unitOf_right h.few h.unit
theorem RN.grows {n : Nd} {rs ts : List Rc} (h : RN n rs ts) : Within n.u.cells n.whole.cells := unitOf_more h.tsl h.unit h.whole
theorem RN.upw {n : Nd} {rs ts : List Rc} (h : RN n rs ts) (hu : n.up = true) : ts = [] ∧ n.whole = n.u := by
 have hr := h.rest
 rw [h.up hu, lines_none] at hr
 have hw := h.whole
 rw [← hr, List.append_nil, h.unit] at hw
 exact ⟨hr.symm, (congrArg Prod.fst hw).symm⟩
theorem rows_snoc {rs : List Rc} {r : Rc} (he : ∀ c, c ∈ rs → c.chk = 0) (hr : r.chk = 0) (hl : rs.length ≤ 160) (hz : (linesOf (rtxt (rs ++ [r])) 160).2.2 = 0) : rs.length + 1 ≤ 160 := by
 rcases Nat.lt_or_ge rs.length 160 with h | h
 ·omega
 ·exfalso
  have e := dl_lines 160 rs ((rtxt (rs ++ [r])).length + 1) ((rtxt [r]).length + 1) [] 0 (rtxt [r]) he (by simpa using hl) (by rw [rtxt_append]; omega) (by omega)
  have e2 : linesOf (rtxt (rs ++ [r])) 160 = dl 160 ((rtxt [r]).length + 1) (rtxt [r]) rs (rtxt rs).length := by
   rw [linesOf, rtxt_append]
   rw [rtxt_append] at e
   rw [e]; simp
  have e3 : rtxt [r] = r.txt ++ 10 :: [] := by simp [rtxt]
  rw [e2, e3, dl_many 160 _ rs _ (by simp) (cut_nl r.txt [] (rc_no_nl hr)) (by rw [read_txt hr]) h] at hz
  cases hz
theorem line_snoc (rs : List Rc) (r : Rc) : rtxt rs ++ (r.txt ++ [10]) = rtxt (rs ++ [r]) := by simp [rtxt]
theorem put_waysW {n : Nd} {rs ts : List Rc} (h : RN n rs ts) (r : Rc) : (r.chk ≠ 0 ∧ (dput n.s n.w r).2 = r.chk) ∨ (r.chk = 0 ∧ 30000 < n.s.length + n.w.length + r.txt.length + 1 ∧ (dput n.s n.w r).2 = 2) ∨
  (r.chk = 0 ∧ n.s.length + n.w.length + r.txt.length + 1 ≤ 30000 ∧ dput n.s n.w r = ((n.s, n.w ++ (r.txt ++ [10])), 0)) := by
 have hd : ckDisk n.s n.w = 0 := by rw [h.txt]; exact rows_fit h.each h.few (by rw [← h.txt]; exact h.fits)
 rw [dput, hd, if_neg (by simp), putOn]
 by_cases hr : r.chk = 0
 ·rw [if_neg (by simpa using hr)]
  by_cases hl : 30000 < n.s.length + n.w.length + r.txt.length + 1
  ·rw [if_pos hl]; exact Or.inr (Or.inl ⟨hr, hl, rfl⟩)
  ·rw [if_neg hl]; exact Or.inr (Or.inr ⟨hr, by omega, rfl⟩)
 ·rw [if_pos hr]; exact Or.inl ⟨hr, rfl⟩
theorem RN.written {n : Nd} {rs ts : List Rc} (h : RN n rs ts) {r : Rc} (hr : r.chk = 0) (hu : (unext n.u r).2 = 0) (hl : rs.length + 1 ≤ 160) (hf : n.s.length + r.txt.length + 1 ≤ 30000) (up : Bool) :
  RN ⟨(unext n.u r).1, n.s ++ (r.txt ++ [10]), [], up⟩ (rs ++ [r]) [] ∧ (⟨(unext n.u r).1, n.s ++ (r.txt ++ [10]), [], up⟩ : Nd).whole = (unext n.u r).1 :=
 rn_mk (by show n.s ++ _ = _; rw [h.txt, line_snoc]) (good_snoc h.each hr) (by simpa using hl) (unitOf_snoc hl h.unit hu) (by simp; omega) (fun _ => rfl) (by rw [lines_none]) (by rw [List.append_nil]; exact unitOf_snoc hl h.unit hu)
theorem write_may {n : Nd} {rs ts : List Rc} (h : RN n rs ts) (hup : n.up = true) {r : Rc} (hu : (unext n.u r).2 = 0) (hl : rs.length + 1 ≤ 160) (hf : n.s.length + r.txt.length + 1 ≤ 30000) :
  n.write r = (⟨(unext n.u r).1, n.s ++ (r.txt ++ [10]), [], true⟩, 0) := by
 have hr : r.chk = 0 := (unext_ok hu).2.1
 have hw := h.up hup
 have hp : dput n.s n.w r = ((n.s, r.txt ++ [10]), 0) := by
  rcases put_waysW h r with ⟨g, _⟩ | ⟨_, g, _⟩ | ⟨_, _, g⟩
  ·exact absurd hr g
  ·rw [hw, List.length_nil] at g; omega
  ·rw [g, hw, List.nil_append]
 have e : n.s ++ (r.txt ++ [10]) = rtxt (rs ++ [r]) := by rw [h.txt, line_snoc]
 have hfl : (rtxt (rs ++ [r])).length ≤ 30000 := by rw [← e]; simp; omega
 have hs : dsync n.s (r.txt ++ [10]) = ((n.s ++ (r.txt ++ [10]), []), 0) := by
  rw [dsync, if_neg (by rw [h.txt, rows_fit h.each h.few (by rw [← h.txt]; simp; omega)]; simp), synced, e, rows_fit (good_snoc h.each hr) (by simpa using hl) (by simpa using hfl), if_neg (by simp)]
 rw [Nd.write, if_neg (by simpa using hu), hp, if_neg (by simp), hs, if_neg (by simp), hup]
theorem write_ok {n : Nd} {r : Rc} (hn : n.ck = 0) (hup : n.up = true) (h : (n.write r).2 = 0) :
  r.chk = 0 ∧ (unext n.u r).2 = 0 ∧ n.write r = (⟨(unext n.u r).1, n.s ++ (r.txt ++ [10]), [], true⟩, 0) ∧ (n.write r).1.ck = 0 ∧ (n.write r).1.whole = (unext n.u r).1 := by
 obtain ⟨rs, ts, R⟩ := rn_of hn
 have hw := R.up hup
 have hu : (unext n.u r).2 = 0 := Classical.byContradiction fun hh => by rw [Nd.write, if_pos hh] at h; exact hh h
 have hr : r.chk = 0 := (unext_ok hu).2.1
 rw [Nd.write, if_neg (by simpa using hu)] at h
 rcases put_waysW R r with ⟨g, _⟩ | ⟨_, _, g⟩ | ⟨_, g, e⟩
 ·exact absurd hr g
 ·rw [if_pos (by rw [g]; simp)] at h
  rw [g] at h; cases h
 ·rw [e, if_neg (by simp), hw, List.nil_append] at h
  rw [hw, List.length_nil] at g
  have hl : rs.length + 1 ≤ 160 := by
   refine rows_snoc R.each hr R.few ?_
   by_cases hz : (dsync n.s (r.txt ++ [10])).2 = 0
   ·rw [dsync] at hz
    by_cases h1 : ckDisk n.s (r.txt ++ [10]) = 0
    ·rw [if_neg (by simpa using h1), synced] at hz
     by_cases h2 : ckDisk (n.s ++ (r.txt ++ [10])) [] = 0
     ·have := (ckDisk_zero.1 h2).2
      rwa [R.txt, line_snoc] at this
     ·rw [if_pos h2] at hz; exact absurd hz h2
    ·rw [if_pos h1] at hz; exact absurd hz h1
   ·rw [if_pos hz] at h
    exact absurd h hz
  have hf : n.s.length + r.txt.length + 1 ≤ 30000 := by omega
  have hm := write_may R hup hu hl hf
  have hk := R.written hr hu hl hf true
  exact ⟨hr, hu, hm, by rw [hm]; exact hk.1.ck, by rw [hm]; exact hk.2⟩
theorem boot_ok {n : Nd} (hn : n.ck = 0) (hup : n.up = false) : n.boot = (⟨n.whole, (recovered n.s n.w).1.1, [], true⟩, 0) ∧ n.boot.1.ck = 0 ∧ n.boot.1.whole = n.whole := by
 obtain ⟨rs, ts, R⟩ := rn_of hn
 have hf : (rtxt rs).length + n.w.length ≤ 30000 := by rw [← R.txt]; exact R.fits
 have e2 : (recov n.s n.w).2 = 0 := by rw [R.txt, recov_rows R.each R.few hf, R.rest, R.whole]
 have e : n.boot = (⟨n.whole, (recovered n.s n.w).1.1, [], true⟩, 0) := by
  rw [Nd.boot, hup, if_neg (by simp), if_neg (by simpa using e2)]; rfl
 have es : (recovered n.s n.w).1.1 = rtxt (rs ++ ts) := by rw [R.txt, recovered_rows R.each R.few, R.rest]
 have hk := (lines_front n.w (160 - rs.length)).1
 have hk2 := (lines_len n.w (160 - rs.length)).2
 rw [R.rest] at hk
 have hlen : (rtxt (rs ++ ts)).length ≤ 30000 := by rw [rtxt_append, List.length_append]; omega
 have K := rn_mk (n := ⟨n.whole, (recovered n.s n.w).1.1, [], true⟩) (rs := rs ++ ts) (ts := []) (wu := n.whole) es R.tse R.tsl R.whole (by show (recovered n.s n.w).1.1.length + 0 ≤ 30000; rw [es]; exact hlen) (fun _ => rfl) (by rw [lines_none]) (by rw [List.append_nil]; exact R.whole)
 exact ⟨e, by rw [e]; exact K.1.ck, by rw [e]; exact K.2⟩
theorem crash_ok {n : Nd} (hn : n.ck = 0) (hup : n.up = true) : (⟨n.u, n.s, n.w, false⟩ : Nd).ck = 0 ∧ (⟨n.u, n.s, n.w, false⟩ : Nd).whole = n.u ∧ (⟨n.u, n.s, n.w, false⟩ : Nd).boot = (n, 0) := by
 obtain ⟨rs, ts, R⟩ := rn_of hn
 obtain ⟨hts, hwu⟩ := R.upw hup
 have K := rn_mk (n := ⟨n.u, n.s, n.w, false⟩) (rs := rs) (ts := ts) (wu := n.u) R.txt R.each R.few R.unit R.fits (fun h => by cases h) R.rest (by rw [R.whole, hwu])
 refine ⟨K.1.ck, K.2, ?_⟩
 have hb := (boot_ok K.1.ck rfl).1
 rw [hb, K.2]
 have es : (recovered n.s n.w).1.1 = n.s := by rw [R.txt, recovered_rows R.each R.few, R.rest, hts, List.append_nil]
 have hw := R.up hup
 obtain ⟨u, s, w, up⟩ := n
 simp only at es hw hup ⊢
 rw [es, hw, hup]
theorem tear_ok {n : Nd} {r : Rc} {k : Int} (hn : n.ck = 0) (hup : n.up = true) (hu : (unext n.u r).2 = 0) (h : (n.tear r k).2 = 0) :
  (n.tear r k).1.ck = 0 ∧ (n.tear r k).1.u = n.u ∧ (n.tear r k).1.up = false ∧
  (((n.tear r k).1.whole = n.u ∧ (n.tear r k).1.boot = (n, 0)) ∨ ((n.tear r k).1.whole = (unext n.u r).1 ∧ (n.tear r k).1.boot = n.write r ∧ (n.write r).2 = 0)) := by
 obtain ⟨rs, ts, R⟩ := rn_of hn
 obtain ⟨hts, hwu⟩ := R.upw hup
 have hw := R.up hup
 have hr : r.chk = 0 := (unext_ok hu).2.1
 have hk0 : r.k ≠ 0 := fun hh => by
  rcases (unext_ok hu).2.2 with ⟨h1, _⟩ | ⟨h1, _⟩ <;> omega
 rw [Nd.tear, if_neg hk0] at h ⊢
 rcases put_waysW R r with ⟨g, _⟩ | ⟨_, _, g⟩ | ⟨_, g, e⟩
 ·exact absurd hr g
 ·rw [if_pos (by rw [g]; simp)] at h
  rw [g] at h; cases h
 ·rw [e, if_neg (by simp), hw, List.nil_append]
  rw [hw, List.length_nil] at g
  generalize keptOf k (n.s, r.txt ++ [10]).2.length = m
  have e1 : (r.txt ++ [10] : List UInt8) = rtxt [r] := by simp [rtxt]
  have hj : ∃ j, j ≤ 1 ∧ (linesOf ((rtxt [r]).take m) (160 - rs.length)).1 = [r].take j ∧ (rs ++ [r].take j).length ≤ 160 := by
   rcases Nat.lt_or_ge rs.length 160 with hl | hl
   ·obtain ⟨j, e', hj, he, _⟩ := lines_torn (rs := [r]) (fun c hc => by obtain rfl : c = r := by simpa using hc
                                      exact hr) (most := 160 - rs.length) (by simp; omega) m
    refine ⟨j, by simpa using hj, by rw [he], ?_⟩
    simp
    have : j ≤ 1 := by simpa using hj
    omega
   ·refine ⟨0, by omega, ?_, by simpa using R.few⟩
    have := (lines_len ((rtxt [r]).take m) (160 - rs.length)).1
    rw [List.take_zero]
    exact List.eq_nil_of_length_eq_zero (by omega)
  obtain ⟨j, hj1, hj2, hj3⟩ := hj
  have hfit : n.s.length + ((r.txt ++ [10]).take m).length ≤ 30000 := by
   rw [List.length_take]; simp; omega
  have hR : (linesOf ((r.txt ++ [10]).take m) (160 - rs.length)).1 = [r].take j := by rw [e1]; exact hj2
  rcases (show j = 0 ∨ j = 1 by omega) with rfl | rfl
  ·rw [List.take_zero] at hR
   have K := rn_mk (n := ⟨n.u, n.s, (r.txt ++ [10]).take m, false⟩) (rs := rs) (ts := []) (wu := n.u) R.txt R.each R.few R.unit hfit (fun h => by cases h) hR (by rw [List.append_nil]; exact R.unit)
   refine ⟨K.1.ck, rfl, rfl, Or.inl ⟨K.2, ?_⟩⟩
   have hb := (boot_ok K.1.ck rfl).1
   rw [hb, K.2]
   have es : (recovered n.s ((r.txt ++ [10]).take m)).1.1 = n.s := by rw [R.txt, recovered_rows R.each R.few, hR, List.append_nil]
   obtain ⟨u, s, w, up⟩ := n
   simp only at es hw hup ⊢
   rw [es, hw, hup]
  ·have hR1 : (linesOf ((r.txt ++ [10]).take m) (160 - rs.length)).1 = [r] := hR
   have hl : rs.length + 1 ≤ 160 := by simpa using hj3
   have K := rn_mk (n := ⟨n.u, n.s, (r.txt ++ [10]).take m, false⟩) (rs := rs) (ts := [r]) (wu := (unext n.u r).1) R.txt R.each R.few R.unit hfit (fun h => by cases h) hR1 (unitOf_snoc hl R.unit hu)
   have hm := write_may R hup hu hl (by omega)
   refine ⟨K.1.ck, rfl, rfl, Or.inr ⟨K.2, ?_, by rw [hm]⟩⟩
   have hb := (boot_ok K.1.ck rfl).1
   rw [hb, K.2, hm]
   have es : (recovered n.s ((r.txt ++ [10]).take m)).1.1 = n.s ++ (r.txt ++ [10]) := by rw [R.txt, recovered_rows R.each R.few, hR1, line_snoc]
   rw [es]
end Go.Proofs.YtmoaobfmopimlafGreatDoor
