/- For the law: Nodes: what is written at one, what is left of it, what it is once it has power again; plain facts. Worlds: a right one stays right, whatever happens; plain facts. What a happening does to a right world; plain facts. Worlds: who is deaf, what is torn, who loses its power; scripts; plain facts. Package world: what a node's function leaves. Package disk's Same, copyOf, join. The reference's RecText and RecRead. The reference's RecRead. What the laws on records ask of package note; the closed fact 'noted'; the walk of NoteSays. Package note's number; strings.CutPrefix. Package note's Print; strings.CutPrefix; read. Package note's read and Parse; its contracts. Package disk's read. Package disk's Check and Same. 'append([]byte(s), ..)': the row that a conversion makes bears a mark behind its end. -/
import Derived.Test.YtmoaobfmopimlafGreatDoorM03
import Derived.Deep.Cut
import Derived.OwnWalk
import Derived.Laws.CopyOwn
namespace Go.Proofs.YtmoaobfmopimlafGreatDoor
open Go.RowKit
/-- What is read of a text stands in front of it, as lines of right records. -/
theorem dl_front (most : Nat) : ∀ (f : Nat) (l : List UInt8) (acc : List Rc) (n : Nat),
    ∃ ts, (dl most f l acc n).1 = acc ++ ts ∧ (dl most f l acc n).2.1 = n + (rtxt ts).length ∧ l.take (rtxt ts).length = rtxt ts ∧ ∀ c, c ∈ ts → c.chk = 0
  | 0, l, acc, n => ⟨[], by simp [dl], by simp [dl, rtxt], by simp [rtxt], fun c hc => by cases hc⟩
  | f + 1, l, acc, n => by
    by_cases hl : l = []
    · subst hl
      exact ⟨[], by rw [dl_nil]; simp, by rw [dl_nil]; simp [rtxt], by simp [rtxt], fun c hc => by cases hc⟩
    · rcases hc : Lib.cut l [10] with ⟨a, b, g⟩
      cases g with
      | false => exact ⟨[], by rw [dl_torn _ _ _ _ hl hc]; simp, by rw [dl_torn _ _ _ _ hl hc]; simp [rtxt], by simp [rtxt], fun c hc => by cases hc⟩
      | true =>
        by_cases hp : (rcRead a).2 = 0
        · by_cases hm : most ≤ acc.length
          · exact ⟨[], by rw [dl_many _ _ _ _ hl hc hp hm]; simp, by rw [dl_many _ _ _ _ hl hc hp hm]; simp [rtxt], by simp [rtxt], fun c hc => by cases hc⟩
          · obtain ⟨ts, h1, h2, h3, h4⟩ := dl_front most f b (acc ++ [(rcRead a).1]) (n + a.length + 1)
            obtain ⟨k1, k2⟩ := txt_read hp
            refine ⟨(rcRead a).1 :: ts, ?_, ?_, ?_, ?_⟩
            · rw [dl_more _ _ _ _ hl hc hp hm, h1, List.append_assoc]; rfl
            · rw [dl_more _ _ _ _ hl hc hp hm, h2, rtxt_cons, List.length_append, List.length_cons, k2]; omega
            · have e : l = (a ++ [10]) ++ b := by rw [nl_back l a b hc]; simp
              have e2 : rtxt ((rcRead a).1 :: ts) = (a ++ [10]) ++ rtxt ts := by rw [rtxt_cons, k2]; simp
              rw [e2, e, List.length_append, List.take_append, List.take_of_length_le (by omega), Nat.add_sub_cancel_left, h3]
            · intro c hcm
              rcases List.mem_cons.1 hcm with rfl | hcm
              · exact k1
              · exact h4 c hcm
        · exact ⟨[], by rw [dl_bad _ _ _ _ hl hc hp]; simp, by rw [dl_bad _ _ _ _ hl hc hp]; simp [rtxt], by simp [rtxt], fun c hc => by cases hc⟩
theorem lines_front (s : List UInt8) (most : Nat) : (linesOf s most).2.1 = (rtxt (linesOf s most).1).length ∧ s.take (linesOf s most).2.1 = rtxt (linesOf s most).1 ∧ ∀ c, c ∈ (linesOf s most).1 → c.chk = 0 := by
  obtain ⟨ts, h1, h2, h3, h4⟩ := dl_front most (s.length + 1) s [] 0
  have e1 : (linesOf s most).1 = ts := h1.trans (List.nil_append ts)
  have e2 : (linesOf s most).2.1 = (rtxt ts).length := h2.trans (Nat.zero_add _)
  rw [e1, e2]
  exact ⟨rfl, h3, h4⟩
theorem disk_rows {s : List UInt8} (h : (linesOf s 160).2.2 = 0) : s = rtxt (linesOf s 160).1 := by
  have h2 := (lines_front s 160).2.1
  rw [lines_zero h, List.take_length] at h2
  exact h2
theorem lines_none (most : Nat) : linesOf [] most = ([], 0, 0) := dl_nil most 0 [] 0
/-- Records that make a unit, one behind the other. -/
theorem ufold_append : ∀ (a b : List Rc) (u : Un), (ufold u a).2 = 0 → ufold u (a ++ b) = ufold (ufold u a).1 b
  | [], _, _, _ => rfl
  | x :: a, b, u, h => by
    rw [ufold] at h
    rw [List.cons_append, ufold, ufold]
    by_cases hx : (unext u x).2 = 0
    · rw [if_neg (by simpa using hx)] at h ⊢
      rw [if_neg (by simpa using hx)]
      exact ufold_append a b _ h
    · rw [if_pos hx] at h; exact absurd h hx
theorem unext_within {u : Un} {r : Rc} (h : (unext u r).2 = 0) : Within u.cells (unext u r).1.cells := fun k c hc => by
  rcases unext_stands h k hc with h1 | ⟨rfl, _⟩
  · exact Or.inr h1
  · exact Or.inl blank_isB
theorem ufold_right : ∀ (l : List Rc) (u : Un), u.ck = 0 → (ufold u l).2 = 0 → (ufold u l).1.ck = 0 ∧ Within u.cells (ufold u l).1.cells
  | [], u, hu, _ => ⟨hu, within_refl _⟩
  | x :: l, u, hu, h => by
    rw [ufold] at h ⊢
    by_cases hx : (unext u x).2 = 0
    · rw [if_neg (by simpa using hx)] at h ⊢
      obtain ⟨h1, h2⟩ := ufold_right l _ (unext_ck hx) h
      exact ⟨h1, within_trans (unext_within hx) h2⟩
    · rw [if_pos hx] at h; exact absurd h hx
theorem uof_few {l : List Rc} (h : l.length ≤ 160) : unitOf l = ufold unew l := by rw [unitOf, if_neg (by omega)]
theorem unitOf_right {l : List Rc} {u : Un} (hl : l.length ≤ 160) (h : unitOf l = (u, 0)) : u.ck = 0 := by
  rw [uof_few hl] at h
  have := (ufold_right l unew unew_ck (by rw [h])).1
  rwa [h] at this
theorem unitOf_more {a b : List Rc} {u v : Un} (hl : (a ++ b).length ≤ 160) (h : unitOf a = (u, 0)) (h' : unitOf (a ++ b) = (v, 0)) : Within u.cells v.cells := by
  rw [List.length_append] at hl
  have hu := unitOf_right (by omega) h
  rw [uof_few (by omega)] at h
  rw [uof_few (by rw [List.length_append]; omega), ufold_append a b unew (by rw [h]), h] at h'
  have := (ufold_right b u hu (by rw [h'])).2
  rwa [h'] at this
theorem unitOf_snoc {l : List Rc} {u : Un} {r : Rc} (hl : l.length + 1 ≤ 160) (h : unitOf l = (u, 0)) (hr : (unext u r).2 = 0) : unitOf (l ++ [r]) = ((unext u r).1, 0) := by
  rw [uof_few (by omega)] at h
  rw [uof_few (by simpa using hl), ufold_snoc l unew r (by rw [h]) (by rw [h]; exact hr), h]
/-- What a right node holds. -/
structure RN (n : Nd) (rs ts : List Rc) : Prop where
  txt : n.s = rtxt rs
  each : ∀ c, c ∈ rs → c.chk = 0
  few : rs.length ≤ 160
  unit : unitOf rs = (n.u, 0)
  fits : n.s.length + n.w.length ≤ 30000
  up : n.up = true → n.w = []
  rest : (linesOf n.w (160 - rs.length)).1 = ts
  whole : unitOf (rs ++ ts) = (n.whole, 0)
theorem rows_fit {rs : List Rc} (he : ∀ c, c ∈ rs → c.chk = 0) (hl : rs.length ≤ 160) {t : List UInt8} (hf : (rtxt rs).length + t.length ≤ 30000) : ckDisk (rtxt rs) t = 0 :=
  ckDisk_zero.2 ⟨hf, by rw [lines_all he hl]⟩
theorem recovered_rows {rs : List Rc} (he : ∀ c, c ∈ rs → c.chk = 0) (hl : rs.length ≤ 160) (t : List UInt8) :
    recovered (rtxt rs) t = ((rtxt (rs ++ (linesOf t (160 - rs.length)).1), []), rs ++ (linesOf t (160 - rs.length)).1) := by
  rw [recovered, lines_all he hl, (lines_front t (160 - rs.length)).2.1, rtxt_append]
theorem recov_rows {rs : List Rc} (he : ∀ c, c ∈ rs → c.chk = 0) (hl : rs.length ≤ 160) {t : List UInt8} (hf : (rtxt rs).length + t.length ≤ 30000) :
    recov (rtxt rs) t = unitOf (rs ++ (linesOf t (160 - rs.length)).1) := by
  rw [recov, rows_fit he hl hf, if_neg (by simp), recovered_rows he hl]
theorem rn_of {n : Nd} (h : n.ck = 0) : ∃ rs ts, RN n rs ts := by
  unfold Nd.ck at h
  by_cases h1 : ckDisk n.s n.w = 0
  · rw [if_neg (by simpa using h1)] at h
    by_cases h2 : n.up = true ∧ 0 < n.w.length
    · rw [if_pos h2] at h; cases h
    · rw [if_neg h2] at h
      by_cases h3 : (recov n.s []).2 = 0
      · rw [if_neg (by simpa using h3)] at h
        cases h4 : n.u.same (recov n.s []).1 with
        | false => rw [h4, if_pos rfl] at h; cases h
        | true =>
          rw [h4, if_neg (by simp)] at h
          obtain ⟨hf, hz⟩ := ckDisk_zero.1 h1
          have hs := disk_rows hz
          have he := (lines_front n.s 160).2.2
          have hl := (lines_len n.s 160).1
          generalize (linesOf n.s 160).1 = rs at *
          have e1 : recov n.s [] = unitOf rs := by
            rw [hs, recov_rows he hl (by rw [← hs]; simp; omega), lines_none, List.append_nil]
          have e2 : recov n.s n.w = unitOf (rs ++ (linesOf n.w (160 - rs.length)).1) := by
            rw [hs, recov_rows he hl (by rw [← hs]; exact hf)]
          refine ⟨rs, _, hs, he, hl, ?_, hf, fun hu => ?_, rfl, ?_⟩
          · rw [← e1, Un.same_iff.1 h4, ← h3]
          · have : ¬ 0 < n.w.length := fun hh => h2 ⟨hu, hh⟩
            exact List.eq_nil_of_length_eq_zero (by omega)
          · rw [← e2, ← h]; rfl
      · rw [if_pos h3] at h; exact absurd h h3
  · rw [if_pos h1] at h; exact absurd h h1
theorem RN.ck {n : Nd} {rs ts : List Rc} (h : RN n rs ts) : n.ck = 0 := by
  have hf : (rtxt rs).length + n.w.length ≤ 30000 := by rw [← h.txt]; exact h.fits
  have e1 : recov n.s [] = (n.u, 0) := by rw [h.txt, recov_rows h.each h.few (by simp; omega), lines_none, List.append_nil, h.unit]
  have e2 : (recov n.s n.w).2 = 0 := by rw [h.txt, recov_rows h.each h.few hf, h.rest, h.whole]
  have hd : ckDisk n.s n.w = 0 := by rw [h.txt]; exact rows_fit h.each h.few hf
  have hsame : n.u.same n.u = true := Un.same_iff.2 rfl
  rw [Nd.ck, hd, if_neg (by simp), if_neg (fun hh => by rw [h.up hh.1] at hh; simp at hh), e1, if_neg (by simp), hsame, if_neg (by simp), e2]
/-- Told by what it is to be. -/
theorem rn_mk {n : Nd} {rs ts : List Rc} {wu : Un} (txt : n.s = rtxt rs) (each : ∀ c, c ∈ rs → c.chk = 0) (few : rs.length ≤ 160) (unit : unitOf rs = (n.u, 0)) (fits : n.s.length + n.w.length ≤ 30000)
    (up : n.up = true → n.w = []) (rest : (linesOf n.w (160 - rs.length)).1 = ts) (whole : unitOf (rs ++ ts) = (wu, 0)) : RN n rs ts ∧ n.whole = wu := by
  have hw : n.whole = wu := by rw [Nd.whole, txt, recov_rows each few (by rw [← txt]; exact fits), rest, whole]
  exact ⟨⟨txt, each, few, unit, fits, up, rest, by rw [hw]; exact whole⟩, hw⟩
theorem RN.tsl {n : Nd} {rs ts : List Rc} (h : RN n rs ts) : (rs ++ ts).length ≤ 160 := by
  have h1 := (lines_len n.w (160 - rs.length)).1
  rw [h.rest] at h1
  have := h.few
  rw [List.length_append]
  omega
theorem RN.tse {n : Nd} {rs ts : List Rc} (h : RN n rs ts) : ∀ c, c ∈ rs ++ ts → c.chk = 0 := fun c hc => by
  rcases List.mem_append.1 hc with hc | hc
  · exact h.each c hc
  · have h1 := (lines_front n.w (160 - rs.length)).2.2
    rw [h.rest] at h1
    exact h1 c hc
theorem RN.uck {n : Nd} {rs ts : List Rc} (h : RN n rs ts) : n.u.ck = 0 := unitOf_right h.few h.unit
theorem RN.grows {n : Nd} {rs ts : List Rc} (h : RN n rs ts) : Within n.u.cells n.whole.cells := unitOf_more h.tsl h.unit h.whole
theorem RN.upw {n : Nd} {rs ts : List Rc} (h : RN n rs ts) (hu : n.up = true) : ts = [] ∧ n.whole = n.u := by
  have hr := h.rest
  rw [h.up hu, lines_none] at hr
  have hw := h.whole
  rw [← hr, List.append_nil, h.unit] at hw
  exact ⟨hr.symm, (congrArg Prod.fst hw).symm⟩
theorem rows_snoc {rs : List Rc} {r : Rc} (he : ∀ c, c ∈ rs → c.chk = 0) (hr : r.chk = 0) (hl : rs.length ≤ 160) (hz : (linesOf (rtxt (rs ++ [r])) 160).2.2 = 0) : rs.length + 1 ≤ 160 := by
  rcases Nat.lt_or_ge rs.length 160 with h | h
  · omega
  · exfalso
    have e := dl_lines 160 rs ((rtxt (rs ++ [r])).length + 1) ((rtxt [r]).length + 1) [] 0 (rtxt [r]) he (by simpa using hl) (by rw [rtxt_append]; omega) (by omega)
    have e2 : linesOf (rtxt (rs ++ [r])) 160 = dl 160 ((rtxt [r]).length + 1) (rtxt [r]) rs (rtxt rs).length := by
      rw [linesOf, rtxt_append]
      rw [rtxt_append] at e
      rw [e]; simp
    have e3 : rtxt [r] = r.txt ++ 10 :: [] := by simp [rtxt]
    rw [e2, e3, dl_many 160 _ rs _ (by simp) (cut_nl r.txt [] (rc_no_nl hr)) (by rw [read_txt hr]) h] at hz
    cases hz
theorem line_snoc (rs : List Rc) (r : Rc) : rtxt rs ++ (r.txt ++ [10]) = rtxt (rs ++ [r]) := by simp [rtxt]
/-- A record put on a right node's disk. -/
theorem put_waysW {n : Nd} {rs ts : List Rc} (h : RN n rs ts) (r : Rc) : (r.chk ≠ 0 ∧ (dput n.s n.w r).2 = r.chk) ∨ (r.chk = 0 ∧ 30000 < n.s.length + n.w.length + r.txt.length + 1 ∧ (dput n.s n.w r).2 = 2) ∨
    (r.chk = 0 ∧ n.s.length + n.w.length + r.txt.length + 1 ≤ 30000 ∧ dput n.s n.w r = ((n.s, n.w ++ (r.txt ++ [10])), 0)) := by
  have hd : ckDisk n.s n.w = 0 := by rw [h.txt]; exact rows_fit h.each h.few (by rw [← h.txt]; exact h.fits)
  rw [dput, hd, if_neg (by simp), putOn]
  by_cases hr : r.chk = 0
  · rw [if_neg (by simpa using hr)]
    by_cases hl : 30000 < n.s.length + n.w.length + r.txt.length + 1
    · rw [if_pos hl]; exact Or.inr (Or.inl ⟨hr, hl, rfl⟩)
    · rw [if_neg hl]; exact Or.inr (Or.inr ⟨hr, by omega, rfl⟩)
  · rw [if_pos hr]; exact Or.inl ⟨hr, rfl⟩
theorem RN.written {n : Nd} {rs ts : List Rc} (h : RN n rs ts) {r : Rc} (hr : r.chk = 0) (hu : (unext n.u r).2 = 0) (hl : rs.length + 1 ≤ 160) (hf : n.s.length + r.txt.length + 1 ≤ 30000) (up : Bool) :
    RN ⟨(unext n.u r).1, n.s ++ (r.txt ++ [10]), [], up⟩ (rs ++ [r]) [] ∧ (⟨(unext n.u r).1, n.s ++ (r.txt ++ [10]), [], up⟩ : Nd).whole = (unext n.u r).1 :=
  rn_mk (by show n.s ++ _ = _; rw [h.txt, line_snoc]) (good_snoc h.each hr) (by simpa using hl) (unitOf_snoc hl h.unit hu) (by simp; omega) (fun _ => rfl) (by rw [lines_none]) (by rw [List.append_nil]; exact unitOf_snoc hl h.unit hu)
/-- A record that may be written is. -/
theorem write_may {n : Nd} {rs ts : List Rc} (h : RN n rs ts) (hup : n.up = true) {r : Rc} (hu : (unext n.u r).2 = 0) (hl : rs.length + 1 ≤ 160) (hf : n.s.length + r.txt.length + 1 ≤ 30000) :
    n.write r = (⟨(unext n.u r).1, n.s ++ (r.txt ++ [10]), [], true⟩, 0) := by
  have hr : r.chk = 0 := (unext_ok hu).2.1
  have hw := h.up hup
  have hp : dput n.s n.w r = ((n.s, r.txt ++ [10]), 0) := by
    rcases put_waysW h r with ⟨g, _⟩ | ⟨_, g, _⟩ | ⟨_, _, g⟩
    · exact absurd hr g
    · rw [hw, List.length_nil] at g; omega
    · rw [g, hw, List.nil_append]
  have e : n.s ++ (r.txt ++ [10]) = rtxt (rs ++ [r]) := by rw [h.txt, line_snoc]
  have hfl : (rtxt (rs ++ [r])).length ≤ 30000 := by rw [← e]; simp; omega
  have hs : dsync n.s (r.txt ++ [10]) = ((n.s ++ (r.txt ++ [10]), []), 0) := by
    rw [dsync, if_neg (by rw [h.txt, rows_fit h.each h.few (by rw [← h.txt]; simp; omega)]; simp), synced, e, rows_fit (good_snoc h.each hr) (by simpa using hl) (by simpa using hfl), if_neg (by simp)]
  rw [Nd.write, if_neg (by simpa using hu), hp, if_neg (by simp), hs, if_neg (by simp), hup]
/-- A record that is written was one that may be. -/
theorem write_ok {n : Nd} {r : Rc} (hn : n.ck = 0) (hup : n.up = true) (h : (n.write r).2 = 0) :
    r.chk = 0 ∧ (unext n.u r).2 = 0 ∧ n.write r = (⟨(unext n.u r).1, n.s ++ (r.txt ++ [10]), [], true⟩, 0) ∧ (n.write r).1.ck = 0 ∧ (n.write r).1.whole = (unext n.u r).1 := by
  obtain ⟨rs, ts, R⟩ := rn_of hn
  have hw := R.up hup
  have hu : (unext n.u r).2 = 0 := Classical.byContradiction fun hh => by rw [Nd.write, if_pos hh] at h; exact hh h
  have hr : r.chk = 0 := (unext_ok hu).2.1
  rw [Nd.write, if_neg (by simpa using hu)] at h
  rcases put_waysW R r with ⟨g, _⟩ | ⟨_, _, g⟩ | ⟨_, g, e⟩
  · exact absurd hr g
  · rw [if_pos (by rw [g]; simp)] at h
    rw [g] at h; cases h
  · rw [e, if_neg (by simp), hw, List.nil_append] at h
    rw [hw, List.length_nil] at g
    have hl : rs.length + 1 ≤ 160 := by
      refine rows_snoc R.each hr R.few ?_
      by_cases hz : (dsync n.s (r.txt ++ [10])).2 = 0
      · rw [dsync] at hz
        by_cases h1 : ckDisk n.s (r.txt ++ [10]) = 0
        · rw [if_neg (by simpa using h1), synced] at hz
          by_cases h2 : ckDisk (n.s ++ (r.txt ++ [10])) [] = 0
          · have := (ckDisk_zero.1 h2).2
            rwa [R.txt, line_snoc] at this
          · rw [if_pos h2] at hz; exact absurd hz h2
        · rw [if_pos h1] at hz; exact absurd hz h1
      · rw [if_pos hz] at h
        exact absurd h hz
    have hf : n.s.length + r.txt.length + 1 ≤ 30000 := by omega
    have hm := write_may R hup hu hl hf
    have hk := R.written hr hu hl hf true
    exact ⟨hr, hu, hm, by rw [hm]; exact hk.1.ck, by rw [hm]; exact hk.2⟩
/-- A node that has no power gets it. -/
theorem boot_ok {n : Nd} (hn : n.ck = 0) (hup : n.up = false) : n.boot = (⟨n.whole, (recovered n.s n.w).1.1, [], true⟩, 0) ∧ n.boot.1.ck = 0 ∧ n.boot.1.whole = n.whole := by
  obtain ⟨rs, ts, R⟩ := rn_of hn
  have hf : (rtxt rs).length + n.w.length ≤ 30000 := by rw [← R.txt]; exact R.fits
  have e2 : (recov n.s n.w).2 = 0 := by rw [R.txt, recov_rows R.each R.few hf, R.rest, R.whole]
  have e : n.boot = (⟨n.whole, (recovered n.s n.w).1.1, [], true⟩, 0) := by
    rw [Nd.boot, hup, if_neg (by simp), if_neg (by simpa using e2)]; rfl
  have es : (recovered n.s n.w).1.1 = rtxt (rs ++ ts) := by rw [R.txt, recovered_rows R.each R.few, R.rest]
  have hk := (lines_front n.w (160 - rs.length)).1
  have hk2 := (lines_len n.w (160 - rs.length)).2
  rw [R.rest] at hk
  have hlen : (rtxt (rs ++ ts)).length ≤ 30000 := by rw [rtxt_append, List.length_append]; omega
  have K := rn_mk (n := ⟨n.whole, (recovered n.s n.w).1.1, [], true⟩) (rs := rs ++ ts) (ts := []) (wu := n.whole) es R.tse R.tsl R.whole (by show (recovered n.s n.w).1.1.length + 0 ≤ 30000; rw [es]; exact hlen) (fun _ => rfl) (by rw [lines_none]) (by rw [List.append_nil]; exact R.whole)
  exact ⟨e, by rw [e]; exact K.1.ck, by rw [e]; exact K.2⟩
/-- A node that loses its power where nothing waits. -/
theorem crash_ok {n : Nd} (hn : n.ck = 0) (hup : n.up = true) : (⟨n.u, n.s, n.w, false⟩ : Nd).ck = 0 ∧ (⟨n.u, n.s, n.w, false⟩ : Nd).whole = n.u ∧ (⟨n.u, n.s, n.w, false⟩ : Nd).boot = (n, 0) := by
  obtain ⟨rs, ts, R⟩ := rn_of hn
  obtain ⟨hts, hwu⟩ := R.upw hup
  have K := rn_mk (n := ⟨n.u, n.s, n.w, false⟩) (rs := rs) (ts := ts) (wu := n.u) R.txt R.each R.few R.unit R.fits (fun h => by cases h) R.rest (by rw [R.whole, hwu])
  refine ⟨K.1.ck, K.2, ?_⟩
  have hb := (boot_ok K.1.ck rfl).1
  rw [hb, K.2]
  have es : (recovered n.s n.w).1.1 = n.s := by rw [R.txt, recovered_rows R.each R.few, R.rest, hts, List.append_nil]
  have hw := R.up hup
  obtain ⟨u, s, w, up⟩ := n
  simp only at es hw hup ⊢
  rw [es, hw, hup]
/-- A record that is torn is there wholly, or not at all. -/
theorem tear_ok {n : Nd} {r : Rc} {k : Int} (hn : n.ck = 0) (hup : n.up = true) (hu : (unext n.u r).2 = 0) (h : (n.tear r k).2 = 0) :
    (n.tear r k).1.ck = 0 ∧ (n.tear r k).1.u = n.u ∧ (n.tear r k).1.up = false ∧
    (((n.tear r k).1.whole = n.u ∧ (n.tear r k).1.boot = (n, 0)) ∨ ((n.tear r k).1.whole = (unext n.u r).1 ∧ (n.tear r k).1.boot = n.write r ∧ (n.write r).2 = 0)) := by
  obtain ⟨rs, ts, R⟩ := rn_of hn
  obtain ⟨hts, hwu⟩ := R.upw hup
  have hw := R.up hup
  have hr : r.chk = 0 := (unext_ok hu).2.1
  have hk0 : r.k ≠ 0 := fun hh => by
    rcases (unext_ok hu).2.2 with ⟨h1, _⟩ | ⟨h1, _⟩ <;> omega
  rw [Nd.tear, if_neg hk0] at h ⊢
  rcases put_waysW R r with ⟨g, _⟩ | ⟨_, _, g⟩ | ⟨_, g, e⟩
  · exact absurd hr g
  · rw [if_pos (by rw [g]; simp)] at h
    rw [g] at h; cases h
  · rw [e, if_neg (by simp), hw, List.nil_append]
    rw [hw, List.length_nil] at g
    generalize keptOf k (n.s, r.txt ++ [10]).2.length = m
    have e1 : (r.txt ++ [10] : List UInt8) = rtxt [r] := by simp [rtxt]
    have hj : ∃ j, j ≤ 1 ∧ (linesOf ((rtxt [r]).take m) (160 - rs.length)).1 = [r].take j ∧ (rs ++ [r].take j).length ≤ 160 := by
      rcases Nat.lt_or_ge rs.length 160 with hl | hl
      · obtain ⟨j, e', hj, he, _⟩ := lines_torn (rs := [r]) (fun c hc => by obtain rfl : c = r := by simpa using hc
                                                                            exact hr) (most := 160 - rs.length) (by simp; omega) m
        refine ⟨j, by simpa using hj, by rw [he], ?_⟩
        simp
        have : j ≤ 1 := by simpa using hj
        omega
      · refine ⟨0, by omega, ?_, by simpa using R.few⟩
        have := (lines_len ((rtxt [r]).take m) (160 - rs.length)).1
        rw [List.take_zero]
        exact List.eq_nil_of_length_eq_zero (by omega)
    obtain ⟨j, hj1, hj2, hj3⟩ := hj
    have hfit : n.s.length + ((r.txt ++ [10]).take m).length ≤ 30000 := by
      rw [List.length_take]; simp; omega
    have hR : (linesOf ((r.txt ++ [10]).take m) (160 - rs.length)).1 = [r].take j := by rw [e1]; exact hj2
    rcases (show j = 0 ∨ j = 1 by omega) with rfl | rfl
    · rw [List.take_zero] at hR
      have K := rn_mk (n := ⟨n.u, n.s, (r.txt ++ [10]).take m, false⟩) (rs := rs) (ts := []) (wu := n.u) R.txt R.each R.few R.unit hfit (fun h => by cases h) hR (by rw [List.append_nil]; exact R.unit)
      refine ⟨K.1.ck, rfl, rfl, Or.inl ⟨K.2, ?_⟩⟩
      have hb := (boot_ok K.1.ck rfl).1
      rw [hb, K.2]
      have es : (recovered n.s ((r.txt ++ [10]).take m)).1.1 = n.s := by rw [R.txt, recovered_rows R.each R.few, hR, List.append_nil]
      obtain ⟨u, s, w, up⟩ := n
      simp only at es hw hup ⊢
      rw [es, hw, hup]
    · have hR1 : (linesOf ((r.txt ++ [10]).take m) (160 - rs.length)).1 = [r] := hR
      have hl : rs.length + 1 ≤ 160 := by simpa using hj3
      have K := rn_mk (n := ⟨n.u, n.s, (r.txt ++ [10]).take m, false⟩) (rs := rs) (ts := [r]) (wu := (unext n.u r).1) R.txt R.each R.few R.unit hfit (fun h => by cases h) hR1 (unitOf_snoc hl R.unit hu)
      have hm := write_may R hup hu hl (by omega)
      refine ⟨K.1.ck, rfl, rfl, Or.inr ⟨K.2, ?_, by rw [hm]⟩⟩
      have hb := (boot_ok K.1.ck rfl).1
      rw [hb, K.2, hm]
      have es : (recovered n.s ((r.txt ++ [10]).take m)).1.1 = n.s ++ (r.txt ++ [10]) := by rw [R.txt, recovered_rows R.each R.few, hR1, line_snoc]
      rw [es]
end Go.Proofs.YtmoaobfmopimlafGreatDoor
namespace Go.Proofs.YtmoaobfmopimlafGreatDoor
open Go.RowKit
/-- What a right world holds. -/
structure RW (w : Wd) : Prop where
  ns3 : w.ns.length = 3
  cs3 : w.cs.length = 3
  tip : 0 ≤ w.tip ∧ w.tip ≤ 60
  time : 0 ≤ w.t ∧ w.t ≤ 100000
  node : ∀ (k : Nat) (n : Nd), w.ns[k]? = some n → n.ck = 0
  behind : ∀ (k : Nat) (a n : Nd), w.ns[k]? = some a → w.ns[k + 1]? = some n → Within n.whole.cells a.u.cells
  client : ∀ c, c ∈ w.cs → c.ck = 0
  holds : ∀ c, c ∈ w.cs → c.lost w.ns = false
theorem ckNds_zero : ∀ (ns : List Nd) (a : Option (List En)), ckNds a ns = 0 ↔ (∀ (k : Nat) (n : Nd), ns[k]? = some n → n.ck = 0) ∧ (∀ (k : Nat) (x n : Nd), ns[k]? = some x → ns[k + 1]? = some n → Within n.whole.cells x.u.cells) ∧
    (∀ (l : List En) (n : Nd), a = some l → ns[0]? = some n → Within n.whole.cells l)
  | [], a => ⟨fun _ => ⟨fun k n h => by simp at h, fun k x n h => by simp at h, fun l n _ h => by simp at h⟩, fun _ => rfl⟩
  | n :: r, a => by
    have ih := ckNds_zero r (some n.u.cells)
    rw [ckNds]
    by_cases h1 : n.ck = 0
    · rw [if_neg (by simpa using h1)]
      cases hb : behindB a n.whole.cells with
      | false =>
        rw [if_pos rfl]
        refine ⟨fun h => (by cases h), ?_⟩
        rintro ⟨_, _, h3⟩
        cases a with
        | none => cases hb
        | some l =>
          have := (withinB_iff _ _).2 (h3 l n rfl rfl)
          rw [behindB, this] at hb; cases hb
      | true =>
        rw [if_neg (by simp), ih]
        constructor
        · rintro ⟨g1, g2, g3⟩
          refine ⟨fun k x hx => ?_, fun k x y hx hy => ?_, fun l x hl hx => ?_⟩
          · cases k with
            | zero => obtain rfl : n = x := by simpa using hx
                      exact h1
            | succ k => exact g1 k x (by simpa using hx)
          · cases k with
            | zero => obtain rfl : n = x := by simpa using hx
                      exact g3 _ y rfl (by simpa using hy)
            | succ k => exact g2 k x y (by simpa using hx) (by simpa using hy)
          · subst hl
            obtain rfl : n = x := by simpa using hx
            exact (withinB_iff _ _).1 hb
        · rintro ⟨g1, g2, _⟩
          refine ⟨fun k x hx => g1 (k + 1) x (by simpa using hx), fun k x y hx hy => g2 (k + 1) x y (by simpa using hx) (by simpa using hy), fun l x hl hx => ?_⟩
          injection hl with hl
          rw [← hl]
          exact g2 0 n x rfl (by simpa using hx)
    · rw [if_pos h1]
      exact ⟨fun h => absurd h h1, fun h => absurd (h.1 0 n rfl) h1⟩
theorem ckCls_zero (ns : List Nd) : ∀ (cs : List Cl), ckCls ns cs = 0 ↔ ∀ c, c ∈ cs → c.ck = 0 ∧ c.lost ns = false
  | [] => ⟨fun _ c hc => (by cases hc), fun _ => rfl⟩
  | c :: r => by
    have ih := ckCls_zero ns r
    rw [ckCls]
    by_cases h1 : c.ck = 0
    · rw [if_neg (by simpa using h1)]
      cases hl : c.lost ns with
      | true => rw [if_pos rfl]; exact ⟨fun h => (by cases h), fun h => by rw [(h c (by simp)).2] at hl; cases hl⟩
      | false =>
        rw [if_neg (by simp), ih]
        exact ⟨fun h x hx => (List.mem_cons.1 hx).elim (fun e => e ▸ ⟨h1, hl⟩) (h x), fun h x hx => h x (List.mem_cons_of_mem _ hx)⟩
    · rw [if_pos h1]; exact ⟨fun h => absurd h h1, fun h => absurd (h c (by simp)).1 h1⟩
theorem rw_iff {w : Wd} : w.ck = 0 ↔ RW w := by
  rw [Wd.ck]
  by_cases h1 : w.ns.length = 3 ∧ w.cs.length = 3
  · rw [if_neg (not_not_intro h1)]
    by_cases h2 : (0 ≤ w.tip ∧ w.tip ≤ 60) ∧ (0 ≤ w.t ∧ w.t ≤ 100000)
    · rw [if_neg (not_not_intro h2)]
      by_cases h3 : ckNds none w.ns = 0
      · rw [if_neg (by simpa using h3), ckCls_zero]
        obtain ⟨g1, g2, _⟩ := (ckNds_zero w.ns none).1 h3
        exact ⟨fun h => ⟨h1.1, h1.2, h2.1, h2.2, g1, g2, fun c hc => (h c hc).1, fun c hc => (h c hc).2⟩, fun h c hc => ⟨h.client c hc, h.holds c hc⟩⟩
      · rw [if_pos h3]
        exact ⟨fun h => absurd h h3, fun h => absurd ((ckNds_zero w.ns none).2 ⟨h.node, h.behind, fun l n hl => by cases hl⟩) h3⟩
    · rw [if_pos h2]; exact ⟨fun h => (by cases h), fun h => absurd ⟨h.tip, h.time⟩ h2⟩
  · rw [if_pos h1]; exact ⟨fun h => (by cases h), fun h => absurd ⟨h.ns3, h.cs3⟩ h1⟩
theorem RW.nd_at {w : Wd} (h : RW w) {k : Int} (hk : 0 ≤ k ∧ k ≤ 2) : w.ns[k.toNat]? = some (w.nd k) := by
  have hl : k.toNat < w.ns.length := by rw [h.ns3]; omega
  rw [Wd.nd, List.getD_eq_getElem?_getD, List.getElem?_eq_getElem hl]; rfl
theorem RW.cl_at {w : Wd} (h : RW w) {k : Int} (hk : 0 ≤ k ∧ k ≤ 2) : w.cs[k.toNat]? = some (w.cl k) := by
  have hl : k.toNat < w.cs.length := by rw [h.cs3]; omega
  rw [Wd.cl, List.getD_eq_getElem?_getD, List.getElem?_eq_getElem hl]; rfl
theorem RW.nck {w : Wd} (h : RW w) {k : Int} (hk : 0 ≤ k ∧ k ≤ 2) : (w.nd k).ck = 0 := h.node _ _ (h.nd_at hk)
theorem RW.cck {w : Wd} (h : RW w) {k : Int} (hk : 0 ≤ k ∧ k ≤ 2) : (w.cl k).ck = 0 := h.client _ (List.mem_of_getElem? (h.cl_at hk))
theorem RW.clost {w : Wd} (h : RW w) {k : Int} (hk : 0 ≤ k ∧ k ≤ 2) : (w.cl k).lost w.ns = false := h.holds _ (List.mem_of_getElem? (h.cl_at hk))
theorem us_at {ns : List Nd} {k : Nat} {n : Nd} (h : ns[k]? = some n) : (ns.map Nd.u)[k]? = some n.u := by rw [List.getElem?_map, h]; rfl
theorem RW.chain {w : Wd} (h : RW w) : ckChain w.us = 0 := by
  obtain ⟨ns, tip, cs, t⟩ := w
  have h3 := h.ns3
  simp only at h3
  match ns, h3 with
  | [n0, n1, n2], _ =>
    obtain ⟨_, _, R0⟩ := rn_of (h.node 0 n0 rfl)
    obtain ⟨_, _, R1⟩ := rn_of (h.node 1 n1 rfl)
    obtain ⟨_, _, R2⟩ := rn_of (h.node 2 n2 rfl)
    exact ckChain_zero.2 ⟨n0.u, n1.u, n2.u, rfl, R0.uck, R1.uck, R2.uck, within_trans R1.grows (h.behind 0 n0 n1 rfl rfl), within_trans R2.grows (h.behind 1 n1 n2 rfl rfl)⟩
theorem plc_at {us : List Un} {k a : Nat} {u : Un} {e : En} (hk : us[k]? = some u) (ha : u.cells[a]? = some e) : plc us k a = e := by
  have e1 : us.getD k Un.zero = u := by rw [List.getD_eq_getElem?_getD, hk]; rfl
  unfold plc
  rw [e1, List.getD_eq_getElem?_getD, ha]; rfl
theorem lost_iff {ns : List Nd} {c : Cl} : c.lost ns = false ↔ (c.d = 2 → 0 < c.l → plcN ns (c.l.toNat - 1) c.a.toNat = c.e) := by
  rw [Cl.lost]
  by_cases h1 : c.d = 2
  · by_cases h2 : 0 < c.l
    · rw [decide_eq_true h1, decide_eq_true h2, Bool.true_and, Bool.true_and, ne_false]
      exact ⟨fun h _ _ => h, fun h => h h1 h2⟩
    · rw [decide_eq_false h2]; simp [h2]
  · rw [decide_eq_false h1]; simp [h1]
theorem lost_idle {ns : List Nd} {c : Cl} (h : c.d ≠ 2) : c.lost ns = false := lost_iff.2 fun h' => absurd h' h
theorem lost_first {ns : List Nd} {c : Cl} (h : c.l = 0) : c.lost ns = false := lost_iff.2 fun _ h' => by omega
/-- Where a node grows, what a client holds stands. -/
theorem lost_grow {ns : List Nd} {c : Cl} {k : Nat} {n n' : Nd} (hn : ns[k]? = some n) (hu : n.u.ck = 0) (hw : Within n.u.cells n'.u.cells) (hc : c.ck = 0) (h : c.lost ns = false) : c.lost (ns.set k n') = false := lost_iff.2 fun hd hl => by
  have e := lost_iff.1 h hd hl
  have hck := Cl.ck_zero.1 hc
  have ha := (Cl.good hck.1).2.2.1
  by_cases hk : k = c.l.toNat - 1
  · have h1 := plc_some (us := ns.map Nd.u) (k := k) (a := c.a.toNat) (us_at hn) hu (by omega)
    have e' : plc (ns.map Nd.u) k c.a.toNat = c.e := by rw [hk]; exact e
    rw [e'] at h1
    have h2 := within_at hw h1 (chk_notB hck.2.1)
    have hlt := (List.getElem?_eq_some_iff.1 hn).1
    rw [← hk]
    exact plc_at (us_at (List.getElem?_set_self hlt)) h2
  · rw [← e]
    have e1 : (List.map Nd.u (ns.set k n')).getD (c.l.toNat - 1) Un.zero = (List.map Nd.u ns).getD (c.l.toNat - 1) Un.zero := by
      rw [List.getD_eq_getElem?_getD, List.getD_eq_getElem?_getD, List.getElem?_map, List.getElem?_map, List.getElem?_set_ne hk]
    unfold plcN plc
    rw [e1]
theorem RW.putN {w : Wd} (h : RW w) {k : Int} (hk : 0 ≤ k ∧ k ≤ 2) {n' : Nd} (h1 : n'.ck = 0) (h2 : Within (w.nd k).u.cells n'.u.cells) (h3 : ∀ j a, k.toNat = j + 1 → w.ns[j]? = some a → Within n'.whole.cells a.u.cells) : RW (w.putN k n') := by
  have hn := h.nd_at hk
  have hlt := (List.getElem?_eq_some_iff.1 hn).1
  obtain ⟨_, _, R⟩ := rn_of (h.nck hk)
  refine ⟨by show (w.ns.set _ _).length = 3; rw [List.length_set]; exact h.ns3, h.cs3, h.tip, h.time, fun j n hj => ?_, fun j a n ha hj => ?_, h.client, fun c hc => lost_grow hn R.uck h2 (h.client c hc) (h.holds c hc)⟩
  · change (w.ns.set _ _)[j]? = some n at hj
    by_cases hjk : k.toNat = j
    · subst hjk
      rw [List.getElem?_set_self hlt] at hj
      rw [← Option.some.inj hj]; exact h1
    · rw [List.getElem?_set_ne hjk] at hj
      exact h.node j n hj
  · change (w.ns.set _ _)[j]? = some a at ha
    change (w.ns.set _ _)[j + 1]? = some n at hj
    by_cases hj1 : k.toNat = j + 1
    · rw [← hj1, List.getElem?_set_self hlt] at hj
      rw [List.getElem?_set_ne (by omega)] at ha
      rw [← Option.some.inj hj]
      exact h3 j a hj1 ha
    · rw [List.getElem?_set_ne hj1] at hj
      by_cases hj0 : k.toNat = j
      · subst hj0
        rw [List.getElem?_set_self hlt] at ha
        rw [← Option.some.inj ha]
        exact within_trans (h.behind _ _ n hn hj) h2
      · rw [List.getElem?_set_ne hj0] at ha
        exact h.behind j a n ha hj
theorem RW.putC {w : Wd} (h : RW w) (k : Int) {c : Cl} (h1 : c.ck = 0) (h2 : c.lost w.ns = false) : RW (w.putC k c) := by
  refine ⟨h.ns3, by show (w.cs.set _ _).length = 3; rw [List.length_set]; exact h.cs3, h.tip, h.time, h.node, h.behind, fun x hx => ?_, fun x hx => ?_⟩
  · rcases List.mem_or_eq_of_mem_set hx with hx | rfl
    · exact h.client x hx
    · exact h1
  · rcases List.mem_or_eq_of_mem_set hx with hx | rfl
    · exact h.holds x hx
    · exact h2
/-- What a client is that wants. -/
theorem wantsE {c : Cl} (h : c.ck = 0) (hd : c.d = 1) : c.a = 0 ∧ c.l = 0 ∧ c.e.k ≠ 0 := by
  obtain ⟨ho, _, hf, _⟩ := Cl.ck_zero.1 h
  have hg := Cl.good ho
  rw [Cl.odd, if_neg (by omega), if_pos hd] at hf
  simp only [Bool.or_eq_false_iff, decide_eq_false_iff_not] at hf
  obtain ⟨h1, h2, h3⟩ := hf
  exact ⟨by omega, by omega, h3⟩
theorem want_ok {c : Cl} {x : En} (h : (wantOf c x).2 = 0) : c.ck = 0 ∧ c.d = 0 ∧ wantOf c x = (⟨c.p, 1, x, 0, 0, c.n, c.js, c.rs⟩, 0) ∧ (wantOf c x).1.ck = 0 := by
  unfold wantOf at h ⊢
  by_cases h1 : c.ck = 0
  · rw [if_neg (by simpa using h1)] at h ⊢
    by_cases h2 : c.d = 0
    · rw [if_neg (by simpa using h2)] at h ⊢
      by_cases h3 : x.chk = 0
      · rw [if_neg (by simpa using h3)] at h ⊢
        by_cases h4 : x.k = 0
        · rw [if_pos h4] at h; cases h
        · rw [if_neg h4]
          have hr := rests h1 h2
          have e : (⟨c.p, 1, x, c.a, c.l, c.n, c.js, c.rs⟩ : Cl) = ⟨c.p, 1, x, 0, 0, c.n, c.js, c.rs⟩ := by rw [hr]
          refine ⟨h1, h2, by rw [e], ?_⟩
          rw [e]
          obtain ⟨ho, _, _, hb⟩ := Cl.ck_zero.1 h1
          have hg := Cl.good ho
          refine Cl.ck_zero.2 ⟨Cl.good_of ⟨hg.1, (show (0 : Int) ≤ 1 ∧ (1 : Int) ≤ 2 by decide), (show (0 : Int) ≤ 0 ∧ (0 : Int) ≤ 59 by decide), (show (0 : Int) ≤ 0 ∧ (0 : Int) ≤ 2 by decide), hg.2.2.2.2⟩, h3, ?_, hb⟩
          show (if (1 : Int) = 0 then _ else if (1 : Int) = 1 then decide ((0 : Int) < 0) || (decide ((0 : Int) < 0) || decide (x.k = 0)) else false) = false
          simp [h4]
      · rw [if_pos h3] at h; exact absurd h h3
    · rw [if_pos h2] at h; cases h
  · rw [if_pos h1] at h; exact absurd h h1
theorem ring_ck {c : Cl} {me j t : Int} (h : (ringOf c me j t).2 = 0) : c.ck = 0 ∧ c.d = 0 ∧ (ringOf c me j t).1.ck = 0 ∧ (ringOf c me j t).1.d = 1 ∧ (ringOf c me j t).2 = 0 := by
  obtain ⟨h1, h2, _, _, z, _, _, h5, e⟩ := ring_ok h
  refine ⟨h1, h2, ?_, by rw [e], h⟩
  rw [e]
  obtain ⟨ho, _, _, hb⟩ := Cl.ck_zero.1 h1
  have hg := Cl.good ho
  exact Cl.ck_zero.2 ⟨Cl.good_of ⟨hg.1, (show (0 : Int) ≤ 1 ∧ (1 : Int) ≤ 2 by decide), (show (0 : Int) ≤ 0 ∧ (0 : Int) ≤ 59 by decide), (show (0 : Int) ≤ 0 ∧ (0 : Int) ≤ 2 by decide), hg.2.2.2.2⟩, h5, rfl, hb⟩
theorem place_ok {c : Cl} {a : Int} (h : (placeOf 1 c a).2 = 0) : c.ck = 0 ∧ (0 ≤ a ∧ a ≤ 59) ∧ placeOf 1 c a = (⟨c.p, 2, c.e, a, 0, c.n, c.js, c.rs⟩, 0) ∧ (placeOf 1 c a).1.ck = 0 := by
  unfold placeOf at h ⊢
  by_cases h1 : c.ck = 0
  · rw [if_neg (by simpa using h1)] at h ⊢
    by_cases h2 : c.d = 1
    · rw [if_neg (by simpa using h2)] at h ⊢
      by_cases h3 : 0 ≤ a ∧ a ≤ 59
      · rw [if_neg (by simpa using h3)]
        obtain ⟨_, hl, _⟩ := wantsE h1 h2
        refine ⟨h1, h3, by rw [hl], ?_⟩
        obtain ⟨ho, he, _, hb⟩ := Cl.ck_zero.1 h1
        have hg := Cl.good ho
        exact Cl.ck_zero.2 ⟨Cl.good_of ⟨hg.1, (show (0 : Int) ≤ 2 ∧ (2 : Int) ≤ 2 by decide), h3, hg.2.2.2.1, hg.2.2.2.2⟩, he, rfl, hb⟩
      · rw [if_pos h3] at h; cases h
    · rw [if_pos h2] at h; cases h
  · rw [if_pos h1] at h; exact absurd h h1
theorem learn_ok {c : Cl} {p : Int} (h : (learnOf c p).2 = 0) : c.ck = 0 ∧ learnOf c p = (⟨p, c.d, c.e, c.a, c.l, c.n, c.js, c.rs⟩, 0) ∧ (learnOf c p).1.ck = 0 := by
  unfold learnOf at h ⊢
  by_cases h1 : c.ck = 0
  · rw [if_neg (by simpa using h1)] at h ⊢
    by_cases h2 : 1 ≤ p ∧ p ≤ 20
    · rw [if_neg (by simpa using h2)] at h ⊢
      by_cases h3 : p ≤ c.p
      · rw [if_pos h3] at h; cases h
      · rw [if_neg h3]
        refine ⟨h1, rfl, ?_⟩
        obtain ⟨ho, he, hf, hb⟩ := Cl.ck_zero.1 h1
        have hg := Cl.good ho
        exact Cl.ck_zero.2 ⟨Cl.good_of ⟨h2, hg.2.1, hg.2.2.1, hg.2.2.2.1, hg.2.2.2.2⟩, he, hf, hb⟩
    · rw [if_pos h2] at h; cases h
  · rw [if_pos h1] at h; exact absurd h h1
theorem cnew_ck : cnew.ck = 0 := by decide
/-- Who writes and hears what stands. -/
theorem hear_ok {c : Cl} {x : En} (h : c.ck = 0) (hd : c.d = 2) (hx : x.chk = 0) : (hearOf c x).2 = 0 ∧ (hearOf c x).1.ck = 0 ∧ ((hearOf c x).1.d ≠ 2 ∨ (hearOf c x).1 = ⟨c.p, c.d, x, c.a, c.l + 1, c.n, c.js, c.rs⟩) := by
  obtain ⟨ho, he, _, hb⟩ := Cl.ck_zero.1 h
  have hg := Cl.good ho
  rw [hearOf, if_neg (by simpa using h), if_neg (by simpa using hx), if_neg (by simpa using hd)]
  by_cases h1 : c.e.k ≠ 0 ∧ c.e.ne x = true
  · rw [if_pos h1]
    refine ⟨rfl, Cl.ck_zero.2 ⟨Cl.good_of ⟨hg.1, (show (0 : Int) ≤ 1 ∧ (1 : Int) ≤ 2 by decide), (show (0 : Int) ≤ 0 ∧ (0 : Int) ≤ 59 by decide), (show (0 : Int) ≤ 0 ∧ (0 : Int) ≤ 2 by decide), hg.2.2.2.2⟩, he, ?_, hb⟩, Or.inl (by show (1 : Int) ≠ 2; decide)⟩
    show (if (1 : Int) = 0 then _ else if (1 : Int) = 1 then decide ((0 : Int) < 0) || (decide ((0 : Int) < 0) || decide (c.e.k = 0)) else false) = false
    simp [h1.1]
  · rw [if_neg h1]
    by_cases h2 : c.l = 2
    · rw [if_pos h2]
      exact ⟨rfl, Cl.ck_zero.2 ⟨Cl.good_of ⟨hg.1, (show (0 : Int) ≤ 0 ∧ (0 : Int) ≤ 2 by decide), (show (0 : Int) ≤ 0 ∧ (0 : Int) ≤ 59 by decide), (show (0 : Int) ≤ 0 ∧ (0 : Int) ≤ 2 by decide), hg.2.2.2.2⟩, (show En.zero.chk = 0 by decide), rfl, hb⟩, Or.inl (by show (0 : Int) ≠ 2; decide)⟩
    · rw [if_neg h2]
      refine ⟨rfl, Cl.ck_zero.2 ⟨Cl.good_of ⟨hg.1, hg.2.1, hg.2.2.1, ?_, hg.2.2.2.2⟩, hx, ?_, hb⟩, Or.inr rfl⟩
      · have := hg.2.2.2.1
        show 0 ≤ c.l + 1 ∧ c.l + 1 ≤ 2
        omega
      · rw [Cl.odd]
        simp [hd]
end Go.Proofs.YtmoaobfmopimlafGreatDoor
namespace Go.Proofs.YtmoaobfmopimlafGreatDoor
open Go.RowKit
theorem onN_ok {w : Wd} {k : Int} {r : Nd × Int} (h : (w.onN k r).2 = 0) : r.2 = 0 ∧ w.onN k r = (w.putN k r.1, 0) := by
  unfold Wd.onN at h ⊢
  by_cases hr : r.2 = 0
  · exact ⟨hr, by rw [if_neg (by simpa using hr)]⟩
  · rw [if_pos hr] at h; exact absurd h hr
theorem onC_ok {w : Wd} {k : Int} {r : Cl × Int} (h : (w.onC k r).2 = 0) : r.2 = 0 ∧ w.onC k r = (w.putC k r.1, 0) := by
  unfold Wd.onC at h ⊢
  by_cases hr : r.2 = 0
  · exact ⟨hr, by rw [if_neg (by simpa using hr)]⟩
  · rw [if_pos hr] at h; exact absurd h hr
/-- What comes of an entry at a right world's node. -/
theorem link_facts {w : Wd} (h : RW w) {c : Cl} (hl : (linkIn w.us c.l c.a c.e c.p).2.2 = 0) :
    (0 ≤ c.l ∧ c.l ≤ 2) ∧ (0 ≤ c.a ∧ c.a ≤ 59) ∧ (w.nd c.l).u.p = c.p ∧ ∃ r s, linkIn w.us c.l c.a c.e c.p = (r, s, 0) ∧ s.chk = 0 ∧
      (∀ j a, c.l.toNat = j + 1 → w.ns[j]? = some a → a.u.cells[c.a.toNat]? = some c.e) ∧ c.e.chk = 0 ∧
      ((r = Rc.zero ∧ (w.nd c.l).u.cells[c.a.toNat]? = some s) ∨
       (r = ⟨1, c.a, 0, c.e⟩ ∧ s = c.e ∧ (w.nd c.l).u.cells[c.a.toNat]? = some blankE ∧ unext (w.nd c.l).u r = (⟨(w.nd c.l).u.p, (w.nd c.l).u.cells.set c.a.toNat c.e⟩, 0))) := by
  rw [← linkOf_in h.chain] at hl ⊢
  obtain ⟨_, hk, ha, hx, hp, hah, hw⟩ := linkOf_ok hl
  have hn := h.nd_at hk
  obtain ⟨_, _, R⟩ := rn_of (h.nck hk)
  have hu := us_at hn
  have hpl : (w.nd c.l).u.cells[c.a.toNat]? = some (plc w.us c.l.toNat c.a.toNat) := plc_some hu R.uck (by omega)
  have hep : (w.nd c.l).u.p = c.p := by
    rw [← hp, List.getD_eq_getElem?_getD]
    show _ = (((w.ns.map Nd.u)[c.l.toNat]?).getD Un.zero).p
    rw [hu]; rfl
  have hahead : ∀ j a, c.l.toNat = j + 1 → w.ns[j]? = some a → a.u.cells[c.a.toNat]? = some c.e := fun j a hj hja => by
    obtain ⟨_, _, Ra⟩ := rn_of (h.node j a hja)
    have e := hah (by omega)
    have e2 : c.l.toNat - 1 = j := by omega
    rw [e2] at e
    rw [e]
    exact plc_some (us_at hja) Ra.uck (by omega)
  refine ⟨hk, ha, hep, ?_⟩
  rcases hw with ⟨hb, e⟩ | ⟨hb, e⟩
  · exact ⟨Rc.zero, plc w.us c.l.toNat c.a.toNat, e, cell_chk R.uck hpl hb, hahead, hx, Or.inl ⟨rfl, hpl⟩⟩
  · rw [En.isB_eq.1 hb] at hpl
    have hwr := unext_write R.uck (a := c.a.toNat) (by omega) hx hpl
    rw [Int.toNat_of_nonneg ha.1] at hwr
    exact ⟨_, c.e, e, hx, hahead, hx, Or.inr ⟨rfl, rfl, hpl, hwr⟩⟩
/-- What is written at a right world's node, if anything is. -/
structure Wrote (w : Wd) (c : Cl) (n' : Nd) (s : En) : Prop where
  ck : n'.ck = 0
  grows : Within (w.nd c.l).u.cells n'.u.cells
  behind : ∀ j a, c.l.toNat = j + 1 → w.ns[j]? = some a → Within n'.whole.cells a.u.cells
  place : n'.u.cells[c.a.toNat]? = some s
  ep : n'.u.p = (w.nd c.l).u.p
  up : n'.up = true
theorem any_ok {w : Wd} (h : RW w) {c : Cl} {r : Rc} {s : En} (hl : linkIn w.us c.l c.a c.e c.p = (r, s, 0)) (hup : (w.nd c.l).up = true) (hw : ((w.nd c.l).writeAny r).2 = 0) : Wrote w c ((w.nd c.l).writeAny r).1 s := by
  obtain ⟨hk, ha, hep, r', s', e, hs, hah, hx, hc⟩ := link_facts h (c := c) (by rw [hl])
  rw [hl] at e
  obtain rfl : r = r' := congrArg Prod.fst e
  obtain rfl : s = s' := congrArg (fun q => q.2.1) e
  have hn := h.nd_at hk
  obtain ⟨_, _, R⟩ := rn_of (h.nck hk)
  rcases hc with ⟨rfl, hp⟩ | ⟨rfl, rfl, hb, hun⟩
  · have e : (w.nd c.l).writeAny Rc.zero = (w.nd c.l, 0) := by rw [Nd.writeAny, if_pos (show Rc.zero.k = 0 from rfl)]
    rw [e]
    exact ⟨h.nck hk, within_refl _, fun j a hj hja => h.behind j a _ hja (by rw [← hj]; exact hn), hp, rfl, hup⟩
  · have e : (w.nd c.l).writeAny ⟨1, c.a, 0, c.e⟩ = (w.nd c.l).write ⟨1, c.a, 0, c.e⟩ := by rw [Nd.writeAny, if_neg (by simp)]
    rw [e] at hw ⊢
    obtain ⟨_, h2, e3, h4, h5⟩ := write_ok (h.nck hk) hup hw
    have hl60 := (Un.ck_zero.1 R.uck).2.1
    refine ⟨h4, ?_, fun j a hj hja => ?_, ?_, ?_, ?_⟩
    · rw [e3]; exact unext_within h2
    · rw [h5, hun]
      exact within_set (within_trans R.grows (h.behind j a _ hja (by rw [← hj]; exact hn))) (hah j a hj hja)
    · rw [e3, hun]
      show ((w.nd c.l).u.cells.set c.a.toNat c.e)[c.a.toNat]? = some c.e
      rw [List.getElem?_set_self (by omega)]
    · rw [e3, hun]
    · rw [e3]
/-- What a happening leaves. -/
structure Step (w y : Wd) (x : Hp) : Prop where
  right : RW y
  time : w.t ≤ y.t
  others : ∀ k : Nat, (k : Int) ≠ x.c → y.cs[k]? = w.cs[k]?
  nodes : ∃ j : Nat, ∀ k : Nat, k ≠ j → y.ns[k]? = w.ns[k]?
  grows : ∀ (k : Nat) (n m : Nd), w.ns[k]? = some n → y.ns[k]? = some m → Within n.u.cells m.u.cells
theorem grows_same {ns : List Nd} : ∀ (k : Nat) (n m : Nd), ns[k]? = some n → ns[k]? = some m → Within n.u.cells m.u.cells := fun k n m h1 h2 => by
  rw [h1] at h2
  rw [Option.some.inj h2]
  exact within_refl _
theorem step_putC {w : Wd} (h : RW w) {x : Hp} (hx : 0 ≤ x.c ∧ x.c ≤ 2) {c : Cl} (h1 : c.ck = 0) (h2 : c.lost w.ns = false) : Step w (w.putC x.c c) x :=
  ⟨h.putC _ h1 h2, Int.le_refl _, fun k hk => by show (w.cs.set _ _)[k]? = _; rw [List.getElem?_set_ne (by omega)], ⟨0, fun _ _ => rfl⟩, grows_same⟩
theorem step_putN {w : Wd} (h : RW w) (x : Hp) {k : Int} (hk : 0 ≤ k ∧ k ≤ 2) {n' : Nd} (h1 : n'.ck = 0) (h2 : Within (w.nd k).u.cells n'.u.cells) (h3 : ∀ j a, k.toNat = j + 1 → w.ns[j]? = some a → Within n'.whole.cells a.u.cells) : Step w (w.putN k n') x := by
  have hn := h.nd_at hk
  have hlt := (List.getElem?_eq_some_iff.1 hn).1
  refine ⟨h.putN hk h1 h2 h3, Int.le_refl _, fun _ _ => rfl, ⟨k.toNat, fun j hj => by show (w.ns.set _ _)[j]? = _; rw [List.getElem?_set_ne (fun e => hj e.symm)]⟩, fun j n m hj hm => ?_⟩
  change (w.ns.set _ _)[j]? = some m at hm
  by_cases e : k.toNat = j
  · subst e
    rw [List.getElem?_set_self hlt] at hm
    rw [hn] at hj
    rw [← Option.some.inj hj, ← Option.some.inj hm]
    exact h2
  · rw [List.getElem?_set_ne e] at hm
    exact grows_same j n m hj hm
theorem step_node {w : Wd} (h : RW w) {x : Hp} (h0 : (atNode w x).2 = 0) : Step w (atNode w x).1 x := by
  rw [atNode] at h0 ⊢
  by_cases g : 0 ≤ x.n ∧ x.n ≤ 2
  · rw [if_neg (by simpa using g)] at h0 ⊢
    have hn := h.nd_at g
    have hck := h.nck g
    obtain ⟨_, _, R⟩ := rn_of hck
    have hbe : ∀ j a, x.n.toNat = j + 1 → w.ns[j]? = some a → Within (w.nd x.n).whole.cells a.u.cells := fun j a hj hja => h.behind j a _ hja (by rw [← hj]; exact hn)
    by_cases k13 : x.k = 13
    · rw [if_pos k13] at h0 ⊢
      obtain ⟨h1, e⟩ := onN_ok h0
      rw [e]
      have hup : (w.nd x.n).up = false := by
        cases hu : (w.nd x.n).up with
        | false => rfl
        | true => rw [Nd.boot, hu, if_pos rfl] at h1; cases h1
      obtain ⟨e2, h2, h3⟩ := boot_ok hck hup
      exact step_putN h x g h2 (by rw [e2]; exact R.grows) (by rw [h3]; exact hbe)
    · rw [if_neg k13] at h0 ⊢
      cases hup : (w.nd x.n).up with
      | false => rw [hup, if_pos rfl] at h0; cases h0
      | true =>
        rw [hup, if_neg (by simp)] at h0
        rw [if_neg (by simp)]
        have hwu := (R.upw hup).2
        by_cases k8 : x.k = 8
        · rw [if_pos k8] at h0 ⊢
          obtain ⟨h1, e⟩ := onN_ok h0
          rw [e]
          obtain ⟨_, h2, e3, h4, h5⟩ := write_ok hck hup h1
          have hcells : (unext (w.nd x.n).u ⟨2, 0, x.p, En.zero⟩).1.cells = (w.nd x.n).u.cells := by
            rcases (unext_ok h2).2.2 with ⟨_, _, _, e⟩ | ⟨e, _⟩
            · rw [e]
            · cases e
          exact step_putN h x g h4 (by rw [e3]; exact unext_within h2) (by rw [h5, hcells, ← hwu]; exact hbe)
        · rw [if_neg k8] at h0 ⊢
          by_cases k9 : x.k = 9
          · rw [if_pos k9] at h0 ⊢
            rw [learnAt] at h0 ⊢
            by_cases gc : 0 ≤ x.c ∧ x.c ≤ 2
            · rw [if_neg (by simpa using gc)] at h0 ⊢
              obtain ⟨h1, e⟩ := onC_ok h0
              rw [e]
              obtain ⟨_, e2, h3⟩ := learn_ok h1
              refine step_putC h gc h3 ?_
              rw [e2]
              exact h.clost gc
            · rw [if_pos gc] at h0; cases h0
          · rw [if_neg k9]
            obtain ⟨h1, h2, _⟩ := crash_ok hck hup
            exact step_putN h x g h1 (within_refl _) (by rw [h2, ← hwu]; exact hbe)
  · rw [if_pos g] at h0; cases h0
theorem step_client {w : Wd} (h : RW w) {x : Hp} (h0 : (atClient w x).2 = 0) : Step w (atClient w x).1 x := by
  rw [atClient] at h0 ⊢
  by_cases g : 0 ≤ x.c ∧ x.c ≤ 2
  · rw [if_neg (by simpa using g)] at h0 ⊢
    by_cases hd : (doesAt w (w.cl x.c) x).2 = 0
    · rw [if_neg (by simpa using hd)]
      have key : (doesAt w (w.cl x.c) x).1.ck = 0 ∧ (doesAt w (w.cl x.c) x).1.lost w.ns = false ∧ (x.k = 3 → w.tip + 1 ≤ 60) := by
        clear h0
        have hcl := h.clost g
        have hck := h.cck g
        revert hd
        unfold doesAt
        by_cases k1 : x.k = 1
        · rw [if_pos k1]
          by_cases ke : x.e.k = 3
          · rw [if_pos ke]; intro hd; cases hd
          · rw [if_neg ke]; intro hd
            obtain ⟨_, _, e, h1⟩ := want_ok hd
            exact ⟨h1, by rw [e]; exact lost_first rfl, fun k => by omega⟩
        rw [if_neg k1]
        by_cases k2 : x.k = 2
        · rw [if_pos k2]; intro hd
          obtain ⟨_, _, h1, h2, _⟩ := ring_ck hd
          exact ⟨h1, lost_idle (by rw [h2]; decide), fun k => by omega⟩
        rw [if_neg k2]
        by_cases k3 : x.k = 3
        · rw [if_pos k3]
          by_cases kt : w.tip = 60
          · rw [if_pos kt]; intro hd; cases hd
          · rw [if_neg kt]; intro hd
            obtain ⟨_, ha, e, h1⟩ := place_ok hd
            exact ⟨h1, by rw [e]; exact lost_first rfl, fun _ => by omega⟩
        rw [if_neg k3]
        by_cases k6 : x.k = 6
        · rw [if_pos k6]; intro hd
          by_cases ha : 0 ≤ x.n ∧ x.n ≤ 59
          · obtain ⟨f1, f2⟩ := fill_ok hck ha
            obtain ⟨e, h1⟩ := f2 (f1.1 hd)
            exact ⟨h1, by rw [e]; exact lost_first rfl, fun k => absurd k k3⟩
          · rw [placeOf, if_neg (by simpa using hck)] at hd
            by_cases hz : (w.cl x.c).d = 0
            · rw [if_neg (by simpa using hz), if_pos ha] at hd; cases hd
            · rw [if_pos hz] at hd; cases hd
        rw [if_neg k6]
        by_cases k7 : x.k = 7
        · rw [if_pos k7, playAt]
          by_cases p1 : (w.cl x.c).n = 60
          · rw [if_pos p1]; intro hd; cases hd
          · rw [if_neg p1]
            cases p2 : (w.nd 2).up with
            | false => rw [if_pos rfl]; intro hd; cases hd
            | true =>
              rw [if_neg (by simp)]
              by_cases p3 : (readIn w.us (w.cl x.c).n).2 = 0
              · rw [if_neg (by simpa using p3)]; intro hd
                obtain ⟨_, _, _, e, h1⟩ := play_ok hd
                refine ⟨h1, ?_, fun k => absurd k k3⟩
                rw [e]
                exact hcl
              · rw [if_pos p3]; intro hd; exact absurd hd p3
        rw [if_neg k7]
        intro _
        exact ⟨cnew_ck, lost_first rfl, fun k => absurd k k3⟩
      obtain ⟨q1, q2, q3⟩ := key
      have S := step_putC h g q1 q2
      refine ⟨⟨S.right.ns3, S.right.cs3, ?_, S.right.time, S.right.node, S.right.behind, S.right.client, S.right.holds⟩, Int.le_refl _, S.others, S.nodes, S.grows⟩
      have ht := h.tip
      show 0 ≤ (if x.k = 3 then w.tip + 1 else w.tip) ∧ (if x.k = 3 then w.tip + 1 else w.tip) ≤ 60
      by_cases k3 : x.k = 3
      · rw [if_pos k3]; have := q3 k3; omega
      · rw [if_neg k3]; exact ht
    · rw [if_pos hd] at h0; exact absurd h0 hd
  · rw [if_pos g] at h0; cases h0
/-- A client that hears, behind what was written. -/
theorem hear_right {w : Wd} (h : RW w) {who : Int} (g : 0 ≤ who ∧ who ≤ 2) (hd : (w.cl who).d = 2) {n' : Nd} {s : En} (hk : 0 ≤ (w.cl who).l ∧ (w.cl who).l ≤ 2) (hs : s.chk = 0) (H : Wrote w (w.cl who) n' s) :
    (hearOf (w.cl who) s).2 = 0 ∧ (hearOf (w.cl who) s).1.ck = 0 ∧ (hearOf (w.cl who) s).1.lost (w.putN (w.cl who).l n').ns = false := by
  obtain ⟨h1, h2, h3⟩ := hear_ok (h.cck g) hd hs
  refine ⟨h1, h2, ?_⟩
  rcases h3 with h3 | h3
  · exact lost_idle h3
  · rw [h3]
    refine lost_iff.2 fun _ _ => ?_
    have hlt := (List.getElem?_eq_some_iff.1 (h.nd_at hk)).1
    have e : ((w.cl who).l + 1).toNat - 1 = (w.cl who).l.toNat := by omega
    show plcN (w.ns.set _ n') (((w.cl who).l + 1).toNat - 1) (w.cl who).a.toNat = s
    rw [e]
    exact plc_at (us_at (List.getElem?_set_self hlt)) H.place
theorem step_link {w : Wd} (h : RW w) {x : Hp} (h0 : (atLink w x).2 = 0) : Step w (atLink w x).1 x := by
  rw [atLink] at h0 ⊢
  by_cases g : 0 ≤ x.c ∧ x.c ≤ 2
  · rw [if_neg (by simpa using g)] at h0 ⊢
    by_cases g2 : (w.cl x.c).d ≠ 2 ∨ (w.nd (w.cl x.c).l).up = false
    · rw [if_pos g2] at h0; cases h0
    · rw [if_neg g2] at h0 ⊢
      have hd : (w.cl x.c).d = 2 := Classical.byContradiction fun hh => g2 (Or.inl hh)
      have hup : (w.nd (w.cl x.c).l).up = true := by
        cases hu : (w.nd (w.cl x.c).l).up with
        | true => rfl
        | false => exact absurd (Or.inr hu) g2
      rw [goAt] at h0 ⊢
      by_cases gl : (linkIn w.us (w.cl x.c).l (w.cl x.c).a (w.cl x.c).e (w.cl x.c).p).2.2 = 0
      · rw [if_neg (by simpa using gl)] at h0 ⊢
        obtain ⟨hk, ha, hep, r, s, e, hs, hah, hx, hc⟩ := link_facts h gl
        have hn := h.nd_at hk
        have hck := h.nck hk
        obtain ⟨_, _, R⟩ := rn_of hck
        have hbe : ∀ j a, (w.cl x.c).l.toNat = j + 1 → w.ns[j]? = some a → Within (w.nd (w.cl x.c).l).u.cells a.u.cells := fun j a hj hja => within_trans R.grows (h.behind j a _ hja (by rw [← hj]; exact hn))
        rw [e] at h0 ⊢
        by_cases k15 : x.k = 15
        · rw [if_pos k15] at h0 ⊢
          obtain ⟨h1, e2⟩ := onN_ok h0
          rw [e2]
          rcases hc with ⟨rfl, _⟩ | ⟨rfl, rfl, hb, hun⟩
          · rw [Nd.tear, if_pos (show Rc.zero.k = 0 from rfl)] at h1; cases h1
          · obtain ⟨t1, t2, t3, t4⟩ := tear_ok hck hup (by rw [hun]) h1
            refine step_putN h x hk t1 (by rw [t2]; exact within_refl _) (fun j a hj hja => ?_)
            rcases t4 with ⟨t4, _⟩ | ⟨t4, _⟩
            · rw [t4]; exact hbe j a hj hja
            · rw [t4, hun]; exact within_set (hbe j a hj hja) (hah j a hj hja)
        · rw [if_neg k15] at h0 ⊢
          by_cases k5 : x.k = 5
          · rw [if_pos k5] at h0 ⊢
            obtain ⟨h1, e2⟩ := onN_ok h0
            rw [e2]
            have H := any_ok h e hup h1
            exact step_putN h x hk H.ck H.grows H.behind
          · rw [if_neg k5] at h0 ⊢
            rw [hearAt] at h0 ⊢
            by_cases hw : ((w.nd (w.cl x.c).l).writeAny r).2 = 0
            · rw [if_neg (by simpa using hw)] at h0 ⊢
              have H := any_ok h e hup hw
              obtain ⟨q1, q2, q3⟩ := hear_right h g hd hk hs H
              rw [if_neg (by simpa using q1)]
              have S1 := step_putN h x hk H.ck H.grows H.behind
              have S2 := step_putC S1.right g q2 q3
              refine ⟨S2.right, Int.le_refl _, fun k hk => ?_, S1.nodes, S1.grows⟩
              rw [S2.others k hk]; rfl
            · rw [if_pos hw] at h0; exact absurd h0 hw
      · rw [if_pos gl] at h0; exact absurd h0 gl
  · rw [if_pos g] at h0; cases h0
/-- A world stays one. -/
theorem happened_step {w : Wd} (h : RW w) {x : Hp} (h0 : (happened w x).2 = 0) : Step w (happened w x).1 x := by
  rw [happened] at h0 ⊢
  by_cases k1 : x.k = 10
  · rw [if_pos k1] at h0 ⊢
    rw [tipOf] at h0 ⊢
    by_cases g : 0 ≤ x.n ∧ x.n ≤ 60
    · rw [if_neg (by simpa using g)]
      exact ⟨⟨h.ns3, h.cs3, g, h.time, h.node, h.behind, h.client, h.holds⟩, Int.le_refl _, fun _ _ => rfl, ⟨0, fun _ _ => rfl⟩, grows_same⟩
    · rw [if_pos g] at h0; cases h0
  rw [if_neg k1] at h0 ⊢
  by_cases k2 : x.k = 11
  · rw [if_pos k2] at h0 ⊢
    rw [tickOf] at h0 ⊢
    by_cases g : 1 ≤ x.n ∧ x.n ≤ 100000 - w.t
    · rw [if_neg (by simpa using g)]
      have ht := h.time
      exact ⟨⟨h.ns3, h.cs3, h.tip, (show 0 ≤ w.t + x.n ∧ w.t + x.n ≤ 100000 by omega), h.node, h.behind, h.client, h.holds⟩, (show w.t ≤ w.t + x.n by omega), fun _ _ => rfl, ⟨0, fun _ _ => rfl⟩, grows_same⟩
    · rw [if_pos g] at h0; cases h0
  rw [if_neg k2] at h0 ⊢
  by_cases k3 : x.k = 8 ∨ x.k = 9 ∨ x.k = 12 ∨ x.k = 13
  · rw [if_pos k3] at h0 ⊢
    exact step_node h h0
  rw [if_neg k3] at h0 ⊢
  by_cases k4 : x.k = 4 ∨ x.k = 5 ∨ x.k = 15
  · rw [if_pos k4] at h0 ⊢
    exact step_link h h0
  rw [if_neg k4] at h0 ⊢
  by_cases k5 : x.k = 1 ∨ x.k = 2 ∨ x.k = 3 ∨ x.k = 6 ∨ x.k = 7 ∨ x.k = 14
  · rw [if_pos k5] at h0 ⊢
    exact step_client h h0
  rw [if_neg k5] at h0
  cases h0
end Go.Proofs.YtmoaobfmopimlafGreatDoor
namespace Go.Proofs.YtmoaobfmopimlafGreatDoor
open Go.RowKit
theorem set_self {α : Type} : ∀ (l : List α) (k : Nat) (x : α), l[k]? = some x → l.set k x = l
  | [], _, _, _ => rfl
  | y :: r, 0, x, h => by obtain rfl : y = x := by simpa using h
                          rfl
  | y :: r, k + 1, x, h => by rw [List.set_cons_succ, set_self r k x (by simpa using h)]
theorem putN_self {w : Wd} (h : RW w) {k : Int} (hk : 0 ≤ k ∧ k ≤ 2) : w.putN k (w.nd k) = w := by
  rw [Wd.putN, set_self _ _ _ (h.nd_at hk)]
theorem putN_putN (w : Wd) (k : Int) (a b : Nd) : (w.putN k a).putN k b = w.putN k b := by
  show (⟨(w.ns.set _ a).set _ b, _, _, _⟩ : Wd) = _
  rw [List.set_set]; rfl
theorem nd_putN {w : Wd} (h : RW w) {k : Int} (hk : 0 ≤ k ∧ k ≤ 2) (n : Nd) : (w.putN k n).nd k = n := by
  have hlt := (List.getElem?_eq_some_iff.1 (h.nd_at hk)).1
  show (w.ns.set _ n).getD _ _ = n
  rw [List.getD_eq_getElem?_getD, List.getElem?_set_self hlt]; rfl
def hp (k c n : Int) : Hp := ⟨k, c, n, 0, 0, En.zero⟩
theorem hp_boot (w : Wd) (k : Int) : happened w (hp 13 0 k) = atNode w (hp 13 0 k) := rfl
theorem hp_crash (w : Wd) (k : Int) : happened w (hp 12 0 k) = atNode w (hp 12 0 k) := rfl
theorem boot_at {w : Wd} {k : Int} (hk : 0 ≤ k ∧ k ≤ 2) {n : Nd} (h : (w.nd k).boot = (n, 0)) : happened w (hp 13 0 k) = (w.putN k n, 0) := by
  rw [hp_boot, atNode, if_neg (by simpa [hp] using hk), if_pos (by simp [hp])]
  show w.onN k (w.nd k).boot = _
  rw [h, Wd.onN, if_neg (by simp)]
/-- A unit that loses its power, and is up again. -/
theorem stands_facts {w : Wd} (h : RW w) {k : Int} (hk : 0 ≤ k ∧ k ≤ 2) (hup : (w.nd k).up = true) :
    ∃ x, happened w (hp 12 0 k) = (x, 0) ∧ RW x ∧ (x.nd k).up = false ∧ happened x (hp 13 0 k) = (w, 0) := by
  obtain ⟨h1, h2, h3⟩ := crash_ok (h.nck hk) hup
  have e : happened w (hp 12 0 k) = (w.putN k ⟨(w.nd k).u, (w.nd k).s, (w.nd k).w, false⟩, 0) := by
    rw [hp_crash, atNode, if_neg (by simpa [hp] using hk), if_neg (by simp [hp])]
    show (if (w.nd k).up = false then _ else _) = _
    rw [hup, if_neg (by simp), if_neg (by simp [hp]), if_neg (by simp [hp])]
    rfl
  have S := happened_step h (x := hp 12 0 k) (by rw [e])
  rw [e] at S
  refine ⟨_, e, S.right, by rw [nd_putN h hk], ?_⟩
  have hb : ((w.putN k ⟨(w.nd k).u, (w.nd k).s, (w.nd k).w, false⟩).nd k).boot = (w.nd k, 0) := by rw [nd_putN h hk]; exact h3
  rw [boot_at hk hb, putN_putN, putN_self h hk]
/-- What has an error changes nothing. -/
theorem happened_stay {w : Wd} {x : Hp} (h0 : (happened w x).2 ≠ 0) : (happened w x).1 = w := by
  have onN : ∀ (k : Int) (r : Nd × Int), (w.onN k r).2 ≠ 0 → (w.onN k r).1 = w := fun k r h => by
    unfold Wd.onN at h ⊢
    by_cases hr : r.2 = 0
    · rw [if_neg (by simpa using hr)] at h; exact absurd rfl h
    · rw [if_pos hr]
  have onC : ∀ (k : Int) (r : Cl × Int), (w.onC k r).2 ≠ 0 → (w.onC k r).1 = w := fun k r h => by
    unfold Wd.onC at h ⊢
    by_cases hr : r.2 = 0
    · rw [if_neg (by simpa using hr)] at h; exact absurd rfl h
    · rw [if_pos hr]
  revert h0
  unfold happened
  repeat' split
  · unfold tipOf; split
    · exact fun _ => rfl
    · exact fun h => absurd rfl h
  · unfold tickOf; split
    · exact fun _ => rfl
    · exact fun h => absurd rfl h
  · unfold atNode learnAt
    repeat' split
    all_goals first | exact fun _ => rfl | exact onN _ _ | exact onC _ _ | exact fun h => absurd rfl h
  · unfold atLink goAt hearAt
    repeat' split
    all_goals first | exact fun _ => rfl | exact onN _ _ | exact onC _ _ | exact fun h => absurd rfl h
  · unfold atClient
    repeat' split
    all_goals first | exact fun _ => rfl | exact fun h => absurd rfl h
  · exact fun _ => rfl
theorem happened_right {w : Wd} (h : RW w) (x : Hp) : RW (happened w x).1 := by
  by_cases h0 : (happened w x).2 = 0
  · exact (happened_step h h0).right
  · rw [happened_stay h0]; exact h
theorem runL_right : ∀ (l : List Hp) {w : Wd}, RW w → RW (runL w l).1
  | [], _, h => h
  | x :: r, _, h => runL_right r (happened_right h x)
theorem runL_append : ∀ (a b : List Hp) (w : Wd), runL w (a ++ b) = ((runL (runL w a).1 b).1, (runL w a).2 ++ (runL (runL w a).1 b).2)
  | [], _, _ => rfl
  | x :: a, b, w => by rw [List.cons_append, runL, runL_append a b, runL]; rfl
theorem runL_snoc (l : List Hp) (w : Wd) (x : Hp) : runL w (l ++ [x]) = ((happened (runL w l).1 x).1, (runL w l).2 ++ [(happened (runL w l).1 x).2]) := by
  rw [runL_append]; rfl
end Go.Proofs.YtmoaobfmopimlafGreatDoor
namespace Go.Proofs.YtmoaobfmopimlafGreatDoor
open Go.RowKit
/-- A node at a place of a block of nodes. -/
structure NAt (w : World) (g o : Nat) (NC : List Value) (x : Nb) : Prop where
  blk : w.heap[g]? = some (.cells NC.toArray 49)
  place : ∀ (i : Nat) (v : Value), x.cells[i]? = some v → NC[o + i]? = some v
  rows : NodeT w x
theorem NAt.later {w w' : World} {g o : Nat} {NC : List Value} {x : Nb} (h : NAt w g o NC x) (hb : Below w.heap.size w w') : NAt w' g o NC x := ⟨heap_below h.blk hb (heap_lt h.blk), h.place, h.rows.later hb⟩
theorem NAt.cell {w : World} {g o : Nat} {NC : List Value} {x : Nb} (h : NAt w g o NC x) {i : Nat} {v : Value} (hv : x.cells[i]? = some v) : w.cell? ⟨g, o + i, none⟩ = some v := by
  rw [Joins.cell_of_block h.blk]
  simpa using h.place i v hv
theorem NAt.fz {w : World} {g o : Nat} {NC : List Value} {x : Nb} (h : NAt w g o NC x) (i : Nat) : w.frozen? ⟨g, i, none⟩ = false := Joins.unfrozen_of_block h.blk i
/-- A node's cells stored: its unit and disk; its disk and power; all. -/
def st4 (w : World) (g o : Nat) (y : Nb) : World := (((w.setCell ⟨g, o, none⟩ (.int .i64 y.n.u.p)).setCell ⟨g, o + 1, none⟩ y.vc).setCell ⟨g, o + 2, none⟩ y.vs).setCell ⟨g, o + 3, none⟩ y.vw
def st3 (w : World) (g o : Nat) (y : Nb) : World := ((w.setCell ⟨g, o + 2, none⟩ y.vs).setCell ⟨g, o + 3, none⟩ y.vw).setCell ⟨g, o + 4, none⟩ (.bool y.n.up)
def st5 (w : World) (g o : Nat) (y : Nb) : World := (st4 w g o y).setCell ⟨g, o + 4, none⟩ (.bool y.n.up)
/-- What a node's function leaves: the node as it was, or another one, stored. -/
def Post (st : World → Nat → Nat → Nb → World) (w w' : World) (g o : Nat) (x : Nb) (n' : Nd) : Prop :=
  ∃ w1, Below w.heap.size w w1 ∧ ((w' = w1 ∧ n' = x.n) ∨ ∃ y, NodeT w1 y ∧ y.n = n' ∧ w' = st w1 g o y)
def Post3 (w w' : World) (g o : Nat) (x : Nb) (n' : Nd) : Prop :=
  ∃ w1, Below w.heap.size w w1 ∧ ((w' = w1 ∧ n' = x.n) ∨ ∃ y, NodeT w1 y ∧ y.n = n' ∧ y.vc = x.vc ∧ w' = st3 w1 g o y)
theorem mem_set {α : Type} {xs : List α} {k : Nat} {y x : α} (h : x ∈ xs.set k y) : x ∈ y :: xs := by
  rcases List.mem_or_eq_of_mem_set h with h | h
  · exact List.mem_cons_of_mem _ h
  · rw [h]; exact List.mem_cons_self ..
theorem nodes_set (xs : List Nb) (k : Nat) (y : Nb) : nodesOf (xs.set k y) = (nodesOf xs).set k y.n := List.map_set ..
theorem clients_set (xs : List Cb) (k : Nat) (y : Cb) : clientsOf (xs.set k y) = (clientsOf xs).set k y.c := List.map_set ..
theorem nodes_at {xs : List Nb} {k : Nat} {x : Nb} (h : xs[k]? = some x) : (nodesOf xs)[k]? = some x.n := by
  show (xs.map Nb.n)[k]? = _
  rw [List.getElem?_map, h]; rfl
theorem clients_at {xs : List Cb} {k : Nat} {x : Cb} (h : xs[k]? = some x) : (clientsOf xs)[k]? = some x.c := by
  show (xs.map Cb.c)[k]? = _
  rw [List.getElem?_map, h]; rfl
/-- A node of the row, where it lies. -/
theorem WIn.nat {X w : World} {B g1 g2 : Nat} {xs : List Nb} {cs : List Cb} {tip t : Int} (h : WIn X w B g1 g2 xs tip cs t) {k : Nat} {x : Nb} (hx : xs[k]? = some x) : NAt w g1 (k * 5) (xs.flatMap Nb.cells) x :=
  ⟨h.st.nrow, fun i v hi => row_flat Nb.five xs k x hx i v hi, (h.st.nodes x (List.mem_of_getElem? hx)).1⟩
theorem WSt.with {X w : World} {B g1 g2 : Nat} {NC CC : List Value} {tip t : Int} {L : List Nb} {M : List Cb} (h : WSt X w B g1 g2 NC tip CC t L M) {y : Nb} (hy : NodeR w y) : WSt X w B g1 g2 NC tip CC t (y :: L) M :=
  h.more (fun x hx => (List.mem_cons.1 hx).elim (fun e => e ▸ hy) (h.nodes x)) h.clients
theorem lift4 {X w w' : World} {B g1 g2 : Nat} {xs : List Nb} {cs : List Cb} {tip t : Int} (h : WIn X w B g1 g2 xs tip cs t) {k : Nat} {x : Nb} (hx : xs[k]? = some x) {n' : Nd} (hp : Post st4 w w' g1 (k * 5) x n') (h60 : n'.u.cells.length = 60) (hup : n'.up = x.n.up) :
    ∃ ys, WIn X w' B g1 g2 ys tip cs t ∧ nodesOf ys = (nodesOf xs).set k n' := by
  obtain ⟨w1, hb, hc⟩ := hp
  rcases hc with ⟨rfl, rfl⟩ | ⟨y, hy, rfl, rfl⟩
  · exact ⟨xs, h.later hb, (set_self _ _ _ (nodes_at hx)).symm⟩
  · obtain ⟨s1, s2, s3⟩ := (⟨roomy_sl hy.unit.room, roomy_sl hy.disk.room1, roomy_sl hy.disk.room2⟩ : _ ∧ _ ∧ _)
    have H := (((((h.st.later hb).with ⟨hy, h60⟩).setN (k * 5 + 0) (int_nob y.n.u.p)).setN (k * 5 + 1) (slice_nob s1)).setN (k * 5 + 2) (slice_nob s2)).setN (k * 5 + 3) (slice_nob s3)
    rw [nput4 hx y hup] at H
    exact ⟨xs.set k y, ⟨H.more (fun x hx => H.nodes x (mem_set hx)) H.clients, by rw [List.length_set]; exact h.three, h.three'⟩, nodes_set xs k y⟩
theorem lift5 {X w w' : World} {B g1 g2 : Nat} {xs : List Nb} {cs : List Cb} {tip t : Int} (h : WIn X w B g1 g2 xs tip cs t) {k : Nat} {x : Nb} (hx : xs[k]? = some x) {n' : Nd} (hp : Post st5 w w' g1 (k * 5) x n') (h60 : n'.u.cells.length = 60) :
    ∃ ys, WIn X w' B g1 g2 ys tip cs t ∧ nodesOf ys = (nodesOf xs).set k n' := by
  obtain ⟨w1, hb, hc⟩ := hp
  rcases hc with ⟨rfl, rfl⟩ | ⟨y, hy, rfl, rfl⟩
  · exact ⟨xs, h.later hb, (set_self _ _ _ (nodes_at hx)).symm⟩
  · obtain ⟨s1, s2, s3⟩ := (⟨roomy_sl hy.unit.room, roomy_sl hy.disk.room1, roomy_sl hy.disk.room2⟩ : _ ∧ _ ∧ _)
    have H := ((((((h.st.later hb).with ⟨hy, h60⟩).setN (k * 5 + 0) (int_nob y.n.u.p)).setN (k * 5 + 1) (slice_nob s1)).setN (k * 5 + 2) (slice_nob s2)).setN (k * 5 + 3) (slice_nob s3)).setN (k * 5 + 4) (bool_nob y.n.up)
    rw [nput5 hx y] at H
    exact ⟨xs.set k y, ⟨H.more (fun x hx => H.nodes x (mem_set hx)) H.clients, by rw [List.length_set]; exact h.three, h.three'⟩, nodes_set xs k y⟩
theorem lift3 {X w w' : World} {B g1 g2 : Nat} {xs : List Nb} {cs : List Cb} {tip t : Int} (h : WIn X w B g1 g2 xs tip cs t) {k : Nat} {x : Nb} (hx : xs[k]? = some x) {n' : Nd} (hp : Post3 w w' g1 (k * 5) x n') (h60 : n'.u.cells.length = 60) (hu : n'.u = x.n.u) :
    ∃ ys, WIn X w' B g1 g2 ys tip cs t ∧ nodesOf ys = (nodesOf xs).set k n' := by
  obtain ⟨w1, hb, hc⟩ := hp
  rcases hc with ⟨rfl, rfl⟩ | ⟨y, hy, rfl, hv, rfl⟩
  · exact ⟨xs, h.later hb, (set_self _ _ _ (nodes_at hx)).symm⟩
  · obtain ⟨s2, s3⟩ := (⟨roomy_sl hy.disk.room1, roomy_sl hy.disk.room2⟩ : _ ∧ _)
    have H := ((((h.st.later hb).with ⟨hy, h60⟩).setN (k * 5 + 2) (slice_nob s2)).setN (k * 5 + 3) (slice_nob s3)).setN (k * 5 + 4) (bool_nob y.n.up)
    rw [nput3 hx y (by rw [hu]) hv] at H
    exact ⟨xs.set k y, ⟨H.more (fun x hx => H.nodes x (mem_set hx)) H.clients, by rw [List.length_set]; exact h.three, h.three'⟩, nodes_set xs k y⟩
/-- Power alone. -/
theorem lift1 {X w : World} {B g1 g2 : Nat} {xs : List Nb} {cs : List Cb} {tip t : Int} (h : WIn X w B g1 g2 xs tip cs t) {k : Nat} {x : Nb} (hx : xs[k]? = some x) (b : Bool) :
    ∃ ys, WIn X (w.setCell ⟨g1, k * 5 + 4, none⟩ (.bool b)) B g1 g2 ys tip cs t ∧ nodesOf ys = (nodesOf xs).set k ⟨x.n.u, x.n.s, x.n.w, b⟩ := by
  have hy := h.st.nodes x (List.mem_of_getElem? hx)
  have H := (h.st.with (y := ⟨⟨x.n.u, x.n.s, x.n.w, b⟩, x.vc, x.vs, x.vw⟩) ⟨⟨hy.1.unit, hy.1.disk⟩, hy.2⟩).setN (k * 5 + 4) (bool_nob b)
  rw [nput1 hx b] at H
  exact ⟨_, ⟨H.more (fun x hx => H.nodes x (mem_set hx)) H.clients, by rw [List.length_set]; exact h.three, h.three'⟩, nodes_set xs k _⟩
/-- A client's cells stored. -/
def stC (w : World) (g o : Nat) (y : Cb) : World :=
  (((((((((((w.setCell ⟨g, o, none⟩ (.int .i64 y.c.p)).setCell ⟨g, o + 1, none⟩ (.int .i64 y.c.d)).setCell ⟨g, o + 2, none⟩ (.int .i64 y.c.e.k)).setCell ⟨g, o + 3, none⟩ (.int .i64 y.c.e.j)).setCell ⟨g, o + 4, none⟩ (.int .i64 y.c.e.v)).setCell ⟨g, o + 5, none⟩ (.int .i64 y.c.e.t)).setCell ⟨g, o + 6, none⟩ (.int .i64 y.c.e.c)).setCell ⟨g, o + 7, none⟩ (.int .i64 y.c.a)).setCell ⟨g, o + 8, none⟩ (.int .i64 y.c.l)).setCell ⟨g, o + 9, none⟩ (.int .i64 y.c.n)).setCell ⟨g, o + 10, none⟩ y.v1).setCell ⟨g, o + 11, none⟩ y.v2
theorem liftC {X w : World} {B g1 g2 : Nat} {xs : List Nb} {cs : List Cb} {tip t : Int} (h : WIn X w B g1 g2 xs tip cs t) {k : Nat} {x : Cb} (hx : cs[k]? = some x) {y : Cb} (hy : ClientR w y) :
    ∃ ds, WIn X (stC w g2 (k * 12) y) B g1 g2 xs tip ds t ∧ clientsOf ds = (clientsOf cs).set k y.c := by
  have s1 := slOf_sl hy.1.1
  have s2 := slOf_sl hy.1.2
  have h0 := h.st.more (L' := xs) (M' := y :: cs) h.st.nodes (fun z hz => (List.mem_cons.1 hz).elim (fun e => e ▸ hy) (h.st.clients z))
  have H := (((((((((((h0.setC (k * 12 + 0) (int_nob y.c.p)).setC (k * 12 + 1) (int_nob y.c.d)).setC (k * 12 + 2) (int_nob y.c.e.k)).setC (k * 12 + 3) (int_nob y.c.e.j)).setC (k * 12 + 4) (int_nob y.c.e.v)).setC (k * 12 + 5) (int_nob y.c.e.t)).setC (k * 12 + 6) (int_nob y.c.e.c)).setC (k * 12 + 7) (int_nob y.c.a)).setC (k * 12 + 8) (int_nob y.c.l)).setC (k * 12 + 9) (int_nob y.c.n)).setC (k * 12 + 10) (slice_nob s1)).setC (k * 12 + 11) (slice_nob s2)
  rw [cput12 hx y] at H
  exact ⟨cs.set k y, ⟨H.more H.nodes (fun z hz => H.clients z (mem_set hz)), h.three, by rw [List.length_set]; exact h.three'⟩, clients_set cs k y⟩
end Go.Proofs.YtmoaobfmopimlafGreatDoor
namespace Go.Proofs.YtmoaobfmopimlafGreatDoor
open Go.RowKit
set_option maxHeartbeats 2000000 in
/-- bytes.Equal, at every two slices. -/
theorem bytesEqual (v1 v2 : Value) (s t : List UInt8) (w : World) (h1 : ByteSl w v1 s) (h2 : ByteSl w v2 t) :
    Calls Tryz.prog 36 #[v1, v2] w fun e w' => e = .returned (.bool (decide (s = t))) ∧ w' = w := by
  have e1 := str_of h1
  have e2 := str_of h2
  have hd : decide (s = t) = (s == t) := by by_cases h : s = t <;> simp [h]
  rw [hd]
  obtain ⟨a1, c1, rfl, _⟩ := h1
  obtain ⟨a2, c2, rfl, _⟩ := h2
  clear hd
  go_enter Tryz.func36, Tryz.ntmps36
  go_wp2
  go_ret
  exact ⟨rfl, rfl⟩
theorem sizeY : (Tryz.prog.info? 5).map (·.size) = some 1 := by kernel_rfl
/-- A row of bytes of the call's own, full. -/
structure Own1 (w w' : World) (v : Value) (xs : List UInt8) (g : Nat) : Prop where
  out : v = .slice (some ⟨g, 0, none⟩) xs.length xs.length
  new : w.heap.size ≤ g
  row : w'.heap[g]? = some (.cells (xs.flatMap bt).toArray 5)
  below : Below w.heap.size w w'
theorem Own1.sl {w w' : World} {v : Value} {xs : List UInt8} {g : Nat} (h : Own1 w w' v xs g) : ByteSl w' v xs := by
  rw [h.out]
  exact slOf_lit bt_one h.row (by simp)
theorem Own1.roomy {w w' : World} {v : Value} {xs : List UInt8} {g : Nat} (h : Own1 w w' v xs g) : Roomy v := ⟨_, _, _, h.out, Nat.le_refl _⟩
set_option maxHeartbeats 1000000 in
theorem copyOfY (v : Value) (xs : List UInt8) (w : World) (hv : ByteSl w v xs) (hn : xs.length ≤ 1000000) :
    Calls Tryz.prog 166 #[v] w fun e w' => ∃ u g, e = .returned u ∧ Own1 w w' u xs g := by
  obtain ⟨i0, hi, hz0, hz1, hz2⟩ := info_parts infoY
  have H1 : Hid (ByteSl w v xs) := hv
  obtain ⟨a1, c1, rfl, _⟩ := hv
  obtain ⟨cs, hcs⟩ : ∃ cs, Hid (xs.flatMap bt = cs) := ⟨_, rfl⟩
  have hone : ∀ u ∈ cs, u.oneCell' = true := by rw [← hcs.out]; exact oneY xs
  have hlen : cs.length = xs.length * 1 := by rw [← hcs.out]; exact row_len bt_one xs
  obtain ⟨n1, hn1⟩ : ∃ n1, xs.length = n1 := ⟨_, rfl⟩
  have L1 : Hid (xs.length = n1) := hn1
  rw [hn1] at H1 hn hlen ⊢
  clear hn1
  go_enter Tryz.func166, Tryz.ntmps166
  go_wp2_with (at_make; refine wpList_make_full _ rfl _ _ 45 rfl w.heap.size 5 i0 (.int .u8 0) 1 Tryz.underlying45 hi hz0 hz1 _ _ _ _ n1 rfl rfl rfl rfl (by rw [hz2]; omega) (by unfold maxLen; omega) (Nat.le_refl _) ?_)
  intro w1 hown hgrow
  obtain ⟨hl0, ho⟩ := hown
  rcases ho with ⟨h, _⟩ | ⟨g, cap, cur, hv', _, hg, _, _, hsz, htake⟩
  · cases h
  injection hv' with ha _ hc
  injection ha with ha
  injection ha with ha _ _
  subst ha hc
  have hB1 : Below w.heap.size w w1 := ⟨hgrow.os, hgrow.tape, hgrow.output, hgrow.size, fun k hk => hgrow.block k hk (fun h => by cases h)⟩
  have hcur : cur.toList.length = n1 * 1 := by simpa using hsz
  have hg' : w1.heap[w.heap.size]? = some (.cells cur.toList.toArray 5 (0, 0)) := by simpa using hg
  clear hi hz0 hz1 hz2 hl0 htake hgrow hg hsz
  have hpos : 0 < Nat.min n1 n1 → (some ⟨w.heap.size, 0, none⟩ : Option Addr) = some ⟨w.heap.size, 0, none⟩ ∧ ∃ ad, a1 = some ad ∧ ∀ j v, cs[j]? = some v → w1.cell? (ad.add j) = some v := fun h0 => by
    have h0' : 0 < n1 := by
      have : 0 < min n1 n1 := h0
      omega
    obtain ⟨b, off, rfl, hE⟩ := H1.out.at h0'
    refine ⟨rfl, _, rfl, fun j u hj => ?_⟩
    rw [Lib.add_plain]
    rw [← hcs.out] at hj
    exact rows_flat bt_one xs off (hE.later hB1) j u hj
  have hmin : cs.length = Nat.min n1 n1 * 1 := by rw [hlen]; show _ = min n1 n1 * 1; rw [Nat.min_self]
  have hfit : 0 + cs.length ≤ cur.toList.length := by rw [hcur, hlen]; omega
  have hall := splice_all (hcur.trans hlen.symm)
  obtain ⟨cl, hcl⟩ : ∃ cl, Hid (cur.toList = cl) := ⟨_, rfl⟩
  rw [hcl.out] at hg' hfit hall
  have HALL : Hid (splice cl 0 cs = cs) := hall
  clear hcur hcl hall
  go_wp2_with ((with_reducible show wpList _ _ _ (Oper.mk (some 9) _ _ _ _ _ :: _) _ _); refine wpList_copyK rfl _ _ 45 45 rfl 5 1 Tryz.underlying45 sizeY (some ⟨w.heap.size, 0, none⟩) a1 n1 n1 n1 c1 rfl rfl w.heap.size 0 cl 5 hg' cs hmin hpos hfit hone w.heap.size w hB1 (Nat.le_refl _) ?_)
  intro w2 hg2 hB2
  go_wp2
  go_ret
  rw [HALL.out] at hg2
  exact ⟨_, w.heap.size, rfl, by rw [L1.out]; rfl, Nat.le_refl _, by rw [hcs.out]; exact hg2.out, hB2⟩
/-- A row's two parts written. -/
theorem splice_two {cl cs ds : List Value} {n1 n2 : Nat} (h : cl.length = n1 + n2) (h1 : cs.length = n1) (h2 : ds.length = n2) : splice (splice cl 0 cs) n1 ds = cs ++ ds := by
  unfold splice
  simp only [List.take_zero, List.nil_append, Nat.zero_add]
  have e1 : (cs ++ cl.drop cs.length).take n1 = cs := by rw [← h1, List.take_left']; rfl
  have e2 : (cs ++ cl.drop cs.length).drop (n1 + ds.length) = [] := by
    apply List.drop_of_length_le
    simp
    omega
  rw [e1, e2, List.append_nil]
set_option maxHeartbeats 2000000 in
set_option maxRecDepth 100000 in
theorem joinY (v1 v2 : Value) (xs ys : List UInt8) (w : World) (hv1 : ByteSl w v1 xs) (hv2 : ByteSl w v2 ys) (hn : xs.length + ys.length ≤ 1000000) :
    Calls Tryz.prog 167 #[v1, v2] w fun e w' => ∃ u g, e = .returned u ∧ Own1 w w' u (xs ++ ys) g := by
  obtain ⟨i0, hi, hz0, hz1, hz2⟩ := info_parts infoY
  have H1 : Hid (ByteSl w v1 xs) := hv1
  have H2 : Hid (ByteSl w v2 ys) := hv2
  obtain ⟨a1, c1, rfl, _⟩ := hv1
  obtain ⟨a2, c2, rfl, _⟩ := hv2
  obtain ⟨cs, hcs⟩ : ∃ cs, Hid (xs.flatMap bt = cs) := ⟨_, rfl⟩
  obtain ⟨ds, hds⟩ : ∃ ds, Hid (ys.flatMap bt = ds) := ⟨_, rfl⟩
  have hone : ∀ u ∈ cs, u.oneCell' = true := by rw [← hcs.out]; exact oneY xs
  have hone2 : ∀ u ∈ ds, u.oneCell' = true := by rw [← hds.out]; exact oneY ys
  have hlen : cs.length = xs.length * 1 := by rw [← hcs.out]; exact row_len bt_one xs
  have hlen2 : ds.length = ys.length * 1 := by rw [← hds.out]; exact row_len bt_one ys
  have HA : Hid ((xs ++ ys).length = xs.length + ys.length) := List.length_append
  obtain ⟨n1, hn1⟩ : ∃ n1, xs.length = n1 := ⟨_, rfl⟩
  obtain ⟨n2, hn2⟩ : ∃ n2, ys.length = n2 := ⟨_, rfl⟩
  rw [hn1] at H1 hn hlen HA ⊢
  rw [hn2] at H2 hn hlen2 HA ⊢
  clear hn1 hn2
  have hd1 : n1 ≤ 1000000 := by omega
  have hd2 : n2 ≤ 1000000 := by omega
  have hw12 : IntKind.i64.wrap ((n1 : Int) + (n2 : Int)) = ((n1 + n2 : Nat) : Int) := by rw [IntKind.wrap_i64]; omega
  go_enter Tryz.func167, Tryz.ntmps167
  go_wp2_with (at_make; refine wpList_make_full _ rfl _ _ 45 rfl w.heap.size 5 i0 (.int .u8 0) 1 Tryz.underlying45 hi hz0 hz1 _ _ _ _ (n1 + n2) rfl rfl (by first | rfl | (simp [hw12])) (by first | rfl | (simp [hw12])) (by rw [hz2]; omega) (by unfold maxLen; omega) (Nat.le_refl _) ?_)
  intro w1 hown hgrow
  obtain ⟨hl0, ho⟩ := hown
  rcases ho with ⟨h, _⟩ | ⟨g, cap, cur, hv', _, hg, _, _, hsz, htake⟩
  · cases h
  injection hv' with ha _ hc
  injection ha with ha
  injection ha with ha _ _
  subst ha hc
  have hB1 : Below w.heap.size w w1 := ⟨hgrow.os, hgrow.tape, hgrow.output, hgrow.size, fun k hk => hgrow.block k hk (fun h => by cases h)⟩
  have hcur : cur.toList.length = (n1 + n2) * 1 := by simpa using hsz
  have hg' : w1.heap[w.heap.size]? = some (.cells cur.toList.toArray 5 (0, 0)) := by simpa using hg
  clear hi hz0 hz1 hz2 hl0 htake hgrow hg hsz
  have hpos : 0 < Nat.min n1 (n1 + n2) → (some ⟨w.heap.size, 0, none⟩ : Option Addr) = some ⟨w.heap.size, 0, none⟩ ∧ ∃ ad, a1 = some ad ∧ ∀ j v, cs[j]? = some v → w1.cell? (ad.add j) = some v := fun h0 => by
    have h0' : 0 < n1 := by
      have : 0 < min n1 (n1 + n2) := h0
      omega
    obtain ⟨b, off, rfl, hE⟩ := H1.out.at h0'
    refine ⟨rfl, _, rfl, fun j u hj => ?_⟩
    rw [Lib.add_plain]
    rw [← hcs.out] at hj
    exact rows_flat bt_one xs off (hE.later hB1) j u hj
  have hmin : cs.length = Nat.min n1 (n1 + n2) * 1 := by rw [hlen]; show _ = min n1 (n1 + n2) * 1; rw [Nat.min_eq_left (by omega)]
  have hfit : 0 + cs.length ≤ cur.toList.length := by rw [hcur, hlen]; omega
  obtain ⟨cl, hcl⟩ : ∃ cl, Hid (cur.toList = cl) := ⟨_, rfl⟩
  rw [hcl.out] at hg' hfit hcur
  clear hcl
  go_wp2_with ((with_reducible show wpList _ _ _ (Oper.mk (some 14) _ _ _ _ _ :: _) _ _); refine wpList_copyK rfl _ _ 45 45 rfl 5 1 Tryz.underlying45 sizeY (some ⟨w.heap.size, 0, none⟩) a1 (n1 + n2) (n1 + n2) n1 c1 rfl rfl w.heap.size 0 cl 5 hg' cs hmin hpos hfit hone w.heap.size w hB1 (Nat.le_refl _) ?_)
  intro w2 hg2 hB2
  have hg2' := hg2.out
  obtain ⟨ck, hck⟩ : ∃ ck, Hid (splice cl 0 cs = ck) := ⟨_, rfl⟩
  rw [hck.out] at hg2'
  clear hg2 hg' hB1 hpos
  have hckl : ck.length = n1 + n2 := by
    rw [← hck.out]
    unfold splice
    simp
    omega
  have hmin2 : ds.length = Nat.min n2 n2 * 1 := by rw [hlen2]; show _ = min n2 n2 * 1; rw [Nat.min_self]
  have hpos2 : 0 < Nat.min n2 n2 → (if n2 = 0 then some ⟨w.heap.size, 0, none⟩ else some ⟨w.heap.size, n1, none⟩ : Option Addr) = some ⟨w.heap.size, n1, none⟩ ∧ ∃ ad, a2 = some ad ∧ ∀ j v, ds[j]? = some v → w2.cell? (ad.add j) = some v := fun h0 => by
    have h0' : 0 < n2 := by
      have : 0 < min n2 n2 := h0
      omega
    obtain ⟨b, off, rfl, hE⟩ := H2.out.at h0'
    refine ⟨by rw [if_neg (by omega)], _, rfl, fun j u hj => ?_⟩
    rw [Lib.add_plain]
    rw [← hds.out] at hj
    exact rows_flat bt_one ys off (hE.later hB2) j u hj
  have hfit2 : n1 + ds.length ≤ ck.length := by rw [hckl, hlen2]; omega
  have HALL : Hid (splice ck n1 ds = cs ++ ds) := by
    rw [Hid, ← hck.out]
    exact splice_two (n2 := n2) (by rw [hcur]; omega) (by rw [hlen]; omega) (by rw [hlen2]; omega)
  clear hckl hck hcur hfit hmin
  go_wp2_with ((with_reducible show wpList _ _ _ (Oper.mk (some 20) _ _ _ _ _ :: _) _ _); refine wpList_copyK rfl _ _ 45 45 rfl 5 1 Tryz.underlying45 sizeY (if n2 = 0 then some ⟨w.heap.size, 0, none⟩ else some ⟨w.heap.size, n1, none⟩) a2 n2 n2 n2 c2 rfl rfl w.heap.size n1 ck 5 hg2' ds hmin2 hpos2 hfit2 hone2 w.heap.size w hB2 (Nat.le_refl _) ?_)
  all_goals
    intro w3 hg3 hB3
    rw [HALL.out] at hg3
    go_wp2
    go_ret
    exact ⟨_, w.heap.size, rfl, by first | (rw [HA.out]; rfl) | (rw [HA.out, show n2 = 0 by assumption]; rfl), Nat.le_refl _, by rw [List.flatMap_append, hcs.out, hds.out]; exact hg3.out, hB3⟩
end Go.Proofs.YtmoaobfmopimlafGreatDoor
namespace Go.Proofs.YtmoaobfmopimlafGreatDoor
open Go.RowKit
theorem bytes_eq {a b : ByteArray} (h : a.data.toList = b.data.toList) : a = b := by
  rw [bytes_eta a, bytes_eta b, h]
theorem ret_pair {fn : Func} {R : Ending → World → Prop} {a : Act} {W : World} {p q : Nat} {x y : Value} (hf : fn.results = #[.tmp p, .tmp q]) (hd : a.defers = [])
    (h1 : a.tmps.getD p undef = x) (h2 : a.tmps.getD q undef = y) (hp : R (.returned (.tuple #[x, y])) W) : bodyPost Tryz.prog fn R .ret a W := by
  have h1' : a.tmps[p]?.getD undef = x := by simpa using h1
  have h2' : a.tmps[q]?.getD undef = y := by simpa using h2
  refine bodyPost_ret (v := .tuple #[x, y]) ?_ hd hp
  simp [results, hf, h1', h2', go_sem]
theorem tup_str {a b : ByteArray} {v : Value} (h : a.data.toList = b.data.toList) : Ending.returned (.tuple #[.string a, v]) = .returned (.tuple #[.string b, v]) := by rw [bytes_eq h]
end Go.Proofs.YtmoaobfmopimlafGreatDoor
namespace Go.Proofs.YtmoaobfmopimlafGreatDoor
open Go.RowKit
theorem ext_from (l : List UInt8) (k : Nat) : (⟨l.toArray⟩ : ByteArray).extract k l.length = ⟨(l.drop k).toArray⟩ := by
  rw [bytes_eta (ByteArray.extract _ _ _), Lib.extract_data]
  simp only
  rw [List.take_of_length_le (by rw [List.length_drop]; exact Nat.le_refl _)]
/-- The end of a function whose results are a record in memory and a slot. -/
theorem ret_rec {fn : Func} {R : Ending → World → Prop} {a : Act} {W : World} {b p q : Nat} {r : Rc} {y : Value} (hf : fn.results = #[.cell p 94, .tmp q]) (hd : a.defers = [])
    (h2 : a.tmps.getD p undef = .pointer (some ⟨b, 0, none⟩)) (h3 : a.tmps.getD q undef = y) (hR : W.heap[b]? = some (boxRc r)) (hp : R (.returned (.tuple #[r.val, y])) W) :
    bodyPost Tryz.prog fn R .ret a W := by
  have c0 : ∀ i, W.cell? ⟨b, i, none⟩ = #[Value.int .i64 r.k, .int .i64 r.a, .int .i64 r.p, .int .i64 r.e.k, .int .i64 r.e.j, .int .i64 r.e.v, .int .i64 r.e.t, .int .i64 r.e.c][i]? := fun i => Joins.cell_of_block hR i
  refine bodyPost_ret (v := .tuple #[r.val, y]) ?_ hd hp
  rw [results_cell_tmp hf, h2, h3]
  simp [go_sem, c0]
end Go.Proofs.YtmoaobfmopimlafGreatDoor
namespace Go.Proofs.YtmoaobfmopimlafGreatDoor
open Go.RowKit
def r1 : Rc := ⟨1, 7, 0, e1⟩
def r2 : Rc := ⟨2, 0, 3, En.zero⟩
end Go.Proofs.YtmoaobfmopimlafGreatDoor
namespace Go.Proofs.YtmoaobfmopimlafGreatDoor
open Go.RowKit
set_option maxHeartbeats 1000000 in
theorem note_number (s : ByteArray) (w : World) (hL : Laid w) (hs : s.size ≤ 30000) :
    Calls Tryz.prog 268 #[.string s] w fun e w' => e = .returned (.tuple #[.int .i64 ((numOf s.data.toList).getD 0), .bool (numOf s.data.toList).isSome]) ∧ Below w.heap.size w w' := by
  cases h : Lib.atoiAll s.data.toList with
  | ok v =>
    have hb := Lib.atoiAll_bounds h
    have hat := Tryz.strconv_Atoi_ok s (by omega) v h
    by_cases hi : Lib.itoa v = s.data.toList
    · have hn : numOf s.data.toList = some v := by simp only [numOf, h, if_pos hi]
      rw [hn]
      go_enter Tryz.func268, Tryz.ntmps268
      go_wp2_with fail
      refine (hat _).mono ?_
      rintro e w1 ⟨rfl, hw⟩
      have hb1 : Below w.heap.size w w1 := by
        rcases hw with rfl | ⟨t, rfl⟩
        · exact Below.refl _ _
        · exact Lib.bytesWorld_below _ _ _
      clear hw
      go_wp2_with fail
      refine (Tryz.strconv_Itoa v hb.1 hb.2 _ (hL.later hb1).pow).mono ?_
      rintro e w2 ⟨rfl, hw2⟩
      have hb2 := hb1.trans ((below_itoa hw2).mono hb1.size)
      clear hw2
      go_wp2
      go_ret2
      exact ⟨rfl, hb2⟩
    · have hn : numOf s.data.toList = none := by simp only [numOf, h, if_neg hi]
      rw [hn]
      clear hn h
      have hne : (Lib.itoa v == s.toList) = false := by rw [bytes_toList]; simpa using hi
      clear hi
      go_enter Tryz.func268, Tryz.ntmps268
      go_wp2_with fail
      refine (hat _).mono ?_
      rintro e w1 ⟨rfl, hw⟩
      have hb1 : Below w.heap.size w w1 := by
        rcases hw with rfl | ⟨t, rfl⟩
        · exact Below.refl _ _
        · exact Lib.bytesWorld_below _ _ _
      clear hw
      go_wp2_with fail
      refine (Tryz.strconv_Itoa v hb.1 hb.2 _ (hL.later hb1).pow).mono ?_
      rintro e w2 ⟨rfl, hw2⟩
      have hb2 := hb1.trans ((below_itoa hw2).mono hb1.size)
      clear hw2
      go_wp2
      go_ret2
      exact ⟨rfl, hb2⟩
  | «syntax» =>
    have hn : numOf s.data.toList = none := by simp only [numOf, h]
    rw [hn]
    obtain ⟨tp, p, hv⟩ := hL.syn
    have hv0 : w.cell? ⟨6, 0, none⟩ = some (.iface tp p) := by have h0 := World.var?_cell gSyn hv 0; simpa using h0
    go_enter Tryz.func268, Tryz.ntmps268
    go_wp2_with fail
    refine (Tryz.strconv_Atoi_syntax s (by omega) h _ _ hv0 (Or.inr ⟨_, _, rfl⟩)).mono ?_
    rintro e w1 ⟨N, rfl, -, -, hb⟩
    go_wp2
    go_ret2
    exact ⟨rfl, hb⟩
  | range =>
    have hn : numOf s.data.toList = none := by simp only [numOf, h]
    rw [hn]
    obtain ⟨tp, p, hv⟩ := hL.rng
    have hv0 : w.cell? ⟨7, 0, none⟩ = some (.iface tp p) := by have h0 := World.var?_cell gRng hv 0; simpa using h0
    go_enter Tryz.func268, Tryz.ntmps268
    go_wp2_with fail
    refine (Tryz.strconv_Atoi_range s (by omega) h _ _ hv0 (Or.inr ⟨_, _, rfl⟩)).mono ?_
    rintro e w1 ⟨N, rfl, -, -, hb⟩
    go_wp2
    go_ret2
    exact ⟨rfl, hb⟩
end Go.Proofs.YtmoaobfmopimlafGreatDoor
namespace Go.Proofs.YtmoaobfmopimlafGreatDoor
open Go.RowKit
abbrev sealBy : ByteArray := ⟨#[115, 101, 97, 108, 32]⟩
theorem litePre (l : List UInt8) (w : World) : Calls Tryz.prog 185 #[.string ⟨l.toArray⟩, .string sealBy] w fun e w' => e = .returned (.bool (sealL.isPrefixOf l)) ∧ w' = w := Tryz.stringslite_HasPrefix ⟨l.toArray⟩ sealBy w
theorem liteCut_yes (l : List UInt8) (w : World) (hp : sealL.isPrefixOf l = true) (hl : l.length ≤ 30000) :
    Calls Tryz.prog 267 #[.string ⟨l.toArray⟩, .string sealBy] w fun e w' => e = .returned (.tuple #[.string ⟨(l.drop 5).toArray⟩, .bool true]) ∧ w' = w := by
  have hpr := litePre l w
  rw [hp] at hpr
  have hlen5 : 5 ≤ l.length := by have := congrArg List.length (seal_prefix hp); rw [List.length_append] at this; have h5 : sealL.length = 5 := rfl; omega
  have hsl := ext_from l 5
  have hl5 : (5 : Int) ≤ (l.length : Int) := by omega
  generalize l.drop 5 = l5 at *
  clear hp hlen5
  go_enter Tryz.func267, Tryz.ntmps267
  go_wp2_with fail
  refine hpr.mono ?_
  rintro e w1 ⟨rfl, rfl⟩
  go_wp2
  go_ret2
  exact ⟨rfl, rfl⟩
theorem liteCut_no (l : List UInt8) (w : World) (hp : sealL.isPrefixOf l = false) :
    Calls Tryz.prog 267 #[.string ⟨l.toArray⟩, .string sealBy] w fun e w' => e = .returned (.tuple #[.string ⟨l.toArray⟩, .bool false]) ∧ w' = w := by
  have hpr := litePre l w
  rw [hp] at hpr
  clear hp
  go_enter Tryz.func267, Tryz.ntmps267
  go_wp2_with fail
  refine hpr.mono ?_
  rintro e w1 ⟨rfl, rfl⟩
  go_wp2
  go_ret2
  exact ⟨rfl, rfl⟩
theorem cutPre_yes (l : List UInt8) (w : World) (hp : sealL.isPrefixOf l = true) (hl : l.length ≤ 30000) :
    Calls Tryz.prog 233 #[.string ⟨l.toArray⟩, .string sealBy] w fun e w' => e = .returned (.tuple #[.string ⟨(l.drop 5).toArray⟩, .bool true]) ∧ w' = w := by
  have hpr := liteCut_yes l w hp hl
  clear hp hl
  go_enter Tryz.func233, Tryz.ntmps233
  go_wp2_with fail
  refine hpr.mono ?_
  rintro e w1 ⟨rfl, rfl⟩
  go_wp2
  go_ret2
  exact ⟨rfl, rfl⟩
theorem cutPre_no (l : List UInt8) (w : World) (hp : sealL.isPrefixOf l = false) :
    Calls Tryz.prog 233 #[.string ⟨l.toArray⟩, .string sealBy] w fun e w' => e = .returned (.tuple #[.string ⟨l.toArray⟩, .bool false]) ∧ w' = w := by
  have hpr := liteCut_no l w hp
  clear hp
  go_enter Tryz.func233, Tryz.ntmps233
  go_wp2_with fail
  refine hpr.mono ?_
  rintro e w1 ⟨rfl, rfl⟩
  go_wp2
  go_ret2
  exact ⟨rfl, rfl⟩
set_option maxHeartbeats 4000000 in
set_option maxRecDepth 100000 in
/-- Print, at every record. -/
theorem notePrint_any (r : Rc) (w : World) (hL : Laid w) :
    Calls Tryz.prog 165 #[r.val] w fun e w' => e = .returned (.tuple #[.string ⟨r.ptx.toArray⟩, .int .i64 r.chk]) ∧ Below w.heap.size w w' := by
  have hB0 := grew (Below.refl w.heap.size w) (boxRc r)
  have hck := noteCheck_any r (w.alloc (boxRc r))
  have hx0 : (w.alloc (boxRc r)).heap[w.heap.size]? = some (boxRc r) := heap_new _ _
  have hL0 := hL.later hB0
  have HB0 : Aside _ := hB0
  have HL0 : Aside _ := hL0
  have HX0 : Aside _ := hx0
  clear hB0 hL0 hx0
  by_cases hz : r.chk = 0
  · have HP : Hid (r.ptx = r.txt) := by rw [Hid, Rc.ptx, if_pos hz]
    rw [HP.out, hz]
    rw [hz] at hck
    by_cases hk : r.k = 2
    · have hp := (Rc.seal hz hk).1
      have HT : Hid (r.txt = sealL ++ Lib.itoa r.p) := by rw [Hid, Rc.txt, if_pos hk]
      have hit := fun W hW => itoa_any r.p W hW (by omega) (by omega)
      have hlen := Lib.itoa_length_le r.p (by omega) (by omega)
      have hkb : (r.k == 2) = true := by rw [hk]; rfl
      generalize Lib.itoa r.p = px at *
      have hd1 : ¬ (9223372036854775807 < 5 + px.length) := by omega
      have hd3 : 5 + px.length ≤ 9223372036854775807 := by omega
      clear hz hk
      go_enter Tryz.func165, Tryz.ntmps165
      go_wp2_with fail
      refine hck.mono ?_
      rintro e w1 ⟨rfl, hb1⟩
      have hx1 := heap_below HX0.out hb1 (heap_lt HX0.out)
      have z1 : ∀ i, w1.cell? ⟨w.heap.size, i, none⟩ = #[Value.int .i64 r.k, .int .i64 r.a, .int .i64 r.p, .int .i64 r.e.k, .int .i64 r.e.j, .int .i64 r.e.v, .int .i64 r.e.t, .int .i64 r.e.c][i]? := fun i => Joins.cell_of_block hx1 i
      have HB1 : Aside (Below w.heap.size w w1) := step_below1 HB0.out hb1
      have hit1 := hit w1 (HL0.out.later hb1)
      clear hck hx1 hb1 hit HB0 HL0 HX0 hL
      go_wp2_with fail
      refine hit1.mono ?_
      rintro e w2 ⟨rfl, hb2⟩
      have HB2 : Aside (Below w.heap.size w w2) := step_below1 HB1.out hb2
      clear hit1 hb2 HB1 z1
      go_wp2
      refine ret_pair (p := 2) (q := 3) rfl rfl rfl rfl ⟨tup_str ?_, HB2.out⟩
      rw [HT.out, data_append]
      rfl
    · obtain ⟨h1, ha, hp, he⟩ := Rc.write hz hk
      have HT : Hid (r.txt = Lib.itoa r.a ++ ([58, 32] ++ r.e.txt)) := by rw [Hid, Rc.txt, if_neg hk]
      have hit := fun W hW => itoa_any r.a W hW (by omega) (by omega)
      have htx := fun W hW => print_any r.e W hW
      rw [En.ptx, if_pos he, he] at htx
      have hlen := Lib.itoa_length_le r.a (by omega) (by omega)
      have hlen2 := txt_len r.e he
      have hkb : (r.k == 2) = false := by rw [beq_eq_false_iff_ne]; exact hk
      generalize Lib.itoa r.a = px at *
      generalize r.e.txt = tx at *
      have hd1 : ¬ (9223372036854775807 < px.length + 2) := by omega
      have hd2 : ¬ (9223372036854775807 < px.length + 2 + tx.length) := by omega
      have hd3 : px.length + 2 ≤ 9223372036854775807 := by omega
      have hd4 : px.length + 2 + tx.length ≤ 9223372036854775807 := by omega
      have hd5 : ¬ (9223372036854775807 < px.length + (2 + tx.length)) := by omega
      have hd6 : px.length + (2 + tx.length) ≤ 9223372036854775807 := by omega
      clear hz h1 hp he hk
      go_enter Tryz.func165, Tryz.ntmps165
      go_wp2_with fail
      refine hck.mono ?_
      rintro e w1 ⟨rfl, hb1⟩
      have hx1 := heap_below HX0.out hb1 (heap_lt HX0.out)
      have z1 : ∀ i, w1.cell? ⟨w.heap.size, i, none⟩ = #[Value.int .i64 r.k, .int .i64 r.a, .int .i64 r.p, .int .i64 r.e.k, .int .i64 r.e.j, .int .i64 r.e.v, .int .i64 r.e.t, .int .i64 r.e.c][i]? := fun i => Joins.cell_of_block hx1 i
      have HB1 : Aside (Below w.heap.size w w1) := step_below1 HB0.out hb1
      have HL1 : Aside (Laid w1) := HL0.out.later hb1
      have HX1 : Aside _ := hx1
      clear hck hx1 hb1 HB0 HL0 HX0 hL
      go_wp2_with fail
      refine (htx _ HL1.out).mono ?_
      rintro e w2 ⟨rfl, hb2⟩
      have hx2 := heap_below HX1.out hb2 (heap_lt HX1.out)
      have HB2 : Aside (Below w.heap.size w w2) := step_below1 HB1.out hb2
      have HL2 : Aside (Laid w2) := HL1.out.later hb2
      clear z1 hb2 htx HB1 HL1 HX1
      have z1 : ∀ i, w2.cell? ⟨w.heap.size, i, none⟩ = #[Value.int .i64 r.k, .int .i64 r.a, .int .i64 r.p, .int .i64 r.e.k, .int .i64 r.e.j, .int .i64 r.e.v, .int .i64 r.e.t, .int .i64 r.e.c][i]? := fun i => Joins.cell_of_block hx2 i
      clear hx2
      go_wp2_with fail
      refine (hit _ HL2.out).mono ?_
      rintro e w3 ⟨rfl, hb3⟩
      have HB3 : Aside (Below w.heap.size w w3) := step_below1 HB2.out hb3
      clear z1 hb3 hit HB2 HL2
      go_wp2
      refine ret_pair (p := 2) (q := 3) rfl rfl rfl rfl ⟨tup_str ?_, HB3.out⟩
      rw [HT.out, data_append, data_append]
      simp
  · have HP : Hid (r.ptx = []) := by rw [Hid, Rc.ptx, if_neg hz]
    rw [HP.out]
    have hzb : (r.chk != 0) = true := by rw [bne_iff_ne]; exact hz
    generalize r.chk = d at *
    go_enter Tryz.func165, Tryz.ntmps165
    go_wp2_with fail
    refine hck.mono ?_
    rintro e w1 ⟨rfl, hb1⟩
    have HB1 : Aside (Below w.heap.size w w1) := step_below1 HB0.out hb1
    clear hck hb1 HB0 HL0 HX0 hL
    go_wp2
    exact ret_pair (p := 2) (q := 3) rfl rfl rfl rfl ⟨rfl, HB1.out⟩
/-- What is read of a seal's word; of a write's words; of a text, ahead of the check. -/
def rdSeal (l : List UInt8) : Rc × Int := match numOf l with | none => (Rc.zero, 1) | some p => (⟨2, 0, p, En.zero⟩, 0)
def rdWrite (a b : List UInt8) : Rc × Int := match numOf a with | none => (Rc.zero, 1) | some x => if ¬ (prs b).2 = 0 then (Rc.zero, (prs b).2) else (⟨1, x, 0, (prs b).1⟩, 0)
def rdRaw (l : List UInt8) : Rc × Int :=
  if sealL.isPrefixOf l = true then rdSeal (l.drop 5) else if (Lib.cut l [58, 32]).2.2 = false then (Rc.zero, 1) else rdWrite (Lib.cut l [58, 32]).1 (Lib.cut l [58, 32]).2.1
theorem read_raw (l : List UInt8) : rcRead l = if ¬ (rdRaw l).2 = 0 then (Rc.zero, (rdRaw l).2) else (rdRaw l).1.fin := by
  unfold rcRead rdRaw
  by_cases hp : sealL.isPrefixOf l = true
  · rw [if_pos hp, if_pos hp]
    unfold rdSeal
    cases numOf (l.drop 5) with
    | none => rfl
    | some p => rfl
  · rw [if_neg hp, if_neg hp]
    by_cases hc : (Lib.cut l [58, 32]).2.2 = false
    · rw [if_pos hc, if_pos hc]; rfl
    · rw [if_neg hc, if_neg hc]
      unfold rdWrite
      cases numOf (Lib.cut l [58, 32]).1 with
      | none => rfl
      | some a =>
        simp only
        by_cases he : (prs (Lib.cut l [58, 32]).2.1).2 = 0
        · have hn : ¬ ¬ (prs (Lib.cut l [58, 32]).2.1).2 = 0 := fun h => h he
          simp only [if_neg hn]
          rfl
        · simp only [if_pos he]
set_option maxHeartbeats 4000000 in
set_option maxRecDepth 100000 in
theorem readSeal_any (l : List UInt8) (w : World) (hL : Laid w) (hl : l.length ≤ 30000) :
    Calls Tryz.prog 234 #[.string ⟨l.toArray⟩] w fun e w' => e = .returned (.tuple #[(rdSeal l).1.val, .int .i64 (rdSeal l).2]) ∧ Below w.heap.size w w' := by
  have hnu := note_number ⟨l.toArray⟩ (w.alloc (boxRc Rc.zero)) (hL.later (grew (Below.refl _ _) _)) (by rw [Lib.size_eq]; exact hl)
  rw [show (⟨l.toArray⟩ : ByteArray).data.toList = l from rfl] at hnu
  have HX0 : Aside ((w.alloc (boxRc Rc.zero)).heap[w.heap.size]? = some (boxRc Rc.zero)) := heap_new _ _
  have HB0 : Aside (Below w.heap.size w (w.alloc (boxRc Rc.zero))) := grew (Below.refl _ _) _
  clear hL hl
  cases hn : numOf l with
  | none =>
    have HF : Hid (rdSeal l = (Rc.zero, 1)) := by rw [Hid, rdSeal, hn]
    rw [HF.out]
    rw [hn] at hnu
    clear hn HF
    go_enter Tryz.func234, Tryz.ntmps234
    go_wp2_with fail
    refine hnu.mono ?_
    rintro e w1 ⟨rfl, hb1⟩
    have y0 := heap_below HX0.out hb1 (heap_lt HX0.out)
    have HB1 : Aside (Below w.heap.size w w1) := step_below1 HB0.out hb1
    have HX1 : Aside _ := y0
    have z0 : ∀ i, w1.cell? ⟨w.heap.size, i, none⟩ = #[Value.int .i64 0, .int .i64 0, .int .i64 0, .int .i64 0, .int .i64 0, .int .i64 0, .int .i64 0, .int .i64 0][i]? := fun i => Joins.cell_of_block y0 i
    have f0 : ∀ i, w1.frozen? ⟨w.heap.size, i, none⟩ = false := fun i => Joins.unfrozen_of_block y0 i
    clear hb1 y0 HX0 HB0 hnu
    go_wp2
    exact ret_rec (p := 2) (q := 3) Tryz.results234 rfl rfl rfl (eight_stores HX1.out Rc.zero) ⟨rfl, below_eight HB1.out (Nat.le_refl _) _ _ _ _ _ _ _ _⟩
  | some p =>
    have HF : Hid (rdSeal l = (⟨2, 0, p, En.zero⟩, 0)) := by rw [Hid, rdSeal, hn]
    rw [HF.out]
    rw [hn] at hnu
    clear hn HF
    go_enter Tryz.func234, Tryz.ntmps234
    go_wp2_with fail
    refine hnu.mono ?_
    rintro e w1 ⟨rfl, hb1⟩
    have y0 := heap_below HX0.out hb1 (heap_lt HX0.out)
    have HB1 : Aside (Below w.heap.size w w1) := step_below1 HB0.out hb1
    have HX1 : Aside _ := y0
    have z0 : ∀ i, w1.cell? ⟨w.heap.size, i, none⟩ = #[Value.int .i64 0, .int .i64 0, .int .i64 0, .int .i64 0, .int .i64 0, .int .i64 0, .int .i64 0, .int .i64 0][i]? := fun i => Joins.cell_of_block y0 i
    have f0 : ∀ i, w1.frozen? ⟨w.heap.size, i, none⟩ = false := fun i => Joins.unfrozen_of_block y0 i
    clear hb1 y0 HX0 HB0 hnu
    go_wp2
    exact ret_rec (p := 2) (q := 3) Tryz.results234 rfl rfl rfl (eight_stores HX1.out ⟨2, 0, p, En.zero⟩) ⟨rfl, below_eight HB1.out (Nat.le_refl _) _ _ _ _ _ _ _ _⟩
set_option maxHeartbeats 4000000 in
set_option maxRecDepth 100000 in
theorem readWrite_any (l m : List UInt8) (w : World) (hL : Laid w) (hl : l.length ≤ 30000) :
    Calls Tryz.prog 236 #[.string ⟨l.toArray⟩, .string ⟨m.toArray⟩] w fun e w' => e = .returned (.tuple #[(rdWrite l m).1.val, .int .i64 (rdWrite l m).2]) ∧ Below w.heap.size w w' := by
  have hnu := note_number ⟨l.toArray⟩ (w.alloc (boxRc Rc.zero)) (hL.later (grew (Below.refl _ _) _)) (by rw [Lib.size_eq]; exact hl)
  rw [show (⟨l.toArray⟩ : ByteArray).data.toList = l from rfl] at hnu
  have hps := fun W hW => parse_any ⟨m.toArray⟩ W hW
  have HX0 : Aside ((w.alloc (boxRc Rc.zero)).heap[w.heap.size]? = some (boxRc Rc.zero)) := heap_new _ _
  have HB0 : Aside (Below w.heap.size w (w.alloc (boxRc Rc.zero))) := grew (Below.refl _ _) _
  have HL : Aside (Laid w) := hL
  clear hL hl
  cases hn : numOf l with
  | none =>
    have HF : Hid (rdWrite l m = (Rc.zero, 1)) := by rw [Hid, rdWrite, hn]
    rw [HF.out]
    rw [hn] at hnu
    clear hn HF hps
    go_enter Tryz.func236, Tryz.ntmps236
    go_wp2_with fail
    refine hnu.mono ?_
    rintro e w1 ⟨rfl, hb1⟩
    have y0 := heap_below HX0.out hb1 (heap_lt HX0.out)
    have HB1 : Aside (Below w.heap.size w w1) := step_below1 HB0.out hb1
    have HX1 : Aside _ := y0
    have z0 : ∀ i, w1.cell? ⟨w.heap.size, i, none⟩ = #[Value.int .i64 0, .int .i64 0, .int .i64 0, .int .i64 0, .int .i64 0, .int .i64 0, .int .i64 0, .int .i64 0][i]? := fun i => Joins.cell_of_block y0 i
    have f0 : ∀ i, w1.frozen? ⟨w.heap.size, i, none⟩ = false := fun i => Joins.unfrozen_of_block y0 i
    clear hb1 y0 HX0 HB0 hnu HL
    go_wp2
    exact ret_rec (p := 4) (q := 5) Tryz.results236 rfl rfl rfl (eight_stores HX1.out Rc.zero) ⟨rfl, below_eight HB1.out (Nat.le_refl _) _ _ _ _ _ _ _ _⟩
  | some x =>
    have HF : Hid (rdWrite l m = if ¬ (prs m).2 = 0 then (Rc.zero, (prs m).2) else (⟨1, x, 0, (prs m).1⟩, 0)) := by rw [Hid, rdWrite, hn]
    rw [HF.out]
    rw [hn] at hnu
    change ∀ W, Laid W → Calls _ _ _ _ fun e w' => e = .returned (.tuple #[(prs m).1.val, .int .i64 (prs m).2]) ∧ _ at hps
    generalize (prs m).1 = y at *
    generalize (prs m).2 = f at *
    obtain ⟨rr, HRR⟩ : ∃ rr, Hid ((if ¬ f = 0 then (Rc.zero, f) else ((⟨1, x, 0, y⟩ : Rc), 0)) = rr) := ⟨_, rfl⟩
    rw [HRR.out]
    clear hn HF
    go_enter Tryz.func236, Tryz.ntmps236
    go_wp2_with fail
    refine hnu.mono ?_
    rintro e w1 ⟨rfl, hb1⟩
    have y0 := heap_below HX0.out hb1 (heap_lt HX0.out)
    have HB1 : Aside (Below w.heap.size w w1) := step_below1 HB0.out hb1
    have HX1 : Aside _ := y0
    have hL1 := HL.out.later HB1.out
    clear hb1 y0 HX0 HB0 hnu HL
    go_wp2_with fail
    refine (hps _ hL1).mono ?_
    rintro e w2 ⟨rfl, hb2⟩
    have y0 := heap_below HX1.out hb2 (heap_lt HX1.out)
    have HB2 : Aside (Below w.heap.size w (w2.alloc (boxE y.k y.j y.v y.t y.c))) := grew (step_below1 HB1.out hb2) _
    have HX2 : Aside ((w2.alloc (boxE y.k y.j y.v y.t y.c)).heap[w.heap.size]? = some (boxRc Rc.zero)) := heap_old y0 _
    have HY2 : Aside ((w2.alloc (boxE y.k y.j y.v y.t y.c)).heap[w2.heap.size]? = some (boxE y.k y.j y.v y.t y.c)) := heap_new _ _
    clear hb2 y0 HX1 HB1 hps hL1
    go_upto_region 5 with fail
    generalize w2.alloc (boxE y.k y.j y.v y.t y.c) = V at *
    generalize w2.heap.size = eb at *
    have z0 : ∀ i, V.cell? ⟨w.heap.size, i, none⟩ = #[Value.int .i64 0, .int .i64 0, .int .i64 0, .int .i64 0, .int .i64 0, .int .i64 0, .int .i64 0, .int .i64 0][i]? := fun i => Joins.cell_of_block HX2.out i
    have f0 : ∀ i, V.frozen? ⟨w.heap.size, i, none⟩ = false := fun i => Joins.unfrozen_of_block HX2.out i
    have z1 : ∀ i, V.cell? ⟨eb, i, none⟩ = #[Value.int .i64 y.k, .int .i64 y.j, .int .i64 y.v, .int .i64 y.t, .int .i64 y.c][i]? := fun i => Joins.cell_of_block HY2.out i
    by_cases hf : f = 0
    · have hfb : (f != 0) = false := by rw [hf]; rfl
      have HF3 : Hid (rr = (⟨1, x, 0, y⟩, 0)) := by rw [Hid, ← HRR.out, if_neg (by simpa using hf)]
      clear hf HRR
      go_wp2
      exact ret_rec (p := 4) (q := 5) Tryz.results236 rfl rfl rfl (eight_stores HX2.out ⟨1, x, 0, y⟩) ⟨by rw [HF3.out]; rfl, below_eight HB2.out (Nat.le_refl _) _ _ _ _ _ _ _ _⟩
    · have hfb : (f != 0) = true := by rw [bne_iff_ne]; exact hf
      have HF3 : Hid (rr = (Rc.zero, f)) := by rw [Hid, ← HRR.out, if_pos hf]
      clear hf HRR
      go_wp2
      exact ret_rec (p := 4) (q := 5) Tryz.results236 rfl rfl rfl (eight_stores HX2.out Rc.zero) ⟨by rw [HF3.out]; rfl, below_eight HB2.out (Nat.le_refl _) _ _ _ _ _ _ _ _⟩
end Go.Proofs.YtmoaobfmopimlafGreatDoor
namespace Go.Proofs.YtmoaobfmopimlafGreatDoor
open Go.RowKit
theorem cutColon (l : List UInt8) (w : World) (hL : Laid w) (hl : l.length ≤ 30000) :
    Calls Tryz.prog 235 #[.string ⟨l.toArray⟩, .string ⟨#[58, 32]⟩] w fun e w' => e = .returned (.tuple #[.string ⟨(Lib.cut l [58, 32]).1.toArray⟩, .string ⟨(Lib.cut l [58, 32]).2.1.toArray⟩, .bool (Lib.cut l [58, 32]).2.2]) ∧ Below w.heap.size w w' := by
  obtain ⟨m, hm⟩ := hL.most
  have h := Tryz.strings_Cut ⟨l.toArray⟩ ⟨#[58, 32]⟩ m w (by simp [Lib.size_eq]; omega) hm
  refine h.mono ?_
  rintro e w' ⟨he, q, rfl⟩
  exact ⟨he, below_drewN (Below.refl _ _) _⟩
theorem cut_fst_len (l s : List UInt8) : (Lib.cut l s).1.length ≤ l.length := by
  unfold Lib.cut
  split
  · simp only [List.length_take]; omega
  · exact Nat.le_refl _
set_option maxHeartbeats 4000000 in
set_option maxRecDepth 100000 in
theorem noteRead_any (l : List UInt8) (w : World) (hL : Laid w) (hl : l.length ≤ 30000) :
    Calls Tryz.prog 207 #[.string ⟨l.toArray⟩] w fun e w' => e = .returned (.tuple #[(rdRaw l).1.val, .int .i64 (rdRaw l).2]) ∧ Below w.heap.size w w' := by
  have HX0 : Aside ((w.alloc (boxRc Rc.zero)).heap[w.heap.size]? = some (boxRc Rc.zero)) := heap_new _ _
  have HB0 : Aside (Below w.heap.size w (w.alloc (boxRc Rc.zero))) := grew (Below.refl _ _) _
  have HL : Aside (Laid w) := hL
  cases hp : sealL.isPrefixOf l with
  | true =>
    have hcp := cutPre_yes l (w.alloc (boxRc Rc.zero)) hp hl
    have HF : Hid (rdRaw l = rdSeal (l.drop 5)) := by rw [Hid, rdRaw, if_pos hp]
    rw [HF.out]
    have hrs := readSeal_any (l.drop 5) (w.alloc (boxRc Rc.zero)) (hL.later HB0.out) (by rw [List.length_drop]; omega)
    generalize l.drop 5 = l5 at *
    generalize (rdSeal l5).1 = y at *
    generalize (rdSeal l5).2 = f at *
    clear hp HF hL hl HL
    go_enter Tryz.func207, Tryz.ntmps207
    go_wp2_with fail
    refine hcp.mono ?_
    rintro e w1 ⟨rfl, rfl⟩
    clear hcp
    go_wp2_with fail
    refine hrs.mono ?_
    rintro e w1 ⟨rfl, hb1⟩
    have y0 := heap_below HX0.out hb1 (heap_lt HX0.out)
    have HB1 : Aside (Below w.heap.size w w1) := step_below1 HB0.out hb1
    have HX1 : Aside _ := y0
    have z0 : ∀ i, w1.cell? ⟨w.heap.size, i, none⟩ = #[Value.int .i64 0, .int .i64 0, .int .i64 0, .int .i64 0, .int .i64 0, .int .i64 0, .int .i64 0, .int .i64 0][i]? := fun i => Joins.cell_of_block y0 i
    have f0 : ∀ i, w1.frozen? ⟨w.heap.size, i, none⟩ = false := fun i => Joins.unfrozen_of_block y0 i
    clear hb1 y0 HX0 HB0 hrs
    go_wp2
    exact ret_rec (p := 2) (q := 3) Tryz.results207 rfl rfl rfl (eight_stores HX1.out y) ⟨rfl, below_eight HB1.out (Nat.le_refl _) _ _ _ _ _ _ _ _⟩
  | false =>
    have hcp := cutPre_no l (w.alloc (boxRc Rc.zero)) hp
    have hcc := cutColon l (w.alloc (boxRc Rc.zero)) (hL.later HB0.out) hl
    have HF : Hid (rdRaw l = if (Lib.cut l [58, 32]).2.2 = false then (Rc.zero, 1) else rdWrite (Lib.cut l [58, 32]).1 (Lib.cut l [58, 32]).2.1) := by rw [Hid, rdRaw, if_neg (by rw [hp]; simp)]
    have hal := Nat.le_trans (cut_fst_len l [58, 32]) hl
    generalize (Lib.cut l [58, 32]).1 = la at *
    generalize (Lib.cut l [58, 32]).2.1 = lb at *
    generalize (Lib.cut l [58, 32]).2.2 = bb at *
    clear hp hL hl
    cases bb with
    | false =>
      rw [if_pos rfl] at HF
      rw [HF.out]
      clear hal HL HF
      go_enter Tryz.func207, Tryz.ntmps207
      go_wp2_with fail
      refine hcp.mono ?_
      rintro e w1 ⟨rfl, rfl⟩
      clear hcp
      go_wp2_with fail
      refine hcc.mono ?_
      rintro e w1 ⟨rfl, hb1⟩
      have y0 := heap_below HX0.out hb1 (heap_lt HX0.out)
      have HB1 : Aside (Below w.heap.size w w1) := step_below1 HB0.out hb1
      have HX1 : Aside _ := y0
      have z0 : ∀ i, w1.cell? ⟨w.heap.size, i, none⟩ = #[Value.int .i64 0, .int .i64 0, .int .i64 0, .int .i64 0, .int .i64 0, .int .i64 0, .int .i64 0, .int .i64 0][i]? := fun i => Joins.cell_of_block y0 i
      have f0 : ∀ i, w1.frozen? ⟨w.heap.size, i, none⟩ = false := fun i => Joins.unfrozen_of_block y0 i
      clear hb1 y0 HX0 HB0 hcc
      go_wp2
      exact ret_rec (p := 2) (q := 3) Tryz.results207 rfl rfl rfl (eight_stores HX1.out Rc.zero) ⟨rfl, below_eight HB1.out (Nat.le_refl _) _ _ _ _ _ _ _ _⟩
    | true =>
      rw [if_neg (by simp)] at HF
      rw [HF.out]
      have hrw := fun W hW => readWrite_any la lb W hW hal
      generalize (rdWrite la lb).1 = y at *
      generalize (rdWrite la lb).2 = f at *
      clear hal HF
      go_enter Tryz.func207, Tryz.ntmps207
      go_wp2_with fail
      refine hcp.mono ?_
      rintro e w1 ⟨rfl, rfl⟩
      clear hcp
      go_wp2_with fail
      refine hcc.mono ?_
      rintro e w1 ⟨rfl, hb1⟩
      have y0 := heap_below HX0.out hb1 (heap_lt HX0.out)
      have HB1 : Aside (Below w.heap.size w w1) := step_below1 HB0.out hb1
      have HX1 : Aside _ := y0
      have hL1 := HL.out.later HB1.out
      clear hb1 y0 HX0 HB0 hcc HL
      go_wp2_with fail
      refine (hrw _ hL1).mono ?_
      rintro e w2 ⟨rfl, hb2⟩
      have y0 := heap_below HX1.out hb2 (heap_lt HX1.out)
      have HB2 : Aside (Below w.heap.size w w2) := step_below1 HB1.out hb2
      have HX2 : Aside _ := y0
      have z0 : ∀ i, w2.cell? ⟨w.heap.size, i, none⟩ = #[Value.int .i64 0, .int .i64 0, .int .i64 0, .int .i64 0, .int .i64 0, .int .i64 0, .int .i64 0, .int .i64 0][i]? := fun i => Joins.cell_of_block y0 i
      have f0 : ∀ i, w2.frozen? ⟨w.heap.size, i, none⟩ = false := fun i => Joins.unfrozen_of_block y0 i
      clear hb2 y0 HX1 HB1 hrw hL1
      go_wp2
      exact ret_rec (p := 2) (q := 3) Tryz.results207 rfl rfl rfl (eight_stores HX2.out y) ⟨rfl, below_eight HB2.out (Nat.le_refl _) _ _ _ _ _ _ _ _⟩
set_option maxHeartbeats 4000000 in
set_option maxRecDepth 100000 in
theorem noteParse_few (l : List UInt8) (w : World) (hL : Laid w) (hl : l.length ≤ 30000) :
    Calls Tryz.prog 181 #[.string ⟨l.toArray⟩] w fun e w' => e = .returned (.tuple #[(rcRead l).1.val, .int .i64 (rcRead l).2]) ∧ Below w.heap.size w w' := by
  have HX0 : Aside ((w.alloc (boxRc Rc.zero)).heap[w.heap.size]? = some (boxRc Rc.zero)) := heap_new _ _
  have HB0 : Aside (Below w.heap.size w (w.alloc (boxRc Rc.zero))) := grew (Below.refl _ _) _
  have hrd := noteRead_any l (w.alloc (boxRc Rc.zero)) (hL.later HB0.out) hl
  have HF : Hid (rcRead l = if ¬ (rdRaw l).2 = 0 then (Rc.zero, (rdRaw l).2) else (rdRaw l).1.fin) := read_raw l
  rw [HF.out]
  generalize (rdRaw l).1 = y at *
  generalize (rdRaw l).2 = f at *
  have hle : (l.length : Int) ≤ 30000 := by omega
  have hck := fun W => noteCheck_any y W
  have HC : Hid (y.fin = if y.chk = 0 then (y, 0) else (Rc.zero, y.chk)) := rfl
  generalize y.chk = d at *
  obtain ⟨rr, HRR⟩ : ∃ rr, Hid ((if ¬ f = 0 then (Rc.zero, f) else y.fin) = rr) := ⟨_, rfl⟩
  rw [HRR.out]
  clear hL hl HF
  go_enter Tryz.func181, Tryz.ntmps181
  go_wp2_with fail
  refine hrd.mono ?_
  rintro e w1 ⟨rfl, hb1⟩
  have y0 := heap_below HX0.out hb1 (heap_lt HX0.out)
  have HB1 : Aside (Below w.heap.size w (w1.alloc (boxRc y))) := grew (step_below1 HB0.out hb1) _
  have HX1 : Aside ((w1.alloc (boxRc y)).heap[w.heap.size]? = some (boxRc Rc.zero)) := heap_old y0 _
  have HY1 : Aside ((w1.alloc (boxRc y)).heap[w1.heap.size]? = some (boxRc y)) := heap_new _ _
  clear hb1 y0 HX0 HB0 hrd
  go_upto_region 4 with fail
  generalize w1.alloc (boxRc y) = V at *
  generalize w1.heap.size = yb at *
  have z0 : ∀ i, V.cell? ⟨w.heap.size, i, none⟩ = #[Value.int .i64 0, .int .i64 0, .int .i64 0, .int .i64 0, .int .i64 0, .int .i64 0, .int .i64 0, .int .i64 0][i]? := fun i => Joins.cell_of_block HX1.out i
  have f0 : ∀ i, V.frozen? ⟨w.heap.size, i, none⟩ = false := fun i => Joins.unfrozen_of_block HX1.out i
  have z1 : ∀ i, V.cell? ⟨yb, i, none⟩ = #[Value.int .i64 y.k, .int .i64 y.a, .int .i64 y.p, .int .i64 y.e.k, .int .i64 y.e.j, .int .i64 y.e.v, .int .i64 y.e.t, .int .i64 y.e.c][i]? := fun i => Joins.cell_of_block HY1.out i
  by_cases hf : f = 0
  · have hfb : (f != 0) = false := by rw [hf]; rfl
    have HF3 : Hid (rr = y.fin) := by rw [Hid, ← HRR.out, if_neg (by simpa using hf)]
    clear hf HRR
    go_wp2_with fail
    refine (hck _).mono ?_
    rintro e w5 ⟨rfl, hb5⟩
    have y0 := heap_below HX1.out hb5 (heap_lt HX1.out)
    have y1 := heap_below HY1.out hb5 (heap_lt HY1.out)
    have HB5 : Aside (Below w.heap.size w w5) := step_below1 HB1.out hb5
    have HR5 : Aside _ := y0
    clear z0 f0 z1 hb5 HX1 HY1 HB1 hck
    have z0 : ∀ i, w5.cell? ⟨w.heap.size, i, none⟩ = #[Value.int .i64 0, .int .i64 0, .int .i64 0, .int .i64 0, .int .i64 0, .int .i64 0, .int .i64 0, .int .i64 0][i]? := fun i => Joins.cell_of_block y0 i
    have f0 : ∀ i, w5.frozen? ⟨w.heap.size, i, none⟩ = false := fun i => Joins.unfrozen_of_block y0 i
    have z1 : ∀ i, w5.cell? ⟨yb, i, none⟩ = #[Value.int .i64 y.k, .int .i64 y.a, .int .i64 y.p, .int .i64 y.e.k, .int .i64 y.e.j, .int .i64 y.e.v, .int .i64 y.e.t, .int .i64 y.e.c][i]? := fun i => Joins.cell_of_block y1 i
    clear y0 y1
    by_cases hd : d = 0
    · subst hd
      have HF2 : Hid (y.fin = (y, 0)) := by rw [Hid, HC.out, if_pos rfl]
      clear HC
      go_wp2
      exact ret_rec (p := 2) (q := 3) Tryz.results181 rfl rfl rfl (eight_stores HR5.out y) ⟨by rw [HF3.out, HF2.out]; rfl, below_eight HB5.out (Nat.le_refl _) _ _ _ _ _ _ _ _⟩
    · have HF2 : Hid (y.fin = (Rc.zero, d)) := by rw [Hid, HC.out, if_neg hd]
      have hdb : (d != 0) = true := by rw [bne_iff_ne]; exact hd
      clear HC
      go_wp2
      exact ret_rec (p := 2) (q := 3) Tryz.results181 rfl rfl rfl (eight_stores HR5.out Rc.zero) ⟨by rw [HF3.out, HF2.out]; rfl, below_eight HB5.out (Nat.le_refl _) _ _ _ _ _ _ _ _⟩
  · have hfb : (f != 0) = true := by rw [bne_iff_ne]; exact hf
    have HF3 : Hid (rr = (Rc.zero, f)) := by rw [Hid, ← HRR.out, if_pos hf]
    clear HC hck hf HRR
    go_wp2
    exact ret_rec (p := 2) (q := 3) Tryz.results181 rfl rfl rfl (eight_stores HX1.out Rc.zero) ⟨by rw [HF3.out]; rfl, below_eight HB1.out (Nat.le_refl _) _ _ _ _ _ _ _ _⟩
end Go.Proofs.YtmoaobfmopimlafGreatDoor
namespace Go.Proofs.YtmoaobfmopimlafGreatDoor
open Go.RowKit
theorem bytesOf_back (l : List UInt8) : Lib.bytesOf (l.map fun x => (x.toNat : Int)) = l := by
  unfold Lib.bytesOf
  rw [List.map_map]
  conv => rhs; rw [← List.map_id l]
  apply List.map_congr_left
  intro x _
  simp
/-- bytes.IndexByte at a line feed. -/
theorem idx_nl (l : List UInt8) (b off c : Nat) (w : World) (h : RowAt bt 1 w b off l) :
    Calls Tryz.prog 180 #[.slice (some ⟨b, off, none⟩) l.length c, .int .u8 10] w fun e w' => e = .returned (.int .i64 (Lib.indexByte l 10)) ∧ w' = w := by
  have k := Tryz.bytes_IndexByte b off l.length c (l.map fun x => (x.toNat : Int)) 10 w (by simp) (fun i hi => by
    have := h i l[i] (List.getElem?_eq_getElem hi) 0 _ rfl
    rw [Nat.mul_one, Nat.add_zero] at this
    rw [this, List.getD_eq_getElem?_getD, List.getElem?_map, List.getElem?_eq_getElem hi]
    rfl)
  rw [bytesOf_back] at k
  exact k
theorem nl_at {l a b : List UInt8} (h : Lib.cut l [10] = (a, b, true)) : Lib.indexByte l 10 = a.length := by rw [← Lib.index_one]; exact (nl_first h).2
theorem nl_at_none {l a b : List UInt8} (h : Lib.cut l [10] = (a, b, false)) : Lib.indexByte l 10 = -1 := by rw [← Lib.index_one]; exact nl_index_no (by rw [h])
theorem elemY : Tryz.prog.underlying 45 = some (.slice (Tryz.prog.elem 45)) := by kernel_rfl
theorem oneBy (W : World) : (sizeOf (Tryz.prog.elem 45)).run Tryz.prog W = .ok 1 W := by kernel_rfl
/-- A slice's rest; a piece of it. -/
theorem sl_rest (b off n c t : Nat) (ht : t < n) (hc : n ≤ c) (W : World) : (Instr.slice 45 (.slice (some ⟨b, off, none⟩) n c) (some (.int .i64 t)) none none).run Tryz.prog W = .ok (.slice (some ⟨b, off + t, none⟩) (n - t) (c - t)) W := by
  rw [run_slice_l (ht := elemY) (h0 := by omega) (h1 := by omega)]
  have hne : ¬ c = t := by omega
  rw [oneBy]
  simp [Result.andThen, sliced, Lib.add_plain, hne]
theorem sl_piece (b off n c t u : Nat) (ht : t < n) (hu : t + u ≤ n) (hc : n ≤ c) (W : World) : (Instr.slice 45 (.slice (some ⟨b, off, none⟩) n c) (some (.int .i64 t)) (some (.int .i64 ((t + u : Nat) : Int))) none).run Tryz.prog W = .ok (.slice (some ⟨b, off + t, none⟩) u (c - t)) W := by
  rw [run_slice_lh (ht := elemY) (h0 := by omega) (h1 := by omega) (h2 := by omega)]
  have hne : ¬ c = t := by omega
  rw [oneBy]
  have e : t + u - t = u := by omega
  simp only [Result.andThen, sliced, Int.toNat_natCast, Lib.add_plain, Nat.mul_one, if_neg hne, Option.map_some, e]
set_option maxHeartbeats 2000000 in
set_option maxRecDepth 100000 in
theorem read_at (b off n c : Nat) (l : List UInt8) (w : World) (hL : Laid w) (hT : RowAt bt 1 w b off l) (hn : l.length = n) (hn0 : 0 < n) (hc : n ≤ c) (hl : n ≤ 30000) :
    Calls Tryz.prog 142 #[.slice (some ⟨b, off, none⟩) n c] w fun e w' => ∃ v, e = .returned (.tuple #[v, .int .i64 (linesOf l 160).2.1, .int .i64 (linesOf l 160).2.2]) ∧ w'.ownsRow w.heap.size 94 8 v (linesOf l 160).1.length ((linesOf l 160).1.flatMap Rc.cells) ∧ Below w.heap.size w w' := by
  have HR : Hid (linesOf l 160 = dl 160 (l.length + 1) l [] 0) := rfl
  have HT : Hid (RowAt bt 1 w b off l) := hT
  have HN : Hid (l.length = n) := hn
  have HF0 : Hid (l.length < l.length + 1) := Nat.lt_succ_self _
  clear hT hn
  go_enter Tryz.func142, Tryz.ntmps142
  go_wp2
  go_loopw [5, 6] (fun v z wr => ∃ (f cnt m : Nat) (acc : List Rc) (r : List UInt8) (ao : Option Addr) (cv : Nat), z = .int .i64 cnt ∧ v = .slice ao m cv ∧ wr.ownsRow w.heap.size 94 8 (.slice ao m cv) m (acc.flatMap Rc.cells) ∧ Hid (acc.length = m) ∧
    m ≤ 160 ∧ Below w.heap.size w wr ∧ Hid (cnt + r.length = n) ∧ Hid (l.drop cnt = r ∧ r.length < f ∧ linesOf l 160 = dl 160 f r acc cnt)) (fun _ z _ => n - (intOf z).toNat)
  case atStart => exact ⟨l.length + 1, 0, 0, [], l, none, 0, rfl, rfl, World.ownsRow_nil _ _ _ _, rfl, Nat.zero_le _, Below.refl _ _, by rw [Hid, Nat.zero_add]; exact HN.out, rfl, HF0.out, HR.out⟩
  case round =>
    clear HR HF0
    obtain ⟨f, cnt, m, acc, r, ao, cv, rfl, rfl, hown, HM, hacc, hB, hr3, hst⟩ := hrel
    have hLr := hL.later hB
    by_cases hr : r = []
    · have hcn : cnt = n := by have := hr3.out; rw [hr] at this; simpa using this
      obtain ⟨f', hf'⟩ : ∃ f', f = f' + 1 := ⟨f - 1, by have := hst.out.2.1; omega⟩
      have HF : Hid (linesOf l 160 = (acc, cnt, 0)) := by rw [Hid, hst.out.2.2, hr, hf']; exact dl_nil _ _ _ _
      have hge : (n : Int) ≤ (cnt : Int) := by omega
      have HO : Aside _ := hown
      clear hst hr hown hr3 hcn
      go_wp2
      go_ret3
      exact ⟨.slice ao m cv, by rw [HF.out]; rfl, by rw [HF.out]; show wr.ownsRow _ _ _ _ acc.length _; rw [HM.out]; exact HO.out, hB⟩
    · have hcn : cnt < n := by
        have := hr3.out
        have : 0 < r.length := List.length_pos_iff.2 hr
        omega
      have hlt : (cnt : Int) < (n : Int) := by omega
      have hrow : RowAt bt 1 wr b (off + cnt) r := by
        have := (HT.out.later hB).drop cnt
        rw [hst.out.1, Nat.mul_one] at this
        exact this
      have hidx := idx_nl r b (off + cnt) (c - cnt) wr hrow
      have hsl := fun W => sl_rest b off n c cnt hcn hc W
      rw [show n - cnt = r.length by have := hr3.out; omega] at hsl
      have hrl : r.length ≤ 30000 := by have := hr3.out; omega
      rcases hcut : Lib.cut r [10] with ⟨a, z, g⟩
      cases g with
      | false =>
        obtain ⟨f', hf'⟩ : ∃ f', f = f' + 1 := ⟨f - 1, by have := hst.out.2.1; omega⟩
        have HF : Hid (linesOf l 160 = (acc, cnt, 9)) := by rw [Hid, hst.out.2.2, hf']; exact dl_torn _ _ _ _ hr hcut
        rw [nl_at_none hcut] at hidx
        have HO : Aside _ := hown
        clear hst hr hown hr3 hcut hrow
        generalize r.length = k at *
        go_wp2_with fail
        refine hidx.mono ?_
        rintro e w2 ⟨rfl, rfl⟩
        clear hidx hsl
        go_wp2
        go_ret3
        exact ⟨.slice ao m cv, by rw [HF.out]; rfl, by rw [HF.out]; show World.ownsRow _ _ _ _ _ acc.length _; rw [HM.out]; exact HO.out, hB⟩
      | true =>
        have hra := nl_back r a z hcut
        have hlen : r.length = a.length + 1 + z.length := by rw [hra]; simp; omega
        rw [nl_at hcut] at hidx
        have hal : a.length ≤ 30000 := by omega
        have hpiece := fun W => sl_piece b off n c cnt a.length hcn (by have := hr3.out; omega) hc W
        rw [Int.natCast_add] at hpiece
        have hta : r.take a.length = a := by rw [hra, List.take_left']; rfl
        have hby : ByteSl wr (.slice (some ⟨b, off + cnt, none⟩) a.length (c - cnt)) a := by
          have := hrow.take a.length
          rw [hta] at this
          exact ⟨_, _, rfl, Or.inr ⟨b, off + cnt, rfl, this⟩⟩
        have hcv := str_of hby
        have hps := fun W hW => noteParse_few a W hW hal
        obtain ⟨f', hf'⟩ : ∃ f', f = f' + 1 := ⟨f - 1, by have := hst.out.2.1; omega⟩
        subst hf'
        have hF1 : Hid ((rcRead a).2 ≠ 0 → linesOf l 160 = (acc, cnt, (rcRead a).2)) := fun h => by rw [hst.out.2.2]; exact dl_bad _ _ _ _ hr hcut h
        have hF2 : Hid ((rcRead a).2 = 0 → m = 160 → linesOf l 160 = (acc, cnt, 2)) := fun h h' => by rw [hst.out.2.2]; exact dl_many _ _ _ _ hr hcut h (by rw [HM.out]; omega)
        have hF3 : Hid ((rcRead a).2 = 0 → ¬ m = 160 → linesOf l 160 = dl 160 f' z (acc ++ [(rcRead a).1]) (cnt + a.length + 1)) := fun h h' => by rw [hst.out.2.2]; exact dl_more _ _ _ _ hr hcut h (by rw [HM.out]; omega)
        have HZ : Hid (l.drop (cnt + a.length + 1) = z ∧ z.length < f' ∧ cnt + a.length + 1 + z.length = n) := by
          refine ⟨?_, by have := hst.out.2.1; omega, by have := hr3.out; omega⟩
          rw [show cnt + a.length + 1 = cnt + (a.length + 1) by omega, ← List.drop_drop, hst.out.1, hra]
          rw [show a ++ 10 :: z = (a ++ [10]) ++ z by simp, List.drop_left']
          simp
        have HO : Aside (wr.ownsRow w.heap.size 94 8 (.slice ao m cv) m (acc.flatMap Rc.cells)) := hown
        have hsum1 : IntKind.i64.wrap ((cnt : Int) + ((a.length : Int) + 1)) = ((cnt + a.length + 1 : Nat) : Int) := by rw [IntKind.wrap_i64]; omega
        have hcb : cnt ≤ 30000 := by omega
        clear hst hr hown hr3 hcut hrow hra hlen hta hby
        generalize r.length = k at *
        generalize (rcRead a).1 = y at *
        generalize (rcRead a).2 = cd at *
        generalize a.length = al at *
        go_wp2_with fail
        refine hidx.mono ?_
        rintro e w2 ⟨rfl, rfl⟩
        clear hidx hsl
        go_wp2_with fail
        refine (hps _ hLr).mono ?_
        rintro e w3 ⟨rfl, hB3⟩
        have hB3' := hB.trans (hB3.mono hB.size)
        have HO3 : Aside (w3.ownsRow w.heap.size 94 8 (.slice ao m cv) m (acc.flatMap Rc.cells)) := ownsRow_later HO.out hB3
        clear hps hpiece hcv hB hB3 HO hLr
        by_cases hcd : cd = 0
        · subst hcd
          by_cases hm : m = 160
          · have HF : Hid (linesOf l 160 = (acc, cnt, 2)) := hF2.out rfl hm
            have hmb : ((m : Int) == 160) = true := by rw [hm]; rfl
            have HOA : Aside ((w3.alloc (boxRc y)).ownsRow w.heap.size 94 8 (.slice ao m cv) m (acc.flatMap Rc.cells)) := ownsRow_later HO3.out (grew (Below.refl _ _) _)
            clear hF1 hF2 hF3 hm
            go_wp2
            go_ret3
            exact ⟨.slice ao m cv, by rw [HF.out]; rfl, by rw [HF.out]; show World.ownsRow _ _ _ _ _ acc.length _; rw [HM.out]; exact HOA.out, grew hB3' _⟩
          · have HF : Hid (linesOf l 160 = dl 160 f' z (acc ++ [y]) (cnt + al + 1)) := hF3.out rfl hm
            have hmb : ((m : Int) == 160) = false := by rw [beq_eq_false_iff_ne]; omega
            have hm1 : m + 1 ≤ 160 := by omega
            have hes : Hid (RecSl ((w3.alloc (boxRc y)).alloc (boxRc y)) (.slice (some ⟨w3.heap.size + 1, 0, none⟩) 1 1) [y]) := by
              have := slOf_lit Rc.eight (w := (w3.alloc (boxRc y)).alloc (boxRc y)) (c := 1) (xs := [y]) (heap_new (w3.alloc (boxRc y)) (boxRc y)) rfl
              rwa [World.size_alloc] at this
            have own3 : Hid (((w3.alloc (boxRc y)).alloc (boxRc y)).ownsRow w.heap.size 94 8 (.slice ao m cv) m (acc.flatMap Rc.cells)) := (HO3.out.alloc _).alloc _
            clear hF1 hF2 hF3 hm
            go_wp2_with (at_builtin; refine appendC rfl _ _ rfl w.heap.size _ _ m _ rfl own3.out [y] rfl hes.out (by simp; omega) (by have := hB3'.size; simp only [World.size_alloc]; omega) ?_; intro v' w4 hown' hgrow)
            have hB4 : Below w.heap.size w w4 := (grew (grew hB3' _) _).grown hgrow (by have := hB3'.size; simp only [World.size_alloc]; omega) (fun q hq => by have := (HO3.out.lt q hq).1; omega)
            obtain ⟨g4, cap4, hv4⟩ := Joins.ownsRow_form hown' (by simp)
            rw [hv4] at hown'
            have hO4 : w4.ownsRow w.heap.size 94 8 (.slice (some ⟨g4, 0, none⟩) (m + 1) cap4) (m + 1) ((acc ++ [y]).flatMap Rc.cells) := by
              rw [List.flatMap_append]
              simpa using hown'
            have HM4 : Hid ((acc ++ [y]).length = m + 1) := by rw [Hid, List.length_append, HM.out]; rfl
            go_roundw
            case rel => exact ⟨f', cnt + al + 1, m + 1, acc ++ [y], z, some ⟨g4, 0, none⟩, cap4, by first | rfl | (rw [hsum1]) | (go_num), by rw [hv4]; rfl, hO4, HM4, hm1, hB4, HZ.out.2.2, ⟨HZ.out.1, HZ.out.2.1, HF.out⟩⟩
            case measure => have := HZ.out.2.2; simp [intOf]; omega
        · have HF : Hid (linesOf l 160 = (acc, cnt, cd)) := hF1.out hcd
          have hcn2 : (cd != 0) = true := by rw [bne_iff_ne]; exact hcd
          have HOA : Aside ((w3.alloc (boxRc y)).ownsRow w.heap.size 94 8 (.slice ao m cv) m (acc.flatMap Rc.cells)) := ownsRow_later HO3.out (grew (Below.refl _ _) _)
          clear hF1 hF2 hF3 hcd
          go_wp2
          go_ret3
          exact ⟨.slice ao m cv, by rw [HF.out]; rfl, by rw [HF.out]; show World.ownsRow _ _ _ _ _ acc.length _; rw [HM.out]; exact HOA.out, grew hB3' _⟩
end Go.Proofs.YtmoaobfmopimlafGreatDoor
namespace Go.Proofs.YtmoaobfmopimlafGreatDoor
open Go.RowKit
/-- read, at every slice. -/
theorem diskRead_any (v : Value) (l : List UInt8) (w : World) (hL : Laid w) (h : ByteSl w v l) (hr : Roomy v) (hl : l.length ≤ 30000) :
    Calls Tryz.prog 142 #[v] w fun e w' => ∃ u, e = .returned (.tuple #[u, .int .i64 (linesOf l 160).2.1, .int .i64 (linesOf l 160).2.2]) ∧ w'.ownsRow w.heap.size 94 8 u (linesOf l 160).1.length ((linesOf l 160).1.flatMap Rc.cells) ∧ Below w.heap.size w w' := by
  by_cases h0 : l = []
  · subst h0
    obtain ⟨a, c, rfl, _⟩ := h
    have e : linesOf [] 160 = ([], 0, 0) := dl_nil _ _ _ _
    rw [e]
    go_enter Tryz.func142, Tryz.ntmps142
    go_wp2
    go_loopw [5, 6] (fun v z wr => v = nilB ∧ z = .int .i64 0 ∧ wr = w) (fun _ _ _ => 0)
    case atStart => exact ⟨rfl, rfl, rfl⟩
    case round =>
      obtain ⟨rfl, rfl, rfl⟩ := hrel
      go_wp2
      go_ret3
      exact ⟨nilB, rfl, World.ownsRow_nil _ _ _ _, Below.refl _ _⟩
  · obtain ⟨a, n, c, rfl, hc⟩ := hr
    have hn := h.len
    have hn0 : 0 < n := by rw [← hn]; exact List.length_pos_iff.2 h0
    obtain ⟨b, off, rfl, hE⟩ := h.at hn0
    exact read_at b off n c l w hL hE hn hn0 hc (by omega)
set_option maxHeartbeats 1000000 in
set_option maxRecDepth 100000 in
theorem diskCheck_any (v1 v2 : Value) (d : Dk) (w : World) (hL : Laid w) (h : DiskR w v1 v2 d) (hn1 : d.1.length ≤ topLen) (hn2 : d.2.length ≤ topLen) :
    Calls Tryz.prog 112 #[.agg #[v1, v2]] w fun e w' => e = .returned (.int .i64 (ckDisk d.1 d.2)) ∧ Below w.heap.size w w' := by
  obtain ⟨s, t⟩ := d
  dsimp only at hn1 hn2 ⊢
  have hB := grew (Below.refl w.heap.size w) (boxD v1 v2)
  have hrd := fun hl => diskRead_any v1 s _ (hL.later hB) (h.safe.later hB) h.room1 hl
  obtain ⟨a1, c1, rfl, _⟩ := h.safe
  obtain ⟨a2, c2, rfl, _⟩ := h.wait
  clear h
  dsimp only at hrd ⊢
  change s.length ≤ 140737488351232 at hn1
  change t.length ≤ 140737488351232 at hn2
  by_cases hk : 30000 < s.length + t.length
  · have hr : ckDisk s t = 2 := by rw [ckDisk, if_pos (by omega)]
    rw [hr]
    clear hr hrd
    generalize s.length = n at *
    generalize t.length = m at *
    have h1 : 30000 < (n : Int) + (m : Int) := by omega
    go_enter Tryz.func112, Tryz.ntmps112
    go_wp2
    go_ret
    exact ⟨rfl, grew (Below.refl _ _) _⟩
  · have hr : ckDisk s t = (linesOf s 160).2.2 := by rw [ckDisk, if_neg (by omega)]
    have hcall := hrd (by omega)
    rw [hr]
    clear hr hrd
    generalize (linesOf s 160).2.2 = d at *
    generalize (linesOf s 160).2.1 = z at *
    generalize (linesOf s 160).1 = rs at *
    generalize s.length = n at *
    generalize t.length = m at *
    have h1 : (n : Int) + (m : Int) ≤ 30000 := by omega
    have h2 : (n : Int) ≤ 30000 := by omega
    have h3 : (m : Int) ≤ 30000 := by omega
    go_enter Tryz.func112, Tryz.ntmps112
    go_wp2_with (go_at_call 142; refine hcall.mono ?_; rintro e w1 ⟨u, rfl, _, hb1⟩)
    go_ret
    exact ⟨rfl, hB.trans (hb1.mono hB.size)⟩
set_option maxHeartbeats 2000000 in
theorem diskSame_any (v1 v2 u1 u2 : Value) (d x : Dk) (w : World) (h1 : DiskR w v1 v2 d) (h2 : DiskR w u1 u2 x) :
    Calls Tryz.prog 14 #[.agg #[v1, v2], .agg #[u1, u2]] w fun e w' => e = .returned (.bool (decide (d = x))) ∧ Below w.heap.size w w' := by
  obtain ⟨s, t⟩ := d
  obtain ⟨s', t'⟩ := x
  have hB := grew (grew (Below.refl w.heap.size w) (boxD v1 v2)) (boxD u1 u2)
  have e1 := bytesEqual v1 u1 s s' _ (h1.safe.later hB) (h2.safe.later hB)
  have e2 := bytesEqual v2 u2 t t' _ (h1.wait.later hB) (h2.wait.later hB)
  obtain ⟨a1, c1, rfl, _⟩ := h1.safe
  obtain ⟨a2, c2, rfl, _⟩ := h1.wait
  obtain ⟨a3, c3, rfl, _⟩ := h2.safe
  obtain ⟨a4, c4, rfl, _⟩ := h2.wait
  have hd : decide ((s, t) = (s', t')) = (decide (s = s') && decide (t = t')) := by
    by_cases g1 : s = s' <;> by_cases g2 : t = t' <;> simp [g1, g2]
  rw [hd]
  have HB : Aside _ := hB
  clear h1 h2 hd hB
  dsimp only at e1 e2 ⊢
  generalize decide (s = s') = b1 at *
  generalize decide (t = t') = b2 at *
  generalize s.length = n1 at *
  generalize t.length = n2 at *
  generalize s'.length = n3 at *
  generalize t'.length = n4 at *
  go_enter Tryz.func14, Tryz.ntmps14
  go_wp2_with fail
  refine e1.mono ?_
  rintro e w1 ⟨rfl, hw1⟩
  subst hw1
  cases b1 with
  | false =>
    clear e1 e2
    go_wp2
    go_ret
    exact ⟨rfl, HB.out⟩
  | true =>
    clear e1
    go_wp2_with fail
    refine e2.mono ?_
    rintro e w2 ⟨rfl, hw2⟩
    subst hw2
    clear e2
    go_wp2
    go_ret
    exact ⟨rfl, HB.out⟩
end Go.Proofs.YtmoaobfmopimlafGreatDoor
namespace Go.Proofs.YtmoaobfmopimlafGreatDoor
open Go.RowKit
section
variable {P : Program}
/-- Cells are stored into a row that is marked behind its end. -/
theorem store_marked (g o : Nat) (t : TypeId) (fz : Nat × Nat) : ∀ (vs : List Value) (i : Nat) (cur : Array Value) (w : World), w.heap[g]? = some (.cells cur t fz) → cur.size ≤ fz.1 → o + i + vs.length ≤ cur.size → (∀ v ∈ vs, v.oneCell' = true) →
    (storeCells ⟨g, o, none⟩ vs i).run P w = .ok () (w.setRow g (cur.toList.take (o + i) ++ vs ++ cur.toList.drop (o + i + vs.length)).toArray)
  | [], i, cur, w, hg, _, _, _ => by
    simp only [storeCells, List.append_nil, List.length_nil, Nat.add_zero, List.take_append_drop, Array.toArray_toList]
    rw [setRow_self w g cur t fz hg]
    rfl
  | v :: rest, i, cur, w, hg, hfz, hl, h1 => by
    have hi : o + i < cur.size := by simp at hl; omega
    have hadd : (⟨g, o, none⟩ : Addr).add i = ⟨g, o + i, none⟩ := by unfold Addr.add; split <;> simp_all
    have hcell : w.cell? ⟨g, o + i, none⟩ = some cur[o + i] := by simp [World.cell?, hg, hi]
    have hfro : w.frozen? ⟨g, o + i, none⟩ = false := by
      obtain ⟨lo, hi'⟩ := fz
      simp only [World.frozen?, hg, Bool.and_eq_false_iff, decide_eq_false_iff_not]
      left
      simp only at hfz
      omega
    have hst : (store ((⟨g, o, none⟩ : Addr).add i) v).run P w = .ok () (w.setRow g (cur.setIfInBounds (o + i) v)) := by
      rw [hadd, run_store P w _ v _ (h1 v (by simp)), hcell]
      simp [hfro, setCell_eq_setRow w g (o + i) cur t fz v hg]
    have ih := store_marked g o t fz rest (i + 1) (cur.setIfInBounds (o + i) v) (w.setRow g (cur.setIfInBounds (o + i) v)) (setRow_heap w g cur _ t _ hg) (by simpa using hfz) (by simp at hl ⊢; omega) (fun x hx => h1 x (by simp [hx]))
    simp only [storeCells, Sem.run_bind, hst, Result.andThen_ok, ih, setRow_setRow]
    congr 3
    have e := list_seg_step cur.toList (o + i) v rest (by simp at hl ⊢; omega)
    simpa [Array.toList_setIfInBounds, Nat.add_assoc] using e
/-- What an append to such a row answers. -/
structure Appd (w0 w' : World) (B : Nat) (v : Value) (n : Nat) (xs : List Value) (g cap : Nat) : Prop where
  out : v = .slice (some ⟨g, 0, none⟩) n cap
  new : B ≤ g
  lt : g < w'.heap.size
  room : n ≤ cap
  cells : ∀ j u, xs[j]? = some u → w'.cell? ⟨g, j, none⟩ = some u
  below : Below B w0 w'
theorem wpList_append_marked {w : World} {ops : Array Oper} {rest : List Oper} {o : Oper} {a : Act} {Q : Exit → Act → World → Prop} (hgd : o.guard = none) (s x : Operand) (T : TypeId)
    (ho : o.op = .call { callee := .builtin .append, args := #[s, x], argTypes := #[T, T] }) (e : TypeId) (i : TypeInfo) (z : Value) (ht : P.underlying T = some (.slice e)) (hi : P.info? e = some i) (hz : i.zero = some z) (hi1 : i.size = 1) (hi2 : i.bytes = 1)
    (g n cap : Nat) (cur : Array Value) (fz : Nat × Nat) (hg : w.heap[g]? = some (.cells cur e fz)) (hfz : cur.size ≤ fz.1) (hcs : cur.size = cap) (hnc : n ≤ cap) (xs : List Value) (hxs : cur.toList.take n = xs)
    (hs : a.eval s = .slice (some ⟨g, 0, none⟩) n cap) (ad : Addr) (m c : Nat) (hx : a.eval x = .slice (some ad) m c) (news : List Value) (hl : news.length = m) (hnews : ∀ j u, news[j]? = some u → w.cell? (ad.add j) = some u) (h1 : ∀ u ∈ news, u.oneCell' = true)
    (hlen : n + m ≤ 1000000) (B : Nat) (w0 : World) (hb : Below B w0 w) (hBg : B ≤ g)
    (h : ∀ v' w' g' cap', Appd w0 w' B v' (n + m) (xs ++ news) g' cap' → wpList P ops Q rest (a.put o.dst v') w') :
    wpList P ops Q (o :: rest) a w := by
  have hgl := heap_lt hg
  have hxl : xs.length = n := by rw [← hxs, List.length_take]; simp; omega
  refine wpList_plain hgd fun K hK => ?_
  by_cases hroom : n + m ≤ cap
  · have hf := run_firstCells_some (P := P) w i.size m ad m c news (by rw [hi1, hl, Nat.mul_one]) hnews
    have hst := store_marked (P := P) g n e fz news 0 cur w hg hfz (by omega) h1
    simp only [Nat.add_zero] at hst
    rw [hi1] at hf
    have hr : (Builtin.append_ #[T, T] o.type #[.slice (some ⟨g, 0, none⟩) n cap, .slice (some ad) m c]).run P w =
        .ok (.slice (some ⟨g, 0, none⟩) (n + m) cap) (w.setRow g (cur.toList.take n ++ news ++ cur.toList.drop (n + news.length)).toArray) := by
      simp [Builtin.append_, run_underlying ht, sizeOf, typeInfo, hi, hi1, Builtin.lenOf, hroom, hf, Addr.add_lit, hst]
    unfold Oper.wp execOp
    simp only [ho, resolve, invoke, builtin, Sem.run_bind, Sem.run_pure, Result.andThen_ok, List.map_toArray, List.map_cons, List.map_nil, hs, hx, hr]
    refine hK _ _ (h _ _ g cap ⟨rfl, hBg, by simpa [World.setRow] using hgl, hroom, fun j u hj => ?_, below_setRow hb hBg _⟩)
    rw [cell_setRow_same w g j cur _ e fz hg, List.getElem?_toArray, hxs, List.getElem?_append_left]
    · exact hj
    · exact (List.getElem?_eq_some_iff.1 hj).1
  · have holds : ∀ j u, xs[j]? = some u → w.cell? ((⟨g, 0, none⟩ : Addr).add j) = some u := fun j u hj => by
      rw [Lib.add_plain, Nat.zero_add]
      rw [← hxs, List.getElem?_take] at hj
      split at hj
      · simpa [World.cell?, hg] using hj
      · cases hj
    have hr := run_append_grow (P := P) w T o.type e i z ht hi hz ⟨g, 0, none⟩ n cap xs (by rw [hi1, hxl, Nat.mul_one]) holds ad m c news (by rw [hi1, hl, Nat.mul_one]) hnews (by omega) (by omega) (by rw [hi2]; exact growslice_fits (by omega) (by omega))
    have hge := grownCap_ge w (n + m) cap e
    unfold Oper.wp execOp
    simp only [ho, resolve, invoke, builtin, Sem.run_bind, Sem.run_pure, Result.andThen_ok, List.map_toArray, List.map_cons, List.map_nil, hs, hx, hr]
    refine hK _ _ (h _ _ w.heap.size _ ⟨rfl, Nat.le_trans hBg (Nat.le_of_lt hgl), by show w.heap.size < (w.heap.push _).size; simp, hge, fun j u hj => ?_, hb.drew.alloc (Nat.le_trans hBg (Nat.le_of_lt hgl)) _⟩)
    have hw : (w.drew.alloc (.cells (xs.toArray ++ news.toArray ++ Builtin.zeroCells z.cells (grownCap w (n + m) cap e - (n + m))) e)).heap[w.heap.size]? = some (.cells (xs.toArray ++ news.toArray ++ Builtin.zeroCells z.cells (grownCap w (n + m) cap e - (n + m))) e) := heap_new w.drew _
    have hlt := (List.getElem?_eq_some_iff.1 hj).1
    rw [Joins.cell_of_block hw, Array.getElem?_append_left (by simpa using hlt)]
    simpa using hj
end
end Go.Proofs.YtmoaobfmopimlafGreatDoor
