/- Package fair: the walk of follow. -/
import Derived.Test.YtjbcfflbfnddeacFairZc
import Derived.Laws.OwnMore
import Derived.Deep.AppendLies
import Derived.Deep.QuietTactic
import Derived.BigQuiet
namespace Go.Proofs.Ytjbcfflbfnddeac
open Go.RowKit Go.Shelf

set_option linter.unusedSimpArgs false in
set_option maxHeartbeats 8000000 in
set_option maxRecDepth 100000 in
/-- fair.follow. -/
theorem follow_any (w W : World) (v : Value) (m : Nat) (ls : List Lf) (x : En) (h : Lrw w W v m ls) (hm : m ≤ 60) (hxc : x.chk = 0) :
    Calls Try.prog 14 #[v, x.val] W fun e w' => ∃ v' m', e = .returned v' ∧ m' ≤ m + 1 ∧ Lrw w w' v' m' (lstep ls x) := by
  by_cases hlt : x.k = 3 ∧ ∃ kk y, lifeAt ls x.j = some kk ∧ ls[kk]? = some y ∧ y.f + y.e * y.r ≠ x.t
  · obtain ⟨h3, kk, y, hl, hy, hq⟩ := hlt
    exact follow_late w W v m ls x h hm hxc h3 kk y hl hy hq
  have HLT : Hid (∀ kk y, x.k = 3 → lifeAt ls x.j = some kk → ls[kk]? = some y → ¬ y.f + y.e * y.r ≠ x.t) := fun kk y h3 hl hy hq => hlt ⟨h3, kk, y, hl, hy, hq⟩
  clear hlt
  have hX := En.right hxc
  have hnum := fun y hy => h.lok.nums y hy
  have hok' := lstep_ok h.lok hxc
  have hcur := fun W' hb => current_any v ls x.j W' (h.later hb).sl (by have := h.len; unfold most; omega)
  have HS0 : Aside (Lrw w (W.alloc (boxE x.k x.j x.v x.t x.c)) v m ls) := h.later (grew (Below.refl _ _) _)
  have hcur0 := hcur _ (grew (Below.refl _ _) (boxE x.k x.j x.v x.t x.c))
  have hXb : (W.alloc (boxE x.k x.j x.v x.t x.c)).heap[W.heap.size]? = some (boxE x.k x.j x.v x.t x.c) := heap_new _ _
  obtain ⟨a4, c4, rfl⟩ := owns_slice h.row
  obtain ⟨at0, hat⟩ : ∃ q, idx (Lf.of x.j) ls = q := ⟨_, rfl⟩
  rw [hat] at hcur0
  have hww := h.below.size
  have hlen := h.len
  clear hcur h
  go_enter Try.func14, Try.ntmps14
  go_wp2_with fail
  refine hcur0.mono ?_
  rintro e w1 ⟨rfl, hb1⟩
  have HS1 : Aside (Lrw w w1 (.slice a4 m c4) m ls) := HS0.out.later hb1
  have hX1 : w1.heap[W.heap.size]? = some (boxE x.k x.j x.v x.t x.c) := heap_below hXb hb1 (heap_lt hXb)
  have zX : ∀ i, w1.cell? ⟨W.heap.size, i, none⟩ = #[Value.int .i64 x.k, .int .i64 x.j, .int .i64 x.v, .int .i64 x.t, .int .i64 x.c][i]? := fun i => Joins.cell_of_block hX1 i
  have hlt1 := heap_lt hX1
  clear hcur0 hb1 HS0 hXb
  rcases lstep_ways (ls := ls) hxc with ⟨h1, hnone, e⟩ | ⟨kk, y, h2, hl, hy, hj, ho, e⟩ | ⟨kk, y, h3, hl, hy, hj, ho, hc1, hc2, e⟩ | ⟨e, g1, g2, g3⟩
  · have hk1 : (x.k == 1) = true := by rw [h1]; rfl
    obtain rfl : at0 = -1 := by rw [← hat]; exact idx_not hnone
    have hes : Hid (LifeSl (w1.alloc (boxL ⟨x.j, x.v, x.t, 0, false⟩)) (.slice (some ⟨w1.heap.size, 0, none⟩) 1 1) [⟨x.j, x.v, x.t, 0, false⟩]) := slOf_lit Lf.five (c := 1) (xs := [⟨x.j, x.v, x.t, 0, false⟩]) (heap_new _ _) rfl
    have own3 : Hid ((w1.alloc (boxL ⟨x.j, x.v, x.t, 0, false⟩)).ownsRow w.heap.size 30 5 (.slice a4 m c4) m (ls.flatMap Lf.cells)) := HS1.out.row.alloc _
    have HE : Hid _ := e
    rw [e] at hok'
    have HL : Hid (Lok (ls ++ [⟨x.j, x.v, x.t, 0, false⟩]) ∧ ls.length = m ∧ allR ls ≤ 60 ∧ Below w.heap.size w w1) := ⟨hok', hlen, HS1.out.all, HS1.out.below⟩
    clear HS1 hX1 e hnone h1 hat hnum hok'
    go_wp2_with (at_builtin; refine appendL rfl _ _ rfl w.heap.size _ _ m _ rfl own3.out [⟨x.j, x.v, x.t, 0, false⟩] rfl hes.out (by simp; omega) (by rw [World.size_alloc]; omega) ?_)
    intro v' w' hown' hgrow
    have hne : ∀ g, (Value.slice a4 m c4).ownBlock = some g → w.heap.size ≤ g := fun g hg => (own3.out.lt g hg).1
    have HSf : Aside (Lrw w w' v' (m + 1) (ls ++ [⟨x.j, x.v, x.t, 0, false⟩])) := by
      refine ⟨?_, HL.out.1, ?_, by rw [List.length_append, HL.out.2.1]; rfl, by rw [allR_append]; have := HL.out.2.2.1; simp [allR]; omega⟩
      · rw [List.flatMap_append]; simpa using hown'
      · exact (grew HL.out.2.2.2 (boxL ⟨x.j, x.v, x.t, 0, false⟩)).grown hgrow (by rw [World.size_alloc]; omega) (fun z hz => hne z hz)
    obtain ⟨a5, c5, rfl⟩ := owns_slice hown'
    clear hown' hgrow own3 hes HL hne
    go_wp2
    go_ret
    exact ⟨_, m + 1, rfl, Nat.le_refl _, by rw [HE.out]; exact HSf.out⟩
  · have hkm : kk < m := by have := (List.getElem?_eq_some_iff.1 hy).1; omega
    obtain ⟨gg, cap, hv4, hgb, hgl⟩ := HS1.out.row.form (by omega)
    injection hv4 with ha4 _ hc4
    subst ha4 hc4
    have hfz := fun j => HS1.out.row.frozenAt j
    have e4 : w1.cell? ⟨gg, kk * 5 + 4, none⟩ = some (.bool y.o) := by
      rw [HS1.out.row.cellAt (kk * 5 + 4) (by omega)]
      exact row_flat Lf.five ls kk y hy 4 _ rfl
    have hk0 : (0 : Int) ≤ (kk : Int) := by omega
    have hkm' : (kk : Int) < (m : Int) := by omega
    have hkd : decide ((0 : Int) ≤ (kk : Int)) = true := decide_eq_true hk0
    have hkb1 : (x.k == 1) = false := by rw [h2]; rfl
    have hkb2 : (x.k == 2) = true := by rw [h2]; rfl
    obtain rfl : at0 = kk := by rw [← hat]; exact idx_at hl
    have HE : Hid _ := e
    rw [e] at hok'
    have own2 := (HS1.out.row.stored (kk * 5 + 4) (.bool true)).1
    rw [flat_set hy (by omega) (z := ⟨y.j, y.e, y.f, y.r, true⟩) rfl] at own2
    have HSf : Aside (Lrw w (w1.setCell ⟨gg, kk * 5 + 4, none⟩ (.bool true)) (.slice (some ⟨gg, 0, none⟩) m c4) m (ls.set kk ⟨y.j, y.e, y.f, y.r, true⟩)) :=
      ⟨own2, hok', HS1.out.below.setCell (p := ⟨gg, kk * 5 + 4, none⟩) (by show w.heap.size ≤ gg; omega) _, by rw [List.length_set]; exact hlen, by rw [allR_set hy]; have := HS1.out.all; show allR ls - y.r + y.r ≤ 60; omega⟩
    clear HS1 hX1 e hl hy h2 hj ho own2 hat hnum hok'
    go_wp2
    go_ret
    exact ⟨_, m, rfl, by omega, by rw [HE.out]; exact HSf.out⟩
  · have hkm : kk < m := by have := (List.getElem?_eq_some_iff.1 hy).1; omega
    obtain ⟨gg, cap, hv4, hgb, hgl⟩ := HS1.out.row.form (by omega)
    injection hv4 with ha4 _ hc4
    subst ha4 hc4
    have hcell : ∀ (f : Nat) (u : Value), y.cells[f]? = some u → w1.cell? ⟨gg, kk * 5 + f, none⟩ = some u := fun f u hu => by
      have hf5 : f < 5 := by have := (List.getElem?_eq_some_iff.1 hu).1; rwa [Lf.five] at this
      rw [HS1.out.row.cellAt (kk * 5 + f) (by omega)]
      exact row_flat Lf.five ls kk y hy f u hu
    have hk0 : (0 : Int) ≤ (kk : Int) := by omega
    have hkm' : (kk : Int) < (m : Int) := by omega
    have hkd : decide ((0 : Int) ≤ (kk : Int)) = true := decide_eq_true hk0
    have hkb1 : (x.k == 1) = false := by rw [h3]; rfl
    have hkb2 : (x.k == 2) = false := by rw [h3]; rfl
    have hkb3 : (x.k == 3) = true := by rw [h3]; rfl
    obtain rfl : at0 = kk := by rw [← hat]; exact idx_at hl
    have hny := hnum y (List.mem_of_getElem? hy)
    have hyr : y.r ≤ allR ls := life_le (fun u hu => (hnum u hu).2.2.2) (List.mem_of_getElem? hy)
    have hp1 : 0 ≤ y.e * y.r := Int.mul_nonneg (by omega) (by omega)
    have hp2 : y.e * y.r ≤ 100 * 60 := Int.mul_le_mul (by omega) (by omega) (by omega) (by omega)
    have hnx := fun W' => next_any y W' ⟨by omega, by omega⟩ ⟨hp1, by omega⟩
    have hri := fun W' (hb : Below w1.heap.size w1 W') => rungInAll_any _ ls W' (HS1.out.later hb).sl (by unfold most; omega) (fun u hu => (hnum u hu).2.2.2) (by omega)
    rw [show y.f + y.e * y.r = x.t by omega] at hnx
    have hS0 : Sees w1 w1 W.heap.size gg kk x y := ⟨Below.refl _ _, zX 0, zX 3, hcell 0 _ rfl, hcell 1 _ rfl, hcell 2 _ rfl, hcell 3 _ rfl, hcell 4 _ rfl⟩
    have hyr2 : 0 ≤ y.r := hny.2.2.2
    have hyr3 : y.r ≤ 60 := by omega
    obtain ⟨lv, hlv⟩ : ∃ lv, allR ls = lv := ⟨_, rfl⟩
    rw [hlv] at hri hc2
    have hlvd : decide (lv < 60) = true := decide_eq_true hc2
    have HE : Hid _ := e
    rw [e] at hok'
    have HK : Hid (ls[kk]? = some y ∧ Lok (ls.set kk ⟨y.j, y.e, y.f, y.r + 1, y.o⟩) ∧ allR ls < 60 ∧ ls.length = m) := ⟨hy, hok', by rw [hlv]; exact hc2, hlen⟩
    have hbd : Below w1.heap.size w1 w1.drew := (Below.refl _ _).drew
    clear hcell hX1 e hl hy h3 hj ho hat hnum hok' hny hyr hp1 hp2 hlv hlen hc1 hX zX
    go_wp2_with fail
    go_region_held3 (fun w' => Sees w1 w' W.heap.size gg kk x y) (exact sees_step (by assumption) (by assumption)) (first | (go_at_call 30; refine (hnx _).mono ?_; rintro e w2 ⟨rfl, hb2⟩) | (go_at_call 31; refine (hri _ (sees_below (by assumption))).mono ?_; rintro e w3 ⟨rfl, hb3⟩))
    all_goals
      rename_i hS
      clear hb2 hb3 hnx hri hS0 hbd
      have hS3 := HS1.out.later hS.1
      have f3 : w3.cell? ⟨gg, kk * 5 + 3, none⟩ = some (.int .i64 y.r) := hS.2.2.2.2.2.2.1
      have hfz := fun j => hS3.row.frozenAt j
      have own3 := (hS3.row.stored (kk * 5 + 3) (.int .i64 (y.r + 1))).1
      rw [flat_set HK.out.1 (by omega) (z := ⟨y.j, y.e, y.f, y.r + 1, y.o⟩) rfl] at own3
      have HSf : Aside (Lrw w (w3.setCell ⟨gg, kk * 5 + 3, none⟩ (.int .i64 (y.r + 1))) (.slice (some ⟨gg, 0, none⟩) m c4) m (ls.set kk ⟨y.j, y.e, y.f, y.r + 1, y.o⟩)) :=
        ⟨own3, HK.out.2.1, hS3.below.setCell (p := ⟨gg, kk * 5 + 3, none⟩) (by show w.heap.size ≤ gg; omega) _, by rw [List.length_set]; exact HK.out.2.2.2, by rw [allR_set HK.out.1]; have := HK.out.2.2.1; show allR ls - y.r + (y.r + 1) ≤ 60; omega⟩
      clear HS1 hS3 own3 HK hS
      go_wp2
      go_ret
      exact ⟨_, m, rfl, by omega, by rw [HE.out]; exact HSf.out⟩
  · have HE : Hid _ := e
    by_cases h1 : x.k = 1
    · obtain ⟨kk, hl⟩ := g1 h1
      obtain rfl : at0 = kk := by rw [← hat]; exact idx_at hl
      have hkb1 : (x.k == 1) = true := by rw [h1]; rfl
      have hkb2 : (x.k == 2) = false := by rw [h1]; rfl
      have hkb3 : (x.k == 3) = false := by rw [h1]; rfl
      have hk0 : (0 : Int) ≤ (kk : Int) := by omega
      have hkd : decide ((kk : Int) < 0) = false := by rw [decide_eq_false_iff_not]; omega
      clear hX1 e hl h1 g1 g2 g3 hnum hat hok' hX
      go_wp2_with fail
      go_quiet (fail)
      have hS2 : Aside _ := HS1.out.later (below_drewN (Below.refl _ w1) nq)
      generalize w1.drewN nq = w2 at *
      clear HS1 zX
      go_wp2
      go_ret
      exact ⟨_, m, rfl, by omega, by rw [HE.out]; exact hS2.out⟩
    · have hkb1 : (x.k == 1) = false := by rw [beq_eq_false_iff_ne]; exact h1
      by_cases h2 : x.k = 2
      · have hl := g2 h2
        obtain rfl : at0 = -1 := by rw [← hat]; exact idx_not hl
        have hkb2 : (x.k == 2) = true := by rw [h2]; rfl
        have hkb3 : (x.k == 3) = false := by rw [h2]; rfl
        clear hX1 e hl h1 h2 g1 g2 g3 hnum hat hok' hX
        go_wp2_with fail
        go_quiet (fail)
        have hS2 : Aside _ := HS1.out.later (below_drewN (Below.refl _ w1) nq)
        generalize w1.drewN nq = w2 at *
        clear HS1 zX
        go_wp2
        go_ret
        exact ⟨_, m, rfl, by omega, by rw [HE.out]; exact hS2.out⟩
      · have hkb2 : (x.k == 2) = false := by rw [beq_eq_false_iff_ne]; exact h2
        by_cases h3 : x.k = 3
        · have hkb3 : (x.k == 3) = true := by rw [h3]; rfl
          cases hl : lifeAt ls x.j with
          | none =>
            obtain rfl : at0 = -1 := by rw [← hat]; exact idx_not hl
            clear hX1 e hl h1 h2 h3 g1 g2 g3 hnum hat hok' hX
            go_wp2_with fail
            go_quiet (fail)
            have hS2 : Aside _ := HS1.out.later (below_drewN (Below.refl _ w1) nq)
            generalize w1.drewN nq = w2 at *
            clear HS1 zX
            go_wp2
            go_ret
            exact ⟨_, m, rfl, by omega, by rw [HE.out]; exact hS2.out⟩
          | some kk =>
            obtain rfl : at0 = kk := by rw [← hat]; exact idx_at hl
            obtain ⟨y, hy, hj, ho⟩ := lifeAt_some hl
            have hkm : kk < m := by have := (List.getElem?_eq_some_iff.1 hy).1; omega
            have hk0 : (0 : Int) ≤ (kk : Int) := by omega
            have hkm' : (kk : Int) < (m : Int) := by omega
            have hkd : decide ((0 : Int) ≤ (kk : Int)) = true := decide_eq_true hk0
            obtain ⟨gg, cap, hv4, hgb, hgl⟩ := HS1.out.row.form (by omega)
            injection hv4 with ha4 _ hc4
            subst ha4 hc4
            have hcell : ∀ (f : Nat) (u : Value), y.cells[f]? = some u → w1.cell? ⟨gg, kk * 5 + f, none⟩ = some u := fun f u hu => by
              have hf5 : f < 5 := by have := (List.getElem?_eq_some_iff.1 hu).1; rwa [Lf.five] at this
              rw [HS1.out.row.cellAt (kk * 5 + f) (by omega)]
              exact row_flat Lf.five ls kk y hy f u hu
            have hny := hnum y (List.mem_of_getElem? hy)
            have hyr : y.r ≤ allR ls := life_le (fun u hu => (hnum u hu).2.2.2) (List.mem_of_getElem? hy)
            have hal := HS1.out.all
            have hp1 : 0 ≤ y.e * y.r := Int.mul_nonneg (by omega) (by omega)
            have hp2 : y.e * y.r ≤ 100 * 60 := Int.mul_le_mul (by omega) (by omega) (by omega) (by omega)
            have hnx := fun W' => next_any y W' ⟨by omega, by omega⟩ ⟨hp1, by omega⟩
            have hri := fun W' (hb : Below w1.heap.size w1 W') => rungInAll_any _ ls W' (HS1.out.later hb).sl (by unfold most; omega) (fun u hu => (hnum u hu).2.2.2) (by omega)
            have hS0 : Sees w1 w1 W.heap.size gg kk x y := ⟨Below.refl _ _, zX 0, zX 3, hcell 0 _ rfl, hcell 1 _ rfl, hcell 2 _ rfl, hcell 3 _ rfl, hcell 4 _ rfl⟩
            have hnot := g3 h3 kk y hl hy
            obtain ⟨lv, hlv⟩ : ∃ lv, allR ls = lv := ⟨_, rfl⟩
            obtain ⟨nx, hnxt⟩ : ∃ nx, y.f + y.e * y.r = nx := ⟨_, rfl⟩
            rw [hnxt] at hnx
            rw [hlv] at hri hnot
            have hbd : Below w1.heap.size w1 w1.drew := (Below.refl _ _).drew
            by_cases hq : nx = x.t
            · rw [hq] at hnx
              have hlvd : decide (lv < 60) = false := by rw [decide_eq_false_iff_not]; exact fun h => hnot ⟨by omega, h⟩
              clear hcell hX1 e hl hy h1 h2 h3 g1 g2 g3 hj ho hat hnum hok' hny hyr hp1 hp2 hlv hlen hX zX hnot hal hnxt
              go_wp2_with fail
              go_region_held3 (fun w' => Sees w1 w' W.heap.size gg kk x y) (exact sees_step (by assumption) (by assumption)) (first | (go_at_call 30; refine (hnx _).mono ?_; rintro e w2 ⟨rfl, hb2⟩) | (go_at_call 31; refine (hri _ (sees_below (by assumption))).mono ?_; rintro e w3 ⟨rfl, hb3⟩))
              all_goals
                rename_i hS
                have hS3 : Aside _ := HS1.out.later hS.1
                clear HS1 hS hnx hri hS0 hbd
                go_wp2
                go_ret
                exact ⟨_, m, rfl, by omega, by rw [HE.out]; exact hS3.out⟩
            · exact absurd (by rw [hnxt]; exact hq) (HLT.out kk y h3 hl hy)
        · have hkb3 : (x.k == 3) = false := by rw [beq_eq_false_iff_ne]; exact h3
          clear hX1 e h1 h2 h3 g1 g2 g3 hnum hat hok' hX
          go_wp2_with fail
          go_quiet (fail)
          have hS2 : Aside _ := HS1.out.later (below_drewN (Below.refl _ w1) nq)
          generalize w1.drewN nq = w2 at *
          clear HS1 zX
          go_wp2
          go_ret
          exact ⟨_, m, rfl, by omega, by rw [HE.out]; exact hS2.out⟩

end Go.Proofs.Ytjbcfflbfnddeac
