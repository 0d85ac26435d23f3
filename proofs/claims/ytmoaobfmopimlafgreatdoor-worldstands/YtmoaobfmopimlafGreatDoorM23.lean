/- For the law. -/
import Derived.Test.YtmoaobfmopimlafGreatDoorM22
set_option linter.unusedSimpArgs false
set_option linter.unusedVariables false
namespace Go.Proofs.YtmoaobfmopimlafGreatDoor
open Go.RowKit
structure UBox (w W : World) (b g : Nat) (u : Un) : Prop where
 box : W.heap[b]? = some (boxU u.p (.slice (some ⟨g, 0, none⟩) 60 60))
 row : W.heap[g]? = some (.cells (u.cells.flatMap En.cells ++ []).toArray 27)
 len : u.cells.length = 60
 far : b ≠ g
 base : w.heap.size ≤ b
 baseg : w.heap.size ≤ g
 below : Below w.heap.size w W
theorem UBox.later {w W W' : World} {b g : Nat} {u : Un} (h : UBox w W b g u) (hb : Below W.heap.size W W') : UBox w W' b g u :=
 ⟨heap_below h.box hb (heap_lt h.box), heap_below h.row hb (heap_lt h.row), h.len, h.far, h.base, h.baseg, step_below1 h.below hb⟩
theorem UBox.unit {w W : World} {b g : Nat} {u : Un} (h : UBox w W b g u) : UnitAt W (.slice (some ⟨g, 0, none⟩) 60 60) u :=
 ⟨ents_front h.len h.row, ⟨_, _, _, rfl, Nat.le_refl _⟩⟩
theorem UBox.seal {w W : World} {b g : Nat} {u : Un} (h : UBox w W b g u) (p : Int) : UBox w (W.setCell ⟨b, 0, none⟩ (.int .i64 p)) b g ⟨p, u.cells⟩ :=
 ⟨by rw [Joins.block_setCell h.box]; rfl, (Below.heap_setCell _ _ _ _ (by show g ≠ b; exact h.far.symm)).trans h.row, h.len, h.far, h.base, h.baseg, h.below.setCell (p := ⟨b, 0, none⟩) h.base _⟩
theorem UBox.write {w W : World} {b g : Nat} {u : Un} (h : UBox w W b g u) {k : Nat} (hk : k < 60) (e : En) :
  UBox w (((((W.setCell ⟨g, k * 5, none⟩ (.int .i64 e.k)).setCell ⟨g, k * 5 + 1, none⟩ (.int .i64 e.j)).setCell ⟨g, k * 5 + 2, none⟩ (.int .i64 e.v)).setCell ⟨g, k * 5 + 3, none⟩ (.int .i64 e.t)).setCell ⟨g, k * 5 + 4, none⟩ (.int .i64 e.c)) b g ⟨u.p, u.cells.set k e⟩ :=
 ⟨(other_fiveE h.far (k * 5) _ _ _ _ _).trans h.box, stored_five h.row (by rw [h.len]; exact hk) e, by rw [List.length_set]; exact h.len, h.far, h.base, h.baseg, below_fiveE h.below h.baseg (k * 5) _ _ _ _ _⟩
theorem UBox.cells {w W : World} {b g : Nat} {u : Un} (h : UBox w W b g u) {k : Nat} {x : En} (hx : u.cells[k]? = some x) {i : Nat} {v : Value} (hv : x.cells[i]? = some v) : W.cell? ⟨g, k * 5 + i, none⟩ = some v := by
 have hf := row_flat En.five u.cells k x hx i v hv
 have hlt := (List.getElem?_eq_some_iff.1 hf).1
 rw [Joins.cell_of_block h.row, List.getElem?_toArray, List.getElem?_append_left hlt]
 exact hf
theorem useal_any (w W : World) (b g : Nat) (u : Un) (ep : Int) (h : UBox w W b g u) :
  Calls Tryz.prog 194 #[.pointer (some ⟨b, 0, none⟩), .int .i64 ep] W fun e w' => e = .returned (.int .i64 (if ep ≤ u.p then 8 else 0)) ∧ UBox w w' b g (if ep ≤ u.p then u else ⟨ep, u.cells⟩) := by
 have z0 := fun i => Joins.cell_of_block h.box i
 have f0 := fun i => Joins.unfrozen_of_block h.box i
 have H : Aside (UBox w W b g u) := h
 clear h
 by_cases hp : ep ≤ u.p
 ·rw [if_pos hp, if_pos hp]
  go_enter Tryz.func194, Tryz.ntmps194
  go_wp2
  go_ret
  exact ⟨rfl, H.out⟩
 ·rw [if_neg hp, if_neg hp]
  have hp2 : u.p < ep := by omega
  go_enter Tryz.func194, Tryz.ntmps194
  go_wp2
  go_ret
  exact ⟨rfl, H.out.seal ep⟩
abbrev WtS (W w : World) (b g k : Nat) (x : En) : Prop :=
 Below W.heap.size W w ∧ w.cell? ⟨b, 1, none⟩ = some (.slice (some ⟨g, 0, none⟩) 60 60) ∧ w.cell? ⟨g, k * 5, none⟩ = some (.int .i64 x.k) ∧ w.cell? ⟨g, k * 5 + 1, none⟩ = some (.int .i64 x.j) ∧ w.cell? ⟨g, k * 5 + 2, none⟩ = some (.int .i64 x.v) ∧ w.cell? ⟨g, k * 5 + 3, none⟩ = some (.int .i64 x.t) ∧ w.cell? ⟨g, k * 5 + 4, none⟩ = some (.int .i64 x.c)
theorem wtS_step {W w w' : World} {b g k : Nat} {x : En} (h : WtS W w b g k x) (hb : Below w.heap.size w w') : WtS W w' b g k x :=
 ⟨h.1.trans (hb.mono h.1.size), cell_later hb h.2.1, cell_later hb h.2.2.1, cell_later hb h.2.2.2.1, cell_later hb h.2.2.2.2.1, cell_later hb h.2.2.2.2.2.1, cell_later hb h.2.2.2.2.2.2⟩
set_option maxHeartbeats 4000000 in
set_option maxRecDepth 100000 in
theorem uwrite_twice (w W : World) (b g : Nat) (u : Un) (k : Nat) (x e : En) (h : UBox w W b g u) (hk : k < 60) (hx : u.cells[k]? = some x) (hib : x.isB = false) :
  Calls Tryz.prog 195 #[.pointer (some ⟨b, 0, none⟩), .int .i64 (k : Int), e.val] W fun r w' => r = .returned (.int .i64 6) ∧ UBox w w' b g u := by
 have H1 := h.later (grew (Below.refl W.heap.size W) (boxE e.k e.j e.v e.t e.c))
 have hS0 : WtS (W.alloc (boxE e.k e.j e.v e.t e.c)) (W.alloc (boxE e.k e.j e.v e.t e.c)) b g k x := ⟨Below.refl _ _, Joins.cell_of_block H1.box 1, H1.cells hx (i := 0) rfl, H1.cells hx (i := 1) rfl, H1.cells hx (i := 2) rfl, H1.cells hx (i := 3) rfl, H1.cells hx (i := 4) rfl⟩
 have hne : ∀ W, (binOp .neq 27 (ev x.k x.j x.v x.t x.c) (ev 4 0 0 0 0)).run Tryz.prog W = .ok (.bool (!x.isB)) W := fun W => by
  rw [neq_entry x.k x.j x.v x.t x.c 4 0 0 0 0 W, En.isB, Bool.not_not]
 rw [hib] at hne
 have H : Aside (UBox w (W.alloc (boxE e.k e.j e.v e.t e.c)) b g u) := H1
 have HS0 : Aside _ := hS0
 have hki : (k : Int) < 60 := by omega
 have hk0 : (0 : Int) ≤ (k : Int) := by omega
 clear h hx hib H1 hS0
 go_enter Tryz.func195, Tryz.ntmps195
 go_upto_region 1 with fail
 generalize W.alloc (boxE e.k e.j e.v e.t e.c) = W1 at *
 generalize W.heap.size = be at *
 have hS0 := HS0.out
 have hbd : Below W1.heap.size W1 W1.drew := (Below.refl _ _).drew
 go_region_held3 (fun w' => WtS W1 w' b g k x) (exact wtS_step (by assumption) (by assumption)) (first | (go_at_call 111; refine (ublank_any _).mono ?_; rintro r w' ⟨rfl, hb'⟩))
 all_goals
  rename_i hS
  have HB : Aside _ := H.out.later hS.1
  clear hS hS0 hbd HS0 H hne
  go_wp2
  go_ret
  exact ⟨rfl, HB.out⟩
set_option maxHeartbeats 4000000 in
set_option maxRecDepth 100000 in
theorem uwrite_some (w W : World) (b g : Nat) (u : Un) (k : Nat) (x e : En) (h : UBox w W b g u) (hk : k < 60) (hx : u.cells[k]? = some x) (hib : x.isB = true) :
  Calls Tryz.prog 195 #[.pointer (some ⟨b, 0, none⟩), .int .i64 (k : Int), e.val] W fun r w' => r = .returned (.int .i64 0) ∧ UBox w w' b g ⟨u.p, u.cells.set k e⟩ := by
 have H1 := h.later (grew (Below.refl W.heap.size W) (boxE e.k e.j e.v e.t e.c))
 have hS0 : WtS (W.alloc (boxE e.k e.j e.v e.t e.c)) (W.alloc (boxE e.k e.j e.v e.t e.c)) b g k x := ⟨Below.refl _ _, Joins.cell_of_block H1.box 1, H1.cells hx (i := 0) rfl, H1.cells hx (i := 1) rfl, H1.cells hx (i := 2) rfl, H1.cells hx (i := 3) rfl, H1.cells hx (i := 4) rfl⟩
 have hne : ∀ W, (binOp .neq 27 (ev x.k x.j x.v x.t x.c) (ev 4 0 0 0 0)).run Tryz.prog W = .ok (.bool (!x.isB)) W := fun W => by
  rw [neq_entry x.k x.j x.v x.t x.c 4 0 0 0 0 W, En.isB, Bool.not_not]
 rw [hib] at hne
 have HX0 : Aside ((W.alloc (boxE e.k e.j e.v e.t e.c)).heap[W.heap.size]? = some (boxE e.k e.j e.v e.t e.c)) := heap_new _ _
 have H : Aside (UBox w (W.alloc (boxE e.k e.j e.v e.t e.c)) b g u) := H1
 have HS0 : Aside _ := hS0
 have hki : (k : Int) < 60 := by omega
 have hk0 : (0 : Int) ≤ (k : Int) := by omega
 clear h hx hib H1 hS0
 go_enter Tryz.func195, Tryz.ntmps195
 go_upto_region 1 with fail
 generalize W.alloc (boxE e.k e.j e.v e.t e.c) = W1 at *
 generalize W.heap.size = be at *
 have hS0 := HS0.out
 have hbd : Below W1.heap.size W1 W1.drew := (Below.refl _ _).drew
 go_region_held3 (fun w' => WtS W1 w' b g k x) (exact wtS_step (by assumption) (by assumption)) (first | (go_at_call 111; refine (ublank_any _).mono ?_; rintro r w' ⟨rfl, hb'⟩))
 all_goals
  rename_i hS
  obtain ⟨V, hVe, hSV⟩ := name_world (P := fun W => WtS W1 W b g k x) hS
  subst hVe
  have HB : Aside _ := H.out.later hSV.1
  have HXV : Aside _ := heap_below HX0.out hSV.1 (heap_lt HX0.out)
  obtain ⟨_, k1, g0, g1, g2, g3, g4⟩ := hSV
  clear hS hS0 hbd HS0 H hne HX0
  have fg := fun i => Joins.unfrozen_of_block HB.out.row i
  have z1 := cb HXV
  go_upto_region 3 with fail
  go_region
  go_wp2
  go_ret
  exact ⟨rfl, (HB.out.write hk e).later (Below.refl _ _).drew⟩
set_option maxHeartbeats 2000000 in
set_option maxRecDepth 100000 in
theorem utake_any (w W : World) (b g : Nat) (u : Un) (r : Rc) (h : UBox w W b g u) :
  Calls Tryz.prog 164 #[.pointer (some ⟨b, 0, none⟩), r.val] W fun e w' => e = .returned (.int .i64 (utake u r).2) ∧ UBox w w' b g (utake u r).1 := by
 have hB0 := grew (Below.refl W.heap.size W) (boxRc r)
 have HX0 : Aside ((W.alloc (boxRc r)).heap[W.heap.size]? = some (boxRc r)) := heap_new _ _
 have H0 : Aside (UBox w (W.alloc (boxRc r)) b g u) := h.later hB0
 have hck := noteCheck_any r (W.alloc (boxRc r))
 clear h hB0
 by_cases h1 : r.chk = 0
 ·rw [h1] at hck
  by_cases hk : r.k = 2
  ·have hkb : (r.k == 2) = true := by rw [hk]; rfl
   obtain ⟨d, U, hr, hs⟩ : ∃ d U, Hid (utake u r = (U, d)) ∧ ∀ W', UBox w W' b g u → Calls Tryz.prog 194 #[.pointer (some ⟨b, 0, none⟩), .int .i64 r.p] W' fun e w' => e = .returned (.int .i64 d) ∧ UBox w w' b g U := by
    by_cases hp : r.p ≤ u.p
    ·refine ⟨8, u, ?_, fun W' hh => ?_⟩
     ·rw [Hid, utake, if_neg (by simpa using h1), uwrite, if_pos hk, if_pos hp, if_pos (by simp)]
     ·have := useal_any w W' b g u r.p hh
      rw [if_pos hp, if_pos hp] at this
      exact this
    ·refine ⟨0, ⟨r.p, u.cells⟩, ?_, fun W' hh => ?_⟩
     ·rw [Hid, utake, if_neg (by simpa using h1), uwrite, if_pos hk, if_neg hp, if_neg (by simp)]
     ·have := useal_any w W' b g u r.p hh
      rw [if_neg hp, if_neg hp] at this
      exact this
   clear h1 hk
   go_enter Tryz.func164, Tryz.ntmps164
   go_wp2_with fail
   refine hck.mono ?_
   rintro e w1 ⟨rfl, hb1⟩
   have H1 : Aside _ := H0.out.later hb1
   have HX1 := hv HX0 hb1
   have z1 := cb HX1
   have hs1 := hs w1 H1.out
   clear hck hb1 H0 HX0 hs
   go_wp2_with fail
   refine hs1.mono ?_
   rintro e w2 ⟨rfl, H2⟩
   have HH2 : Aside _ := H2
   clear hs1 H2
   go_wp2
   go_ret
   exact ⟨by rw [hr.out]; rfl, by rw [hr.out]; exact HH2.out⟩
  ·have hkb : (r.k == 2) = false := by rw [beq_eq_false_iff_ne]; exact hk
   obtain ⟨g1, g2, g3, g4⟩ := Rc.write h1 hk
   obtain ⟨k, hk'⟩ : ∃ k : Nat, r.a = k := ⟨r.a.toNat, by omega⟩
   have hkl : k < 60 := by omega
   obtain ⟨x, hx⟩ : ∃ x, u.cells[k]? = some x := ⟨u.cells[k]'(by have := H0.out.len; omega), List.getElem?_eq_getElem _⟩
   have hg : u.cells.getD k blankE = x := by rw [List.getD_eq_getElem?_getD, hx]; rfl
   obtain ⟨d, U, hr, hs⟩ : ∃ d U, Hid (utake u r = (U, d)) ∧ ∀ W', UBox w W' b g u → Calls Tryz.prog 195 #[.pointer (some ⟨b, 0, none⟩), .int .i64 r.a, r.e.val] W' fun e w' => e = .returned (.int .i64 d) ∧ UBox w w' b g U := by
    cases hb : x.isB with
    | false =>
     refine ⟨6, u, ?_, fun W' hh => ?_⟩
     ·rw [Hid, utake, if_neg (by simpa using h1), uwrite, if_neg hk, hk', Int.toNat_natCast, hg, if_pos hb, if_pos (by simp)]
     ·rw [hk']; exact uwrite_twice w W' b g u k x r.e hh hkl hx hb
    | true =>
     refine ⟨0, ⟨u.p, u.cells.set k r.e⟩, ?_, fun W' hh => ?_⟩
     ·rw [Hid, utake, if_neg (by simpa using h1), uwrite, if_neg hk, hk', Int.toNat_natCast, hg, if_neg (c := x.isB = false) (by simp [hb]), if_neg (by simp)]
     ·rw [hk']; exact uwrite_some w W' b g u k x r.e hh hkl hx hb
   clear h1 hk g1 g2 g3 g4 hk' hkl hx hg
   go_enter Tryz.func164, Tryz.ntmps164
   go_wp2_with fail
   refine hck.mono ?_
   rintro e w1 ⟨rfl, hb1⟩
   have H1 : Aside _ := H0.out.later hb1
   have HX1 := hv HX0 hb1
   have z1 := cb HX1
   have hs1 := hs w1 H1.out
   clear hck hb1 H0 HX0 hs
   go_wp2_with fail
   refine hs1.mono ?_
   rintro e w2 ⟨rfl, H2⟩
   have HH2 : Aside _ := H2
   clear hs1 H2
   go_wp2
   go_ret
   exact ⟨by rw [hr.out]; rfl, by rw [hr.out]; exact HH2.out⟩
 ·have hr : Hid (utake u r = (u, r.chk)) := by rw [Hid, utake, if_pos h1]
  have hzb : (r.chk != 0) = true := by rw [bne_iff_ne]; exact h1
  rw [hr.out]
  clear h1 hr
  generalize r.chk = d at *
  go_enter Tryz.func164, Tryz.ntmps164
  go_wp2_with fail
  refine hck.mono ?_
  rintro e w1 ⟨rfl, hb1⟩
  have H1 : Aside _ := H0.out.later hb1
  clear hck hb1 H0 HX0
  go_wp2
  go_ret
  exact ⟨rfl, H1.out⟩
theorem drop_rc {rs : List Rc} {k : Nat} {x : Rc} (h : rs[k]? = some x) : rs.drop k = x :: rs.drop (k + 1) := by
 have hlt := (List.getElem?_eq_some_iff.1 h).1
 rw [List.drop_eq_getElem_cons hlt, (List.getElem?_eq_some_iff.1 h).2]
end Go.Proofs.YtmoaobfmopimlafGreatDoor
