/- For the law. -/
import Derived.Test.YtmoaobfmopimlafGreatDoorM09
import Derived.Deep.CutBlock
set_option linter.unusedSimpArgs false
set_option linter.unusedVariables false
namespace Go.Proofs.YtmoaobfmopimlafGreatDoor
open Go.RowKit
section
open scoped Classical
open Go.ChangeShapes
open Go.WideShapes
open Go.ChangeAt
abbrev valJ (a b c : Int) : Value := .agg #[.int .i64 a, .int .i64 b, .int .i64 c]
abbrev boxJ (x : Jb) : Obj := .cells #[.int .i64 x.i, .int .i64 x.e, .int .i64 x.n] 120
abbrev Jb.val (x : Jb) : Value := valJ x.i x.e x.n
theorem neqJ (a b c a' b' c' : Int) (w : World) :
  (binOp .neq 120 (valJ a b c) (valJ a' b' c')).run Tryz.prog w = .ok (.bool (!decide (a = a' ∧ b = b' ∧ c = c'))) w := by
 have u3 := Tryz.underlying3
 have a3 := Tryz.isAgg3
 have z3 := Tryz.sizeOf3
 have hS : Tryz.prog.underlying 120 = some (.struct (Tryz.prog.fieldsOf 120)) := by kernel_rfl
 have hp : Tryz.prog.stoodInHeld 120 = false := by kernel_rfl
 rw [run_neq_struct, show (10000 : Nat) = 9999 + 1 from rfl, run_equalIn_agg w 9999 120 _ _ hS hp]
 simp only [Program.fieldsOf, Tryz.underlying120]
 go_simp
 by_cases h1 : a = a' <;> by_cases h2 : b = b' <;> by_cases h3 : c = c' <;> simp [h1, h2, h3]
set_option maxHeartbeats 1000000 in
theorem eq_lenJ (a1 a2 : Option Addr) (n m c d : Nat) (w : World) (h : ((n : Int) != (m : Int)) = true) :
  Calls Tryz.prog 83 #[.slice a1 n c, .slice a2 m d] w fun e w' => e = .returned (.bool false) ∧ w' = w := by
 go_enter Tryz.func83, Tryz.ntmps83
 go_wp2
 go_ret
 exact ⟨rfl, rfl⟩
set_option maxHeartbeats 2000000 in
theorem eq_someJ (a1 a2 : Option Addr) (c d n : Nat) (es fs : List Jb) (w : World) (hn : n ≤ 9223372036854775807) (h1 : es.length = n) (h2 : fs.length = n) (hE : SlOf Jb.cells 3 w (.slice a1 n c) es) (hF : SlOf Jb.cells 3 w (.slice a2 n d) fs) :
  Calls Tryz.prog 83 #[.slice a1 n c, .slice a2 n d] w fun r w' => ∃ bb, r = .returned (.bool bb) ∧ (bb = true ↔ es = fs) ∧ ∃ q, w' = w.drewN q := by
 have H1 : Hid (es.length = n) := h1
 have H2 : Hid (fs.length = n) := h2
 have HE : Hid (SlOf Jb.cells 3 w (.slice a1 n c) es) := hE
 have HF : Hid (SlOf Jb.cells 3 w (.slice a2 n d) fs) := hF
 clear h1 h2 hE hF
 go_enter Tryz.func83, Tryz.ntmps83
 go_wp2
 go_loopg [13] n (fun g s13 wr => ∃ k q : Nat, k ≤ n ∧ n - k ≤ g ∧ s13 = .int .i64 k ∧ wr = w.drewN q ∧ Hid (es.take k = fs.take k))
 case atStart => exact ⟨0, 0, Nat.zero_le _, by omega, rfl, rfl, rfl⟩
 case round =>
  obtain ⟨k, q, hk, hg, rfl, rfl, heq⟩ := hrel
  by_cases hlt : k < n
  ·obtain ⟨e, he⟩ : ∃ e, es[k]? = some e := ⟨es[k]'(by have := H1.out; omega), List.getElem?_eq_getElem _⟩
   obtain ⟨f, hf⟩ : ∃ f, fs[k]? = some f := ⟨fs[k]'(by have := H2.out; omega), List.getElem?_eq_getElem _⟩
   obtain ⟨b1, o1, rfl, hE⟩ := HE.out.at (by omega)
   obtain ⟨b2, o2, rfl, hF⟩ := HF.out.at (by omega)
   have c0 : w.cell? ⟨b1, o1 + k * 3, none⟩ = some (.int .i64 e.i) := hE k e he 0 _ rfl
   have c1 : w.cell? ⟨b1, o1 + k * 3 + 1, none⟩ = some (.int .i64 e.e) := hE k e he 1 _ rfl
   have c2 : w.cell? ⟨b1, o1 + k * 3 + 2, none⟩ = some (.int .i64 e.n) := hE k e he 2 _ rfl
   have d0 : w.cell? ⟨b2, o2 + k * 3, none⟩ = some (.int .i64 f.i) := hF k f hf 0 _ rfl
   have d1 : w.cell? ⟨b2, o2 + k * 3 + 1, none⟩ = some (.int .i64 f.e) := hF k f hf 1 _ rfl
   have d2 : w.cell? ⟨b2, o2 + k * 3 + 2, none⟩ = some (.int .i64 f.n) := hF k f hf 2 _ rfl
   have hne := fun W => neqJ e.i e.e e.n f.i f.e f.n W
   by_cases hef : e = f
   ·rw [decide_eq_true (by rw [hef]; exact ⟨rfl, rfl, rfl⟩)] at hne
    have hnext : Hid (es.take (k + 1) = fs.take (k + 1)) := by rw [Hid, List.take_add_one, List.take_add_one, he, hf, heq.out, hef]
    clear hef he hf heq hE hF HE HF
    go_wp2_with fail
    go_quiet (fail)
    go_wp2
    go_roundg (n - (k + 1))
    case measure => omega
    case rel => exact ⟨k + 1, _, by omega, by omega, by go_num, rfl, hnext⟩
   ·rw [decide_eq_false (fun h => hef (by cases e; cases f; simp_all))] at hne
    have hdiff : Hid (¬ es = fs) := fun e' => by
     rw [e'] at he
     exact hef (Option.some.inj (he.symm.trans hf))
    clear hef he hf heq hE hF HE HF
    go_wp2_with fail
    go_quiet (fail)
    go_wp2
    go_ret
    exact ⟨false, rfl, ⟨fun h => (by cases h), fun h => absurd h hdiff.out⟩, _, World.drewN_drewN _ _ _⟩
  ·have hkn : k = n := by omega
   subst hkn
   have hsame : Hid (es = fs) := by
    have h := heq.out
    rw [List.take_of_length_le (by have := H1.out; omega), List.take_of_length_le (by have := H2.out; omega)] at h
    exact h
   clear heq HE HF
   go_wp2
   go_ret
   exact ⟨true, rfl, ⟨fun _ => hsame.out, fun _ => rfl⟩, q, rfl⟩
theorem equalJ (v1 v2 : Value) (es fs : List Jb) (w : World) (h1 : SlOf Jb.cells 3 w v1 es) (h2 : SlOf Jb.cells 3 w v2 fs) (hn1 : es.length ≤ 9223372036854775807) :
  Calls Tryz.prog 83 #[v1, v2] w fun r w' => r = .returned (.bool (decide (es = fs))) ∧ Below w.heap.size w w' := by
 have h1' := h1
 have h2' := h2
 obtain ⟨a1, c1, rfl, _⟩ := h1
 obtain ⟨a2, c2, rfl, _⟩ := h2
 by_cases hl : es.length = fs.length
 ·rw [← hl] at h2' ⊢
  refine (eq_someJ a1 a2 c1 c2 es.length es fs w hn1 rfl hl.symm h1' h2').mono ?_
  rintro r w' ⟨bb, rfl, hbb, q, rfl⟩
  have hd : decide (es = fs) = bb := by cases bb with | true => exact decide_eq_true (hbb.1 rfl) | false => exact decide_eq_false (fun h => by have := hbb.2 h; cases this)
  exact ⟨by rw [hd], below_drewN (Below.refl _ _) _⟩
 ·rw [decide_eq_false (fun h => hl (congrArg List.length h))]
  exact (eq_lenJ a1 a2 _ _ c1 c2 w (by rw [bne_iff_ne]; omega)).mono fun r w' ⟨hr, hw⟩ => ⟨hr, by rw [hw]; exact Below.refl _ _⟩
theorem infoJ : (Tryz.prog.info? 120).map (fun i => (i.zero, i.size, i.bytes)) = some (some (valJ 0 0 0), 3, 24) := by kernel_rfl
theorem oneJ (es : List Jb) : ∀ u ∈ es.flatMap Jb.cells, u.oneCell' = true := fun u hu => by
 obtain ⟨e, _, he⟩ := List.mem_flatMap.1 hu
 simp only [Jb.cells, List.mem_cons, List.not_mem_nil, or_false] at he
 rcases he with rfl | rfl | rfl <;> rfl
theorem cellsJ : Tryz.prog.cellsOf 120 = 3 := by kernel_rfl
theorem cellsIJ : Tryz.prog.cellsOf 3 = 1 := by kernel_rfl
section
variable {H : Type} {enc : TypeId × Value → H} {w : World} {base : Nat} {spare : Nat → Bool} {held : Bool}
set_option maxRecDepth 100000 in
theorem trodJ {fuel : Nat} {cs : List Value} {x : DataW H × List MemPlace} (h : DataW.trod enc Tryz.prog w base spare held fuel 120 cs = some x) : ∃ e : Jb, cs = e.cells ∧ x.2 = [] := by
 obtain ⟨xs, n, _, hx, hcl, hlen, hel⟩ := DataW.trod_struct Tryz.underlying120 h
 rw [cellsJ] at hcl
 match xs, hlen, cs, hcl with
 | [y0, y1, y2], _, [c0, c1, c2], _ =>
  have k0 : DataW.trod enc Tryz.prog w base spare held n 3 (List.take (Tryz.prog.cellsOf 3) (List.drop 0 [c0, c1, c2])) = some y0 := hel 0 _ rfl
  have k1 : DataW.trod enc Tryz.prog w base spare held n 3 (List.take (Tryz.prog.cellsOf 3) (List.drop 1 [c0, c1, c2])) = some y1 := hel 1 _ rfl
  have k2 : DataW.trod enc Tryz.prog w base spare held n 3 (List.take (Tryz.prog.cellsOf 3) (List.drop 2 [c0, c1, c2])) = some y2 := hel 2 _ rfl
  rw [cellsIJ] at k0 k1 k2
  obtain ⟨a0, e0, f0, _⟩ := DataW.trod_int Tryz.underlying3 k0
  obtain ⟨a1, e1, f1, _⟩ := DataW.trod_int Tryz.underlying3 k1
  obtain ⟨a2, e2, f2, _⟩ := DataW.trod_int Tryz.underlying3 k2
  simp at e0 e1 e2
  subst e0 e1 e2
  subst f0 f1 f2
  exact ⟨⟨a0, a1, a2⟩, rfl, by rw [hx]; rfl⟩
set_option maxRecDepth 100000 in
theorem openJ {fuel : Nat} {a0 : Option Addr} {len0 cap0 : Nat} {x : DataW H × List MemPlace} (hf : DataW.trod enc Tryz.prog w base spare held fuel 36 [.slice a0 len0 cap0] = some x) :
  ∃ es : List Jb, SlOf Jb.cells 3 w (.slice a0 len0 cap0) es ∧ es.length ≤ maxLen := by
 rcases Deep.open_slice Tryz.underlying36 hf with ⟨hcs, _⟩ | ⟨a, len, cap, m, n, D, Pl, hcs, _, hl, hm, hmm, _, hel⟩
 ·simp at hcs
  obtain ⟨rfl, rfl, rfl⟩ := hcs
  exact ⟨[], ⟨none, 0, rfl, Or.inl rfl⟩, Nat.zero_le _⟩
 ·simp at hcs
  obtain ⟨rfl, rfl, rfl⟩ := hcs
  rw [cellsJ] at hel
  have hlm : len0 ≤ m := by rw [hmm]; split <;> omega
  have hE : ∀ i, i < len0 → ∃ e : Jb, ∀ j u, e.cells[j]? = some u → w.cell? ((a.add (i * 3)).add j) = some u := fun i hi => by
   obtain ⟨cs', h1, h2⟩ := hel i (by omega)
   obtain ⟨e, rfl, _⟩ := trodJ h2
   refine ⟨e, fun j u hj => ?_⟩
   have hlt : j < 3 := by
    have := (List.getElem?_eq_some_iff.1 hj).1
    simpa [Jb.cells] using this
   exact ((World.cells?_some h1).2.2 j hlt).trans hj
  obtain ⟨E, hE⟩ := @Deep.choose_lt Jb ⟨⟨0, 0, 0⟩⟩ len0 _ hE
  have hlen : ((List.range len0).map E).length = len0 := by simp
  refine ⟨(List.range len0).map E, ⟨some a, cap0, by rw [hlen], ?_⟩, by rw [hlen]; omega⟩
  rw [hlen]
  by_cases hz : len0 = 0
  ·exact Or.inl hz
  ·right
   obtain ⟨b, off, spot⟩ := a
   have hspot : spot = none := by
    have := World.cell?_spot (hE 0 (by omega) 0 _ rfl)
    simpa [Addr.add] using this
   subst hspot
   refine ⟨b, off, rfl, fun j e hj i u hi => ?_⟩
   have hjl : j < len0 := by
    have := (List.getElem?_eq_some_iff.1 hj).1
    rwa [hlen] at this
   have he : E j = e := by simpa [hjl] using hj
   have := hE j hjl i u (by rw [he]; exact hi)
   rw [Deep.add_add, Lib.add_plain] at this
   rw [Nat.add_assoc]
   exact this
end
end
section
open scoped Classical
open Go.ChangeShapes
open Go.WideShapes
open Go.ChangeAt
abbrev valR (a b c : Int) : Value := .agg #[.int .i64 a, .int .i64 b, .int .i64 c]
abbrev Rg.val (x : Rg) : Value := valR x.j x.t x.c
theorem neqR (a b c a' b' c' : Int) (w : World) :
  (binOp .neq 76 (valR a b c) (valR a' b' c')).run Tryz.prog w = .ok (.bool (!decide (a = a' ∧ b = b' ∧ c = c'))) w := by
 have u3 := Tryz.underlying3
 have a3 := Tryz.isAgg3
 have z3 := Tryz.sizeOf3
 have hS : Tryz.prog.underlying 76 = some (.struct (Tryz.prog.fieldsOf 76)) := by kernel_rfl
 have hp : Tryz.prog.stoodInHeld 76 = false := by kernel_rfl
 rw [run_neq_struct, show (10000 : Nat) = 9999 + 1 from rfl, run_equalIn_agg w 9999 76 _ _ hS hp]
 simp only [Program.fieldsOf, Tryz.underlying76]
 go_simp
 by_cases h1 : a = a' <;> by_cases h2 : b = b' <;> by_cases h3 : c = c' <;> simp [h1, h2, h3]
set_option maxHeartbeats 1000000 in
theorem eq_lenR (a1 a2 : Option Addr) (n m c d : Nat) (w : World) (h : ((n : Int) != (m : Int)) = true) :
  Calls Tryz.prog 84 #[.slice a1 n c, .slice a2 m d] w fun e w' => e = .returned (.bool false) ∧ w' = w := by
 go_enter Tryz.func84, Tryz.ntmps84
 go_wp2
 go_ret
 exact ⟨rfl, rfl⟩
set_option maxHeartbeats 2000000 in
theorem eq_someR (a1 a2 : Option Addr) (c d n : Nat) (es fs : List Rg) (w : World) (hn : n ≤ 9223372036854775807) (h1 : es.length = n) (h2 : fs.length = n) (hE : SlOf Rg.cells 3 w (.slice a1 n c) es) (hF : SlOf Rg.cells 3 w (.slice a2 n d) fs) :
  Calls Tryz.prog 84 #[.slice a1 n c, .slice a2 n d] w fun r w' => ∃ bb, r = .returned (.bool bb) ∧ (bb = true ↔ es = fs) ∧ ∃ q, w' = w.drewN q := by
 have H1 : Hid (es.length = n) := h1
 have H2 : Hid (fs.length = n) := h2
 have HE : Hid (SlOf Rg.cells 3 w (.slice a1 n c) es) := hE
 have HF : Hid (SlOf Rg.cells 3 w (.slice a2 n d) fs) := hF
 clear h1 h2 hE hF
 go_enter Tryz.func84, Tryz.ntmps84
 go_wp2
 go_loopg [13] n (fun g s13 wr => ∃ k q : Nat, k ≤ n ∧ n - k ≤ g ∧ s13 = .int .i64 k ∧ wr = w.drewN q ∧ Hid (es.take k = fs.take k))
 case atStart => exact ⟨0, 0, Nat.zero_le _, by omega, rfl, rfl, rfl⟩
 case round =>
  obtain ⟨k, q, hk, hg, rfl, rfl, heq⟩ := hrel
  by_cases hlt : k < n
  ·obtain ⟨e, he⟩ : ∃ e, es[k]? = some e := ⟨es[k]'(by have := H1.out; omega), List.getElem?_eq_getElem _⟩
   obtain ⟨f, hf⟩ : ∃ f, fs[k]? = some f := ⟨fs[k]'(by have := H2.out; omega), List.getElem?_eq_getElem _⟩
   obtain ⟨b1, o1, rfl, hE⟩ := HE.out.at (by omega)
   obtain ⟨b2, o2, rfl, hF⟩ := HF.out.at (by omega)
   have c0 : w.cell? ⟨b1, o1 + k * 3, none⟩ = some (.int .i64 e.j) := hE k e he 0 _ rfl
   have c1 : w.cell? ⟨b1, o1 + k * 3 + 1, none⟩ = some (.int .i64 e.t) := hE k e he 1 _ rfl
   have c2 : w.cell? ⟨b1, o1 + k * 3 + 2, none⟩ = some (.int .i64 e.c) := hE k e he 2 _ rfl
   have d0 : w.cell? ⟨b2, o2 + k * 3, none⟩ = some (.int .i64 f.j) := hF k f hf 0 _ rfl
   have d1 : w.cell? ⟨b2, o2 + k * 3 + 1, none⟩ = some (.int .i64 f.t) := hF k f hf 1 _ rfl
   have d2 : w.cell? ⟨b2, o2 + k * 3 + 2, none⟩ = some (.int .i64 f.c) := hF k f hf 2 _ rfl
   have hne := fun W => neqR e.j e.t e.c f.j f.t f.c W
   by_cases hef : e = f
   ·rw [decide_eq_true (by rw [hef]; exact ⟨rfl, rfl, rfl⟩)] at hne
    have hnext : Hid (es.take (k + 1) = fs.take (k + 1)) := by rw [Hid, List.take_add_one, List.take_add_one, he, hf, heq.out, hef]
    clear hef he hf heq hE hF HE HF
    go_wp2_with fail
    go_quiet (fail)
    go_wp2
    go_roundg (n - (k + 1))
    case measure => omega
    case rel => exact ⟨k + 1, _, by omega, by omega, by go_num, rfl, hnext⟩
   ·rw [decide_eq_false (fun h => hef (by cases e; cases f; simp_all))] at hne
    have hdiff : Hid (¬ es = fs) := fun e' => by
     rw [e'] at he
     exact hef (Option.some.inj (he.symm.trans hf))
    clear hef he hf heq hE hF HE HF
    go_wp2_with fail
    go_quiet (fail)
    go_wp2
    go_ret
    exact ⟨false, rfl, ⟨fun h => (by cases h), fun h => absurd h hdiff.out⟩, _, World.drewN_drewN _ _ _⟩
  ·have hkn : k = n := by omega
   subst hkn
   have hsame : Hid (es = fs) := by
    have h := heq.out
    rw [List.take_of_length_le (by have := H1.out; omega), List.take_of_length_le (by have := H2.out; omega)] at h
    exact h
   clear heq HE HF
   go_wp2
   go_ret
   exact ⟨true, rfl, ⟨fun _ => hsame.out, fun _ => rfl⟩, q, rfl⟩
theorem equalR (v1 v2 : Value) (es fs : List Rg) (w : World) (h1 : SlOf Rg.cells 3 w v1 es) (h2 : SlOf Rg.cells 3 w v2 fs) (hn1 : es.length ≤ 9223372036854775807) :
  Calls Tryz.prog 84 #[v1, v2] w fun r w' => r = .returned (.bool (decide (es = fs))) ∧ Below w.heap.size w w' := by
 have h1' := h1
 have h2' := h2
 obtain ⟨a1, c1, rfl, _⟩ := h1
 obtain ⟨a2, c2, rfl, _⟩ := h2
 by_cases hl : es.length = fs.length
 ·rw [← hl] at h2' ⊢
  refine (eq_someR a1 a2 c1 c2 es.length es fs w hn1 rfl hl.symm h1' h2').mono ?_
  rintro r w' ⟨bb, rfl, hbb, q, rfl⟩
  have hd : decide (es = fs) = bb := by cases bb with | true => exact decide_eq_true (hbb.1 rfl) | false => exact decide_eq_false (fun h => by have := hbb.2 h; cases this)
  exact ⟨by rw [hd], below_drewN (Below.refl _ _) _⟩
 ·rw [decide_eq_false (fun h => hl (congrArg List.length h))]
  exact (eq_lenR a1 a2 _ _ c1 c2 w (by rw [bne_iff_ne]; omega)).mono fun r w' ⟨hr, hw⟩ => ⟨hr, by rw [hw]; exact Below.refl _ _⟩
theorem infoR : (Tryz.prog.info? 76).map (fun i => (i.zero, i.size, i.bytes)) = some (some (valR 0 0 0), 3, 24) := by kernel_rfl
theorem oneR (es : List Rg) : ∀ u ∈ es.flatMap Rg.cells, u.oneCell' = true := fun u hu => by
 obtain ⟨e, _, he⟩ := List.mem_flatMap.1 hu
 simp only [Rg.cells, List.mem_cons, List.not_mem_nil, or_false] at he
 rcases he with rfl | rfl | rfl <;> rfl
theorem cellsR : Tryz.prog.cellsOf 76 = 3 := by kernel_rfl
theorem cellsIR : Tryz.prog.cellsOf 3 = 1 := by kernel_rfl
section
variable {H : Type} {enc : TypeId × Value → H} {w : World} {base : Nat} {spare : Nat → Bool} {held : Bool}
set_option maxRecDepth 100000 in
theorem trodR {fuel : Nat} {cs : List Value} {x : DataW H × List MemPlace} (h : DataW.trod enc Tryz.prog w base spare held fuel 76 cs = some x) : ∃ e : Rg, cs = e.cells ∧ x.2 = [] := by
 obtain ⟨xs, n, _, hx, hcl, hlen, hel⟩ := DataW.trod_struct Tryz.underlying76 h
 rw [cellsR] at hcl
 match xs, hlen, cs, hcl with
 | [y0, y1, y2], _, [c0, c1, c2], _ =>
  have k0 : DataW.trod enc Tryz.prog w base spare held n 3 (List.take (Tryz.prog.cellsOf 3) (List.drop 0 [c0, c1, c2])) = some y0 := hel 0 _ rfl
  have k1 : DataW.trod enc Tryz.prog w base spare held n 3 (List.take (Tryz.prog.cellsOf 3) (List.drop 1 [c0, c1, c2])) = some y1 := hel 1 _ rfl
  have k2 : DataW.trod enc Tryz.prog w base spare held n 3 (List.take (Tryz.prog.cellsOf 3) (List.drop 2 [c0, c1, c2])) = some y2 := hel 2 _ rfl
  rw [cellsIR] at k0 k1 k2
  obtain ⟨a0, e0, f0, _⟩ := DataW.trod_int Tryz.underlying3 k0
  obtain ⟨a1, e1, f1, _⟩ := DataW.trod_int Tryz.underlying3 k1
  obtain ⟨a2, e2, f2, _⟩ := DataW.trod_int Tryz.underlying3 k2
  simp at e0 e1 e2
  subst e0 e1 e2
  subst f0 f1 f2
  exact ⟨⟨a0, a1, a2⟩, rfl, by rw [hx]; rfl⟩
set_option maxRecDepth 100000 in
theorem openR {fuel : Nat} {a0 : Option Addr} {len0 cap0 : Nat} {x : DataW H × List MemPlace} (hf : DataW.trod enc Tryz.prog w base spare held fuel 37 [.slice a0 len0 cap0] = some x) :
  ∃ es : List Rg, SlOf Rg.cells 3 w (.slice a0 len0 cap0) es ∧ es.length ≤ maxLen := by
 rcases Deep.open_slice Tryz.underlying37 hf with ⟨hcs, _⟩ | ⟨a, len, cap, m, n, D, Pl, hcs, _, hl, hm, hmm, _, hel⟩
 ·simp at hcs
  obtain ⟨rfl, rfl, rfl⟩ := hcs
  exact ⟨[], ⟨none, 0, rfl, Or.inl rfl⟩, Nat.zero_le _⟩
 ·simp at hcs
  obtain ⟨rfl, rfl, rfl⟩ := hcs
  rw [cellsR] at hel
  have hlm : len0 ≤ m := by rw [hmm]; split <;> omega
  have hE : ∀ i, i < len0 → ∃ e : Rg, ∀ j u, e.cells[j]? = some u → w.cell? ((a.add (i * 3)).add j) = some u := fun i hi => by
   obtain ⟨cs', h1, h2⟩ := hel i (by omega)
   obtain ⟨e, rfl, _⟩ := trodR h2
   refine ⟨e, fun j u hj => ?_⟩
   have hlt : j < 3 := by
    have := (List.getElem?_eq_some_iff.1 hj).1
    simpa [Rg.cells] using this
   exact ((World.cells?_some h1).2.2 j hlt).trans hj
  obtain ⟨E, hE⟩ := @Deep.choose_lt Rg ⟨⟨0, 0, 0⟩⟩ len0 _ hE
  have hlen : ((List.range len0).map E).length = len0 := by simp
  refine ⟨(List.range len0).map E, ⟨some a, cap0, by rw [hlen], ?_⟩, by rw [hlen]; omega⟩
  rw [hlen]
  by_cases hz : len0 = 0
  ·exact Or.inl hz
  ·right
   obtain ⟨b, off, spot⟩ := a
   have hspot : spot = none := by
    have := World.cell?_spot (hE 0 (by omega) 0 _ rfl)
    simpa [Addr.add] using this
   subst hspot
   refine ⟨b, off, rfl, fun j e hj i u hi => ?_⟩
   have hjl : j < len0 := by
    have := (List.getElem?_eq_some_iff.1 hj).1
    rwa [hlen] at this
   have he : E j = e := by simpa [hjl] using hj
   have := hE j hjl i u (by rw [he]; exact hi)
   rw [Deep.add_add, Lib.add_plain] at this
   rw [Nat.add_assoc]
   exact this
end
end
section
open scoped Classical
abbrev most : Nat := 9223372036854775807
def jobAt (js : List Jb) (id : Int) : Int := match js.findIdx? (fun x => x.i == id) with
 | some k => k
 | none => -1
end
theorem ret_book {fn : Func} {R : Ending → World → Prop} {a : Act} {W : World} {b p q : Nat} {v1 v2 y : Value} (hf : fn.results = #[.cell p 39, .tmp q]) (hd : a.defers = [])
  (h2 : a.tmps.getD p undef = .pointer (some ⟨b, 0, none⟩)) (h3 : a.tmps.getD q undef = y) (hR : W.heap[b]? = some (boxB v1 v2)) (hp : R (.returned (.tuple #[.agg #[v1, v2], y])) W) :
  bodyPost Tryz.prog fn R .ret a W := by
 have c0 := fun i => Joins.cell_of_block hR i
 refine bodyPost_ret (v := .tuple #[.agg #[v1, v2], y]) ?_ hd hp
 rw [results_cell_tmp hf, h2, h3]
 simp [go_sem, c0]
abbrev nil0 : Value := .slice none 0 0
theorem En.right {x : En} (h : x.chk = 0) : (0 ≤ x.k ∧ x.k ≤ 3) ∧ (0 ≤ x.j ∧ x.j ≤ 5) ∧ (0 ≤ x.v ∧ x.v ≤ 100) ∧ (0 ≤ x.t ∧ x.t ≤ 100000) ∧ (0 ≤ x.c ∧ x.c ≤ 2) ∧ (x.k = 1 → 1 ≤ x.v) := by
 unfold En.chk YtmoaobfmopimlafGreatDoor.chk at h
 split at h
 ·cases h
 ·split at h
  ·cases h
  ·split at h
   ·cases h
   ·split at h
    ·cases h
    ·rename_i h1 h2 h3 h4
     have h2' : inR x.j x.v x.t x.c = true := by simpa using h2
     have h5 := of_decide_eq_true h2'
     refine ⟨by omega, by omega, by omega, by omega, by omega, by omega⟩
theorem bk_slices {w : World} {v1 v2 : Value} {js : List Jb} {rs : List Rg} (h1 : JobSl w v1 js) (h2 : RungSl w v2 rs) : ∃ a1 c1 a2 c2, v1 = .slice a1 js.length c1 ∧ v2 = .slice a2 rs.length c2 := by
 obtain ⟨a1, c1, e1, _⟩ := h1
 obtain ⟨a2, c2, e2, _⟩ := h2
 exact ⟨a1, c1, a2, c2, e1, e2⟩
abbrev Answers (fn : FuncId) (args : Array Value) (w : World) (r : (List Jb × List Rg) × Int) : Prop :=
 Calls Tryz.prog fn args w fun e w' => ∃ u1 u2, e = .returned (.tuple #[.agg #[u1, u2], .int .i64 r.2]) ∧ JobSl w' u1 r.1.1 ∧ RungSl w' u2 r.1.2 ∧ Below w.heap.size w w'
theorem zero_book {fn : FuncId} {args : Array Value} {w : World} {n : Int} (h : Calls Tryz.prog fn args w fun e w' => e = .returned (.tuple #[.agg #[nil0, nil0], .int .i64 n]) ∧ Below w.heap.size w w') : Answers fn args w (([], []), n) :=
 h.mono fun _ _ ⟨he, hb⟩ => ⟨nil0, nil0, he, SlOf.nil _ _, SlOf.nil _ _, hb⟩
theorem zero_typed {fn : FuncId} {args : Array Value} {w : World} {n : Int} (h : Calls Tryz.prog fn args w fun e w' => e = .returned (.tuple #[.agg #[nil0, nil0], .int .i64 n]) ∧ Below w.heap.size w w') :
  Calls Tryz.prog fn args w fun e w' => ∃ u1 u2, e = .returned (.tuple #[.agg #[u1, u2], .int .i64 n]) ∧ JobSl w' u1 [] ∧ RungSl w' u2 [] ∧ Below w.heap.size w w' ∧ Roomy u2 ∧ Typed 120 w' u1 ∧ Typed 76 w' u2 :=
 h.mono fun _ _ ⟨he, hb⟩ => ⟨nil0, nil0, he, SlOf.nil _ _, SlOf.nil _ _, hb, ⟨none, 0, 0, rfl, Nat.le_refl _⟩, Typed.nil, Typed.nil⟩
theorem SlOf.beside {α : Type} {cs : α → List Value} {k : Nat} (hcs : ∀ (x : α) (i : Nat) (v : Value), (cs x)[i]? = some v → ∃ n, v = Value.int .i64 n) {w : World} {v : Value} {xs : List α} (h : SlOf cs k w v xs) {B n1 n2 c1 c2 : Nat} {a1 a2 : Option Addr}
  (hB : w.heap[B]? = some (boxB (.slice a1 n1 c1) (.slice a2 n2 c2))) (i : Nat) (u : Value) : SlOf cs k (w.setCell ⟨B, i, none⟩ u) v xs := by
 obtain ⟨a, c, rfl, hc⟩ := h
 refine ⟨a, c, rfl, ?_⟩
 rcases hc with hc | ⟨b, off, rfl, hE⟩
 ·exact Or.inl hc
 ·refine Or.inr ⟨b, off, rfl, fun j x hj i' v' hi' => ?_⟩
  have hcell := hE j x hj i' v' hi'
  have hne : b ≠ B := fun e => by
   obtain ⟨n, rfl⟩ := hcs x i' v' hi'
   rw [e, Joins.cell_of_block hB] at hcell
   have h2 : ∀ (m : Nat), #[Value.slice a1 n1 c1, Value.slice a2 n2 c2][m]? = some (Value.int .i64 n) → False := fun m hm => by
    match m, hm with
    | 0, hm => simp at hm
    | 1, hm => simp at hm
    | m + 2, hm => simp at hm
   exact h2 _ hcell
  have hh : (w.setCell ⟨B, i, none⟩ u).heap[b]? = w.heap[b]? := Below.heap_setCell _ _ _ _ (by show b ≠ B; exact hne)
  have : (w.setCell ⟨B, i, none⟩ u).cell? ⟨b, off + j * k + i', none⟩ = w.cell? ⟨b, off + j * k + i', none⟩ := by simp only [World.cell?, hh]
  rw [this]; exact hcell
theorem Jb.ints (x : Jb) (i : Nat) (v : Value) (h : x.cells[i]? = some v) : ∃ n, v = .int .i64 n := by
 match i, h with
 | 0, h => exact ⟨_, (Option.some.inj h).symm⟩
 | 1, h => exact ⟨_, (Option.some.inj h).symm⟩
 | 2, h => exact ⟨_, (Option.some.inj h).symm⟩
 | i + 3, h => simp [Jb.cells] at h
theorem Rg.ints (x : Rg) (i : Nat) (v : Value) (h : x.cells[i]? = some v) : ∃ n, v = .int .i64 n := by
 match i, h with
 | 0, h => exact ⟨_, (Option.some.inj h).symm⟩
 | 1, h => exact ⟨_, (Option.some.inj h).symm⟩
 | 2, h => exact ⟨_, (Option.some.inj h).symm⟩
 | i + 3, h => simp [Rg.cells] at h
theorem step_below {w a b : World} (h : Below w.heap.size w a) (hb : Below a.heap.size a b) : Below w.heap.size w b := h.trans (hb.mono h.size)
section
open Go.ChangeShapes
open Go.WideShapes
open Go.ChangeAt
set_option maxRecDepth 100000
theorem cellsE : Tryz.prog.cellsOf 27 = 5 := by kernel_rfl
theorem cellsLJ : Tryz.prog.cellsOf 36 = 1 := by kernel_rfl
theorem cellsLR : Tryz.prog.cellsOf 37 = 1 := by kernel_rfl
section
variable {H : Type} {enc : TypeId × Value → H} {w : World} {base : Nat} {spare : Nat → Bool} {held : Bool}
set_option maxRecDepth 100000 in
theorem trodE {fuel : Nat} {cs : List Value} {x : DataW H × List MemPlace} (h : DataW.trod enc Tryz.prog w base spare held fuel 27 cs = some x) : ∃ e : En, cs = e.cells := by
 obtain ⟨xs, n, _, hx, hcl, hlen, hel⟩ := DataW.trod_struct Tryz.underlying27 h
 rw [cellsE] at hcl
 match xs, hlen, cs, hcl with
 | [y0, y1, y2, y3, y4], _, [c0, c1, c2, c3, c4], _ =>
  have k0 : DataW.trod enc Tryz.prog w base spare held n 3 (List.take (Tryz.prog.cellsOf 3) (List.drop 0 [c0, c1, c2, c3, c4])) = some y0 := hel 0 _ rfl
  have k1 : DataW.trod enc Tryz.prog w base spare held n 3 (List.take (Tryz.prog.cellsOf 3) (List.drop 1 [c0, c1, c2, c3, c4])) = some y1 := hel 1 _ rfl
  have k2 : DataW.trod enc Tryz.prog w base spare held n 3 (List.take (Tryz.prog.cellsOf 3) (List.drop 2 [c0, c1, c2, c3, c4])) = some y2 := hel 2 _ rfl
  have k3 : DataW.trod enc Tryz.prog w base spare held n 3 (List.take (Tryz.prog.cellsOf 3) (List.drop 3 [c0, c1, c2, c3, c4])) = some y3 := hel 3 _ rfl
  have k4 : DataW.trod enc Tryz.prog w base spare held n 3 (List.take (Tryz.prog.cellsOf 3) (List.drop 4 [c0, c1, c2, c3, c4])) = some y4 := hel 4 _ rfl
  rw [cellsIJ] at k0 k1 k2 k3 k4
  obtain ⟨a0, e0, _, _⟩ := DataW.trod_int Tryz.underlying3 k0
  obtain ⟨a1, e1, _, _⟩ := DataW.trod_int Tryz.underlying3 k1
  obtain ⟨a2, e2, _, _⟩ := DataW.trod_int Tryz.underlying3 k2
  obtain ⟨a3, e3, _, _⟩ := DataW.trod_int Tryz.underlying3 k3
  obtain ⟨a4, e4, _, _⟩ := DataW.trod_int Tryz.underlying3 k4
  simp at e0 e1 e2 e3 e4
  subst e0 e1 e2 e3 e4
  exact ⟨⟨a0, a1, a2, a3, a4⟩, rfl⟩
theorem one_slice {t e : TypeId} {fuel : Nat} {c0 : Value} {x : DataW H × List MemPlace} (ht : Tryz.prog.underlying t = some (.slice e)) (h : DataW.trod enc Tryz.prog w base spare held fuel t [c0] = some x) : ∃ a l c, c0 = .slice a l c := by
 rcases Deep.open_slice ht h with ⟨hcs, _⟩ | ⟨a, len, cap, m, n, D, Pl, hcs, _⟩
 ·exact ⟨_, _, _, by simpa using hcs⟩
 ·exact ⟨_, _, _, by simpa using hcs⟩
end
end
end Go.Proofs.YtmoaobfmopimlafGreatDoor
