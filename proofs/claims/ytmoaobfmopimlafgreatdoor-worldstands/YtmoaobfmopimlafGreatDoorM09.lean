/- For the law. -/
import Derived.Test.YtmoaobfmopimlafGreatDoorM08
set_option linter.unusedSimpArgs false
set_option linter.unusedVariables false
namespace Go.Proofs.YtmoaobfmopimlafGreatDoor
open Go.RowKit
structure Un where (p : Int) (cells : List En)
def Un.zero : Un := ⟨0, []⟩
def blankE : En := ⟨4, 0, 0, 0, 0⟩
def En.isB (e : En) : Bool := !unlike e.k e.j e.v e.t e.c 4 0 0 0 0
theorem En.isB_eq {e : En} : e.isB = true ↔ e = blankE := by
 unfold En.isB
 constructor
 ·intro h
  obtain ⟨h1, h2, h3, h4, h5⟩ := unlike_false (by simpa using h)
  cases e
  simp_all [blankE]
 ·rintro rfl
  decide
theorem blank_isB : blankE.isB = true := by decide
theorem blank_chk : blankE.chk = 4 := by decide
def ckCells : List En → Int
 | [] => 0
 | c :: r => if c.isB = true then ckCells r else if c.chk ≠ 0 then c.chk else ckCells r
def Un.ck (u : Un) : Int := if ¬(1 ≤ u.p ∧ u.p ≤ 20) then 3 else if ¬ u.cells.length = 60 then 4 else ckCells u.cells
theorem Un.ck_zero {u : Un} : u.ck = 0 ↔ (1 ≤ u.p ∧ u.p ≤ 20) ∧ u.cells.length = 60 ∧ ckCells u.cells = 0 := by
 unfold Un.ck
 split
 ·rename_i h
  exact ⟨fun h' => (by cases h'), fun h' => absurd h'.1 h⟩
 ·split
  ·rename_i h
   exact ⟨fun h' => (by cases h'), fun h' => absurd h'.2.1 h⟩
  ·rename_i h1 h2
   exact ⟨fun h' => ⟨by simpa using h1, by simpa using h2, h'⟩, fun h' => h'.2.2⟩
theorem ckCells_zero : ∀ {l : List En}, ckCells l = 0 ↔ ∀ c, c ∈ l → c.isB = true ∨ c.chk = 0
 | [] => ⟨fun _ c hc => (by cases hc), fun _ => rfl⟩
 | c :: r => by
  rw [ckCells]
  have ih := ckCells_zero (l := r)
  by_cases hb : c.isB = true
  ·rw [if_pos hb, ih]
   exact ⟨fun h x hx => (List.mem_cons.1 hx).elim (fun e => Or.inl (e ▸ hb)) (h x), fun h x hx => h x (List.mem_cons_of_mem _ hx)⟩
  ·rw [if_neg hb]
   by_cases hc : c.chk = 0
   ·rw [if_neg (by simpa using hc), ih]
    exact ⟨fun h x hx => (List.mem_cons.1 hx).elim (fun e => Or.inr (e ▸ hc)) (h x), fun h x hx => h x (List.mem_cons_of_mem _ hx)⟩
   ·rw [if_pos hc]
    exact ⟨fun h => absurd h hc, fun h => (h c (by simp)).elim (fun h' => absurd h' hb) id⟩
def unew : Un := ⟨1, List.replicate 60 blankE⟩
theorem unew_ck : unew.ck = 0 := Un.ck_zero.2 ⟨by decide, by simp [unew], ckCells_zero.2 fun c hc => Or.inl (by
 rw [List.eq_of_mem_replicate hc]; exact blank_isB)⟩
def uwrite (u : Un) (r : Rc) : Un × Int :=
 if r.k = 2 then (if r.p ≤ u.p then (Un.zero, 8) else (⟨r.p, u.cells⟩, 0))
 else if (u.cells.getD r.a.toNat blankE).isB = false then (Un.zero, 6) else (⟨u.p, u.cells.set r.a.toNat r.e⟩, 0)
def unext (u : Un) (r : Rc) : Un × Int := if u.ck ≠ 0 then (Un.zero, u.ck) else if r.chk ≠ 0 then (Un.zero, r.chk) else uwrite u r
theorem unext_ok {u : Un} {r : Rc} (h : (unext u r).2 = 0) : u.ck = 0 ∧ r.chk = 0 ∧ ((r.k = 2 ∧ u.p < r.p ∧ r.p ≤ 20 ∧ (unext u r).1 = ⟨r.p, u.cells⟩) ∨ (r.k = 1 ∧ (0 ≤ r.a ∧ r.a ≤ 59) ∧ u.cells[r.a.toNat]? = some blankE ∧ r.e.chk = 0 ∧ (unext u r).1 = ⟨u.p, u.cells.set r.a.toNat r.e⟩)) := by
 unfold unext at h ⊢
 by_cases h1 : u.ck = 0
 ·rw [if_neg (by simpa using h1)] at h ⊢
  by_cases h2 : r.chk = 0
  ·rw [if_neg (by simpa using h2)] at h ⊢
   refine ⟨h1, h2, ?_⟩
   unfold uwrite at h ⊢
   by_cases hk : r.k = 2
   ·rw [if_pos hk] at h ⊢
    by_cases hp : r.p ≤ u.p
    ·rw [if_pos hp] at h; cases h
    ·rw [if_neg hp]
     exact Or.inl ⟨hk, by omega, (Rc.seal h2 hk).1.2, rfl⟩
   ·rw [if_neg hk] at h ⊢
    obtain ⟨g1, g2, _, g4⟩ := Rc.write h2 hk
    by_cases hb : (u.cells.getD r.a.toNat blankE).isB = false
    ·rw [if_pos hb] at h; cases h
    ·rw [if_neg hb]
     have hl : r.a.toNat < u.cells.length := by have := (Un.ck_zero.1 h1).2.1; omega
     have he : u.cells[r.a.toNat]? = some blankE := by
      rw [List.getElem?_eq_getElem hl]
      have hb' : (u.cells.getD r.a.toNat blankE).isB = true := by simpa using hb
      rw [List.getD_eq_getElem?_getD, List.getElem?_eq_getElem hl] at hb'
      exact congrArg some (En.isB_eq.1 hb')
     exact Or.inr ⟨g1, g2, he, g4, rfl⟩
  ·rw [if_pos h2] at h; exact absurd h h2
 ·rw [if_pos h1] at h; exact absurd h h1
theorem unext_ck {u : Un} {r : Rc} (h : (unext u r).2 = 0) : (unext u r).1.ck = 0 := by
 obtain ⟨h1, h2, hw⟩ := unext_ok h
 obtain ⟨g1, g2, g3⟩ := Un.ck_zero.1 h1
 rcases hw with ⟨_, hp, hp2, e⟩ | ⟨_, ha, hb, hc, e⟩ <;> rw [e]
 ·exact Un.ck_zero.2 ⟨⟨by show 1 ≤ r.p; omega, hp2⟩, g2, g3⟩
 ·refine Un.ck_zero.2 ⟨g1, by rw [List.length_set]; exact g2, ckCells_zero.2 fun c hcm => ?_⟩
  rcases List.mem_or_eq_of_mem_set hcm with hcm | rfl
  ·exact ckCells_zero.1 g3 c hcm
  ·exact Or.inr hc
theorem unext_stands {u : Un} {r : Rc} (h : (unext u r).2 = 0) (k : Nat) {c : En} (hc : u.cells[k]? = some c) :
  (unext u r).1.cells[k]? = some c ∨ (c = blankE ∧ r.k = 1 ∧ r.a = k ∧ (unext u r).1.cells[k]? = some r.e) := by
 obtain ⟨_, _, hw⟩ := unext_ok h
 rcases hw with ⟨_, _, _, e⟩ | ⟨hk, ha, hb, _, e⟩ <;> rw [e]
 ·exact Or.inl hc
 ·by_cases hka : r.a.toNat = k
  ·subst hka
   rw [hb] at hc
   refine Or.inr ⟨(Option.some.inj hc).symm, hk, by omega, ?_⟩
   have hl := (List.getElem?_eq_some_iff.1 hb).1
   show (u.cells.set r.a.toNat r.e)[r.a.toNat]? = _
   rw [List.getElem?_set_self hl]
  ·left
   show (u.cells.set r.a.toNat r.e)[k]? = _
   rw [List.getElem?_set_ne hka]
   exact hc
def ufold : Un → List Rc → Un × Int
 | u, [] => (u, 0)
 | u, r :: l => if (unext u r).2 ≠ 0 then (Un.zero, (unext u r).2) else ufold (unext u r).1 l
def unitOf (l : List Rc) : Un × Int := if 160 < l.length then (Un.zero, 2) else ufold unew l
theorem ufold_snoc : ∀ (l : List Rc) (u : Un) (r : Rc), (ufold u l).2 = 0 → (unext (ufold u l).1 r).2 = 0 → ufold u (l ++ [r]) = ((unext (ufold u l).1 r).1, 0)
 | [], u, r, _, h => by
  have h' : (unext u r).2 = 0 := h
  show (if (unext u r).2 ≠ 0 then (Un.zero, (unext u r).2) else ufold (unext u r).1 []) = ((unext u r).1, 0)
  rw [if_neg (by simpa using h')]
  rfl
 | x :: l, u, r, h1, h2 => by
  rw [ufold] at h1 h2
  rw [List.cons_append, ufold]
  by_cases hx : (unext u x).2 = 0
  ·rw [if_neg (by simpa using hx)] at h1 h2 ⊢
   rw [ufold_snoc l _ r h1 h2, ufold, if_neg (by simpa using hx)]
  ·rw [if_pos hx] at h1; exact absurd h1 hx
section
open scoped Classical
open Go.ChangeShapes
open Go.WideShapes
open Go.ChangeAt
theorem En.five (e : En) : e.cells.length = 5 := rfl
set_option maxHeartbeats 1000000 in
theorem eq_lenE (a1 a2 : Option Addr) (n m c d : Nat) (w : World) (h : ((n : Int) != (m : Int)) = true) :
  Calls Tryz.prog 35 #[.slice a1 n c, .slice a2 m d] w fun e w' => e = .returned (.bool false) ∧ w' = w := by
 go_enter Tryz.func35, Tryz.ntmps35
 go_wp2
 go_ret
 exact ⟨rfl, rfl⟩
set_option maxHeartbeats 2000000 in
theorem eq_someE (a1 a2 : Option Addr) (c d n : Nat) (es fs : List En) (w : World) (hn : n ≤ 9223372036854775807) (h1 : es.length = n) (h2 : fs.length = n) (hE : SlOf En.cells 5 w (.slice a1 n c) es) (hF : SlOf En.cells 5 w (.slice a2 n d) fs) :
  Calls Tryz.prog 35 #[.slice a1 n c, .slice a2 n d] w fun r w' => ∃ bb, r = .returned (.bool bb) ∧ (bb = true ↔ es = fs) ∧ ∃ q, w' = w.drewN q := by
 have H1 : Hid (es.length = n) := h1
 have H2 : Hid (fs.length = n) := h2
 have HE : Hid (SlOf En.cells 5 w (.slice a1 n c) es) := hE
 have HF : Hid (SlOf En.cells 5 w (.slice a2 n d) fs) := hF
 clear h1 h2 hE hF
 go_enter Tryz.func35, Tryz.ntmps35
 go_wp2
 go_loopg [13] n (fun g s13 wr => ∃ k q : Nat, k ≤ n ∧ n - k ≤ g ∧ s13 = .int .i64 k ∧ wr = w.drewN q ∧ Hid (es.take k = fs.take k))
 case atStart => exact ⟨0, 0, Nat.zero_le _, by omega, rfl, rfl, rfl⟩
 case round =>
  obtain ⟨k, q, hk, hg, rfl, rfl, heq⟩ := hrel
  by_cases hlt : k < n
  ·obtain ⟨e, he⟩ : ∃ e, es[k]? = some e := ⟨es[k]'(by have := H1.out; omega), List.getElem?_eq_getElem _⟩
   obtain ⟨f, hf⟩ : ∃ f, fs[k]? = some f := ⟨fs[k]'(by have := H2.out; omega), List.getElem?_eq_getElem _⟩
   obtain ⟨b1, o1, rfl, hE⟩ := HE.out.at (by omega)
   obtain ⟨b2, o2, rfl, hF⟩ := HF.out.at (by omega)
   have c0 : w.cell? ⟨b1, o1 + k * 5, none⟩ = some (.int .i64 e.k) := hE k e he 0 _ rfl
   have c1 : w.cell? ⟨b1, o1 + k * 5 + 1, none⟩ = some (.int .i64 e.j) := hE k e he 1 _ rfl
   have c2 : w.cell? ⟨b1, o1 + k * 5 + 2, none⟩ = some (.int .i64 e.v) := hE k e he 2 _ rfl
   have c3 : w.cell? ⟨b1, o1 + k * 5 + 3, none⟩ = some (.int .i64 e.t) := hE k e he 3 _ rfl
   have c4 : w.cell? ⟨b1, o1 + k * 5 + 4, none⟩ = some (.int .i64 e.c) := hE k e he 4 _ rfl
   have d0 : w.cell? ⟨b2, o2 + k * 5, none⟩ = some (.int .i64 f.k) := hF k f hf 0 _ rfl
   have d1 : w.cell? ⟨b2, o2 + k * 5 + 1, none⟩ = some (.int .i64 f.j) := hF k f hf 1 _ rfl
   have d2 : w.cell? ⟨b2, o2 + k * 5 + 2, none⟩ = some (.int .i64 f.v) := hF k f hf 2 _ rfl
   have d3 : w.cell? ⟨b2, o2 + k * 5 + 3, none⟩ = some (.int .i64 f.t) := hF k f hf 3 _ rfl
   have d4 : w.cell? ⟨b2, o2 + k * 5 + 4, none⟩ = some (.int .i64 f.c) := hF k f hf 4 _ rfl
   have hne := fun W => neq_entry e.k e.j e.v e.t e.c f.k f.j f.v f.t f.c W
   by_cases hef : e = f
   ·rw [show unlike e.k e.j e.v e.t e.c f.k f.j f.v f.t f.c = false by rw [hef]; simp [unlike]] at hne
    have hnext : Hid (es.take (k + 1) = fs.take (k + 1)) := by rw [Hid, List.take_add_one, List.take_add_one, he, hf, heq.out, hef]
    clear hef he hf heq hE hF HE HF
    go_wp2_with fail
    go_quiet (fail)
    go_wp2
    go_roundg (n - (k + 1))
    case measure => omega
    case rel => exact ⟨k + 1, _, by omega, by omega, by go_num, rfl, hnext⟩
   ·rw [show unlike e.k e.j e.v e.t e.c f.k f.j f.v f.t f.c = true by rw [← Bool.not_eq_false]; exact fun h => hef (en_eq h)] at hne
    have hdiff : Hid (¬ es = fs) := fun e' => by
     rw [e'] at he
     exact hef (Option.some.inj (he.symm.trans hf))
    clear hef he hf heq hE hF HE HF
    go_wp2_with fail
    go_quiet (fail)
    go_wp2
    go_ret
    exact ⟨false, rfl, ⟨fun h => (by cases h), fun h => absurd h hdiff.out⟩, _, World.drewN_drewN _ _ _⟩
  ·have hkn : k = n := by omega
   subst hkn
   have hsame : Hid (es = fs) := by
    have h := heq.out
    rw [List.take_of_length_le (by have := H1.out; omega), List.take_of_length_le (by have := H2.out; omega)] at h
    exact h
   clear heq HE HF
   go_wp2
   go_ret
   exact ⟨true, rfl, ⟨fun _ => hsame.out, fun _ => rfl⟩, q, rfl⟩
theorem equalE (v1 v2 : Value) (es fs : List En) (w : World) (h1 : SlOf En.cells 5 w v1 es) (h2 : SlOf En.cells 5 w v2 fs) (hn1 : es.length ≤ 9223372036854775807) :
  Calls Tryz.prog 35 #[v1, v2] w fun r w' => r = .returned (.bool (decide (es = fs))) ∧ Below w.heap.size w w' := by
 have h1' := h1
 have h2' := h2
 obtain ⟨a1, c1, rfl, _⟩ := h1
 obtain ⟨a2, c2, rfl, _⟩ := h2
 by_cases hl : es.length = fs.length
 ·rw [← hl] at h2' ⊢
  refine (eq_someE a1 a2 c1 c2 es.length es fs w hn1 rfl hl.symm h1' h2').mono ?_
  rintro r w' ⟨bb, rfl, hbb, q, rfl⟩
  have hd : decide (es = fs) = bb := by cases bb with | true => exact decide_eq_true (hbb.1 rfl) | false => exact decide_eq_false (fun h => by have := hbb.2 h; cases this)
  exact ⟨by rw [hd], below_drewN (Below.refl _ _) _⟩
 ·rw [decide_eq_false (fun h => hl (congrArg List.length h))]
  exact (eq_lenE a1 a2 _ _ c1 c2 w (by rw [bne_iff_ne]; omega)).mono fun r w' ⟨hr, hw⟩ => ⟨hr, by rw [hw]; exact Below.refl _ _⟩
theorem infoE : (Tryz.prog.info? 27).map (fun i => (i.zero, i.size, i.bytes)) = some (some (ev 0 0 0 0 0), 5, 40) := by kernel_rfl
theorem oneE (es : List En) : ∀ u ∈ es.flatMap En.cells, u.oneCell' = true := fun u hu => by
 obtain ⟨e, _, he⟩ := List.mem_flatMap.1 hu
 simp only [En.cells, List.mem_cons, List.not_mem_nil, or_false] at he
 rcases he with rfl | rfl | rfl | rfl | rfl <;> rfl
end
abbrev boxU (p : Int) (v : Value) : Obj := .cells #[.int .i64 p, v] 44
structure UnitAt (w : World) (v : Value) (u : Un) : Prop where
 ents : EntSl w v u.cells
 room : Roomy v
theorem UnitAt.later {w w' : World} {v : Value} {u : Un} (h : UnitAt w v u) (hb : Below w.heap.size w w') : UnitAt w' v u := ⟨h.ents.later hb, h.room⟩
abbrev topN : Nat := 9223372036854775807
theorem drop_en {es : List En} {k : Nat} {x : En} (h : es[k]? = some x) : es.drop k = x :: es.drop (k + 1) := by
 have hlt := (List.getElem?_eq_some_iff.1 h).1
 rw [List.drop_eq_getElem_cons hlt, (List.getElem?_eq_some_iff.1 h).2]
abbrev BeS (W w : World) (b : Nat) (x : En) : Prop :=
 Below W.heap.size W w ∧ w.cell? ⟨b, 0, none⟩ = some (.int .i64 x.k) ∧ w.cell? ⟨b, 1, none⟩ = some (.int .i64 x.j) ∧ w.cell? ⟨b, 2, none⟩ = some (.int .i64 x.v) ∧ w.cell? ⟨b, 3, none⟩ = some (.int .i64 x.t) ∧ w.cell? ⟨b, 4, none⟩ = some (.int .i64 x.c)
theorem beS_step {W w w' : World} {b : Nat} {x : En} (h : BeS W w b x) (hb : Below w.heap.size w w') : BeS W w' b x :=
 ⟨h.1.trans (hb.mono h.1.size), cell_later hb h.2.1, cell_later hb h.2.2.1, cell_later hb h.2.2.2.1, cell_later hb h.2.2.2.2.1, cell_later hb h.2.2.2.2.2⟩
theorem beS_of {w : World} {b : Nat} {x : En} (h : w.heap[b]? = some (boxE x.k x.j x.v x.t x.c)) : BeS w w b x :=
 ⟨Below.refl _ _, Joins.cell_of_block h 0, Joins.cell_of_block h 1, Joins.cell_of_block h 2, Joins.cell_of_block h 3, Joins.cell_of_block h 4⟩
section
open Go.ChangeShapes
open Go.WideShapes
open Go.ChangeAt
set_option maxRecDepth 100000
theorem cellsUE : Tryz.prog.cellsOf 27 = 5 := by kernel_rfl
theorem cellsUI : Tryz.prog.cellsOf 3 = 1 := by kernel_rfl
theorem cellsULE : Tryz.prog.cellsOf 42 = 1 := by kernel_rfl
section
variable {H : Type} {enc : TypeId × Value → H} {w : World} {base : Nat} {spare : Nat → Bool} {held : Bool}
theorem trodUE {fuel : Nat} {cs : List Value} {x : DataW H × List MemPlace} (h : DataW.trod enc Tryz.prog w base spare held fuel 27 cs = some x) : ∃ e : En, cs = e.cells := by
 obtain ⟨xs, n, _, hx, hcl, hlen, hel⟩ := DataW.trod_struct Tryz.underlying27 h
 rw [cellsUE] at hcl
 match xs, hlen, cs, hcl with
 | [y0, y1, y2, y3, y4], _, [c0, c1, c2, c3, c4], _ =>
  have k0 : DataW.trod enc Tryz.prog w base spare held n 3 (List.take (Tryz.prog.cellsOf 3) (List.drop 0 [c0, c1, c2, c3, c4])) = some y0 := hel 0 _ rfl
  have k1 : DataW.trod enc Tryz.prog w base spare held n 3 (List.take (Tryz.prog.cellsOf 3) (List.drop 1 [c0, c1, c2, c3, c4])) = some y1 := hel 1 _ rfl
  have k2 : DataW.trod enc Tryz.prog w base spare held n 3 (List.take (Tryz.prog.cellsOf 3) (List.drop 2 [c0, c1, c2, c3, c4])) = some y2 := hel 2 _ rfl
  have k3 : DataW.trod enc Tryz.prog w base spare held n 3 (List.take (Tryz.prog.cellsOf 3) (List.drop 3 [c0, c1, c2, c3, c4])) = some y3 := hel 3 _ rfl
  have k4 : DataW.trod enc Tryz.prog w base spare held n 3 (List.take (Tryz.prog.cellsOf 3) (List.drop 4 [c0, c1, c2, c3, c4])) = some y4 := hel 4 _ rfl
  rw [cellsUI] at k0 k1 k2 k3 k4
  obtain ⟨a0, e0, _, _⟩ := DataW.trod_int Tryz.underlying3 k0
  obtain ⟨a1, e1, _, _⟩ := DataW.trod_int Tryz.underlying3 k1
  obtain ⟨a2, e2, _, _⟩ := DataW.trod_int Tryz.underlying3 k2
  obtain ⟨a3, e3, _, _⟩ := DataW.trod_int Tryz.underlying3 k3
  obtain ⟨a4, e4, _, _⟩ := DataW.trod_int Tryz.underlying3 k4
  simp at e0 e1 e2 e3 e4
  subst e0 e1 e2 e3 e4
  exact ⟨⟨a0, a1, a2, a3, a4⟩, rfl⟩
theorem trodUEs {fuel : Nat} {c0 : Value} {x : DataW H × List MemPlace} (hf : DataW.trod enc Tryz.prog w base spare held fuel 42 [c0] = some x) :
  ∃ (es : List En) (a : Option Addr) (n c : Nat), c0 = .slice a n c ∧ SlOf En.cells 5 w (.slice a n c) es ∧ n ≤ c ∧ es.length ≤ maxLen := by
 rcases Deep.open_slice Tryz.underlying42 hf with ⟨hcs, _⟩ | ⟨a, len0, cap0, m, n, D, Pl, hcs, _, hl, hm, hmm, _, hel⟩
 ·refine ⟨[], none, 0, 0, by simpa using hcs, ⟨none, 0, rfl, Or.inl rfl⟩, Nat.le_refl _, Nat.zero_le _⟩
 ·rw [cellsUE] at hel
  have hlm : len0 ≤ m := by rw [hmm]; split <;> omega
  have hE : ∀ i, i < len0 → ∃ e : En, ∀ j u, (En.cells e)[j]? = some u → w.cell? ((a.add (i * 5)).add j) = some u := fun i hi => by
   obtain ⟨cs', h1, h2⟩ := hel i (by omega)
   obtain ⟨e, rfl⟩ := trodUE h2
   refine ⟨e, fun j u hj => ?_⟩
   have hlt : j < 5 := by
    have := (List.getElem?_eq_some_iff.1 hj).1
    simpa [En.cells] using this
   exact ((World.cells?_some h1).2.2 j hlt).trans hj
  obtain ⟨E, hE⟩ := @Deep.choose_lt En ⟨En.zero⟩ len0 _ hE
  have hlen : ((List.range len0).map E).length = len0 := by simp
  refine ⟨(List.range len0).map E, some a, len0, cap0, by simpa using hcs, ⟨some a, cap0, by rw [hlen], ?_⟩, hl, by rw [hlen]; omega⟩
  rw [hlen]
  by_cases hz : len0 = 0
  ·exact Or.inl hz
  ·right
   obtain ⟨b, off, spot⟩ := a
   have hspot : spot = none := by
    have := World.cell?_spot (hE 0 (by omega) 0 _ rfl)
    simpa [Addr.add] using this
   subst hspot
   refine ⟨b, off, rfl, fun j e hj i u hi => ?_⟩
   have hjl : j < len0 := by
    have := (List.getElem?_eq_some_iff.1 hj).1
    rwa [hlen] at this
   have he : E j = e := by simpa [hjl] using hj
   have := hE j hjl i u (by rw [he]; exact hi)
   rw [Deep.add_add, Lib.add_plain] at this
   rw [Nat.add_assoc]
   exact this
theorem trodUU {fuel : Nat} {c0 c1 : Value} {x : DataW H × List MemPlace} (h : DataW.trod enc Tryz.prog w base spare held fuel 44 [c0, c1] = some x) : ∃ u : Un, c0 = .int .i64 u.p ∧ UnitAt w c1 u ∧ u.cells.length ≤ maxLen := by
 obtain ⟨xs, n, _, hx, _, hlen, hel⟩ := DataW.trod_struct Tryz.underlying44 h
 match xs, hlen with
 | [y0, y1], _ =>
  have k0 : DataW.trod enc Tryz.prog w base spare held n 3 (List.take (Tryz.prog.cellsOf 3) (List.drop 0 [c0, c1])) = some y0 := hel 0 _ rfl
  have k1 : DataW.trod enc Tryz.prog w base spare held n 42 (List.take (Tryz.prog.cellsOf 42) (List.drop 1 [c0, c1])) = some y1 := hel 1 _ rfl
  rw [cellsUI] at k0
  rw [cellsULE] at k1
  have k1' : DataW.trod enc Tryz.prog w base spare held n 42 [c1] = some y1 := k1
  obtain ⟨p0, e0, _, _⟩ := DataW.trod_int Tryz.underlying3 k0
  obtain ⟨es, a, m, c, rfl, h1, h2, h3⟩ := trodUEs k1'
  simp at e0
  subst e0
  exact ⟨⟨p0, es⟩, rfl, ⟨h1, ⟨_, _, _, rfl, h2⟩⟩, h3⟩
end
end
structure Jb where (i : Int) (e : Int) (n : Int)
structure Rg where (j : Int) (t : Int) (c : Int)
def Jb.bad (x : Jb) : Bool := !(decide (0 ≤ x.i ∧ x.i ≤ 5) && decide (1 ≤ x.e ∧ x.e ≤ 100) && decide (0 ≤ x.n ∧ x.n ≤ 100100))
def Rg.bad (x : Rg) : Bool := !(decide (0 ≤ x.j ∧ x.j ≤ 5) && decide (0 ≤ x.t ∧ x.t ≤ 100000) && decide (0 ≤ x.c ∧ x.c ≤ 2))
theorem Jb.good {x : Jb} (h : x.bad = false) : (0 ≤ x.i ∧ x.i ≤ 5) ∧ (1 ≤ x.e ∧ x.e ≤ 100) ∧ (0 ≤ x.n ∧ x.n ≤ 100100) := by
 simp only [Jb.bad, Bool.not_eq_false', Bool.and_eq_true, decide_eq_true_eq] at h
 exact ⟨h.1.1, h.1.2, h.2⟩
theorem Jb.good_of {x : Jb} (h : (0 ≤ x.i ∧ x.i ≤ 5) ∧ (1 ≤ x.e ∧ x.e ≤ 100) ∧ (0 ≤ x.n ∧ x.n ≤ 100100)) : x.bad = false := by
 simp only [Jb.bad, Bool.not_eq_false', Bool.and_eq_true, decide_eq_true_eq]
 exact ⟨⟨h.1, h.2.1⟩, h.2.2⟩
theorem Rg.good {x : Rg} (h : x.bad = false) : (0 ≤ x.j ∧ x.j ≤ 5) ∧ (0 ≤ x.t ∧ x.t ≤ 100000) ∧ (0 ≤ x.c ∧ x.c ≤ 2) := by
 simp only [Rg.bad, Bool.not_eq_false', Bool.and_eq_true, decide_eq_true_eq] at h
 exact ⟨h.1.1, h.1.2, h.2⟩
theorem Rg.good_of {x : Rg} (h : (0 ≤ x.j ∧ x.j ≤ 5) ∧ (0 ≤ x.t ∧ x.t ≤ 100000) ∧ (0 ≤ x.c ∧ x.c ≤ 2)) : x.bad = false := by
 simp only [Rg.bad, Bool.not_eq_false', Bool.and_eq_true, decide_eq_true_eq]
 exact ⟨⟨h.1, h.2.1⟩, h.2.2⟩
def ckJobs : Int → List Jb → Int
 | _, [] => 0
 | l, x :: r => if x.bad = true then 3 else if x.i ≤ l then 6 else ckJobs x.i r
def ckRungs : List Rg → Int
 | [] => 0
 | x :: r => if x.bad = true then 3 else ckRungs r
def ckBook (js : List Jb) (rs : List Rg) : Int := if 6 < js.length ∨ 60 < rs.length then 2 else if ckJobs (-1) js ≠ 0 then ckJobs (-1) js else ckRungs rs
def Srt : Int → List Jb → Prop
 | _, [] => True
 | l, x :: r => l < x.i ∧ Srt x.i r
theorem ckJobs_zero : ∀ (l : Int) (js : List Jb), ckJobs l js = 0 ↔ Srt l js ∧ ∀ x, x ∈ js → x.bad = false
 | l, [] => by simp [ckJobs, Srt]
 | l, x :: r => by
  have ih := ckJobs_zero x.i r
  rw [ckJobs, Srt]
  by_cases hb : x.bad = true
  ·rw [if_pos hb]
   constructor
   ·intro h; cases h
   ·rintro ⟨_, h⟩; have := h x (by simp); rw [this] at hb; cases hb
  ·rw [if_neg hb]
   by_cases hl : x.i ≤ l
   ·rw [if_pos hl]
    constructor
    ·intro h; cases h
    ·rintro ⟨⟨h, _⟩, _⟩; omega
   ·rw [if_neg hl, ih]
    constructor
    ·rintro ⟨h1, h2⟩
     refine ⟨⟨by omega, h1⟩, fun y hy => ?_⟩
     rcases List.mem_cons.1 hy with rfl | hy
     ·simpa using hb
     ·exact h2 y hy
    ·rintro ⟨⟨_, h1⟩, h2⟩
     exact ⟨h1, fun y hy => h2 y (List.mem_cons_of_mem _ hy)⟩
theorem ckRungs_zero : ∀ (rs : List Rg), ckRungs rs = 0 ↔ ∀ x, x ∈ rs → x.bad = false
 | [] => by simp [ckRungs]
 | x :: r => by
  have ih := ckRungs_zero r
  rw [ckRungs]
  by_cases hb : x.bad = true
  ·rw [if_pos hb]
   constructor
   ·intro h; cases h
   ·intro h; have := h x (by simp); rw [this] at hb; cases hb
  ·rw [if_neg hb, ih]
   constructor
   ·intro h y hy
    rcases List.mem_cons.1 hy with rfl | hy
    ·simpa using hb
    ·exact h y hy
   ·exact fun h y hy => h y (List.mem_cons_of_mem _ hy)
structure Ok (js : List Jb) (rs : List Rg) : Prop where
 few : js.length ≤ 6
 room : rs.length ≤ 60
 srt : Srt (-1) js
 jobs : ∀ x, x ∈ js → x.bad = false
 rungs : ∀ x, x ∈ rs → x.bad = false
theorem ckBook_zero {js : List Jb} {rs : List Rg} : ckBook js rs = 0 ↔ Ok js rs := by
 unfold ckBook
 by_cases hm : 6 < js.length ∨ 60 < rs.length
 ·rw [if_pos hm]
  exact ⟨fun h => absurd h (by decide), fun h => absurd h.few (by have := h.room; omega)⟩
 ·rw [if_neg hm]
  by_cases hj : ckJobs (-1) js = 0
  ·rw [if_neg (by simpa using hj), ckRungs_zero]
   have := (ckJobs_zero _ _).1 hj
   exact ⟨fun h => ⟨by omega, by omega, this.1, this.2, h⟩, fun h => h.rungs⟩
  ·rw [if_pos hj]
   exact ⟨fun h => absurd h hj, fun h => absurd ((ckJobs_zero _ _).2 ⟨h.srt, h.jobs⟩) hj⟩
theorem Srt.mono {l l' : Int} {js : List Jb} (h : Srt l js) (hl : l' ≤ l) : Srt l' js := by
 cases js with
 | nil => trivial
 | cons x r => exact ⟨by have := h.1; omega, h.2⟩
theorem Srt.above : ∀ {l : Int} {js : List Jb}, Srt l js → ∀ x, x ∈ js → l < x.i
 | _, [], _, x, hx => by cases hx
 | l, y :: r, h, x, hx => by
  rcases List.mem_cons.1 hx with rfl | hx
  ·exact h.1
  ·have := Srt.above h.2 x hx; have := h.1; omega
def tab (js : List Jb) (i : Int) : Option Jb := js.find? fun x => x.i == i
theorem tab_id {js : List Jb} {i : Int} {x : Jb} (h : tab js i = some x) : x.i = i ∧ x ∈ js := by
 refine ⟨?_, List.mem_of_find?_eq_some h⟩
 have := List.find?_some h
 simpa using this
theorem tab_none {js : List Jb} {i : Int} : tab js i = none ↔ ∀ x, x ∈ js → x.i ≠ i := by
 simp [tab, List.find?_eq_none]
theorem tab_mem : ∀ {l : Int} {js : List Jb}, Srt l js → ∀ x, x ∈ js → tab js x.i = some x
 | _, [], _, x, hx => by cases hx
 | l, y :: r, h, x, hx => by
  rcases List.mem_cons.1 hx with rfl | hx
  ·simp [tab]
  ·have hlt := Srt.above h.2 x hx
   have hne : (y.i == x.i) = false := by rw [beq_eq_false_iff_ne]; omega
   rw [tab, List.find?_cons, hne]
   exact tab_mem h.2 x hx
def alt (js : List Jb) (i : Int) (v : Option Jb) : List Jb := js.filter (fun x => decide (x.i < i)) ++ v.toList ++ js.filter (fun x => decide (i < x.i))
theorem srt_append : ∀ {l m : Int} {a b : List Jb}, Srt l a → (∀ x, x ∈ a → x.i ≤ m) → l ≤ m → Srt m b → Srt l (a ++ b)
 | l, m, [], b, _, _, hl, hb => hb.mono hl
 | l, m, x :: r, b, ha, hm, hl, hb => ⟨ha.1, srt_append ha.2 (fun y hy => hm y (List.mem_cons_of_mem _ hy)) (hm x (by simp)) hb⟩
theorem srt_filter : ∀ {l : Int} {js : List Jb} (p : Jb → Bool), Srt l js → Srt l (js.filter p)
 | _, [], _, _ => trivial
 | l, x :: r, p, h => by
  rw [List.filter_cons]
  split
  ·exact ⟨h.1, srt_filter p h.2⟩
  ·exact (srt_filter p h.2).mono (by have := h.1; omega)
theorem srt_above {l m : Int} : ∀ {js : List Jb}, Srt l js → (∀ x, x ∈ js → m < x.i) → Srt m js
 | [], _, _ => trivial
 | x :: r, h, hm => ⟨hm x (by simp), h.2⟩
theorem alt_mem {js : List Jb} {i : Int} {v : Option Jb} {x : Jb} : x ∈ alt js i v ↔ (x ∈ js ∧ x.i ≠ i) ∨ v = some x := by
 simp only [alt, List.mem_append, List.mem_filter, decide_eq_true_eq, Option.mem_toList]
 constructor
 ·rintro ((⟨h, h'⟩ | h) | ⟨h, h'⟩)
  ·exact Or.inl ⟨h, by omega⟩
  ·exact Or.inr h
  ·exact Or.inl ⟨h, by omega⟩
 ·rintro (⟨h, h'⟩ | h)
  ·rcases Int.lt_or_gt_of_ne h' with h'' | h''
   ·exact Or.inl (Or.inl ⟨h, h''⟩)
   ·exact Or.inr ⟨h, h''⟩
  ·exact Or.inl (Or.inr h)
theorem alt_srt {l : Int} {js : List Jb} {i : Int} {v : Option Jb} (h : Srt l js) (hi : l < i) (hv : ∀ x, v = some x → x.i = i) : Srt l (alt js i v) := by
 have h3 : Srt i (js.filter (fun x => decide (i < x.i))) := srt_above (srt_filter _ h) (fun x hx => by simpa using (List.mem_filter.1 hx).2)
 rw [alt, List.append_assoc]
 refine srt_append (m := i - 1) (srt_filter _ h) (fun x hx => by have := (List.mem_filter.1 hx).2; simp at this; omega) (by omega) ?_
 cases v with
 | none => exact h3.mono (by omega)
 | some x =>
  have := hv x rfl
  exact ⟨by omega, by rw [this]; exact h3⟩
theorem srt_ext : ∀ {l l' : Int} {a b : List Jb}, Srt l a → Srt l' b → (∀ x, x ∈ a ↔ x ∈ b) → a = b
 | _, _, [], [], _, _, _ => rfl
 | _, _, [], y :: s, _, _, h => absurd ((h y).2 (by simp)) (by simp)
 | _, _, x :: r, [], _, _, h => absurd ((h x).1 (by simp)) (by simp)
 | l, l', x :: r, y :: s, ha, hb, h => by
  have hxy : x = y := by
   rcases List.mem_cons.1 ((h x).1 (by simp)) with e | hx
   ·exact e
   ·rcases List.mem_cons.1 ((h y).2 (by simp)) with e | hy
    ·exact e.symm
    ·have h1 := Srt.above hb.2 x hx
     have h2 := Srt.above ha.2 y hy
     omega
  subst hxy
  congr 1
  refine srt_ext ha.2 hb.2 fun z => ?_
  constructor
  ·intro hz
   rcases List.mem_cons.1 ((h z).1 (List.mem_cons_of_mem _ hz)) with rfl | h'
   ·have := Srt.above ha.2 z hz; omega
   ·exact h'
  ·intro hz
   rcases List.mem_cons.1 ((h z).2 (List.mem_cons_of_mem _ hz)) with rfl | h'
   ·have := Srt.above hb.2 z hz; omega
   ·exact h'
theorem srt_len : ∀ {l : Int} {js : List Jb}, Srt l js → (∀ x, x ∈ js → x.i ≤ 5) → (js.length : Int) ≤ if l < 5 then 5 - l else 0
 | l, [], _, _ => by simp; split <;> omega
 | l, x :: r, h, hb => by
  have h1 := hb x (by simp)
  have ih := srt_len h.2 (fun y hy => hb y (List.mem_cons_of_mem _ hy))
  have := h.1
  rw [if_pos (by omega), List.length_cons]
  split at ih <;> omega
def step (js : List Jb) (rs : List Rg) (x : En) : List Jb × List Rg :=
 if x.k = 1 then (match tab js x.j with | none => (alt js x.j (some ⟨x.j, x.v, x.t⟩), rs) | some _ => (js, rs))
 else if x.k = 2 then (alt js x.j none, rs)
 else if x.k = 3 then (match tab js x.j with | none => (js, rs) | some y => if y.n = x.t ∧ rs.length < 60 then (alt js x.j (some ⟨x.j, y.e, x.t + y.e⟩), rs ++ [⟨x.j, x.t, x.c⟩]) else (js, rs))
 else (js, rs)
def app (js : List Jb) (rs : List Rg) (x : En) : (List Jb × List Rg) × Int :=
 if ckBook js rs ≠ 0 then (([], []), ckBook js rs) else if x.chk ≠ 0 then (([], []), x.chk) else (step js rs x, 0)
def Jb.cells (x : Jb) : List Value := [.int .i64 x.i, .int .i64 x.e, .int .i64 x.n]
def Rg.cells (x : Rg) : List Value := [.int .i64 x.j, .int .i64 x.t, .int .i64 x.c]
theorem Jb.three (x : Jb) : x.cells.length = 3 := rfl
theorem Rg.three (x : Rg) : x.cells.length = 3 := rfl
abbrev JobSl (w : World) (v : Value) (js : List Jb) : Prop := SlOf Jb.cells 3 w v js
abbrev RungSl (w : World) (v : Value) (rs : List Rg) : Prop := SlOf Rg.cells 3 w v rs
abbrev boxB (v1 v2 : Value) : Obj := .cells #[v1, v2] 39
theorem ckBook_many {js : List Jb} {rs : List Rg} (h : 6 < js.length ∨ 60 < rs.length) : ckBook js rs = 2 := by rw [ckBook, if_pos h]
theorem drop_at {α : Type} {xs : List α} {k : Nat} {x : α} (h : xs[k]? = some x) : xs.drop k = x :: xs.drop (k + 1) := by
 have hlt := (List.getElem?_eq_some_iff.1 h).1
 rw [List.drop_eq_getElem_cons hlt, (List.getElem?_eq_some_iff.1 h).2]
end Go.Proofs.YtmoaobfmopimlafGreatDoor
