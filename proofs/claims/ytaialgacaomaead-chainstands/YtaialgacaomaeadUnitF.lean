/- The reference's UnitNext at a write; UnitNext whole. -/
import Derived.Test.YtaialgacaomaeadUnitE
import Derived.Deep.CutBlock
namespace Go.Proofs.Ytaialgacaomaead
open Go.RowKit

theorem name_world {P : World → Prop} {W : World} (h : P W) : ∃ V, V = W ∧ P V := ⟨W, rfl, h⟩

/-- A row of the call's own that has something in it. -/
theorem owns_form {w : World} {base : Nat} {T : TypeId} {k n : Nat} {v : Value} {xs : List Value} (h : w.ownsRow base T k v n xs) (h0 : 0 < n) :
    ∃ g cap tl, v = .slice (some ⟨g, 0, none⟩) n cap ∧ base ≤ g ∧ n ≤ cap ∧ w.heap[g]? = some (.cells (xs ++ tl).toArray T) := by
  rcases h.2 with ⟨_, hn⟩ | ⟨g, cap, cur, hv, hb, hg, hle, _, _, htake⟩
  · omega
  · refine ⟨g, cap, cur.toList.drop (n * k), hv, hb, hle, ?_⟩
    rw [← htake, List.take_append_drop]
    simpa using hg

/-- The entries at the front of a block. -/
theorem ents_front {W : World} {g n cap : Nat} {T : TypeId} {es : List En} {tl : List Value} (hl : es.length = n) (h : W.heap[g]? = some (.cells (es.flatMap En.cells ++ tl).toArray T)) : EntSl W (.slice (some ⟨g, 0, none⟩) n cap) es := by
  refine ⟨some ⟨g, 0, none⟩, cap, by rw [hl], Or.inr ⟨g, 0, rfl, fun j x hj i u hi => ?_⟩⟩
  have hf := row_flat En.five es j x hj i u hi
  have hlt := (List.getElem?_eq_some_iff.1 hf).1
  rw [Joins.cell_of_block h, Nat.zero_add, List.getElem?_toArray, List.getElem?_append_left hlt]
  exact hf

/-- What a write reads. -/
abbrev WrS (W w : World) (B : Nat) (s : Value) (b off k : Nat) (x : En) : Prop :=
  Below W.heap.size W w ∧ w.cell? ⟨B, 1, none⟩ = some s ∧ w.cell? ⟨B + 1, 1, none⟩ = some (.int .i64 (k : Int)) ∧ w.cell? ⟨b, off + k * 5, none⟩ = some (.int .i64 x.k) ∧ w.cell? ⟨b, off + k * 5 + 1, none⟩ = some (.int .i64 x.j) ∧ w.cell? ⟨b, off + k * 5 + 2, none⟩ = some (.int .i64 x.v) ∧ w.cell? ⟨b, off + k * 5 + 3, none⟩ = some (.int .i64 x.t) ∧ w.cell? ⟨b, off + k * 5 + 4, none⟩ = some (.int .i64 x.c)

theorem wrS_step {W w w' : World} {B : Nat} {s : Value} {b off k : Nat} {x : En} (h : WrS W w B s b off k x) (hb : Below w.heap.size w w') : WrS W w' B s b off k x :=
  ⟨h.1.trans (hb.mono h.1.size), cell_later hb h.2.1, cell_later hb h.2.2.1, cell_later hb h.2.2.2.1, cell_later hb h.2.2.2.2.1, cell_later hb h.2.2.2.2.2.1, cell_later hb h.2.2.2.2.2.2.1, cell_later hb h.2.2.2.2.2.2.2⟩

set_option maxHeartbeats 4000000 in
set_option maxRecDepth 100000 in
theorem next_twice (a : Option Addr) (c : Nat) (p : Int) (es : List En) (k : Nat) (e : En) (w : World) (h : EntSl w (.slice a 60 c) es) (hl : es.length = 60) (x : En) (hib : x.isB = false) (hd : Un.ck ⟨p, es⟩ = 0) (hr : Rc.chk ⟨1, (k : Int), 0, e⟩ = 0) (hk : k < 60) (hx : es[k]? = some x) :
    AnsU 8 #[.agg #[.int .i64 p, .slice a 60 c], (Rc.val ⟨1, (k : Int), 0, e⟩)] w (Un.zero, 6) := by
  have HB0 : Aside (Below w.heap.size w (((w.alloc (boxU p (.slice a 60 c))).alloc (boxRc ⟨1, (k : Int), 0, e⟩)).alloc (boxU 0 (.slice none 0 0)))) := grew (grew (grew (Below.refl _ _) _) _) _
  have HX0 : Aside ((((w.alloc (boxU p (.slice a 60 c))).alloc (boxRc ⟨1, (k : Int), 0, e⟩)).alloc (boxU 0 (.slice none 0 0))).heap[w.heap.size]? = some (boxU p (.slice a 60 c))) := heap_old (heap_old (heap_new _ _) _) _
  have HY0 : Aside ((((w.alloc (boxU p (.slice a 60 c))).alloc (boxRc ⟨1, (k : Int), 0, e⟩)).alloc (boxU 0 (.slice none 0 0))).heap[w.heap.size + 1]? = some (boxRc ⟨1, (k : Int), 0, e⟩)) := by
    have := heap_new (w.alloc (boxU p (.slice a 60 c))) (boxRc ⟨1, (k : Int), 0, e⟩)
    rw [World.size_alloc] at this
    exact heap_old this _
  have HZ0 : Aside ((((w.alloc (boxU p (.slice a 60 c))).alloc (boxRc ⟨1, (k : Int), 0, e⟩)).alloc (boxU 0 (.slice none 0 0))).heap[w.heap.size + 1 + 1]? = some (boxU 0 (.slice none 0 0))) := by
    have := heap_new ((w.alloc (boxU p (.slice a 60 c))).alloc (boxRc ⟨1, (k : Int), 0, e⟩)) (boxU 0 (.slice none 0 0))
    rwa [World.size_alloc, World.size_alloc] at this
  have hck := ref_ckUnit (.slice a 60 c) ⟨p, es⟩ (((w.alloc (boxU p (.slice a 60 c))).alloc (boxRc ⟨1, (k : Int), 0, e⟩)).alloc (boxU 0 (.slice none 0 0))) (h.later HB0.out)
  rw [hd] at hck
  have hcr := fun W => ref_chkRec ⟨1, (k : Int), 0, e⟩ W
  rw [hr] at hcr
  have H : Aside (EntSl w (.slice a 60 c) es) := h
  have HX : Aside (es[k]? = some x) := hx
  have HL : Aside (es.length = 60) := hl
  have hki : (k : Int) < 60 := by omega
  have hk0 : (0 : Int) ≤ (k : Int) := by omega
  have hne : ∀ W, (binOp .neq 26 (ev x.k x.j x.v x.t x.c) (ev 4 0 0 0 0)).run Try.prog W = .ok (.bool (!x.isB)) W := fun W => by
    rw [neq_entry x.k x.j x.v x.t x.c 4 0 0 0 0 W, En.isB, Bool.not_not]
  rw [hib] at hne
  clear hd hr h hx hl hib
  go_enter Try.func8, Try.ntmps8
  go_wp2_with fail
  refine hck.mono ?_
  rintro r w1 ⟨rfl, hb1⟩
  have x1 := heap_below HX0.out hb1 (heap_lt HX0.out)
  have y1 := heap_below HY0.out hb1 (heap_lt HY0.out)
  have t1 := heap_below HZ0.out hb1 (heap_lt HZ0.out)
  have HB1 : Aside (Below w.heap.size w w1) := step_below1 HB0.out hb1
  have HX1 : Aside _ := x1
  have HY1 : Aside _ := y1
  have HZ1 : Aside _ := t1
  clear hb1 x1 y1 t1 HX0 HY0 HZ0 HB0
  clear hck
  have z1 : ∀ i, w1.cell? ⟨w.heap.size + 1, i, none⟩ = #[Value.int .i64 1, .int .i64 (k : Int), .int .i64 0, .int .i64 e.k, .int .i64 e.j, .int .i64 e.v, .int .i64 e.t, .int .i64 e.c][i]? := fun i => Joins.cell_of_block HY1.out i
  go_wp2_with fail
  refine (hcr _).mono ?_
  rintro r w2 ⟨rfl, hb2⟩
  have x2 := heap_below HX1.out hb2 (heap_lt HX1.out)
  have y2 := heap_below HY1.out hb2 (heap_lt HY1.out)
  have t2 := heap_below HZ1.out hb2 (heap_lt HZ1.out)
  have HB2 : Aside (Below w.heap.size w w2) := step_below1 HB1.out hb2
  have HX2 : Aside _ := x2
  have HY2 : Aside _ := y2
  have HZ2 : Aside _ := t2
  clear hb2 x2 y2 t2 HX1 HY1 HZ1 HB1
  clear hcr z1
  obtain ⟨b, off, rfl, hE0⟩ := SlOf.at (cs := En.cells) (k := 5) H.out (by omega)
  have hE := RowAt.later hE0 HB2.out
  have hS0 : WrS w2 w2 w.heap.size (.slice (some ⟨b, off, none⟩) 60 c) b off k x := ⟨Below.refl _ _, Joins.cell_of_block HX2.out 1, Joins.cell_of_block HY2.out 1, hE k x HX.out 0 _ rfl, hE k x HX.out 1 _ rfl, hE k x HX.out 2 _ rfl, hE k x HX.out 3 _ rfl, hE k x HX.out 4 _ rfl⟩
  clear hE hE0
  have z0 : ∀ i, w2.cell? ⟨w.heap.size, i, none⟩ = #[Value.int .i64 p, .slice (some ⟨b, off, none⟩) 60 c][i]? := fun i => Joins.cell_of_block HX2.out i
  have f0 : ∀ i, w2.frozen? ⟨w.heap.size, i, none⟩ = false := fun i => Joins.unfrozen_of_block HX2.out i
  have z1 : ∀ i, w2.cell? ⟨w.heap.size + 1, i, none⟩ = #[Value.int .i64 1, .int .i64 (k : Int), .int .i64 0, .int .i64 e.k, .int .i64 e.j, .int .i64 e.v, .int .i64 e.t, .int .i64 e.c][i]? := fun i => Joins.cell_of_block HY2.out i
  have hbd : Below w2.heap.size w2 w2.drew := (Below.refl _ _).drew
  go_wp2_with fail
  clear z0 z1 f0
  go_region_held3 (fun w' => WrS w2 w' w.heap.size (.slice (some ⟨b, off, none⟩) 60 c) b off k x) (exact wrS_step (by assumption) (by assumption)) (first | (go_at_call 30; refine (blank_any _).mono ?_; rintro r w' ⟨rfl, hb'⟩))
  all_goals
    rename_i hS
    obtain ⟨V, hVe, hSV⟩ := name_world (P := fun W => WrS w2 W w.heap.size (.slice (some ⟨b, off, none⟩) 60 c) b off k x) hS
    subst hVe
    have HXV : Aside (V.heap[w.heap.size]? = some (boxU p (.slice (some ⟨b, off, none⟩) 60 c))) := heap_below HX2.out hSV.1 (heap_lt HX2.out)
    have HYV : Aside (V.heap[w.heap.size + 1]? = some (boxRc ⟨1, (k : Int), 0, e⟩)) := heap_below HY2.out hSV.1 (heap_lt HY2.out)
    have HZV : Aside (V.heap[w.heap.size + 1 + 1]? = some (boxU 0 (.slice none 0 0))) := heap_below HZ2.out hSV.1 (heap_lt HZ2.out)
    have HBV : Aside (Below w.heap.size w V) := HB2.out.trans (hSV.1.mono HB2.out.size)
    clear hS hSV hS0 hbd HX2 HY2 HZ2 HB2 hne
    have z2 : ∀ i, V.cell? ⟨w.heap.size + 1 + 1, i, none⟩ = #[Value.int .i64 0, .slice none 0 0][i]? := fun i => Joins.cell_of_block HZV.out i
    have f2 : ∀ i, V.frozen? ⟨w.heap.size + 1 + 1, i, none⟩ = false := fun i => Joins.unfrozen_of_block HZV.out i
    go_wp2
    exact ret_unit (p := 4) (q := 5) Try.results8 rfl rfl rfl (unit_stored HZV.out _ _) ⟨_, rfl, unit_nil _, below_two2 HBV.out (by omega) _ _⟩

set_option maxHeartbeats 4000000 in
set_option maxRecDepth 100000 in
theorem next_write (a : Option Addr) (c : Nat) (p : Int) (es : List En) (k : Nat) (e : En) (w : World) (h : EntSl w (.slice a 60 c) es) (hl : es.length = 60) (x : En) (hib : x.isB = true) (hd : Un.ck ⟨p, es⟩ = 0) (hr : Rc.chk ⟨1, (k : Int), 0, e⟩ = 0) (hk : k < 60) (hx : es[k]? = some x) :
    AnsU 8 #[.agg #[.int .i64 p, .slice a 60 c], (Rc.val ⟨1, (k : Int), 0, e⟩)] w (⟨p, es.set k e⟩, 0) := by
  have HB0 : Aside (Below w.heap.size w (((w.alloc (boxU p (.slice a 60 c))).alloc (boxRc ⟨1, (k : Int), 0, e⟩)).alloc (boxU 0 (.slice none 0 0)))) := grew (grew (grew (Below.refl _ _) _) _) _
  have HX0 : Aside ((((w.alloc (boxU p (.slice a 60 c))).alloc (boxRc ⟨1, (k : Int), 0, e⟩)).alloc (boxU 0 (.slice none 0 0))).heap[w.heap.size]? = some (boxU p (.slice a 60 c))) := heap_old (heap_old (heap_new _ _) _) _
  have HY0 : Aside ((((w.alloc (boxU p (.slice a 60 c))).alloc (boxRc ⟨1, (k : Int), 0, e⟩)).alloc (boxU 0 (.slice none 0 0))).heap[w.heap.size + 1]? = some (boxRc ⟨1, (k : Int), 0, e⟩)) := by
    have := heap_new (w.alloc (boxU p (.slice a 60 c))) (boxRc ⟨1, (k : Int), 0, e⟩)
    rw [World.size_alloc] at this
    exact heap_old this _
  have HZ0 : Aside ((((w.alloc (boxU p (.slice a 60 c))).alloc (boxRc ⟨1, (k : Int), 0, e⟩)).alloc (boxU 0 (.slice none 0 0))).heap[w.heap.size + 1 + 1]? = some (boxU 0 (.slice none 0 0))) := by
    have := heap_new ((w.alloc (boxU p (.slice a 60 c))).alloc (boxRc ⟨1, (k : Int), 0, e⟩)) (boxU 0 (.slice none 0 0))
    rwa [World.size_alloc, World.size_alloc] at this
  have hck := ref_ckUnit (.slice a 60 c) ⟨p, es⟩ (((w.alloc (boxU p (.slice a 60 c))).alloc (boxRc ⟨1, (k : Int), 0, e⟩)).alloc (boxU 0 (.slice none 0 0))) (h.later HB0.out)
  rw [hd] at hck
  have hcr := fun W => ref_chkRec ⟨1, (k : Int), 0, e⟩ W
  rw [hr] at hcr
  have H : Aside (EntSl w (.slice a 60 c) es) := h
  have HX : Aside (es[k]? = some x) := hx
  have HL : Aside (es.length = 60) := hl
  have hki : (k : Int) < 60 := by omega
  have hk0 : (0 : Int) ≤ (k : Int) := by omega
  have hne : ∀ W, (binOp .neq 26 (ev x.k x.j x.v x.t x.c) (ev 4 0 0 0 0)).run Try.prog W = .ok (.bool (!x.isB)) W := fun W => by
    rw [neq_entry x.k x.j x.v x.t x.c 4 0 0 0 0 W, En.isB, Bool.not_not]
  rw [hib] at hne
  clear hd hr h hx hl hib
  go_enter Try.func8, Try.ntmps8
  go_wp2_with fail
  refine hck.mono ?_
  rintro r w1 ⟨rfl, hb1⟩
  have x1 := heap_below HX0.out hb1 (heap_lt HX0.out)
  have y1 := heap_below HY0.out hb1 (heap_lt HY0.out)
  have t1 := heap_below HZ0.out hb1 (heap_lt HZ0.out)
  have HB1 : Aside (Below w.heap.size w w1) := step_below1 HB0.out hb1
  have HX1 : Aside _ := x1
  have HY1 : Aside _ := y1
  have HZ1 : Aside _ := t1
  clear hb1 x1 y1 t1 HX0 HY0 HZ0 HB0
  clear hck
  have z1 : ∀ i, w1.cell? ⟨w.heap.size + 1, i, none⟩ = #[Value.int .i64 1, .int .i64 (k : Int), .int .i64 0, .int .i64 e.k, .int .i64 e.j, .int .i64 e.v, .int .i64 e.t, .int .i64 e.c][i]? := fun i => Joins.cell_of_block HY1.out i
  go_wp2_with fail
  refine (hcr _).mono ?_
  rintro r w2 ⟨rfl, hb2⟩
  have x2 := heap_below HX1.out hb2 (heap_lt HX1.out)
  have y2 := heap_below HY1.out hb2 (heap_lt HY1.out)
  have t2 := heap_below HZ1.out hb2 (heap_lt HZ1.out)
  have HB2 : Aside (Below w.heap.size w w2) := step_below1 HB1.out hb2
  have HX2 : Aside _ := x2
  have HY2 : Aside _ := y2
  have HZ2 : Aside _ := t2
  clear hb2 x2 y2 t2 HX1 HY1 HZ1 HB1
  clear hcr z1
  obtain ⟨b, off, rfl, hE0⟩ := SlOf.at (cs := En.cells) (k := 5) H.out (by omega)
  have hE := RowAt.later hE0 HB2.out
  have hS0 : WrS w2 w2 w.heap.size (.slice (some ⟨b, off, none⟩) 60 c) b off k x := ⟨Below.refl _ _, Joins.cell_of_block HX2.out 1, Joins.cell_of_block HY2.out 1, hE k x HX.out 0 _ rfl, hE k x HX.out 1 _ rfl, hE k x HX.out 2 _ rfl, hE k x HX.out 3 _ rfl, hE k x HX.out 4 _ rfl⟩
  clear hE hE0
  have z0 : ∀ i, w2.cell? ⟨w.heap.size, i, none⟩ = #[Value.int .i64 p, .slice (some ⟨b, off, none⟩) 60 c][i]? := fun i => Joins.cell_of_block HX2.out i
  have f0 : ∀ i, w2.frozen? ⟨w.heap.size, i, none⟩ = false := fun i => Joins.unfrozen_of_block HX2.out i
  have z1 : ∀ i, w2.cell? ⟨w.heap.size + 1, i, none⟩ = #[Value.int .i64 1, .int .i64 (k : Int), .int .i64 0, .int .i64 e.k, .int .i64 e.j, .int .i64 e.v, .int .i64 e.t, .int .i64 e.c][i]? := fun i => Joins.cell_of_block HY2.out i
  have hbd : Below w2.heap.size w2 w2.drew := (Below.refl _ _).drew
  go_wp2_with fail
  clear z0 z1 f0
  go_region_held3 (fun w' => WrS w2 w' w.heap.size (.slice (some ⟨b, off, none⟩) 60 c) b off k x) (exact wrS_step (by assumption) (by assumption)) (first | (go_at_call 30; refine (blank_any _).mono ?_; rintro r w' ⟨rfl, hb'⟩))
  all_goals
    rename_i hS
    obtain ⟨V, hVe, hSV⟩ := name_world (P := fun W => WrS w2 W w.heap.size (.slice (some ⟨b, off, none⟩) 60 c) b off k x) hS
    subst hVe
    have HXV : Aside (V.heap[w.heap.size]? = some (boxU p (.slice (some ⟨b, off, none⟩) 60 c))) := heap_below HX2.out hSV.1 (heap_lt HX2.out)
    have HYV : Aside (V.heap[w.heap.size + 1]? = some (boxRc ⟨1, (k : Int), 0, e⟩)) := heap_below HY2.out hSV.1 (heap_lt HY2.out)
    have HZV : Aside (V.heap[w.heap.size + 1 + 1]? = some (boxU 0 (.slice none 0 0))) := heap_below HZ2.out hSV.1 (heap_lt HZ2.out)
    have HBV : Aside (Below w.heap.size w V) := HB2.out.trans (hSV.1.mono HB2.out.size)
    clear hS hSV hS0 hbd HX2 HY2 HZ2 HB2 hne
    have hEV : EntSl (V.alloc (.cells #[] 26)) (.slice (some ⟨b, off, none⟩) 60 c) es := H.out.later (grew HBV.out _)
    have hown : (V.alloc (.cells #[] 26)).ownsRow V.heap.size 26 5 (.slice (some ⟨V.heap.size, 0, none⟩) 0 0) 0 [] := World.ownsRow_lit V #[] 0 (Nat.le_refl _) (Nat.zero_le _) rfl
    have hsz : V.heap.size ≤ (V.alloc (.cells #[] 26)).heap.size := by simp
    have hlen : 0 + es.length ≤ 1000000 := by have := HL.out; omega
    have z0 : ∀ i, V.cell? ⟨w.heap.size, i, none⟩ = #[Value.int .i64 p, .slice (some ⟨b, off, none⟩) 60 c][i]? := fun i => Joins.cell_of_block HXV.out i
    have hlt0 := heap_lt HXV.out
    go_upto_region 14 with (at_builtin; refine appendE rfl _ _ rfl V.heap.size _ _ _ _ rfl hown es rfl hEV hlen hsz ?_; intro v' w4 hO hg4; rw [HL.out] at hO; obtain ⟨g, cap, tl, rfl, hgb, hcap, hgg⟩ := owns_form hO (by omega); have hb4 : Below V.heap.size V w4 := (grew (Below.refl V.heap.size V) (.cells #[] 26)).grown hg4 hsz (fun q hq => by have := (hown.lt q hq).1; omega); have HX4 : Aside (w4.heap[w.heap.size]? = some (boxU p (.slice (some ⟨b, off, none⟩) 60 c))) := heap_below HXV.out hb4 (heap_lt HXV.out); have HG4 : Aside (w4.heap[g]? = some (.cells (es.flatMap En.cells ++ tl).toArray 26)) := (show w4.heap[g]? = _ by simpa using hgg); clear hO hg4 hgg hown hEV z0; have z0 : ∀ i, w4.cell? ⟨w.heap.size, i, none⟩ = #[Value.int .i64 p, .slice (some ⟨b, off, none⟩) 60 c][i]? := fun i => Joins.cell_of_block HX4.out i; have f0 : ∀ i, w4.frozen? ⟨w.heap.size, i, none⟩ = false := fun i => Joins.unfrozen_of_block HX4.out i)
    have hgne : w.heap.size ≠ g := by omega
    have hgne1 : w.heap.size + 1 ≠ g := by have := heap_lt HYV.out; omega
    have hgne2 : w.heap.size + 1 + 1 ≠ g := by have := heap_lt HZV.out; omega
    have HX5 : Aside ((w4.setCell ⟨w.heap.size, 1, none⟩ (.slice (some ⟨g, 0, none⟩) 60 cap)).heap[w.heap.size]? = some (boxU p (.slice (some ⟨g, 0, none⟩) 60 cap))) := by rw [Aside, Joins.block_setCell HX4.out]; rfl
    have HY5 : Aside ((w4.setCell ⟨w.heap.size, 1, none⟩ (.slice (some ⟨g, 0, none⟩) 60 cap)).heap[w.heap.size + 1]? = some (boxRc ⟨1, (k : Int), 0, e⟩)) := (Below.heap_setCell _ _ _ _ (by show w.heap.size + 1 ≠ w.heap.size; omega)).trans (heap_below HYV.out hb4 (heap_lt HYV.out))
    have HZ5 : Aside ((w4.setCell ⟨w.heap.size, 1, none⟩ (.slice (some ⟨g, 0, none⟩) 60 cap)).heap[w.heap.size + 1 + 1]? = some (boxU 0 (.slice none 0 0))) := (Below.heap_setCell _ _ _ _ (by show w.heap.size + 1 + 1 ≠ w.heap.size; omega)).trans (heap_below HZV.out hb4 (heap_lt HZV.out))
    have HG5 : Aside ((w4.setCell ⟨w.heap.size, 1, none⟩ (.slice (some ⟨g, 0, none⟩) 60 cap)).heap[g]? = some (.cells (es.flatMap En.cells ++ tl).toArray 26)) := (Below.heap_setCell _ _ _ _ (by exact hgne.symm)).trans HG4.out
    have HB5 : Aside (Below w.heap.size w (w4.setCell ⟨w.heap.size, 1, none⟩ (.slice (some ⟨g, 0, none⟩) 60 cap))) := (HBV.out.trans (hb4.mono HBV.out.size)).setCell (p := ⟨w.heap.size, 1, none⟩) (Nat.le_refl _) _
    clear HX4 HG4 HXV HYV HZV HBV hb4 z0 f0 hsz hlen
    generalize w4.setCell ⟨w.heap.size, 1, none⟩ (.slice (some ⟨g, 0, none⟩) 60 cap) = V5 at *
    have hcl : ∀ o, o < 5 → ∃ v, V5.cell? ⟨g, k * 5 + o, none⟩ = some v := fun o ho => by
      rw [Joins.cell_of_block HG5.out]
      have hll : k * 5 + o < (es.flatMap En.cells ++ tl).length := by rw [List.length_append, row_len En.five, HL.out]; omega
      exact ⟨_, by rw [List.getElem?_toArray]; exact List.getElem?_eq_getElem hll⟩
    obtain ⟨q0, g0⟩ := hcl 0 (by omega)
    obtain ⟨q1, g1⟩ := hcl 1 (by omega)
    obtain ⟨q2, g2⟩ := hcl 2 (by omega)
    obtain ⟨q3, g3⟩ := hcl 3 (by omega)
    obtain ⟨q4, g4⟩ := hcl 4 (by omega)
    rw [Nat.add_zero] at g0
    have fg : ∀ i, V5.frozen? ⟨g, i, none⟩ = false := fun i => Joins.unfrozen_of_block HG5.out i
    have z0 : ∀ i, V5.cell? ⟨w.heap.size, i, none⟩ = #[Value.int .i64 p, .slice (some ⟨g, 0, none⟩) 60 cap][i]? := fun i => Joins.cell_of_block HX5.out i
    have z1 : ∀ i, V5.cell? ⟨w.heap.size + 1, i, none⟩ = #[Value.int .i64 1, .int .i64 (k : Int), .int .i64 0, .int .i64 e.k, .int .i64 e.j, .int .i64 e.v, .int .i64 e.t, .int .i64 e.c][i]? := fun i => Joins.cell_of_block HY5.out i
    clear hcl
    have HX6 : Aside _ := (other_fiveE (W := V5) hgne (k * 5) (.int .i64 e.k) (.int .i64 e.j) (.int .i64 e.v) (.int .i64 e.t) (.int .i64 e.c)).trans HX5.out
    have HZ6 : Aside _ := (other_fiveE (W := V5) hgne2 (k * 5) (.int .i64 e.k) (.int .i64 e.j) (.int .i64 e.v) (.int .i64 e.t) (.int .i64 e.c)).trans HZ5.out
    have HG6 : Aside _ := stored_five HG5.out (show k < es.length by have := HL.out; omega) e
    have HB6 : Aside (Below w.heap.size w _) := below_fiveE HB5.out (show w.heap.size ≤ g by omega) (k * 5) (.int .i64 e.k) (.int .i64 e.j) (.int .i64 e.v) (.int .i64 e.t) (.int .i64 e.c)
    go_upto_region 15 with fail
    clear z0 z1 g0 g1 g2 g3 g4 fg HX5 HY5 HZ5 HG5 HB5
    generalize ((((V5.setCell ⟨g, k * 5, none⟩ (.int .i64 e.k)).setCell ⟨g, k * 5 + 1, none⟩ (.int .i64 e.j)).setCell ⟨g, k * 5 + 2, none⟩ (.int .i64 e.v)).setCell ⟨g, k * 5 + 3, none⟩ (.int .i64 e.t)).setCell ⟨g, k * 5 + 4, none⟩ (.int .i64 e.c) = V6 at *
    have z0 : ∀ i, V6.cell? ⟨w.heap.size, i, none⟩ = #[Value.int .i64 p, .slice (some ⟨g, 0, none⟩) 60 cap][i]? := fun i => Joins.cell_of_block HX6.out i
    have z2 : ∀ i, V6.cell? ⟨w.heap.size + 1 + 1, i, none⟩ = #[Value.int .i64 0, .slice none 0 0][i]? := fun i => Joins.cell_of_block HZ6.out i
    have f2 : ∀ i, V6.frozen? ⟨w.heap.size + 1 + 1, i, none⟩ = false := fun i => Joins.unfrozen_of_block HZ6.out i
    go_wp2
    have hBB := below_two2 HB6.out (show w.heap.size ≤ w.heap.size + 1 + 1 by omega) (.int .i64 p) (.slice (some ⟨g, 0, none⟩) 60 cap)
    refine ret_unit (p := 4) (q := 5) Try.results8 rfl rfl rfl (unit_stored HZ6.out _ _) ⟨_, rfl, ⟨?_, ⟨_, _, _, rfl, hcap⟩⟩, hBB⟩
    have hG7 : ((V6.setCell ⟨w.heap.size + 1 + 1, 0, none⟩ (.int .i64 p)).setCell ⟨w.heap.size + 1 + 1, 1, none⟩ (.slice (some ⟨g, 0, none⟩) 60 cap)).heap[g]? = some (.cells ((es.set k e).flatMap En.cells ++ tl).toArray 26) := by
      rw [Below.heap_setCell _ _ _ _ (by exact hgne2.symm), Below.heap_setCell _ _ _ _ (by exact hgne2.symm)]
      exact HG6.out
    exact ents_front (by rw [List.length_set]; exact HL.out) hG7

/-- The reference's UnitNext. -/
theorem ref_next (v : Value) (u : Un) (r : Rc) (w : World) (h : UnitAt w v u) : AnsU 8 #[.agg #[.int .i64 u.p, v], r.val] w (unext u r) := by
  obtain ⟨p, es⟩ := u
  obtain ⟨hE, hR⟩ := h
  obtain ⟨a, n, c, rfl, hnc⟩ := hR
  have hE' : EntSl w (.slice a n c) es := hE
  have hln := SlOf.len (cs := En.cells) (k := 5) hE'
  show AnsU 8 #[.agg #[.int .i64 p, .slice a n c], r.val] w (unext ⟨p, es⟩ r)
  by_cases h1 : Un.ck ⟨p, es⟩ = 0
  · by_cases h2 : r.chk = 0
    · rw [unext, if_neg (by simpa using h1), if_neg (by simpa using h2), uwrite]
      by_cases hk : r.k = 2
      · have hkb : (r.k == 2) = true := by rw [hk]; rfl
        rw [if_pos hk]
        by_cases hp : r.p ≤ p
        · rw [if_pos (by exact hp)]
          exact next_old a n c p es r w hE' h1 h2 hkb hp
        · rw [if_neg (by exact hp)]
          exact next_seal a n c p es r w hE' hnc h1 h2 hkb (by omega)
      · rw [if_neg hk]
        obtain ⟨g1, g2, g3, g4⟩ := Rc.write h2 hk
        have hl := (Un.ck_zero.1 h1).2.1
        change es.length = 60 at hl
        obtain ⟨k, hk'⟩ : ∃ k : Nat, r.a = k := ⟨r.a.toNat, by omega⟩
        obtain ⟨rk, ra, rp, re⟩ := r
        change rk = 1 at g1
        change ra = (k : Int) at hk'
        change rp = 0 at g3
        subst g1 hk' g3
        have hkl : k < 60 := by have := g2.2; change (k : Int) ≤ 59 at this; omega
        obtain ⟨x, hx⟩ : ∃ x, es[k]? = some x := ⟨es[k]'(by omega), List.getElem?_eq_getElem _⟩
        have hg : es.getD k blankE = x := by rw [List.getD_eq_getElem?_getD, hx]; rfl
        obtain rfl : n = 60 := by omega
        show AnsU 8 _ w (if (es.getD ((k : Int).toNat) blankE).isB = false then (Un.zero, 6) else (⟨p, es.set ((k : Int).toNat) re⟩, 0))
        rw [Int.toNat_natCast, hg]
        cases hb : x.isB with
        | false =>
          rw [if_pos rfl]
          exact next_twice a c p es k re w hE' hl x hb h1 h2 hkl hx
        | true =>
          rw [if_neg (by simp)]
          exact next_write a c p es k re w hE' hl x hb h1 h2 hkl hx
    · rw [unext, if_neg (by simpa using h1), if_pos h2]
      exact next_badR a n c p es r w hE' r.chk h1 rfl (by rw [bne_iff_ne]; exact h2)
  · rw [unext, if_pos h1]
    exact next_badU a n c p es r w hE' (Un.ck ⟨p, es⟩) rfl (by rw [bne_iff_ne]; exact h1)

end Go.Proofs.Ytaialgacaomaead
