/- The walk of ChainAlong. -/
import Derived.Test.YtaialgacaomaeaeChainQ
import Derived.Test.YtaialgacaomaeaeChainM
import Derived.Test.YtaialgacaomaeaeChainH
import Derived.Test.YtaialgacaomaeaeLast
import Derived.Deep.CutRange
import Derived.Deep.RegionHeld3
namespace Go.Proofs.Ytaialgacaomaeae
open Go.RowKit
open scoped Classical

theorem at_place (k : Int) (w : World) :
    Calls Try.prog 4 #[.int .i64 k, .int .i64 60] w fun e w' => ∃ m : Nat, m < 60 ∧ e = .returned (.int .i64 m) ∧ w' = w := by
  have hb := Int.tmod_lt_of_pos k (show (0 : Int) < 60 by omega)
  have hb' : -60 < k.tmod 60 := Int.lt_tmod_of_pos k (by omega)
  go_enter Try.func4, Try.ntmps4
  go_wp2
  · go_ret
    refine ⟨(k.tmod 60 + 60).toNat, by omega, ?_, rfl⟩
    show Ending.returned (Value.int .i64 (k.tmod 60 + 60)) = _
    rw [show (((k.tmod 60 + 60).toNat : Nat) : Int) = k.tmod 60 + 60 by omega]
  · go_ret
    refine ⟨(k.tmod 60).toNat, by omega, ?_, rfl⟩
    show Ending.returned (Value.int .i64 (k.tmod 60)) = _
    rw [show (((k.tmod 60).toNat : Nat) : Int) = k.tmod 60 by omega]

/-- What region 9 reads: the unit's epoch, x. -/
abbrev S9 (X W : World) (g k : Nat) (p : Int) (xb : Nat) (y : En) : Prop := Below X.heap.size X W ∧ W.cell? ⟨g, k * 2, none⟩ = some (.int .i64 p) ∧ C5 W xb y
structure S9B (X : World) (g k : Nat) (p : Int) (xb : Nat) (y : En) : Prop where
  c0 : X.cell? ⟨g, k * 2, none⟩ = some (.int .i64 p)
  x : C5 X xb y
theorem s9_of {X W : World} {g k : Nat} {p : Int} {xb : Nat} {y : En} (h : S9B X g k p xb y) (hb : Below X.heap.size X W) : S9 X W g k p xb y :=
  ⟨hb, cell_later hb h.c0, cell_later hb h.x.1, cell_later hb h.x.2.1, cell_later hb h.x.2.2.1, cell_later hb h.x.2.2.2.1, cell_later hb h.x.2.2.2.2⟩
theorem s9_set {X W : World} {g k : Nat} {p : Int} {xb : Nat} {y : En} (h : S9 X W g k p xb y) {b : Nat} (hX : X.heap.size ≤ b) (hg : g ≠ b) (hx : xb ≠ b) (i : Nat) (v : Value) : S9 X (W.setCell ⟨b, i, none⟩ v) g k p xb y :=
  ⟨h.1.setCell (p := ⟨b, i, none⟩) hX _, (c5_far hg _ _ _).trans h.2.1, c5_set h.2.2 hx _ _⟩
theorem s9_eight {X W : World} {g k : Nat} {p : Int} {xb : Nat} {y : En} (h : S9 X W g k p xb y) {b : Nat} (hX : X.heap.size ≤ b) (hg : g ≠ b) (hx : xb ≠ b) (v0 v1 v2 v3 v4 v5 v6 v7 : Value) :
    S9 X ((((((((W.setCell ⟨b, 0, none⟩ v0).setCell ⟨b, 1, none⟩ v1).setCell ⟨b, 2, none⟩ v2).setCell ⟨b, 3, none⟩ v3).setCell ⟨b, 4, none⟩ v4).setCell ⟨b, 5, none⟩ v5).setCell ⟨b, 6, none⟩ v6).setCell ⟨b, 7, none⟩ v7) g k p xb y :=
  s9_set (s9_set (s9_set (s9_set (s9_set (s9_set (s9_set (s9_set h hX hg hx _ _) hX hg hx _ _) hX hg hx _ _) hX hg hx _ _) hX hg hx _ _) hX hg hx _ _) hX hg hx _ _) hX hg hx _ _
theorem s9_five {X W : World} {g k : Nat} {p : Int} {xb : Nat} {y : En} (h : S9 X W g k p xb y) {b : Nat} (hX : X.heap.size ≤ b) (hg : g ≠ b) (hx : xb ≠ b) (v0 v1 v2 v3 v4 : Value) :
    S9 X (((((W.setCell ⟨b, 0, none⟩ v0).setCell ⟨b, 1, none⟩ v1).setCell ⟨b, 2, none⟩ v2).setCell ⟨b, 3, none⟩ v3).setCell ⟨b, 4, none⟩ v4) g k p xb y :=
  s9_set (s9_set (s9_set (s9_set (s9_set h hX hg hx _ _) hX hg hx _ _) hX hg hx _ _) hX hg hx _ _) hX hg hx _ _

/-- A block stays where another one is written. -/
theorem keep1 {W : World} {b g : Nat} (hne : g ≠ b) (i : Nat) (v : Value) : (W.setCell ⟨b, i, none⟩ v).heap[g]? = W.heap[g]? := Below.heap_setCell _ _ _ _ (by show g ≠ b; exact hne)
theorem keep5 {W : World} {b g : Nat} (hne : g ≠ b) (v0 v1 v2 v3 v4 : Value) : (((((W.setCell ⟨b, 0, none⟩ v0).setCell ⟨b, 1, none⟩ v1).setCell ⟨b, 2, none⟩ v2).setCell ⟨b, 3, none⟩ v3).setCell ⟨b, 4, none⟩ v4).heap[g]? = W.heap[g]? := by
  rw [keep1 hne, keep1 hne, keep1 hne, keep1 hne, keep1 hne]

/-- r, s are stored. -/
theorem lk_rec {V : World} {rb sb : Nat} {o : Obj} {r : Rc} (hR : V.heap[rb]? = some (boxRc Rc.zero)) (hT : V.heap[sb]? = some o) (hne : rb ≠ sb) :
    ((((((((V.setCell ⟨rb, 0, none⟩ (.int .i64 r.k)).setCell ⟨rb, 1, none⟩ (.int .i64 r.a)).setCell ⟨rb, 2, none⟩ (.int .i64 r.p)).setCell ⟨rb, 3, none⟩ (.int .i64 r.e.k)).setCell ⟨rb, 4, none⟩ (.int .i64 r.e.j)).setCell ⟨rb, 5, none⟩ (.int .i64 r.e.v)).setCell ⟨rb, 6, none⟩ (.int .i64 r.e.t)).setCell ⟨rb, 7, none⟩ (.int .i64 r.e.c)).heap[rb]? = some (boxRc r) ∧ ((((((((V.setCell ⟨rb, 0, none⟩ (.int .i64 r.k)).setCell ⟨rb, 1, none⟩ (.int .i64 r.a)).setCell ⟨rb, 2, none⟩ (.int .i64 r.p)).setCell ⟨rb, 3, none⟩ (.int .i64 r.e.k)).setCell ⟨rb, 4, none⟩ (.int .i64 r.e.j)).setCell ⟨rb, 5, none⟩ (.int .i64 r.e.v)).setCell ⟨rb, 6, none⟩ (.int .i64 r.e.t)).setCell ⟨rb, 7, none⟩ (.int .i64 r.e.c)).heap[sb]? = some o := by
  refine ⟨eight_stores hR r, ?_⟩
  rw [keep1 hne.symm, keep1 hne.symm, keep1 hne.symm, keep1 hne.symm, keep1 hne.symm, keep1 hne.symm, keep1 hne.symm, keep1 hne.symm]
  exact hT
theorem lk_ent {V : World} {rb sb : Nat} {o : Obj} {s : En} (hR : V.heap[rb]? = some o) (hT : V.heap[sb]? = some (boxE 0 0 0 0 0)) (hne : rb ≠ sb) :
    (((((V.setCell ⟨sb, 0, none⟩ (.int .i64 s.k)).setCell ⟨sb, 1, none⟩ (.int .i64 s.j)).setCell ⟨sb, 2, none⟩ (.int .i64 s.v)).setCell ⟨sb, 3, none⟩ (.int .i64 s.t)).setCell ⟨sb, 4, none⟩ (.int .i64 s.c)).heap[rb]? = some o ∧ (((((V.setCell ⟨sb, 0, none⟩ (.int .i64 s.k)).setCell ⟨sb, 1, none⟩ (.int .i64 s.j)).setCell ⟨sb, 2, none⟩ (.int .i64 s.v)).setCell ⟨sb, 3, none⟩ (.int .i64 s.t)).setCell ⟨sb, 4, none⟩ (.int .i64 s.c)).heap[sb]? = some (boxE s.k s.j s.v s.t s.c) :=
  ⟨by rw [keep5 hne]; exact hR, five_box (f := ⟨0, 0, 0, 0, 0⟩) hT s⟩

/-- What region 9 leaves: the record, the entry, each in its box. -/
structure LkAt (X W : World) (rb sb : Nat) (r : Rc) (s : En) : Prop where
  rn : X.heap.size ≤ rb
  sn : X.heap.size ≤ sb
  rbox : W.heap[rb]? = some (boxRc r)
  sbox : W.heap[sb]? = some (boxE s.k s.j s.v s.t s.c)
  below : Below X.heap.size X W

/-- What stands where ChainAlong's loop turns. -/
structure AgAt (w B wr : World) (xb fb g cap : Nat) (us : List Un) (f : En) (aa k : Nat) (ys : List Ub) (tl : List Value) (y : En) : Prop where
  row : Row3 B wr g cap ys tl
  far : ∀ z, z ∈ ys → ∀ q, z.v.ownBlock = some q → q ≠ g ∧ q ≠ xb
  along : Along us (unitsOf ys) aa k y
  xbox : wr.heap[xb]? = some (boxE y.k y.j y.v y.t y.c)
  fbox : wr.heap[fb]? = some (boxE f.k f.j f.v f.t f.c)
  below : Below w.heap.size w wr
  ord : w.heap.size ≤ xb ∧ xb < fb ∧ fb < g

theorem AgAt.later {w B W W' : World} {xb fb g cap : Nat} {us : List Un} {f : En} {aa k : Nat} {ys : List Ub} {tl : List Value} {y : En} (h : AgAt w B W xb fb g cap us f aa k ys tl y) (hb : Below W.heap.size W W') : AgAt w B W' xb fb g cap us f aa k ys tl y :=
  ⟨h.row.later hb, h.far, h.along, heap_below h.xbox hb (heap_lt h.xbox), heap_below h.fbox hb (heap_lt h.fbox), step_below1 h.below hb, h.ord⟩

/-- A unit's places stay where five cells of another block are written. -/
theorem unit_keep5 {W : World} {v : Value} {u : Un} (h : UnitAt W v u) {b : Nat} (hg : ∀ q, v.ownBlock = some q → q ≠ b) (v0 v1 v2 v3 v4 : Value) : UnitAt (((((W.setCell ⟨b, 0, none⟩ v0).setCell ⟨b, 1, none⟩ v1).setCell ⟨b, 2, none⟩ v2).setCell ⟨b, 3, none⟩ v3).setCell ⟨b, 4, none⟩ v4) v u :=
  unit_keep (unit_keep (unit_keep (unit_keep (unit_keep h hg _ _) hg _ _) hg _ _) hg _ _) hg _ _

/-- x = s. -/
theorem AgAt.put {w B W : World} {xb fb g cap : Nat} {us : List Un} {f : En} {aa k k' : Nat} {ys : List Ub} {tl : List Value} {y s : En} (h : AgAt w B W xb fb g cap us f aa k ys tl y) (hal : Along us (unitsOf ys) aa k' s) :
    AgAt w B (((((W.setCell ⟨xb, 0, none⟩ (.int .i64 s.k)).setCell ⟨xb, 1, none⟩ (.int .i64 s.j)).setCell ⟨xb, 2, none⟩ (.int .i64 s.v)).setCell ⟨xb, 3, none⟩ (.int .i64 s.t)).setCell ⟨xb, 4, none⟩ (.int .i64 s.c)) xb fb g cap us f aa k' ys tl s := by
  obtain ⟨o1, o2, o3⟩ := h.ord
  refine ⟨⟨?_, h.row.base, h.row.room, h.row.len, fun z hz => unit_keep5 (h.row.each z hz) (fun q hq => (h.far z hz q hq).2) _ _ _ _ _⟩, h.far, hal, five_box h.xbox s, ?_, five_below h.below o1 _ _ _ _ _, h.ord⟩
  · rw [keep5 (by omega)]; exact h.row.blk
  · rw [keep5 (by omega)]; exact h.fbox

/-- m[k] = u. -/
theorem AgAt.write {w B W : World} {xb fb g cap : Nat} {us : List Un} {f : En} {aa k : Nat} {ys : List Ub} {tl : List Value} {y : En} (h : AgAt w B W xb fb g cap us f aa k ys tl y) (hk : k < 3) (q : Ub) (hq : UnitAt W q.v q.u) (hfq : ∀ b, q.v.ownBlock = some b → b ≠ g ∧ b ≠ xb) :
    Row3 B ((W.setCell ⟨g, k * 2, none⟩ (.int .i64 q.u.p)).setCell ⟨g, k * 2 + 1, none⟩ q.v) g cap (ys.set k q) tl ∧ (∀ z, z ∈ ys.set k q → ∀ b, z.v.ownBlock = some b → b ≠ g ∧ b ≠ xb) := by
  refine ⟨h.row.set hk q hq (fun b hb => (hfq b hb).1) (fun x hx b hb => (h.far x hx b hb).1), fun z hz b hb => ?_⟩
  rcases List.mem_or_eq_of_mem_set hz with hz | rfl
  · exact h.far z hz b hb
  · exact hfq b hb

/-- The end of a round where an entry was written: m[k] = u; x = s. -/
theorem AgAt.wrote {w B W : World} {xb fb g cap : Nat} {us : List Un} {f : En} {aa k : Nat} {ys : List Ub} {tl : List Value} {y : En} (h : AgAt w B W xb fb g cap us f aa k ys tl y) (hk : k < 3) (q : Ub) (hq : UnitAt W q.v q.u) (hfq : ∀ b, q.v.ownBlock = some b → b ≠ g ∧ b ≠ xb) (hal : Along us ((unitsOf ys).set k q.u) aa (k + 1) y) :
    AgAt w B ((W.setCell ⟨g, k * 2, none⟩ (.int .i64 q.u.p)).setCell ⟨g, k * 2 + 1, none⟩ q.v) xb fb g cap us f aa (k + 1) (ys.set k q) tl y := by
  obtain ⟨o1, o2, o3⟩ := h.ord
  obtain ⟨g1, g2⟩ := h.write hk q hq hfq
  refine ⟨g1, g2, by rw [unitsOf, List.map_set]; exact hal, ?_, ?_, (h.below.setCell (p := ⟨g, k * 2, none⟩) (by show w.heap.size ≤ g; omega) _).setCell (p := ⟨g, k * 2 + 1, none⟩) (by show w.heap.size ≤ g; omega) _, h.ord⟩
  · rw [keep1 (by omega), keep1 (by omega)]; exact h.xbox
  · rw [keep1 (by omega), keep1 (by omega)]; exact h.fbox

/-- What region 13 reads: the unit, the record. -/
abbrev S13 (X W : World) (g k : Nat) (p : Int) (s : Value) (rb aa : Nat) (x : En) : Prop :=
  Below X.heap.size X W ∧ (W.cell? ⟨g, k * 2, none⟩ = some (.int .i64 p) ∧ W.cell? ⟨g, k * 2 + 1, none⟩ = some s) ∧ (∀ i, W.cell? ⟨rb, i, none⟩ = #[Value.int .i64 1, .int .i64 (aa : Int), .int .i64 0, .int .i64 x.k, .int .i64 x.j, .int .i64 x.v, .int .i64 x.t, .int .i64 x.c][i]?)
structure S13B (X : World) (g k : Nat) (p : Int) (s : Value) (rb aa : Nat) (x : En) : Prop where
  c0 : X.cell? ⟨g, k * 2, none⟩ = some (.int .i64 p)
  c1 : X.cell? ⟨g, k * 2 + 1, none⟩ = some s
  r : X.heap[rb]? = some (.cells #[Value.int .i64 1, .int .i64 (aa : Int), .int .i64 0, .int .i64 x.k, .int .i64 x.j, .int .i64 x.v, .int .i64 x.t, .int .i64 x.c] 34)
theorem s13_of {X W : World} {g k : Nat} {p : Int} {s : Value} {rb aa : Nat} {x : En} (h : S13B X g k p s rb aa x) (hb : Below X.heap.size X W) : S13 X W g k p s rb aa x :=
  ⟨hb, ⟨cell_later hb h.c0, cell_later hb h.c1⟩, fun i => Joins.cell_of_block (heap_below h.r hb (heap_lt h.r)) i⟩

theorem chain_cks {us : List Un} (h : ckChain us = 0) {u : Un} (hu : u ∈ us) : u.ck = 0 := by
  obtain ⟨u0, u1, u2, rfl, c0, c1, c2, _, _⟩ := ckChain_zero.1 h
  simp only [List.mem_cons, List.not_mem_nil, or_false] at hu
  rcases hu with rfl | rfl | rfl <;> assumption

theorem fits_of {ys : List Ub} (h : ckChain (unitsOf ys) = 0) : Fits ys := by
  have hl := ckChain_len h
  rw [List.length_map] at hl
  refine ⟨by rw [hl]; decide, fun z hz => ?_⟩
  rw [(Un.ck_zero.1 (chain_cks h (List.mem_map_of_mem hz))).2.1]
  decide

set_option linter.unusedSimpArgs false in
set_option maxHeartbeats 16000000 in
set_option maxRecDepth 100000 in
theorem along_good (hC : Chains) (hN : UnitN) (b off c : Nat) (xs : List Ub) (pl : Int) (x : En) (w : World) (h : ChAt w (.slice (some ⟨b, off, none⟩) 3 c) xs) (hck : ckChain (unitsOf xs) = 0) :
    Calls Try.prog 3 #[.slice (some ⟨b, off, none⟩) 3 c, .int .i64 pl, x.val] w fun e w' => e = .returned (.bool true) ∧ Below w.heap.size w w' := by
  have HC : Aside Chains := hC
  have HN : Aside UnitN := hN
  have k5 := fun W => linked_any hC hN W
  have hF := fits_of hck
  have k6 := fun W (hb : Below w.heap.size w W) => clone3 b off c xs W (h.later hb)
  have k7 := fun W (hb : Below w.heap.size w W) => hC.check _ xs W (h.later hb) hF
  rw [hck] at k7
  obtain ⟨z0, hz0⟩ : ∃ z0, xs[0]? = some z0 := ⟨xs[0]'(by have := h.rows.len; omega), List.getElem?_eq_getElem _⟩
  obtain ⟨u0, v0⟩ := z0
  have hu0 := h.each ⟨u0, v0⟩ (List.mem_of_getElem? hz0)
  have hc0 : u0.ck = 0 := chain_cks hck (List.mem_map_of_mem (List.mem_of_getElem? hz0) (f := Ub.u))
  have hl0 : u0.cells.length = 60 := (Un.ck_zero.1 hc0).2.1
  obtain ⟨a0, n0, c0, e0, _⟩ := id hu0.room
  dsimp only at e0
  subst e0
  have hn0 : u0.cells.length = n0 := SlOf.len (cs := En.cells) (k := 5) hu0.ents
  obtain rfl : n0 = 60 := by omega
  obtain ⟨b0, off0, ea0, hE0⟩ := SlOf.at (cs := En.cells) (k := 5) hu0.ents (by omega)
  subst ea0
  obtain ⟨b1, off1, eb1, hrow⟩ := h.rows.at (by omega)
  injection eb1 with eb1
  injection eb1 with eb2 eb3 _
  subst eb2 eb3
  have r1 : ∀ W, Below w.heap.size w W → W.cell? ⟨b, off + 1, none⟩ = some (.slice (some ⟨b0, off0, none⟩) 60 c0) := fun W hb => cell_later hb (by have := hrow 0 _ hz0 1 _ rfl; rwa [Nat.zero_mul, Nat.add_zero] at this)
  have HE0 : Aside (∀ W, Below w.heap.size w W → RowAt En.cells 5 W b0 off0 u0.cells) := fun W hb => hE0.later hb
  have HP0 : Hid (∀ aa, aa < 60 → u0.cells[aa]? = some (plc (unitsOf xs) 0 aa)) := fun aa haa => plc_some (by rw [List.getElem?_map, hz0]; rfl) hc0 haa
  have HFR : Aside (∀ z, z ∈ xs → ∀ q, z.v.ownBlock = some q → q < w.heap.size) := fun z hz q hq => unit_lt (h.each z hz) (by exact (Un.ck_zero.1 (chain_cks hck (List.mem_map_of_mem hz))).2.1) hq
  have HCK : Hid (ckChain (unitsOf xs) = 0) := hck
  have hB0 := grew (Below.refl w.heap.size w) (boxE x.k x.j x.v x.t x.c)
  have HX0 : Aside _ := heap_new w (boxE x.k x.j x.v x.t x.c)
  have HB0 : Aside _ := hB0
  clear hC hN h hck hz0 hu0 hc0 hl0 hE0 hrow hF hB0
  go_enter Try.func3, Try.ntmps3
  go_wp2_with fail
  refine (at_place pl _).mono ?_
  rintro e w0 ⟨aa, haa, rfl, rfl⟩
  have hai : (aa : Int) < 60 := by omega
  have ha0 : (0 : Int) ≤ (aa : Int) := by omega
  go_wp2_with fail
  refine (k5 _).mono ?_
  rintro e w1 ⟨rfl, hb1⟩
  have hB1 := step_below1 HB0.out hb1
  have HX1 : Aside _ := heap_below HX0.out hb1 (heap_lt HX0.out)
  have k7' := k7 _ hB1
  have HB1 : Aside _ := hB1
  clear hb1 hB1 HX0 HB0 k5 k7
  go_wp2_with fail
  refine k7'.mono ?_
  rintro e w2 ⟨rfl, hb2⟩
  have hB2 := step_below1 HB1.out hb2
  have HX2 : Aside _ := heap_below HX1.out hb2 (heap_lt HX1.out)
  have r1' := r1 _ hB2
  obtain ⟨f, hfe⟩ : ∃ f, plc (unitsOf xs) 0 aa = f := ⟨_, rfl⟩
  have hfc := HP0.out aa haa
  rw [hfe] at hfc
  have HFE : Hid (plc (unitsOf xs) 0 aa = f) := hfe
  have hEw := HE0.out _ hB2
  have d0 := hEw aa f hfc 0 _ rfl
  have d1 := hEw aa f hfc 1 _ rfl
  have d2 := hEw aa f hfc 2 _ rfl
  have d3 := hEw aa f hfc 3 _ rfl
  have d4 := hEw aa f hfc 4 _ rfl
  rw [Nat.add_zero] at d0
  have HB2 : Aside _ := hB2
  clear hb2 hB2 HX1 HB1 k7' r1 hfc hfe hEw HE0 HP0
  have hB3 := grew HB2.out (boxE f.k f.j f.v f.t f.c)
  have HX3 : Aside _ := heap_old HX2.out (boxE f.k f.j f.v f.t f.c)
  have HF3 : Aside _ := heap_new w2 (boxE f.k f.j f.v f.t f.c)
  have hxf : w.heap.size < w2.heap.size := heap_lt HX2.out
  have k6' := k6 _ hB3
  have HB3 : Aside _ := hB3
  clear hB3 k6
  go_upto_region 5 with fail
  clear r1' d0 d1 d2 d3 d4 HX2 HB2
  have hfb : w2.heap.size < (w2.alloc (boxE f.k f.j f.v f.t f.c)).heap.size := heap_lt HF3.out
  generalize w2.alloc (boxE f.k f.j f.v f.t f.c) = B at *
  generalize w2.heap.size = fb at *
  go_wp2_with fail
  refine k6'.mono ?_
  rintro e w3 ⟨g, cap, tl0, rfl, hrow, hb3⟩
  have hgB := hrow.base
  have hB4 := step_below1 HB3.out hb3
  have hfar : ∀ z, z ∈ xs → ∀ q, z.v.ownBlock = some q → q ≠ g ∧ q ≠ w.heap.size := fun z hz q hq => by
    have := HFR.out z hz q hq
    have := HB3.out.size
    omega
  have HA : Aside (AgAt w B w3 w.heap.size fb g cap (unitsOf xs) f aa 0 xs tl0 x) := ⟨hrow, hfar, along_zero HCK.out aa x, heap_below HX3.out hb3 (heap_lt HX3.out), heap_below HF3.out hb3 (heap_lt HF3.out), hB4, ⟨Nat.le_refl _, hxf, by omega⟩⟩
  clear hrow hb3 hB4 hfar hgB HX3 HF3 HB3 hxf hfb k6' HFR
  generalize w.heap.size = xb at *
  go_wp2
  go_loopw [36] (fun i wr => ∃ k : Nat, k ≤ 3 ∧ i = .int .i64 k ∧ ∃ ys tl y, AgAt w B wr xb fb g cap (unitsOf xs) f aa k ys tl y) (fun i _ => 3 - (intOf i).toNat)
  case atStart => exact ⟨0, Nat.zero_le _, rfl, _, _, _, HA.out⟩
  case round =>
    clear HA
    obtain ⟨k, hk, rfl, ys, tl, y, hA⟩ := hrel
    by_cases hlt : k < 3
    · obtain ⟨z, hz⟩ : ∃ z, ys[k]? = some z := ⟨ys[k]'(by have := hA.row.len; omega), List.getElem?_eq_getElem _⟩
      obtain ⟨u, v⟩ := z
      have hzm := List.mem_of_getElem? hz
      have huz := hA.row.each ⟨u, v⟩ hzm
      obtain ⟨aq, nq, cq, e, _⟩ := id huz.room
      dsimp only at e
      subst e
      have hu : (unitsOf ys)[k]? = some u := by rw [List.getElem?_map, hz]; rfl
      have hcm := hA.row.ch
      obtain ⟨g', o', eg, hrw⟩ := hcm.rows.at (by omega)
      injection eg with eg
      injection eg with eg1 eg2 _
      subst eg1 eg2
      have r0 : wr.cell? ⟨g, k * 2, none⟩ = some (.int .i64 u.p) := by have := hrw k _ hz 0 _ rfl; rwa [Nat.zero_add, Nat.add_zero] at this
      have r1 : wr.cell? ⟨g, k * 2 + 1, none⟩ = some (.slice aq nq cq) := by have := hrw k _ hz 1 _ rfl; rwa [Nat.zero_add] at this
      have h9 : S9B wr g k u.p xb y := ⟨r0, c5_of hA.xbox⟩
      have hfy := fits_of hA.along.ck
      have kl := fun W (hb : Below wr.heap.size wr W) => HC.out.link (.slice (some ⟨g, 0, none⟩) 3 cap) ys (k : Int) (aa : Int) u.p y W (hA.row.later hb).ch hfy
      have kn := fun W (hb : Below wr.heap.size wr W) => HN.out.next (.slice aq nq cq) u ⟨1, (aa : Int), 0, y⟩ W (huz.later hb) (by exact hfy.2 _ hzm)
      have hstep := fun r s => along_step (r := r) (s := s) hA.along hlt haa hu
      have hok := fun h0 => along_ok hA.along hlt haa hu h0
      obtain ⟨⟨r, s, e⟩, hq⟩ : ∃ q, linkOf (unitsOf ys) (k : Int) (aa : Int) y u.p = q := ⟨_, rfl⟩
      rw [hq] at kl hok
      replace hstep := hstep r s
      rw [hq] at hstep
      have HST : Hid (e = 0 → _) := fun he => hstep (by rw [he])
      have HE : Hid (e ≠ 0 → k = 0) := fun he => Classical.byContradiction fun hn => he (hok (by omega))
      replace kl : ∀ W, Below wr.heap.size wr W → Calls Try.prog 8 #[(.slice (some ⟨g, 0, none⟩) 3 cap), .int .i64 (k : Int), .int .i64 (aa : Int), y.val, .int .i64 u.p] W fun er w' => er = .returned (.tuple #[r.val, s.val, .int .i64 e]) ∧ Below W.heap.size W w' := kl
      have HA : Aside (AgAt w B wr xb fb g cap (unitsOf xs) f aa k ys tl y) := hA
      have HK : Aside _ := kn
      have HR0 : Aside (wr.cell? ⟨g, k * 2, none⟩ = some (.int .i64 u.p)) := r0
      have HR1 : Aside (wr.cell? ⟨g, k * 2 + 1, none⟩ = some (.slice aq nq cq)) := r1
      have hki : (k : Int) < 3 := by omega
      have hk0 : (0 : Int) ≤ (k : Int) := by omega
      have hgl := heap_lt hA.row.blk
      have hxg : xb < g := by have := hA.ord; omega
      have HZM : Aside ((⟨u, .slice aq nq cq⟩ : Ub) ∈ ys) := hzm
      clear hz huz hu hcm hrw r0 r1 hfy kn hstep hok hq hA hzm
      go_upto_region 9 with fail
      go_cut [10, 11, 12] from 37 to 75 (fun s10 s11 s12 wx => ∃ rb sb : Nat, s10 = .pointer (some ⟨rb, 0, none⟩) ∧ s11 = .pointer (some ⟨sb, 0, none⟩) ∧ s12 = .int .i64 e ∧ LkAt wr wx rb sb r s)
      case first =>
        refine wp_region_held_drew (S := fun W' => S9 wr W' g k u.p xb y) (by kernel_rfl) (s9_of h9 (Below.refl _ wr).drew) (fun hHeld => ?_)
        refine wpAnyH_take (i := 0) (oi := ?oi0) (v := ?v0) ?hi0 ?hs0 ?hf0 ?hr0 ?hQ0 (Or.inl ⟨?hw0, ?hy0⟩) (by assumption) ?h0
        case hi0 => (simp only [List.getElem?_toArray, List.getElem?_cons_succ, List.getElem?_cons_zero]; rfl)
        case hs0 => kernel_rfl
        case hf0 => kernel_rfl
        case hr0 => kernel_rfl
        case hw0 => rfl
        case hy0 => (intro w0 hSw; (try dsimp only at hSw); go_simp; first | done | with_reducible rfl)
        case hQ0 => exact fun _ _ _ h => h
        try simp only [Act.put, List.setIfInBounds_toArray, List.set_cons_zero, List.set_cons_succ]
        refine wpAnyH_take (i := 1) (oi := ?oi1) (v := ?v1) ?hi1 ?hs1 ?hf1 ?hr1 ?hQ1 (Or.inl ⟨?hw1, ?hy1⟩) (by assumption) ?h1
        case hi1 => (simp only [List.getElem?_toArray, List.getElem?_cons_succ, List.getElem?_cons_zero]; rfl)
        case hs1 => kernel_rfl
        case hf1 => kernel_rfl
        case hr1 => kernel_rfl
        case hw1 => rfl
        case hy1 => (intro w0 hSw; (try dsimp only at hSw); go_simp; first | done | with_reducible rfl)
        case hQ1 => exact fun _ _ _ h => h
        try simp only [Act.put, List.setIfInBounds_toArray, List.set_cons_zero, List.set_cons_succ]
        refine wpAnyH_take (i := 2) (oi := ?oi2) (v := ?v2) ?hi2 ?hs2 ?hf2 ?hr2 ?hQ2 (Or.inl ⟨?hw2, ?hy2⟩) (by assumption) ?h2
        case hi2 => (simp only [List.getElem?_toArray, List.getElem?_cons_succ, List.getElem?_cons_zero]; rfl)
        case hs2 => kernel_rfl
        case hf2 => kernel_rfl
        case hr2 => kernel_rfl
        case hw2 => rfl
        case hy2 => (intro w0 hSw; (try dsimp only at hSw); go_simp; first | done | with_reducible rfl)
        case hQ2 => exact fun _ _ _ h => h
        try simp only [Act.put, List.setIfInBounds_toArray, List.set_cons_zero, List.set_cons_succ]
        refine wpAnyH_take (i := 3) (oi := ?oi3) (v := ?v3) ?hi3 ?hs3 ?hf3 ?hr3 ?hQ3 (Or.inl ⟨?hw3, ?hy3⟩) (by assumption) ?h3
        case hi3 => (simp only [List.getElem?_toArray, List.getElem?_cons_succ, List.getElem?_cons_zero]; rfl)
        case hs3 => kernel_rfl
        case hf3 => kernel_rfl
        case hr3 => kernel_rfl
        case hw3 => rfl
        case hy3 => (intro w0 hSw; (try dsimp only at hSw); go_simp; first | done | with_reducible rfl)
        case hQ3 => exact fun _ _ _ h => h
        try simp only [Act.put, List.setIfInBounds_toArray, List.set_cons_zero, List.set_cons_succ]
        refine wpAnyH_take (i := 4) (oi := ?oi4) (v := ?v4) ?hi4 ?hs4 ?hf4 ?hr4 ?hQ4 (Or.inl ⟨?hw4, ?hy4⟩) (by assumption) ?h4
        case hi4 => (simp only [List.getElem?_toArray, List.getElem?_cons_succ, List.getElem?_cons_zero]; rfl)
        case hs4 => kernel_rfl
        case hf4 => kernel_rfl
        case hr4 => kernel_rfl
        case hw4 => rfl
        case hy4 => (intro w0 hSw; (try dsimp only at hSw); go_simp; first | done | with_reducible rfl)
        case hQ4 => exact fun _ _ _ h => h
        try simp only [Act.put, List.setIfInBounds_toArray, List.set_cons_zero, List.set_cons_succ]
        refine wpAnyH_take (i := 5) (oi := ?oi5) (v := ?v5) ?hi5 ?hs5 ?hf5 ?hr5 ?hQ5 (Or.inl ⟨?hw5, ?hy5⟩) (by assumption) ?h5
        case hi5 => (simp only [List.getElem?_toArray, List.getElem?_cons_succ, List.getElem?_cons_zero]; rfl)
        case hs5 => kernel_rfl
        case hf5 => kernel_rfl
        case hr5 => kernel_rfl
        case hw5 => rfl
        case hy5 => (intro w0 hSw; (try dsimp only at hSw); go_simp; first | done | with_reducible rfl)
        case hQ5 => exact fun _ _ _ h => h
        try simp only [Act.put, List.setIfInBounds_toArray, List.set_cons_zero, List.set_cons_succ]
        refine wpAnyH_take (i := 6) (oi := ?oi6) (v := ?v6) ?hi6 ?hs6 ?hf6 ?hr6 ?hQ6 (Or.inl ⟨?hw6, ?hy6⟩) (by assumption) ?h6
        case hi6 => (simp only [List.getElem?_toArray, List.getElem?_cons_succ, List.getElem?_cons_zero]; rfl)
        case hs6 => kernel_rfl
        case hf6 => kernel_rfl
        case hr6 => kernel_rfl
        case hw6 => rfl
        case hy6 => (intro w0 hSw; (try dsimp only at hSw); go_simp; first | done | with_reducible rfl)
        case hQ6 => exact fun _ _ _ h => h
        try simp only [Act.put, List.setIfInBounds_toArray, List.set_cons_zero, List.set_cons_succ]
        refine wpAnyH_take (i := 7) (oi := ?oi7) (v := ?v7) ?hi7 ?hs7 ?hf7 ?hr7 ?hQ7 (Or.inl ⟨?hw7, ?hy7⟩) (by assumption) ?h7
        case hi7 => (simp only [List.getElem?_toArray, List.getElem?_cons_succ, List.getElem?_cons_zero]; rfl)
        case hs7 => kernel_rfl
        case hf7 => kernel_rfl
        case hr7 => kernel_rfl
        case hw7 => rfl
        case hy7 => (intro w0 hSw; (try dsimp only at hSw); go_simp; first | done | with_reducible rfl)
        case hQ7 => exact fun _ _ _ h => h
        try simp only [Act.put, List.setIfInBounds_toArray, List.set_cons_zero, List.set_cons_succ]
        refine wpAnyH_take (i := 8) (oi := ?oi8) (v := ?v8) ?hi8 ?hs8 ?hf8 ?hr8 ?hQ8 (Or.inl ⟨?hw8, ?hy8⟩) (by assumption) ?h8
        case hi8 => (simp only [List.getElem?_toArray, List.getElem?_cons_succ, List.getElem?_cons_zero]; rfl)
        case hs8 => kernel_rfl
        case hf8 => kernel_rfl
        case hr8 => kernel_rfl
        case hw8 => rfl
        case hy8 => (intro w0 hSw; (try dsimp only at hSw); go_simp; first | done | with_reducible rfl)
        case hQ8 => exact fun _ _ _ h => h
        try simp only [Act.put, List.setIfInBounds_toArray, List.set_cons_zero, List.set_cons_succ]
        refine wpAnyH_ready (rs := [9, 14, 15]) (by kernel_rfl) (by simp) ?_
        refine AllReadyH.cons (o := ?o9o) ?hi9o ?step9o (AllReadyH.cons (o := ?o14o) ?hi14o ?step14o (AllReadyH.cons (o := ?o15o) ?hi15o ?step15o AllReadyH.nil))
        case hi9o => (simp only [List.getElem?_toArray, List.getElem?_cons_succ, List.getElem?_cons_zero]; rfl)
        case hi14o => (simp only [List.getElem?_toArray, List.getElem?_cons_succ, List.getElem?_cons_zero]; rfl)
        case hi15o => (simp only [List.getElem?_toArray, List.getElem?_cons_succ, List.getElem?_cons_zero]; rfl)
        case step9o =>
          intro K hK
          go_simp
          refine (kl _ hHeld.1).mono ?_
          rintro er w2 ⟨rfl, hb2⟩
          refine hK.out _ _ (s9_of h9 (hHeld.1.trans (hb2.mono hHeld.1.size))) (fun hHeld => ?_)
          clear hK K
          try simp only [Act.put, List.setIfInBounds_toArray, List.set_cons_zero, List.set_cons_succ]
          have lz := hHeld.1.size
          refine wpAnyH_take (i := 10) (oi := ?oi10oC) (v := ?v10oC) ?hi10oC ?hs10oC ?hf10oC ?hr10oC ?hQ10oC (Or.inl ⟨?hw10oC, ?hy10oC⟩) (by assumption) ?h10oC
          case hi10oC => (simp only [List.getElem?_toArray, List.getElem?_cons_succ, List.getElem?_cons_zero]; rfl)
          case hs10oC => kernel_rfl
          case hf10oC => kernel_rfl
          case hr10oC => kernel_rfl
          case hw10oC => rfl
          case hy10oC => (intro w0 hSw; (try dsimp only at hSw); go_simp; first | done | with_reducible rfl)
          case hQ10oC => exact fun _ _ _ h => h
          try simp only [Act.put, List.setIfInBounds_toArray, List.set_cons_zero, List.set_cons_succ]
          refine wpAnyH_take (i := 11) (oi := ?oi11oC) (v := ?v11oC) ?hi11oC ?hs11oC ?hf11oC ?hr11oC ?hQ11oC (Or.inl ⟨?hw11oC, ?hy11oC⟩) (by assumption) ?h11oC
          case hi11oC => (simp only [List.getElem?_toArray, List.getElem?_cons_succ, List.getElem?_cons_zero]; rfl)
          case hs11oC => kernel_rfl
          case hf11oC => kernel_rfl
          case hr11oC => kernel_rfl
          case hw11oC => rfl
          case hy11oC => (intro w0 hSw; (try dsimp only at hSw); go_simp; first | done | with_reducible rfl)
          case hQ11oC => exact fun _ _ _ h => h
          try simp only [Act.put, List.setIfInBounds_toArray, List.set_cons_zero, List.set_cons_succ]
          refine wpAnyH_take (i := 12) (oi := ?oi12oC) (v := ?v12oC) ?hi12oC ?hs12oC ?hf12oC ?hr12oC ?hQ12oC (Or.inl ⟨?hw12oC, ?hy12oC⟩) (by assumption) ?h12oC
          case hi12oC => (simp only [List.getElem?_toArray, List.getElem?_cons_succ, List.getElem?_cons_zero]; rfl)
          case hs12oC => kernel_rfl
          case hf12oC => kernel_rfl
          case hr12oC => kernel_rfl
          case hw12oC => rfl
          case hy12oC => (intro w0 hSw; (try dsimp only at hSw); go_simp; first | done | with_reducible rfl)
          case hQ12oC => exact fun _ _ _ h => h
          try simp only [Act.put, List.setIfInBounds_toArray, List.set_cons_zero, List.set_cons_succ]
          refine wpAnyH_take (i := 13) (oi := ?oi13oC) (v := ?v13oC) ?hi13oC ?hs13oC ?hf13oC ?hr13oC ?hQ13oC (Or.inl ⟨?hw13oC, ?hy13oC⟩) (by assumption) ?h13oC
          case hi13oC => (simp only [List.getElem?_toArray, List.getElem?_cons_succ, List.getElem?_cons_zero]; rfl)
          case hs13oC => kernel_rfl
          case hf13oC => kernel_rfl
          case hr13oC => kernel_rfl
          case hw13oC => rfl
          case hy13oC => (intro w0 hSw; (try dsimp only at hSw); go_simp; first | done | with_reducible rfl)
          case hQ13oC => exact fun _ _ _ h => h
          try simp only [Act.put, List.setIfInBounds_toArray, List.set_cons_zero, List.set_cons_succ]
          refine wpAnyH_ready (rs := [14, 15]) (by kernel_rfl) (by simp) ?_
          refine AllReadyH.cons (o := ?o14oC) ?hi14oC ?step14oC (AllReadyH.cons (o := ?o15oC) ?hi15oC ?step15oC AllReadyH.nil)
          case hi14oC => (simp only [List.getElem?_toArray, List.getElem?_cons_succ, List.getElem?_cons_zero]; rfl)
          case hi15oC => (simp only [List.getElem?_toArray, List.getElem?_cons_succ, List.getElem?_cons_zero]; rfl)
          case step14oC =>
            intro K hK
            go_simp
            have hR : (w2.alloc (.cells #[Value.int .i64 0, .int .i64 0, .int .i64 0, .int .i64 0, .int .i64 0, .int .i64 0, .int .i64 0, .int .i64 0] 34)).heap[w2.heap.size]? = some (.cells #[Value.int .i64 0, .int .i64 0, .int .i64 0, .int .i64 0, .int .i64 0, .int .i64 0, .int .i64 0, .int .i64 0] 34) := by
              have := heap_new w2 (.cells #[Value.int .i64 0, .int .i64 0, .int .i64 0, .int .i64 0, .int .i64 0, .int .i64 0, .int .i64 0, .int .i64 0] 34)
              exact this
            refine hK.out _ _ (s9_of h9 (grew hHeld.1 _)) (fun hHeld => ?_)
            clear hK K
            try simp only [Act.put, List.setIfInBounds_toArray, List.set_cons_zero, List.set_cons_succ]
            refine wpAnyH_ready (rs := [15]) (by kernel_rfl) (by simp) ?_
            refine AllReadyH.cons (o := ?o15oCR) ?hi15oCR ?step15oCR AllReadyH.nil
            case hi15oCR => (simp only [List.getElem?_toArray, List.getElem?_cons_succ, List.getElem?_cons_zero]; rfl)
            case step15oCR =>
              intro K hK
              go_simp
              have hRhT : ((w2.alloc (.cells #[Value.int .i64 0, .int .i64 0, .int .i64 0, .int .i64 0, .int .i64 0, .int .i64 0, .int .i64 0, .int .i64 0] 34)).alloc (.cells #[Value.int .i64 0, .int .i64 0, .int .i64 0, .int .i64 0, .int .i64 0] 24)).heap[w2.heap.size]? = _ := heap_old hR (.cells #[Value.int .i64 0, .int .i64 0, .int .i64 0, .int .i64 0, .int .i64 0] 24)
              have hT : ((w2.alloc (.cells #[Value.int .i64 0, .int .i64 0, .int .i64 0, .int .i64 0, .int .i64 0, .int .i64 0, .int .i64 0, .int .i64 0] 34)).alloc (.cells #[Value.int .i64 0, .int .i64 0, .int .i64 0, .int .i64 0, .int .i64 0] 24)).heap[w2.heap.size + 1]? = some (.cells #[Value.int .i64 0, .int .i64 0, .int .i64 0, .int .i64 0, .int .i64 0] 24) := by
                have := heap_new (w2.alloc (.cells #[Value.int .i64 0, .int .i64 0, .int .i64 0, .int .i64 0, .int .i64 0, .int .i64 0, .int .i64 0, .int .i64 0] 34)) (.cells #[Value.int .i64 0, .int .i64 0, .int .i64 0, .int .i64 0, .int .i64 0] 24)
                rw [World.size_alloc] at this
                exact this
              refine hK.out _ _ (s9_of h9 (grew hHeld.1 _)) (fun hHeld => ?_)
              clear hK K
              try simp only [Act.put, List.setIfInBounds_toArray, List.set_cons_zero, List.set_cons_succ]
              have hrb : wr.heap.size ≤ w2.heap.size := by omega
              have hsb : wr.heap.size ≤ w2.heap.size + 1 := by omega
              have hne : w2.heap.size ≠ w2.heap.size + 1 := by omega
              have hR0 := hRhT
              have hT0 := hT
              generalize (w2.alloc (.cells #[Value.int .i64 0, .int .i64 0, .int .i64 0, .int .i64 0, .int .i64 0, .int .i64 0, .int .i64 0, .int .i64 0] 34)).alloc (.cells #[Value.int .i64 0, .int .i64 0, .int .i64 0, .int .i64 0, .int .i64 0] 24) = V at hR0 hT0 hHeld ⊢
              generalize hsn : w2.heap.size + 1 = sb at hne hR0 hT0 hHeld ⊢
              generalize hrn : w2.heap.size = rb at hne hR0 hT0 hHeld ⊢
              replace hrb : wr.heap.size ≤ rb := by omega
              replace hsb : wr.heap.size ≤ sb := by omega
              clear hrn hsn
              have zr : ∀ i, V.cell? ⟨rb, i, none⟩ = #[Value.int .i64 0, .int .i64 0, .int .i64 0, .int .i64 0, .int .i64 0, .int .i64 0, .int .i64 0, .int .i64 0][i]? := fun i => Joins.cell_of_block hR0 i
              have fr : ∀ i, V.frozen? ⟨rb, i, none⟩ = false := fun i => Joins.unfrozen_of_block hR0 i
              have lk8 := lk_rec (r := r) hR0 hT0 hne
              refine wpAnyH_ready (rs := [16]) (by kernel_rfl) (by simp) ?_
              refine AllReadyH.cons (o := ?o16oCRT) ?hi16oCRT ?step16oCRT AllReadyH.nil
              case hi16oCRT => (simp only [List.getElem?_toArray, List.getElem?_cons_succ, List.getElem?_cons_zero]; rfl)
              intro K hK
              go_simp
              refine hK.out _ _ (s9_eight hHeld hrb (by omega) (by omega) _ _ _ _ _ _ _ _) (fun hHeld => ?_)
              clear hK K zr fr
              try simp only [Act.put, List.setIfInBounds_toArray, List.set_cons_zero, List.set_cons_succ]
              generalize (((((((V.setCell ⟨rb, 0, none⟩ (.int .i64 r.k)).setCell ⟨rb, 1, none⟩ (.int .i64 r.a)).setCell ⟨rb, 2, none⟩ (.int .i64 r.p)).setCell ⟨rb, 3, none⟩ (.int .i64 r.e.k)).setCell ⟨rb, 4, none⟩ (.int .i64 r.e.j)).setCell ⟨rb, 5, none⟩ (.int .i64 r.e.v)).setCell ⟨rb, 6, none⟩ (.int .i64 r.e.t)).setCell ⟨rb, 7, none⟩ (.int .i64 r.e.c) = V8 at lk8 hHeld ⊢
              obtain ⟨hR8, hT8⟩ := lk8
              have zs : ∀ i, V8.cell? ⟨sb, i, none⟩ = #[Value.int .i64 0, .int .i64 0, .int .i64 0, .int .i64 0, .int .i64 0][i]? := fun i => Joins.cell_of_block hT8 i
              have fs : ∀ i, V8.frozen? ⟨sb, i, none⟩ = false := fun i => Joins.unfrozen_of_block hT8 i
              have lk13 := lk_ent (s := s) hR8 hT8 hne
              refine wpAnyH_ready (rs := [17]) (by kernel_rfl) (by simp) ?_
              refine AllReadyH.cons (o := ?o17oCRT) ?hi17oCRT ?step17oCRT AllReadyH.nil
              case hi17oCRT => (simp only [List.getElem?_toArray, List.getElem?_cons_succ, List.getElem?_cons_zero]; rfl)
              intro K hK
              go_simp
              refine hK.out _ _ (s9_five hHeld hsb (by omega) (by omega) _ _ _ _ _) (fun hHeld => ?_)
              clear hK K zs fs
              try simp only [Act.put, List.setIfInBounds_toArray, List.set_cons_zero, List.set_cons_succ]
              refine wpAnyH_take (i := 18) (oi := ?oi18oCRT) (v := ?v18oCRT) ?hi18oCRT ?hs18oCRT ?hf18oCRT ?hr18oCRT ?hQ18oCRT (Or.inl ⟨?hw18oCRT, ?hy18oCRT⟩) (by assumption) ?h18oCRT
              case hi18oCRT => (simp only [List.getElem?_toArray, List.getElem?_cons_succ, List.getElem?_cons_zero]; rfl)
              case hs18oCRT => kernel_rfl
              case hf18oCRT => kernel_rfl
              case hr18oCRT => kernel_rfl
              case hw18oCRT => rfl
              case hy18oCRT => (intro w0 hSw; (try dsimp only at hSw); go_simp; first | done | with_reducible rfl)
              case hQ18oCRT => exact fun _ _ _ h => h
              try simp only [Act.put, List.setIfInBounds_toArray, List.set_cons_zero, List.set_cons_succ]
              refine wpAnyH_done (by kernel_rfl) ?_ _
              go_wp2_with fail
              go_meet
              case rel => exact ⟨rb, sb, rfl, rfl, rfl, ⟨hrb, hsb, lk13.1, lk13.2, hHeld.1⟩⟩
          case step15oC =>
            intro K hK
            go_simp
            have hT : (w2.alloc (.cells #[Value.int .i64 0, .int .i64 0, .int .i64 0, .int .i64 0, .int .i64 0] 24)).heap[w2.heap.size]? = some (.cells #[Value.int .i64 0, .int .i64 0, .int .i64 0, .int .i64 0, .int .i64 0] 24) := by
              have := heap_new w2 (.cells #[Value.int .i64 0, .int .i64 0, .int .i64 0, .int .i64 0, .int .i64 0] 24)
              exact this
            refine hK.out _ _ (s9_of h9 (grew hHeld.1 _)) (fun hHeld => ?_)
            clear hK K
            try simp only [Act.put, List.setIfInBounds_toArray, List.set_cons_zero, List.set_cons_succ]
            refine wpAnyH_ready (rs := [14]) (by kernel_rfl) (by simp) ?_
            refine AllReadyH.cons (o := ?o14oCT) ?hi14oCT ?step14oCT AllReadyH.nil
            case hi14oCT => (simp only [List.getElem?_toArray, List.getElem?_cons_succ, List.getElem?_cons_zero]; rfl)
            case step14oCT =>
              intro K hK
              go_simp
              have hThR : ((w2.alloc (.cells #[Value.int .i64 0, .int .i64 0, .int .i64 0, .int .i64 0, .int .i64 0] 24)).alloc (.cells #[Value.int .i64 0, .int .i64 0, .int .i64 0, .int .i64 0, .int .i64 0, .int .i64 0, .int .i64 0, .int .i64 0] 34)).heap[w2.heap.size]? = _ := heap_old hT (.cells #[Value.int .i64 0, .int .i64 0, .int .i64 0, .int .i64 0, .int .i64 0, .int .i64 0, .int .i64 0, .int .i64 0] 34)
              have hR : ((w2.alloc (.cells #[Value.int .i64 0, .int .i64 0, .int .i64 0, .int .i64 0, .int .i64 0] 24)).alloc (.cells #[Value.int .i64 0, .int .i64 0, .int .i64 0, .int .i64 0, .int .i64 0, .int .i64 0, .int .i64 0, .int .i64 0] 34)).heap[w2.heap.size + 1]? = some (.cells #[Value.int .i64 0, .int .i64 0, .int .i64 0, .int .i64 0, .int .i64 0, .int .i64 0, .int .i64 0, .int .i64 0] 34) := by
                have := heap_new (w2.alloc (.cells #[Value.int .i64 0, .int .i64 0, .int .i64 0, .int .i64 0, .int .i64 0] 24)) (.cells #[Value.int .i64 0, .int .i64 0, .int .i64 0, .int .i64 0, .int .i64 0, .int .i64 0, .int .i64 0, .int .i64 0] 34)
                rw [World.size_alloc] at this
                exact this
              refine hK.out _ _ (s9_of h9 (grew hHeld.1 _)) (fun hHeld => ?_)
              clear hK K
              try simp only [Act.put, List.setIfInBounds_toArray, List.set_cons_zero, List.set_cons_succ]
              have hrb : wr.heap.size ≤ w2.heap.size + 1 := by omega
              have hsb : wr.heap.size ≤ w2.heap.size := by omega
              have hne : w2.heap.size + 1 ≠ w2.heap.size := by omega
              have hR0 := hR
              have hT0 := hThR
              generalize (w2.alloc (.cells #[Value.int .i64 0, .int .i64 0, .int .i64 0, .int .i64 0, .int .i64 0] 24)).alloc (.cells #[Value.int .i64 0, .int .i64 0, .int .i64 0, .int .i64 0, .int .i64 0, .int .i64 0, .int .i64 0, .int .i64 0] 34) = V at hR0 hT0 hHeld ⊢
              generalize hrn : w2.heap.size + 1 = rb at hne hR0 hT0 hHeld ⊢
              generalize hsn : w2.heap.size = sb at hne hR0 hT0 hHeld ⊢
              replace hrb : wr.heap.size ≤ rb := by omega
              replace hsb : wr.heap.size ≤ sb := by omega
              clear hrn hsn
              have zr : ∀ i, V.cell? ⟨rb, i, none⟩ = #[Value.int .i64 0, .int .i64 0, .int .i64 0, .int .i64 0, .int .i64 0, .int .i64 0, .int .i64 0, .int .i64 0][i]? := fun i => Joins.cell_of_block hR0 i
              have fr : ∀ i, V.frozen? ⟨rb, i, none⟩ = false := fun i => Joins.unfrozen_of_block hR0 i
              have lk8 := lk_rec (r := r) hR0 hT0 hne
              refine wpAnyH_ready (rs := [16]) (by kernel_rfl) (by simp) ?_
              refine AllReadyH.cons (o := ?o16oCTR) ?hi16oCTR ?step16oCTR AllReadyH.nil
              case hi16oCTR => (simp only [List.getElem?_toArray, List.getElem?_cons_succ, List.getElem?_cons_zero]; rfl)
              intro K hK
              go_simp
              refine hK.out _ _ (s9_eight hHeld hrb (by omega) (by omega) _ _ _ _ _ _ _ _) (fun hHeld => ?_)
              clear hK K zr fr
              try simp only [Act.put, List.setIfInBounds_toArray, List.set_cons_zero, List.set_cons_succ]
              generalize (((((((V.setCell ⟨rb, 0, none⟩ (.int .i64 r.k)).setCell ⟨rb, 1, none⟩ (.int .i64 r.a)).setCell ⟨rb, 2, none⟩ (.int .i64 r.p)).setCell ⟨rb, 3, none⟩ (.int .i64 r.e.k)).setCell ⟨rb, 4, none⟩ (.int .i64 r.e.j)).setCell ⟨rb, 5, none⟩ (.int .i64 r.e.v)).setCell ⟨rb, 6, none⟩ (.int .i64 r.e.t)).setCell ⟨rb, 7, none⟩ (.int .i64 r.e.c) = V8 at lk8 hHeld ⊢
              obtain ⟨hR8, hT8⟩ := lk8
              have zs : ∀ i, V8.cell? ⟨sb, i, none⟩ = #[Value.int .i64 0, .int .i64 0, .int .i64 0, .int .i64 0, .int .i64 0][i]? := fun i => Joins.cell_of_block hT8 i
              have fs : ∀ i, V8.frozen? ⟨sb, i, none⟩ = false := fun i => Joins.unfrozen_of_block hT8 i
              have lk13 := lk_ent (s := s) hR8 hT8 hne
              refine wpAnyH_ready (rs := [17]) (by kernel_rfl) (by simp) ?_
              refine AllReadyH.cons (o := ?o17oCTR) ?hi17oCTR ?step17oCTR AllReadyH.nil
              case hi17oCTR => (simp only [List.getElem?_toArray, List.getElem?_cons_succ, List.getElem?_cons_zero]; rfl)
              intro K hK
              go_simp
              refine hK.out _ _ (s9_five hHeld hsb (by omega) (by omega) _ _ _ _ _) (fun hHeld => ?_)
              clear hK K zs fs
              try simp only [Act.put, List.setIfInBounds_toArray, List.set_cons_zero, List.set_cons_succ]
              refine wpAnyH_take (i := 18) (oi := ?oi18oCTR) (v := ?v18oCTR) ?hi18oCTR ?hs18oCTR ?hf18oCTR ?hr18oCTR ?hQ18oCTR (Or.inl ⟨?hw18oCTR, ?hy18oCTR⟩) (by assumption) ?h18oCTR
              case hi18oCTR => (simp only [List.getElem?_toArray, List.getElem?_cons_succ, List.getElem?_cons_zero]; rfl)
              case hs18oCTR => kernel_rfl
              case hf18oCTR => kernel_rfl
              case hr18oCTR => kernel_rfl
              case hw18oCTR => rfl
              case hy18oCTR => (intro w0 hSw; (try dsimp only at hSw); go_simp; first | done | with_reducible rfl)
              case hQ18oCTR => exact fun _ _ _ h => h
              try simp only [Act.put, List.setIfInBounds_toArray, List.set_cons_zero, List.set_cons_succ]
              refine wpAnyH_done (by kernel_rfl) ?_ _
              go_wp2_with fail
              go_meet
              case rel => exact ⟨rb, sb, rfl, rfl, rfl, ⟨hrb, hsb, lk13.1, lk13.2, hHeld.1⟩⟩
        case step14o =>
          intro K hK
          go_simp
          have hR : (wr.alloc (.cells #[Value.int .i64 0, .int .i64 0, .int .i64 0, .int .i64 0, .int .i64 0, .int .i64 0, .int .i64 0, .int .i64 0] 34)).drew.heap[wr.heap.size]? = some (.cells #[Value.int .i64 0, .int .i64 0, .int .i64 0, .int .i64 0, .int .i64 0, .int .i64 0, .int .i64 0, .int .i64 0] 34) := by
            have := heap_new wr (.cells #[Value.int .i64 0, .int .i64 0, .int .i64 0, .int .i64 0, .int .i64 0, .int .i64 0, .int .i64 0, .int .i64 0] 34)
            exact this
          refine hK.out _ _ (s9_of h9 (grew hHeld.1 _)) (fun hHeld => ?_)
          clear hK K
          try simp only [Act.put, List.setIfInBounds_toArray, List.set_cons_zero, List.set_cons_succ]
          refine wpAnyH_ready (rs := [9, 15]) (by kernel_rfl) (by simp) ?_
          refine AllReadyH.cons (o := ?o9oR) ?hi9oR ?step9oR (AllReadyH.cons (o := ?o15oR) ?hi15oR ?step15oR AllReadyH.nil)
          case hi9oR => (simp only [List.getElem?_toArray, List.getElem?_cons_succ, List.getElem?_cons_zero]; rfl)
          case hi15oR => (simp only [List.getElem?_toArray, List.getElem?_cons_succ, List.getElem?_cons_zero]; rfl)
          case step9oR =>
            intro K hK
            go_simp
            refine (kl _ hHeld.1).mono ?_
            rintro er w2 ⟨rfl, hb2⟩
            have hRc := heap_below hR hb2 (heap_lt hR)
            refine hK.out _ _ (s9_of h9 (hHeld.1.trans (hb2.mono hHeld.1.size))) (fun hHeld => ?_)
            clear hK K
            try simp only [Act.put, List.setIfInBounds_toArray, List.set_cons_zero, List.set_cons_succ]
            have lz := hHeld.1.size
            refine wpAnyH_take (i := 10) (oi := ?oi10oRC) (v := ?v10oRC) ?hi10oRC ?hs10oRC ?hf10oRC ?hr10oRC ?hQ10oRC (Or.inl ⟨?hw10oRC, ?hy10oRC⟩) (by assumption) ?h10oRC
            case hi10oRC => (simp only [List.getElem?_toArray, List.getElem?_cons_succ, List.getElem?_cons_zero]; rfl)
            case hs10oRC => kernel_rfl
            case hf10oRC => kernel_rfl
            case hr10oRC => kernel_rfl
            case hw10oRC => rfl
            case hy10oRC => (intro w0 hSw; (try dsimp only at hSw); go_simp; first | done | with_reducible rfl)
            case hQ10oRC => exact fun _ _ _ h => h
            try simp only [Act.put, List.setIfInBounds_toArray, List.set_cons_zero, List.set_cons_succ]
            refine wpAnyH_take (i := 11) (oi := ?oi11oRC) (v := ?v11oRC) ?hi11oRC ?hs11oRC ?hf11oRC ?hr11oRC ?hQ11oRC (Or.inl ⟨?hw11oRC, ?hy11oRC⟩) (by assumption) ?h11oRC
            case hi11oRC => (simp only [List.getElem?_toArray, List.getElem?_cons_succ, List.getElem?_cons_zero]; rfl)
            case hs11oRC => kernel_rfl
            case hf11oRC => kernel_rfl
            case hr11oRC => kernel_rfl
            case hw11oRC => rfl
            case hy11oRC => (intro w0 hSw; (try dsimp only at hSw); go_simp; first | done | with_reducible rfl)
            case hQ11oRC => exact fun _ _ _ h => h
            try simp only [Act.put, List.setIfInBounds_toArray, List.set_cons_zero, List.set_cons_succ]
            refine wpAnyH_take (i := 12) (oi := ?oi12oRC) (v := ?v12oRC) ?hi12oRC ?hs12oRC ?hf12oRC ?hr12oRC ?hQ12oRC (Or.inl ⟨?hw12oRC, ?hy12oRC⟩) (by assumption) ?h12oRC
            case hi12oRC => (simp only [List.getElem?_toArray, List.getElem?_cons_succ, List.getElem?_cons_zero]; rfl)
            case hs12oRC => kernel_rfl
            case hf12oRC => kernel_rfl
            case hr12oRC => kernel_rfl
            case hw12oRC => rfl
            case hy12oRC => (intro w0 hSw; (try dsimp only at hSw); go_simp; first | done | with_reducible rfl)
            case hQ12oRC => exact fun _ _ _ h => h
            try simp only [Act.put, List.setIfInBounds_toArray, List.set_cons_zero, List.set_cons_succ]
            refine wpAnyH_take (i := 13) (oi := ?oi13oRC) (v := ?v13oRC) ?hi13oRC ?hs13oRC ?hf13oRC ?hr13oRC ?hQ13oRC (Or.inl ⟨?hw13oRC, ?hy13oRC⟩) (by assumption) ?h13oRC
            case hi13oRC => (simp only [List.getElem?_toArray, List.getElem?_cons_succ, List.getElem?_cons_zero]; rfl)
            case hs13oRC => kernel_rfl
            case hf13oRC => kernel_rfl
            case hr13oRC => kernel_rfl
            case hw13oRC => rfl
            case hy13oRC => (intro w0 hSw; (try dsimp only at hSw); go_simp; first | done | with_reducible rfl)
            case hQ13oRC => exact fun _ _ _ h => h
            try simp only [Act.put, List.setIfInBounds_toArray, List.set_cons_zero, List.set_cons_succ]
            refine wpAnyH_ready (rs := [15]) (by kernel_rfl) (by simp) ?_
            refine AllReadyH.cons (o := ?o15oRC) ?hi15oRC ?step15oRC AllReadyH.nil
            case hi15oRC => (simp only [List.getElem?_toArray, List.getElem?_cons_succ, List.getElem?_cons_zero]; rfl)
            case step15oRC =>
              intro K hK
              go_simp
              have hRchT : (w2.alloc (.cells #[Value.int .i64 0, .int .i64 0, .int .i64 0, .int .i64 0, .int .i64 0] 24)).heap[wr.heap.size]? = _ := heap_old hRc (.cells #[Value.int .i64 0, .int .i64 0, .int .i64 0, .int .i64 0, .int .i64 0] 24)
              have hT : (w2.alloc (.cells #[Value.int .i64 0, .int .i64 0, .int .i64 0, .int .i64 0, .int .i64 0] 24)).heap[w2.heap.size]? = some (.cells #[Value.int .i64 0, .int .i64 0, .int .i64 0, .int .i64 0, .int .i64 0] 24) := by
                have := heap_new w2 (.cells #[Value.int .i64 0, .int .i64 0, .int .i64 0, .int .i64 0, .int .i64 0] 24)
                exact this
              refine hK.out _ _ (s9_of h9 (grew hHeld.1 _)) (fun hHeld => ?_)
              clear hK K
              try simp only [Act.put, List.setIfInBounds_toArray, List.set_cons_zero, List.set_cons_succ]
              have hrb : wr.heap.size ≤ wr.heap.size := by omega
              have hsb : wr.heap.size ≤ w2.heap.size := by omega
              have hne : wr.heap.size ≠ w2.heap.size := by have := heap_lt hRc; omega
              have hR0 := hRchT
              have hT0 := hT
              generalize w2.alloc (.cells #[Value.int .i64 0, .int .i64 0, .int .i64 0, .int .i64 0, .int .i64 0] 24) = V at hR0 hT0 hHeld ⊢
              generalize hrn : wr.heap.size = rb at hne hR0 hT0 hHeld ⊢
              generalize hsn : w2.heap.size = sb at hne hR0 hT0 hHeld ⊢
              replace hrb : wr.heap.size ≤ rb := by omega
              replace hsb : wr.heap.size ≤ sb := by omega
              clear hrn hsn
              have zr : ∀ i, V.cell? ⟨rb, i, none⟩ = #[Value.int .i64 0, .int .i64 0, .int .i64 0, .int .i64 0, .int .i64 0, .int .i64 0, .int .i64 0, .int .i64 0][i]? := fun i => Joins.cell_of_block hR0 i
              have fr : ∀ i, V.frozen? ⟨rb, i, none⟩ = false := fun i => Joins.unfrozen_of_block hR0 i
              have lk8 := lk_rec (r := r) hR0 hT0 hne
              refine wpAnyH_ready (rs := [16]) (by kernel_rfl) (by simp) ?_
              refine AllReadyH.cons (o := ?o16oRCT) ?hi16oRCT ?step16oRCT AllReadyH.nil
              case hi16oRCT => (simp only [List.getElem?_toArray, List.getElem?_cons_succ, List.getElem?_cons_zero]; rfl)
              intro K hK
              go_simp
              refine hK.out _ _ (s9_eight hHeld hrb (by omega) (by omega) _ _ _ _ _ _ _ _) (fun hHeld => ?_)
              clear hK K zr fr
              try simp only [Act.put, List.setIfInBounds_toArray, List.set_cons_zero, List.set_cons_succ]
              generalize (((((((V.setCell ⟨rb, 0, none⟩ (.int .i64 r.k)).setCell ⟨rb, 1, none⟩ (.int .i64 r.a)).setCell ⟨rb, 2, none⟩ (.int .i64 r.p)).setCell ⟨rb, 3, none⟩ (.int .i64 r.e.k)).setCell ⟨rb, 4, none⟩ (.int .i64 r.e.j)).setCell ⟨rb, 5, none⟩ (.int .i64 r.e.v)).setCell ⟨rb, 6, none⟩ (.int .i64 r.e.t)).setCell ⟨rb, 7, none⟩ (.int .i64 r.e.c) = V8 at lk8 hHeld ⊢
              obtain ⟨hR8, hT8⟩ := lk8
              have zs : ∀ i, V8.cell? ⟨sb, i, none⟩ = #[Value.int .i64 0, .int .i64 0, .int .i64 0, .int .i64 0, .int .i64 0][i]? := fun i => Joins.cell_of_block hT8 i
              have fs : ∀ i, V8.frozen? ⟨sb, i, none⟩ = false := fun i => Joins.unfrozen_of_block hT8 i
              have lk13 := lk_ent (s := s) hR8 hT8 hne
              refine wpAnyH_ready (rs := [17]) (by kernel_rfl) (by simp) ?_
              refine AllReadyH.cons (o := ?o17oRCT) ?hi17oRCT ?step17oRCT AllReadyH.nil
              case hi17oRCT => (simp only [List.getElem?_toArray, List.getElem?_cons_succ, List.getElem?_cons_zero]; rfl)
              intro K hK
              go_simp
              refine hK.out _ _ (s9_five hHeld hsb (by omega) (by omega) _ _ _ _ _) (fun hHeld => ?_)
              clear hK K zs fs
              try simp only [Act.put, List.setIfInBounds_toArray, List.set_cons_zero, List.set_cons_succ]
              refine wpAnyH_take (i := 18) (oi := ?oi18oRCT) (v := ?v18oRCT) ?hi18oRCT ?hs18oRCT ?hf18oRCT ?hr18oRCT ?hQ18oRCT (Or.inl ⟨?hw18oRCT, ?hy18oRCT⟩) (by assumption) ?h18oRCT
              case hi18oRCT => (simp only [List.getElem?_toArray, List.getElem?_cons_succ, List.getElem?_cons_zero]; rfl)
              case hs18oRCT => kernel_rfl
              case hf18oRCT => kernel_rfl
              case hr18oRCT => kernel_rfl
              case hw18oRCT => rfl
              case hy18oRCT => (intro w0 hSw; (try dsimp only at hSw); go_simp; first | done | with_reducible rfl)
              case hQ18oRCT => exact fun _ _ _ h => h
              try simp only [Act.put, List.setIfInBounds_toArray, List.set_cons_zero, List.set_cons_succ]
              refine wpAnyH_done (by kernel_rfl) ?_ _
              go_wp2_with fail
              go_meet
              case rel => exact ⟨rb, sb, rfl, rfl, rfl, ⟨hrb, hsb, lk13.1, lk13.2, hHeld.1⟩⟩
          case step15oR =>
            intro K hK
            go_simp
            have hRhT : ((wr.alloc (.cells #[Value.int .i64 0, .int .i64 0, .int .i64 0, .int .i64 0, .int .i64 0, .int .i64 0, .int .i64 0, .int .i64 0] 34)).alloc (.cells #[Value.int .i64 0, .int .i64 0, .int .i64 0, .int .i64 0, .int .i64 0] 24)).drew.heap[wr.heap.size]? = _ := heap_old hR (.cells #[Value.int .i64 0, .int .i64 0, .int .i64 0, .int .i64 0, .int .i64 0] 24)
            have hT : ((wr.alloc (.cells #[Value.int .i64 0, .int .i64 0, .int .i64 0, .int .i64 0, .int .i64 0, .int .i64 0, .int .i64 0, .int .i64 0] 34)).alloc (.cells #[Value.int .i64 0, .int .i64 0, .int .i64 0, .int .i64 0, .int .i64 0] 24)).drew.heap[wr.heap.size + 1]? = some (.cells #[Value.int .i64 0, .int .i64 0, .int .i64 0, .int .i64 0, .int .i64 0] 24) := by
              have := heap_new (wr.alloc (.cells #[Value.int .i64 0, .int .i64 0, .int .i64 0, .int .i64 0, .int .i64 0, .int .i64 0, .int .i64 0, .int .i64 0] 34)) (.cells #[Value.int .i64 0, .int .i64 0, .int .i64 0, .int .i64 0, .int .i64 0] 24)
              rw [World.size_alloc] at this
              exact this
            refine hK.out _ _ (s9_of h9 (grew hHeld.1 _)) (fun hHeld => ?_)
            clear hK K
            try simp only [Act.put, List.setIfInBounds_toArray, List.set_cons_zero, List.set_cons_succ]
            refine wpAnyH_ready (rs := [9]) (by kernel_rfl) (by simp) ?_
            refine AllReadyH.cons (o := ?o9oRT) ?hi9oRT ?step9oRT AllReadyH.nil
            case hi9oRT => (simp only [List.getElem?_toArray, List.getElem?_cons_succ, List.getElem?_cons_zero]; rfl)
            case step9oRT =>
              intro K hK
              go_simp
              refine (kl _ hHeld.1).mono ?_
              rintro er w2 ⟨rfl, hb2⟩
              have hRhTc := heap_below hRhT hb2 (heap_lt hRhT)
              have hTc := heap_below hT hb2 (heap_lt hT)
              refine hK.out _ _ (s9_of h9 (hHeld.1.trans (hb2.mono hHeld.1.size))) (fun hHeld => ?_)
              clear hK K
              try simp only [Act.put, List.setIfInBounds_toArray, List.set_cons_zero, List.set_cons_succ]
              have lz := hHeld.1.size
              refine wpAnyH_take (i := 10) (oi := ?oi10oRTC) (v := ?v10oRTC) ?hi10oRTC ?hs10oRTC ?hf10oRTC ?hr10oRTC ?hQ10oRTC (Or.inl ⟨?hw10oRTC, ?hy10oRTC⟩) (by assumption) ?h10oRTC
              case hi10oRTC => (simp only [List.getElem?_toArray, List.getElem?_cons_succ, List.getElem?_cons_zero]; rfl)
              case hs10oRTC => kernel_rfl
              case hf10oRTC => kernel_rfl
              case hr10oRTC => kernel_rfl
              case hw10oRTC => rfl
              case hy10oRTC => (intro w0 hSw; (try dsimp only at hSw); go_simp; first | done | with_reducible rfl)
              case hQ10oRTC => exact fun _ _ _ h => h
              try simp only [Act.put, List.setIfInBounds_toArray, List.set_cons_zero, List.set_cons_succ]
              refine wpAnyH_take (i := 11) (oi := ?oi11oRTC) (v := ?v11oRTC) ?hi11oRTC ?hs11oRTC ?hf11oRTC ?hr11oRTC ?hQ11oRTC (Or.inl ⟨?hw11oRTC, ?hy11oRTC⟩) (by assumption) ?h11oRTC
              case hi11oRTC => (simp only [List.getElem?_toArray, List.getElem?_cons_succ, List.getElem?_cons_zero]; rfl)
              case hs11oRTC => kernel_rfl
              case hf11oRTC => kernel_rfl
              case hr11oRTC => kernel_rfl
              case hw11oRTC => rfl
              case hy11oRTC => (intro w0 hSw; (try dsimp only at hSw); go_simp; first | done | with_reducible rfl)
              case hQ11oRTC => exact fun _ _ _ h => h
              try simp only [Act.put, List.setIfInBounds_toArray, List.set_cons_zero, List.set_cons_succ]
              refine wpAnyH_take (i := 12) (oi := ?oi12oRTC) (v := ?v12oRTC) ?hi12oRTC ?hs12oRTC ?hf12oRTC ?hr12oRTC ?hQ12oRTC (Or.inl ⟨?hw12oRTC, ?hy12oRTC⟩) (by assumption) ?h12oRTC
              case hi12oRTC => (simp only [List.getElem?_toArray, List.getElem?_cons_succ, List.getElem?_cons_zero]; rfl)
              case hs12oRTC => kernel_rfl
              case hf12oRTC => kernel_rfl
              case hr12oRTC => kernel_rfl
              case hw12oRTC => rfl
              case hy12oRTC => (intro w0 hSw; (try dsimp only at hSw); go_simp; first | done | with_reducible rfl)
              case hQ12oRTC => exact fun _ _ _ h => h
              try simp only [Act.put, List.setIfInBounds_toArray, List.set_cons_zero, List.set_cons_succ]
              refine wpAnyH_take (i := 13) (oi := ?oi13oRTC) (v := ?v13oRTC) ?hi13oRTC ?hs13oRTC ?hf13oRTC ?hr13oRTC ?hQ13oRTC (Or.inl ⟨?hw13oRTC, ?hy13oRTC⟩) (by assumption) ?h13oRTC
              case hi13oRTC => (simp only [List.getElem?_toArray, List.getElem?_cons_succ, List.getElem?_cons_zero]; rfl)
              case hs13oRTC => kernel_rfl
              case hf13oRTC => kernel_rfl
              case hr13oRTC => kernel_rfl
              case hw13oRTC => rfl
              case hy13oRTC => (intro w0 hSw; (try dsimp only at hSw); go_simp; first | done | with_reducible rfl)
              case hQ13oRTC => exact fun _ _ _ h => h
              try simp only [Act.put, List.setIfInBounds_toArray, List.set_cons_zero, List.set_cons_succ]
              have hrb : wr.heap.size ≤ wr.heap.size := by omega
              have hsb : wr.heap.size ≤ wr.heap.size + 1 := by omega
              have hne : wr.heap.size ≠ wr.heap.size + 1 := by omega
              have hR0 := hRhTc
              have hT0 := hTc
              obtain ⟨V, hV⟩ : ∃ V, w2 = V := ⟨_, rfl⟩
              rw [hV] at hR0 hT0 hHeld ⊢
              generalize hsn : wr.heap.size + 1 = sb at hne hR0 hT0 hHeld ⊢
              generalize hrn : wr.heap.size = rb at hne hR0 hT0 hHeld ⊢
              replace hrb : wr.heap.size ≤ rb := by omega
              replace hsb : wr.heap.size ≤ sb := by omega
              clear hrn hsn
              have zr : ∀ i, V.cell? ⟨rb, i, none⟩ = #[Value.int .i64 0, .int .i64 0, .int .i64 0, .int .i64 0, .int .i64 0, .int .i64 0, .int .i64 0, .int .i64 0][i]? := fun i => Joins.cell_of_block hR0 i
              have fr : ∀ i, V.frozen? ⟨rb, i, none⟩ = false := fun i => Joins.unfrozen_of_block hR0 i
              have lk8 := lk_rec (r := r) hR0 hT0 hne
              refine wpAnyH_ready (rs := [16]) (by kernel_rfl) (by simp) ?_
              refine AllReadyH.cons (o := ?o16oRTC) ?hi16oRTC ?step16oRTC AllReadyH.nil
              case hi16oRTC => (simp only [List.getElem?_toArray, List.getElem?_cons_succ, List.getElem?_cons_zero]; rfl)
              intro K hK
              go_simp
              refine hK.out _ _ (s9_eight hHeld hrb (by omega) (by omega) _ _ _ _ _ _ _ _) (fun hHeld => ?_)
              clear hK K zr fr
              try simp only [Act.put, List.setIfInBounds_toArray, List.set_cons_zero, List.set_cons_succ]
              generalize (((((((V.setCell ⟨rb, 0, none⟩ (.int .i64 r.k)).setCell ⟨rb, 1, none⟩ (.int .i64 r.a)).setCell ⟨rb, 2, none⟩ (.int .i64 r.p)).setCell ⟨rb, 3, none⟩ (.int .i64 r.e.k)).setCell ⟨rb, 4, none⟩ (.int .i64 r.e.j)).setCell ⟨rb, 5, none⟩ (.int .i64 r.e.v)).setCell ⟨rb, 6, none⟩ (.int .i64 r.e.t)).setCell ⟨rb, 7, none⟩ (.int .i64 r.e.c) = V8 at lk8 hHeld ⊢
              obtain ⟨hR8, hT8⟩ := lk8
              have zs : ∀ i, V8.cell? ⟨sb, i, none⟩ = #[Value.int .i64 0, .int .i64 0, .int .i64 0, .int .i64 0, .int .i64 0][i]? := fun i => Joins.cell_of_block hT8 i
              have fs : ∀ i, V8.frozen? ⟨sb, i, none⟩ = false := fun i => Joins.unfrozen_of_block hT8 i
              have lk13 := lk_ent (s := s) hR8 hT8 hne
              refine wpAnyH_ready (rs := [17]) (by kernel_rfl) (by simp) ?_
              refine AllReadyH.cons (o := ?o17oRTC) ?hi17oRTC ?step17oRTC AllReadyH.nil
              case hi17oRTC => (simp only [List.getElem?_toArray, List.getElem?_cons_succ, List.getElem?_cons_zero]; rfl)
              intro K hK
              go_simp
              refine hK.out _ _ (s9_five hHeld hsb (by omega) (by omega) _ _ _ _ _) (fun hHeld => ?_)
              clear hK K zs fs
              try simp only [Act.put, List.setIfInBounds_toArray, List.set_cons_zero, List.set_cons_succ]
              refine wpAnyH_take (i := 18) (oi := ?oi18oRTC) (v := ?v18oRTC) ?hi18oRTC ?hs18oRTC ?hf18oRTC ?hr18oRTC ?hQ18oRTC (Or.inl ⟨?hw18oRTC, ?hy18oRTC⟩) (by assumption) ?h18oRTC
              case hi18oRTC => (simp only [List.getElem?_toArray, List.getElem?_cons_succ, List.getElem?_cons_zero]; rfl)
              case hs18oRTC => kernel_rfl
              case hf18oRTC => kernel_rfl
              case hr18oRTC => kernel_rfl
              case hw18oRTC => rfl
              case hy18oRTC => (intro w0 hSw; (try dsimp only at hSw); go_simp; first | done | with_reducible rfl)
              case hQ18oRTC => exact fun _ _ _ h => h
              try simp only [Act.put, List.setIfInBounds_toArray, List.set_cons_zero, List.set_cons_succ]
              refine wpAnyH_done (by kernel_rfl) ?_ _
              go_wp2_with fail
              go_meet
              case rel => exact ⟨rb, sb, rfl, rfl, rfl, ⟨hrb, hsb, lk13.1, lk13.2, hHeld.1⟩⟩
        case step15o =>
          intro K hK
          go_simp
          have hT : (wr.alloc (.cells #[Value.int .i64 0, .int .i64 0, .int .i64 0, .int .i64 0, .int .i64 0] 24)).drew.heap[wr.heap.size]? = some (.cells #[Value.int .i64 0, .int .i64 0, .int .i64 0, .int .i64 0, .int .i64 0] 24) := by
            have := heap_new wr (.cells #[Value.int .i64 0, .int .i64 0, .int .i64 0, .int .i64 0, .int .i64 0] 24)
            exact this
          refine hK.out _ _ (s9_of h9 (grew hHeld.1 _)) (fun hHeld => ?_)
          clear hK K
          try simp only [Act.put, List.setIfInBounds_toArray, List.set_cons_zero, List.set_cons_succ]
          refine wpAnyH_ready (rs := [9, 14]) (by kernel_rfl) (by simp) ?_
          refine AllReadyH.cons (o := ?o9oT) ?hi9oT ?step9oT (AllReadyH.cons (o := ?o14oT) ?hi14oT ?step14oT AllReadyH.nil)
          case hi9oT => (simp only [List.getElem?_toArray, List.getElem?_cons_succ, List.getElem?_cons_zero]; rfl)
          case hi14oT => (simp only [List.getElem?_toArray, List.getElem?_cons_succ, List.getElem?_cons_zero]; rfl)
          case step9oT =>
            intro K hK
            go_simp
            refine (kl _ hHeld.1).mono ?_
            rintro er w2 ⟨rfl, hb2⟩
            have hTc := heap_below hT hb2 (heap_lt hT)
            refine hK.out _ _ (s9_of h9 (hHeld.1.trans (hb2.mono hHeld.1.size))) (fun hHeld => ?_)
            clear hK K
            try simp only [Act.put, List.setIfInBounds_toArray, List.set_cons_zero, List.set_cons_succ]
            have lz := hHeld.1.size
            refine wpAnyH_take (i := 10) (oi := ?oi10oTC) (v := ?v10oTC) ?hi10oTC ?hs10oTC ?hf10oTC ?hr10oTC ?hQ10oTC (Or.inl ⟨?hw10oTC, ?hy10oTC⟩) (by assumption) ?h10oTC
            case hi10oTC => (simp only [List.getElem?_toArray, List.getElem?_cons_succ, List.getElem?_cons_zero]; rfl)
            case hs10oTC => kernel_rfl
            case hf10oTC => kernel_rfl
            case hr10oTC => kernel_rfl
            case hw10oTC => rfl
            case hy10oTC => (intro w0 hSw; (try dsimp only at hSw); go_simp; first | done | with_reducible rfl)
            case hQ10oTC => exact fun _ _ _ h => h
            try simp only [Act.put, List.setIfInBounds_toArray, List.set_cons_zero, List.set_cons_succ]
            refine wpAnyH_take (i := 11) (oi := ?oi11oTC) (v := ?v11oTC) ?hi11oTC ?hs11oTC ?hf11oTC ?hr11oTC ?hQ11oTC (Or.inl ⟨?hw11oTC, ?hy11oTC⟩) (by assumption) ?h11oTC
            case hi11oTC => (simp only [List.getElem?_toArray, List.getElem?_cons_succ, List.getElem?_cons_zero]; rfl)
            case hs11oTC => kernel_rfl
            case hf11oTC => kernel_rfl
            case hr11oTC => kernel_rfl
            case hw11oTC => rfl
            case hy11oTC => (intro w0 hSw; (try dsimp only at hSw); go_simp; first | done | with_reducible rfl)
            case hQ11oTC => exact fun _ _ _ h => h
            try simp only [Act.put, List.setIfInBounds_toArray, List.set_cons_zero, List.set_cons_succ]
            refine wpAnyH_take (i := 12) (oi := ?oi12oTC) (v := ?v12oTC) ?hi12oTC ?hs12oTC ?hf12oTC ?hr12oTC ?hQ12oTC (Or.inl ⟨?hw12oTC, ?hy12oTC⟩) (by assumption) ?h12oTC
            case hi12oTC => (simp only [List.getElem?_toArray, List.getElem?_cons_succ, List.getElem?_cons_zero]; rfl)
            case hs12oTC => kernel_rfl
            case hf12oTC => kernel_rfl
            case hr12oTC => kernel_rfl
            case hw12oTC => rfl
            case hy12oTC => (intro w0 hSw; (try dsimp only at hSw); go_simp; first | done | with_reducible rfl)
            case hQ12oTC => exact fun _ _ _ h => h
            try simp only [Act.put, List.setIfInBounds_toArray, List.set_cons_zero, List.set_cons_succ]
            refine wpAnyH_take (i := 13) (oi := ?oi13oTC) (v := ?v13oTC) ?hi13oTC ?hs13oTC ?hf13oTC ?hr13oTC ?hQ13oTC (Or.inl ⟨?hw13oTC, ?hy13oTC⟩) (by assumption) ?h13oTC
            case hi13oTC => (simp only [List.getElem?_toArray, List.getElem?_cons_succ, List.getElem?_cons_zero]; rfl)
            case hs13oTC => kernel_rfl
            case hf13oTC => kernel_rfl
            case hr13oTC => kernel_rfl
            case hw13oTC => rfl
            case hy13oTC => (intro w0 hSw; (try dsimp only at hSw); go_simp; first | done | with_reducible rfl)
            case hQ13oTC => exact fun _ _ _ h => h
            try simp only [Act.put, List.setIfInBounds_toArray, List.set_cons_zero, List.set_cons_succ]
            refine wpAnyH_ready (rs := [14]) (by kernel_rfl) (by simp) ?_
            refine AllReadyH.cons (o := ?o14oTC) ?hi14oTC ?step14oTC AllReadyH.nil
            case hi14oTC => (simp only [List.getElem?_toArray, List.getElem?_cons_succ, List.getElem?_cons_zero]; rfl)
            case step14oTC =>
              intro K hK
              go_simp
              have hTchR : (w2.alloc (.cells #[Value.int .i64 0, .int .i64 0, .int .i64 0, .int .i64 0, .int .i64 0, .int .i64 0, .int .i64 0, .int .i64 0] 34)).heap[wr.heap.size]? = _ := heap_old hTc (.cells #[Value.int .i64 0, .int .i64 0, .int .i64 0, .int .i64 0, .int .i64 0, .int .i64 0, .int .i64 0, .int .i64 0] 34)
              have hR : (w2.alloc (.cells #[Value.int .i64 0, .int .i64 0, .int .i64 0, .int .i64 0, .int .i64 0, .int .i64 0, .int .i64 0, .int .i64 0] 34)).heap[w2.heap.size]? = some (.cells #[Value.int .i64 0, .int .i64 0, .int .i64 0, .int .i64 0, .int .i64 0, .int .i64 0, .int .i64 0, .int .i64 0] 34) := by
                have := heap_new w2 (.cells #[Value.int .i64 0, .int .i64 0, .int .i64 0, .int .i64 0, .int .i64 0, .int .i64 0, .int .i64 0, .int .i64 0] 34)
                exact this
              refine hK.out _ _ (s9_of h9 (grew hHeld.1 _)) (fun hHeld => ?_)
              clear hK K
              try simp only [Act.put, List.setIfInBounds_toArray, List.set_cons_zero, List.set_cons_succ]
              have hrb : wr.heap.size ≤ w2.heap.size := by omega
              have hsb : wr.heap.size ≤ wr.heap.size := by omega
              have hne : w2.heap.size ≠ wr.heap.size := by have := heap_lt hTc; omega
              have hR0 := hR
              have hT0 := hTchR
              generalize w2.alloc (.cells #[Value.int .i64 0, .int .i64 0, .int .i64 0, .int .i64 0, .int .i64 0, .int .i64 0, .int .i64 0, .int .i64 0] 34) = V at hR0 hT0 hHeld ⊢
              generalize hrn : w2.heap.size = rb at hne hR0 hT0 hHeld ⊢
              generalize hsn : wr.heap.size = sb at hne hR0 hT0 hHeld ⊢
              replace hrb : wr.heap.size ≤ rb := by omega
              replace hsb : wr.heap.size ≤ sb := by omega
              clear hrn hsn
              have zr : ∀ i, V.cell? ⟨rb, i, none⟩ = #[Value.int .i64 0, .int .i64 0, .int .i64 0, .int .i64 0, .int .i64 0, .int .i64 0, .int .i64 0, .int .i64 0][i]? := fun i => Joins.cell_of_block hR0 i
              have fr : ∀ i, V.frozen? ⟨rb, i, none⟩ = false := fun i => Joins.unfrozen_of_block hR0 i
              have lk8 := lk_rec (r := r) hR0 hT0 hne
              refine wpAnyH_ready (rs := [16]) (by kernel_rfl) (by simp) ?_
              refine AllReadyH.cons (o := ?o16oTCR) ?hi16oTCR ?step16oTCR AllReadyH.nil
              case hi16oTCR => (simp only [List.getElem?_toArray, List.getElem?_cons_succ, List.getElem?_cons_zero]; rfl)
              intro K hK
              go_simp
              refine hK.out _ _ (s9_eight hHeld hrb (by omega) (by omega) _ _ _ _ _ _ _ _) (fun hHeld => ?_)
              clear hK K zr fr
              try simp only [Act.put, List.setIfInBounds_toArray, List.set_cons_zero, List.set_cons_succ]
              generalize (((((((V.setCell ⟨rb, 0, none⟩ (.int .i64 r.k)).setCell ⟨rb, 1, none⟩ (.int .i64 r.a)).setCell ⟨rb, 2, none⟩ (.int .i64 r.p)).setCell ⟨rb, 3, none⟩ (.int .i64 r.e.k)).setCell ⟨rb, 4, none⟩ (.int .i64 r.e.j)).setCell ⟨rb, 5, none⟩ (.int .i64 r.e.v)).setCell ⟨rb, 6, none⟩ (.int .i64 r.e.t)).setCell ⟨rb, 7, none⟩ (.int .i64 r.e.c) = V8 at lk8 hHeld ⊢
              obtain ⟨hR8, hT8⟩ := lk8
              have zs : ∀ i, V8.cell? ⟨sb, i, none⟩ = #[Value.int .i64 0, .int .i64 0, .int .i64 0, .int .i64 0, .int .i64 0][i]? := fun i => Joins.cell_of_block hT8 i
              have fs : ∀ i, V8.frozen? ⟨sb, i, none⟩ = false := fun i => Joins.unfrozen_of_block hT8 i
              have lk13 := lk_ent (s := s) hR8 hT8 hne
              refine wpAnyH_ready (rs := [17]) (by kernel_rfl) (by simp) ?_
              refine AllReadyH.cons (o := ?o17oTCR) ?hi17oTCR ?step17oTCR AllReadyH.nil
              case hi17oTCR => (simp only [List.getElem?_toArray, List.getElem?_cons_succ, List.getElem?_cons_zero]; rfl)
              intro K hK
              go_simp
              refine hK.out _ _ (s9_five hHeld hsb (by omega) (by omega) _ _ _ _ _) (fun hHeld => ?_)
              clear hK K zs fs
              try simp only [Act.put, List.setIfInBounds_toArray, List.set_cons_zero, List.set_cons_succ]
              refine wpAnyH_take (i := 18) (oi := ?oi18oTCR) (v := ?v18oTCR) ?hi18oTCR ?hs18oTCR ?hf18oTCR ?hr18oTCR ?hQ18oTCR (Or.inl ⟨?hw18oTCR, ?hy18oTCR⟩) (by assumption) ?h18oTCR
              case hi18oTCR => (simp only [List.getElem?_toArray, List.getElem?_cons_succ, List.getElem?_cons_zero]; rfl)
              case hs18oTCR => kernel_rfl
              case hf18oTCR => kernel_rfl
              case hr18oTCR => kernel_rfl
              case hw18oTCR => rfl
              case hy18oTCR => (intro w0 hSw; (try dsimp only at hSw); go_simp; first | done | with_reducible rfl)
              case hQ18oTCR => exact fun _ _ _ h => h
              try simp only [Act.put, List.setIfInBounds_toArray, List.set_cons_zero, List.set_cons_succ]
              refine wpAnyH_done (by kernel_rfl) ?_ _
              go_wp2_with fail
              go_meet
              case rel => exact ⟨rb, sb, rfl, rfl, rfl, ⟨hrb, hsb, lk13.1, lk13.2, hHeld.1⟩⟩
          case step14oT =>
            intro K hK
            go_simp
            have hThR : ((wr.alloc (.cells #[Value.int .i64 0, .int .i64 0, .int .i64 0, .int .i64 0, .int .i64 0] 24)).alloc (.cells #[Value.int .i64 0, .int .i64 0, .int .i64 0, .int .i64 0, .int .i64 0, .int .i64 0, .int .i64 0, .int .i64 0] 34)).drew.heap[wr.heap.size]? = _ := heap_old hT (.cells #[Value.int .i64 0, .int .i64 0, .int .i64 0, .int .i64 0, .int .i64 0, .int .i64 0, .int .i64 0, .int .i64 0] 34)
            have hR : ((wr.alloc (.cells #[Value.int .i64 0, .int .i64 0, .int .i64 0, .int .i64 0, .int .i64 0] 24)).alloc (.cells #[Value.int .i64 0, .int .i64 0, .int .i64 0, .int .i64 0, .int .i64 0, .int .i64 0, .int .i64 0, .int .i64 0] 34)).drew.heap[wr.heap.size + 1]? = some (.cells #[Value.int .i64 0, .int .i64 0, .int .i64 0, .int .i64 0, .int .i64 0, .int .i64 0, .int .i64 0, .int .i64 0] 34) := by
              have := heap_new (wr.alloc (.cells #[Value.int .i64 0, .int .i64 0, .int .i64 0, .int .i64 0, .int .i64 0] 24)) (.cells #[Value.int .i64 0, .int .i64 0, .int .i64 0, .int .i64 0, .int .i64 0, .int .i64 0, .int .i64 0, .int .i64 0] 34)
              rw [World.size_alloc] at this
              exact this
            refine hK.out _ _ (s9_of h9 (grew hHeld.1 _)) (fun hHeld => ?_)
            clear hK K
            try simp only [Act.put, List.setIfInBounds_toArray, List.set_cons_zero, List.set_cons_succ]
            refine wpAnyH_ready (rs := [9]) (by kernel_rfl) (by simp) ?_
            refine AllReadyH.cons (o := ?o9oTR) ?hi9oTR ?step9oTR AllReadyH.nil
            case hi9oTR => (simp only [List.getElem?_toArray, List.getElem?_cons_succ, List.getElem?_cons_zero]; rfl)
            case step9oTR =>
              intro K hK
              go_simp
              refine (kl _ hHeld.1).mono ?_
              rintro er w2 ⟨rfl, hb2⟩
              have hThRc := heap_below hThR hb2 (heap_lt hThR)
              have hRc := heap_below hR hb2 (heap_lt hR)
              refine hK.out _ _ (s9_of h9 (hHeld.1.trans (hb2.mono hHeld.1.size))) (fun hHeld => ?_)
              clear hK K
              try simp only [Act.put, List.setIfInBounds_toArray, List.set_cons_zero, List.set_cons_succ]
              have lz := hHeld.1.size
              refine wpAnyH_take (i := 10) (oi := ?oi10oTRC) (v := ?v10oTRC) ?hi10oTRC ?hs10oTRC ?hf10oTRC ?hr10oTRC ?hQ10oTRC (Or.inl ⟨?hw10oTRC, ?hy10oTRC⟩) (by assumption) ?h10oTRC
              case hi10oTRC => (simp only [List.getElem?_toArray, List.getElem?_cons_succ, List.getElem?_cons_zero]; rfl)
              case hs10oTRC => kernel_rfl
              case hf10oTRC => kernel_rfl
              case hr10oTRC => kernel_rfl
              case hw10oTRC => rfl
              case hy10oTRC => (intro w0 hSw; (try dsimp only at hSw); go_simp; first | done | with_reducible rfl)
              case hQ10oTRC => exact fun _ _ _ h => h
              try simp only [Act.put, List.setIfInBounds_toArray, List.set_cons_zero, List.set_cons_succ]
              refine wpAnyH_take (i := 11) (oi := ?oi11oTRC) (v := ?v11oTRC) ?hi11oTRC ?hs11oTRC ?hf11oTRC ?hr11oTRC ?hQ11oTRC (Or.inl ⟨?hw11oTRC, ?hy11oTRC⟩) (by assumption) ?h11oTRC
              case hi11oTRC => (simp only [List.getElem?_toArray, List.getElem?_cons_succ, List.getElem?_cons_zero]; rfl)
              case hs11oTRC => kernel_rfl
              case hf11oTRC => kernel_rfl
              case hr11oTRC => kernel_rfl
              case hw11oTRC => rfl
              case hy11oTRC => (intro w0 hSw; (try dsimp only at hSw); go_simp; first | done | with_reducible rfl)
              case hQ11oTRC => exact fun _ _ _ h => h
              try simp only [Act.put, List.setIfInBounds_toArray, List.set_cons_zero, List.set_cons_succ]
              refine wpAnyH_take (i := 12) (oi := ?oi12oTRC) (v := ?v12oTRC) ?hi12oTRC ?hs12oTRC ?hf12oTRC ?hr12oTRC ?hQ12oTRC (Or.inl ⟨?hw12oTRC, ?hy12oTRC⟩) (by assumption) ?h12oTRC
              case hi12oTRC => (simp only [List.getElem?_toArray, List.getElem?_cons_succ, List.getElem?_cons_zero]; rfl)
              case hs12oTRC => kernel_rfl
              case hf12oTRC => kernel_rfl
              case hr12oTRC => kernel_rfl
              case hw12oTRC => rfl
              case hy12oTRC => (intro w0 hSw; (try dsimp only at hSw); go_simp; first | done | with_reducible rfl)
              case hQ12oTRC => exact fun _ _ _ h => h
              try simp only [Act.put, List.setIfInBounds_toArray, List.set_cons_zero, List.set_cons_succ]
              refine wpAnyH_take (i := 13) (oi := ?oi13oTRC) (v := ?v13oTRC) ?hi13oTRC ?hs13oTRC ?hf13oTRC ?hr13oTRC ?hQ13oTRC (Or.inl ⟨?hw13oTRC, ?hy13oTRC⟩) (by assumption) ?h13oTRC
              case hi13oTRC => (simp only [List.getElem?_toArray, List.getElem?_cons_succ, List.getElem?_cons_zero]; rfl)
              case hs13oTRC => kernel_rfl
              case hf13oTRC => kernel_rfl
              case hr13oTRC => kernel_rfl
              case hw13oTRC => rfl
              case hy13oTRC => (intro w0 hSw; (try dsimp only at hSw); go_simp; first | done | with_reducible rfl)
              case hQ13oTRC => exact fun _ _ _ h => h
              try simp only [Act.put, List.setIfInBounds_toArray, List.set_cons_zero, List.set_cons_succ]
              have hrb : wr.heap.size ≤ wr.heap.size + 1 := by omega
              have hsb : wr.heap.size ≤ wr.heap.size := by omega
              have hne : wr.heap.size + 1 ≠ wr.heap.size := by omega
              have hR0 := hRc
              have hT0 := hThRc
              obtain ⟨V, hV⟩ : ∃ V, w2 = V := ⟨_, rfl⟩
              rw [hV] at hR0 hT0 hHeld ⊢
              generalize hrn : wr.heap.size + 1 = rb at hne hR0 hT0 hHeld ⊢
              generalize hsn : wr.heap.size = sb at hne hR0 hT0 hHeld ⊢
              replace hrb : wr.heap.size ≤ rb := by omega
              replace hsb : wr.heap.size ≤ sb := by omega
              clear hrn hsn
              have zr : ∀ i, V.cell? ⟨rb, i, none⟩ = #[Value.int .i64 0, .int .i64 0, .int .i64 0, .int .i64 0, .int .i64 0, .int .i64 0, .int .i64 0, .int .i64 0][i]? := fun i => Joins.cell_of_block hR0 i
              have fr : ∀ i, V.frozen? ⟨rb, i, none⟩ = false := fun i => Joins.unfrozen_of_block hR0 i
              have lk8 := lk_rec (r := r) hR0 hT0 hne
              refine wpAnyH_ready (rs := [16]) (by kernel_rfl) (by simp) ?_
              refine AllReadyH.cons (o := ?o16oTRC) ?hi16oTRC ?step16oTRC AllReadyH.nil
              case hi16oTRC => (simp only [List.getElem?_toArray, List.getElem?_cons_succ, List.getElem?_cons_zero]; rfl)
              intro K hK
              go_simp
              refine hK.out _ _ (s9_eight hHeld hrb (by omega) (by omega) _ _ _ _ _ _ _ _) (fun hHeld => ?_)
              clear hK K zr fr
              try simp only [Act.put, List.setIfInBounds_toArray, List.set_cons_zero, List.set_cons_succ]
              generalize (((((((V.setCell ⟨rb, 0, none⟩ (.int .i64 r.k)).setCell ⟨rb, 1, none⟩ (.int .i64 r.a)).setCell ⟨rb, 2, none⟩ (.int .i64 r.p)).setCell ⟨rb, 3, none⟩ (.int .i64 r.e.k)).setCell ⟨rb, 4, none⟩ (.int .i64 r.e.j)).setCell ⟨rb, 5, none⟩ (.int .i64 r.e.v)).setCell ⟨rb, 6, none⟩ (.int .i64 r.e.t)).setCell ⟨rb, 7, none⟩ (.int .i64 r.e.c) = V8 at lk8 hHeld ⊢
              obtain ⟨hR8, hT8⟩ := lk8
              have zs : ∀ i, V8.cell? ⟨sb, i, none⟩ = #[Value.int .i64 0, .int .i64 0, .int .i64 0, .int .i64 0, .int .i64 0][i]? := fun i => Joins.cell_of_block hT8 i
              have fs : ∀ i, V8.frozen? ⟨sb, i, none⟩ = false := fun i => Joins.unfrozen_of_block hT8 i
              have lk13 := lk_ent (s := s) hR8 hT8 hne
              refine wpAnyH_ready (rs := [17]) (by kernel_rfl) (by simp) ?_
              refine AllReadyH.cons (o := ?o17oTRC) ?hi17oTRC ?step17oTRC AllReadyH.nil
              case hi17oTRC => (simp only [List.getElem?_toArray, List.getElem?_cons_succ, List.getElem?_cons_zero]; rfl)
              intro K hK
              go_simp
              refine hK.out _ _ (s9_five hHeld hsb (by omega) (by omega) _ _ _ _ _) (fun hHeld => ?_)
              clear hK K zs fs
              try simp only [Act.put, List.setIfInBounds_toArray, List.set_cons_zero, List.set_cons_succ]
              refine wpAnyH_take (i := 18) (oi := ?oi18oTRC) (v := ?v18oTRC) ?hi18oTRC ?hs18oTRC ?hf18oTRC ?hr18oTRC ?hQ18oTRC (Or.inl ⟨?hw18oTRC, ?hy18oTRC⟩) (by assumption) ?h18oTRC
              case hi18oTRC => (simp only [List.getElem?_toArray, List.getElem?_cons_succ, List.getElem?_cons_zero]; rfl)
              case hs18oTRC => kernel_rfl
              case hf18oTRC => kernel_rfl
              case hr18oTRC => kernel_rfl
              case hw18oTRC => rfl
              case hy18oTRC => (intro w0 hSw; (try dsimp only at hSw); go_simp; first | done | with_reducible rfl)
              case hQ18oTRC => exact fun _ _ _ h => h
              try simp only [Act.put, List.setIfInBounds_toArray, List.set_cons_zero, List.set_cons_succ]
              refine wpAnyH_done (by kernel_rfl) ?_ _
              go_wp2_with fail
              go_meet
              case rel => exact ⟨rb, sb, rfl, rfl, rfl, ⟨hrb, hsb, lk13.1, lk13.2, hHeld.1⟩⟩
      case rest =>
        obtain ⟨rb, sb, rfl, rfl, rfl, hL⟩ := hcut
        have hW := HA.out.later hL.below
        have HL : Aside (LkAt wr wc rb sb r s) := hL
        have HW : Aside (AgAt w B wc xb fb g cap (unitsOf xs) f aa k ys tl y) := hW
        clear hW hL
        by_cases he : e = 0
        · have heb : (e != 0) = false := by rw [he]; rfl
          have hds := HST.out he
          clear HST HE he
          rcases hds with ⟨hr, hal⟩ | ⟨hr, hs, hnx, hal⟩
          · subst hr
            have zr : ∀ i, wc.cell? ⟨rb, i, none⟩ = #[Value.int .i64 0, .int .i64 0, .int .i64 0, .int .i64 0, .int .i64 0, .int .i64 0, .int .i64 0, .int .i64 0][i]? := fun i => Joins.cell_of_block HL.out.rbox i
            have zs : ∀ i, wc.cell? ⟨sb, i, none⟩ = #[Value.int .i64 s.k, .int .i64 s.j, .int .i64 s.v, .int .i64 s.t, .int .i64 s.c][i]? := fun i => Joins.cell_of_block HL.out.sbox i
            have zx : ∀ i, wc.cell? ⟨xb, i, none⟩ = #[Value.int .i64 y.k, .int .i64 y.j, .int .i64 y.v, .int .i64 y.t, .int .i64 y.c][i]? := fun i => Joins.cell_of_block HW.out.xbox i
            have fx : ∀ i, wc.frozen? ⟨xb, i, none⟩ = false := fun i => Joins.unfrozen_of_block HW.out.xbox i
            have HN2 : Aside _ := HW.out.put hal
            clear HK HR0 HR1 hal
            go_wp2
            go_roundw
            case rel => exact ⟨k + 1, by omega, by go_num, _, _, _, HN2.out⟩
            case measure => simp [intOf]; omega
          · subst hr hs
            have kn := fun W (hb : Below wc.heap.size wc W) => HK.out W (HL.out.below.trans (hb.mono HL.out.below.size))
            rw [hnx] at kn
            replace kn : ∀ W, Below wc.heap.size wc W → AnsN 9 (.slice aq nq cq) #[.agg #[.int .i64 u.p, .slice aq nq cq], Rc.val ⟨1, (aa : Int), 0, s⟩] W (⟨u.p, u.cells.set aa s⟩, 0) := kn
            have h13 : S13B wc g k u.p (.slice aq nq cq) rb aa s := ⟨cell_later HL.out.below HR0.out, cell_later HL.out.below HR1.out, HL.out.rbox⟩
            have zr : ∀ i, wc.cell? ⟨rb, i, none⟩ = #[Value.int .i64 1, .int .i64 (aa : Int), .int .i64 0, .int .i64 s.k, .int .i64 s.j, .int .i64 s.v, .int .i64 s.t, .int .i64 s.c][i]? := fun i => Joins.cell_of_block HL.out.rbox i
            clear HK HR0 HR1
            go_upto_region 13 with fail
            clear zr
            refine wp_region_noPanic ?_
            refine region_L (fun W' => S13 wc W' g k u.p (.slice aq nq cq) rb aa s) 12 (by kernel_rfl) (s13_of h13 (Below.refl _ wc).drew) (fun hHeld => ?_)
            refine anyL_take (i := 0) (v := ?_) rfl (by kernel_rfl) (by kernel_rfl) (by kernel_rfl) (by kernel_rfl) (by kernel_rfl) (fun _ _ _ h => h) (Or.inl ⟨by rfl, ?_⟩) (by assumption) ?_
            rotate_left
            · (intro w0 hSw; (try dsimp only at hSw); go_simp; first | done | with_reducible rfl)
            try simp only [Act.put, List.setIfInBounds_toArray, List.set_cons_zero, List.set_cons_succ]
            refine anyL_take (i := 1) (v := ?_) rfl (by kernel_rfl) (by kernel_rfl) (by kernel_rfl) (by kernel_rfl) (by kernel_rfl) (fun _ _ _ h => h) (Or.inl ⟨by rfl, ?_⟩) (by assumption) ?_
            rotate_left
            · (intro w0 hSw; (try dsimp only at hSw); go_simp; first | done | with_reducible rfl)
            try simp only [Act.put, List.setIfInBounds_toArray, List.set_cons_zero, List.set_cons_succ]
            refine anyL_take (i := 2) (v := ?_) rfl (by kernel_rfl) (by kernel_rfl) (by kernel_rfl) (by kernel_rfl) (by kernel_rfl) (fun _ _ _ h => h) (Or.inl ⟨by rfl, ?_⟩) (by assumption) ?_
            rotate_left
            · (intro w0 hSw; (try dsimp only at hSw); go_simp; first | done | with_reducible rfl)
            try simp only [Act.put, List.setIfInBounds_toArray, List.set_cons_zero, List.set_cons_succ]
            refine anyL_take (i := 3) (v := ?_) rfl (by kernel_rfl) (by kernel_rfl) (by kernel_rfl) (by kernel_rfl) (by kernel_rfl) (fun _ _ _ h => h) (Or.inl ⟨by rfl, ?_⟩) (by assumption) ?_
            rotate_left
            · (intro w0 hSw; (try dsimp only at hSw); go_simp; first | done | with_reducible rfl)
            try simp only [Act.put, List.setIfInBounds_toArray, List.set_cons_zero, List.set_cons_succ]
            refine anyL_take (i := 4) (v := ?_) rfl (by kernel_rfl) (by kernel_rfl) (by kernel_rfl) (by kernel_rfl) (by kernel_rfl) (fun _ _ _ h => h) (Or.inl ⟨by rfl, ?_⟩) (by assumption) ?_
            rotate_left
            · (intro w0 hSw; (try dsimp only at hSw); go_simp; first | done | with_reducible rfl)
            try simp only [Act.put, List.setIfInBounds_toArray, List.set_cons_zero, List.set_cons_succ]
            refine anyL_take (i := 5) (v := ?_) rfl (by kernel_rfl) (by kernel_rfl) (by kernel_rfl) (by kernel_rfl) (by kernel_rfl) (fun _ _ _ h => h) (Or.inl ⟨by rfl, ?_⟩) (by assumption) ?_
            rotate_left
            · (intro w0 hSw; (try dsimp only at hSw); go_simp; first | done | with_reducible rfl)
            try simp only [Act.put, List.setIfInBounds_toArray, List.set_cons_zero, List.set_cons_succ]
            refine anyL_take (i := 6) (v := ?_) rfl (by kernel_rfl) (by kernel_rfl) (by kernel_rfl) (by kernel_rfl) (by kernel_rfl) (fun _ _ _ h => h) (Or.inl ⟨by rfl, ?_⟩) (by assumption) ?_
            rotate_left
            · (intro w0 hSw; (try dsimp only at hSw); go_simp; first | done | with_reducible rfl)
            try simp only [Act.put, List.setIfInBounds_toArray, List.set_cons_zero, List.set_cons_succ]
            refine anyL_one (i := 7) (by kernel_rfl) rfl (fun K hK => ?_)
            go_simp
            have hHeld0 := hHeld
            refine (kn _ hHeld.1).mono ?_
            rintro er w5 ⟨v2, he2, hn2, hb2, hnear⟩
            change er = .returned (.tuple #[.agg #[.int .i64 u.p, v2], .int .i64 0]) at he2
            subst he2
            obtain ⟨a2, n2, c2, hv2, _⟩ := id hn2.room
            subst hv2
            have hW5 := hHeld.1.trans (hb2.mono hHeld.1.size)
            refine hK.out _ _ (fun _ => s13_of h13 hW5) (fun hNext => ?_)
            replace hNext := hNext (by kernel_rfl)
            clear hK K 
            try simp only [Act.put, List.setIfInBounds_toArray, List.set_cons_zero, List.set_cons_succ]
            refine anyL_take (i := 8) (v := ?_) rfl (by kernel_rfl) (by kernel_rfl) (by kernel_rfl) (by kernel_rfl) (by kernel_rfl) (fun _ _ _ h => h) (Or.inl ⟨by rfl, ?_⟩) (by assumption) ?_
            rotate_left
            · (intro w0 hSw; (try dsimp only at hSw); go_simp; first | done | with_reducible rfl)
            try simp only [Act.put, List.setIfInBounds_toArray, List.set_cons_zero, List.set_cons_succ]
            refine anyL_take (i := 9) (v := ?_) rfl (by kernel_rfl) (by kernel_rfl) (by kernel_rfl) (by kernel_rfl) (by kernel_rfl) (fun _ _ _ h => h) (Or.inl ⟨by rfl, ?_⟩) (by assumption) ?_
            rotate_left
            · (intro w0 hSw; (try dsimp only at hSw); go_simp; first | done | with_reducible rfl)
            try simp only [Act.put, List.setIfInBounds_toArray, List.set_cons_zero, List.set_cons_succ]
            refine anyL_free (i := 10) (v := ?_) rfl (by kernel_rfl) (by kernel_rfl) (by kernel_rfl) (by kernel_rfl) (fun _ _ _ h => h) (Or.inl ⟨by rfl, ?_⟩) (by assumption) ?_
            rotate_left
            · (intro w0 _; go_simp; first | done | with_reducible rfl)
            try simp only [Act.put, List.setIfInBounds_toArray, List.set_cons_zero, List.set_cons_succ]
            refine anyL_take (i := 11) (v := ?_) rfl (by kernel_rfl) (by kernel_rfl) (by kernel_rfl) (by kernel_rfl) (by kernel_rfl) (fun _ _ _ h => h) (Or.inl ⟨by rfl, ?_⟩) (by assumption) ?_
            rotate_left
            · (intro w0 hSw; (try dsimp only at hSw); go_simp; first | done | with_reducible rfl)
            try simp only [Act.put, List.setIfInBounds_toArray, List.set_cons_zero, List.set_cons_succ]
            have hA5 := HW.out.later hW5
            have hfq : ∀ q, (Value.slice a2 n2 c2).ownBlock = some q → q ≠ g ∧ q ≠ xb := fun q hq => by
              rcases hnear q hq with hh | hh
              · have := hHeld0.1.size
                have := HL.out.below.size
                omega
              · exact hA5.far ⟨u, .slice aq nq cq⟩ HZM.out q hh
            have hA6 := hA5.wrote hlt ⟨⟨u.p, u.cells.set aa s⟩, .slice a2 n2 c2⟩ hn2 hfq hal
            have hs5 := heap_below HL.out.sbox hW5 (heap_lt HL.out.sbox)
            have z0 : ∃ q, w5.cell? ⟨g, k * 2, none⟩ = some q := ⟨_, cell_later hW5 h13.c0⟩
            have z1 : ∃ q, w5.cell? ⟨g, k * 2 + 1, none⟩ = some q := ⟨_, cell_later hW5 h13.c1⟩
            obtain ⟨q0, z0⟩ := z0
            obtain ⟨q1, z1⟩ := z1
            have fg : ∀ i, w5.frozen? ⟨g, i, none⟩ = false := fun i => Joins.unfrozen_of_block hA5.row.blk i
            refine anyL_one (i := 12) (by kernel_rfl) rfl (fun K hK => ?_)
            go_simp
            refine hK.out _ _ (fun h => absurd h (by decide +kernel)) (fun _ => ?_)
            clear hK K
            try simp only [Act.put, List.setIfInBounds_toArray, List.set_cons_zero, List.set_cons_succ]
            refine anyL_one (i := 13) (by kernel_rfl) rfl (fun K hK => ?_)
            go_simp
            refine hK.out _ _ (fun h => absurd h (by decide +kernel)) (fun _ => ?_)
            clear hK K
            try simp only [Act.put, List.setIfInBounds_toArray, List.set_cons_zero, List.set_cons_succ]
            refine anyL_done (by kernel_rfl) ?_ _
            refine NoPanic.normal ?_
            try simp only [Act.put, List.setIfInBounds_toArray, List.set_cons_zero, List.set_cons_succ]
            have hsg : sb ≠ g := by have := HL.out.sn; omega
            have HA6 : Aside _ := hA6
            have HS6 : Aside (((w5.setCell ⟨g, k * 2, none⟩ (.int .i64 u.p)).setCell ⟨g, k * 2 + 1, none⟩ (.slice a2 n2 c2)).heap[sb]? = some (boxE s.k s.j s.v s.t s.c)) := by rw [Aside, keep1 hsg, keep1 hsg]; exact hs5
            clear hA6 hs5 hA5 hfq hn2 hb2 hnear kn h13 hW5 z0 z1 fg hHeld hHeld0 hNext HW hal hnx
            dsimp only at HA6
            generalize (w5.setCell ⟨g, k * 2, none⟩ (.int .i64 u.p)).setCell ⟨g, k * 2 + 1, none⟩ (.slice a2 n2 c2) = W6 at *
            have zs : ∀ i, W6.cell? ⟨sb, i, none⟩ = #[Value.int .i64 s.k, .int .i64 s.j, .int .i64 s.v, .int .i64 s.t, .int .i64 s.c][i]? := fun i => Joins.cell_of_block HS6.out i
            have zx : ∀ i, W6.cell? ⟨xb, i, none⟩ = #[Value.int .i64 s.k, .int .i64 s.j, .int .i64 s.v, .int .i64 s.t, .int .i64 s.c][i]? := fun i => Joins.cell_of_block HA6.out.xbox i
            have fx : ∀ i, W6.frozen? ⟨xb, i, none⟩ = false := fun i => Joins.unfrozen_of_block HA6.out.xbox i
            have HN2 : Aside _ := HA6.out.put HA6.out.along
            go_wp2
            go_roundw
            case rel => exact ⟨k + 1, by omega, by go_num, _, _, _, HN2.out⟩
            case measure => simp [intOf]; omega
        · have heb : (e != 0) = true := by rw [bne_iff_ne]; exact he
          obtain rfl := HE.out he
          clear HST HE he HK HR0 HR1
          have HB6 : Aside (Below w.heap.size w wc) := HW.out.below
          go_wp2
          go_ret
          exact ⟨rfl, HB6.out⟩
    · obtain rfl : k = 3 := by omega
      have hrd := HC.out.read (.slice (some ⟨g, 0, none⟩) 3 cap) ys (aa : Int) wr hA.row.ch (fits_of hA.along.ck)
      rw [along_read hA.along haa] at hrd
      replace hrd : Calls Try.prog 10 #[(.slice (some ⟨g, 0, none⟩) 3 cap), .int .i64 (aa : Int)] wr fun er w' => er = .returned (.tuple #[y.val, .int .i64 0]) ∧ Below wr.heap.size wr w' := hrd
      have HA : Aside (AgAt w B wr xb fb g cap (unitsOf xs) f aa 3 ys tl y) := hA
      clear hA
      go_wp2_with fail
      refine hrd.mono ?_
      rintro er w4 ⟨rfl, hb4⟩
      have hA5 := HA.out.later (grew hb4 (boxE y.k y.j y.v y.t y.c))
      have hyb := heap_new w4 (boxE y.k y.j y.v y.t y.c)
      have hcy := fun W (hb : Below (w4.alloc (boxE y.k y.j y.v y.t y.c)).heap.size (w4.alloc (boxE y.k y.j y.v y.t y.c)) W) => HC.out.check (.slice (some ⟨g, 0, none⟩) 3 cap) ys W (hA5.row.later hb).ch (fits_of hA5.along.ck)
      rw [hA5.along.ck] at hcy
      have hlast := along_last hA5.along
      rw [HFE.out] at hlast
      have HL : Hid (f.k = 4 ∨ y = f) := hlast
      have HA5 : Aside _ := hA5
      have HY5 : Aside _ := hyb
      clear hrd hb4 hA5 hyb hlast HA
      go_upto_region 19 with fail
      generalize w4.alloc (boxE y.k y.j y.v y.t y.c) = W5 at *
      generalize w4.heap.size = yb at *
      have zy : ∀ i, W5.cell? ⟨yb, i, none⟩ = #[Value.int .i64 y.k, .int .i64 y.j, .int .i64 y.v, .int .i64 y.t, .int .i64 y.c][i]? := fun i => Joins.cell_of_block HY5.out i
      have zx : ∀ i, W5.cell? ⟨xb, i, none⟩ = #[Value.int .i64 y.k, .int .i64 y.j, .int .i64 y.v, .int .i64 y.t, .int .i64 y.c][i]? := fun i => Joins.cell_of_block HA5.out.xbox i
      have heq := fun W => eql_entry y.k y.j y.v y.t y.c y.k y.j y.v y.t y.c W
      rw [show unlike y.k y.j y.v y.t y.c y.k y.j y.v y.t y.c = false by simp [unlike]] at heq
      have hcy5 := hcy W5 (Below.refl _ _)
      clear hcy
      go_wp2_with fail
      refine hcy5.mono ?_
      rintro er w6 ⟨rfl, hb6⟩
      have hA6 := HA5.out.later hb6
      have hy6 := heap_below HY5.out hb6 (heap_lt HY5.out)
      have HB6 : Aside (Below w.heap.size w w6) := hA6.below
      have zf : ∀ i, w6.cell? ⟨fb, i, none⟩ = #[Value.int .i64 f.k, .int .i64 f.j, .int .i64 f.v, .int .i64 f.t, .int .i64 f.c][i]? := fun i => Joins.cell_of_block hA6.fbox i
      have zy6 : ∀ i, w6.cell? ⟨yb, i, none⟩ = #[Value.int .i64 y.k, .int .i64 y.j, .int .i64 y.v, .int .i64 y.t, .int .i64 y.c][i]? := fun i => Joins.cell_of_block hy6 i
      clear zy zx hcy5 hb6 hA6 hy6 HY5 HA5 heq
      by_cases hf4 : f.k = 4
      · have hfk : (f.k == 4) = true := by rw [hf4]; rfl
        clear HL hf4
        go_wp2
        go_ret
        exact ⟨rfl, HB6.out⟩
      · have hfk : (f.k == 4) = false := by rw [beq_eq_false_iff_ne]; exact hf4
        have hyf := HL.out.resolve_left hf4
        subst hyf
        have heq := fun W => eql_entry y.k y.j y.v y.t y.c y.k y.j y.v y.t y.c W
        rw [show unlike y.k y.j y.v y.t y.c y.k y.j y.v y.t y.c = false by simp [unlike]] at heq
        clear HL hf4
        go_wp2
        go_ret
        exact ⟨rfl, HB6.out⟩

end Go.Proofs.Ytaialgacaomaeae
