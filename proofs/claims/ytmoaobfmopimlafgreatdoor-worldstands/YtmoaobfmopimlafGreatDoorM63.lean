/- For the law. -/
import Derived.Test.YtmoaobfmopimlafGreatDoorM62
set_option linter.unusedSimpArgs false
set_option linter.unusedVariables false
namespace Go.Proofs.YtmoaobfmopimlafGreatDoor
open Go.RowKit
section
open scoped Classical
theorem noByte_er (es : List Int) : NoByte (es.map (Value.int .i64)) := fun x hx => by
 obtain ⟨q, _, hq⟩ := List.mem_map.1 hx
 cases hq
theorem BelowX.far {B g1 g2 : Nat} {X w : World} (h : BelowX B g1 g2 X w) {p : Addr} (hp : X.heap.size ≤ p.block) (u : Value) : BelowX B g1 g2 X (w.setCell p u) :=
 ⟨h.os, h.tape, h.output, Nat.le_trans h.size (by simp [World.setCell]), fun k hk n1 n2 n3 => (Below.heap_setCell _ _ _ _ (by omega)).trans (h.block k hk n1 n2 n3)⟩
theorem WSt.setS {X w : World} {B g1 g2 : Nat} {NC CC : List Value} {tip t : Int} {L : List Nb} {M : List Cb} (h : WSt X w B g1 g2 NC tip CC t L M) {Q : Nat} {l : List Value} {T : TypeId} (hq : w.heap[Q]? = some (.cells l.toArray T)) (hnb : NoByte l) (hs : l.length < 300)
  (hj : 120 ≠ T) (hr : 76 ≠ T) (hB : Q ≠ B) (h1 : Q ≠ g1) (h2 : Q ≠ g2) (hX : X.heap.size ≤ Q) (i : Nat) (v : Value) : WSt X (w.setCell ⟨Q, i, none⟩ v) B g1 g2 NC tip CC t L M :=
 ⟨other_block h.box hB.symm i v, other_block h.nrow h1.symm i v, other_block h.crow h2.symm i v, h.nlen, h.clen, h.nby, h.cby,
  fun x hx => node_off (h.nodes x hx) hq (by simpa using hs) (fun x hx => hnb x (by simpa using hx)) i v, fun x hx => client_off (h.clients x hx) hq hj hr i v, h.below.far (by exact hX) _⟩
theorem WHas.below {X w : World} {B g1 g2 : Nat} {W : Wd} (h : WHas X w B g1 g2 W) : BelowX B g1 g2 X w := by
 obtain ⟨xs, cs, h1, _⟩ := h
 exact h1.st.below
theorem WHas.self {X w : World} {B g1 g2 : Nat} {W : Wd} (h : WHas X w B g1 g2 W) : WHas w w B g1 g2 W := by
 obtain ⟨xs, cs, ⟨⟨a, b, c, d, e, f, g, i, j, _⟩, h3, h4⟩, h2⟩ := h
 exact ⟨xs, cs, ⟨⟨a, b, c, d, e, f, g, i, j, BelowX.refl _ _ _ _⟩, h3, h4⟩, h2⟩
theorem WHas.past {X V w : World} {B g1 g2 : Nat} {W : Wd} (h : WHas V w B g1 g2 W) (hb : BelowX B g1 g2 X V) : WHas X w B g1 g2 W := by
 obtain ⟨xs, cs, ⟨⟨a, b, c, d, e, f, g, i, j, k⟩, h3, h4⟩, h2⟩ := h
 exact ⟨xs, cs, ⟨⟨a, b, c, d, e, f, g, i, j, hb.trans k⟩, h3, h4⟩, h2⟩
structure SaidAt (X wr : World) (B g1 g2 Q : Nat) (W : Wd) (l : List Hp) (n k : Nat) : Prop where
 has : WHas X wr B g1 g2 (runL W (l.take k)).1
 row : ∃ es : List Int, wr.heap[Q]? = some (.cells (es.map (Value.int .i64)).toArray 30) ∧ es.length = n ∧ es.take k = (runL W (l.take k)).2
 far : X.heap.size ≤ Q
 nB : Q ≠ B
 n1 : Q ≠ g1
 n2 : Q ≠ g2
theorem SaidAt.later {X wr w' : World} {B g1 g2 Q : Nat} {W : Wd} {l : List Hp} {n k : Nat} (h : SaidAt X wr B g1 g2 Q W l n k) (hb : Below wr.heap.size wr w') : SaidAt X w' B g1 g2 Q W l n k := by
 obtain ⟨es, h1, h2, h3⟩ := h.row
 exact ⟨h.has.later hb, ⟨es, heap_below h1 hb (heap_lt h1), h2, h3⟩, h.far, h.nB, h.n1, h.n2⟩
theorem SaidAt.step {X V w2 : World} {B g1 g2 Q : Nat} {W : Wd} {l : List Hp} {n k : Nat} (h : SaidAt X V B g1 g2 Q W l n k) (hn : n ≤ 150) (hk : k < n) {x : Hp} (hx : l[k]? = some x) (h2 : WHas V w2 B g1 g2 (happened (runL W (l.take k)).1 x).1) :
  (∃ v, w2.cell? ⟨Q, k, none⟩ = some v) ∧ w2.frozen? ⟨Q, k, none⟩ = false ∧ SaidAt X (w2.setCell ⟨Q, k, none⟩ (.int .i64 (happened (runL W (l.take k)).1 x).2)) B g1 g2 Q W l n (k + 1) := by
 obtain ⟨es, e1, e2, e3⟩ := h.row
 have hq : w2.heap[Q]? = some (.cells (es.map (Value.int .i64)).toArray 30) := by
  rw [h2.below.block Q (heap_lt e1) h.nB h.n1 h.n2]; exact e1
 have hrun : runL W (l.take (k + 1)) = ((happened (runL W (l.take k)).1 x).1, (runL W (l.take k)).2 ++ [(happened (runL W (l.take k)).1 x).2]) := by
  rw [List.take_add_one, hx]
  exact runL_snoc _ _ _
 refine ⟨⟨.int .i64 (es[k]'(by omega)), ?_⟩, Joins.unfrozen_of_block hq k, ?_⟩
 ·rw [Joins.cell_of_block hq]
  simp
 refine ⟨?_, ⟨es.set k (happened (runL W (l.take k)).1 x).2, ?_, by rw [List.length_set]; exact e2, ?_⟩, h.far, h.nB, h.n1, h.n2⟩
 ·rw [hrun]
  obtain ⟨xs, cs, hi, i2, i3⟩ := h2.past h.has.below
  exact ⟨xs, cs, ⟨hi.st.setS hq (noByte_er es) (by rw [List.length_map]; omega) (by decide) (by decide) h.nB h.n1 h.n2 h.far k _, hi.three, hi.three'⟩, i2, i3⟩
 ·rw [List.map_set]
  exact block_put hq k _
 ·rw [hrun, List.take_add_one, List.getElem?_set_self (by omega), List.take_set_of_le (Nat.le_refl k), e3]
  rfl
def SaidO (X w : World) (v : Value) (es : List Int) : Prop := (v = .slice none 0 0 ∧ es = []) ∨ ∃ Q, v = .slice (some ⟨Q, 0, none⟩) es.length es.length ∧ X.heap.size ≤ Q ∧ w.heap[Q]? = some (.cells (es.map (Value.int .i64)).toArray 30)
theorem SaidO.sl {X w : World} {v : Value} {es : List Int} (h : SaidO X w v es) : ErSl w v es := by
 rcases h with ⟨rfl, rfl⟩ | ⟨Q, rfl, _, h⟩
 ·exact SlOf.nil _ _
 ·rw [← erC_map] at h
  exact slOf_lit erC_one h rfl
abbrev AnsRun (f : FuncId) (args : Array Value) (w : World) (r : Wd × List Int × Int) : Prop :=
 Calls Tryz.prog f args w fun e w' => ∃ vn vc sv, e = .returned (.tuple #[wval vn r.1.tip vc r.1.t, sv, .int .i64 r.2.2]) ∧ WOut w w' vn vc r.1 ∧ SaidO w w' sv r.2.1 ∧ Below w.heap.size w w'
theorem ret3_world {fn : Func} {R : Ending → World → Prop} {a : Act} {W : World} {b p q s : Nat} {vn vc y z : Value} {tip t : Int} (hf : fn.results = #[.cell p 25, .tmp q, .tmp s]) (hd : a.defers = [])
  (h2 : a.tmps.getD p undef = .pointer (some ⟨b, 0, none⟩)) (h3 : a.tmps.getD q undef = y) (h4 : a.tmps.getD s undef = z) (hR : W.heap[b]? = some (boxW vn tip vc t)) (hp : R (.returned (.tuple #[wval vn tip vc t, y, z])) W) : bodyPost Tryz.prog fn R .ret a W := by
 have c0 := fun i => Joins.cell_of_block hR i
 refine bodyPost_ret (v := .tuple #[wval vn tip vc t, y, z]) ?_ hd hp
 simp only [results, hf]
 simp at h2 h3 h4
 simp [go_sem, c0, h2, h3, h4]
set_option maxHeartbeats 4000000 in
set_option maxRecDepth 100000 in
theorem run_wrong (vn vc : Value) (xs : List Nb) (cs : List Cb) (tip t : Int) (a : Option Addr) (n c : Nat) (w : World) (hL : Laid w) (h : WdAt w vn vc xs cs) (hf : WdFits xs cs) (d : Int) (hd : (wdOf xs tip cs t).ck = d) (hz : d ≠ 0) :
  AnsRun 17 #[wval vn tip vc t, .slice a n c] w (Wd.zero, [], d) := by
 obtain ⟨a1, n1, c1, rfl⟩ := slOf_sl h.rowN
 obtain ⟨a2, n2, c2, rfl⟩ := slOf_sl h.rowC
 have hB0 : Below w.heap.size w ((w.alloc (boxW (.slice a1 n1 c1) tip (.slice a2 n2 c2) t)).alloc boxWZ) := grew (grew (Below.refl _ _) _) _
 have HB0 : Aside (Below w.heap.size w ((w.alloc (boxW (.slice a1 n1 c1) tip (.slice a2 n2 c2) t)).alloc boxWZ)) := hB0
 have HX0 : Aside (((w.alloc (boxW (.slice a1 n1 c1) tip (.slice a2 n2 c2) t)).alloc boxWZ).heap[w.heap.size]? = some (boxW (.slice a1 n1 c1) tip (.slice a2 n2 c2) t)) := heap_old (heap_new _ _) _
 have HY0 : Aside (((w.alloc (boxW (.slice a1 n1 c1) tip (.slice a2 n2 c2) t)).alloc boxWZ).heap[w.heap.size + 1]? = some boxWZ) := by
  have := heap_new (w.alloc (boxW (.slice a1 n1 c1) tip (.slice a2 n2 c2) t)) boxWZ
  rwa [World.size_alloc] at this
 have kd := w_check (.slice a1 n1 c1) (.slice a2 n2 c2) xs cs tip t ((w.alloc (boxW (.slice a1 n1 c1) tip (.slice a2 n2 c2) t)).alloc boxWZ) (hL.later hB0) (h.later hB0) hf
 rw [hd] at kd
 have hdb : (d != 0) = true := by rw [bne_iff_ne]; exact hz
 clear hL h hf hd hz hB0
 go_enter Tryz.func17, Tryz.ntmps17
 go_upto_region 1 with fail
 generalize (w.alloc (boxW (.slice a1 n1 c1) tip (.slice a2 n2 c2) t)).alloc boxWZ = W0 at *
 have z := cb HX0
 go_wp2_with fail
 refine kd.mono ?_
 rintro e w1 ⟨rfl, hb1⟩
 have HB1 := sb HB0 hb1
 have HY1 := hv HY0 hb1
 clear kd z HB0 HX0 HY0 hb1
 have y1 := cb HY1
 have f1 := cf HY1
 go_wp2
 exact ret3_world (p := 4) (q := 5) (s := 6) Tryz.results17 rfl rfl rfl rfl (stW_box HY1.out (.slice none 0 0) 0 (.slice none 0 0) 0) ⟨_, _, _, rfl, Or.inl ⟨rfl, rfl, rfl⟩, Or.inl ⟨rfl, rfl⟩, stW_below HB1.out (by omega) _ _ _ _⟩
set_option maxHeartbeats 4000000 in
set_option maxRecDepth 100000 in
theorem run_many (vn vc : Value) (xs : List Nb) (cs : List Cb) (tip t : Int) (a : Option Addr) (n c : Nat) (w : World) (hL : Laid w) (h : WdAt w vn vc xs cs) (hf : WdFits xs cs) (hz : (wdOf xs tip cs t).ck = 0) (hn : 150 < (n : Int)) :
  AnsRun 17 #[wval vn tip vc t, .slice a n c] w (Wd.zero, [], 2) := by
 obtain ⟨a1, n1, c1, rfl⟩ := slOf_sl h.rowN
 obtain ⟨a2, n2, c2, rfl⟩ := slOf_sl h.rowC
 have hB0 : Below w.heap.size w ((w.alloc (boxW (.slice a1 n1 c1) tip (.slice a2 n2 c2) t)).alloc boxWZ) := grew (grew (Below.refl _ _) _) _
 have HB0 : Aside (Below w.heap.size w ((w.alloc (boxW (.slice a1 n1 c1) tip (.slice a2 n2 c2) t)).alloc boxWZ)) := hB0
 have HX0 : Aside (((w.alloc (boxW (.slice a1 n1 c1) tip (.slice a2 n2 c2) t)).alloc boxWZ).heap[w.heap.size]? = some (boxW (.slice a1 n1 c1) tip (.slice a2 n2 c2) t)) := heap_old (heap_new _ _) _
 have HY0 : Aside (((w.alloc (boxW (.slice a1 n1 c1) tip (.slice a2 n2 c2) t)).alloc boxWZ).heap[w.heap.size + 1]? = some boxWZ) := by
  have := heap_new (w.alloc (boxW (.slice a1 n1 c1) tip (.slice a2 n2 c2) t)) boxWZ
  rwa [World.size_alloc] at this
 have kd := w_check (.slice a1 n1 c1) (.slice a2 n2 c2) xs cs tip t ((w.alloc (boxW (.slice a1 n1 c1) tip (.slice a2 n2 c2) t)).alloc boxWZ) (hL.later hB0) (h.later hB0) hf
 rw [hz] at kd
 clear hL h hf hz hB0
 go_enter Tryz.func17, Tryz.ntmps17
 go_upto_region 1 with fail
 generalize (w.alloc (boxW (.slice a1 n1 c1) tip (.slice a2 n2 c2) t)).alloc boxWZ = W0 at *
 have z := cb HX0
 go_wp2_with fail
 refine kd.mono ?_
 rintro e w1 ⟨rfl, hb1⟩
 have HB1 := sb HB0 hb1
 have HY1 := hv HY0 hb1
 clear kd z HB0 HX0 HY0 hb1
 have y1 := cb HY1
 have f1 := cf HY1
 go_wp2
 exact ret3_world (p := 4) (q := 5) (s := 6) Tryz.results17 rfl rfl rfl rfl (stW_box HY1.out (.slice none 0 0) 0 (.slice none 0 0) 0) ⟨_, _, _, rfl, Or.inl ⟨rfl, rfl, rfl⟩, Or.inl ⟨rfl, rfl⟩, stW_below HB1.out (by omega) _ _ _ _⟩
set_option maxHeartbeats 4000000 in
set_option maxRecDepth 100000 in
theorem run_good (a1 a2 : Option Addr) (c1 c2 : Nat) (xs : List Nb) (cs : List Cb) (tip t : Int) (a : Option Addr) (n c : Nat) (l : List Hp) (w : World) (hL : Laid w) (h : WdAt w (.slice a1 3 c1) (.slice a2 3 c2) xs cs) (hf : WdFits xs cs) (hl : HpSl w (.slice a n c) l) (hn : (n : Int) ≤ 150) (hz : (wdOf xs tip cs t).ck = 0)
  (h60 : ∀ x, x ∈ xs → x.n.u.cells.length = 60 ∧ x.n.s.length ≤ 1000000 ∧ x.n.w.length ≤ 1000000) (hjr : ∀ x, x ∈ cs → x.c.js.length ≤ 1000000 ∧ x.c.rs.length ≤ 1000000) (R : Wd × List Int) (hR : runL (wdOf xs tip cs t) l = R) :
  AnsRun 17 #[wval (.slice a1 3 c1) tip (.slice a2 3 c2) t, .slice a n c] w (R.1, R.2, 0) := by
 obtain ⟨i0, hi, hz0, hz1, hz2⟩ := info_parts infoEr
 have hB0 : Below w.heap.size w ((w.alloc (boxW (.slice a1 3 c1) tip (.slice a2 3 c2) t)).alloc boxWZ) := grew (grew (Below.refl _ _) _) _
 have HB0 : Aside (Below w.heap.size w ((w.alloc (boxW (.slice a1 3 c1) tip (.slice a2 3 c2) t)).alloc boxWZ)) := hB0
 have HX0 : Aside (((w.alloc (boxW (.slice a1 3 c1) tip (.slice a2 3 c2) t)).alloc boxWZ).heap[w.heap.size]? = some (boxW (.slice a1 3 c1) tip (.slice a2 3 c2) t)) := heap_old (heap_new _ _) _
 have HY0 : Aside (((w.alloc (boxW (.slice a1 3 c1) tip (.slice a2 3 c2) t)).alloc boxWZ).heap[w.heap.size + 1]? = some boxWZ) := by
  have := heap_new (w.alloc (boxW (.slice a1 3 c1) tip (.slice a2 3 c2) t)) boxWZ
  rwa [World.size_alloc] at this
 have kd := w_check (.slice a1 3 c1) (.slice a2 3 c2) xs cs tip t ((w.alloc (boxW (.slice a1 3 c1) tip (.slice a2 3 c2) t)).alloc boxWZ) (hL.later hB0) (h.later hB0) hf
 rw [hz] at kd
 have kA : Aside (∀ V, Below w.heap.size w V → Calls Tryz.prog 23 #[wval (.slice a1 3 c1) tip (.slice a2 3 c2) t] V fun e w' => ∃ g1 g2 ys ds, e = .returned (wval (.slice (some ⟨g1, 0, none⟩) 3 3) tip (.slice (some ⟨g2, 0, none⟩) 3 3) t) ∧ WRow V w' g1 g2 ys ds ∧ nodesOf ys = nodesOf xs ∧ clientsOf ds = clientsOf cs) := fun V hV => w_apart_at a1 a2 c1 c2 xs cs tip t V (h.later hV) h60 hjr
 have KL : Aside (∀ V, Below w.heap.size w V → Laid V) := fun V hV => hL.later hV
 have HRW : Hid (RW (wdOf xs tip cs t)) := rw_iff.1 hz
 have HQ : Hid (runL (wdOf xs tip cs t) l = R) := hR
 have H : Aside (HpSl w (.slice a n c) l) := hl
 have HL : Hid (l.length = n) := hl.len
 have hnl : (150 < (n : Int)) = False := eq_false (by omega)
 obtain ⟨W, HW⟩ : ∃ W, Hid (wdOf xs tip cs t = W) := ⟨_, rfl⟩
 rw [HW.out] at HRW HQ
 clear hL h hf hz hB0 h60 hjr hR hl
 go_enter Tryz.func17, Tryz.ntmps17
 go_upto_region 1 with fail
 generalize (w.alloc (boxW (.slice a1 3 c1) tip (.slice a2 3 c2) t)).alloc boxWZ = W0 at *
 have z := cb HX0
 go_wp2_with fail
 refine kd.mono ?_
 rintro e w1 ⟨rfl, hb1⟩
 have HB1 := sb HB0 hb1
 have HX1 := hv HX0 hb1
 have HY1 := hv HY0 hb1
 clear kd z HB0 HX0 HY0 hb1
 have z := cb HX1
 have ka := kA.out w1 HB1.out
 go_wp2_with fail
 refine ka.mono ?_
 rintro e w2 ⟨g1, g2, ys, ds, rfl, hR, hn', hc'⟩
 have hA : Below w2.heap.size w2 (w2.alloc (boxW (.slice (some ⟨g1, 0, none⟩) 3 3) tip (.slice (some ⟨g2, 0, none⟩) 3 3) t)) := grew (Below.refl _ _) _
 have HW3 : Aside (WHas w1 (w2.alloc (boxW (.slice (some ⟨g1, 0, none⟩) 3 3) tip (.slice (some ⟨g2, 0, none⟩) 3 3) t)) w2.heap.size g1 g2 W) :=
  ⟨ys, ds, by
   rw [← HW.out]
   exact ⟨⟨heap_new _ _, heap_old hR.nrow _, heap_old hR.crow _, row_len5 ys hR.three, row_len12 ds hR.three', noByte_nodes hR.nodes, noByte_clients hR.clients, fun y hy => ⟨(hR.nodes y hy).1.later hA, (hR.nodes y hy).2⟩, fun y hy => bkT_later (hR.clients y hy) hA, BelowX.of (step_below1 hR.below hA) _ _ _⟩, hR.three, hR.three'⟩, by rw [← HW.out]; exact hn', by rw [← HW.out]; exact hc'⟩
 have hlt : w.heap.size + 1 < w1.heap.size := heap_lt HY1.out
 have HBS : Hid (w1.heap.size ≤ w2.heap.size ∧ w1.heap.size ≤ g1 ∧ w1.heap.size ≤ g2 ∧ w.heap.size + 1 < w1.heap.size) := ⟨hR.below.size, hR.base1, hR.base2, hlt⟩
 have HG : Hid (g1 < w2.heap.size ∧ g2 < w2.heap.size) := ⟨heap_lt hR.nrow, heap_lt hR.crow⟩
 clear ka z hR hn' hc' hA HX1 kA hlt
 go_upto_region 7 with fail
 have HS3 : Hid ((w2.alloc (boxW (.slice (some ⟨g1, 0, none⟩) 3 3) tip (.slice (some ⟨g2, 0, none⟩) 3 3) t)).heap.size = w2.heap.size + 1) := World.size_alloc _ _
 generalize w2.alloc (boxW (.slice (some ⟨g1, 0, none⟩) 3 3) tip (.slice (some ⟨g2, 0, none⟩) 3 3) t) = W3 at *
 generalize w2.heap.size = B at *
 go_wp2_with (at_make; refine wpList_make_full _ rfl _ _ 58 rfl W3.heap.size 30 i0 (.int .i64 0) 1 Tryz.underlying58 hi hz0 hz1 _ _ _ _ n rfl rfl rfl rfl (by rw [hz2]; omega) (by unfold maxLen; omega) (Nat.le_refl _) ?_)
 intro w4 hown hgrow
 obtain ⟨hl0, ho⟩ := hown
 rcases ho with ⟨h, _⟩ | ⟨g, cap, cur, hv', _, hg, _, _, hsz, htake⟩
 ·cases h
 injection hv' with ha _ hc
 injection ha with ha
 injection ha with ha _ _
 subst ha hc
 have hB4 : Below W3.heap.size W3 w4 := ⟨hgrow.os, hgrow.tape, hgrow.output, hgrow.size, fun k hk => hgrow.block k hk (fun h => by cases h)⟩
 have HS : Aside (SaidAt w1 w4 B g1 g2 W3.heap.size W l n 0) := by
  refine ⟨HW3.out.later hB4, ⟨List.replicate n 0, ?_, List.length_replicate .., rfl⟩, ?_, ?_, ?_, ?_⟩
  ·have h2 : cur.toList = (List.replicate n (0 : Int)).map (Value.int .i64) := by
    rw [List.take_of_length_le (by rw [Array.length_toList, hsz]; omega)] at htake
    rw [htake, List.map_replicate]
    exact toList_madeCells_one _ _
   rw [← h2]
   simpa using hg
  ·rw [HS3.out]; have := HBS.out.1; omega
  ·rw [HS3.out]; omega
  ·rw [HS3.out]; have := HG.out.1; omega
  ·rw [HS3.out]; have := HG.out.2; omega
 clear hi hz0 hz1 hz2 hl0 htake hgrow hg hsz hB4 HW3
 generalize W3.heap.size = Q at *
 go_wp2
 go_loopw [29] (fun i wr => ∃ k : Nat, k ≤ n ∧ i = .int .i64 k ∧ SaidAt w1 wr B g1 g2 Q W l n k) (fun i _ => n - (intOf i).toNat)
 case atStart => exact ⟨0, Nat.zero_le _, rfl, HS.out⟩
 case round =>
  clear HS
  obtain ⟨k, hk, rfl, hU⟩ := hrel
  have HU : Aside (SaidAt w1 wr B g1 g2 Q W l n k) := hU
  have HB : Aside _ := step_below1 HB1.out (hU.has.below.whole HBS.out.1 HBS.out.2.1 HBS.out.2.2.1)
  clear hU
  by_cases hlt : k < n
  ·obtain ⟨x, hx⟩ : ∃ x, l[k]? = some x := ⟨l[k]'(by have := HL.out; omega), List.getElem?_eq_getElem _⟩
   obtain ⟨bb, off, rfl, hE0⟩ := H.out.at (by omega)
   have hE := hE0.later HB.out
   have q0 : wr.cell? ⟨bb, off + k * 10, none⟩ = some (.int .i64 x.k) := hE k x hx 0 _ rfl
   have q1 : wr.cell? ⟨bb, off + k * 10 + 1, none⟩ = some (.int .i64 x.c) := hE k x hx 1 _ rfl
   have q2 : wr.cell? ⟨bb, off + k * 10 + 2, none⟩ = some (.int .i64 x.n) := hE k x hx 2 _ rfl
   have q3 : wr.cell? ⟨bb, off + k * 10 + 3, none⟩ = some (.int .i64 x.j) := hE k x hx 3 _ rfl
   have q4 : wr.cell? ⟨bb, off + k * 10 + 4, none⟩ = some (.int .i64 x.p) := hE k x hx 4 _ rfl
   have q5 : wr.cell? ⟨bb, off + k * 10 + 5, none⟩ = some (.int .i64 x.e.k) := hE k x hx 5 _ rfl
   have q6 : wr.cell? ⟨bb, off + k * 10 + 6, none⟩ = some (.int .i64 x.e.j) := hE k x hx 6 _ rfl
   have q7 : wr.cell? ⟨bb, off + k * 10 + 7, none⟩ = some (.int .i64 x.e.v) := hE k x hx 7 _ rfl
   have q8 : wr.cell? ⟨bb, off + k * 10 + 8, none⟩ = some (.int .i64 x.e.t) := hE k x hx 8 _ rfl
   have q9 : wr.cell? ⟨bb, off + k * 10 + 9, none⟩ = some (.int .i64 x.e.c) := hE k x hx 9 _ rfl
   have hA5 : Below wr.heap.size wr (wr.alloc (boxH x)) := grew (Below.refl _ _) _
   have HU5 : Aside _ := HU.out.later hA5
   have HX : Hid (l[k]? = some x) := hx
   have kh := w_happen (KL.out _ (step_below1 HB.out hA5)) (runL_right (l.take k) HRW.out) HU5.out.has.self x
   obtain ⟨⟨W6, q⟩, hq⟩ : ∃ q, Hid (happened (runL W (l.take k)).1 x = q) := ⟨_, rfl⟩
   rw [hq.out] at kh
   have zh : ∀ i, (wr.alloc (boxH x)).cell? ⟨wr.heap.size, i, none⟩ = (#[.int .i64 x.k, .int .i64 x.c, .int .i64 x.n, .int .i64 x.j, .int .i64 x.p, .int .i64 x.e.k, .int .i64 x.e.j, .int .i64 x.e.v, .int .i64 x.e.t, .int .i64 x.e.c] : Array Value)[i]? := fun i => Joins.cell_of_block (heap_new _ _) i
   clear hE hE0 hx hA5 HU HB
   go_upto_region 11 with fail
   generalize wr.alloc (boxH x) = W5 at *
   clear q0 q1 q2 q3 q4 q5 q6 q7 q8 q9
   go_wp2_with fail
   refine kh.mono ?_
   rintro e w6 ⟨rfl, hW6⟩
   dsimp only at hW6
   obtain ⟨⟨v6, hc6⟩, hf6, hs6⟩ := HU5.out.step (by omega) hlt HX.out (by rw [hq.out]; exact hW6)
   rw [hq.out] at hs6
   have HS6 : Aside _ := hs6
   clear kh zh hW6 hs6 HU5 HX hq
   go_wp2
   go_roundw
   case rel => exact ⟨k + 1, by omega, by go_num, HS6.out⟩
   case measure => simp [intOf]; omega
  ·obtain rfl : k = n := by omega
   have hRR : runL W (l.take k) = R := by rw [List.take_of_length_le (by have := HL.out; omega)]; exact HQ.out
   obtain ⟨hH, ⟨es, e1, e2, e3⟩, _, _, _, _⟩ := HU.out
   rw [hRR] at hH e3
   rw [List.take_of_length_le (by omega)] at e3
   subst e3
   obtain ⟨zs, fs, hI, hzn, hzc⟩ := hH
   have HI : Aside (WIn w1 wr B g1 g2 zs R.1.tip fs R.1.t) := hI
   have HZN : Hid (nodesOf zs = R.1.ns ∧ clientsOf fs = R.1.cs) := ⟨hzn, hzc⟩
   have HY4 : Aside _ := heap_below HY1.out (hI.st.below.whole HBS.out.1 HBS.out.2.1 HBS.out.2.2.1) HBS.out.2.2.2
   have HE : Aside (wr.heap[Q]? = some (.cells (R.2.map (Value.int .i64)).toArray 30)) := e1
   have HQQ : Hid (w1.heap.size ≤ Q) := HU.out.far
   have HEL : Hid (R.2.length = k) := e2
   clear hI hzn hzc HU e1 hRR e2
   have y4 := cb HY4
   have f4 := cf HY4
   have z4 := fun i => Joins.cell_of_block HI.out.st.box i
   go_wp2
   have h3 := HBS.out
   have h4 := HQQ.out
   have h5 := HB1.out.size
   refine ret3_world (p := 4) (q := 5) (s := 6) (y := .slice (some ⟨Q, 0, none⟩) k k) Tryz.results17 rfl rfl rfl rfl (stW_box HY4.out (.slice (some ⟨g1, 0, none⟩) 3 3) R.1.tip (.slice (some ⟨g2, 0, none⟩) 3 3) R.1.t) ⟨_, _, _, rfl, Or.inr ⟨g1, g2, zs, fs, rfl, rfl, wrow_st HY4.out (HI.out.st.rebase HB1.out) (by omega) (by omega) (by omega) (by omega) (by omega) HB.out HI.out.three HI.out.three' _ _, HZN.out.1, HZN.out.2⟩, Or.inr ⟨Q, by rw [HEL.out], by omega, stW_other HE.out (by omega) _ _ _ _⟩, stW_below HB.out (by omega) _ _ _ _⟩
theorem w_run (vn vc : Value) (xs : List Nb) (cs : List Cb) (tip t : Int) (v : Value) (l : List Hp) (w : World) (hL : Laid w) (h : WdAt w vn vc xs cs) (hf : WdFits xs cs) (hl : HpSl w v l) :
  AnsRun 17 #[wval vn tip vc t, v] w (runOf (wdOf xs tip cs t) l) := by
 obtain ⟨a, n, c, rfl⟩ := slOf_sl hl
 have hlen := hl.len
 by_cases hz : (wdOf xs tip cs t).ck = 0
 ·by_cases hn : 150 < l.length
  ·rw [runOf, if_neg (not_not_intro hz), if_pos hn]
   exact run_many vn vc xs cs tip t a n c w hL h hf hz (by omega)
  rw [runOf, if_neg (not_not_intro hz), if_neg hn]
  have hR := rw_iff.1 hz
  obtain ⟨a1, n1, c1, rfl⟩ := slOf_sl h.rowN
  obtain ⟨a2, n2, c2, rfl⟩ := slOf_sl h.rowC
  obtain rfl : n1 = 3 := by have := hR.ns3; rw [show (wdOf xs tip cs t).ns.length = xs.length from List.length_map ..] at this; rw [← SlOf.len h.rowN]; exact this
  obtain rfl : n2 = 3 := by have := hR.cs3; rw [show (wdOf xs tip cs t).cs.length = cs.length from List.length_map ..] at this; rw [← SlOf.len h.rowC]; exact this
  have hn' : ∀ x, x ∈ xs → x.n.ck = 0 := fun y hy => by
   obtain ⟨k, hk⟩ := List.getElem?_of_mem hy
   exact hR.node k y.n (nodes_at hk)
  have hc : ∀ x, x ∈ cs → x.c.ck = 0 := fun y hy => hR.client y.c (List.mem_map_of_mem hy)
  exact run_good a1 a2 c1 c2 xs cs tip t a n c l w hL h hf hl (by omega) hz (fun y hy => ⟨(ckN_ok (hn' y hy)).2.2, ck_short (hn' y hy)⟩) (fun y hy => ckC_short (hc y hy)) _ rfl
 ·rw [runOf, if_pos hz]
  exact run_wrong vn vc xs cs tip t a n c w hL h hf _ rfl hz
end
end Go.Proofs.YtmoaobfmopimlafGreatDoor
