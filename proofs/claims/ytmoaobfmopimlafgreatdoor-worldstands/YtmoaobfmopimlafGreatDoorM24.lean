/- For the law. -/
import Derived.Test.YtmoaobfmopimlafGreatDoorM23
set_option linter.unusedSimpArgs false
set_option linter.unusedVariables false
namespace Go.Proofs.YtmoaobfmopimlafGreatDoor
open Go.RowKit
section
variable {P : Program}
theorem wpList_copyO {w : World} {ops : Array Oper} {rest : List Oper} {o : Oper} {a : Act} {Q : Exit → Act → World → Prop} (hgd : o.guard = none) (d s : Operand) (dT sT : TypeId)
  (ho : o.op = .call { callee := .builtin .copy, args := #[d, s], argTypes := #[dT, sT] }) (elem : TypeId) (k : Nat) (hu : P.underlying dT = some (.slice elem)) (hsz : (P.info? elem).map (·.size) = some k)
  (ad : Addr) (n dCap sCap : Nat) (g : Nat) (hd : a.eval d = .slice (some ⟨g, 0, none⟩) n dCap) (hs : a.eval s = .slice (some ad) n sCap)
  (cur : List Value) (t : TypeId) (hg : w.heap[g]? = some (.cells cur.toArray t (0, 0))) (cs : List Value) (hn : cs.length = n * k) (hl : cur.length = cs.length)
  (hsrc : ∀ j v, cs[j]? = some v → w.cell? (ad.add j) = some v) (h1 : ∀ v ∈ cs, v.oneCell' = true)
  (h : ∀ w', Hid (w'.heap[g]? = some (.cells cs.toArray t (0, 0))) → Hid (∀ i, i ≠ g → w'.heap[i]? = w.heap[i]?) → (∀ (B : Nat) (w0 : World), Below B w0 w → B ≤ g → Below B w0 w') → wpList P ops Q rest (a.put o.dst (goInt n)) w') :
  wpList P ops Q (o :: rest) a w := by
 refine wpList_plain hgd fun K hK => ?_
 have hmin : Nat.min n n = n := Nat.min_self n
 have hrun := copy_cells (P := P) w dT sT o.type elem g 0 n dCap ad n sCap cur t k cs hu hsz hg (by rw [hmin]; exact hn) hsrc (by omega) h1
 rw [hmin, splice_all hl] at hrun
 unfold Oper.wp
 simp [execOp, ho, resolve, invoke, builtin, hd, hs, hrun, Result.andThen]
 exact hK _ _ (h _ (show _ = _ from setRow_heap w g _ _ t _ hg) (fun i hi => setRow_other w g i _ hi) (fun B w0 hb hB => below_setRow hb hB _))
end
set_option maxRecDepth 100000 in
theorem step_make60 {ops : Array Oper} {o : Oper} {a : Act} {w : World} {K : Act → World → Prop} {Q : Exit → Act → World → Prop} {E : Prop} (hgd : o.guard = none) (l c : Operand) (hop : o.op = Op.makeSlice 42 l c) (hl : a.eval l = .int .i64 60) (hc : a.eval c = .int .i64 60)
  (h : ∀ w', w'.heap[w.heap.size]? = some (.cells ((List.replicate 60 En.zero).flatMap En.cells).toArray 27) → Below w.heap.size w w' → K (a.put o.dst (.slice (some ⟨w.heap.size, 0, none⟩) 60 60)) w') :
  if Region.wanted o (yielded ops a.tmps) = true then Oper.wp Tryz.prog o a w K Q else E := by
 have hw : Region.wanted o (yielded ops a.tmps) = true := by simp [Region.wanted, hgd]
 rw [if_pos hw]
 obtain ⟨i0, hi, hz0, hz1, hz2⟩ := info_parts infoE
 obtain ⟨w', hrun, hown, hgrow⟩ := run_make_full (P := Tryz.prog) w w.heap.size 42 27 i0 (ev 0 0 0 0 0) 5 Tryz.underlying42 hi hz0 hz1 .i64 .i64 60 (by rw [hz2]; omega) (by unfold maxLen; omega) (Nat.le_refl _)
 have hg' : w'.heap[w.heap.size]? = some (.cells ((List.replicate 60 En.zero).flatMap En.cells).toArray 27) := by
  rcases hown.2 with ⟨h, _⟩ | ⟨g, cap, cur, hv', _, hg, _, _, hsz, htake⟩
  ·cases h
  injection hv' with ha _ hc
  injection ha with ha
  injection ha with ha _ _
  subst ha hc
  have h2 : cur.toList = (List.replicate 60 En.zero).flatMap En.cells := by
   rw [← made60]
   rw [List.take_of_length_le (by rw [Array.length_toList, hsz]; omega)] at htake
   exact htake
  rw [← h2]
  simpa using hg
 have hB : Below w.heap.size w w' := ⟨hgrow.os, hgrow.tape, hgrow.output, hgrow.size, fun k hk => hgrow.block k hk (fun h => by cases h)⟩
 have hrun' : (Instr.makeSlice 42 (.int .i64 60) (.int .i64 60)).run Tryz.prog w = .ok (.slice (some ⟨w.heap.size, 0, none⟩) 60 60) w' := hrun
 unfold Oper.wp
 simp [execOp, hop, hl, hc, hrun', Result.andThen]
 exact h _ hg' hB
abbrev NxS (W w : World) (b : Nat) (p : Int) (s : Value) : Prop := Below W.heap.size W w ∧ w.cell? ⟨b, 0, none⟩ = some (.int .i64 p) ∧ w.cell? ⟨b, 1, none⟩ = some s
theorem nxS_step {W w w' : World} {b : Nat} {p : Int} {s : Value} (h : NxS W w b p s) (hb : Below w.heap.size w w') : NxS W w' b p s := ⟨h.1.trans (hb.mono h.1.size), cell_later hb h.2.1, cell_later hb h.2.2⟩
theorem nxS_two {W w : World} {b : Nat} {p : Int} {s : Value} (h : NxS W w b p s) {g : Nat} (hW : W.heap.size ≤ g) (hg : b ≠ g) (u1 u2 : Value) : NxS W ((w.setCell ⟨g, 0, none⟩ u1).setCell ⟨g, 1, none⟩ u2) b p s :=
 ⟨below_two2 h.1 hW u1 u2, by rw [World.cell?_setCell_far _ _ _ _ (by exact hg.symm), World.cell?_setCell_far _ _ _ _ (by exact hg.symm)]; exact h.2.1, by rw [World.cell?_setCell_far _ _ _ _ (by exact hg.symm), World.cell?_setCell_far _ _ _ _ (by exact hg.symm)]; exact h.2.2⟩
structure Made (X w : World) (b g : Nat) (p : Int) : Prop where
 box : w.heap[b]? = some (boxU p (.slice (some ⟨g, 0, none⟩) 60 60))
 row : w.heap[g]? = some (.cells ((List.replicate 60 En.zero).flatMap En.cells).toArray 27)
 far : b ≠ g
 base : X.heap.size ≤ b
 baseg : X.heap.size ≤ g
 below : Below X.heap.size X w
theorem made_gb {X w1 : World} {p : Int} {g : Nat} (hXg : X.heap.size ≤ g) (hB : Below X.heap.size X w1) (hg : w1.heap[g]? = some (.cells ((List.replicate 60 En.zero).flatMap En.cells).toArray 27)) :
  Made X (w1.alloc (boxU p (.slice (some ⟨g, 0, none⟩) 60 60))) w1.heap.size g p := by
 have hlt := heap_lt hg
 exact ⟨heap_new w1 _, heap_old hg _, by omega, by omega, hXg, grew hB _⟩
theorem made_bg {X X1 w1 : World} {p : Int} {b g : Nat} (hX : X1.heap[b]? = some (boxU 0 (.slice none 0 0))) (hXb : X.heap.size ≤ b) (hB : Below X.heap.size X X1) (hgs : X1.heap.size = g) (hg : w1.heap[X1.heap.size]? = some (.cells ((List.replicate 60 En.zero).flatMap En.cells).toArray 27)) (hb : Below X1.heap.size X1 w1) :
  Made X ((w1.setCell ⟨b, 0, none⟩ (.int .i64 p)).setCell ⟨b, 1, none⟩ (.slice (some ⟨g, 0, none⟩) 60 60)) b g p := by
 subst hgs
 have hlt := heap_lt hX
 refine ⟨unit_stored (heap_below hX hb hlt) _ _, ?_, by omega, hXb, by omega, below_two2 (step_below1 hB hb) hXb _ _⟩
 rw [Below.heap_setCell _ _ _ _ (by show X1.heap.size ≠ b; omega), Below.heap_setCell _ _ _ _ (by show X1.heap.size ≠ b; omega)]
 exact hg
theorem unit_keepG {W : World} {g' : Nat} {u : Un} (h : UnitAt W (.slice (some ⟨g', 0, none⟩) 60 60) u) {g : Nat} (hg : g' ≠ g) (i : Nat) (x : Value) : UnitAt (W.setCell ⟨g, i, none⟩ x) (.slice (some ⟨g', 0, none⟩) 60 60) u := by
 refine ⟨?_, h.room⟩
 obtain ⟨a, c, hv, hc⟩ := h.ents
 refine ⟨a, c, hv, ?_⟩
 rcases hc with hc | ⟨b, off, ha, hE⟩
 ·exact Or.inl hc
 ·refine Or.inr ⟨b, off, ha, fun j e hj i' y hi => ?_⟩
  have hne : b ≠ g := by
   rw [ha] at hv
   injection hv with h1 _ _
   injection h1 with h1
   injection h1 with h1 _ _
   omega
  rw [World.cell?_setCell_far _ _ _ _ (by exact hne.symm)]
  exact hE j e hj i' y hi
theorem own_of {g q n : Nat} (h : (Value.slice (some ⟨g, 0, none⟩) 60 60).ownBlock = some q) (hn : n ≤ g) : n ≤ q := by
 obtain rfl : g = q := by simpa [Value.ownBlock] using h
 exact hn
abbrev AnsO (f : Nat) (args : Array Value) (w : World) (r : Un × Int) : Prop :=
 Calls Tryz.prog f args w fun e w' => ∃ v', e = .returned (.tuple #[.agg #[.int .i64 r.1.p, v'], .int .i64 r.2]) ∧ UnitAt w' v' r.1 ∧ Below w.heap.size w w' ∧ (∀ g, v'.ownBlock = some g → w.heap.size ≤ g)
set_option maxHeartbeats 4000000 in
set_option maxRecDepth 100000 in
theorem unext_badU (a : Option Addr) (n c : Nat) (p : Int) (es : List En) (r : Rc) (w : World) (h : EntSl w (.slice a n c) es) (d : Int) (hd : Un.ck ⟨p, es⟩ = d) (hz : (d != 0) = true) :
  AnsO 128 #[.agg #[.int .i64 p, .slice a n c], r.val] w (Un.zero, d) := by
 have HB0 : Aside (Below w.heap.size w (((w.alloc (boxU p (.slice a n c))).alloc (boxRc r)).alloc (boxU 0 (.slice none 0 0)))) := grew (grew (grew (Below.refl _ _) _) _) _
 have HZ0 : Aside ((((w.alloc (boxU p (.slice a n c))).alloc (boxRc r)).alloc (boxU 0 (.slice none 0 0))).heap[w.heap.size + 1 + 1]? = some (boxU 0 (.slice none 0 0))) := by
  have := heap_new ((w.alloc (boxU p (.slice a n c))).alloc (boxRc r)) (boxU 0 (.slice none 0 0))
  rwa [World.size_alloc, World.size_alloc] at this
 have hck := unitCheck_any (.slice a n c) ⟨p, es⟩ (((w.alloc (boxU p (.slice a n c))).alloc (boxRc r)).alloc (boxU 0 (.slice none 0 0))) (h.later HB0.out)
 rw [hd] at hck
 clear hd h
 go_enter Tryz.func128, Tryz.ntmps128
 go_wp2_with fail
 refine hck.mono ?_
 rintro e w1 ⟨rfl, hb1⟩
 have HZ1 := hv HZ0 hb1
 have HB1 := sb HB0 hb1
 clear hb1 HZ0 HB0 hck
 have z2 := cb HZ1
 have f2 := cf HZ1
 go_wp2
 exact ret_unit (p := 4) (q := 5) Tryz.results128 rfl rfl rfl (unit_stored HZ1.out _ _) ⟨_, rfl, unit_nil _, below_two2 HB1.out (by omega) _ _, fun g hg => by cases hg⟩
set_option maxHeartbeats 8000000 in
set_option maxRecDepth 100000 in
theorem unext_good (a : Option Addr) (c : Nat) (p : Int) (es : List En) (r : Rc) (w : World) (h : EntSl w (.slice a 60 c) es) (hl : es.length = 60) (hd : Un.ck ⟨p, es⟩ = 0) :
  AnsO 128 #[.agg #[.int .i64 p, .slice a 60 c], r.val] w (unext ⟨p, es⟩ r) := by
 have HB0 : Aside (Below w.heap.size w (((w.alloc (boxU p (.slice a 60 c))).alloc (boxRc r)).alloc (boxU 0 (.slice none 0 0)))) := grew (grew (grew (Below.refl _ _) _) _) _
 have HX0 : Aside ((((w.alloc (boxU p (.slice a 60 c))).alloc (boxRc r)).alloc (boxU 0 (.slice none 0 0))).heap[w.heap.size]? = some (boxU p (.slice a 60 c))) := heap_old (heap_old (heap_new _ _) _) _
 have HY0 : Aside ((((w.alloc (boxU p (.slice a 60 c))).alloc (boxRc r)).alloc (boxU 0 (.slice none 0 0))).heap[w.heap.size + 1]? = some (boxRc r)) := by
  have := heap_new (w.alloc (boxU p (.slice a 60 c))) (boxRc r)
  rw [World.size_alloc] at this
  exact heap_old this _
 have HZ0 : Aside ((((w.alloc (boxU p (.slice a 60 c))).alloc (boxRc r)).alloc (boxU 0 (.slice none 0 0))).heap[w.heap.size + 1 + 1]? = some (boxU 0 (.slice none 0 0))) := by
  have := heap_new ((w.alloc (boxU p (.slice a 60 c))).alloc (boxRc r)) (boxU 0 (.slice none 0 0))
  rwa [World.size_alloc, World.size_alloc] at this
 have hck := unitCheck_any (.slice a 60 c) ⟨p, es⟩ (((w.alloc (boxU p (.slice a 60 c))).alloc (boxRc r)).alloc (boxU 0 (.slice none 0 0))) (h.later HB0.out)
 rw [hd] at hck
 obtain ⟨ab, off, rfl, hE0⟩ := SlOf.at (cs := En.cells) (k := 5) h (by omega)
 have H : Aside (∀ W, Below w.heap.size w W → RowAt En.cells 5 W ab off es) := fun W hb => hE0.later hb
 have HL : Aside (es.length = 60) := hl
 have HD : Aside (Un.ck ⟨p, es⟩ = 0) := hd
 obtain ⟨⟨U, d⟩, hq⟩ : ∃ q, utake ⟨p, es⟩ r = q := ⟨_, rfl⟩
 have htk := fun X W' b g (hh : UBox X W' b g ⟨p, es⟩) => utake_any X W' b g ⟨p, es⟩ r hh
 simp only [hq] at htk
 have HTK : Aside (∀ X W' b g, UBox X W' b g ⟨p, es⟩ → _) := htk
 have hcase : (d = 0 ∧ unext ⟨p, es⟩ r = (U, 0)) ∨ (d ≠ 0 ∧ unext ⟨p, es⟩ r = (Un.zero, d)) := by
  have he := utake_err ⟨p, es⟩ r hd
  rw [hq] at he
  change d = _ at he
  by_cases h0 : d = 0
  ·have ho := utake_ok (r := r) hd (by rw [hq]; exact h0)
   rw [hq] at ho
   exact Or.inl ⟨h0, by rw [← ho, h0]⟩
  ·have hb := unext_bad (r := r) hd (by rw [← he]; exact h0)
   exact Or.inr ⟨h0, Prod.ext hb he.symm⟩
 obtain ⟨rr, HRR⟩ : ∃ rr, Hid (unext ⟨p, es⟩ r = rr) := ⟨_, rfl⟩
 rw [HRR.out] at hcase ⊢
 have HC : Hid ((d = 0 ∧ rr = (U, 0)) ∨ (d ≠ 0 ∧ rr = (Un.zero, d))) := hcase
 obtain ⟨cs, hcs⟩ : ∃ cs, Hid (es.flatMap En.cells = cs) := ⟨_, rfl⟩
 have hone : ∀ u ∈ cs, u.oneCell' = true := by rw [← hcs.out]; exact oneE es
 have hlen : cs.length = 60 * 5 := by rw [← hcs.out, row_len En.five es, hl]
 have hlen2 : ((List.replicate 60 En.zero).flatMap En.cells).length = cs.length := by rw [hlen, row_len En.five, List.length_replicate]
 obtain ⟨ZL, HZL⟩ : ∃ ZL, Hid ((List.replicate 60 En.zero).flatMap En.cells = ZL) := ⟨_, rfl⟩
 rw [HZL.out] at hlen2
 clear hd h hl hq hE0 hcase HRR htk
 go_enter Tryz.func128, Tryz.ntmps128
 go_wp2_with fail
 refine hck.mono ?_
 rintro e w1 ⟨rfl, hb1⟩
 have HX1 := hv HX0 hb1
 have HY1 := hv HY0 hb1
 have HZ1 := hv HZ0 hb1
 have HB1 := sb HB0 hb1
 clear hb1 HX0 HY0 HZ0 HB0 hck
 have hltz := heap_lt HZ1.out
 go_upto_region 4 with fail
 refine wp_region_held_drew (S := fun w' => NxS w1 w' w.heap.size p (.slice (some ⟨ab, off, none⟩) 60 c)) (by kernel_rfl) (⟨(Below.refl _ _).drew, Joins.cell_of_block HX1.out 0, Joins.cell_of_block HX1.out 1⟩) (fun hHeld => ?_)
 refine tk 0 (v := ?_) rfl (by kernel_rfl) (by rfl) (by assumption) (fun _ _ _ h => h) ?_ ?_
 rotate_left
 ·intro w0 hSw; (try dsimp only at hSw); go_simp; first | done | with_reducible rfl
 try simp only [Act.put, qa, qb, qc]
 refine tk 1 (v := ?_) rfl (by kernel_rfl) (by rfl) (by assumption) (fun _ _ _ h => h) ?_ ?_
 rotate_left
 ·intro w0 hSw; (try dsimp only at hSw); go_simp; first | done | with_reducible rfl
 try simp only [Act.put, qa, qb, qc]
 refine tk 2 (v := ?_) rfl (by kernel_rfl) (by rfl) (by assumption) (fun _ _ _ h => h) ?_ ?_
 rotate_left
 ·intro w0 hSw; (try dsimp only at hSw); go_simp; first | done | with_reducible rfl
 try simp only [Act.put, qa, qb, qc]
 refine tk 3 (v := ?_) rfl (by kernel_rfl) (by rfl) (by assumption) (fun _ _ _ h => h) ?_ ?_
 rotate_left
 ·intro w0 hSw; (try dsimp only at hSw); go_simp; first | done | with_reducible rfl
 try simp only [Act.put, qa, qb, qc]
 refine tk 4 (v := ?_) rfl (by kernel_rfl) (by rfl) (by assumption) (fun _ _ _ h => h) ?_ ?_
 rotate_left
 ·intro w0 hSw; (try dsimp only at hSw); go_simp; first | done | with_reducible rfl
 try simp only [Act.put, qa, qb, qc]
 refine wpAnyH_ready (rs := [5, 7]) (by kernel_rfl) (by simp) ?_
 refine AllReadyH.cons (o := ?o5p) ?hi5p ?step5p (AllReadyH.cons (o := ?o7p) ?hi7p ?step7p AllReadyH.nil)
 case hi5p => (simp only [List.getElem?_toArray, List.getElem?_cons_succ, List.getElem?_cons_zero]; rfl)
 case hi7p => (simp only [List.getElem?_toArray, List.getElem?_cons_succ, List.getElem?_cons_zero]; rfl)
 case step5p =>
  intro K hK
  refine step_make60 rfl _ _ rfl rfl rfl ?_
  intro w2 hg2 hb2
  refine hK.out _ _ (nxS_step hHeld hb2) (fun hH2 => ?_)
  clear hK K
  try simp only [Act.put, qa, qb, qc]
  refine tk 6 (v := ?_) rfl (by kernel_rfl) (by rfl) (by assumption) (fun _ _ _ h => h) ?_ ?_
  rotate_left
  ·intro w0 hSw; (try dsimp only at hSw); go_simp; first | done | with_reducible rfl
  try simp only [Act.put, qa, qb, qc]
  refine rdy 7 (by kernel_rfl) rfl (fun K hK => ?_)
  go_simp
  refine hK.out _ _ (nxS_step hH2 (grew (Below.refl _ _) _)) (fun hHeld => ?_)
  clear hK K
  try simp only [Act.put, qa, qb, qc]
  refine rdy 8 (by kernel_rfl) rfl (fun K hK => ?_)
  go_simp
  refine hK.out _ _ (nxS_step hH2 (grew (Below.refl _ _) _)) (fun hHeld => ?_)
  clear hK K
  try simp only [Act.put, qa, qb, qc]
  refine wpAnyH_done (by kernel_rfl) ?_ _
  have hM := made_gb (X := w1) (p := p) (g := w1.heap.size) (Nat.le_refl _) hH2.1 hg2
  clear hHeld hH2 hg2 hb2
  generalize w2.alloc (boxU p (.slice (some ⟨w1.heap.size, 0, none⟩) 60 60)) = V at hM ⊢
  generalize w2.heap.size = b at hM ⊢
  generalize w1.heap.size = g at hM ⊢
  have HXV : Aside _ := heap_below HX1.out hM.below (heap_lt HX1.out)
  have HBV : Aside (Below w.heap.size w V) := HB1.out.trans (hM.below.mono HB1.out.size)
  have HM : Aside (Made w1 V b g p) := hM
  have hrow := HM.out.row
  rw [HZL.out] at hrow
  have hsrc : ∀ j v, cs[j]? = some v → V.cell? ((⟨ab, off, none⟩ : Addr).add j) = some v := fun j v hj => by
   rw [Lib.add_plain]
   rw [← hcs.out] at hj
   exact rows_flat En.five es off (H.out V HBV.out) j v hj
  have c5 := fun i => Joins.cell_of_block HM.out.box i
  have c0 := cb HXV
  clear hM
  go_wp2_with ((with_reducible show wpList _ _ _ (Oper.mk (some 26) _ _ _ _ _ :: _) _ _); refine wpList_copyO rfl _ _ 42 42 rfl 27 5 Tryz.underlying42 sizeE ⟨ab, off, none⟩ 60 60 c g rfl rfl ZL 27 hrow cs hlen hlen2 hsrc hone ?_)
  intro w5 hg5 ho5 hB5
  have HB5 := hB5 _ _ HM.out.below HM.out.baseg
  have HU : Aside (UBox w1 w5 b g ⟨p, es⟩) := ⟨(ho5.out b HM.out.far).trans HM.out.box, by rw [List.append_nil, hcs.out]; exact hg5.out, HL.out, HM.out.far, HM.out.base, HM.out.baseg, HB5⟩
  have HY5 := hv HY1 HB5
  have z1 := cb HY5
  have hcall := HTK.out _ _ _ _ HU.out
  clear hsrc c5 c0 hrow hg5 ho5 hB5 HB5 HBV HXV HM HX1 HY1 hone hlen hlen2
  go_wp2_with fail
  refine hcall.mono ?_
  rintro e w6 ⟨rfl, hU6⟩
  have HU6 : Aside (UBox w1 w6 b g U) := hU6
  have HZ6 : Aside _ := heap_below HZ1.out hU6.below (heap_lt HZ1.out)
  have HB6 : Aside (Below w.heap.size w w6) := HB1.out.trans (hU6.below.mono HB1.out.size)
  have z2 := cb HZ6
  have f2 := cf HZ6
  have z5 := fun i => Joins.cell_of_block HU6.out.box i
  clear hU6 hcall HU HY5 z1 HTK
  rcases HC.out with ⟨h0, h1⟩ | ⟨h0, h1⟩
  ·have hzb : (d != 0) = false := by rw [h0]; rfl
   clear HC h0
   subst h1
   go_wp2
   have hlt6 := heap_lt HZ1.out
   have hgb := HU6.out.baseg
   have hne : g ≠ w.heap.size + 1 + 1 := by omega
   have hkeep := unit_keepG (unit_keepG HU6.out.unit (g := w.heap.size + 1 + 1) hne 0 (.int .i64 U.p)) (g := w.heap.size + 1 + 1) hne 1 (.slice (some ⟨g, 0, none⟩) 60 60)
   exact ret_unit (p := 4) (q := 5) Tryz.results128 rfl rfl rfl (unit_stored HZ6.out _ _) ⟨_, rfl, hkeep, below_two2 HB6.out (by omega) _ _, fun q hq => own_of hq (by omega)⟩
  ·have hzb : (d != 0) = true := by rw [bne_iff_ne]; exact h0
   clear HC h0
   subst h1
   clear z5
   go_wp2
   exact ret_unit (p := 4) (q := 5) Tryz.results128 rfl rfl rfl (unit_stored HZ6.out _ _) ⟨_, rfl, unit_nil _, below_two2 HB6.out (by omega) _ _, fun q hq => by cases hq⟩
 case step7p =>
  intro K hK
  go_simp
  refine hK.out _ _ (nxS_step hHeld (grew (Below.refl _ _) _)) (fun hHeld => ?_)
  clear hK K
  try simp only [Act.put, qa, qb, qc]
  refine rdy 5 (by kernel_rfl) rfl (fun K hK => ?_)
  refine step_make60 rfl _ _ rfl rfl rfl ?_
  intro w2 hg2 hb2
  refine hK.out _ _ (nxS_step hHeld hb2) (fun hH2 => ?_)
  clear hK K
  try simp only [Act.put, qa, qb, qc]
  refine tk 6 (v := ?_) rfl (by kernel_rfl) (by rfl) (by assumption) (fun _ _ _ h => h) ?_ ?_
  rotate_left
  ·intro w0 hSw; (try dsimp only at hSw); go_simp; first | done | with_reducible rfl
  try simp only [Act.put, qa, qb, qc]
  have hx1 : (w1.alloc (boxU 0 (.slice none 0 0))).drew.heap[w1.heap.size]? = some (boxU 0 (.slice none 0 0)) := heap_new w1 _
  have hs1 : (w1.alloc (boxU 0 (.slice none 0 0))).drew.heap.size = w1.heap.size + 1 := World.size_alloc _ _
  have hM := made_bg (X := w1) (p := p) hx1 (Nat.le_refl _) (grew (Below.refl _ _) _).drew hs1 hg2 hb2
  have hx2 := heap_below hx1 hb2 (heap_lt hx1)
  have c7 := fun i => Joins.cell_of_block hx2 i
  have f7 := fun i => Joins.unfrozen_of_block hx2 i
  refine rdy 8 (by kernel_rfl) rfl (fun K hK => ?_)
  go_simp
  refine hK.out _ _ (nxS_two hH2 (Nat.le_refl _) (by omega) _ _) (fun hHeld => ?_)
  clear hK K
  try simp only [Act.put, qa, qb, qc]
  refine wpAnyH_done (by kernel_rfl) ?_ _
  clear hHeld hH2 hg2 hb2 hx1 hs1 hx2 c7 f7
  generalize (w2.setCell ⟨w1.heap.size, 0, none⟩ (.int .i64 p)).setCell ⟨w1.heap.size, 1, none⟩ (.slice (some ⟨w1.heap.size + 1, 0, none⟩) 60 60) = V at hM ⊢
  generalize w1.heap.size + 1 = g at hM ⊢
  generalize w1.heap.size = b at hM ⊢
  have HXV : Aside _ := heap_below HX1.out hM.below (heap_lt HX1.out)
  have HBV : Aside (Below w.heap.size w V) := HB1.out.trans (hM.below.mono HB1.out.size)
  have HM : Aside (Made w1 V b g p) := hM
  have hrow := HM.out.row
  rw [HZL.out] at hrow
  have hsrc : ∀ j v, cs[j]? = some v → V.cell? ((⟨ab, off, none⟩ : Addr).add j) = some v := fun j v hj => by
   rw [Lib.add_plain]
   rw [← hcs.out] at hj
   exact rows_flat En.five es off (H.out V HBV.out) j v hj
  have c5 := fun i => Joins.cell_of_block HM.out.box i
  have c0 := cb HXV
  clear hM
  go_wp2_with ((with_reducible show wpList _ _ _ (Oper.mk (some 26) _ _ _ _ _ :: _) _ _); refine wpList_copyO rfl _ _ 42 42 rfl 27 5 Tryz.underlying42 sizeE ⟨ab, off, none⟩ 60 60 c g rfl rfl ZL 27 hrow cs hlen hlen2 hsrc hone ?_)
  intro w5 hg5 ho5 hB5
  have HB5 := hB5 _ _ HM.out.below HM.out.baseg
  have HU : Aside (UBox w1 w5 b g ⟨p, es⟩) := ⟨(ho5.out b HM.out.far).trans HM.out.box, by rw [List.append_nil, hcs.out]; exact hg5.out, HL.out, HM.out.far, HM.out.base, HM.out.baseg, HB5⟩
  have HY5 := hv HY1 HB5
  have z1 := cb HY5
  have hcall := HTK.out _ _ _ _ HU.out
  clear hsrc c5 c0 hrow hg5 ho5 hB5 HB5 HBV HXV HM HX1 HY1 hone hlen hlen2
  go_wp2_with fail
  refine hcall.mono ?_
  rintro e w6 ⟨rfl, hU6⟩
  have HU6 : Aside (UBox w1 w6 b g U) := hU6
  have HZ6 : Aside _ := heap_below HZ1.out hU6.below (heap_lt HZ1.out)
  have HB6 : Aside (Below w.heap.size w w6) := HB1.out.trans (hU6.below.mono HB1.out.size)
  have z2 := cb HZ6
  have f2 := cf HZ6
  have z5 := fun i => Joins.cell_of_block HU6.out.box i
  clear hU6 hcall HU HY5 z1 HTK
  rcases HC.out with ⟨h0, h1⟩ | ⟨h0, h1⟩
  ·have hzb : (d != 0) = false := by rw [h0]; rfl
   clear HC h0
   subst h1
   go_wp2
   have hlt6 := heap_lt HZ1.out
   have hgb := HU6.out.baseg
   have hne : g ≠ w.heap.size + 1 + 1 := by omega
   have hkeep := unit_keepG (unit_keepG HU6.out.unit (g := w.heap.size + 1 + 1) hne 0 (.int .i64 U.p)) (g := w.heap.size + 1 + 1) hne 1 (.slice (some ⟨g, 0, none⟩) 60 60)
   exact ret_unit (p := 4) (q := 5) Tryz.results128 rfl rfl rfl (unit_stored HZ6.out _ _) ⟨_, rfl, hkeep, below_two2 HB6.out (by omega) _ _, fun q hq => own_of hq (by omega)⟩
  ·have hzb : (d != 0) = true := by rw [bne_iff_ne]; exact h0
   clear HC h0
   subst h1
   clear z5
   go_wp2
   exact ret_unit (p := 4) (q := 5) Tryz.results128 rfl rfl rfl (unit_stored HZ6.out _ _) ⟨_, rfl, unit_nil _, below_two2 HB6.out (by omega) _ _, fun q hq => by cases hq⟩
theorem unitNext_any (v : Value) (u : Un) (r : Rc) (w : World) (h : UnitAt w v u) : AnsO 128 #[.agg #[.int .i64 u.p, v], r.val] w (unext u r) := by
 obtain ⟨p, es⟩ := u
 obtain ⟨hE, hR⟩ := h
 obtain ⟨a, n, c, rfl, hnc⟩ := hR
 have hE' : EntSl w (.slice a n c) es := hE
 have hln := SlOf.len (cs := En.cells) (k := 5) hE'
 show AnsO 128 #[.agg #[.int .i64 p, .slice a n c], r.val] w (unext ⟨p, es⟩ r)
 by_cases h1 : Un.ck ⟨p, es⟩ = 0
 ·have hl := (Un.ck_zero.1 h1).2.1
  change es.length = 60 at hl
  obtain rfl : n = 60 := by omega
  exact unext_good a c p es r w hE' hl h1
 ·rw [unext, if_pos h1]
  exact unext_badU a n c p es r w hE' (Un.ck ⟨p, es⟩) rfl (by rw [bne_iff_ne]; exact h1)
def RpAt (X wr : World) (b g : Nat) (rs : List Rc) (k : Nat) : Prop :=
 ∃ u, UBox X wr b g u ∧ u.ck = 0 ∧ Hid (ufold unew rs = ufold u (rs.drop k))
set_option maxHeartbeats 4000000 in
set_option maxRecDepth 100000 in
theorem unitReplay_few (a : Option Addr) (n c : Nat) (rs : List Rc) (w : World) (h : RecSl w (.slice a n c) rs) (hn : (n : Int) ≤ 160) :
  AnsO 144 #[.slice a n c] w (ufold unew rs) := by
 have H : Aside (RecSl w (.slice a n c) rs) := h
 have HL : Aside (rs.length = n) := h.len
 have HB0 : Aside (Below w.heap.size w (w.alloc (boxU 0 (.slice none 0 0)))) := grew (Below.refl _ _) _
 have HX0 : Aside ((w.alloc (boxU 0 (.slice none 0 0))).heap[w.heap.size]? = some (boxU 0 (.slice none 0 0))) := heap_new _ _
 clear h
 go_enter Tryz.func144, Tryz.ntmps144
 go_upto_region 3 with fail
 generalize w.alloc (boxU 0 (.slice none 0 0)) = X at *
 go_wp2_with fail
 refine (unitNew_own _).mono ?_
 rintro e w1 ⟨g, rfl, hgX, hg, hb1⟩
 have hgl := heap_lt hg
 have HS : Aside (RpAt X (w1.alloc (boxU 1 (.slice (some ⟨g, 0, none⟩) 60 60))) w1.heap.size g rs 0) := ⟨unew, ⟨heap_new _ _, heap_old hg _, List.length_replicate .., by omega, hb1.size, hgX, grew hb1 _⟩, unew_ck, rfl⟩
 clear hb1 hg hgl hgX
 go_wp2
 generalize w1.heap.size = b at *
 go_loopw [15] (fun i wr => ∃ k : Nat, k ≤ n ∧ i = .int .i64 k ∧ RpAt X wr b g rs k) (fun i _ => n - (intOf i).toNat)
 case atStart => exact ⟨0, Nat.zero_le _, rfl, HS.out⟩
 case round =>
  clear HS
  obtain ⟨k, hk, rfl, u, hU, hck, hst⟩ := hrel
  have HU : Aside (UBox X wr b g u) := hU
  have HB : Aside (Below w.heap.size w wr) := HB0.out.trans (hU.below.mono HB0.out.size)
  have HR : Aside _ := heap_below HX0.out hU.below (heap_lt HX0.out)
  clear hU
  by_cases hlt : k < n
  ·obtain ⟨x, hx⟩ : ∃ x, rs[k]? = some x := ⟨rs[k]'(by have := HL.out; omega), List.getElem?_eq_getElem _⟩
   obtain ⟨bb, off, rfl, hE0⟩ := H.out.at (by omega)
   have hE := hE0.later HB.out
   have q0 : wr.cell? ⟨bb, off + k * 8, none⟩ = some (.int .i64 x.k) := hE k x hx 0 _ rfl
   have q1 : wr.cell? ⟨bb, off + k * 8 + 1, none⟩ = some (.int .i64 x.a) := hE k x hx 1 _ rfl
   have q2 : wr.cell? ⟨bb, off + k * 8 + 2, none⟩ = some (.int .i64 x.p) := hE k x hx 2 _ rfl
   have q3 : wr.cell? ⟨bb, off + k * 8 + 3, none⟩ = some (.int .i64 x.e.k) := hE k x hx 3 _ rfl
   have q4 : wr.cell? ⟨bb, off + k * 8 + 4, none⟩ = some (.int .i64 x.e.j) := hE k x hx 4 _ rfl
   have q5 : wr.cell? ⟨bb, off + k * 8 + 5, none⟩ = some (.int .i64 x.e.v) := hE k x hx 5 _ rfl
   have q6 : wr.cell? ⟨bb, off + k * 8 + 6, none⟩ = some (.int .i64 x.e.t) := hE k x hx 6 _ rfl
   have q7 : wr.cell? ⟨bb, off + k * 8 + 7, none⟩ = some (.int .i64 x.e.c) := hE k x hx 7 _ rfl
   have hd : Hid (ufold unew rs = if (unext u x).2 ≠ 0 then (Un.zero, (unext u x).2) else ufold (unext u x).1 (rs.drop (k + 1))) := by
    rw [Hid, hst.out, drop_rc hx, ufold]
   have hnx := utake_any X (wr.alloc (boxRc x)) b g u x (HU.out.later (grew (Below.refl _ _) _))
   obtain ⟨⟨u2, f⟩, hun⟩ : ∃ q, utake u x = q := ⟨_, rfl⟩
   have hcase : (f = 0 ∧ u2.ck = 0 ∧ ufold unew rs = ufold u2 (rs.drop (k + 1))) ∨ (f ≠ 0 ∧ ufold unew rs = (Un.zero, f)) := by
    have he := utake_err u x hck
    rw [hun] at he
    change f = _ at he
    by_cases h0 : f = 0
    ·have ho := utake_ok (r := x) hck (by rw [hun]; exact h0)
     rw [hun] at ho
     have h2 : (unext u x).2 = 0 := by rw [← he]; exact h0
     have h3 := unext_ck h2
     rw [← ho] at h3
     refine Or.inl ⟨h0, h3, ?_⟩
     rw [hd.out, if_neg (by simpa using h2), ← ho]
    ·refine Or.inr ⟨h0, ?_⟩
     rw [hd.out, ← he, if_pos h0]
   rw [hun] at hnx
   change Calls _ _ _ _ fun e w' => e = .returned (.int .i64 f) ∧ UBox X w' b g u2 at hnx
   have HC : Hid _ := hcase
   clear hE hE0 hst hx hck hd hun hcase HU HB HR
   go_wp2_with fail
   refine hnx.mono ?_
   rintro e w2 ⟨rfl, hU2⟩
   have HU2 : Aside (UBox X w2 b g u2) := hU2
   have HB2 : Aside (Below w.heap.size w w2) := HB0.out.trans (hU2.below.mono HB0.out.size)
   have HR2 : Aside _ := heap_below HX0.out hU2.below (heap_lt HX0.out)
   have z1 := cb HR2
   have f1 := cf HR2
   clear hU2 hnx q0 q1 q2 q3 q4 q5 q6 q7
   rcases HC.out with ⟨h0, h1, h2⟩ | ⟨h0, h1⟩
   ·have hfb : (f != 0) = false := by rw [h0]; rfl
    have HE : Aside (RpAt X w2 b g rs (k + 1)) := ⟨u2, HU2.out, h1, h2⟩
    clear HC h0 h1 h2 z1 f1
    go_wp2
    go_roundw
    case rel => exact ⟨k + 1, by omega, by go_num, HE.out⟩
    case measure => simp [intOf]; omega
   ·have hfb : (f != 0) = true := by rw [bne_iff_ne]; exact h0
    have HN : Hid (ufold unew rs = (Un.zero, f)) := h1
    clear HC h0 h1
    go_wp2
    exact ret_unit (p := 2) (q := 3) Tryz.results144 rfl rfl rfl (unit_stored HR2.out _ _) ⟨.slice none 0 0, by rw [HN.out]; rfl, by rw [HN.out]; exact unit_nil _, below_two2 HB2.out (Nat.le_refl _) _ _, fun q hq => by cases hq⟩
  ·obtain rfl : k = n := by omega
   have HN : Hid (ufold unew rs = (u, 0)) := by
    rw [Hid, hst.out, List.drop_eq_nil_of_le (by have := HL.out; omega)]; rfl
   have z0 := fun i => Joins.cell_of_block HU.out.box i
   have z1 := cb HR
   have f1 := cf HR
   clear hst hck
   go_wp2
   have hlt0 := heap_lt HX0.out
   have hgb := HU.out.baseg
   have hne : g ≠ w.heap.size := by omega
   have hkeep := unit_keepG (unit_keepG HU.out.unit (g := w.heap.size) hne 0 (.int .i64 u.p)) (g := w.heap.size) hne 1 (.slice (some ⟨g, 0, none⟩) 60 60)
   exact ret_unit (p := 2) (q := 3) Tryz.results144 rfl rfl rfl (unit_stored HR.out _ _) ⟨.slice (some ⟨g, 0, none⟩) 60 60, by rw [HN.out]; rfl, by rw [HN.out]; exact hkeep, below_two2 HB.out (Nat.le_refl _) _ _, fun q hq => own_of hq (by omega)⟩
theorem unitReplay_many (a : Option Addr) (n c : Nat) (w : World) (hn : 160 < (n : Int)) :
  AnsO 144 #[.slice a n c] w (Un.zero, 2) := by
 go_enter Tryz.func144, Tryz.ntmps144
 go_wp2
 exact ret_unit (p := 2) (q := 3) Tryz.results144 rfl rfl rfl (heap_new _ _) ⟨_, rfl, unit_nil _, grew (Below.refl _ _) _, fun q hq => by cases hq⟩
theorem unitReplay_any (v : Value) (rs : List Rc) (w : World) (h : RecSl w v rs) : AnsO 144 #[v] w (unitOf rs) := by
 have h' := h
 obtain ⟨a, c, rfl, _⟩ := h
 by_cases hn : 160 < rs.length
 ·rw [unitOf, if_pos hn]
  exact unitReplay_many a _ c w (by omega)
 ·rw [unitOf, if_neg hn]
  exact unitReplay_few a _ c rs w h' (by omega)
end Go.Proofs.YtmoaobfmopimlafGreatDoor
