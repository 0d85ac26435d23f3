/- For the law. -/
import Derived.Test.YtmoaobfmopimlafGreatDoorM61
set_option linter.unusedSimpArgs false
set_option linter.unusedVariables false
namespace Go.Proofs.YtmoaobfmopimlafGreatDoor
open Go.RowKit
section
open scoped Classical
def WOut (X w : World) (vn vc : Value) (W : Wd) : Prop :=
 (vn = .slice none 0 0 ∧ vc = .slice none 0 0 ∧ W = Wd.zero) ∨ ∃ g1 g2 ys ds, vn = .slice (some ⟨g1, 0, none⟩) 3 3 ∧ vc = .slice (some ⟨g2, 0, none⟩) 3 3 ∧ WRow X w g1 g2 ys ds ∧ nodesOf ys = W.ns ∧ clientsOf ds = W.cs
abbrev AnsWd (f : FuncId) (args : Array Value) (w : World) (r : Wd × Int) : Prop :=
 Calls Tryz.prog f args w fun e w' => ∃ vn vc, e = .returned (.tuple #[wval vn r.1.tip vc r.1.t, .int .i64 r.2]) ∧ WOut w w' vn vc r.1 ∧ Below w.heap.size w w'
theorem ret2_world {fn : Func} {R : Ending → World → Prop} {a : Act} {W : World} {b p q : Nat} {vn vc y : Value} {tip t : Int} (hf : fn.results = #[.cell p 25, .tmp q]) (hd : a.defers = [])
  (h2 : a.tmps.getD p undef = .pointer (some ⟨b, 0, none⟩)) (h3 : a.tmps.getD q undef = y) (hR : W.heap[b]? = some (boxW vn tip vc t)) (hp : R (.returned (.tuple #[wval vn tip vc t, y])) W) : bodyPost Tryz.prog fn R .ret a W := by
 have c0 := fun i => Joins.cell_of_block hR i
 refine bodyPost_ret (v := .tuple #[wval vn tip vc t, y]) ?_ hd hp
 simp only [results, hf]
 simp at h2 h3
 simp [go_sem, c0, h2, h3]
theorem WSt.rebase {X X' w : World} {B g1 g2 : Nat} {NC CC : List Value} {tip t : Int} {L : List Nb} {M : List Cb} (h : WSt X' w B g1 g2 NC tip CC t L M) (hb : Below X.heap.size X X') : WSt X w B g1 g2 NC tip CC t L M :=
 ⟨h.box, h.nrow, h.crow, h.nlen, h.clen, h.nby, h.cby, h.nodes, h.clients, (BelowX.of hb B g1 g2).trans h.below⟩
theorem row_len5 (xs : List Nb) (h : xs.length = 3) : (xs.flatMap Nb.cells).length = 15 := by
 match xs, h with
 | [_, _, _], _ => rfl
theorem row_len12 (cs : List Cb) (h : cs.length = 3) : (cs.flatMap Cb.cells).length = 36 := by
 match cs, h with
 | [_, _, _], _ => rfl
set_option maxHeartbeats 4000000 in
set_option maxRecDepth 100000 in
theorem do_wrong (vn vc : Value) (xs : List Nb) (cs : List Cb) (tip t : Int) (x : Hp) (w : World) (hL : Laid w) (h : WdAt w vn vc xs cs) (hf : WdFits xs cs) (d : Int) (hd : (wdOf xs tip cs t).ck = d) (hz : d ≠ 0) :
  AnsWd 9 #[wval vn tip vc t, x.val] w (Wd.zero, d) := by
 obtain ⟨a1, n1, c1, rfl⟩ := slOf_sl h.rowN
 obtain ⟨a2, n2, c2, rfl⟩ := slOf_sl h.rowC
 have hB0 : Below w.heap.size w (((w.alloc (boxW (.slice a1 n1 c1) tip (.slice a2 n2 c2) t)).alloc (boxH x)).alloc boxWZ) := grew (grew (grew (Below.refl _ _) _) _) _
 have HB0 : Aside (Below w.heap.size w (((w.alloc (boxW (.slice a1 n1 c1) tip (.slice a2 n2 c2) t)).alloc (boxH x)).alloc boxWZ)) := hB0
 have HX0 : Aside ((((w.alloc (boxW (.slice a1 n1 c1) tip (.slice a2 n2 c2) t)).alloc (boxH x)).alloc boxWZ).heap[w.heap.size]? = some (boxW (.slice a1 n1 c1) tip (.slice a2 n2 c2) t)) := heap_old (heap_old (heap_new _ _) _) _
 have HY0 : Aside ((((w.alloc (boxW (.slice a1 n1 c1) tip (.slice a2 n2 c2) t)).alloc (boxH x)).alloc boxWZ).heap[w.heap.size + 1 + 1]? = some boxWZ) := by
  have := heap_new ((w.alloc (boxW (.slice a1 n1 c1) tip (.slice a2 n2 c2) t)).alloc (boxH x)) boxWZ
  rwa [World.size_alloc, World.size_alloc] at this
 have kd := w_check (.slice a1 n1 c1) (.slice a2 n2 c2) xs cs tip t (((w.alloc (boxW (.slice a1 n1 c1) tip (.slice a2 n2 c2) t)).alloc (boxH x)).alloc boxWZ) (hL.later hB0) (h.later hB0) hf
 rw [hd] at kd
 have hdb : (d != 0) = true := by rw [bne_iff_ne]; exact hz
 clear hL h hf hd hz hB0
 go_enter Tryz.func9, Tryz.ntmps9
 go_upto_region 1 with fail
 generalize ((w.alloc (boxW (.slice a1 n1 c1) tip (.slice a2 n2 c2) t)).alloc (boxH x)).alloc boxWZ = W0 at *
 have z := cb HX0
 go_wp2_with fail
 refine kd.mono ?_
 rintro e w1 ⟨rfl, hb1⟩
 have HB1 := sb HB0 hb1
 have HY1 := hv HY0 hb1
 clear kd z HB0 HX0 HY0 hb1
 have y1 := cb HY1
 have f1 := cf HY1
 go_wp2
 exact ret2_world (p := 4) (q := 5) Tryz.results9 rfl rfl rfl (stW_box HY1.out (.slice none 0 0) 0 (.slice none 0 0) 0) ⟨_, _, rfl, Or.inl ⟨rfl, rfl, rfl⟩, stW_below HB1.out (by omega) _ _ _ _⟩
set_option maxHeartbeats 4000000 in
set_option maxRecDepth 100000 in
theorem do_good (a1 a2 : Option Addr) (c1 c2 : Nat) (xs : List Nb) (cs : List Cb) (tip t : Int) (x : Hp) (w : World) (hL : Laid w) (h : WdAt w (.slice a1 3 c1) (.slice a2 3 c2) xs cs) (hf : WdFits xs cs) (hz : (wdOf xs tip cs t).ck = 0)
  (h60 : ∀ x, x ∈ xs → x.n.u.cells.length = 60 ∧ x.n.s.length ≤ 1000000 ∧ x.n.w.length ≤ 1000000) (hjr : ∀ x, x ∈ cs → x.c.js.length ≤ 1000000 ∧ x.c.rs.length ≤ 1000000) (W' : Wd) (q : Int) (hq : happened (wdOf xs tip cs t) x = (W', q)) :
  AnsWd 9 #[wval (.slice a1 3 c1) tip (.slice a2 3 c2) t, x.val] w (if q ≠ 0 then (Wd.zero, q) else (W', 0)) := by
 have hB0 : Below w.heap.size w (((w.alloc (boxW (.slice a1 3 c1) tip (.slice a2 3 c2) t)).alloc (boxH x)).alloc boxWZ) := grew (grew (grew (Below.refl _ _) _) _) _
 have HB0 : Aside (Below w.heap.size w (((w.alloc (boxW (.slice a1 3 c1) tip (.slice a2 3 c2) t)).alloc (boxH x)).alloc boxWZ)) := hB0
 have HX0 : Aside ((((w.alloc (boxW (.slice a1 3 c1) tip (.slice a2 3 c2) t)).alloc (boxH x)).alloc boxWZ).heap[w.heap.size]? = some (boxW (.slice a1 3 c1) tip (.slice a2 3 c2) t)) := heap_old (heap_old (heap_new _ _) _) _
 have HH0 : Aside ((((w.alloc (boxW (.slice a1 3 c1) tip (.slice a2 3 c2) t)).alloc (boxH x)).alloc boxWZ).heap[w.heap.size + 1]? = some (boxH x)) := by
  have := heap_new (w.alloc (boxW (.slice a1 3 c1) tip (.slice a2 3 c2) t)) (boxH x)
  rw [World.size_alloc] at this
  exact heap_old this _
 have HY0 : Aside ((((w.alloc (boxW (.slice a1 3 c1) tip (.slice a2 3 c2) t)).alloc (boxH x)).alloc boxWZ).heap[w.heap.size + 1 + 1]? = some (.cells #[.slice none 0 0, .int .i64 0, .slice none 0 0, .int .i64 0] 25)) := by
  have := heap_new ((w.alloc (boxW (.slice a1 3 c1) tip (.slice a2 3 c2) t)).alloc (boxH x)) boxWZ
  rwa [World.size_alloc, World.size_alloc] at this
 have kd := w_check (.slice a1 3 c1) (.slice a2 3 c2) xs cs tip t (((w.alloc (boxW (.slice a1 3 c1) tip (.slice a2 3 c2) t)).alloc (boxH x)).alloc boxWZ) (hL.later hB0) (h.later hB0) hf
 rw [hz] at kd
 have kA : Aside (∀ V, Below w.heap.size w V → Calls Tryz.prog 23 #[wval (.slice a1 3 c1) tip (.slice a2 3 c2) t] V fun e w' => ∃ g1 g2 ys ds, e = .returned (wval (.slice (some ⟨g1, 0, none⟩) 3 3) tip (.slice (some ⟨g2, 0, none⟩) 3 3) t) ∧ WRow V w' g1 g2 ys ds ∧ nodesOf ys = nodesOf xs ∧ clientsOf ds = clientsOf cs) := fun V hV => w_apart_at a1 a2 c1 c2 xs cs tip t V (h.later hV) h60 hjr
 have KL : Aside (∀ V, Below w.heap.size w V → Laid V) := fun V hV => hL.later hV
 have HRW : Hid (RW (wdOf xs tip cs t)) := rw_iff.1 hz
 have HQ : Hid (happened (wdOf xs tip cs t) x = (W', q)) := hq
 obtain ⟨R, HR⟩ : ∃ R, Hid ((if q ≠ 0 then (Wd.zero, q) else (W', 0)) = R) := ⟨_, rfl⟩
 rw [HR.out]
 clear hL h hf hz hB0 h60 hjr hq
 go_enter Tryz.func9, Tryz.ntmps9
 go_upto_region 1 with fail
 generalize ((w.alloc (boxW (.slice a1 3 c1) tip (.slice a2 3 c2) t)).alloc (boxH x)).alloc boxWZ = W0 at *
 have z := cb HX0
 go_wp2_with fail
 refine kd.mono ?_
 rintro e w1 ⟨rfl, hb1⟩
 have HB1 := sb HB0 hb1
 have HX1 := hv HX0 hb1
 have HH1 := hv HH0 hb1
 have HY1 := hv HY0 hb1
 clear kd z HB0 HX0 HH0 HY0 hb1
 have z := cb HX1
 have ka := kA.out w1 HB1.out
 go_wp2_with fail
 refine ka.mono ?_
 rintro e w2 ⟨g1, g2, ys, ds, rfl, hR, hn, hc⟩
 have hA : Below w2.heap.size w2 (w2.alloc (boxW (.slice (some ⟨g1, 0, none⟩) 3 3) tip (.slice (some ⟨g2, 0, none⟩) 3 3) t)) := grew (Below.refl _ _) _
 have HB3 : Aside _ := step_below1 hR.below hA
 have HW3 : Aside (WHas w1 (w2.alloc (boxW (.slice (some ⟨g1, 0, none⟩) 3 3) tip (.slice (some ⟨g2, 0, none⟩) 3 3) t)) w2.heap.size g1 g2 (wdOf xs tip cs t)) :=
  ⟨ys, ds, ⟨⟨heap_new _ _, heap_old hR.nrow _, heap_old hR.crow _, row_len5 ys hR.three, row_len12 ds hR.three', noByte_nodes hR.nodes, noByte_clients hR.clients, fun y hy => ⟨(hR.nodes y hy).1.later hA, (hR.nodes y hy).2⟩, fun y hy => bkT_later (hR.clients y hy) hA, BelowX.of (step_below1 hR.below hA) _ _ _⟩, hR.three, hR.three'⟩, hn, hc⟩
 have HH3 : Aside _ := heap_below HH1.out HB3.out (heap_lt HH1.out)
 have hlt : w.heap.size + 1 + 1 < w1.heap.size := heap_lt HY1.out
 have HBS : Hid (w1.heap.size ≤ w2.heap.size ∧ w1.heap.size ≤ g1 ∧ w1.heap.size ≤ g2) := ⟨hR.below.size, hR.base1, hR.base2⟩
 clear ka z hR hn hc hA HX1 HH1
 go_upto_region 5 with fail
 generalize w2.alloc (boxW (.slice (some ⟨g1, 0, none⟩) 3 3) tip (.slice (some ⟨g2, 0, none⟩) 3 3) t) = W3 at *
 generalize w2.heap.size = B at *
 have kh := w_happen (KL.out W3 (step_below1 HB1.out HB3.out)) HRW.out HW3.out x
 rw [HQ.out] at kh
 have zh := cb HH3
 go_wp2_with fail
 refine kh.mono ?_
 rintro e w4 ⟨rfl, hW4⟩
 dsimp only at hW4
 have HW4 : Aside (WHas w1 w4 B g1 g2 W') := hW4
 obtain ⟨zs, es, hI, hzn, hzc⟩ := hW4
 have HI : Aside (WIn w1 w4 B g1 g2 zs W'.tip es W'.t) := hI
 have HZN : Hid (nodesOf zs = W'.ns ∧ clientsOf es = W'.cs) := ⟨hzn, hzc⟩
 have HY4 : Aside _ := heap_below HY1.out (hI.st.below.whole HBS.out.1 HBS.out.2.1 HBS.out.2.2) hlt
 have HB4 : Aside _ := step_below1 HB1.out (hI.st.below.whole HBS.out.1 HBS.out.2.1 HBS.out.2.2)
 clear kh zh hI hzn hzc HW3 HH3 HB3
 have y4 := cb HY4
 have f4 := cf HY4
 by_cases hq0 : q = 0
 ·subst hq0
  have z4 := fun i => Joins.cell_of_block HI.out.st.box i
  have hne1 : g1 ≠ w.heap.size + 1 + 1 := fun e => by
   have h1 := HBS.out.2.1; omega
  have hne2 : g2 ≠ w.heap.size + 1 + 1 := fun e => by
   have h1 := HBS.out.2.2; omega
  have HN12 : Hid (g1 ≠ w.heap.size + 1 + 1 ∧ g2 ≠ w.heap.size + 1 + 1) := ⟨hne1, hne2⟩
  clear hne1 hne2
  obtain rfl : R = (W', 0) := by rw [← HR.out, if_neg (by simp)]
  go_wp2
  exact ret2_world (p := 4) (q := 5) Tryz.results9 rfl rfl rfl (stW_box HY4.out (.slice (some ⟨g1, 0, none⟩) 3 3) W'.tip (.slice (some ⟨g2, 0, none⟩) 3 3) W'.t) ⟨_, _, rfl, Or.inr ⟨g1, g2, zs, es, rfl, rfl, wrow_st HY4.out (HI.out.st.rebase HB1.out) HN12.out.1 HN12.out.2 (by omega) (Nat.le_trans HB1.out.size HBS.out.2.1) (Nat.le_trans HB1.out.size HBS.out.2.2) HB4.out HI.out.three HI.out.three' _ _, HZN.out.1, HZN.out.2⟩, stW_below HB4.out (by omega) _ _ _ _⟩
 ·have hqb : (q != 0) = true := by rw [bne_iff_ne]; exact hq0
  obtain rfl : R = (Wd.zero, q) := by rw [← HR.out, if_pos hq0]
  clear hq0 HR
  go_wp2
  exact ret2_world (p := 4) (q := 5) Tryz.results9 rfl rfl rfl (stW_box HY4.out (.slice none 0 0) 0 (.slice none 0 0) 0) ⟨_, _, rfl, Or.inl ⟨rfl, rfl, rfl⟩, stW_below HB4.out (by omega) _ _ _ _⟩
end
section
open scoped Classical
theorem ck_short {n : Nd} (h : n.ck = 0) : n.s.length ≤ 1000000 ∧ n.w.length ≤ 1000000 := by
 have h1 : ckDisk n.s n.w = 0 := by
  by_cases h1 : ckDisk n.s n.w = 0
  ·exact h1
  ·rw [Nd.ck, if_pos h1] at h; exact absurd h h1
 have := (ckDisk_zero.1 h1).1
 omega
theorem ckC_short {c : Cl} (h : c.ck = 0) : c.js.length ≤ 1000000 ∧ c.rs.length ≤ 1000000 := by
 have := (Cl.ck_zero.1 h).2.2.2
 exact ⟨Nat.le_trans this.few (by decide), Nat.le_trans this.room (by decide)⟩
theorem w_do (vn vc : Value) (xs : List Nb) (cs : List Cb) (tip t : Int) (x : Hp) (w : World) (hL : Laid w) (h : WdAt w vn vc xs cs) (hf : WdFits xs cs) :
  AnsWd 9 #[wval vn tip vc t, x.val] w (doOf (wdOf xs tip cs t) x) := by
 by_cases hz : (wdOf xs tip cs t).ck = 0
 ·have hR := rw_iff.1 hz
  obtain ⟨a1, n1, c1, rfl⟩ := slOf_sl h.rowN
  obtain ⟨a2, n2, c2, rfl⟩ := slOf_sl h.rowC
  obtain rfl : n1 = 3 := by have := hR.ns3; rw [show (wdOf xs tip cs t).ns.length = xs.length from List.length_map ..] at this; rw [← SlOf.len h.rowN]; exact this
  obtain rfl : n2 = 3 := by have := hR.cs3; rw [show (wdOf xs tip cs t).cs.length = cs.length from List.length_map ..] at this; rw [← SlOf.len h.rowC]; exact this
  have hn : ∀ x, x ∈ xs → x.n.ck = 0 := fun y hy => by
   obtain ⟨k, hk⟩ := List.getElem?_of_mem hy
   exact hR.node k y.n (nodes_at hk)
  have hc : ∀ x, x ∈ cs → x.c.ck = 0 := fun y hy => hR.client y.c (List.mem_map_of_mem hy)
  have := do_good a1 a2 c1 c2 xs cs tip t x w hL h hf hz (fun y hy => ⟨(ckN_ok (hn y hy)).2.2, ck_short (hn y hy)⟩) (fun y hy => ckC_short (hc y hy)) (happened (wdOf xs tip cs t) x).1 (happened (wdOf xs tip cs t) x).2 rfl
  have e : doOf (wdOf xs tip cs t) x = if (happened (wdOf xs tip cs t) x).2 ≠ 0 then (Wd.zero, (happened (wdOf xs tip cs t) x).2) else ((happened (wdOf xs tip cs t) x).1, 0) := by
   rw [doOf, if_neg (not_not_intro hz)]
   by_cases hq : (happened (wdOf xs tip cs t) x).2 = 0
   ·rw [if_neg (not_not_intro hq), if_neg (not_not_intro hq), ← hq]
   ·rw [if_pos hq, if_pos hq]
  rw [e]
  exact this
 ·have e : doOf (wdOf xs tip cs t) x = (Wd.zero, (wdOf xs tip cs t).ck) := by rw [doOf, if_pos hz]
  rw [e]
  exact do_wrong vn vc xs cs tip t x w hL h hf _ rfl hz
end
section
open scoped Classical
open Go.ChangeShapes
open Go.WideShapes
open Go.ChangeAt
def erC (q : Int) : List Value := [.int .i64 q]
theorem erC_one (q : Int) : (erC q).length = 1 := rfl
abbrev ErSl (w : World) (v : Value) (l : List Int) : Prop := SlOf erC 1 w v l
theorem erC_map : ∀ es : List Int, es.flatMap erC = es.map (Value.int .i64)
 | [] => rfl
 | q :: r => by rw [List.flatMap_cons, erC_map r]; rfl
theorem infoEr : (Tryz.prog.info? 30).map (fun i => (i.zero, i.size, i.bytes)) = some (some (Value.int .i64 0), 1, 8) := by kernel_rfl
end
end Go.Proofs.YtmoaobfmopimlafGreatDoor
