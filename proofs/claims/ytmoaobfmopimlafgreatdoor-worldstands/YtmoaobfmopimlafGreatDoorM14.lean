/- For the law. -/
import Derived.Test.YtmoaobfmopimlafGreatDoorM13
set_option linter.unusedSimpArgs false
set_option linter.unusedVariables false
namespace Go.Proofs.YtmoaobfmopimlafGreatDoor
open Go.RowKit
section
open scoped Classical
open Go.ChangeShapes
open Go.WideShapes
open Go.ChangeAt
def Hp.cells (x : Hp) : List Value := [.int .i64 x.k, .int .i64 x.c, .int .i64 x.n, .int .i64 x.j, .int .i64 x.p, .int .i64 x.e.k, .int .i64 x.e.j, .int .i64 x.e.v, .int .i64 x.e.t, .int .i64 x.e.c]
theorem Hp.ten (x : Hp) : x.cells.length = 10 := rfl
abbrev HpSl (w : World) (v : Value) (l : List Hp) : Prop := SlOf Hp.cells 10 w v l
abbrev Hp.zero : Hp := ⟨0, 0, 0, 0, 0, En.zero⟩
theorem infoH : (Tryz.prog.info? 29).map (fun i => (i.zero, i.size, i.bytes)) = some (some (Hp.zero.val), 10, 80) := by kernel_rfl
theorem oneH (es : List Hp) : ∀ u ∈ es.flatMap Hp.cells, u.oneCell' = true := fun u hu => by
 obtain ⟨e, _, he⟩ := List.mem_flatMap.1 hu
 simp only [Hp.cells, List.mem_cons, List.not_mem_nil, or_false] at he
 rcases he with rfl | rfl | rfl | rfl | rfl | rfl | rfl | rfl | rfl | rfl <;> rfl
theorem appendH {w : World} {ops : Array Oper} {rest : List Oper} {o : Oper} {a : Act} {Q : Exit → Act → World → Prop} (hgd : o.guard = none) (s x : Operand)
  (ho : o.op = .call { callee := .builtin .append, args := #[s, x], argTypes := #[57, 57] })
  (base : Nat) (v u : Value) (n : Nat) (xs : List Value) (hs : a.eval s = v) (hown : w.ownsRow base 29 10 v n xs)
  (es : List Hp) (hx : a.eval x = u) (hes : SlOf Hp.cells 10 w u es) (hlen : n + es.length ≤ 1000000) (hbase : base ≤ w.heap.size)
  (h : ∀ v' w', w'.ownsRow base 29 10 v' (n + es.length) (xs ++ es.flatMap Hp.cells) → w.grownBy w' v.ownBlock → wpList Tryz.prog ops Q rest (a.put o.dst v') w') : wpList Tryz.prog ops Q (o :: rest) a w := by
 obtain ⟨i0, hi, hz0, hz1, hz2⟩ := info_parts infoH
 obtain ⟨ao, c, rfl, hcase⟩ := hes
 by_cases hz : es.length = 0
 ·obtain rfl : es = [] := List.length_eq_zero_iff.1 hz
  refine Lib.wpList_append_run w hgd s x _ _ ho v _ hs hx v w ?_ (h v w (by simpa using hown) ⟨rfl, rfl, rfl, Nat.le_refl _, fun _ _ _ => rfl⟩)
  have hsrc : Src Tryz.prog i0.size 57 (.slice ao 0 c) 0 [] w := by
   cases ao with
   | none => exact Src.ofNil w Tryz.underlying57 c
   | some ad => exact Src.ofSlice w Tryz.underlying57 ad 0 c [] (by simp) (by simp) (by simp)
  rcases hown.2 with ⟨rfl, _⟩ | ⟨g, cap, cur, rfl, _, _, hle, _⟩
  ·exact run_append_nothing w _ _ _ _ i0 Tryz.underlying57 hi none 0 0 (Nat.le_refl _) _ hsrc
  ·exact run_append_nothing w _ _ _ _ i0 Tryz.underlying57 hi _ n cap hle _ hsrc
 ·rcases hcase with h0 | ⟨b, off, rfl, hE⟩
  ·exact absurd h0 hz
  ·exact wpList_append_own w hgd s x _ ho base _ i0 (Hp.zero.val) 10 80 Tryz.underlying57 hi hz0 hz1 hz2 rfl (by decide) v n xs hs hown ⟨b, off, none⟩ es.length c (es.flatMap Hp.cells) hx (row_len Hp.ten es)
    (fun j u hj => by rw [Lib.add_plain]; exact rows_flat Hp.ten es off hE j u hj) (oneH es) (by unfold maxLen; omega) (by omega) hbase fun v' w' h1 h2 _ => h v' w' h1 h2
set_option maxHeartbeats 1000000 in
theorem grow_noneH (w : World) : Calls Tryz.prog 78 #[.slice none 0 0, .int .i64 0] w fun e w' => e = .returned (.slice none 0 0) ∧ w' = w := by
 go_enter Tryz.func78, Tryz.ntmps78
 go_wp2
 go_ret
 exact ⟨rfl, rfl⟩
set_option maxHeartbeats 2000000 in
set_option maxRecDepth 100000 in
theorem grow_someH (n : Nat) (h0 : 0 < n) (h1 : n ≤ 1000000) (w : World) : Calls Tryz.prog 78 #[.slice none 0 0, .int .i64 n] w fun e w' =>
  ∃ v, e = .returned v ∧ w'.ownsRow w.heap.size 29 10 v 0 [] ∧ Below w.heap.size w w' := by
 obtain ⟨i0, hi, hz0, hz1, hz2⟩ := info_parts infoH
 have hrz : ∀ ty, (Builtin.append_ #[57, 3] ty #[.slice none 0 0, .int .i64 n]).run Tryz.prog w = _ := fun ty =>
  Lib.run_append_grow_zeros w 57 3 ty 29 i0 (Hp.zero.val) .i64 .i64 Tryz.underlying57 Tryz.underlying3 hi hz0 none 0 0 [] (run_firstCells_none w.drew i0.size 0 0 0) n h0 (by omega) (by omega) (by omega) (by rw [hz2]; omega)
   (by rw [hz2]; exact growslice_fits (by omega) (by omega))
 rw [Nat.zero_add] at hrz
 obtain ⟨G, hG⟩ : ∃ G, G = grownCap w n 0 29 := ⟨_, rfl⟩
 have hGn : n ≤ G := hG ▸ grownCap_ge w _ _ _
 have hGm : G ≤ maxLen := hG ▸ grownCap_le_maxLen w n 0 _ (by unfold maxLen; omega)
 rw [← hG] at hrz
 have hG63 : G ≤ 9223372036854775807 := by unfold maxLen at hGm; omega
 have hcur : (([] : List Value).toArray ++ Builtin.zeroCells (Hp.zero.val).cells n ++ Builtin.zeroCells (Hp.zero.val).cells (G - n)).size = G * 10 := by
  simp only [Array.size_append, size_zeroCells]
  show 0 + n * 10 + (G - n) * 10 = G * 10
  omega
 generalize ([] : List Value).toArray ++ Builtin.zeroCells (Hp.zero.val).cells n ++ Builtin.zeroCells (Hp.zero.val).cells (G - n) = cur at hrz hcur
 have hpos : ((n : Int) > 0) := by omega
 clear hG hi hz0 hz1 hz2
 go_enter Tryz.func78, Tryz.ntmps78
 go_wp2_with (at_builtin; refine Lib.wpList_append_run _ rfl _ _ _ _ rfl _ _ rfl rfl _ _ (hrz _) ?_)
 all_goals
  go_ret
  exact ⟨_, rfl, World.ownsRow_made _ _ _ (Nat.le_refl _) hGm hcur, grew (Below.refl _ _).drew _⟩
theorem grow_anyH (n : Nat) (h1 : n ≤ 1000000) (w : World) : Calls Tryz.prog 78 #[.slice none 0 0, .int .i64 n] w fun e w' =>
  ∃ v, e = .returned v ∧ w'.ownsRow w.heap.size 29 10 v 0 [] ∧ Below w.heap.size w w' := by
 by_cases h0 : n = 0
 ·subst h0
  exact (grow_noneH w).mono fun e w' ⟨he, hw⟩ => ⟨_, he, World.ownsRow_nil _ _ _ _, by rw [hw]; exact Below.refl _ _⟩
 ·exact grow_someH n (by omega) h1 w
set_option maxHeartbeats 2000000 in
set_option maxRecDepth 100000 in
theorem concat4_atH (b n1 n2 n3 n4 c1 c2 c3 c4 : Nat) (a1 a2 a3 a4 : Option Addr) (x1 x2 x3 x4 : List Hp) (w : World) (hb : w.heap[b]? = some (.cells #[.slice a1 n1 c1, .slice a2 n2 c2, .slice a3 n3 c3, .slice a4 n4 c4] 57)) (h1 : SlOf Hp.cells 10 w (.slice a1 n1 c1) x1) (h2 : SlOf Hp.cells 10 w (.slice a2 n2 c2) x2) (h3 : SlOf Hp.cells 10 w (.slice a3 n3 c3) x3) (h4 : SlOf Hp.cells 10 w (.slice a4 n4 c4) x4) (hlen : n1 + n2 + n3 + n4 ≤ 1000000) :
  Calls Tryz.prog 27 #[.slice (some ⟨b, 0, none⟩) 4 4] w fun e w' => ∃ v, e = .returned v ∧ SlOf Hp.cells 10 w' v (x1 ++ x2 ++ x3 ++ x4) ∧ Below w.heap.size w w' := by
 have HB : Hid (w.heap[b]? = some (.cells #[.slice a1 n1 c1, .slice a2 n2 c2, .slice a3 n3 c3, .slice a4 n4 c4] 57)) := hb
 have H1 : Hid (SlOf Hp.cells 10 w (.slice a1 n1 c1) x1) := h1
 have L1 : Hid (x1.length = n1) := h1.len
 have H2 : Hid (SlOf Hp.cells 10 w (.slice a2 n2 c2) x2) := h2
 have L2 : Hid (x2.length = n2) := h2.len
 have H3 : Hid (SlOf Hp.cells 10 w (.slice a3 n3 c3) x3) := h3
 have L3 : Hid (x3.length = n3) := h3.len
 have H4 : Hid (SlOf Hp.cells 10 w (.slice a4 n4 c4) x4) := h4
 have L4 : Hid (x4.length = n4) := h4.len
 have k0 := fun i => Joins.cell_of_block hb i
 clear hb h1 h2 h3 h4
 go_enter Tryz.func27, Tryz.ntmps27
 go_wp2
 go_loopw [3, 11] (fun z i wr => ∃ q : Nat, wr = w.drewN q ∧ ((i = .int .i64 0 ∧ z = .int .i64 0) ∨ (i = .int .i64 1 ∧ z = .int .i64 ((n1 : Nat) : Int)) ∨ (i = .int .i64 2 ∧ z = .int .i64 ((n1 + n2 : Nat) : Int)) ∨ (i = .int .i64 3 ∧ z = .int .i64 ((n1 + n2 + n3 : Nat) : Int)) ∨ (i = .int .i64 4 ∧ z = .int .i64 ((n1 + n2 + n3 + n4 : Nat) : Int)))) (fun _ i _ => 4 - (intOf i).toNat)
 case atStart => exact ⟨0, rfl, Or.inl ⟨rfl, rfl⟩⟩
 case round =>
  obtain ⟨q, rfl, ⟨rfl, rfl⟩ | ⟨rfl, rfl⟩ | ⟨rfl, rfl⟩ | ⟨rfl, rfl⟩ | ⟨rfl, rfl⟩⟩ := hrel
  ·go_wp2
   go_roundw
   case rel => exact ⟨_, rfl, Or.inr (Or.inl ⟨rfl, by go_num⟩)⟩
   case measure => simp [intOf]
  ·go_wp2
   go_roundw
   case rel => exact ⟨_, rfl, Or.inr (Or.inr (Or.inl ⟨rfl, by go_num⟩))⟩
   case measure => simp [intOf]
  ·go_wp2
   go_roundw
   case rel => exact ⟨_, rfl, Or.inr (Or.inr (Or.inr (Or.inl ⟨rfl, by go_num⟩)))⟩
   case measure => simp [intOf]
  ·go_wp2
   go_roundw
   case rel => exact ⟨_, rfl, Or.inr (Or.inr (Or.inr (Or.inr (⟨rfl, by go_num⟩))))⟩
   case measure => simp [intOf]
  ·clear k0
   go_wp2_with fail
   refine (grow_anyH (n1 + n2 + n3 + n4) hlen _).mono ?_
   rintro r w1 ⟨v0, rfl, hO, hB0⟩
   have hB1 : Below w.heap.size w w1 := (below_drewN (Below.refl _ _) _).trans (hB0.mono (by simp))
   have hO1 : w1.ownsRow w.heap.size 29 10 v0 0 [] := by simpa using hO
   clear hO hB0
   go_wp2
   go_loopw [6, 27] (fun v i wr => ∃ gs : List Hp, wr.ownsRow w.heap.size 29 10 v gs.length (gs.flatMap Hp.cells) ∧ Below w.heap.size w wr ∧ ((i = .int .i64 0 ∧ gs = []) ∨ (i = .int .i64 1 ∧ gs = x1) ∨ (i = .int .i64 2 ∧ gs = x1 ++ x2) ∨ (i = .int .i64 3 ∧ gs = x1 ++ x2 ++ x3) ∨ (i = .int .i64 4 ∧ gs = x1 ++ x2 ++ x3 ++ x4))) (fun _ i _ => 4 - (intOf i).toNat)
   case atStart => exact ⟨[], hO1, hB1, Or.inl ⟨rfl, rfl⟩⟩
   case round =>
    obtain ⟨gs, hO, hB, ⟨rfl, rfl⟩ | ⟨rfl, rfl⟩ | ⟨rfl, rfl⟩ | ⟨rfl, rfl⟩ | ⟨rfl, rfl⟩⟩ := hrel
    ·have hbr := heap_below HB.out hB (heap_lt HB.out)
     have k1 := fun i => Joins.cell_of_block hbr i
     have hle : ([] : List Hp).length + x1.length ≤ 1000000 := by have := L1.out; have := L2.out; have := L3.out; have := L4.out; simp only [List.length_nil]; omega
     go_wp2_with (at_builtin; refine appendH rfl _ _ rfl w.heap.size _ _ _ _ rfl (hO) x1 rfl (H1.out.later hB) hle hB.size ?_; intro v' w' hO' hg')
     have hB' : Below w.heap.size w w' := hB.grown hg' hB.size (fun q hq => by have := (hO.lt q hq).1; omega)
     go_roundw
     case rel => exact ⟨x1, by simpa using hO', hB', Or.inr (Or.inl ⟨rfl, rfl⟩)⟩
     case measure => simp [intOf]
    ·have hbr := heap_below HB.out hB (heap_lt HB.out)
     have k1 := fun i => Joins.cell_of_block hbr i
     have hle : (gs : List Hp).length + x2.length ≤ 1000000 := by have := L1.out; have := L2.out; have := L3.out; have := L4.out; omega
     go_wp2_with (at_builtin; refine appendH rfl _ _ rfl w.heap.size _ _ _ _ rfl (hO) x2 rfl (H2.out.later hB) hle hB.size ?_; intro v' w' hO' hg')
     have hB' : Below w.heap.size w w' := hB.grown hg' hB.size (fun q hq => by have := (hO.lt q hq).1; omega)
     go_roundw
     case rel => exact ⟨gs ++ x2, by rw [List.length_append, List.flatMap_append]; exact hO', hB', Or.inr (Or.inr (Or.inl ⟨rfl, rfl⟩))⟩
     case measure => simp [intOf]
    ·have hbr := heap_below HB.out hB (heap_lt HB.out)
     have k1 := fun i => Joins.cell_of_block hbr i
     have hle : (x1 ++ x2 : List Hp).length + x3.length ≤ 1000000 := by have := L1.out; have := L2.out; have := L3.out; have := L4.out; simp only [List.length_append]; omega
     go_wp2_with (at_builtin; refine appendH rfl _ _ rfl w.heap.size _ _ _ _ rfl (hO) x3 rfl (H3.out.later hB) hle hB.size ?_; intro v' w' hO' hg')
     have hB' : Below w.heap.size w w' := hB.grown hg' hB.size (fun q hq => by have := (hO.lt q hq).1; omega)
     go_roundw
     case rel => exact ⟨x1 ++ x2 ++ x3, by rw [List.length_append, List.flatMap_append]; exact hO', hB', Or.inr (Or.inr (Or.inr (Or.inl ⟨rfl, rfl⟩)))⟩
     case measure => simp [intOf]
    ·have hbr := heap_below HB.out hB (heap_lt HB.out)
     have k1 := fun i => Joins.cell_of_block hbr i
     have hle : (x1 ++ x2 ++ x3 : List Hp).length + x4.length ≤ 1000000 := by have := L1.out; have := L2.out; have := L3.out; have := L4.out; simp only [List.length_append]; omega
     go_wp2_with (at_builtin; refine appendH rfl _ _ rfl w.heap.size _ _ _ _ rfl (hO) x4 rfl (H4.out.later hB) hle hB.size ?_; intro v' w' hO' hg')
     have hB' : Below w.heap.size w w' := hB.grown hg' hB.size (fun q hq => by have := (hO.lt q hq).1; omega)
     go_roundw
     case rel => exact ⟨x1 ++ x2 ++ x3 ++ x4, by rw [List.length_append, List.flatMap_append]; exact hO', hB', Or.inr (Or.inr (Or.inr (Or.inr (⟨rfl, rfl⟩))))⟩
     case measure => simp [intOf]
    ·go_wp2
     go_ret
     exact ⟨_, rfl, slOf_of_owns Hp.ten hO, hB⟩
theorem concat4H (b : Nat) (v1 v2 v3 v4 : Value) (x1 x2 x3 x4 : List Hp) (w : World) (hb : w.heap[b]? = some (.cells #[v1, v2, v3, v4] 57)) (h1 : SlOf Hp.cells 10 w v1 x1) (h2 : SlOf Hp.cells 10 w v2 x2) (h3 : SlOf Hp.cells 10 w v3 x3) (h4 : SlOf Hp.cells 10 w v4 x4) (hlen : x1.length + x2.length + x3.length + x4.length ≤ 1000000) :
  Calls Tryz.prog 27 #[.slice (some ⟨b, 0, none⟩) 4 4] w fun e w' => ∃ v, e = .returned v ∧ SlOf Hp.cells 10 w' v (x1 ++ x2 ++ x3 ++ x4) ∧ Below w.heap.size w w' := by
 have g1 := h1
 have g2 := h2
 have g3 := h3
 have g4 := h4
 obtain ⟨a1, c1, rfl, _⟩ := h1
 obtain ⟨a2, c2, rfl, _⟩ := h2
 obtain ⟨a3, c3, rfl, _⟩ := h3
 obtain ⟨a4, c4, rfl, _⟩ := h4
 exact concat4_atH b _ _ _ _ c1 c2 c3 c4 a1 a2 a3 a4 x1 x2 x3 x4 w hb g1 g2 g3 g4 hlen
end
section
open Go.ChangeShapes
open Go.WideShapes
open Go.ChangeAt
set_option maxRecDepth 100000
theorem cellsNd : Tryz.prog.cellsOf 49 = 5 := by kernel_rfl
theorem cellsWd : Tryz.prog.cellsOf 25 = 4 := by kernel_rfl
theorem cellsBo : Tryz.prog.cellsOf 4 = 1 := by kernel_rfl
theorem cellsWi : Tryz.prog.cellsOf 3 = 1 := by kernel_rfl
theorem cellsWe : Tryz.prog.cellsOf 27 = 5 := by kernel_rfl
theorem cellsWu : Tryz.prog.cellsOf 44 = 2 := by kernel_rfl
theorem cellsWb : Tryz.prog.cellsOf 39 = 2 := by kernel_rfl
theorem cellsLN : Tryz.prog.cellsOf 22 = 1 := by kernel_rfl
theorem cellsLC : Tryz.prog.cellsOf 23 = 1 := by kernel_rfl
theorem arrW4 {α : Type} {cs : Array α} (h : cs.size = 4) : ∃ c0 c1 c2 c3, cs = #[c0, c1, c2, c3] := by
 obtain ⟨l⟩ := cs
 match l, h with
 | [c0, c1, c2, c3], _ => exact ⟨c0, c1, c2, c3, rfl⟩
section
variable {H : Type} {enc : TypeId × Value → H} {w : World} {base : Nat} {spare : Nat → Bool} {held : Bool}
theorem weightsAll_mem {P : Program} {e : TypeId} : ∀ (l : List (DataW H)) {i : Nat} (d : DataW H), l[i]? = some d → ∀ n ∈ d.weights P e, n ∈ DataW.weightsAll P e l
 | [], i, d, h, _, _ => by simp at h
 | y :: r, 0, d, h, n, hn => by
  obtain rfl : y = d := by simpa using h
  rw [DataW.weightsAll]
  exact List.mem_append_left _ hn
 | y :: r, i + 1, d, h, n, hn => by
  rw [DataW.weightsAll]
  exact List.mem_append_right _ (weightsAll_mem r d (by simpa using h) n hn)
theorem trodDk {fuel : Nat} {c0 c1 : Value} {x : DataW H × List MemPlace} (hf : DataW.trod enc Tryz.prog w base spare held fuel 47 [c0, c1] = some x) (hs : ∀ n ∈ DataW.weights Tryz.prog 47 x.1, n ≤ reachBytes) :
  ∃ d : Dk, DiskR w c0 c1 d ∧ d.1.length ≤ topLen ∧ d.2.length ≤ topLen := by
 obtain ⟨xs, n, _, hx, _, hlen, hel⟩ := DataW.trod_struct Tryz.underlying47 hf
 match xs, hlen with
 | [y0, y1], _ =>
  have k0 : DataW.trod enc Tryz.prog w base spare held n 45 (List.take (Tryz.prog.cellsOf 45) (List.drop 0 [c0, c1])) = some y0 := hel 0 _ rfl
  have k1 : DataW.trod enc Tryz.prog w base spare held n 45 (List.take (Tryz.prog.cellsOf 45) (List.drop 1 [c0, c1])) = some y1 := hel 1 _ rfl
  rw [cellsLY] at k0 k1
  have k0' : DataW.trod enc Tryz.prog w base spare held n 45 [c0] = some y0 := k0
  have k1' : DataW.trod enc Tryz.prog w base spare held n 45 [c1] = some y1 := k1
  obtain ⟨a1, l1, q1, rfl⟩ := one_sl Tryz.underlying45 k0'
  obtain ⟨a2, l2, q2, rfl⟩ := one_sl Tryz.underlying45 k1'
  obtain ⟨s, hs', _, hr1⟩ := openY k0'
  obtain ⟨t, ht, _, hr2⟩ := openY k1'
  have e1 := hs'.len
  have e2 := ht.len
  have hw : DataW.weights Tryz.prog 47 x.1 = DataW.weights Tryz.prog 45 y0.1 ++ DataW.weights Tryz.prog 45 y1.1 := by
   rw [hx]
   simp only [DataW.weights, Tryz.underlying47]
   simp [DataW.weightsEach]
  have b1 := lenY k0' (fun n hn => hs n (by rw [hw]; exact List.mem_append_left _ hn))
  have b2 := lenY k1' (fun n hn => hs n (by rw [hw]; exact List.mem_append_right _ hn))
  exact ⟨(s, t), ⟨hs', ht, ⟨_, _, _, rfl, hr1⟩, ⟨_, _, _, rfl, hr2⟩⟩, by show s.length ≤ _; omega, by show t.length ≤ _; omega⟩
def NdOk (w : World) (q : Nb) : Prop := NodeT w q ∧ q.n.u.cells.length ≤ maxLen ∧ q.n.s.length ≤ topLen ∧ q.n.w.length ≤ topLen
theorem trodNd {fuel : Nat} {cs : List Value} {x : DataW H × List MemPlace} (h : DataW.trod enc Tryz.prog w base spare held fuel 49 cs = some x) (hs : ∀ n ∈ DataW.weights Tryz.prog 49 x.1, n ≤ reachBytes) : ∃ q : Nb, cs = q.cells ∧ NdOk w q := by
 obtain ⟨xs, n, _, hx, hcl, hlen, hel⟩ := DataW.trod_struct Tryz.underlying49 h
 rw [cellsNd] at hcl
 match xs, hlen, cs, hcl with
 | [y0, y1, y2], _, [c0, c1, c2, c3, c4], _ =>
  have k0 : DataW.trod enc Tryz.prog w base spare held n 44 (List.take (Tryz.prog.cellsOf 44) (List.drop 0 [c0, c1, c2, c3, c4])) = some y0 := hel 0 _ rfl
  have k1 : DataW.trod enc Tryz.prog w base spare held n 47 (List.take (Tryz.prog.cellsOf 47) (List.drop 2 [c0, c1, c2, c3, c4])) = some y1 := hel 1 _ rfl
  have k2 : DataW.trod enc Tryz.prog w base spare held n 4 (List.take (Tryz.prog.cellsOf 4) (List.drop 4 [c0, c1, c2, c3, c4])) = some y2 := hel 2 _ rfl
  rw [cellsWu] at k0
  rw [cellsD] at k1
  rw [cellsBo] at k2
  have k0' : DataW.trod enc Tryz.prog w base spare held n 44 [c0, c1] = some y0 := k0
  have k1' : DataW.trod enc Tryz.prog w base spare held n 47 [c2, c3] = some y1 := k1
  have k2' : DataW.trod enc Tryz.prog w base spare held n 4 [c4] = some y2 := k2
  have hw : DataW.weights Tryz.prog 49 x.1 = DataW.weights Tryz.prog 44 y0.1 ++ (DataW.weights Tryz.prog 47 y1.1 ++ DataW.weights Tryz.prog 4 y2.1) := by
   rw [hx]
   simp only [DataW.weights, Tryz.underlying49]
   simp [DataW.weightsEach]
  obtain ⟨u, rfl, h1, h2⟩ := trodUU k0'
  obtain ⟨d, h3, h4, h5⟩ := trodDk k1' (fun n hn => hs n (by rw [hw]; exact List.mem_append_right _ (List.mem_append_left _ hn)))
  obtain ⟨b, hb, _⟩ := DataW.trod_bool Tryz.underlying4 k2'
  simp at hb
  subst hb
  exact ⟨⟨⟨u, d.1, d.2, b⟩, c1, c2, c3⟩, rfl, ⟨h1, h3⟩, h2, h4, h5⟩
def ClOk (w : World) (q : Cb) : Prop := ClientT w q ∧ q.c.js.length ≤ maxLen ∧ q.c.rs.length ≤ maxLen
theorem trodCb {fuel : Nat} {cs : List Value} {x : DataW H × List MemPlace} (hf : DataW.trod enc Tryz.prog w base spare held fuel 41 cs = some x) : ∃ q : Cb, cs = q.cells ∧ ClOk w q := by
 obtain ⟨xs, n, _, hx, hcl, hlen, hel⟩ := DataW.trod_struct Tryz.underlying41 hf
 rw [cellsCl] at hcl
 match xs, hlen, cs, hcl with
 | [y0, y1, y2, y3, y4, y5, y6], _, [c0, c1, c2, c3, c4, c5, c6, c7, c8, c9, c10, c11], _ =>
  have k0 : DataW.trod enc Tryz.prog w base spare held n 3 (List.take (Tryz.prog.cellsOf 3) (List.drop 0 [c0, c1, c2, c3, c4, c5, c6, c7, c8, c9, c10, c11])) = some y0 := hel 0 _ rfl
  have k1 : DataW.trod enc Tryz.prog w base spare held n 3 (List.take (Tryz.prog.cellsOf 3) (List.drop 1 [c0, c1, c2, c3, c4, c5, c6, c7, c8, c9, c10, c11])) = some y1 := hel 1 _ rfl
  have k2 : DataW.trod enc Tryz.prog w base spare held n 27 (List.take (Tryz.prog.cellsOf 27) (List.drop 2 [c0, c1, c2, c3, c4, c5, c6, c7, c8, c9, c10, c11])) = some y2 := hel 2 _ rfl
  have k3 : DataW.trod enc Tryz.prog w base spare held n 3 (List.take (Tryz.prog.cellsOf 3) (List.drop 7 [c0, c1, c2, c3, c4, c5, c6, c7, c8, c9, c10, c11])) = some y3 := hel 3 _ rfl
  have k4 : DataW.trod enc Tryz.prog w base spare held n 3 (List.take (Tryz.prog.cellsOf 3) (List.drop 8 [c0, c1, c2, c3, c4, c5, c6, c7, c8, c9, c10, c11])) = some y4 := hel 4 _ rfl
  have k5 : DataW.trod enc Tryz.prog w base spare held n 3 (List.take (Tryz.prog.cellsOf 3) (List.drop 9 [c0, c1, c2, c3, c4, c5, c6, c7, c8, c9, c10, c11])) = some y5 := hel 5 _ rfl
  have k6 : DataW.trod enc Tryz.prog w base spare held n 39 (List.take (Tryz.prog.cellsOf 39) (List.drop 10 [c0, c1, c2, c3, c4, c5, c6, c7, c8, c9, c10, c11])) = some y6 := hel 6 _ rfl
  rw [cellsWi] at k0 k1 k3 k4 k5
  rw [cellsWe] at k2
  rw [cellsWb] at k6
  obtain ⟨a0, e0, _, _⟩ := DataW.trod_int Tryz.underlying3 k0
  obtain ⟨a1, e1, _, _⟩ := DataW.trod_int Tryz.underlying3 k1
  obtain ⟨a3, e3, _, _⟩ := DataW.trod_int Tryz.underlying3 k3
  obtain ⟨a4, e4, _, _⟩ := DataW.trod_int Tryz.underlying3 k4
  obtain ⟨a5, e5, _, _⟩ := DataW.trod_int Tryz.underlying3 k5
  have k2' : DataW.trod enc Tryz.prog w base spare held n 27 [c2, c3, c4, c5, c6] = some y2 := k2
  have k6' : DataW.trod enc Tryz.prog w base spare held n 39 [c10, c11] = some y6 := k6
  obtain ⟨e, he⟩ := trodE k2'
  obtain ⟨js, rs, hj, hr, hjl, hrl⟩ := trodBk k6'
  simp at e0 e1 e3 e4 e5
  subst e0 e1 e3 e4 e5
  simp only [En.cells, List.cons.injEq, and_true] at he
  obtain ⟨rfl, rfl, rfl, rfl, rfl⟩ := he
  exact ⟨⟨⟨a0, a1, e, a3, a4, a5, js, rs⟩, c10, c11⟩, rfl, ⟨hj, hr⟩, hjl, hrl⟩
theorem openNd {fuel : Nat} {a0 : Option Addr} {len0 cap0 : Nat} {x : DataW H × List MemPlace} (hf : DataW.trod enc Tryz.prog w base spare held fuel 22 [.slice a0 len0 cap0] = some x) (hs : ∀ n ∈ DataW.weights Tryz.prog 22 x.1, n ≤ reachBytes) :
  ∃ es : List Nb, SlOf Nb.cells 5 w (.slice a0 len0 cap0) es ∧ (∀ e, e ∈ es → NdOk w e) ∧ es.length ≤ maxLen ∧ len0 ≤ cap0 := by
 rcases Deep.open_slice Tryz.underlying22 hf with ⟨hcs, _⟩ | ⟨a, len, cap, m, n, Dd, Pl, hcs, _, hl, hm, hmm, hx, hel⟩
 ·simp at hcs
  obtain ⟨rfl, rfl, rfl⟩ := hcs
  exact ⟨[], ⟨none, 0, rfl, Or.inl rfl⟩, fun e he => (by cases he), Nat.zero_le _, Nat.le_refl _⟩
 ·simp at hcs
  obtain ⟨rfl, rfl, rfl⟩ := hcs
  rw [cellsNd] at hel
  have hlm : len0 ≤ m := by rw [hmm]; split <;> omega
  have hD : ∀ i, i < len0 → ∀ n ∈ DataW.weights Tryz.prog 49 (Dd i), n ≤ reachBytes := fun i hi n hn => hs n (by
   rw [hx]
   simp only [DataW.weights, Tryz.underlying22]
   exact List.mem_cons_of_mem _ (List.mem_append_left _ (weightsAll_mem (i := i) _ _ (by simp [hi]) n hn)))
  have hE : ∀ i, i < len0 → ∃ e : Nb, (∀ j u, (Nb.cells e)[j]? = some u → w.cell? ((a.add (i * 5)).add j) = some u) ∧ NdOk w e := fun i hi => by
   obtain ⟨cs', h1, h2⟩ := hel i (by omega)
   obtain ⟨e, rfl, hp⟩ := trodNd h2 (hD i hi)
   refine ⟨e, fun j u hj => ?_, hp⟩
   have hlt : j < 5 := by
    have := (List.getElem?_eq_some_iff.1 hj).1
    simpa [Nb.cells] using this
   exact ((World.cells?_some h1).2.2 j hlt).trans hj
  obtain ⟨Ee, hE⟩ := @Deep.choose_lt Nb ⟨⟨Nd.zero, nil0, nil0, nil0⟩⟩ len0 _ hE
  have hlen : ((List.range len0).map Ee).length = len0 := by simp
  refine ⟨(List.range len0).map Ee, ⟨some a, cap0, by rw [hlen], ?_⟩, fun e he => ?_, by rw [hlen]; omega, hl⟩
  ·rw [hlen]
   by_cases hz : len0 = 0
   ·exact Or.inl hz
   ·right
    obtain ⟨b, off, spot⟩ := a
    have hspot : spot = none := by
     have := World.cell?_spot ((hE 0 (by omega)).1 0 _ rfl)
     simpa [Addr.add] using this
    subst hspot
    refine ⟨b, off, rfl, fun j e hj i u hi => ?_⟩
    have hjl : j < len0 := by
     have := (List.getElem?_eq_some_iff.1 hj).1
     rwa [hlen] at this
    have he : Ee j = e := by simpa [hjl] using hj
    have := (hE j hjl).1 i u (by rw [he]; exact hi)
    rw [Deep.add_add, Lib.add_plain] at this
    rw [Nat.add_assoc]
    exact this
  ·obtain ⟨i, hi, rfl⟩ := List.mem_map.1 he
   exact (hE i (List.mem_range.1 hi)).2
theorem openCb {fuel : Nat} {a0 : Option Addr} {len0 cap0 : Nat} {x : DataW H × List MemPlace} (hf : DataW.trod enc Tryz.prog w base spare held fuel 23 [.slice a0 len0 cap0] = some x) :
  ∃ es : List Cb, SlOf Cb.cells 12 w (.slice a0 len0 cap0) es ∧ (∀ e, e ∈ es → ClOk w e) ∧ es.length ≤ maxLen ∧ len0 ≤ cap0 := by
 rcases Deep.open_slice Tryz.underlying23 hf with ⟨hcs, _⟩ | ⟨a, len, cap, m, n, Dd, Pl, hcs, _, hl, hm, hmm, hx, hel⟩
 ·simp at hcs
  obtain ⟨rfl, rfl, rfl⟩ := hcs
  exact ⟨[], ⟨none, 0, rfl, Or.inl rfl⟩, fun e he => (by cases he), Nat.zero_le _, Nat.le_refl _⟩
 ·simp at hcs
  obtain ⟨rfl, rfl, rfl⟩ := hcs
  rw [cellsCl] at hel
  have hlm : len0 ≤ m := by rw [hmm]; split <;> omega
  have hE : ∀ i, i < len0 → ∃ e : Cb, (∀ j u, (Cb.cells e)[j]? = some u → w.cell? ((a.add (i * 12)).add j) = some u) ∧ ClOk w e := fun i hi => by
   obtain ⟨cs', h1, h2⟩ := hel i (by omega)
   obtain ⟨e, rfl, hp⟩ := trodCb h2
   refine ⟨e, fun j u hj => ?_, hp⟩
   have hlt : j < 12 := by
    have := (List.getElem?_eq_some_iff.1 hj).1
    simpa [Cb.cells] using this
   exact ((World.cells?_some h1).2.2 j hlt).trans hj
  obtain ⟨Ee, hE⟩ := @Deep.choose_lt Cb ⟨⟨Cl.zero, nil0, nil0⟩⟩ len0 _ hE
  have hlen : ((List.range len0).map Ee).length = len0 := by simp
  refine ⟨(List.range len0).map Ee, ⟨some a, cap0, by rw [hlen], ?_⟩, fun e he => ?_, by rw [hlen]; omega, hl⟩
  ·rw [hlen]
   by_cases hz : len0 = 0
   ·exact Or.inl hz
   ·right
    obtain ⟨b, off, spot⟩ := a
    have hspot : spot = none := by
     have := World.cell?_spot ((hE 0 (by omega)).1 0 _ rfl)
     simpa [Addr.add] using this
    subst hspot
    refine ⟨b, off, rfl, fun j e hj i u hi => ?_⟩
    have hjl : j < len0 := by
     have := (List.getElem?_eq_some_iff.1 hj).1
     rwa [hlen] at this
    have he : Ee j = e := by simpa [hjl] using hj
    have := (hE j hjl).1 i u (by rw [he]; exact hi)
    rw [Deep.add_add, Lib.add_plain] at this
    rw [Nat.add_assoc]
    exact this
  ·obtain ⟨i, hi, rfl⟩ := List.mem_map.1 he
   exact (hE i (List.mem_range.1 hi)).2
theorem openWd {r : Reach} {b0 : Nat} {v : Value} {d : DataW H} {p : List MemPlace} (hv : Value.okWide Tryz.prog w r b0 25 v) (h : DataW.Trod enc Tryz.prog w base spare held 25 v d p) (hs : ∀ n ∈ DataW.weights Tryz.prog 25 d, n ≤ reachBytes) :
  ∃ (vn vc : Value) (tip t : Int) (xs : List Nb) (cs : List Cb), v = wval vn tip vc t ∧ WdAt w vn vc xs cs ∧ WdFits xs cs := by
 obtain ⟨cs, rfl, hsz⟩ := okWide_struct Tryz.underlying25 hv
 obtain ⟨c0, c1, c2, c3, rfl⟩ := arrW4 (hsz.trans cellsWd)
 obtain ⟨fuel, hf⟩ := h
 obtain ⟨xs, n, _, hx, _, hlen, hel⟩ := DataW.trod_struct Tryz.underlying25 hf
 match xs, hlen with
 | [y0, y1, y2, y3], _ =>
  have k0 : DataW.trod enc Tryz.prog w base spare held n 22 (List.take (Tryz.prog.cellsOf 22) (List.drop 0 [c0, c1, c2, c3])) = some y0 := hel 0 _ rfl
  have k1 : DataW.trod enc Tryz.prog w base spare held n 3 (List.take (Tryz.prog.cellsOf 3) (List.drop 1 [c0, c1, c2, c3])) = some y1 := hel 1 _ rfl
  have k2 : DataW.trod enc Tryz.prog w base spare held n 23 (List.take (Tryz.prog.cellsOf 23) (List.drop 2 [c0, c1, c2, c3])) = some y2 := hel 2 _ rfl
  have k3 : DataW.trod enc Tryz.prog w base spare held n 3 (List.take (Tryz.prog.cellsOf 3) (List.drop 3 [c0, c1, c2, c3])) = some y3 := hel 3 _ rfl
  rw [cellsLN] at k0
  rw [cellsWi] at k1 k3
  rw [cellsLC] at k2
  have k0' : DataW.trod enc Tryz.prog w base spare held n 22 [c0] = some y0 := k0
  have k2' : DataW.trod enc Tryz.prog w base spare held n 23 [c2] = some y2 := k2
  obtain ⟨tip, e1, _, _⟩ := DataW.trod_int Tryz.underlying3 k1
  obtain ⟨t, e3, _, _⟩ := DataW.trod_int Tryz.underlying3 k3
  simp at e1 e3
  subst e1 e3
  obtain ⟨a1, l1, q1, rfl⟩ := one_sl Tryz.underlying22 k0'
  obtain ⟨a2, l2, q2, rfl⟩ := one_sl Tryz.underlying23 k2'
  have hw : DataW.weights Tryz.prog 25 d = DataW.weights Tryz.prog 22 y0.1 ++ (DataW.weights Tryz.prog 3 y1.1 ++ (DataW.weights Tryz.prog 23 y2.1 ++ DataW.weights Tryz.prog 3 y3.1)) := by
   have hd : d = .agg [y0.1, y1.1, y2.1, y3.1] := by injection hx
   rw [hd]
   simp only [DataW.weights, Tryz.underlying25]
   simp [DataW.weightsEach]
  obtain ⟨ns, g1, g2, g3, g4⟩ := openNd k0' (fun n hn => hs n (by rw [hw]; exact List.mem_append_left _ hn))
  obtain ⟨ds, g5, g6, g7, g8⟩ := openCb k2'
  have hm : ∀ {n : Nat}, n ≤ maxLen → n ≤ most := fun {n} h => Nat.le_trans h (by unfold maxLen; decide)
  exact ⟨_, _, tip, t, ns, ds, rfl, ⟨g1, g5, ⟨_, _, _, rfl, g4⟩, ⟨_, _, _, rfl, g8⟩, fun x hx => (g2 x hx).1, fun x hx => (g6 x hx).1⟩, ⟨hm g3, hm g7, fun x hx => hm (g2 x hx).2.1, fun x hx => (g2 x hx).2.2.1, fun x hx => (g2 x hx).2.2.2, fun x hx => hm (g6 x hx).2.1, fun x hx => hm (g6 x hx).2.2⟩⟩
end
end
section
open scoped Classical
theorem three_of {w : World} {a : Option Addr} {c : Nat} {xs : List Ub} (h : ChAt w (.slice a 3 c) xs) : ∃ u0 u1 u2 a0 n0 c0 a1 n1 c1 a2 n2 c2 b off, xs = [⟨u0, .slice a0 n0 c0⟩, ⟨u1, .slice a1 n1 c1⟩, ⟨u2, .slice a2 n2 c2⟩] ∧ a = some ⟨b, off, none⟩ ∧ RowAt Ub.cells 2 w b off xs ∧
  (UnitAt w (.slice a0 n0 c0) u0 ∧ UnitAt w (.slice a1 n1 c1) u1 ∧ UnitAt w (.slice a2 n2 c2) u2) ∧ u0.cells.length = n0 ∧ u1.cells.length = n1 ∧ u2.cells.length = n2 := by
 have hl := h.rows.len
 obtain ⟨b, off, ha, hE⟩ := h.rows.at (by omega)
 match xs, hl with
 | [x0, x1, x2], _ =>
  have h0 := h.each x0 (by simp)
  have h1 := h.each x1 (by simp)
  have h2 := h.each x2 (by simp)
  obtain ⟨u0, v0⟩ := x0
  obtain ⟨u1, v1⟩ := x1
  obtain ⟨u2, v2⟩ := x2
  obtain ⟨a0, n0, c0, e0, _⟩ := h0.room
  obtain ⟨a1, n1, c1, e1, _⟩ := h1.room
  obtain ⟨a2, n2, c2, e2, _⟩ := h2.room
  dsimp only at e0 e1 e2
  subst e0 e1 e2
  exact ⟨u0, u1, u2, a0, n0, c0, a1, n1, c1, a2, n2, c2, b, off, rfl, ha, hE, ⟨h0, h1, h2⟩, SlOf.len (cs := En.cells) (k := 5) h0.ents, SlOf.len (cs := En.cells) (k := 5) h1.ents, SlOf.len (cs := En.cells) (k := 5) h2.ents⟩
theorem row_three {w : World} {b off : Nat} {u0 u1 u2 : Un} {v0 v1 v2 : Value} (h : RowAt Ub.cells 2 w b off [⟨u0, v0⟩, ⟨u1, v1⟩, ⟨u2, v2⟩]) :
  (w.cell? ⟨b, off, none⟩ = some (.int .i64 u0.p) ∧ w.cell? ⟨b, off + 1, none⟩ = some v0) ∧ (w.cell? ⟨b, off + 2, none⟩ = some (.int .i64 u1.p) ∧ w.cell? ⟨b, off + 2 + 1, none⟩ = some v1) ∧ (w.cell? ⟨b, off + 4, none⟩ = some (.int .i64 u2.p) ∧ w.cell? ⟨b, off + 4 + 1, none⟩ = some v2) :=
 ⟨⟨h 0 _ rfl 0 _ rfl, h 0 _ rfl 1 _ rfl⟩, ⟨h 1 _ rfl 0 _ rfl, h 1 _ rfl 1 _ rfl⟩, ⟨h 2 _ rfl 0 _ rfl, h 2 _ rfl 1 _ rfl⟩⟩
end
end Go.Proofs.YtmoaobfmopimlafGreatDoor
