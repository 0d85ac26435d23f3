/- The closed fact 'linked', given the contracts of packages chain and unit. -/
import Derived.Test.YtaialgacaomaeadChainG
import Derived.Test.YtaialgacaomaeadUnitH
import Derived.Deep.RegionHeld3
namespace Go.Proofs.Ytaialgacaomaead
open Go.RowKit
open scoped Classical

/-- A unit's box, in a later world. -/
abbrev Bo1 (X W : World) (b : Nat) (s : Value) : Prop := Below X.heap.size X W ∧ W.cell? ⟨b, 0, none⟩ = some (.int .i64 1) ∧ W.cell? ⟨b, 1, none⟩ = some s
theorem bo1_of {X W : World} {b : Nat} {s : Value} (h : X.heap[b]? = some (boxU 1 s)) (hb : Below X.heap.size X W) : Bo1 X W b s :=
  ⟨hb, cell_later hb (Joins.cell_of_block h 0), cell_later hb (Joins.cell_of_block h 1)⟩

/-- What linked's guards read. -/
abbrev LkS (Y W : World) (ub lb rb xb yb zb : Nat) (aA a2 a3 : Option Addr) (nA cA n2 c2 n3 c3 : Nat) : Prop :=
  Below Y.heap.size Y W ∧ (∀ i, W.cell? ⟨ub, i, none⟩ = #[Value.int .i64 1, .slice aA nA cA][i]?) ∧ (∀ i, W.cell? ⟨lb, i, none⟩ = #[Value.int .i64 1, .slice aA nA cA, .int .i64 1, .slice a2 n2 c2, .int .i64 1, .slice a3 n3 c3][i]?) ∧ (∀ i, W.cell? ⟨rb, i, none⟩ = #[Value.int .i64 1, .int .i64 0, .int .i64 0, .int .i64 1, .int .i64 2, .int .i64 5, .int .i64 10, .int .i64 0][i]?) ∧ (∀ i, W.cell? ⟨xb, i, none⟩ = #[Value.int .i64 1, .int .i64 2, .int .i64 5, .int .i64 10, .int .i64 0][i]?) ∧ (∀ i, W.cell? ⟨yb, i, none⟩ = #[Value.int .i64 1, .int .i64 2, .int .i64 5, .int .i64 10, .int .i64 0][i]?) ∧ (∀ i, W.cell? ⟨zb, i, none⟩ = #[Value.int .i64 1, .int .i64 2, .int .i64 5, .int .i64 10, .int .i64 0][i]?)

/-- The boxes that linked's guards read. -/
structure LkB (Y : World) (ub lb rb xb yb zb : Nat) (aA a2 a3 : Option Addr) (nA cA n2 c2 n3 c3 : Nat) : Prop where
  u : Y.heap[ub]? = some (boxU 1 (.slice aA nA cA))
  l : Y.heap[lb]? = some (.cells #[Value.int .i64 1, .slice aA nA cA, .int .i64 1, .slice a2 n2 c2, .int .i64 1, .slice a3 n3 c3] 24)
  r : Y.heap[rb]? = some (.cells #[Value.int .i64 1, .int .i64 0, .int .i64 0, .int .i64 1, .int .i64 2, .int .i64 5, .int .i64 10, .int .i64 0] 28)
  x : Y.heap[xb]? = some (.cells #[Value.int .i64 1, .int .i64 2, .int .i64 5, .int .i64 10, .int .i64 0] 26)
  y : Y.heap[yb]? = some (.cells #[Value.int .i64 1, .int .i64 2, .int .i64 5, .int .i64 10, .int .i64 0] 26)
  z : Y.heap[zb]? = some (.cells #[Value.int .i64 1, .int .i64 2, .int .i64 5, .int .i64 10, .int .i64 0] 26)
theorem LkB.at {Y W : World} {ub lb rb xb yb zb : Nat} {aA a2 a3 : Option Addr} {nA cA n2 c2 n3 c3 : Nat} (h : LkB Y ub lb rb xb yb zb aA a2 a3 nA cA n2 c2 n3 c3) (hb : Below Y.heap.size Y W) : LkS Y W ub lb rb xb yb zb aA a2 a3 nA cA n2 c2 n3 c3 :=
  ⟨hb, fun i => Joins.cell_of_block (heap_below h.u hb (heap_lt h.u)) i, fun i => Joins.cell_of_block (heap_below h.l hb (heap_lt h.l)) i, fun i => Joins.cell_of_block (heap_below h.r hb (heap_lt h.r)) i, fun i => Joins.cell_of_block (heap_below h.x hb (heap_lt h.x)) i, fun i => Joins.cell_of_block (heap_below h.y hb (heap_lt h.y)) i, fun i => Joins.cell_of_block (heap_below h.z hb (heap_lt h.z)) i⟩

theorem fits3 {vA v2 v3 : Value} {u0 u1 u2 : Un} (h0 : u0.cells.length ≤ topN) (h1 : u1.cells.length ≤ topN) (h2 : u2.cells.length ≤ topN) : Fits [⟨u0, vA⟩, ⟨u1, v2⟩, ⟨u2, v3⟩] :=
  ⟨by show 3 ≤ topN; decide, fun x hx => by
    simp only [List.mem_cons, List.not_mem_nil, or_false] at hx
    rcases hx with rfl | rfl | rfl
    · exact h0
    · exact h1
    · exact h2⟩

set_option linter.unusedSimpArgs false in
set_option maxHeartbeats 4000000 in
set_option maxRecDepth 100000 in
theorem linked_any (hC : Chains) (hN : UnitN) (w : World) :
    Calls Try.prog 24 #[] w fun e w' => e = .returned (.bool true) ∧ Below w.heap.size w w' := by
  have HC : Aside Chains := hC
  have kN := hN.new
  have kA := fun v W h => hN.next v unew ⟨1, 0, 0, e1⟩ W h (by decide)
  rw [uA_next] at kA
  replace kA : ∀ v W, UnitAt W v unew → AnsN 7 v #[.agg #[.int .i64 1, v], Rc.val ⟨1, 0, 0, e1⟩] W (uA, 0) := kA
  clear hC hN
  go_enter Try.func24, Try.ntmps24
  go_wp2_with fail
  refine (kN _).mono ?_
  rintro e w1 ⟨v1, rfl, hU1, hb1⟩
  go_wp2_with fail
  refine (put_b _ _ _ _).mono ?_
  rintro e w2 ⟨rfl, hb2⟩
  go_wp2_with fail
  refine (write_any 0 e1 _).mono ?_
  rintro e w3 ⟨rfl, hb3⟩
  have hb23 := step_below1 hb2 hb3
  have hB3 := step_below1 hb1 hb23
  have hU3 := hU1.later hb23
  clear hb1 hb2 hb3 hb23 hU1
  go_wp2_with fail
  refine (kA _ _ hU3).mono ?_
  rintro e w4 ⟨vA, he, hUA, hb4, _⟩
  change e = .returned (.tuple #[.agg #[.int .i64 1, vA], .int .i64 0]) at he
  subst he
  obtain ⟨aA, nA, cA, rfl, _⟩ := id hUA.room
  have hBX := grew (step_below1 hB3 hb4) (boxU 1 (.slice aA nA cA))
  have hUX := hUA.later (grew (Below.refl w4.heap.size w4) (boxU 1 (.slice aA nA cA)))
  have hx3 := heap_new w4 (boxU 1 (.slice aA nA cA))
  have HBX : Aside _ := hBX
  clear hB3 hb4 hU3 hUA hBX kA
  go_upto_region 2 with fail
  generalize w4.alloc (boxU 1 (.slice aA nA cA)) = X0 at *
  generalize w4.heap.size = ub at *
  refine wp_region_held_drew (S := fun W' => Bo1 X0 W' ub (.slice aA nA cA)) (by kernel_rfl) (bo1_of hx3 (Below.refl _ X0).drew) (fun hHeld => ?_)
  refine wpAnyH_take (i := 0) (oi := ?oi0p) (v := ?v0p) ?hi0p ?hs0p ?hf0p ?hr0p ?hQ0p (Or.inl ⟨?hw0p, ?hy0p⟩) (by assumption) ?h0p
  case hi0p => (simp only [List.getElem?_toArray, List.getElem?_cons_succ, List.getElem?_cons_zero]; rfl)
  case hs0p => kernel_rfl
  case hf0p => kernel_rfl
  case hr0p => kernel_rfl
  case hw0p => rfl
  case hy0p => (intro w0 hSw; (try dsimp only at hSw); go_simp; first | done | with_reducible rfl)
  case hQ0p => exact fun _ _ _ h => h
  try simp only [Act.put, List.setIfInBounds_toArray, List.set_cons_zero, List.set_cons_succ]
  refine wpAnyH_ready (rs := [1]) (by kernel_rfl) (by simp) ?_
  refine AllReadyH.cons (o := ?o1p) ?hi1p ?step1p AllReadyH.nil
  case hi1p => (simp only [List.getElem?_toArray, List.getElem?_cons_succ, List.getElem?_cons_zero]; rfl)
  intro K hK
  go_simp
  refine (kN _).mono ?_
  rintro e y1 ⟨v2, rfl, hU2, hb2⟩
  obtain ⟨a2, n2, c2, rfl, _⟩ := id hU2.room
  refine hK.out _ _ (bo1_of hx3 (hHeld.1.trans (hb2.mono hHeld.1.size))) (fun hHeld => ?_)
  clear hK K
  try simp only [Act.put, List.setIfInBounds_toArray, List.set_cons_zero, List.set_cons_succ]
  refine wpAnyH_ready (rs := [2]) (by kernel_rfl) (by simp) ?_
  refine AllReadyH.cons (o := ?o2p) ?hi2p ?step2p AllReadyH.nil
  case hi2p => (simp only [List.getElem?_toArray, List.getElem?_cons_succ, List.getElem?_cons_zero]; rfl)
  intro K hK
  go_simp
  refine (kN _).mono ?_
  rintro e y2 ⟨v3, rfl, hU3, hb3⟩
  obtain ⟨a3, n3, c3, rfl, _⟩ := id hU3.room
  refine hK.out _ _ (bo1_of hx3 (hHeld.1.trans (hb3.mono hHeld.1.size))) (fun hHeld => ?_)
  clear hK K
  try simp only [Act.put, List.setIfInBounds_toArray, List.set_cons_zero, List.set_cons_succ]
  refine wpAnyH_ready (rs := [3]) (by kernel_rfl) (by simp) ?_
  refine AllReadyH.cons (o := ?o3p) ?hi3p ?step3p AllReadyH.nil
  case hi3p => (simp only [List.getElem?_toArray, List.getElem?_cons_succ, List.getElem?_cons_zero]; rfl)
  intro K hK
  go_simp
  refine hK.out _ _ (bo1_of hx3 (grew hHeld.1 _)) (fun hHeld => ?_)
  clear hK K
  try simp only [Act.put, List.setIfInBounds_toArray, List.set_cons_zero, List.set_cons_succ]
  refine wpAnyH_take (i := 4) (oi := ?oi4p) (v := ?v4p) ?hi4p ?hs4p ?hf4p ?hr4p ?hQ4p (Or.inl ⟨?hw4p, ?hy4p⟩) (by assumption) ?h4p
  case hi4p => (simp only [List.getElem?_toArray, List.getElem?_cons_succ, List.getElem?_cons_zero]; rfl)
  case hs4p => kernel_rfl
  case hf4p => kernel_rfl
  case hr4p => kernel_rfl
  case hw4p => rfl
  case hy4p => (intro w0 hSw; (try dsimp only at hSw); go_simp; first | done | with_reducible rfl)
  case hQ4p => exact fun _ _ _ h => h
  try simp only [Act.put, List.setIfInBounds_toArray, List.set_cons_zero, List.set_cons_succ]
  refine wpAnyH_done (by kernel_rfl) ?_ _
  have hl0 := heap_new y2 (.cells #[Value.int .i64 1, .slice aA nA cA, .int .i64 1, .slice a2 n2 c2, .int .i64 1, .slice a3 n3 c3] 24)
  have hbl : Below y2.heap.size y2 (y2.alloc (.cells #[Value.int .i64 1, .slice aA nA cA, .int .i64 1, .slice a2 n2 c2, .int .i64 1, .slice a3 n3 c3] 24)) := grew (Below.refl _ _) _
  have hch : ChAt (y2.alloc (.cells #[Value.int .i64 1, .slice aA nA cA, .int .i64 1, .slice a2 n2 c2, .int .i64 1, .slice a3 n3 c3] 24)) (.slice (some ⟨y2.heap.size, 0, none⟩) 3 3) [⟨uA, .slice aA nA cA⟩, ⟨unew, .slice a2 n2 c2⟩, ⟨unew, .slice a3 n3 c3⟩] := by
    refine ⟨slOf_lit Ub.two (xs := [⟨uA, .slice aA nA cA⟩, ⟨unew, .slice a2 n2 c2⟩, ⟨unew, .slice a3 n3 c3⟩]) hl0 rfl, fun x hx => ?_, ⟨_, _, _, rfl, Nat.le_refl _⟩⟩
    simp only [List.mem_cons, List.not_mem_nil, or_false] at hx
    rcases hx with rfl | rfl | rfl
    · exact hUX.later hHeld.1
    · exact hU2.later (step_below1 hb3 hbl)
    · exact hU3.later hbl
  have hBY := HBX.out.trans (hHeld.1.mono HBX.out.size)
  have hu0 := heap_below hx3 hHeld.1 (heap_lt hx3)
  have HUX : Aside _ := hUX.later hHeld.1
  have HBY : Aside _ := hBY
  have HL0 : Aside _ := hl0
  have HU0 : Aside _ := hu0
  have HCH : Aside _ := hch
  have hft : Fits [⟨uA, .slice aA nA cA⟩, ⟨unew, .slice a2 n2 c2⟩, ⟨unew, .slice a3 n3 c3⟩] := fits3 (by decide) (by decide) (by decide)
  have HF : Aside _ := hft
  clear hl0 hbl hch hBY hu0 hHeld hb2 hb3 hU2 hU3 hUX hx3 HBX kN hft
  go_upto_region 3 with fail
  generalize y2.alloc (.cells #[Value.int .i64 1, .slice aA nA cA, .int .i64 1, .slice a2 n2 c2, .int .i64 1, .slice a3 n3 c3] 24) = Y0 at *
  generalize y2.heap.size = lb at *
  have HBW0 : Aside (Below Y0.heap.size Y0 Y0) := Below.refl _ _
  have k := fun W (h : Below Y0.heap.size Y0 W) => HC.out.link _ _ 1 0 1 e1 W (HCH.out.later h) HF.out
  rw [show unitsOf [⟨uA, .slice aA nA cA⟩, ⟨unew, .slice a2 n2 c2⟩, ⟨unew, .slice a3 n3 c3⟩] = [uA, unew, unew] from rfl, lk_1] at k
  go_wp2_with fail
  refine (put_b _ _ _ _).mono ?_
  rintro e p0 ⟨rfl, hp⟩
  have hB' := HBW0.out.trans (hp.mono HBW0.out.size)
  have hpp := hp
  clear hp
  have k' := k _ hB'
  clear k
  go_wp2_with fail
  refine k'.mono ?_
  rintro e z0 ⟨he, hz⟩
  change e = .returned (.tuple #[.agg #[Value.int .i64 1, .int .i64 0, .int .i64 0, .int .i64 1, .int .i64 2, .int .i64 5, .int .i64 10, .int .i64 0], .agg #[Value.int .i64 1, .int .i64 2, .int .i64 5, .int .i64 10, .int .i64 0], .int .i64 0]) at he
  subst he
  have hB2 := hB'.trans (hz.mono hB'.size)
  have HBW1 : Aside (Below Y0.heap.size Y0 ((z0.alloc (.cells #[Value.int .i64 1, .int .i64 0, .int .i64 0, .int .i64 1, .int .i64 2, .int .i64 5, .int .i64 10, .int .i64 0] 28)).alloc (.cells #[Value.int .i64 1, .int .i64 2, .int .i64 5, .int .i64 10, .int .i64 0] 26))) := grew (grew (hB2) (.cells #[Value.int .i64 1, .int .i64 0, .int .i64 0, .int .i64 1, .int .i64 2, .int .i64 5, .int .i64 10, .int .i64 0] 28)) (.cells #[Value.int .i64 1, .int .i64 2, .int .i64 5, .int .i64 10, .int .i64 0] 26)
  have hr1 := heap_old (heap_new z0 (.cells #[Value.int .i64 1, .int .i64 0, .int .i64 0, .int .i64 1, .int .i64 2, .int .i64 5, .int .i64 10, .int .i64 0] 28)) (.cells #[Value.int .i64 1, .int .i64 2, .int .i64 5, .int .i64 10, .int .i64 0] 26)
  have hx1 := heap_new (z0.alloc (.cells #[Value.int .i64 1, .int .i64 0, .int .i64 0, .int .i64 1, .int .i64 2, .int .i64 5, .int .i64 10, .int .i64 0] 28)) (.cells #[Value.int .i64 1, .int .i64 2, .int .i64 5, .int .i64 10, .int .i64 0] 26)
  rw [World.size_alloc] at hx1
  have HR1 : Aside _ := hr1
  have HX1 : Aside _ := hx1
  clear hr1 hx1
  (try clear hpp)
  clear k' hB' hB2 hz HBW0
  go_upto_region 4 with fail
  generalize ((z0.alloc (.cells #[Value.int .i64 1, .int .i64 0, .int .i64 0, .int .i64 1, .int .i64 2, .int .i64 5, .int .i64 10, .int .i64 0] 28)).alloc (.cells #[Value.int .i64 1, .int .i64 2, .int .i64 5, .int .i64 10, .int .i64 0] 26)) = Y1 at *
  generalize z0.heap.size = rb at *
  have k := fun W (h : Below Y0.heap.size Y0 W) => HC.out.link _ _ 0 0 1 En.zero W (HCH.out.later h) HF.out
  rw [show unitsOf [⟨uA, .slice aA nA cA⟩, ⟨unew, .slice a2 n2 c2⟩, ⟨unew, .slice a3 n3 c3⟩] = [uA, unew, unew] from rfl, lk_2] at k
  have hB' := HBW1.out
  have k' := k _ hB'
  clear k
  go_wp2_with fail
  refine k'.mono ?_
  rintro e z1 ⟨he, hz⟩
  change e = .returned (.tuple #[.agg #[Value.int .i64 0, .int .i64 0, .int .i64 0, .int .i64 0, .int .i64 0, .int .i64 0, .int .i64 0, .int .i64 0], .agg #[Value.int .i64 1, .int .i64 2, .int .i64 5, .int .i64 10, .int .i64 0], .int .i64 0]) at he
  subst he
  have hB2 := hB'.trans (hz.mono hB'.size)
  have HBW2 : Aside (Below Y0.heap.size Y0 ((z1.alloc (.cells #[Value.int .i64 0, .int .i64 0, .int .i64 0, .int .i64 0, .int .i64 0, .int .i64 0, .int .i64 0, .int .i64 0] 28)).alloc (.cells #[Value.int .i64 1, .int .i64 2, .int .i64 5, .int .i64 10, .int .i64 0] 26))) := grew (grew (hB2) (.cells #[Value.int .i64 0, .int .i64 0, .int .i64 0, .int .i64 0, .int .i64 0, .int .i64 0, .int .i64 0, .int .i64 0] 28)) (.cells #[Value.int .i64 1, .int .i64 2, .int .i64 5, .int .i64 10, .int .i64 0] 26)
  have hz' := hz
  have hga : Below Y1.heap.size Y1 ((z1.alloc (.cells #[Value.int .i64 0, .int .i64 0, .int .i64 0, .int .i64 0, .int .i64 0, .int .i64 0, .int .i64 0, .int .i64 0] 28)).alloc (.cells #[Value.int .i64 1, .int .i64 2, .int .i64 5, .int .i64 10, .int .i64 0] 26)) := grew (grew (hz) (.cells #[Value.int .i64 0, .int .i64 0, .int .i64 0, .int .i64 0, .int .i64 0, .int .i64 0, .int .i64 0, .int .i64 0] 28)) (.cells #[Value.int .i64 1, .int .i64 2, .int .i64 5, .int .i64 10, .int .i64 0] 26)
  have HR2 : Aside _ := heap_below HR1.out hga (heap_lt HR1.out)
  have HX2 : Aside _ := heap_below HX1.out hga (heap_lt HX1.out)
  have hq2 := heap_new (z1.alloc (.cells #[Value.int .i64 0, .int .i64 0, .int .i64 0, .int .i64 0, .int .i64 0, .int .i64 0, .int .i64 0, .int .i64 0] 28)) (.cells #[Value.int .i64 1, .int .i64 2, .int .i64 5, .int .i64 10, .int .i64 0] 26)
  rw [World.size_alloc] at hq2
  have HQ2 : Aside _ := hq2
  clear hq2
  clear hga hz'
  (try clear hpp)
  clear k' hB' hB2 hz HBW1 HR1 HX1
  go_upto_region 5 with fail
  generalize ((z1.alloc (.cells #[Value.int .i64 0, .int .i64 0, .int .i64 0, .int .i64 0, .int .i64 0, .int .i64 0, .int .i64 0, .int .i64 0] 28)).alloc (.cells #[Value.int .i64 1, .int .i64 2, .int .i64 5, .int .i64 10, .int .i64 0] 26)) = Y2 at *
  generalize z1.heap.size = qb at *
  have k := fun W (h : Below Y0.heap.size Y0 W) => HC.out.link _ _ 2 0 1 e1 W (HCH.out.later h) HF.out
  rw [show unitsOf [⟨uA, .slice aA nA cA⟩, ⟨unew, .slice a2 n2 c2⟩, ⟨unew, .slice a3 n3 c3⟩] = [uA, unew, unew] from rfl, lk_3] at k
  go_wp2_with fail
  refine (put_b _ _ _ _).mono ?_
  rintro e p2 ⟨rfl, hp⟩
  have hB' := HBW2.out.trans (hp.mono HBW2.out.size)
  have hpp := hp
  clear hp
  have k' := k _ hB'
  clear k
  go_wp2_with fail
  refine k'.mono ?_
  rintro e z2 ⟨he, hz⟩
  change e = .returned (.tuple #[.agg #[Value.int .i64 0, .int .i64 0, .int .i64 0, .int .i64 0, .int .i64 0, .int .i64 0, .int .i64 0, .int .i64 0], .agg #[Value.int .i64 0, .int .i64 0, .int .i64 0, .int .i64 0, .int .i64 0], .int .i64 7]) at he
  subst he
  have hB2 := hB'.trans (hz.mono hB'.size)
  have HBW3 : Aside (Below Y0.heap.size Y0 ((z2.alloc (.cells #[Value.int .i64 0, .int .i64 0, .int .i64 0, .int .i64 0, .int .i64 0, .int .i64 0, .int .i64 0, .int .i64 0] 28)).alloc (.cells #[Value.int .i64 0, .int .i64 0, .int .i64 0, .int .i64 0, .int .i64 0] 26))) := grew (grew (hB2) (.cells #[Value.int .i64 0, .int .i64 0, .int .i64 0, .int .i64 0, .int .i64 0, .int .i64 0, .int .i64 0, .int .i64 0] 28)) (.cells #[Value.int .i64 0, .int .i64 0, .int .i64 0, .int .i64 0, .int .i64 0] 26)
  have hga : Below Y2.heap.size Y2 ((z2.alloc (.cells #[Value.int .i64 0, .int .i64 0, .int .i64 0, .int .i64 0, .int .i64 0, .int .i64 0, .int .i64 0, .int .i64 0] 28)).alloc (.cells #[Value.int .i64 0, .int .i64 0, .int .i64 0, .int .i64 0, .int .i64 0] 26)) := grew (grew (step_below1 hpp hz) (.cells #[Value.int .i64 0, .int .i64 0, .int .i64 0, .int .i64 0, .int .i64 0, .int .i64 0, .int .i64 0, .int .i64 0] 28)) (.cells #[Value.int .i64 0, .int .i64 0, .int .i64 0, .int .i64 0, .int .i64 0] 26)
  have HR3 : Aside _ := heap_below HR2.out hga (heap_lt HR2.out)
  have HX3 : Aside _ := heap_below HX2.out hga (heap_lt HX2.out)
  have HQ3 : Aside _ := heap_below HQ2.out hga (heap_lt HQ2.out)
  clear hga
  (try clear hpp)
  clear k' hB' hB2 hz HBW2 HR2 HX2 HQ2
  go_upto_region 6 with fail
  generalize ((z2.alloc (.cells #[Value.int .i64 0, .int .i64 0, .int .i64 0, .int .i64 0, .int .i64 0, .int .i64 0, .int .i64 0, .int .i64 0] 28)).alloc (.cells #[Value.int .i64 0, .int .i64 0, .int .i64 0, .int .i64 0, .int .i64 0] 26)) = Y3 at *
  have k := fun W (h : Below Y0.heap.size Y0 W) => HC.out.link _ _ 0 1 2 En.zero W (HCH.out.later h) HF.out
  rw [show unitsOf [⟨uA, .slice aA nA cA⟩, ⟨unew, .slice a2 n2 c2⟩, ⟨unew, .slice a3 n3 c3⟩] = [uA, unew, unew] from rfl, lk_4] at k
  have hB' := HBW3.out
  have k' := k _ hB'
  clear k
  go_wp2_with fail
  refine k'.mono ?_
  rintro e z3 ⟨he, hz⟩
  change e = .returned (.tuple #[.agg #[Value.int .i64 0, .int .i64 0, .int .i64 0, .int .i64 0, .int .i64 0, .int .i64 0, .int .i64 0, .int .i64 0], .agg #[Value.int .i64 0, .int .i64 0, .int .i64 0, .int .i64 0, .int .i64 0], .int .i64 8]) at he
  subst he
  have hB2 := hB'.trans (hz.mono hB'.size)
  have HBW4 : Aside (Below Y0.heap.size Y0 ((z3.alloc (.cells #[Value.int .i64 0, .int .i64 0, .int .i64 0, .int .i64 0, .int .i64 0, .int .i64 0, .int .i64 0, .int .i64 0] 28)).alloc (.cells #[Value.int .i64 0, .int .i64 0, .int .i64 0, .int .i64 0, .int .i64 0] 26))) := grew (grew (hB2) (.cells #[Value.int .i64 0, .int .i64 0, .int .i64 0, .int .i64 0, .int .i64 0, .int .i64 0, .int .i64 0, .int .i64 0] 28)) (.cells #[Value.int .i64 0, .int .i64 0, .int .i64 0, .int .i64 0, .int .i64 0] 26)
  have hga : Below Y3.heap.size Y3 ((z3.alloc (.cells #[Value.int .i64 0, .int .i64 0, .int .i64 0, .int .i64 0, .int .i64 0, .int .i64 0, .int .i64 0, .int .i64 0] 28)).alloc (.cells #[Value.int .i64 0, .int .i64 0, .int .i64 0, .int .i64 0, .int .i64 0] 26)) := grew (grew (hz) (.cells #[Value.int .i64 0, .int .i64 0, .int .i64 0, .int .i64 0, .int .i64 0, .int .i64 0, .int .i64 0, .int .i64 0] 28)) (.cells #[Value.int .i64 0, .int .i64 0, .int .i64 0, .int .i64 0, .int .i64 0] 26)
  have HR4 : Aside _ := heap_below HR3.out hga (heap_lt HR3.out)
  have HX4 : Aside _ := heap_below HX3.out hga (heap_lt HX3.out)
  have HQ4 : Aside _ := heap_below HQ3.out hga (heap_lt HQ3.out)
  clear hga
  (try clear hpp)
  clear k' hB' hB2 hz HBW3 HR3 HX3 HQ3
  go_upto_region 7 with fail
  generalize ((z3.alloc (.cells #[Value.int .i64 0, .int .i64 0, .int .i64 0, .int .i64 0, .int .i64 0, .int .i64 0, .int .i64 0, .int .i64 0] 28)).alloc (.cells #[Value.int .i64 0, .int .i64 0, .int .i64 0, .int .i64 0, .int .i64 0] 26)) = Y4 at *
  have k := fun W (h : Below Y0.heap.size Y0 W) => HC.out.read _ _ 0 W (HCH.out.later h) HF.out
  rw [show unitsOf [⟨uA, .slice aA nA cA⟩, ⟨unew, .slice a2 n2 c2⟩, ⟨unew, .slice a3 n3 c3⟩] = [uA, unew, unew] from rfl, lk_5] at k
  have hB' := HBW4.out
  have k' := k _ hB'
  clear k
  go_wp2_with fail
  refine k'.mono ?_
  rintro e z4 ⟨he, hz⟩
  change e = .returned (.tuple #[.agg #[Value.int .i64 0, .int .i64 0, .int .i64 0, .int .i64 0, .int .i64 0], .int .i64 7]) at he
  subst he
  have hB2 := hB'.trans (hz.mono hB'.size)
  have HBW5 : Aside (Below Y0.heap.size Y0 (z4.alloc (.cells #[Value.int .i64 0, .int .i64 0, .int .i64 0, .int .i64 0, .int .i64 0] 26))) := grew (hB2) (.cells #[Value.int .i64 0, .int .i64 0, .int .i64 0, .int .i64 0, .int .i64 0] 26)
  have hga : Below Y4.heap.size Y4 (z4.alloc (.cells #[Value.int .i64 0, .int .i64 0, .int .i64 0, .int .i64 0, .int .i64 0] 26)) := grew (hz) (.cells #[Value.int .i64 0, .int .i64 0, .int .i64 0, .int .i64 0, .int .i64 0] 26)
  have HR5 : Aside _ := heap_below HR4.out hga (heap_lt HR4.out)
  have HX5 : Aside _ := heap_below HX4.out hga (heap_lt HX4.out)
  have HQ5 : Aside _ := heap_below HQ4.out hga (heap_lt HQ4.out)
  clear hga
  (try clear hpp)
  clear k' hB' hB2 hz HBW4 HR4 HX4 HQ4
  go_upto_region 8 with fail
  generalize (z4.alloc (.cells #[Value.int .i64 0, .int .i64 0, .int .i64 0, .int .i64 0, .int .i64 0] 26)) = Y5 at *
  have zu : ∀ i, Y5.cell? ⟨ub, i, none⟩ = #[Value.int .i64 1, .slice aA nA cA][i]? := fun i => Joins.cell_of_block (heap_below HU0.out HBW5.out (heap_lt HU0.out)) i
  have hb5 : Below Y0.heap.size Y0 (Y5.alloc (.cells #[Value.int .i64 1, .slice aA nA cA, .int .i64 1, .slice aA nA cA, .int .i64 1, .slice aA nA cA] 24)) := grew HBW5.out _
  have hc3 : ChAt (Y5.alloc (.cells #[Value.int .i64 1, .slice aA nA cA, .int .i64 1, .slice aA nA cA, .int .i64 1, .slice aA nA cA] 24)) (.slice (some ⟨Y5.heap.size, 0, none⟩) 3 3) [⟨uA, .slice aA nA cA⟩, ⟨uA, .slice aA nA cA⟩, ⟨uA, .slice aA nA cA⟩] := by
    refine ⟨slOf_lit Ub.two (xs := [⟨uA, .slice aA nA cA⟩, ⟨uA, .slice aA nA cA⟩, ⟨uA, .slice aA nA cA⟩]) (heap_new _ _) rfl, fun x hx => ?_, ⟨_, _, _, rfl, Nat.le_refl _⟩⟩
    simp only [List.mem_cons, List.not_mem_nil, or_false, or_self] at hx
    subst hx
    exact HUX.out.later hb5
  have k := HC.out.read _ _ 0 _ hc3 (fits3 (by decide) (by decide) (by decide))
  rw [show unitsOf [⟨uA, .slice aA nA cA⟩, ⟨uA, .slice aA nA cA⟩, ⟨uA, .slice aA nA cA⟩] = [uA, uA, uA] from rfl, lk_6] at k
  clear hc3
  go_wp2_with fail
  refine k.mono ?_
  rintro e z5 ⟨he, hz⟩
  change e = .returned (.tuple #[.agg #[Value.int .i64 1, .int .i64 2, .int .i64 5, .int .i64 10, .int .i64 0], .int .i64 0]) at he
  subst he
  have hga : Below Y5.heap.size Y5 (z5.alloc (.cells #[Value.int .i64 1, .int .i64 2, .int .i64 5, .int .i64 10, .int .i64 0] 26)) := grew (step_below1 (grew (Below.refl _ _) _) hz) _
  have hB6 : Below Y0.heap.size Y0 (z5.alloc (.cells #[Value.int .i64 1, .int .i64 2, .int .i64 5, .int .i64 10, .int .i64 0] 26)) := HBW5.out.trans (hga.mono HBW5.out.size)
  have hK : LkB (z5.alloc (.cells #[Value.int .i64 1, .int .i64 2, .int .i64 5, .int .i64 10, .int .i64 0] 26)) ub lb rb (rb + 1) (qb + 1) z5.heap.size aA a2 a3 nA cA n2 c2 n3 c3 := ⟨heap_below HU0.out hB6 (heap_lt HU0.out), heap_below HL0.out hB6 (heap_lt HL0.out), heap_below HR5.out hga (heap_lt HR5.out), heap_below HX5.out hga (heap_lt HX5.out), heap_below HQ5.out hga (heap_lt HQ5.out), heap_new _ _⟩
  have HB6 : Aside _ := hB6
  clear k hz hga hB6 zu hb5 HU0 HL0 HR5 HX5 HQ5 HBW5
  go_upto_region 9 with fail
  generalize z5.alloc (.cells #[Value.int .i64 1, .int .i64 2, .int .i64 5, .int .i64 10, .int .i64 0] 26) = Y at *
  generalize z5.heap.size = zb at *
  have heR : ∀ W, (binOp .eql 28 (.agg #[Value.int .i64 1, .int .i64 0, .int .i64 0, .int .i64 1, .int .i64 2, .int .i64 5, .int .i64 10, .int .i64 0]) (.agg #[Value.int .i64 1, .int .i64 0, .int .i64 0, .int .i64 1, .int .i64 2, .int .i64 5, .int .i64 10, .int .i64 0])).run Try.prog W = .ok (.bool true) W := fun W => (eqlR ⟨1, 0, 0, e1⟩ ⟨1, 0, 0, e1⟩ W).trans (by rw [same_self])
  have heE : ∀ W, (binOp .eql 26 (.agg #[Value.int .i64 1, .int .i64 2, .int .i64 5, .int .i64 10, .int .i64 0]) (.agg #[Value.int .i64 1, .int .i64 2, .int .i64 5, .int .i64 10, .int .i64 0])).run Try.prog W = .ok (.bool true) W := fun W => eql_entry 1 2 5 10 0 1 2 5 10 0 W
  have kw : ∀ W, Calls Try.prog 31 #[.int .i64 0, .agg #[Value.int .i64 1, .int .i64 2, .int .i64 5, .int .i64 10, .int .i64 0]] W fun e w' => e = .returned (.agg #[Value.int .i64 1, .int .i64 0, .int .i64 0, .int .i64 1, .int .i64 2, .int .i64 5, .int .i64 10, .int .i64 0]) ∧ Below W.heap.size W w' := fun W => write_any 0 e1 W
  have kp : ∀ W, Calls Try.prog 32 #[.int .i64 2, .int .i64 5, .int .i64 10] W fun e w' => e = .returned (.agg #[Value.int .i64 1, .int .i64 2, .int .i64 5, .int .i64 10, .int .i64 0]) ∧ Below W.heap.size W w' := fun W => put_b 2 5 10 W
  have kc : ∀ W, Below Y.heap.size Y W → Calls Try.prog 25 #[.slice (some ⟨lb, 0, none⟩) 3 3] W fun e w' => e = .returned (.int .i64 0) ∧ Below W.heap.size W w' := fun W h => by
    have := HC.out.check _ _ W (HCH.out.later (HB6.out.trans (h.mono HB6.out.size))) HF.out
    rwa [show unitsOf [⟨uA, .slice aA nA cA⟩, ⟨unew, .slice a2 n2 c2⟩, ⟨unew, .slice a3 n3 c3⟩] = [uA, unew, unew] from rfl, lk_ck] at this
  have kd : ∀ W, Below Y.heap.size Y W → Calls Try.prog 25 #[.slice (some ⟨W.heap.size, 0, none⟩) 3 3] (W.alloc (.cells #[Value.int .i64 1, .slice a2 n2 c2, .int .i64 1, .slice aA nA cA, .int .i64 1, .slice a2 n2 c2] 24)) fun e w' => e = .returned (.int .i64 4) ∧ Below (W.alloc (.cells #[Value.int .i64 1, .slice a2 n2 c2, .int .i64 1, .slice aA nA cA, .int .i64 1, .slice a2 n2 c2] 24)).heap.size (W.alloc (.cells #[Value.int .i64 1, .slice a2 n2 c2, .int .i64 1, .slice aA nA cA, .int .i64 1, .slice a2 n2 c2] 24)) w' := fun W h => by
    have hbW := HB6.out.trans (h.mono HB6.out.size)
    have hba := grew hbW (.cells #[Value.int .i64 1, .slice a2 n2 c2, .int .i64 1, .slice aA nA cA, .int .i64 1, .slice a2 n2 c2] 24)
    have hcc : ChAt (W.alloc (.cells #[Value.int .i64 1, .slice a2 n2 c2, .int .i64 1, .slice aA nA cA, .int .i64 1, .slice a2 n2 c2] 24)) (.slice (some ⟨W.heap.size, 0, none⟩) 3 3) [⟨unew, .slice a2 n2 c2⟩, ⟨uA, .slice aA nA cA⟩, ⟨unew, .slice a2 n2 c2⟩] := by
      refine ⟨slOf_lit Ub.two (xs := [⟨unew, .slice a2 n2 c2⟩, ⟨uA, .slice aA nA cA⟩, ⟨unew, .slice a2 n2 c2⟩]) (heap_new _ _) rfl, fun x hx => ?_, ⟨_, _, _, rfl, Nat.le_refl _⟩⟩
      have hx' : x = ⟨unew, .slice a2 n2 c2⟩ ∨ x = ⟨uA, .slice aA nA cA⟩ := by
        simp only [List.mem_cons, List.not_mem_nil, or_false] at hx
        rcases hx with h | h | h
        · exact Or.inl h
        · exact Or.inr h
        · exact Or.inl h
      rcases hx' with rfl | rfl
      · exact (HCH.out.later hba).each ⟨unew, .slice a2 n2 c2⟩ (by simp)
      · exact HUX.out.later hba
    have := HC.out.check _ _ _ hcc (fits3 (by decide) (by decide) (by decide))
    rwa [show unitsOf [⟨unew, .slice a2 n2 c2⟩, ⟨uA, .slice aA nA cA⟩, ⟨unew, .slice a2 n2 c2⟩] = [unew, uA, unew] from rfl, lk_ck4] at this
  refine wp_region_held_drew (S := fun W' => LkS Y W' ub lb rb (rb + 1) (qb + 1) zb aA a2 a3 nA cA n2 c2 n3 c3) (by kernel_rfl) (hK.at (Below.refl _ Y).drew) (fun hHeld => ?_)
  refine wpAnyH_take (i := 0) (oi := ?oi0) (v := ?v0) ?hi0 ?hs0 ?hf0 ?hr0 ?hQ0 (Or.inl ⟨?hw0, ?hy0⟩) (by assumption) ?h0
  case hi0 => (simp only [List.getElem?_toArray, List.getElem?_cons_succ, List.getElem?_cons_zero]; rfl)
  case hs0 => kernel_rfl
  case hf0 => kernel_rfl
  case hr0 => kernel_rfl
  case hw0 => rfl
  case hy0 => (intro w0 hSw; (try dsimp only at hSw); go_simp; first | done | with_reducible rfl)
  case hQ0 => exact fun _ _ _ h => h
  try simp only [Act.put, List.setIfInBounds_toArray, List.set_cons_zero, List.set_cons_succ]
  refine wpAnyH_take (i := 1) (oi := ?oi1) (v := ?v1) ?hi1 ?hs1 ?hf1 ?hr1 ?hQ1 (Or.inl ⟨?hw1, ?hy1⟩) (by assumption) ?h1
  case hi1 => (simp only [List.getElem?_toArray, List.getElem?_cons_succ, List.getElem?_cons_zero]; rfl)
  case hs1 => kernel_rfl
  case hf1 => kernel_rfl
  case hr1 => kernel_rfl
  case hw1 => rfl
  case hy1 => (intro w0 hSw; (try dsimp only at hSw); go_simp; first | done | with_reducible rfl)
  case hQ1 => exact fun _ _ _ h => h
  try simp only [Act.put, List.setIfInBounds_toArray, List.set_cons_zero, List.set_cons_succ]
  refine wpAnyH_take (i := 2) (oi := ?oi2) (v := ?v2) ?hi2 ?hs2 ?hf2 ?hr2 ?hQ2 (Or.inl ⟨?hw2, ?hy2⟩) (by assumption) ?h2
  case hi2 => (simp only [List.getElem?_toArray, List.getElem?_cons_succ, List.getElem?_cons_zero]; rfl)
  case hs2 => kernel_rfl
  case hf2 => kernel_rfl
  case hr2 => kernel_rfl
  case hw2 => rfl
  case hy2 => (intro w0 hSw; (try dsimp only at hSw); go_simp; first | done | with_reducible rfl)
  case hQ2 => exact fun _ _ _ h => h
  try simp only [Act.put, List.setIfInBounds_toArray, List.set_cons_zero, List.set_cons_succ]
  refine wpAnyH_take (i := 3) (oi := ?oi3) (v := ?v3) ?hi3 ?hs3 ?hf3 ?hr3 ?hQ3 (Or.inl ⟨?hw3, ?hy3⟩) (by assumption) ?h3
  case hi3 => (simp only [List.getElem?_toArray, List.getElem?_cons_succ, List.getElem?_cons_zero]; rfl)
  case hs3 => kernel_rfl
  case hf3 => kernel_rfl
  case hr3 => kernel_rfl
  case hw3 => rfl
  case hy3 => (intro w0 hSw; (try dsimp only at hSw); go_simp; first | done | with_reducible rfl)
  case hQ3 => exact fun _ _ _ h => h
  try simp only [Act.put, List.setIfInBounds_toArray, List.set_cons_zero, List.set_cons_succ]
  refine wpAnyH_take (i := 4) (oi := ?oi4) (v := ?v4) ?hi4 ?hs4 ?hf4 ?hr4 ?hQ4 (Or.inl ⟨?hw4, ?hy4⟩) (by assumption) ?h4
  case hi4 => (simp only [List.getElem?_toArray, List.getElem?_cons_succ, List.getElem?_cons_zero]; rfl)
  case hs4 => kernel_rfl
  case hf4 => kernel_rfl
  case hr4 => kernel_rfl
  case hw4 => rfl
  case hy4 => (intro w0 hSw; (try dsimp only at hSw); go_simp; first | done | with_reducible rfl)
  case hQ4 => exact fun _ _ _ h => h
  try simp only [Act.put, List.setIfInBounds_toArray, List.set_cons_zero, List.set_cons_succ]
  refine wpAnyH_take (i := 5) (oi := ?oi5) (v := ?v5) ?hi5 ?hs5 ?hf5 ?hr5 ?hQ5 (Or.inl ⟨?hw5, ?hy5⟩) (by assumption) ?h5
  case hi5 => (simp only [List.getElem?_toArray, List.getElem?_cons_succ, List.getElem?_cons_zero]; rfl)
  case hs5 => kernel_rfl
  case hf5 => kernel_rfl
  case hr5 => kernel_rfl
  case hw5 => rfl
  case hy5 => (intro w0 hSw; (try dsimp only at hSw); go_simp; first | done | with_reducible rfl)
  case hQ5 => exact fun _ _ _ h => h
  try simp only [Act.put, List.setIfInBounds_toArray, List.set_cons_zero, List.set_cons_succ]
  refine wpAnyH_take (i := 6) (oi := ?oi6) (v := ?v6) ?hi6 ?hs6 ?hf6 ?hr6 ?hQ6 (Or.inl ⟨?hw6, ?hy6⟩) (by assumption) ?h6
  case hi6 => (simp only [List.getElem?_toArray, List.getElem?_cons_succ, List.getElem?_cons_zero]; rfl)
  case hs6 => kernel_rfl
  case hf6 => kernel_rfl
  case hr6 => kernel_rfl
  case hw6 => rfl
  case hy6 => (intro w0 hSw; (try dsimp only at hSw); go_simp; first | done | with_reducible rfl)
  case hQ6 => exact fun _ _ _ h => h
  try simp only [Act.put, List.setIfInBounds_toArray, List.set_cons_zero, List.set_cons_succ]
  refine wpAnyH_take (i := 7) (oi := ?oi7) (v := ?v7) ?hi7 ?hs7 ?hf7 ?hr7 ?hQ7 (Or.inl ⟨?hw7, ?hy7⟩) (by assumption) ?h7
  case hi7 => (simp only [List.getElem?_toArray, List.getElem?_cons_succ, List.getElem?_cons_zero]; rfl)
  case hs7 => kernel_rfl
  case hf7 => kernel_rfl
  case hr7 => kernel_rfl
  case hw7 => rfl
  case hy7 => (intro w0 hSw; (try dsimp only at hSw); go_simp; first | done | with_reducible rfl)
  case hQ7 => exact fun _ _ _ h => h
  try simp only [Act.put, List.setIfInBounds_toArray, List.set_cons_zero, List.set_cons_succ]
  refine wpAnyH_take (i := 8) (oi := ?oi8) (v := ?v8) ?hi8 ?hs8 ?hf8 ?hr8 ?hQ8 (Or.inl ⟨?hw8, ?hy8⟩) (by assumption) ?h8
  case hi8 => (simp only [List.getElem?_toArray, List.getElem?_cons_succ, List.getElem?_cons_zero]; rfl)
  case hs8 => kernel_rfl
  case hf8 => kernel_rfl
  case hr8 => kernel_rfl
  case hw8 => rfl
  case hy8 => (intro w0 hSw; (try dsimp only at hSw); go_simp; first | done | with_reducible rfl)
  case hQ8 => exact fun _ _ _ h => h
  try simp only [Act.put, List.setIfInBounds_toArray, List.set_cons_zero, List.set_cons_succ]
  refine wpAnyH_take (i := 9) (oi := ?oi9) (v := ?v9) ?hi9 ?hs9 ?hf9 ?hr9 ?hQ9 (Or.inl ⟨?hw9, ?hy9⟩) (by assumption) ?h9
  case hi9 => (simp only [List.getElem?_toArray, List.getElem?_cons_succ, List.getElem?_cons_zero]; rfl)
  case hs9 => kernel_rfl
  case hf9 => kernel_rfl
  case hr9 => kernel_rfl
  case hw9 => rfl
  case hy9 => (intro w0 hSw; (try dsimp only at hSw); go_simp; first | done | with_reducible rfl)
  case hQ9 => exact fun _ _ _ h => h
  try simp only [Act.put, List.setIfInBounds_toArray, List.set_cons_zero, List.set_cons_succ]
  refine wpAnyH_take (i := 10) (oi := ?oi10) (v := ?v10) ?hi10 ?hs10 ?hf10 ?hr10 ?hQ10 (Or.inl ⟨?hw10, ?hy10⟩) (by assumption) ?h10
  case hi10 => (simp only [List.getElem?_toArray, List.getElem?_cons_succ, List.getElem?_cons_zero]; rfl)
  case hs10 => kernel_rfl
  case hf10 => kernel_rfl
  case hr10 => kernel_rfl
  case hw10 => rfl
  case hy10 => (intro w0 hSw; (try dsimp only at hSw); go_simp; first | done | with_reducible rfl)
  case hQ10 => exact fun _ _ _ h => h
  try simp only [Act.put, List.setIfInBounds_toArray, List.set_cons_zero, List.set_cons_succ]
  refine wpAnyH_take (i := 11) (oi := ?oi11) (v := ?v11) ?hi11 ?hs11 ?hf11 ?hr11 ?hQ11 (Or.inl ⟨?hw11, ?hy11⟩) (by assumption) ?h11
  case hi11 => (simp only [List.getElem?_toArray, List.getElem?_cons_succ, List.getElem?_cons_zero]; rfl)
  case hs11 => kernel_rfl
  case hf11 => kernel_rfl
  case hr11 => kernel_rfl
  case hw11 => rfl
  case hy11 => (intro w0 hSw; (try dsimp only at hSw); go_simp; first | done | with_reducible rfl)
  case hQ11 => exact fun _ _ _ h => h
  try simp only [Act.put, List.setIfInBounds_toArray, List.set_cons_zero, List.set_cons_succ]
  refine wpAnyH_take (i := 12) (oi := ?oi12) (v := ?v12) ?hi12 ?hs12 ?hf12 ?hr12 ?hQ12 (Or.inl ⟨?hw12, ?hy12⟩) (by assumption) ?h12
  case hi12 => (simp only [List.getElem?_toArray, List.getElem?_cons_succ, List.getElem?_cons_zero]; rfl)
  case hs12 => kernel_rfl
  case hf12 => kernel_rfl
  case hr12 => kernel_rfl
  case hw12 => rfl
  case hy12 => (intro w0 hSw; (try dsimp only at hSw); go_simp; first | done | with_reducible rfl)
  case hQ12 => exact fun _ _ _ h => h
  try simp only [Act.put, List.setIfInBounds_toArray, List.set_cons_zero, List.set_cons_succ]
  refine wpAnyH_take (i := 13) (oi := ?oi13) (v := ?v13) ?hi13 ?hs13 ?hf13 ?hr13 ?hQ13 (Or.inl ⟨?hw13, ?hy13⟩) (by assumption) ?h13
  case hi13 => (simp only [List.getElem?_toArray, List.getElem?_cons_succ, List.getElem?_cons_zero]; rfl)
  case hs13 => kernel_rfl
  case hf13 => kernel_rfl
  case hr13 => kernel_rfl
  case hw13 => rfl
  case hy13 => (intro w0 hSw; (try dsimp only at hSw); go_simp; first | done | with_reducible rfl)
  case hQ13 => exact fun _ _ _ h => h
  try simp only [Act.put, List.setIfInBounds_toArray, List.set_cons_zero, List.set_cons_succ]
  refine wpAnyH_take (i := 14) (oi := ?oi14) (v := ?v14) ?hi14 ?hs14 ?hf14 ?hr14 ?hQ14 (Or.inl ⟨?hw14, ?hy14⟩) (by assumption) ?h14
  case hi14 => (simp only [List.getElem?_toArray, List.getElem?_cons_succ, List.getElem?_cons_zero]; rfl)
  case hs14 => kernel_rfl
  case hf14 => kernel_rfl
  case hr14 => kernel_rfl
  case hw14 => rfl
  case hy14 => (intro w0 hSw; (try dsimp only at hSw); go_simp; first | done | with_reducible rfl)
  case hQ14 => exact fun _ _ _ h => h
  try simp only [Act.put, List.setIfInBounds_toArray, List.set_cons_zero, List.set_cons_succ]
  refine wpAnyH_take (i := 15) (oi := ?oi15) (v := ?v15) ?hi15 ?hs15 ?hf15 ?hr15 ?hQ15 (Or.inl ⟨?hw15, ?hy15⟩) (by assumption) ?h15
  case hi15 => (simp only [List.getElem?_toArray, List.getElem?_cons_succ, List.getElem?_cons_zero]; rfl)
  case hs15 => kernel_rfl
  case hf15 => kernel_rfl
  case hr15 => kernel_rfl
  case hw15 => rfl
  case hy15 => (intro w0 hSw; (try dsimp only at hSw); go_simp; first | done | with_reducible rfl)
  case hQ15 => exact fun _ _ _ h => h
  try simp only [Act.put, List.setIfInBounds_toArray, List.set_cons_zero, List.set_cons_succ]
  refine wpAnyH_take (i := 16) (oi := ?oi16) (v := ?v16) ?hi16 ?hs16 ?hf16 ?hr16 ?hQ16 (Or.inl ⟨?hw16, ?hy16⟩) (by assumption) ?h16
  case hi16 => (simp only [List.getElem?_toArray, List.getElem?_cons_succ, List.getElem?_cons_zero]; rfl)
  case hs16 => kernel_rfl
  case hf16 => kernel_rfl
  case hr16 => kernel_rfl
  case hw16 => rfl
  case hy16 => (intro w0 hSw; (try dsimp only at hSw); go_simp; first | done | with_reducible rfl)
  case hQ16 => exact fun _ _ _ h => h
  try simp only [Act.put, List.setIfInBounds_toArray, List.set_cons_zero, List.set_cons_succ]
  refine wpAnyH_take (i := 17) (oi := ?oi17) (v := ?v17) ?hi17 ?hs17 ?hf17 ?hr17 ?hQ17 (Or.inl ⟨?hw17, ?hy17⟩) (by assumption) ?h17
  case hi17 => (simp only [List.getElem?_toArray, List.getElem?_cons_succ, List.getElem?_cons_zero]; rfl)
  case hs17 => kernel_rfl
  case hf17 => kernel_rfl
  case hr17 => kernel_rfl
  case hw17 => rfl
  case hy17 => (intro w0 hSw; (try dsimp only at hSw); go_simp; first | done | with_reducible rfl)
  case hQ17 => exact fun _ _ _ h => h
  try simp only [Act.put, List.setIfInBounds_toArray, List.set_cons_zero, List.set_cons_succ]
  refine wpAnyH_take (i := 18) (oi := ?oi18) (v := ?v18) ?hi18 ?hs18 ?hf18 ?hr18 ?hQ18 (Or.inl ⟨?hw18, ?hy18⟩) (by assumption) ?h18
  case hi18 => (simp only [List.getElem?_toArray, List.getElem?_cons_succ, List.getElem?_cons_zero]; rfl)
  case hs18 => kernel_rfl
  case hf18 => kernel_rfl
  case hr18 => kernel_rfl
  case hw18 => rfl
  case hy18 => (intro w0 hSw; (try dsimp only at hSw); go_simp; first | done | with_reducible rfl)
  case hQ18 => exact fun _ _ _ h => h
  try simp only [Act.put, List.setIfInBounds_toArray, List.set_cons_zero, List.set_cons_succ]
  refine wpAnyH_take (i := 19) (oi := ?oi19) (v := ?v19) ?hi19 ?hs19 ?hf19 ?hr19 ?hQ19 (Or.inl ⟨?hw19, ?hy19⟩) (by assumption) ?h19
  case hi19 => (simp only [List.getElem?_toArray, List.getElem?_cons_succ, List.getElem?_cons_zero]; rfl)
  case hs19 => kernel_rfl
  case hf19 => kernel_rfl
  case hr19 => kernel_rfl
  case hw19 => rfl
  case hy19 => (intro w0 hSw; (try dsimp only at hSw); go_simp; first | done | with_reducible rfl)
  case hQ19 => exact fun _ _ _ h => h
  try simp only [Act.put, List.setIfInBounds_toArray, List.set_cons_zero, List.set_cons_succ]
  refine wpAnyH_take (i := 20) (oi := ?oi20) (v := ?v20) ?hi20 ?hs20 ?hf20 ?hr20 ?hQ20 (Or.inl ⟨?hw20, ?hy20⟩) (by assumption) ?h20
  case hi20 => (simp only [List.getElem?_toArray, List.getElem?_cons_succ, List.getElem?_cons_zero]; rfl)
  case hs20 => kernel_rfl
  case hf20 => kernel_rfl
  case hr20 => kernel_rfl
  case hw20 => rfl
  case hy20 => (intro w0 hSw; (try dsimp only at hSw); go_simp; first | done | with_reducible rfl)
  case hQ20 => exact fun _ _ _ h => h
  try simp only [Act.put, List.setIfInBounds_toArray, List.set_cons_zero, List.set_cons_succ]
  refine wpAnyH_take (i := 21) (oi := ?oi21) (v := ?v21) ?hi21 ?hs21 ?hf21 ?hr21 ?hQ21 (Or.inl ⟨?hw21, ?hy21⟩) (by assumption) ?h21
  case hi21 => (simp only [List.getElem?_toArray, List.getElem?_cons_succ, List.getElem?_cons_zero]; rfl)
  case hs21 => kernel_rfl
  case hf21 => kernel_rfl
  case hr21 => kernel_rfl
  case hw21 => rfl
  case hy21 => (intro w0 hSw; (try dsimp only at hSw); go_simp; first | done | with_reducible rfl)
  case hQ21 => exact fun _ _ _ h => h
  try simp only [Act.put, List.setIfInBounds_toArray, List.set_cons_zero, List.set_cons_succ]
  refine wpAnyH_take (i := 22) (oi := ?oi22) (v := ?v22) ?hi22 ?hs22 ?hf22 ?hr22 ?hQ22 (Or.inl ⟨?hw22, ?hy22⟩) (by assumption) ?h22
  case hi22 => (simp only [List.getElem?_toArray, List.getElem?_cons_succ, List.getElem?_cons_zero]; rfl)
  case hs22 => kernel_rfl
  case hf22 => kernel_rfl
  case hr22 => kernel_rfl
  case hw22 => rfl
  case hy22 => (intro w0 hSw; (try dsimp only at hSw); go_simp; first | done | with_reducible rfl)
  case hQ22 => exact fun _ _ _ h => h
  try simp only [Act.put, List.setIfInBounds_toArray, List.set_cons_zero, List.set_cons_succ]
  refine wpAnyH_take (i := 23) (oi := ?oi23) (v := ?v23) ?hi23 ?hs23 ?hf23 ?hr23 ?hQ23 (Or.inl ⟨?hw23, ?hy23⟩) (by assumption) ?h23
  case hi23 => (simp only [List.getElem?_toArray, List.getElem?_cons_succ, List.getElem?_cons_zero]; rfl)
  case hs23 => kernel_rfl
  case hf23 => kernel_rfl
  case hr23 => kernel_rfl
  case hw23 => rfl
  case hy23 => (intro w0 hSw; (try dsimp only at hSw); go_simp; first | done | with_reducible rfl)
  case hQ23 => exact fun _ _ _ h => h
  try simp only [Act.put, List.setIfInBounds_toArray, List.set_cons_zero, List.set_cons_succ]
  refine wpAnyH_ready (rs := [24]) (by kernel_rfl) (by simp) ?_
  refine AllReadyH.cons (o := ?o24) ?hi24 ?step24 AllReadyH.nil
  case hi24 => (simp only [List.getElem?_toArray, List.getElem?_cons_succ, List.getElem?_cons_zero]; rfl)
  intro K hKK
  go_simp
  refine (kp _).mono ?_
  rintro e x1 ⟨rfl, hb1⟩
  refine hKK.out _ _ (hK.at (hHeld.1.trans (hb1.mono hHeld.1.size))) (fun hHeld => ?_)
  clear hKK K
  try simp only [Act.put, List.setIfInBounds_toArray, List.set_cons_zero, List.set_cons_succ]
  refine wpAnyH_ready (rs := [25]) (by kernel_rfl) (by simp) ?_
  refine AllReadyH.cons (o := ?o25) ?hi25 ?step25 AllReadyH.nil
  case hi25 => (simp only [List.getElem?_toArray, List.getElem?_cons_succ, List.getElem?_cons_zero]; rfl)
  intro K hKK
  go_simp
  refine (kw _).mono ?_
  rintro e x2 ⟨rfl, hb2⟩
  refine hKK.out _ _ (hK.at (hHeld.1.trans (hb2.mono hHeld.1.size))) (fun hHeld => ?_)
  clear hKK K
  try simp only [Act.put, List.setIfInBounds_toArray, List.set_cons_zero, List.set_cons_succ]
  refine wpAnyH_take (i := 26) (oi := ?oi26) (v := ?v26) ?hi26 ?hs26 ?hf26 ?hr26 ?hQ26 (Or.inl ⟨?hw26, ?hy26⟩) (by assumption) ?h26
  case hi26 => (simp only [List.getElem?_toArray, List.getElem?_cons_succ, List.getElem?_cons_zero]; rfl)
  case hs26 => kernel_rfl
  case hf26 => kernel_rfl
  case hr26 => kernel_rfl
  case hw26 => rfl
  case hy26 => (intro w0 hSw; (try dsimp only at hSw); go_simp; first | done | with_reducible rfl)
  case hQ26 => exact fun _ _ _ h => h
  try simp only [Act.put, List.setIfInBounds_toArray, List.set_cons_zero, List.set_cons_succ]
  refine wpAnyH_take (i := 27) (oi := ?oi27) (v := ?v27) ?hi27 ?hs27 ?hf27 ?hr27 ?hQ27 (Or.inl ⟨?hw27, ?hy27⟩) (by assumption) ?h27
  case hi27 => (simp only [List.getElem?_toArray, List.getElem?_cons_succ, List.getElem?_cons_zero]; rfl)
  case hs27 => kernel_rfl
  case hf27 => kernel_rfl
  case hr27 => kernel_rfl
  case hw27 => rfl
  case hy27 => (intro w0 hSw; (try dsimp only at hSw); go_simp; first | done | with_reducible rfl)
  case hQ27 => exact fun _ _ _ h => h
  try simp only [Act.put, List.setIfInBounds_toArray, List.set_cons_zero, List.set_cons_succ]
  refine wpAnyH_take (i := 28) (oi := ?oi28) (v := ?v28) ?hi28 ?hs28 ?hf28 ?hr28 ?hQ28 (Or.inl ⟨?hw28, ?hy28⟩) (by assumption) ?h28
  case hi28 => (simp only [List.getElem?_toArray, List.getElem?_cons_succ, List.getElem?_cons_zero]; rfl)
  case hs28 => kernel_rfl
  case hf28 => kernel_rfl
  case hr28 => kernel_rfl
  case hw28 => rfl
  case hy28 => (intro w0 hSw; (try dsimp only at hSw); go_simp; first | done | with_reducible rfl)
  case hQ28 => exact fun _ _ _ h => h
  try simp only [Act.put, List.setIfInBounds_toArray, List.set_cons_zero, List.set_cons_succ]
  refine wpAnyH_take (i := 29) (oi := ?oi29) (v := ?v29) ?hi29 ?hs29 ?hf29 ?hr29 ?hQ29 (Or.inl ⟨?hw29, ?hy29⟩) (by assumption) ?h29
  case hi29 => (simp only [List.getElem?_toArray, List.getElem?_cons_succ, List.getElem?_cons_zero]; rfl)
  case hs29 => kernel_rfl
  case hf29 => kernel_rfl
  case hr29 => kernel_rfl
  case hw29 => rfl
  case hy29 => (intro w0 hSw; (try dsimp only at hSw); go_simp; first | done | with_reducible rfl)
  case hQ29 => exact fun _ _ _ h => h
  try simp only [Act.put, List.setIfInBounds_toArray, List.set_cons_zero, List.set_cons_succ]
  refine wpAnyH_take (i := 30) (oi := ?oi30) (v := ?v30) ?hi30 ?hs30 ?hf30 ?hr30 ?hQ30 (Or.inl ⟨?hw30, ?hy30⟩) (by assumption) ?h30
  case hi30 => (simp only [List.getElem?_toArray, List.getElem?_cons_succ, List.getElem?_cons_zero]; rfl)
  case hs30 => kernel_rfl
  case hf30 => kernel_rfl
  case hr30 => kernel_rfl
  case hw30 => rfl
  case hy30 => (intro w0 hSw; (try dsimp only at hSw); go_simp; first | done | with_reducible rfl)
  case hQ30 => exact fun _ _ _ h => h
  try simp only [Act.put, List.setIfInBounds_toArray, List.set_cons_zero, List.set_cons_succ]
  refine wpAnyH_take (i := 31) (oi := ?oi31) (v := ?v31) ?hi31 ?hs31 ?hf31 ?hr31 ?hQ31 (Or.inl ⟨?hw31, ?hy31⟩) (by assumption) ?h31
  case hi31 => (simp only [List.getElem?_toArray, List.getElem?_cons_succ, List.getElem?_cons_zero]; rfl)
  case hs31 => kernel_rfl
  case hf31 => kernel_rfl
  case hr31 => kernel_rfl
  case hw31 => rfl
  case hy31 => (intro w0 hSw; (try dsimp only at hSw); go_simp; first | done | with_reducible rfl)
  case hQ31 => exact fun _ _ _ h => h
  try simp only [Act.put, List.setIfInBounds_toArray, List.set_cons_zero, List.set_cons_succ]
  refine wpAnyH_take (i := 32) (oi := ?oi32) (v := ?v32) ?hi32 ?hs32 ?hf32 ?hr32 ?hQ32 (Or.inl ⟨?hw32, ?hy32⟩) (by assumption) ?h32
  case hi32 => (simp only [List.getElem?_toArray, List.getElem?_cons_succ, List.getElem?_cons_zero]; rfl)
  case hs32 => kernel_rfl
  case hf32 => kernel_rfl
  case hr32 => kernel_rfl
  case hw32 => rfl
  case hy32 => (intro w0 hSw; (try dsimp only at hSw); go_simp; first | done | with_reducible rfl)
  case hQ32 => exact fun _ _ _ h => h
  try simp only [Act.put, List.setIfInBounds_toArray, List.set_cons_zero, List.set_cons_succ]
  refine wpAnyH_take (i := 33) (oi := ?oi33) (v := ?v33) ?hi33 ?hs33 ?hf33 ?hr33 ?hQ33 (Or.inl ⟨?hw33, ?hy33⟩) (by assumption) ?h33
  case hi33 => (simp only [List.getElem?_toArray, List.getElem?_cons_succ, List.getElem?_cons_zero]; rfl)
  case hs33 => kernel_rfl
  case hf33 => kernel_rfl
  case hr33 => kernel_rfl
  case hw33 => rfl
  case hy33 => (intro w0 hSw; (try dsimp only at hSw); go_simp; first | done | with_reducible rfl)
  case hQ33 => exact fun _ _ _ h => h
  try simp only [Act.put, List.setIfInBounds_toArray, List.set_cons_zero, List.set_cons_succ]
  refine wpAnyH_take (i := 34) (oi := ?oi34) (v := ?v34) ?hi34 ?hs34 ?hf34 ?hr34 ?hQ34 (Or.inl ⟨?hw34, ?hy34⟩) (by assumption) ?h34
  case hi34 => (simp only [List.getElem?_toArray, List.getElem?_cons_succ, List.getElem?_cons_zero]; rfl)
  case hs34 => kernel_rfl
  case hf34 => kernel_rfl
  case hr34 => kernel_rfl
  case hw34 => rfl
  case hy34 => (intro w0 hSw; (try dsimp only at hSw); go_simp; first | done | with_reducible rfl)
  case hQ34 => exact fun _ _ _ h => h
  try simp only [Act.put, List.setIfInBounds_toArray, List.set_cons_zero, List.set_cons_succ]
  refine wpAnyH_take (i := 35) (oi := ?oi35) (v := ?v35) ?hi35 ?hs35 ?hf35 ?hr35 ?hQ35 (Or.inl ⟨?hw35, ?hy35⟩) (by assumption) ?h35
  case hi35 => (simp only [List.getElem?_toArray, List.getElem?_cons_succ, List.getElem?_cons_zero]; rfl)
  case hs35 => kernel_rfl
  case hf35 => kernel_rfl
  case hr35 => kernel_rfl
  case hw35 => rfl
  case hy35 => (intro w0 hSw; (try dsimp only at hSw); go_simp; first | done | with_reducible rfl)
  case hQ35 => exact fun _ _ _ h => h
  try simp only [Act.put, List.setIfInBounds_toArray, List.set_cons_zero, List.set_cons_succ]
  refine wpAnyH_take (i := 36) (oi := ?oi36) (v := ?v36) ?hi36 ?hs36 ?hf36 ?hr36 ?hQ36 (Or.inl ⟨?hw36, ?hy36⟩) (by assumption) ?h36
  case hi36 => (simp only [List.getElem?_toArray, List.getElem?_cons_succ, List.getElem?_cons_zero]; rfl)
  case hs36 => kernel_rfl
  case hf36 => kernel_rfl
  case hr36 => kernel_rfl
  case hw36 => rfl
  case hy36 => (intro w0 hSw; (try dsimp only at hSw); go_simp; first | done | with_reducible rfl)
  case hQ36 => exact fun _ _ _ h => h
  try simp only [Act.put, List.setIfInBounds_toArray, List.set_cons_zero, List.set_cons_succ]
  refine wpAnyH_take (i := 37) (oi := ?oi37) (v := ?v37) ?hi37 ?hs37 ?hf37 ?hr37 ?hQ37 (Or.inl ⟨?hw37, ?hy37⟩) (by assumption) ?h37
  case hi37 => (simp only [List.getElem?_toArray, List.getElem?_cons_succ, List.getElem?_cons_zero]; rfl)
  case hs37 => kernel_rfl
  case hf37 => kernel_rfl
  case hr37 => kernel_rfl
  case hw37 => rfl
  case hy37 => (intro w0 hSw; (try dsimp only at hSw); go_simp; first | done | with_reducible rfl)
  case hQ37 => exact fun _ _ _ h => h
  try simp only [Act.put, List.setIfInBounds_toArray, List.set_cons_zero, List.set_cons_succ]
  refine wpAnyH_take (i := 38) (oi := ?oi38) (v := ?v38) ?hi38 ?hs38 ?hf38 ?hr38 ?hQ38 (Or.inl ⟨?hw38, ?hy38⟩) (by assumption) ?h38
  case hi38 => (simp only [List.getElem?_toArray, List.getElem?_cons_succ, List.getElem?_cons_zero]; rfl)
  case hs38 => kernel_rfl
  case hf38 => kernel_rfl
  case hr38 => kernel_rfl
  case hw38 => rfl
  case hy38 => (intro w0 hSw; (try dsimp only at hSw); go_simp; first | done | with_reducible rfl)
  case hQ38 => exact fun _ _ _ h => h
  try simp only [Act.put, List.setIfInBounds_toArray, List.set_cons_zero, List.set_cons_succ]
  refine wpAnyH_take (i := 39) (oi := ?oi39) (v := ?v39) ?hi39 ?hs39 ?hf39 ?hr39 ?hQ39 (Or.inl ⟨?hw39, ?hy39⟩) (by assumption) ?h39
  case hi39 => (simp only [List.getElem?_toArray, List.getElem?_cons_succ, List.getElem?_cons_zero]; rfl)
  case hs39 => kernel_rfl
  case hf39 => kernel_rfl
  case hr39 => kernel_rfl
  case hw39 => rfl
  case hy39 => (intro w0 hSw; (try dsimp only at hSw); go_simp; first | done | with_reducible rfl)
  case hQ39 => exact fun _ _ _ h => h
  try simp only [Act.put, List.setIfInBounds_toArray, List.set_cons_zero, List.set_cons_succ]
  refine wpAnyH_take (i := 40) (oi := ?oi40) (v := ?v40) ?hi40 ?hs40 ?hf40 ?hr40 ?hQ40 (Or.inl ⟨?hw40, ?hy40⟩) (by assumption) ?h40
  case hi40 => (simp only [List.getElem?_toArray, List.getElem?_cons_succ, List.getElem?_cons_zero]; rfl)
  case hs40 => kernel_rfl
  case hf40 => kernel_rfl
  case hr40 => kernel_rfl
  case hw40 => rfl
  case hy40 => (intro w0 hSw; (try dsimp only at hSw); go_simp; first | done | with_reducible rfl)
  case hQ40 => exact fun _ _ _ h => h
  try simp only [Act.put, List.setIfInBounds_toArray, List.set_cons_zero, List.set_cons_succ]
  refine wpAnyH_take (i := 41) (oi := ?oi41) (v := ?v41) ?hi41 ?hs41 ?hf41 ?hr41 ?hQ41 (Or.inl ⟨?hw41, ?hy41⟩) (by assumption) ?h41
  case hi41 => (simp only [List.getElem?_toArray, List.getElem?_cons_succ, List.getElem?_cons_zero]; rfl)
  case hs41 => kernel_rfl
  case hf41 => kernel_rfl
  case hr41 => kernel_rfl
  case hw41 => rfl
  case hy41 => (intro w0 hSw; (try dsimp only at hSw); go_simp; first | done | with_reducible rfl)
  case hQ41 => exact fun _ _ _ h => h
  try simp only [Act.put, List.setIfInBounds_toArray, List.set_cons_zero, List.set_cons_succ]
  refine wpAnyH_take (i := 42) (oi := ?oi42) (v := ?v42) ?hi42 ?hs42 ?hf42 ?hr42 ?hQ42 (Or.inl ⟨?hw42, ?hy42⟩) (by assumption) ?h42
  case hi42 => (simp only [List.getElem?_toArray, List.getElem?_cons_succ, List.getElem?_cons_zero]; rfl)
  case hs42 => kernel_rfl
  case hf42 => kernel_rfl
  case hr42 => kernel_rfl
  case hw42 => rfl
  case hy42 => (intro w0 hSw; (try dsimp only at hSw); go_simp; first | done | with_reducible rfl)
  case hQ42 => exact fun _ _ _ h => h
  try simp only [Act.put, List.setIfInBounds_toArray, List.set_cons_zero, List.set_cons_succ]
  refine wpAnyH_take (i := 43) (oi := ?oi43) (v := ?v43) ?hi43 ?hs43 ?hf43 ?hr43 ?hQ43 (Or.inl ⟨?hw43, ?hy43⟩) (by assumption) ?h43
  case hi43 => (simp only [List.getElem?_toArray, List.getElem?_cons_succ, List.getElem?_cons_zero]; rfl)
  case hs43 => kernel_rfl
  case hf43 => kernel_rfl
  case hr43 => kernel_rfl
  case hw43 => rfl
  case hy43 => (intro w0 hSw; (try dsimp only at hSw); go_simp; first | done | with_reducible rfl)
  case hQ43 => exact fun _ _ _ h => h
  try simp only [Act.put, List.setIfInBounds_toArray, List.set_cons_zero, List.set_cons_succ]
  refine wpAnyH_take (i := 44) (oi := ?oi44) (v := ?v44) ?hi44 ?hs44 ?hf44 ?hr44 ?hQ44 (Or.inl ⟨?hw44, ?hy44⟩) (by assumption) ?h44
  case hi44 => (simp only [List.getElem?_toArray, List.getElem?_cons_succ, List.getElem?_cons_zero]; rfl)
  case hs44 => kernel_rfl
  case hf44 => kernel_rfl
  case hr44 => kernel_rfl
  case hw44 => rfl
  case hy44 => (intro w0 hSw; (try dsimp only at hSw); go_simp; first | done | with_reducible rfl)
  case hQ44 => exact fun _ _ _ h => h
  try simp only [Act.put, List.setIfInBounds_toArray, List.set_cons_zero, List.set_cons_succ]
  refine wpAnyH_take (i := 45) (oi := ?oi45) (v := ?v45) ?hi45 ?hs45 ?hf45 ?hr45 ?hQ45 (Or.inl ⟨?hw45, ?hy45⟩) (by assumption) ?h45
  case hi45 => (simp only [List.getElem?_toArray, List.getElem?_cons_succ, List.getElem?_cons_zero]; rfl)
  case hs45 => kernel_rfl
  case hf45 => kernel_rfl
  case hr45 => kernel_rfl
  case hw45 => rfl
  case hy45 => (intro w0 hSw; (try dsimp only at hSw); go_simp; first | done | with_reducible rfl)
  case hQ45 => exact fun _ _ _ h => h
  try simp only [Act.put, List.setIfInBounds_toArray, List.set_cons_zero, List.set_cons_succ]
  refine wpAnyH_take (i := 46) (oi := ?oi46) (v := ?v46) ?hi46 ?hs46 ?hf46 ?hr46 ?hQ46 (Or.inl ⟨?hw46, ?hy46⟩) (by assumption) ?h46
  case hi46 => (simp only [List.getElem?_toArray, List.getElem?_cons_succ, List.getElem?_cons_zero]; rfl)
  case hs46 => kernel_rfl
  case hf46 => kernel_rfl
  case hr46 => kernel_rfl
  case hw46 => rfl
  case hy46 => (intro w0 hSw; (try dsimp only at hSw); go_simp; first | done | with_reducible rfl)
  case hQ46 => exact fun _ _ _ h => h
  try simp only [Act.put, List.setIfInBounds_toArray, List.set_cons_zero, List.set_cons_succ]
  refine wpAnyH_take (i := 47) (oi := ?oi47) (v := ?v47) ?hi47 ?hs47 ?hf47 ?hr47 ?hQ47 (Or.inl ⟨?hw47, ?hy47⟩) (by assumption) ?h47
  case hi47 => (simp only [List.getElem?_toArray, List.getElem?_cons_succ, List.getElem?_cons_zero]; rfl)
  case hs47 => kernel_rfl
  case hf47 => kernel_rfl
  case hr47 => kernel_rfl
  case hw47 => rfl
  case hy47 => (intro w0 hSw; (try dsimp only at hSw); go_simp; first | done | with_reducible rfl)
  case hQ47 => exact fun _ _ _ h => h
  try simp only [Act.put, List.setIfInBounds_toArray, List.set_cons_zero, List.set_cons_succ]
  refine wpAnyH_ready (rs := [48]) (by kernel_rfl) (by simp) ?_
  refine AllReadyH.cons (o := ?o48) ?hi48 ?step48 AllReadyH.nil
  case hi48 => (simp only [List.getElem?_toArray, List.getElem?_cons_succ, List.getElem?_cons_zero]; rfl)
  intro K hKK
  go_simp
  refine (kc _ hHeld.1).mono ?_
  rintro e x3 ⟨rfl, hb3⟩
  refine hKK.out _ _ (hK.at (hHeld.1.trans (hb3.mono hHeld.1.size))) (fun hHeld => ?_)
  clear hKK K
  try simp only [Act.put, List.setIfInBounds_toArray, List.set_cons_zero, List.set_cons_succ]
  have hx3 : Below Y.heap.size Y x3 := hHeld.1
  refine wpAnyH_take (i := 49) (oi := ?oi49) (v := ?v49) ?hi49 ?hs49 ?hf49 ?hr49 ?hQ49 (Or.inl ⟨?hw49, ?hy49⟩) (by assumption) ?h49
  case hi49 => (simp only [List.getElem?_toArray, List.getElem?_cons_succ, List.getElem?_cons_zero]; rfl)
  case hs49 => kernel_rfl
  case hf49 => kernel_rfl
  case hr49 => kernel_rfl
  case hw49 => rfl
  case hy49 => (intro w0 hSw; (try dsimp only at hSw); go_simp; first | done | with_reducible rfl)
  case hQ49 => exact fun _ _ _ h => h
  try simp only [Act.put, List.setIfInBounds_toArray, List.set_cons_zero, List.set_cons_succ]
  refine wpAnyH_take (i := 50) (oi := ?oi50) (v := ?v50) ?hi50 ?hs50 ?hf50 ?hr50 ?hQ50 (Or.inl ⟨?hw50, ?hy50⟩) (by assumption) ?h50
  case hi50 => (simp only [List.getElem?_toArray, List.getElem?_cons_succ, List.getElem?_cons_zero]; rfl)
  case hs50 => kernel_rfl
  case hf50 => kernel_rfl
  case hr50 => kernel_rfl
  case hw50 => rfl
  case hy50 => (intro w0 hSw; (try dsimp only at hSw); go_simp; first | done | with_reducible rfl)
  case hQ50 => exact fun _ _ _ h => h
  try simp only [Act.put, List.setIfInBounds_toArray, List.set_cons_zero, List.set_cons_succ]
  refine wpAnyH_take (i := 51) (oi := ?oi51) (v := ?v51) ?hi51 ?hs51 ?hf51 ?hr51 ?hQ51 (Or.inl ⟨?hw51, ?hy51⟩) (by assumption) ?h51
  case hi51 => (simp only [List.getElem?_toArray, List.getElem?_cons_succ, List.getElem?_cons_zero]; rfl)
  case hs51 => kernel_rfl
  case hf51 => kernel_rfl
  case hr51 => kernel_rfl
  case hw51 => rfl
  case hy51 => (intro w0 hSw; (try dsimp only at hSw); go_simp; first | done | with_reducible rfl)
  case hQ51 => exact fun _ _ _ h => h
  try simp only [Act.put, List.setIfInBounds_toArray, List.set_cons_zero, List.set_cons_succ]
  refine wpAnyH_take (i := 52) (oi := ?oi52) (v := ?v52) ?hi52 ?hs52 ?hf52 ?hr52 ?hQ52 (Or.inl ⟨?hw52, ?hy52⟩) (by assumption) ?h52
  case hi52 => (simp only [List.getElem?_toArray, List.getElem?_cons_succ, List.getElem?_cons_zero]; rfl)
  case hs52 => kernel_rfl
  case hf52 => kernel_rfl
  case hr52 => kernel_rfl
  case hw52 => rfl
  case hy52 => (intro w0 hSw; (try dsimp only at hSw); go_simp; first | done | with_reducible rfl)
  case hQ52 => exact fun _ _ _ h => h
  try simp only [Act.put, List.setIfInBounds_toArray, List.set_cons_zero, List.set_cons_succ]
  refine wpAnyH_take (i := 53) (oi := ?oi53) (v := ?v53) ?hi53 ?hs53 ?hf53 ?hr53 ?hQ53 (Or.inl ⟨?hw53, ?hy53⟩) (by assumption) ?h53
  case hi53 => (simp only [List.getElem?_toArray, List.getElem?_cons_succ, List.getElem?_cons_zero]; rfl)
  case hs53 => kernel_rfl
  case hf53 => kernel_rfl
  case hr53 => kernel_rfl
  case hw53 => rfl
  case hy53 => (intro w0 hSw; (try dsimp only at hSw); go_simp; first | done | with_reducible rfl)
  case hQ53 => exact fun _ _ _ h => h
  try simp only [Act.put, List.setIfInBounds_toArray, List.set_cons_zero, List.set_cons_succ]
  refine wpAnyH_take (i := 54) (oi := ?oi54) (v := ?v54) ?hi54 ?hs54 ?hf54 ?hr54 ?hQ54 (Or.inl ⟨?hw54, ?hy54⟩) (by assumption) ?h54
  case hi54 => (simp only [List.getElem?_toArray, List.getElem?_cons_succ, List.getElem?_cons_zero]; rfl)
  case hs54 => kernel_rfl
  case hf54 => kernel_rfl
  case hr54 => kernel_rfl
  case hw54 => rfl
  case hy54 => (intro w0 hSw; (try dsimp only at hSw); go_simp; first | done | with_reducible rfl)
  case hQ54 => exact fun _ _ _ h => h
  try simp only [Act.put, List.setIfInBounds_toArray, List.set_cons_zero, List.set_cons_succ]
  refine wpAnyH_take (i := 55) (oi := ?oi55) (v := ?v55) ?hi55 ?hs55 ?hf55 ?hr55 ?hQ55 (Or.inl ⟨?hw55, ?hy55⟩) (by assumption) ?h55
  case hi55 => (simp only [List.getElem?_toArray, List.getElem?_cons_succ, List.getElem?_cons_zero]; rfl)
  case hs55 => kernel_rfl
  case hf55 => kernel_rfl
  case hr55 => kernel_rfl
  case hw55 => rfl
  case hy55 => (intro w0 hSw; (try dsimp only at hSw); go_simp; first | done | with_reducible rfl)
  case hQ55 => exact fun _ _ _ h => h
  try simp only [Act.put, List.setIfInBounds_toArray, List.set_cons_zero, List.set_cons_succ]
  refine wpAnyH_take (i := 56) (oi := ?oi56) (v := ?v56) ?hi56 ?hs56 ?hf56 ?hr56 ?hQ56 (Or.inl ⟨?hw56, ?hy56⟩) (by assumption) ?h56
  case hi56 => (simp only [List.getElem?_toArray, List.getElem?_cons_succ, List.getElem?_cons_zero]; rfl)
  case hs56 => kernel_rfl
  case hf56 => kernel_rfl
  case hr56 => kernel_rfl
  case hw56 => rfl
  case hy56 => (intro w0 hSw; (try dsimp only at hSw); go_simp; first | done | with_reducible rfl)
  case hQ56 => exact fun _ _ _ h => h
  try simp only [Act.put, List.setIfInBounds_toArray, List.set_cons_zero, List.set_cons_succ]
  refine wpAnyH_take (i := 57) (oi := ?oi57) (v := ?v57) ?hi57 ?hs57 ?hf57 ?hr57 ?hQ57 (Or.inl ⟨?hw57, ?hy57⟩) (by assumption) ?h57
  case hi57 => (simp only [List.getElem?_toArray, List.getElem?_cons_succ, List.getElem?_cons_zero]; rfl)
  case hs57 => kernel_rfl
  case hf57 => kernel_rfl
  case hr57 => kernel_rfl
  case hw57 => rfl
  case hy57 => (intro w0 hSw; (try dsimp only at hSw); go_simp; first | done | with_reducible rfl)
  case hQ57 => exact fun _ _ _ h => h
  try simp only [Act.put, List.setIfInBounds_toArray, List.set_cons_zero, List.set_cons_succ]
  refine wpAnyH_take (i := 58) (oi := ?oi58) (v := ?v58) ?hi58 ?hs58 ?hf58 ?hr58 ?hQ58 (Or.inl ⟨?hw58, ?hy58⟩) (by assumption) ?h58
  case hi58 => (simp only [List.getElem?_toArray, List.getElem?_cons_succ, List.getElem?_cons_zero]; rfl)
  case hs58 => kernel_rfl
  case hf58 => kernel_rfl
  case hr58 => kernel_rfl
  case hw58 => rfl
  case hy58 => (intro w0 hSw; (try dsimp only at hSw); go_simp; first | done | with_reducible rfl)
  case hQ58 => exact fun _ _ _ h => h
  try simp only [Act.put, List.setIfInBounds_toArray, List.set_cons_zero, List.set_cons_succ]
  refine wpAnyH_ready (rs := [59]) (by kernel_rfl) (by simp) ?_
  refine AllReadyH.cons (o := ?o59) ?hi59 ?step59 AllReadyH.nil
  case hi59 => (simp only [List.getElem?_toArray, List.getElem?_cons_succ, List.getElem?_cons_zero]; rfl)
  intro K hKK
  go_simp
  refine hKK.out _ _ (hK.at (grew hHeld.1 _)) (fun hHeld => ?_)
  clear hKK K
  try simp only [Act.put, List.setIfInBounds_toArray, List.set_cons_zero, List.set_cons_succ]
  refine wpAnyH_ready (rs := [60]) (by kernel_rfl) (by simp) ?_
  refine AllReadyH.cons (o := ?o60) ?hi60 ?step60 AllReadyH.nil
  case hi60 => (simp only [List.getElem?_toArray, List.getElem?_cons_succ, List.getElem?_cons_zero]; rfl)
  intro K hKK
  go_simp
  refine (kd _ hx3).mono ?_
  rintro e x4 ⟨rfl, hb4⟩
  refine hKK.out _ _ (hK.at (hHeld.1.trans (hb4.mono hHeld.1.size))) (fun hHeld => ?_)
  clear hKK K
  try simp only [Act.put, List.setIfInBounds_toArray, List.set_cons_zero, List.set_cons_succ]
  refine wpAnyH_take (i := 61) (oi := ?oi61) (v := ?v61) ?hi61 ?hs61 ?hf61 ?hr61 ?hQ61 (Or.inl ⟨?hw61, ?hy61⟩) (by assumption) ?h61
  case hi61 => (simp only [List.getElem?_toArray, List.getElem?_cons_succ, List.getElem?_cons_zero]; rfl)
  case hs61 => kernel_rfl
  case hf61 => kernel_rfl
  case hr61 => kernel_rfl
  case hw61 => rfl
  case hy61 => (intro w0 hSw; (try dsimp only at hSw); go_simp; first | done | with_reducible rfl)
  case hQ61 => exact fun _ _ _ h => h
  try simp only [Act.put, List.setIfInBounds_toArray, List.set_cons_zero, List.set_cons_succ]
  refine wpAnyH_take (i := 62) (oi := ?oi62) (v := ?v62) ?hi62 ?hs62 ?hf62 ?hr62 ?hQ62 (Or.inl ⟨?hw62, ?hy62⟩) (by assumption) ?h62
  case hi62 => (simp only [List.getElem?_toArray, List.getElem?_cons_succ, List.getElem?_cons_zero]; rfl)
  case hs62 => kernel_rfl
  case hf62 => kernel_rfl
  case hr62 => kernel_rfl
  case hw62 => rfl
  case hy62 => (intro w0 hSw; (try dsimp only at hSw); go_simp; first | done | with_reducible rfl)
  case hQ62 => exact fun _ _ _ h => h
  try simp only [Act.put, List.setIfInBounds_toArray, List.set_cons_zero, List.set_cons_succ]
  refine wpAnyH_take (i := 63) (oi := ?oi63) (v := ?v63) ?hi63 ?hs63 ?hf63 ?hr63 ?hQ63 (Or.inl ⟨?hw63, ?hy63⟩) (by assumption) ?h63
  case hi63 => (simp only [List.getElem?_toArray, List.getElem?_cons_succ, List.getElem?_cons_zero]; rfl)
  case hs63 => kernel_rfl
  case hf63 => kernel_rfl
  case hr63 => kernel_rfl
  case hw63 => rfl
  case hy63 => (intro w0 hSw; (try dsimp only at hSw); go_simp; first | done | with_reducible rfl)
  case hQ63 => exact fun _ _ _ h => h
  try simp only [Act.put, List.setIfInBounds_toArray, List.set_cons_zero, List.set_cons_succ]
  refine wpAnyH_done (by kernel_rfl) ?_ _
  have HBE : Aside (Below w.heap.size w x4) := (HBY.out.trans (HB6.out.mono HBY.out.size)).trans (hHeld.1.mono (by have h1 := HBY.out.size; have h2 := HB6.out.size; omega))
  clear hHeld hK kc kd kw kp heR heE
  go_wp2
  go_ret
  exact ⟨rfl, HBE.out⟩

end Go.Proofs.Ytaialgacaomaead
