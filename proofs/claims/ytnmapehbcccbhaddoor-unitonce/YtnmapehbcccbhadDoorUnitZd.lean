/- Package unit's blank, New, Tail, Same. Package unit's Check. Package unit's seal, write, take: a unit turned in place. Package unit's Next and Replay. -/
import Derived.Test.YtnmapehbcccbhadDoorUnitF
import Derived.Test.YtnmapehbcccbhadDoorUnitZt
import Derived.Test.YtnmapehbcccbhadDoorNoteZk
import Derived.Test.YtnmapehbcccbhadDoorUnitG
import Derived.Deep.RegionHeld3
namespace Go.Proofs.YtnmapehbcccbhadDoor
open Go.RowKit

theorem ublank_any (w : World) :
    Calls Tryd.prog 31 #[] w fun e w' => e = .returned (ev 4 0 0 0 0) ∧ Below w.heap.size w w' := by
  go_enter Tryd.func31, Tryd.ntmps31
  go_wp2
  exact bodyPost_ret (v := ev 4 0 0 0 0) (by simp [results, Tryd.results31, go_sem]) rfl ⟨rfl, grew (Below.refl _ _) _⟩

/-- A block of sixty entries of which the first so many are blank. -/
def NewAt (W : World) (g n : Nat) : Prop := ∃ es : List En, es.length = 60 ∧ (∀ j, j < n → es[j]? = some blankE) ∧ W.heap[g]? = some (.cells (es.flatMap En.cells ++ []).toArray 28)

theorem newAt_all {W : World} {g : Nat} (h : NewAt W g 60) : W.heap[g]? = some (.cells ((List.replicate 60 blankE).flatMap En.cells).toArray 28) := by
  obtain ⟨es, hl, he, hW⟩ := h
  have e : es = List.replicate 60 blankE := by
    apply List.ext_getElem?
    intro j
    by_cases hj : j < 60
    · rw [he j hj, List.getElem?_replicate, if_pos hj]
    · rw [List.getElem?_eq_none (by omega), List.getElem?_eq_none (by rw [List.length_replicate]; omega)]
  rw [hW, e, List.append_nil]

theorem newAt_step {W : World} {g n : Nat} (h : NewAt W g n) (hn : n < 60) : NewAt (((((W.setCell ⟨g, n * 5, none⟩ (.int .i64 4)).setCell ⟨g, n * 5 + 1, none⟩ (.int .i64 0)).setCell ⟨g, n * 5 + 2, none⟩ (.int .i64 0)).setCell ⟨g, n * 5 + 3, none⟩ (.int .i64 0)).setCell ⟨g, n * 5 + 4, none⟩ (.int .i64 0)) g (n + 1) := by
  obtain ⟨es, hl, he, hW⟩ := h
  refine ⟨es.set n blankE, by rw [List.length_set]; exact hl, fun j hj => ?_, stored_five hW (by omega) blankE⟩
  by_cases hjn : n = j
  · subst hjn
    exact List.getElem?_set_self (by omega)
  · rw [List.getElem?_set_ne hjn]
    exact he j (by omega)

theorem newAt_later {W W' : World} {g n : Nat} (h : NewAt W g n) (hb : Below W.heap.size W W') : NewAt W' g n := by
  obtain ⟨es, hl, he, hW⟩ := h
  exact ⟨es, hl, he, heap_below hW hb (heap_lt hW)⟩

/-- What lies at a place of the block. -/
theorem newAt_cells {W : World} {g n : Nat} (h : NewAt W g n) {k o : Nat} (hk : k < 60) (ho : o < 5) : ∃ v, W.cell? ⟨g, k * 5 + o, none⟩ = some v := by
  obtain ⟨es, hl, _, hW⟩ := h
  rw [Joins.cell_of_block hW]
  have hll : k * 5 + o < (es.flatMap En.cells ++ []).length := by rw [List.append_nil, row_len En.five, hl]; omega
  exact ⟨_, by rw [List.getElem?_toArray]; exact List.getElem?_eq_getElem hll⟩

theorem newAt_thaw {W : World} {g n : Nat} (h : NewAt W g n) (i : Nat) : W.frozen? ⟨g, i, none⟩ = false := by
  obtain ⟨es, _, _, hW⟩ := h
  exact Joins.unfrozen_of_block hW i

theorem made60 : (madeCells (ev 0 0 0 0 0).cells (60 * 5)).toList = (List.replicate 60 En.zero).flatMap En.cells := by kernel_rfl

set_option maxHeartbeats 4000000 in
set_option maxRecDepth 100000 in
theorem unitNew_own (w : World) :
    Calls Tryd.prog 16 #[] w fun e w' => ∃ g, e = .returned (.agg #[.int .i64 1, .slice (some ⟨g, 0, none⟩) 60 60]) ∧ w.heap.size ≤ g ∧ w'.heap[g]? = some (.cells (unew.cells.flatMap En.cells ++ []).toArray 28) ∧ Below w.heap.size w w' := by
  obtain ⟨i0, hi, hz0, hz1, hz2⟩ := info_parts infoE
  have HX0 : Aside ((w.alloc (boxU 0 (.slice none 0 0))).heap[w.heap.size]? = some (boxU 0 (.slice none 0 0))) := heap_new _ _
  have HB0 : Aside (Below w.heap.size w (w.alloc (boxU 0 (.slice none 0 0)))) := grew (Below.refl _ _) _
  go_enter Tryd.func16, Tryd.ntmps16
  go_upto_region 1 with fail
  generalize w.alloc (boxU 0 (.slice none 0 0)) = W0 at *
  go_wp2_with (at_make; refine wpList_make_full _ rfl _ _ 44 rfl W0.heap.size 28 i0 (ev 0 0 0 0 0) 5 Tryd.underlying44 hi hz0 hz1 _ _ _ _ 60 rfl rfl rfl rfl (by rw [hz2]; omega) (by unfold maxLen; omega) (Nat.le_refl _) ?_)
  intro w1 hown hgrow
  obtain ⟨hl0, ho⟩ := hown
  rcases ho with ⟨h, _⟩ | ⟨g, cap, cur, hv', _, hg, _, _, hsz, htake⟩
  · cases h
  injection hv' with ha _ hc
  injection ha with ha
  injection ha with ha _ _
  subst ha hc
  have hB1 : Below W0.heap.size W0 w1 := ⟨hgrow.os, hgrow.tape, hgrow.output, hgrow.size, fun k hk => hgrow.block k hk (fun h => by cases h)⟩
  have hN1 : NewAt w1 W0.heap.size 0 := by
    refine ⟨List.replicate 60 En.zero, List.length_replicate .., fun j hj => absurd hj (Nat.not_lt_zero j), ?_⟩
    have h2 : cur.toList = (List.replicate 60 En.zero).flatMap En.cells := by
      rw [← made60]
      rw [List.take_of_length_le (by rw [Array.length_toList, hsz]; omega)] at htake
      exact htake
    rw [List.append_nil, ← h2]
    simpa using hg
  have hX1 := heap_below HX0.out hB1 (heap_lt HX0.out)
  have hlt := heap_lt HX0.out
  have HB1 : Below w.heap.size w w1 := HB0.out.trans (hB1.mono HB0.out.size)
  have hgw : w.heap.size ≠ W0.heap.size := by omega
  have HLE : Hid (w.heap.size ≤ W0.heap.size) := by show _ ≤ _; omega
  clear hi hz0 hz1 hz2 hl0 htake hgrow hg hsz hB1 HX0 HB0 hlt
  generalize W0.heap.size = g at *
  go_wp2
  go_loopw [6] (fun s wr => ∃ n : Nat, n ≤ 60 ∧ s = .int .i64 n ∧ NewAt wr g n ∧ wr.heap[w.heap.size]? = some (boxU 0 (.slice none 0 0)) ∧ Below w.heap.size w wr) (fun s _ => 60 - (intOf s).toNat)
  case atStart => exact ⟨0, by omega, rfl, hN1, hX1, HB1⟩
  case round =>
    clear hN1 hX1 HB1
    obtain ⟨n, h60, rfl, hN, hX, hB⟩ := hrel
    have HN : Aside (NewAt wr g n) := hN
    have HX : Aside (wr.heap[w.heap.size]? = some (boxU 0 (.slice none 0 0))) := hX
    have HB : Aside (Below w.heap.size w wr) := hB
    clear hN hX hB
    by_cases hlt : n < 60
    · have hni : (n : Int) < 60 := by omega
      go_wp2_with fail
      refine (ublank_any _).mono ?_
      rintro e w2 ⟨rfl, hb2⟩
      have hN2 := newAt_later HN.out hb2
      have HX2 : Aside (w2.heap[w.heap.size]? = some (boxU 0 (.slice none 0 0))) := heap_below HX.out hb2 (heap_lt HX.out)
      have HB2 : Aside (Below w.heap.size w w2) := step_below1 HB.out hb2
      obtain ⟨q0, g0⟩ := newAt_cells hN2 hlt (o := 0) (by omega)
      obtain ⟨q1, g1⟩ := newAt_cells hN2 hlt (o := 1) (by omega)
      obtain ⟨q2, g2⟩ := newAt_cells hN2 hlt (o := 2) (by omega)
      obtain ⟨q3, g3⟩ := newAt_cells hN2 hlt (o := 3) (by omega)
      obtain ⟨q4, g4⟩ := newAt_cells hN2 hlt (o := 4) (by omega)
      rw [Nat.add_zero] at g0
      have fg := fun i => newAt_thaw hN2 i
      have HN2 : Aside _ := newAt_step hN2 hlt
      have HX3 : Aside _ := (other_fiveE (W := w2) hgw (n * 5) (.int .i64 4) (.int .i64 0) (.int .i64 0) (.int .i64 0) (.int .i64 0)).trans HX2.out
      have HB3 : Aside _ := below_fiveE HB2.out HLE.out (n * 5) (.int .i64 4) (.int .i64 0) (.int .i64 0) (.int .i64 0) (.int .i64 0)
      clear hb2 hN2 HN HX HB
      go_wp2
      go_roundw
      case rel => exact ⟨n + 1, by omega, by go_num, HN2.out, HX3.out, HB3.out⟩
      case measure => simp [intOf]; omega
    · obtain rfl : n = 60 := by omega
      have hG := newAt_all HN.out
      have z0 : ∀ i, wr.cell? ⟨w.heap.size, i, none⟩ = #[Value.int .i64 0, .slice none 0 0][i]? := fun i => Joins.cell_of_block HX.out i
      have f0 : ∀ i, wr.frozen? ⟨w.heap.size, i, none⟩ = false := fun i => Joins.unfrozen_of_block HX.out i
      have HG : Aside _ := hG
      clear hG HN
      go_wp2
      have hX := unit_stored HX.out 1 (.slice (some ⟨g, 0, none⟩) 60 60)
      have hBB := below_two2 HB.out (Nat.le_refl _) (.int .i64 1) (.slice (some ⟨g, 0, none⟩) 60 60)
      have hGG : ((wr.setCell ⟨w.heap.size, 0, none⟩ (.int .i64 1)).setCell ⟨w.heap.size, 1, none⟩ (.slice (some ⟨g, 0, none⟩) 60 60)).heap[g]? = some (.cells ((List.replicate 60 blankE).flatMap En.cells).toArray 28) := by
        rw [Below.heap_setCell _ _ _ _ (by exact hgw.symm), Below.heap_setCell _ _ _ _ (by exact hgw.symm)]
        exact HG.out
      have c0 := fun i => Joins.cell_of_block hX i
      refine bodyPost_ret (v := .agg #[.int .i64 1, .slice (some ⟨g, 0, none⟩) 60 60]) (by simp [results, Tryd.results16, go_sem, c0]) rfl ⟨_, rfl, HLE.out, ?_, hBB⟩
      rw [hGG, List.append_nil]
      rfl

theorem unitNew_any (w : World) :
    Calls Tryd.prog 16 #[] w fun e w' => ∃ v, e = .returned (.agg #[.int .i64 1, v]) ∧ UnitAt w' v unew ∧ Below w.heap.size w w' :=
  (unitNew_own w).mono fun _ _ ⟨_, he, _, hg, hb⟩ => ⟨_, he, ⟨ents_front (List.length_replicate ..) hg, ⟨_, _, _, rfl, Nat.le_refl _⟩⟩, hb⟩

open scoped Classical in
theorem unitSame_any (v v' : Value) (u x : Un) (w : World) (h : EntSl w v u.cells) (h' : EntSl w v' x.cells) (hn : u.cells.length ≤ topN) :
    Calls Tryd.prog 20 #[.agg #[.int .i64 u.p, v], .agg #[.int .i64 x.p, v']] w fun e w' => e = .returned (.bool (decide (u = x))) ∧ Below w.heap.size w w' := by
  obtain ⟨p, es⟩ := u
  obtain ⟨p', fs⟩ := x
  have hB2 : Below w.heap.size w ((w.alloc (boxU p v)).alloc (boxU p' v')) := grew (grew (Below.refl _ _) _) _
  have HB2 : Aside _ := hB2
  have heq := equalE v v' es fs ((w.alloc (boxU p v)).alloc (boxU p' v')) (h.later hB2) (h'.later hB2) hn
  clear hB2
  obtain ⟨a, c, rfl, _⟩ := h
  obtain ⟨a', c', rfl, _⟩ := h'
  have hd : decide ((⟨p, es⟩ : Un) = ⟨p', fs⟩) = (decide (p = p') && decide (es = fs)) := by
    by_cases h1 : p = p' <;> by_cases h2 : es = fs <;> simp [h1, h2]
  rw [hd]
  show Calls _ _ #[.agg #[.int .i64 p, .slice a es.length c], .agg #[.int .i64 p', .slice a' fs.length c']] _ _
  generalize decide (es = fs) = ef at *
  change Calls _ _ #[.slice a es.length c, .slice a' fs.length c'] _ _ at heq
  clear hn
  generalize es.length = n at *
  generalize fs.length = n' at *
  by_cases hp : p = p'
  · subst hp
    go_enter Tryd.func20, Tryd.ntmps20
    go_wp2_with fail
    refine heq.mono ?_
    rintro e w1 ⟨rfl, hb1⟩
    have HB3 : Aside (Below w.heap.size w w1) := step_below1 HB2.out hb1
    clear hb1 heq HB2
    go_wp2
    go_ret
    exact ⟨by simp, HB3.out⟩
  · have hpb : (p == p') = false := by rw [beq_eq_false_iff_ne]; exact hp
    rw [decide_eq_false hp]
    clear hp heq
    go_enter Tryd.func20, Tryd.ntmps20
    go_wp2
    go_ret
    exact ⟨rfl, HB2.out⟩

set_option maxHeartbeats 2000000 in
theorem unitTail_any (v : Value) (u : Un) (w : World) (h : EntSl w v u.cells) (hn : u.cells.length ≤ topN) :
    Calls Tryd.prog 30 #[.agg #[.int .i64 u.p, v]] w fun e w' => e = .returned (.int .i64 (tailOf u.cells)) ∧ Below w.heap.size w w' := by
  obtain ⟨p, es⟩ := u
  have H : Hid (EntSl w v es) := h
  obtain ⟨a, c, rfl, _⟩ := h
  obtain ⟨n, HL⟩ : ∃ n, Hid (es.length = n) := ⟨_, rfl⟩
  change es.length ≤ 9223372036854775807 at hn
  show Calls _ _ #[.agg #[.int .i64 p, .slice a es.length c]] _ fun e w' => e = .returned (.int .i64 (tailOf es)) ∧ _
  have HS : Hid (tailOf es = tailOf (es.take n)) := by rw [Hid, ← HL.out, List.take_length]
  rw [HL.out] at hn ⊢
  replace H : Hid (SlOf En.cells 5 w (.slice a n c) es) := by have := H.out; rw [HL.out] at this; exact this
  have HB0 : Aside (Below w.heap.size w (w.alloc (boxU p (.slice a n c)))) := grew (Below.refl _ _) _
  have HX0 : Aside ((w.alloc (boxU p (.slice a n c))).heap[w.heap.size]? = some (boxU p (.slice a n c))) := heap_new _ _
  go_enter Tryd.func30, Tryd.ntmps30
  go_wp2
  go_loopg [3] n (fun g s wr => ∃ k : Nat, k ≤ n ∧ k ≤ g ∧ s = .int .i64 k ∧ wr = w.alloc (boxU p (.slice a n c)) ∧ Hid (tailOf es = tailOf (es.take k)))
  case atStart => exact ⟨n, Nat.le_refl _, by omega, rfl, rfl, HS⟩
  case round =>
    obtain ⟨k, hk, hg, rfl, rfl, hst⟩ := hrel
    by_cases h0 : k = 0
    · subst h0
      have HR : Hid (tailOf es = 0) := by rw [Hid, hst.out]; rfl
      clear hst H
      go_wp2
      go_ret
      exact ⟨by rw [HR.out]; rfl, HB0.out⟩
    · obtain ⟨m, rfl⟩ : ∃ m, k = m + 1 := ⟨k - 1, by omega⟩
      obtain ⟨x, hx⟩ : ∃ x, es[m]? = some x := ⟨es[m]'(by have := HL.out; omega), List.getElem?_eq_getElem _⟩
      obtain ⟨b, off, rfl, hE0⟩ := H.out.at (by omega)
      have hE := hE0.later HB0.out
      have c0 : (w.alloc (boxU p (.slice (some ⟨b, off, none⟩) n c))).cell? ⟨b, off + m * 5, none⟩ = some (.int .i64 x.k) := hE m x hx 0 _ rfl
      have hd : Hid (tailOf es = if x.k = 4 then tailOf (es.take m) else ((m + 1 : Nat) : Int)) := by rw [Hid, hst.out, tail_take hx]
      have hw1 : IntKind.i64.wrap ((m : Int) + 1 - 1) = (m : Int) := by rw [IntKind.wrap_i64]; omega
      have hw2 : IntKind.i64.wrap (m : Int) = (m : Int) := by rw [IntKind.wrap_i64]; omega
      have hmn : (m : Int) < (n : Int) := by omega
      have hm0 : (0 : Int) < (m : Int) + 1 := by omega
      clear hE hE0 hst hx H h0
      by_cases h4 : x.k = 4
      · rw [if_pos h4] at hd
        have h4b : (x.k != 4) = false := by rw [h4]; rfl
        clear h4
        go_wp2
        go_roundg m
        case measure => omega
        case rel => exact ⟨m, by omega, by omega, by go_num, rfl, hd⟩
      · rw [if_neg h4] at hd
        have h4b : (x.k != 4) = true := by rw [bne_iff_ne]; exact h4
        clear h4
        go_wp2
        go_ret
        exact ⟨by rw [hd.out]; go_num, HB0.out⟩

end Go.Proofs.YtnmapehbcccbhadDoor
namespace Go.Proofs.YtnmapehbcccbhadDoor
open Go.RowKit

set_option maxHeartbeats 4000000 in
set_option maxRecDepth 100000 in
theorem unitCheck60 (a : Option Addr) (c : Nat) (p : Int) (es : List En) (w : World) (h : EntSl w (.slice a 60 c) es) (hl : es.length = 60) (hp : 1 ≤ p) (hp2 : p ≤ 20) :
    Calls Tryd.prog 18 #[.agg #[.int .i64 p, .slice a 60 c]] w fun e w' => e = .returned (.int .i64 (ckCells es)) ∧ Below w.heap.size w w' := by
  have H : Hid (EntSl w (.slice a 60 c) es) := h
  have HL : Hid (es.length = 60) := hl
  clear h hl
  go_enter Tryd.func18, Tryd.ntmps18
  go_wp2
  go_loopw [21] (fun i wr => ∃ k : Nat, k ≤ 60 ∧ i = .int .i64 k ∧ Below w.heap.size w wr ∧ Hid (ckCells es = ckCells (es.drop k))) (fun i _ => 60 - (intOf i).toNat)
  case atStart => exact ⟨0, Nat.zero_le _, rfl, grew (Below.refl _ _) _, rfl⟩
  case round =>
    obtain ⟨k, hk, rfl, hB, hst⟩ := hrel
    by_cases hlt : k < 60
    · obtain ⟨x, hx⟩ : ∃ x, es[k]? = some x := ⟨es[k]'(by have := HL.out; omega), List.getElem?_eq_getElem _⟩
      obtain ⟨b, off, rfl, hE0⟩ := SlOf.at (cs := En.cells) (k := 5) H.out (by omega)
      have hE := RowAt.later hE0 hB
      have c0 : wr.cell? ⟨b, off + k * 5, none⟩ = some (.int .i64 x.k) := hE k x hx 0 _ rfl
      have c1 : wr.cell? ⟨b, off + k * 5 + 1, none⟩ = some (.int .i64 x.j) := hE k x hx 1 _ rfl
      have c2 : wr.cell? ⟨b, off + k * 5 + 2, none⟩ = some (.int .i64 x.v) := hE k x hx 2 _ rfl
      have c3 : wr.cell? ⟨b, off + k * 5 + 3, none⟩ = some (.int .i64 x.t) := hE k x hx 3 _ rfl
      have c4 : wr.cell? ⟨b, off + k * 5 + 4, none⟩ = some (.int .i64 x.c) := hE k x hx 4 _ rfl
      have hd : Hid (ckCells es = if x.isB = true then ckCells (es.drop (k + 1)) else if x.chk ≠ 0 then x.chk else ckCells (es.drop (k + 1))) := by
        rw [Hid, hst.out, drop_en hx, ckCells]
      have hce : ∀ W, Calls Tryd.prog 33 #[ev x.k x.j x.v x.t x.c] W fun e w' => e = .returned (.int .i64 x.chk) ∧ Below W.heap.size W w' := fun W => check_any x.k x.j x.v x.t x.c W
      have heq : ∀ W, (binOp .eql 28 (ev x.k x.j x.v x.t x.c) (ev 4 0 0 0 0)).run Tryd.prog W = .ok (.bool x.isB) W := fun W => eql_entry x.k x.j x.v x.t x.c 4 0 0 0 0 W
      have HX1 : Aside ((wr.alloc (boxE x.k x.j x.v x.t x.c)).heap[wr.heap.size]? = some (boxE x.k x.j x.v x.t x.c)) := heap_new _ _
      have HB1 : Aside (Below w.heap.size w (wr.alloc (boxE x.k x.j x.v x.t x.c))) := grew hB _
      have hki : (k : Int) < 60 := by omega
      clear hE hE0 hst hx hB
      generalize x.isB = ib at *
      generalize x.chk = d at *
      go_upto_region 8 with fail
      have HS0 : Aside (BeS (wr.alloc (boxE x.k x.j x.v x.t x.c)) (wr.alloc (boxE x.k x.j x.v x.t x.c)) wr.heap.size x) := beS_of HX1.out
      generalize wr.alloc (boxE x.k x.j x.v x.t x.c) = W1 at *
      generalize wr.heap.size = bx at *
      have hS0 := HS0.out
      have hbd : Below W1.heap.size W1 W1.drew := (Below.refl _ _).drew
      clear c0 c1 c2 c3 c4 HX1
      cases ib with
      | true =>
        have HN : Hid (ckCells es = ckCells (es.drop (k + 1))) := by rw [Hid, hd.out, if_pos rfl]
        clear hd hce
        go_region_held3 (fun w' => BeS W1 w' bx x) (exact beS_step (by assumption) (by assumption)) (first | (go_at_call 31; refine (ublank_any _).mono ?_; rintro e w' ⟨rfl, hb'⟩))
        all_goals
          rename_i hS
          have HB3 : Aside (Below w.heap.size w _) := HB1.out.trans (hS.1.mono HB1.out.size)
          clear hS hS0 hbd HS0 HB1
          go_wp2
          go_roundw
          case rel => exact ⟨k + 1, by omega, by go_num, HB3.out, HN⟩
          case measure => simp [intOf]; omega
      | false =>
        rw [if_neg (by simp)] at hd
        go_region_held3 (fun w' => BeS W1 w' bx x) (exact beS_step (by assumption) (by assumption)) (first | (go_at_call 31; refine (ublank_any _).mono ?_; rintro e w' ⟨rfl, hb'⟩))
        all_goals
          rename_i hS
          obtain ⟨V, hVe, hSV⟩ := name_world (P := fun W => BeS W1 W bx x) hS
          subst hVe
          have HB3 : Aside (Below w.heap.size w V) := HB1.out.trans (hSV.1.mono HB1.out.size)
          obtain ⟨_, k0, k1, k2, k3, k4⟩ := hSV
          clear hS hS0 hbd HS0 HB1 heq
          go_wp2_with fail
          refine (hce _).mono ?_
          rintro e w4 ⟨rfl, hb4⟩
          have HB4 : Aside (Below w.heap.size w w4) := step_below1 HB3.out hb4
          clear hce hb4 HB3 k0 k1 k2 k3 k4
          by_cases hz : d = 0
          · have HN : Hid (ckCells es = ckCells (es.drop (k + 1))) := by rw [Hid, hd.out, if_neg (by simpa using hz)]
            have hzb : (d != 0) = false := by rw [hz]; rfl
            clear hd hz
            go_wp2
            go_roundw
            case rel => exact ⟨k + 1, by omega, by go_num, HB4.out, HN⟩
            case measure => simp [intOf]; omega
          · have HR : Hid (ckCells es = d) := by rw [Hid, hd.out, if_pos hz]
            have hzb : (d != 0) = true := by rw [bne_iff_ne]; exact hz
            clear hd hz
            go_wp2
            go_ret
            exact ⟨by rw [HR.out]; rfl, HB4.out⟩
    · obtain rfl : k = 60 := by omega
      have HR : Hid (ckCells es = 0) := by
        rw [Hid, hst.out, List.drop_eq_nil_of_le (by have := HL.out; omega)]; rfl
      clear hst
      go_wp2
      go_ret
      exact ⟨by rw [HR.out]; rfl, hB⟩

/-- Package unit's Check. -/
theorem unitCheck_any (v : Value) (u : Un) (w : World) (h : EntSl w v u.cells) :
    Calls Tryd.prog 18 #[.agg #[.int .i64 u.p, v]] w fun e w' => e = .returned (.int .i64 u.ck) ∧ Below w.heap.size w w' := by
  obtain ⟨p, es⟩ := u
  have h' := h
  obtain ⟨a, c, rfl, _⟩ := h
  show Calls _ _ _ _ fun e w' => e = .returned (.int .i64 (Un.ck ⟨p, es⟩)) ∧ _
  have hc : p < 1 ∨ (1 ≤ p ∧ 20 < p) ∨ (1 ≤ p ∧ p ≤ 20) := by omega
  rcases hc with hp | ⟨hp, hp2⟩ | ⟨hp, hp2⟩
  · rw [Un.ck, if_pos (by simp; omega)]
    show Calls _ _ #[.agg #[.int .i64 p, .slice a es.length c]] _ _
    clear h'
    generalize es.length = n at *
    go_enter Tryd.func18, Tryd.ntmps18
    go_wp2
    go_ret
    exact ⟨rfl, grew (Below.refl _ _) _⟩
  · rw [Un.ck, if_pos (by simp; omega)]
    show Calls _ _ #[.agg #[.int .i64 p, .slice a es.length c]] _ _
    clear h'
    generalize es.length = n at *
    go_enter Tryd.func18, Tryd.ntmps18
    go_wp2
    go_ret
    exact ⟨rfl, grew (Below.refl _ _) _⟩
  · by_cases hl : es.length = 60
    · rw [Un.ck, if_neg (by simp; omega), if_neg (by simpa using hl)]
      have h2 : EntSl w (.slice a es.length c) es := h'
      show Calls _ _ #[.agg #[.int .i64 p, .slice a es.length c]] _ _
      rw [hl] at h2 ⊢
      exact unitCheck60 a c p es w h2 hl hp hp2
    · rw [Un.ck, if_neg (by simp; omega), if_pos hl]
      have hlb : ((es.length : Int) != 60) = true := by rw [bne_iff_ne]; omega
      show Calls _ _ #[.agg #[.int .i64 p, .slice a es.length c]] _ _
      clear h' hl
      generalize es.length = n at *
      go_enter Tryd.func18, Tryd.ntmps18
      go_wp2
      go_ret
      exact ⟨rfl, grew (Below.refl _ _) _⟩

end Go.Proofs.YtnmapehbcccbhadDoor
namespace Go.Proofs.YtnmapehbcccbhadDoor
open Go.RowKit

/-- A unit in a box of the call's own, its places in a block of the call's own. -/
structure UBox (w W : World) (b g : Nat) (u : Un) : Prop where
  box : W.heap[b]? = some (boxU u.p (.slice (some ⟨g, 0, none⟩) 60 60))
  row : W.heap[g]? = some (.cells (u.cells.flatMap En.cells ++ []).toArray 28)
  len : u.cells.length = 60
  far : b ≠ g
  base : w.heap.size ≤ b
  baseg : w.heap.size ≤ g
  below : Below w.heap.size w W

theorem UBox.later {w W W' : World} {b g : Nat} {u : Un} (h : UBox w W b g u) (hb : Below W.heap.size W W') : UBox w W' b g u :=
  ⟨heap_below h.box hb (heap_lt h.box), heap_below h.row hb (heap_lt h.row), h.len, h.far, h.base, h.baseg, step_below1 h.below hb⟩

theorem UBox.unit {w W : World} {b g : Nat} {u : Un} (h : UBox w W b g u) : UnitAt W (.slice (some ⟨g, 0, none⟩) 60 60) u :=
  ⟨ents_front h.len h.row, ⟨_, _, _, rfl, Nat.le_refl _⟩⟩

/-- u.Epoch = p. -/
theorem UBox.seal {w W : World} {b g : Nat} {u : Un} (h : UBox w W b g u) (p : Int) : UBox w (W.setCell ⟨b, 0, none⟩ (.int .i64 p)) b g ⟨p, u.cells⟩ :=
  ⟨by rw [Joins.block_setCell h.box]; rfl, (Below.heap_setCell _ _ _ _ (by show g ≠ b; exact h.far.symm)).trans h.row, h.len, h.far, h.base, h.baseg, h.below.setCell (p := ⟨b, 0, none⟩) h.base _⟩

/-- u.Cells[k] = e. -/
theorem UBox.write {w W : World} {b g : Nat} {u : Un} (h : UBox w W b g u) {k : Nat} (hk : k < 60) (e : En) :
    UBox w (((((W.setCell ⟨g, k * 5, none⟩ (.int .i64 e.k)).setCell ⟨g, k * 5 + 1, none⟩ (.int .i64 e.j)).setCell ⟨g, k * 5 + 2, none⟩ (.int .i64 e.v)).setCell ⟨g, k * 5 + 3, none⟩ (.int .i64 e.t)).setCell ⟨g, k * 5 + 4, none⟩ (.int .i64 e.c)) b g ⟨u.p, u.cells.set k e⟩ :=
  ⟨(other_fiveE h.far (k * 5) _ _ _ _ _).trans h.box, stored_five h.row (by rw [h.len]; exact hk) e, by rw [List.length_set]; exact h.len, h.far, h.base, h.baseg, below_fiveE h.below h.baseg (k * 5) _ _ _ _ _⟩

theorem UBox.cells {w W : World} {b g : Nat} {u : Un} (h : UBox w W b g u) {k : Nat} {x : En} (hx : u.cells[k]? = some x) {i : Nat} {v : Value} (hv : x.cells[i]? = some v) : W.cell? ⟨g, k * 5 + i, none⟩ = some v := by
  have hf := row_flat En.five u.cells k x hx i v hv
  have hlt := (List.getElem?_eq_some_iff.1 hf).1
  rw [Joins.cell_of_block h.row, List.getElem?_toArray, List.getElem?_append_left hlt]
  exact hf

theorem useal_any (w W : World) (b g : Nat) (u : Un) (ep : Int) (h : UBox w W b g u) :
    Calls Tryd.prog 40 #[.pointer (some ⟨b, 0, none⟩), .int .i64 ep] W fun e w' => e = .returned (.int .i64 (if ep ≤ u.p then 8 else 0)) ∧ UBox w w' b g (if ep ≤ u.p then u else ⟨ep, u.cells⟩) := by
  have z0 : ∀ i, W.cell? ⟨b, i, none⟩ = #[Value.int .i64 u.p, .slice (some ⟨g, 0, none⟩) 60 60][i]? := fun i => Joins.cell_of_block h.box i
  have f0 : ∀ i, W.frozen? ⟨b, i, none⟩ = false := fun i => Joins.unfrozen_of_block h.box i
  have H : Aside (UBox w W b g u) := h
  clear h
  by_cases hp : ep ≤ u.p
  · rw [if_pos hp, if_pos hp]
    go_enter Tryd.func40, Tryd.ntmps40
    go_wp2
    go_ret
    exact ⟨rfl, H.out⟩
  · rw [if_neg hp, if_neg hp]
    have hp2 : u.p < ep := by omega
    go_enter Tryd.func40, Tryd.ntmps40
    go_wp2
    go_ret
    exact ⟨rfl, H.out.seal ep⟩

/-- What a write reads. -/
abbrev WtS (W w : World) (b g k : Nat) (x : En) : Prop :=
  Below W.heap.size W w ∧ w.cell? ⟨b, 1, none⟩ = some (.slice (some ⟨g, 0, none⟩) 60 60) ∧ w.cell? ⟨g, k * 5, none⟩ = some (.int .i64 x.k) ∧ w.cell? ⟨g, k * 5 + 1, none⟩ = some (.int .i64 x.j) ∧ w.cell? ⟨g, k * 5 + 2, none⟩ = some (.int .i64 x.v) ∧ w.cell? ⟨g, k * 5 + 3, none⟩ = some (.int .i64 x.t) ∧ w.cell? ⟨g, k * 5 + 4, none⟩ = some (.int .i64 x.c)

theorem wtS_step {W w w' : World} {b g k : Nat} {x : En} (h : WtS W w b g k x) (hb : Below w.heap.size w w') : WtS W w' b g k x :=
  ⟨h.1.trans (hb.mono h.1.size), cell_later hb h.2.1, cell_later hb h.2.2.1, cell_later hb h.2.2.2.1, cell_later hb h.2.2.2.2.1, cell_later hb h.2.2.2.2.2.1, cell_later hb h.2.2.2.2.2.2⟩

set_option maxHeartbeats 4000000 in
set_option maxRecDepth 100000 in
theorem uwrite_twice (w W : World) (b g : Nat) (u : Un) (k : Nat) (x e : En) (h : UBox w W b g u) (hk : k < 60) (hx : u.cells[k]? = some x) (hib : x.isB = false) :
    Calls Tryd.prog 41 #[.pointer (some ⟨b, 0, none⟩), .int .i64 (k : Int), e.val] W fun r w' => r = .returned (.int .i64 6) ∧ UBox w w' b g u := by
  have H1 := h.later (grew (Below.refl W.heap.size W) (boxE e.k e.j e.v e.t e.c))
  have hS0 : WtS (W.alloc (boxE e.k e.j e.v e.t e.c)) (W.alloc (boxE e.k e.j e.v e.t e.c)) b g k x := ⟨Below.refl _ _, Joins.cell_of_block H1.box 1, H1.cells hx (i := 0) rfl, H1.cells hx (i := 1) rfl, H1.cells hx (i := 2) rfl, H1.cells hx (i := 3) rfl, H1.cells hx (i := 4) rfl⟩
  have hne : ∀ W, (binOp .neq 28 (ev x.k x.j x.v x.t x.c) (ev 4 0 0 0 0)).run Tryd.prog W = .ok (.bool (!x.isB)) W := fun W => by
    rw [neq_entry x.k x.j x.v x.t x.c 4 0 0 0 0 W, En.isB, Bool.not_not]
  rw [hib] at hne
  have H : Aside (UBox w (W.alloc (boxE e.k e.j e.v e.t e.c)) b g u) := H1
  have HS0 : Aside _ := hS0
  have hki : (k : Int) < 60 := by omega
  have hk0 : (0 : Int) ≤ (k : Int) := by omega
  clear h hx hib H1 hS0
  go_enter Tryd.func41, Tryd.ntmps41
  go_upto_region 1 with fail
  generalize W.alloc (boxE e.k e.j e.v e.t e.c) = W1 at *
  generalize W.heap.size = be at *
  have hS0 := HS0.out
  have hbd : Below W1.heap.size W1 W1.drew := (Below.refl _ _).drew
  go_region_held3 (fun w' => WtS W1 w' b g k x) (exact wtS_step (by assumption) (by assumption)) (first | (go_at_call 31; refine (ublank_any _).mono ?_; rintro r w' ⟨rfl, hb'⟩))
  all_goals
    rename_i hS
    have HB : Aside (UBox w _ b g u) := H.out.later hS.1
    clear hS hS0 hbd HS0 H hne
    go_wp2
    go_ret
    exact ⟨rfl, HB.out⟩

set_option maxHeartbeats 4000000 in
set_option maxRecDepth 100000 in
theorem uwrite_some (w W : World) (b g : Nat) (u : Un) (k : Nat) (x e : En) (h : UBox w W b g u) (hk : k < 60) (hx : u.cells[k]? = some x) (hib : x.isB = true) :
    Calls Tryd.prog 41 #[.pointer (some ⟨b, 0, none⟩), .int .i64 (k : Int), e.val] W fun r w' => r = .returned (.int .i64 0) ∧ UBox w w' b g ⟨u.p, u.cells.set k e⟩ := by
  have H1 := h.later (grew (Below.refl W.heap.size W) (boxE e.k e.j e.v e.t e.c))
  have hS0 : WtS (W.alloc (boxE e.k e.j e.v e.t e.c)) (W.alloc (boxE e.k e.j e.v e.t e.c)) b g k x := ⟨Below.refl _ _, Joins.cell_of_block H1.box 1, H1.cells hx (i := 0) rfl, H1.cells hx (i := 1) rfl, H1.cells hx (i := 2) rfl, H1.cells hx (i := 3) rfl, H1.cells hx (i := 4) rfl⟩
  have hne : ∀ W, (binOp .neq 28 (ev x.k x.j x.v x.t x.c) (ev 4 0 0 0 0)).run Tryd.prog W = .ok (.bool (!x.isB)) W := fun W => by
    rw [neq_entry x.k x.j x.v x.t x.c 4 0 0 0 0 W, En.isB, Bool.not_not]
  rw [hib] at hne
  have HX0 : Aside ((W.alloc (boxE e.k e.j e.v e.t e.c)).heap[W.heap.size]? = some (boxE e.k e.j e.v e.t e.c)) := heap_new _ _
  have H : Aside (UBox w (W.alloc (boxE e.k e.j e.v e.t e.c)) b g u) := H1
  have HS0 : Aside _ := hS0
  have hki : (k : Int) < 60 := by omega
  have hk0 : (0 : Int) ≤ (k : Int) := by omega
  clear h hx hib H1 hS0
  go_enter Tryd.func41, Tryd.ntmps41
  go_upto_region 1 with fail
  generalize W.alloc (boxE e.k e.j e.v e.t e.c) = W1 at *
  generalize W.heap.size = be at *
  have hS0 := HS0.out
  have hbd : Below W1.heap.size W1 W1.drew := (Below.refl _ _).drew
  go_region_held3 (fun w' => WtS W1 w' b g k x) (exact wtS_step (by assumption) (by assumption)) (first | (go_at_call 31; refine (ublank_any _).mono ?_; rintro r w' ⟨rfl, hb'⟩))
  all_goals
    rename_i hS
    obtain ⟨V, hVe, hSV⟩ := name_world (P := fun W => WtS W1 W b g k x) hS
    subst hVe
    have HB : Aside (UBox w V b g u) := H.out.later hSV.1
    have HXV : Aside (V.heap[be]? = some (boxE e.k e.j e.v e.t e.c)) := heap_below HX0.out hSV.1 (heap_lt HX0.out)
    obtain ⟨_, k1, g0, g1, g2, g3, g4⟩ := hSV
    clear hS hS0 hbd HS0 H hne HX0
    have fg : ∀ i, V.frozen? ⟨g, i, none⟩ = false := fun i => Joins.unfrozen_of_block HB.out.row i
    have z1 : ∀ i, V.cell? ⟨be, i, none⟩ = #[Value.int .i64 e.k, .int .i64 e.j, .int .i64 e.v, .int .i64 e.t, .int .i64 e.c][i]? := fun i => Joins.cell_of_block HXV.out i
    go_upto_region 3 with fail
    go_region
    go_wp2
    go_ret
    exact ⟨rfl, (HB.out.write hk e).later (Below.refl _ _).drew⟩

set_option maxHeartbeats 2000000 in
set_option maxRecDepth 100000 in
/-- take: a right unit turned in place by a record, or not at all. -/
theorem utake_any (w W : World) (b g : Nat) (u : Un) (r : Rc) (h : UBox w W b g u) :
    Calls Tryd.prog 32 #[.pointer (some ⟨b, 0, none⟩), r.val] W fun e w' => e = .returned (.int .i64 (utake u r).2) ∧ UBox w w' b g (utake u r).1 := by
  have hB0 := grew (Below.refl W.heap.size W) (boxRc r)
  have HX0 : Aside ((W.alloc (boxRc r)).heap[W.heap.size]? = some (boxRc r)) := heap_new _ _
  have H0 : Aside (UBox w (W.alloc (boxRc r)) b g u) := h.later hB0
  have hck := noteCheck_any r (W.alloc (boxRc r))
  clear h hB0
  by_cases h1 : r.chk = 0
  · rw [h1] at hck
    by_cases hk : r.k = 2
    · have hkb : (r.k == 2) = true := by rw [hk]; rfl
      obtain ⟨d, U, hr, hs⟩ : ∃ d U, Hid (utake u r = (U, d)) ∧ ∀ W', UBox w W' b g u → Calls Tryd.prog 40 #[.pointer (some ⟨b, 0, none⟩), .int .i64 r.p] W' fun e w' => e = .returned (.int .i64 d) ∧ UBox w w' b g U := by
        by_cases hp : r.p ≤ u.p
        · refine ⟨8, u, ?_, fun W' hh => ?_⟩
          · rw [Hid, utake, if_neg (by simpa using h1), uwrite, if_pos hk, if_pos hp, if_pos (by simp)]
          · have := useal_any w W' b g u r.p hh
            rw [if_pos hp, if_pos hp] at this
            exact this
        · refine ⟨0, ⟨r.p, u.cells⟩, ?_, fun W' hh => ?_⟩
          · rw [Hid, utake, if_neg (by simpa using h1), uwrite, if_pos hk, if_neg hp, if_neg (by simp)]
          · have := useal_any w W' b g u r.p hh
            rw [if_neg hp, if_neg hp] at this
            exact this
      clear h1 hk
      go_enter Tryd.func32, Tryd.ntmps32
      go_wp2_with fail
      refine hck.mono ?_
      rintro e w1 ⟨rfl, hb1⟩
      have H1 : Aside (UBox w w1 b g u) := H0.out.later hb1
      have HX1 : Aside (w1.heap[W.heap.size]? = some (boxRc r)) := heap_below HX0.out hb1 (heap_lt HX0.out)
      have z1 : ∀ i, w1.cell? ⟨W.heap.size, i, none⟩ = #[Value.int .i64 r.k, .int .i64 r.a, .int .i64 r.p, .int .i64 r.e.k, .int .i64 r.e.j, .int .i64 r.e.v, .int .i64 r.e.t, .int .i64 r.e.c][i]? := fun i => Joins.cell_of_block HX1.out i
      have hs1 := hs w1 H1.out
      clear hck hb1 H0 HX0 hs
      go_wp2_with fail
      refine hs1.mono ?_
      rintro e w2 ⟨rfl, H2⟩
      have HH2 : Aside _ := H2
      clear hs1 H2
      go_wp2
      go_ret
      exact ⟨by rw [hr.out]; rfl, by rw [hr.out]; exact HH2.out⟩
    · have hkb : (r.k == 2) = false := by rw [beq_eq_false_iff_ne]; exact hk
      obtain ⟨g1, g2, g3, g4⟩ := Rc.write h1 hk
      obtain ⟨k, hk'⟩ : ∃ k : Nat, r.a = k := ⟨r.a.toNat, by omega⟩
      have hkl : k < 60 := by omega
      obtain ⟨x, hx⟩ : ∃ x, u.cells[k]? = some x := ⟨u.cells[k]'(by have := H0.out.len; omega), List.getElem?_eq_getElem _⟩
      have hg : u.cells.getD k blankE = x := by rw [List.getD_eq_getElem?_getD, hx]; rfl
      obtain ⟨d, U, hr, hs⟩ : ∃ d U, Hid (utake u r = (U, d)) ∧ ∀ W', UBox w W' b g u → Calls Tryd.prog 41 #[.pointer (some ⟨b, 0, none⟩), .int .i64 r.a, r.e.val] W' fun e w' => e = .returned (.int .i64 d) ∧ UBox w w' b g U := by
        cases hb : x.isB with
        | false =>
          refine ⟨6, u, ?_, fun W' hh => ?_⟩
          · rw [Hid, utake, if_neg (by simpa using h1), uwrite, if_neg hk, hk', Int.toNat_natCast, hg, if_pos hb, if_pos (by simp)]
          · rw [hk']; exact uwrite_twice w W' b g u k x r.e hh hkl hx hb
        | true =>
          refine ⟨0, ⟨u.p, u.cells.set k r.e⟩, ?_, fun W' hh => ?_⟩
          · rw [Hid, utake, if_neg (by simpa using h1), uwrite, if_neg hk, hk', Int.toNat_natCast, hg, if_neg (c := x.isB = false) (by simp [hb]), if_neg (by simp)]
          · rw [hk']; exact uwrite_some w W' b g u k x r.e hh hkl hx hb
      clear h1 hk g1 g2 g3 g4 hk' hkl hx hg
      go_enter Tryd.func32, Tryd.ntmps32
      go_wp2_with fail
      refine hck.mono ?_
      rintro e w1 ⟨rfl, hb1⟩
      have H1 : Aside (UBox w w1 b g u) := H0.out.later hb1
      have HX1 : Aside (w1.heap[W.heap.size]? = some (boxRc r)) := heap_below HX0.out hb1 (heap_lt HX0.out)
      have z1 : ∀ i, w1.cell? ⟨W.heap.size, i, none⟩ = #[Value.int .i64 r.k, .int .i64 r.a, .int .i64 r.p, .int .i64 r.e.k, .int .i64 r.e.j, .int .i64 r.e.v, .int .i64 r.e.t, .int .i64 r.e.c][i]? := fun i => Joins.cell_of_block HX1.out i
      have hs1 := hs w1 H1.out
      clear hck hb1 H0 HX0 hs
      go_wp2_with fail
      refine hs1.mono ?_
      rintro e w2 ⟨rfl, H2⟩
      have HH2 : Aside _ := H2
      clear hs1 H2
      go_wp2
      go_ret
      exact ⟨by rw [hr.out]; rfl, by rw [hr.out]; exact HH2.out⟩
  · have hr : Hid (utake u r = (u, r.chk)) := by rw [Hid, utake, if_pos h1]
    have hzb : (r.chk != 0) = true := by rw [bne_iff_ne]; exact h1
    rw [hr.out]
    clear h1 hr
    generalize r.chk = d at *
    go_enter Tryd.func32, Tryd.ntmps32
    go_wp2_with fail
    refine hck.mono ?_
    rintro e w1 ⟨rfl, hb1⟩
    have H1 : Aside (UBox w w1 b g u) := H0.out.later hb1
    clear hck hb1 H0 HX0
    go_wp2
    go_ret
    exact ⟨rfl, H1.out⟩

end Go.Proofs.YtnmapehbcccbhadDoor
namespace Go.Proofs.YtnmapehbcccbhadDoor
open Go.RowKit

section
variable {P : Program}

/-- 'copy' into a row that is known whole: nothing else turns. -/
theorem wpList_copyO {w : World} {ops : Array Oper} {rest : List Oper} {o : Oper} {a : Act} {Q : Exit → Act → World → Prop} (hgd : o.guard = none) (d s : Operand) (dT sT : TypeId)
    (ho : o.op = .call { callee := .builtin .copy, args := #[d, s], argTypes := #[dT, sT] }) (elem : TypeId) (k : Nat) (hu : P.underlying dT = some (.slice elem)) (hsz : (P.info? elem).map (·.size) = some k)
    (ad : Addr) (n dCap sCap : Nat) (g : Nat) (hd : a.eval d = .slice (some ⟨g, 0, none⟩) n dCap) (hs : a.eval s = .slice (some ad) n sCap)
    (cur : List Value) (t : TypeId) (hg : w.heap[g]? = some (.cells cur.toArray t (0, 0))) (cs : List Value) (hn : cs.length = n * k) (hl : cur.length = cs.length)
    (hsrc : ∀ j v, cs[j]? = some v → w.cell? (ad.add j) = some v) (h1 : ∀ v ∈ cs, v.oneCell' = true)
    (h : ∀ w', Hid (w'.heap[g]? = some (.cells cs.toArray t (0, 0))) → Hid (∀ i, i ≠ g → w'.heap[i]? = w.heap[i]?) → (∀ (B : Nat) (w0 : World), Below B w0 w → B ≤ g → Below B w0 w') → wpList P ops Q rest (a.put o.dst (goInt n)) w') :
    wpList P ops Q (o :: rest) a w := by
  refine wpList_plain hgd fun K hK => ?_
  have hmin : Nat.min n n = n := Nat.min_self n
  have hrun := copy_cells (P := P) w dT sT o.type elem g 0 n dCap ad n sCap cur t k cs hu hsz hg (by rw [hmin]; exact hn) hsrc (by omega) h1
  rw [hmin, splice_all hl] at hrun
  unfold Oper.wp
  simp [execOp, ho, resolve, invoke, builtin, hd, hs, hrun, Result.andThen]
  exact hK _ _ (h _ (show _ = _ from setRow_heap w g _ _ t _ hg) (fun i hi => setRow_other w g i _ hi) (fun B w0 hb hB => below_setRow hb hB _))
end

set_option maxRecDepth 100000 in
/-- Sixty entries made, as a step of a region that draws its order. -/
theorem step_make60 {ops : Array Oper} {o : Oper} {a : Act} {w : World} {K : Act → World → Prop} {Q : Exit → Act → World → Prop} {E : Prop} (hgd : o.guard = none) (l c : Operand) (hop : o.op = Op.makeSlice 44 l c) (hl : a.eval l = .int .i64 60) (hc : a.eval c = .int .i64 60)
    (h : ∀ w', w'.heap[w.heap.size]? = some (.cells ((List.replicate 60 En.zero).flatMap En.cells).toArray 28) → Below w.heap.size w w' → K (a.put o.dst (.slice (some ⟨w.heap.size, 0, none⟩) 60 60)) w') :
    if Region.wanted o (yielded ops a.tmps) = true then Oper.wp Tryd.prog o a w K Q else E := by
  have hw : Region.wanted o (yielded ops a.tmps) = true := by simp [Region.wanted, hgd]
  rw [if_pos hw]
  obtain ⟨i0, hi, hz0, hz1, hz2⟩ := info_parts infoE
  obtain ⟨w', hrun, hown, hgrow⟩ := run_make_full (P := Tryd.prog) w w.heap.size 44 28 i0 (ev 0 0 0 0 0) 5 Tryd.underlying44 hi hz0 hz1 .i64 .i64 60 (by rw [hz2]; omega) (by unfold maxLen; omega) (Nat.le_refl _)
  have hg' : w'.heap[w.heap.size]? = some (.cells ((List.replicate 60 En.zero).flatMap En.cells).toArray 28) := by
    rcases hown.2 with ⟨h, _⟩ | ⟨g, cap, cur, hv', _, hg, _, _, hsz, htake⟩
    · cases h
    injection hv' with ha _ hc
    injection ha with ha
    injection ha with ha _ _
    subst ha hc
    have h2 : cur.toList = (List.replicate 60 En.zero).flatMap En.cells := by
      rw [← made60]
      rw [List.take_of_length_le (by rw [Array.length_toList, hsz]; omega)] at htake
      exact htake
    rw [← h2]
    simpa using hg
  have hB : Below w.heap.size w w' := ⟨hgrow.os, hgrow.tape, hgrow.output, hgrow.size, fun k hk => hgrow.block k hk (fun h => by cases h)⟩
  have hrun' : (Instr.makeSlice 44 (.int .i64 60) (.int .i64 60)).run Tryd.prog w = .ok (.slice (some ⟨w.heap.size, 0, none⟩) 60 60) w' := hrun
  unfold Oper.wp
  simp [execOp, hop, hl, hc, hrun', Result.andThen]
  exact h _ hg' hB

/-- A unit's box, read. -/
abbrev NxS (W w : World) (b : Nat) (p : Int) (s : Value) : Prop := Below W.heap.size W w ∧ w.cell? ⟨b, 0, none⟩ = some (.int .i64 p) ∧ w.cell? ⟨b, 1, none⟩ = some s
theorem nxS_step {W w w' : World} {b : Nat} {p : Int} {s : Value} (h : NxS W w b p s) (hb : Below w.heap.size w w') : NxS W w' b p s := ⟨h.1.trans (hb.mono h.1.size), cell_later hb h.2.1, cell_later hb h.2.2⟩
theorem nxS_two {W w : World} {b : Nat} {p : Int} {s : Value} (h : NxS W w b p s) {g : Nat} (hW : W.heap.size ≤ g) (hg : b ≠ g) (u1 u2 : Value) : NxS W ((w.setCell ⟨g, 0, none⟩ u1).setCell ⟨g, 1, none⟩ u2) b p s :=
  ⟨below_two2 h.1 hW u1 u2, by rw [World.cell?_setCell_far _ _ _ _ (by exact hg.symm), World.cell?_setCell_far _ _ _ _ (by exact hg.symm)]; exact h.2.1, by rw [World.cell?_setCell_far _ _ _ _ (by exact hg.symm), World.cell?_setCell_far _ _ _ _ (by exact hg.symm)]; exact h.2.2⟩

/-- What 'after' holds, made: its box, sixty entries of nothing. -/
structure Made (X w : World) (b g : Nat) (p : Int) : Prop where
  box : w.heap[b]? = some (boxU p (.slice (some ⟨g, 0, none⟩) 60 60))
  row : w.heap[g]? = some (.cells ((List.replicate 60 En.zero).flatMap En.cells).toArray 28)
  far : b ≠ g
  base : X.heap.size ≤ b
  baseg : X.heap.size ≤ g
  below : Below X.heap.size X w

theorem made_gb {X w1 : World} {p : Int} {g : Nat} (hXg : X.heap.size ≤ g) (hB : Below X.heap.size X w1) (hg : w1.heap[g]? = some (.cells ((List.replicate 60 En.zero).flatMap En.cells).toArray 28)) :
    Made X (w1.alloc (boxU p (.slice (some ⟨g, 0, none⟩) 60 60))) w1.heap.size g p := by
  have hlt := heap_lt hg
  exact ⟨heap_new w1 _, heap_old hg _, by omega, by omega, hXg, grew hB _⟩

theorem made_bg {X X1 w1 : World} {p : Int} {b g : Nat} (hX : X1.heap[b]? = some (boxU 0 (.slice none 0 0))) (hXb : X.heap.size ≤ b) (hB : Below X.heap.size X X1) (hgs : X1.heap.size = g) (hg : w1.heap[X1.heap.size]? = some (.cells ((List.replicate 60 En.zero).flatMap En.cells).toArray 28)) (hb : Below X1.heap.size X1 w1) :
    Made X ((w1.setCell ⟨b, 0, none⟩ (.int .i64 p)).setCell ⟨b, 1, none⟩ (.slice (some ⟨g, 0, none⟩) 60 60)) b g p := by
  subst hgs
  have hlt := heap_lt hX
  refine ⟨unit_stored (heap_below hX hb hlt) _ _, ?_, by omega, hXb, by omega, below_two2 (step_below1 hB hb) hXb _ _⟩
  rw [Below.heap_setCell _ _ _ _ (by show X1.heap.size ≠ b; omega), Below.heap_setCell _ _ _ _ (by show X1.heap.size ≠ b; omega)]
  exact hg

/-- A unit's places stay where another block is written. -/
theorem unit_keepG {W : World} {g' : Nat} {u : Un} (h : UnitAt W (.slice (some ⟨g', 0, none⟩) 60 60) u) {g : Nat} (hg : g' ≠ g) (i : Nat) (x : Value) : UnitAt (W.setCell ⟨g, i, none⟩ x) (.slice (some ⟨g', 0, none⟩) 60 60) u := by
  refine ⟨?_, h.room⟩
  obtain ⟨a, c, hv, hc⟩ := h.ents
  refine ⟨a, c, hv, ?_⟩
  rcases hc with hc | ⟨b, off, ha, hE⟩
  · exact Or.inl hc
  · refine Or.inr ⟨b, off, ha, fun j e hj i' y hi => ?_⟩
    have hne : b ≠ g := by
      rw [ha] at hv
      injection hv with h1 _ _
      injection h1 with h1
      injection h1 with h1 _ _
      omega
    rw [World.cell?_setCell_far _ _ _ _ (by exact hne.symm)]
    exact hE j e hj i' y hi

theorem own_of {g q n : Nat} (h : (Value.slice (some ⟨g, 0, none⟩) 60 60).ownBlock = some q) (hn : n ≤ g) : n ≤ q := by
  obtain rfl : g = q := by simpa [Value.ownBlock] using h
  exact hn

/-- Answers a unit and what is wrong, its places in a block of the call's own. -/
abbrev AnsO (f : Nat) (args : Array Value) (w : World) (r : Un × Int) : Prop :=
  Calls Tryd.prog f args w fun e w' => ∃ v', e = .returned (.tuple #[.agg #[.int .i64 r.1.p, v'], .int .i64 r.2]) ∧ UnitAt w' v' r.1 ∧ Below w.heap.size w w' ∧ (∀ g, v'.ownBlock = some g → w.heap.size ≤ g)

set_option maxHeartbeats 4000000 in
set_option maxRecDepth 100000 in
theorem unext_badU (a : Option Addr) (n c : Nat) (p : Int) (es : List En) (r : Rc) (w : World) (h : EntSl w (.slice a n c) es) (d : Int) (hd : Un.ck ⟨p, es⟩ = d) (hz : (d != 0) = true) :
    AnsO 17 #[.agg #[.int .i64 p, .slice a n c], r.val] w (Un.zero, d) := by
  have HB0 : Aside (Below w.heap.size w (((w.alloc (boxU p (.slice a n c))).alloc (boxRc r)).alloc (boxU 0 (.slice none 0 0)))) := grew (grew (grew (Below.refl _ _) _) _) _
  have HZ0 : Aside ((((w.alloc (boxU p (.slice a n c))).alloc (boxRc r)).alloc (boxU 0 (.slice none 0 0))).heap[w.heap.size + 1 + 1]? = some (boxU 0 (.slice none 0 0))) := by
    have := heap_new ((w.alloc (boxU p (.slice a n c))).alloc (boxRc r)) (boxU 0 (.slice none 0 0))
    rwa [World.size_alloc, World.size_alloc] at this
  have hck := unitCheck_any (.slice a n c) ⟨p, es⟩ (((w.alloc (boxU p (.slice a n c))).alloc (boxRc r)).alloc (boxU 0 (.slice none 0 0))) (h.later HB0.out)
  rw [hd] at hck
  clear hd h
  go_enter Tryd.func17, Tryd.ntmps17
  go_wp2_with fail
  refine hck.mono ?_
  rintro e w1 ⟨rfl, hb1⟩
  have HZ1 : Aside (w1.heap[w.heap.size + 1 + 1]? = some (boxU 0 (.slice none 0 0))) := heap_below HZ0.out hb1 (heap_lt HZ0.out)
  have HB1 : Aside (Below w.heap.size w w1) := step_below1 HB0.out hb1
  clear hb1 HZ0 HB0 hck
  have z2 : ∀ i, w1.cell? ⟨w.heap.size + 1 + 1, i, none⟩ = #[Value.int .i64 0, .slice none 0 0][i]? := fun i => Joins.cell_of_block HZ1.out i
  have f2 : ∀ i, w1.frozen? ⟨w.heap.size + 1 + 1, i, none⟩ = false := fun i => Joins.unfrozen_of_block HZ1.out i
  go_wp2
  exact ret_unit (p := 4) (q := 5) Tryd.results17 rfl rfl rfl (unit_stored HZ1.out _ _) ⟨_, rfl, unit_nil _, below_two2 HB1.out (by omega) _ _, fun g hg => by cases hg⟩

set_option linter.unusedSimpArgs false in
set_option maxHeartbeats 8000000 in
set_option maxRecDepth 100000 in
theorem unext_good (a : Option Addr) (c : Nat) (p : Int) (es : List En) (r : Rc) (w : World) (h : EntSl w (.slice a 60 c) es) (hl : es.length = 60) (hd : Un.ck ⟨p, es⟩ = 0) :
    AnsO 17 #[.agg #[.int .i64 p, .slice a 60 c], r.val] w (unext ⟨p, es⟩ r) := by
  have HB0 : Aside (Below w.heap.size w (((w.alloc (boxU p (.slice a 60 c))).alloc (boxRc r)).alloc (boxU 0 (.slice none 0 0)))) := grew (grew (grew (Below.refl _ _) _) _) _
  have HX0 : Aside ((((w.alloc (boxU p (.slice a 60 c))).alloc (boxRc r)).alloc (boxU 0 (.slice none 0 0))).heap[w.heap.size]? = some (boxU p (.slice a 60 c))) := heap_old (heap_old (heap_new _ _) _) _
  have HY0 : Aside ((((w.alloc (boxU p (.slice a 60 c))).alloc (boxRc r)).alloc (boxU 0 (.slice none 0 0))).heap[w.heap.size + 1]? = some (boxRc r)) := by
    have := heap_new (w.alloc (boxU p (.slice a 60 c))) (boxRc r)
    rw [World.size_alloc] at this
    exact heap_old this _
  have HZ0 : Aside ((((w.alloc (boxU p (.slice a 60 c))).alloc (boxRc r)).alloc (boxU 0 (.slice none 0 0))).heap[w.heap.size + 1 + 1]? = some (boxU 0 (.slice none 0 0))) := by
    have := heap_new ((w.alloc (boxU p (.slice a 60 c))).alloc (boxRc r)) (boxU 0 (.slice none 0 0))
    rwa [World.size_alloc, World.size_alloc] at this
  have hck := unitCheck_any (.slice a 60 c) ⟨p, es⟩ (((w.alloc (boxU p (.slice a 60 c))).alloc (boxRc r)).alloc (boxU 0 (.slice none 0 0))) (h.later HB0.out)
  rw [hd] at hck
  obtain ⟨ab, off, rfl, hE0⟩ := SlOf.at (cs := En.cells) (k := 5) h (by omega)
  have H : Aside (∀ W, Below w.heap.size w W → RowAt En.cells 5 W ab off es) := fun W hb => hE0.later hb
  have HL : Aside (es.length = 60) := hl
  have HD : Aside (Un.ck ⟨p, es⟩ = 0) := hd
  obtain ⟨⟨U, d⟩, hq⟩ : ∃ q, utake ⟨p, es⟩ r = q := ⟨_, rfl⟩
  have htk := fun X W' b g (hh : UBox X W' b g ⟨p, es⟩) => utake_any X W' b g ⟨p, es⟩ r hh
  simp only [hq] at htk
  have HTK : Aside (∀ X W' b g, UBox X W' b g ⟨p, es⟩ → _) := htk
  have hcase : (d = 0 ∧ unext ⟨p, es⟩ r = (U, 0)) ∨ (d ≠ 0 ∧ unext ⟨p, es⟩ r = (Un.zero, d)) := by
    have he := utake_err ⟨p, es⟩ r hd
    rw [hq] at he
    change d = _ at he
    by_cases h0 : d = 0
    · have ho := utake_ok (r := r) hd (by rw [hq]; exact h0)
      rw [hq] at ho
      exact Or.inl ⟨h0, by rw [← ho, h0]⟩
    · have hb := unext_bad (r := r) hd (by rw [← he]; exact h0)
      exact Or.inr ⟨h0, Prod.ext hb he.symm⟩
  obtain ⟨rr, HRR⟩ : ∃ rr, Hid (unext ⟨p, es⟩ r = rr) := ⟨_, rfl⟩
  rw [HRR.out] at hcase ⊢
  have HC : Hid ((d = 0 ∧ rr = (U, 0)) ∨ (d ≠ 0 ∧ rr = (Un.zero, d))) := hcase
  obtain ⟨cs, hcs⟩ : ∃ cs, Hid (es.flatMap En.cells = cs) := ⟨_, rfl⟩
  have hone : ∀ u ∈ cs, u.oneCell' = true := by rw [← hcs.out]; exact oneE es
  have hlen : cs.length = 60 * 5 := by rw [← hcs.out, row_len En.five es, hl]
  have hlen2 : ((List.replicate 60 En.zero).flatMap En.cells).length = cs.length := by rw [hlen, row_len En.five, List.length_replicate]
  obtain ⟨ZL, HZL⟩ : ∃ ZL, Hid ((List.replicate 60 En.zero).flatMap En.cells = ZL) := ⟨_, rfl⟩
  rw [HZL.out] at hlen2
  clear hd h hl hq hE0 hcase HRR htk
  go_enter Tryd.func17, Tryd.ntmps17
  go_wp2_with fail
  refine hck.mono ?_
  rintro e w1 ⟨rfl, hb1⟩
  have HX1 : Aside (w1.heap[w.heap.size]? = some (boxU p (.slice (some ⟨ab, off, none⟩) 60 c))) := heap_below HX0.out hb1 (heap_lt HX0.out)
  have HY1 : Aside (w1.heap[w.heap.size + 1]? = some (boxRc r)) := heap_below HY0.out hb1 (heap_lt HY0.out)
  have HZ1 : Aside (w1.heap[w.heap.size + 1 + 1]? = some (boxU 0 (.slice none 0 0))) := heap_below HZ0.out hb1 (heap_lt HZ0.out)
  have HB1 : Aside (Below w.heap.size w w1) := step_below1 HB0.out hb1
  clear hb1 HX0 HY0 HZ0 HB0 hck
  have hltz := heap_lt HZ1.out
  go_upto_region 4 with fail
  refine wp_region_held_drew (S := fun w' => NxS w1 w' w.heap.size p (.slice (some ⟨ab, off, none⟩) 60 c)) (by kernel_rfl) (⟨(Below.refl _ _).drew, Joins.cell_of_block HX1.out 0, Joins.cell_of_block HX1.out 1⟩) (fun hHeld => ?_)
  refine wpAnyH_take (i := 0) (oi := ?oi0) (v := ?v0) ?hi0 ?hs0 ?hf0 ?hr0 ?hQ0 (Or.inl ⟨?hw0, ?hy0⟩) (by assumption) ?h0
  case hi0 => (simp only [List.getElem?_toArray, List.getElem?_cons_succ, List.getElem?_cons_zero]; rfl)
  case hs0 => kernel_rfl
  case hf0 => kernel_rfl
  case hr0 => kernel_rfl
  case hw0 => rfl
  case hy0 => (intro w0 hSw; (try dsimp only at hSw); go_simp; first | done | with_reducible rfl)
  case hQ0 => exact fun _ _ _ h => h
  try simp only [Act.put, List.setIfInBounds_toArray, List.set_cons_zero, List.set_cons_succ]
  refine wpAnyH_take (i := 1) (oi := ?oi1) (v := ?v1) ?hi1 ?hs1 ?hf1 ?hr1 ?hQ1 (Or.inl ⟨?hw1, ?hy1⟩) (by assumption) ?h1
  case hi1 => (simp only [List.getElem?_toArray, List.getElem?_cons_succ, List.getElem?_cons_zero]; rfl)
  case hs1 => kernel_rfl
  case hf1 => kernel_rfl
  case hr1 => kernel_rfl
  case hw1 => rfl
  case hy1 => (intro w0 hSw; (try dsimp only at hSw); go_simp; first | done | with_reducible rfl)
  case hQ1 => exact fun _ _ _ h => h
  try simp only [Act.put, List.setIfInBounds_toArray, List.set_cons_zero, List.set_cons_succ]
  refine wpAnyH_take (i := 2) (oi := ?oi2) (v := ?v2) ?hi2 ?hs2 ?hf2 ?hr2 ?hQ2 (Or.inl ⟨?hw2, ?hy2⟩) (by assumption) ?h2
  case hi2 => (simp only [List.getElem?_toArray, List.getElem?_cons_succ, List.getElem?_cons_zero]; rfl)
  case hs2 => kernel_rfl
  case hf2 => kernel_rfl
  case hr2 => kernel_rfl
  case hw2 => rfl
  case hy2 => (intro w0 hSw; (try dsimp only at hSw); go_simp; first | done | with_reducible rfl)
  case hQ2 => exact fun _ _ _ h => h
  try simp only [Act.put, List.setIfInBounds_toArray, List.set_cons_zero, List.set_cons_succ]
  refine wpAnyH_take (i := 3) (oi := ?oi3) (v := ?v3) ?hi3 ?hs3 ?hf3 ?hr3 ?hQ3 (Or.inl ⟨?hw3, ?hy3⟩) (by assumption) ?h3
  case hi3 => (simp only [List.getElem?_toArray, List.getElem?_cons_succ, List.getElem?_cons_zero]; rfl)
  case hs3 => kernel_rfl
  case hf3 => kernel_rfl
  case hr3 => kernel_rfl
  case hw3 => rfl
  case hy3 => (intro w0 hSw; (try dsimp only at hSw); go_simp; first | done | with_reducible rfl)
  case hQ3 => exact fun _ _ _ h => h
  try simp only [Act.put, List.setIfInBounds_toArray, List.set_cons_zero, List.set_cons_succ]
  refine wpAnyH_take (i := 4) (oi := ?oi4) (v := ?v4) ?hi4 ?hs4 ?hf4 ?hr4 ?hQ4 (Or.inl ⟨?hw4, ?hy4⟩) (by assumption) ?h4
  case hi4 => (simp only [List.getElem?_toArray, List.getElem?_cons_succ, List.getElem?_cons_zero]; rfl)
  case hs4 => kernel_rfl
  case hf4 => kernel_rfl
  case hr4 => kernel_rfl
  case hw4 => rfl
  case hy4 => (intro w0 hSw; (try dsimp only at hSw); go_simp; first | done | with_reducible rfl)
  case hQ4 => exact fun _ _ _ h => h
  try simp only [Act.put, List.setIfInBounds_toArray, List.set_cons_zero, List.set_cons_succ]
  refine wpAnyH_ready (rs := [5, 7]) (by kernel_rfl) (by simp) ?_
  refine AllReadyH.cons (o := ?o5p) ?hi5p ?step5p (AllReadyH.cons (o := ?o7p) ?hi7p ?step7p AllReadyH.nil)
  case hi5p => (simp only [List.getElem?_toArray, List.getElem?_cons_succ, List.getElem?_cons_zero]; rfl)
  case hi7p => (simp only [List.getElem?_toArray, List.getElem?_cons_succ, List.getElem?_cons_zero]; rfl)
  case step5p =>
    intro K hK
    refine step_make60 rfl _ _ rfl rfl rfl ?_
    intro w2 hg2 hb2
    refine hK.out _ _ (nxS_step hHeld hb2) (fun hH2 => ?_)
    clear hK K
    try simp only [Act.put, List.setIfInBounds_toArray, List.set_cons_zero, List.set_cons_succ]
    refine wpAnyH_take (i := 6) (oi := ?oi6A) (v := ?v6A) ?hi6A ?hs6A ?hf6A ?hr6A ?hQ6A (Or.inl ⟨?hw6A, ?hy6A⟩) (by assumption) ?h6A
    case hi6A => (simp only [List.getElem?_toArray, List.getElem?_cons_succ, List.getElem?_cons_zero]; rfl)
    case hs6A => kernel_rfl
    case hf6A => kernel_rfl
    case hr6A => kernel_rfl
    case hw6A => rfl
    case hy6A => (intro w0 hSw; (try dsimp only at hSw); go_simp; first | done | with_reducible rfl)
    case hQ6A => exact fun _ _ _ h => h
    try simp only [Act.put, List.setIfInBounds_toArray, List.set_cons_zero, List.set_cons_succ]
    refine wpAnyH_ready (rs := [7]) (by kernel_rfl) (by simp) ?_
    refine AllReadyH.cons (o := ?o7A) ?hi7A ?step7A AllReadyH.nil
    case hi7A => (simp only [List.getElem?_toArray, List.getElem?_cons_succ, List.getElem?_cons_zero]; rfl)
    intro K hK
    go_simp
    refine hK.out _ _ (nxS_step hH2 (grew (Below.refl _ _) _)) (fun hHeld => ?_)
    clear hK K
    try simp only [Act.put, List.setIfInBounds_toArray, List.set_cons_zero, List.set_cons_succ]
    refine wpAnyH_ready (rs := [8]) (by kernel_rfl) (by simp) ?_
    refine AllReadyH.cons (o := ?o8A) ?hi8A ?step8A AllReadyH.nil
    case hi8A => (simp only [List.getElem?_toArray, List.getElem?_cons_succ, List.getElem?_cons_zero]; rfl)
    intro K hK
    go_simp
    refine hK.out _ _ (nxS_step hH2 (grew (Below.refl _ _) _)) (fun hHeld => ?_)
    clear hK K
    try simp only [Act.put, List.setIfInBounds_toArray, List.set_cons_zero, List.set_cons_succ]
    refine wpAnyH_done (by kernel_rfl) ?_ _
    have hM := made_gb (X := w1) (p := p) (g := w1.heap.size) (Nat.le_refl _) hH2.1 hg2
    clear hHeld hH2 hg2 hb2
    generalize w2.alloc (boxU p (.slice (some ⟨w1.heap.size, 0, none⟩) 60 60)) = V at hM ⊢
    generalize w2.heap.size = b at hM ⊢
    generalize w1.heap.size = g at hM ⊢
    have HXV : Aside (V.heap[w.heap.size]? = some (boxU p (.slice (some ⟨ab, off, none⟩) 60 c))) := heap_below HX1.out hM.below (heap_lt HX1.out)
    have HBV : Aside (Below w.heap.size w V) := HB1.out.trans (hM.below.mono HB1.out.size)
    have HM : Aside (Made w1 V b g p) := hM
    have hrow := HM.out.row
    rw [HZL.out] at hrow
    have hsrc : ∀ j v, cs[j]? = some v → V.cell? ((⟨ab, off, none⟩ : Addr).add j) = some v := fun j v hj => by
      rw [Lib.add_plain]
      rw [← hcs.out] at hj
      exact rows_flat En.five es off (H.out V HBV.out) j v hj
    have c5 : ∀ i, V.cell? ⟨b, i, none⟩ = #[Value.int .i64 p, .slice (some ⟨g, 0, none⟩) 60 60][i]? := fun i => Joins.cell_of_block HM.out.box i
    have c0 : ∀ i, V.cell? ⟨w.heap.size, i, none⟩ = #[Value.int .i64 p, (.slice (some ⟨ab, off, none⟩) 60 c)][i]? := fun i => Joins.cell_of_block HXV.out i
    clear hM
    go_wp2_with ((with_reducible show wpList _ _ _ (Oper.mk (some 26) _ _ _ _ _ :: _) _ _); refine wpList_copyO rfl _ _ 44 44 rfl 28 5 Tryd.underlying44 sizeE ⟨ab, off, none⟩ 60 60 c g rfl rfl ZL 28 hrow cs hlen hlen2 hsrc hone ?_)
    intro w5 hg5 ho5 hB5
    have HB5 := hB5 _ _ HM.out.below HM.out.baseg
    have HU : Aside (UBox w1 w5 b g ⟨p, es⟩) := ⟨(ho5.out b HM.out.far).trans HM.out.box, by rw [List.append_nil, hcs.out]; exact hg5.out, HL.out, HM.out.far, HM.out.base, HM.out.baseg, HB5⟩
    have HY5 : Aside (w5.heap[w.heap.size + 1]? = some (boxRc r)) := heap_below HY1.out HB5 (heap_lt HY1.out)
    have z1 : ∀ i, w5.cell? ⟨w.heap.size + 1, i, none⟩ = #[Value.int .i64 r.k, .int .i64 r.a, .int .i64 r.p, .int .i64 r.e.k, .int .i64 r.e.j, .int .i64 r.e.v, .int .i64 r.e.t, .int .i64 r.e.c][i]? := fun i => Joins.cell_of_block HY5.out i
    have hcall := HTK.out _ _ _ _ HU.out
    clear hsrc c5 c0 hrow hg5 ho5 hB5 HB5 HBV HXV HM HX1 HY1 hone hlen hlen2
    go_wp2_with fail
    refine hcall.mono ?_
    rintro e w6 ⟨rfl, hU6⟩
    have HU6 : Aside (UBox w1 w6 b g U) := hU6
    have HZ6 : Aside (w6.heap[w.heap.size + 1 + 1]? = some (boxU 0 (.slice none 0 0))) := heap_below HZ1.out hU6.below (heap_lt HZ1.out)
    have HB6 : Aside (Below w.heap.size w w6) := HB1.out.trans (hU6.below.mono HB1.out.size)
    have z2 : ∀ i, w6.cell? ⟨w.heap.size + 1 + 1, i, none⟩ = #[Value.int .i64 0, .slice none 0 0][i]? := fun i => Joins.cell_of_block HZ6.out i
    have f2 : ∀ i, w6.frozen? ⟨w.heap.size + 1 + 1, i, none⟩ = false := fun i => Joins.unfrozen_of_block HZ6.out i
    have z5 : ∀ i, w6.cell? ⟨b, i, none⟩ = #[Value.int .i64 U.p, .slice (some ⟨g, 0, none⟩) 60 60][i]? := fun i => Joins.cell_of_block HU6.out.box i
    clear hU6 hcall HU HY5 z1 HTK
    rcases HC.out with ⟨h0, h1⟩ | ⟨h0, h1⟩
    · have hzb : (d != 0) = false := by rw [h0]; rfl
      clear HC h0
      subst h1
      go_wp2
      have hlt6 := heap_lt HZ1.out
      have hgb := HU6.out.baseg
      have hne : g ≠ w.heap.size + 1 + 1 := by omega
      have hkeep := unit_keepG (unit_keepG HU6.out.unit (g := w.heap.size + 1 + 1) hne 0 (.int .i64 U.p)) (g := w.heap.size + 1 + 1) hne 1 (.slice (some ⟨g, 0, none⟩) 60 60)
      exact ret_unit (p := 4) (q := 5) Tryd.results17 rfl rfl rfl (unit_stored HZ6.out _ _) ⟨_, rfl, hkeep, below_two2 HB6.out (by omega) _ _, fun q hq => own_of hq (by omega)⟩
    · have hzb : (d != 0) = true := by rw [bne_iff_ne]; exact h0
      clear HC h0
      subst h1
      clear z5
      go_wp2
      exact ret_unit (p := 4) (q := 5) Tryd.results17 rfl rfl rfl (unit_stored HZ6.out _ _) ⟨_, rfl, unit_nil _, below_two2 HB6.out (by omega) _ _, fun q hq => by cases hq⟩
  case step7p =>
    intro K hK
    go_simp
    refine hK.out _ _ (nxS_step hHeld (grew (Below.refl _ _) _)) (fun hHeld => ?_)
    clear hK K
    try simp only [Act.put, List.setIfInBounds_toArray, List.set_cons_zero, List.set_cons_succ]
    refine wpAnyH_ready (rs := [5]) (by kernel_rfl) (by simp) ?_
    refine AllReadyH.cons (o := ?o5B) ?hi5B ?step5B AllReadyH.nil
    case hi5B => (simp only [List.getElem?_toArray, List.getElem?_cons_succ, List.getElem?_cons_zero]; rfl)
    intro K hK
    refine step_make60 rfl _ _ rfl rfl rfl ?_
    intro w2 hg2 hb2
    refine hK.out _ _ (nxS_step hHeld hb2) (fun hH2 => ?_)
    clear hK K
    try simp only [Act.put, List.setIfInBounds_toArray, List.set_cons_zero, List.set_cons_succ]
    refine wpAnyH_take (i := 6) (oi := ?oi6B) (v := ?v6B) ?hi6B ?hs6B ?hf6B ?hr6B ?hQ6B (Or.inl ⟨?hw6B, ?hy6B⟩) (by assumption) ?h6B
    case hi6B => (simp only [List.getElem?_toArray, List.getElem?_cons_succ, List.getElem?_cons_zero]; rfl)
    case hs6B => kernel_rfl
    case hf6B => kernel_rfl
    case hr6B => kernel_rfl
    case hw6B => rfl
    case hy6B => (intro w0 hSw; (try dsimp only at hSw); go_simp; first | done | with_reducible rfl)
    case hQ6B => exact fun _ _ _ h => h
    try simp only [Act.put, List.setIfInBounds_toArray, List.set_cons_zero, List.set_cons_succ]
    have hx1 : (w1.alloc (boxU 0 (.slice none 0 0))).drew.heap[w1.heap.size]? = some (boxU 0 (.slice none 0 0)) := heap_new w1 _
    have hs1 : (w1.alloc (boxU 0 (.slice none 0 0))).drew.heap.size = w1.heap.size + 1 := World.size_alloc _ _
    have hM := made_bg (X := w1) (p := p) hx1 (Nat.le_refl _) (grew (Below.refl _ _) _).drew hs1 hg2 hb2
    have hx2 := heap_below hx1 hb2 (heap_lt hx1)
    have c7 := fun i => Joins.cell_of_block hx2 i
    have f7 := fun i => Joins.unfrozen_of_block hx2 i
    refine wpAnyH_ready (rs := [8]) (by kernel_rfl) (by simp) ?_
    refine AllReadyH.cons (o := ?o8B) ?hi8B ?step8B AllReadyH.nil
    case hi8B => (simp only [List.getElem?_toArray, List.getElem?_cons_succ, List.getElem?_cons_zero]; rfl)
    intro K hK
    go_simp
    refine hK.out _ _ (nxS_two hH2 (Nat.le_refl _) (by omega) _ _) (fun hHeld => ?_)
    clear hK K
    try simp only [Act.put, List.setIfInBounds_toArray, List.set_cons_zero, List.set_cons_succ]
    refine wpAnyH_done (by kernel_rfl) ?_ _
    clear hHeld hH2 hg2 hb2 hx1 hs1 hx2 c7 f7
    generalize (w2.setCell ⟨w1.heap.size, 0, none⟩ (.int .i64 p)).setCell ⟨w1.heap.size, 1, none⟩ (.slice (some ⟨w1.heap.size + 1, 0, none⟩) 60 60) = V at hM ⊢
    generalize w1.heap.size + 1 = g at hM ⊢
    generalize w1.heap.size = b at hM ⊢
    have HXV : Aside (V.heap[w.heap.size]? = some (boxU p (.slice (some ⟨ab, off, none⟩) 60 c))) := heap_below HX1.out hM.below (heap_lt HX1.out)
    have HBV : Aside (Below w.heap.size w V) := HB1.out.trans (hM.below.mono HB1.out.size)
    have HM : Aside (Made w1 V b g p) := hM
    have hrow := HM.out.row
    rw [HZL.out] at hrow
    have hsrc : ∀ j v, cs[j]? = some v → V.cell? ((⟨ab, off, none⟩ : Addr).add j) = some v := fun j v hj => by
      rw [Lib.add_plain]
      rw [← hcs.out] at hj
      exact rows_flat En.five es off (H.out V HBV.out) j v hj
    have c5 : ∀ i, V.cell? ⟨b, i, none⟩ = #[Value.int .i64 p, .slice (some ⟨g, 0, none⟩) 60 60][i]? := fun i => Joins.cell_of_block HM.out.box i
    have c0 : ∀ i, V.cell? ⟨w.heap.size, i, none⟩ = #[Value.int .i64 p, (.slice (some ⟨ab, off, none⟩) 60 c)][i]? := fun i => Joins.cell_of_block HXV.out i
    clear hM
    go_wp2_with ((with_reducible show wpList _ _ _ (Oper.mk (some 26) _ _ _ _ _ :: _) _ _); refine wpList_copyO rfl _ _ 44 44 rfl 28 5 Tryd.underlying44 sizeE ⟨ab, off, none⟩ 60 60 c g rfl rfl ZL 28 hrow cs hlen hlen2 hsrc hone ?_)
    intro w5 hg5 ho5 hB5
    have HB5 := hB5 _ _ HM.out.below HM.out.baseg
    have HU : Aside (UBox w1 w5 b g ⟨p, es⟩) := ⟨(ho5.out b HM.out.far).trans HM.out.box, by rw [List.append_nil, hcs.out]; exact hg5.out, HL.out, HM.out.far, HM.out.base, HM.out.baseg, HB5⟩
    have HY5 : Aside (w5.heap[w.heap.size + 1]? = some (boxRc r)) := heap_below HY1.out HB5 (heap_lt HY1.out)
    have z1 : ∀ i, w5.cell? ⟨w.heap.size + 1, i, none⟩ = #[Value.int .i64 r.k, .int .i64 r.a, .int .i64 r.p, .int .i64 r.e.k, .int .i64 r.e.j, .int .i64 r.e.v, .int .i64 r.e.t, .int .i64 r.e.c][i]? := fun i => Joins.cell_of_block HY5.out i
    have hcall := HTK.out _ _ _ _ HU.out
    clear hsrc c5 c0 hrow hg5 ho5 hB5 HB5 HBV HXV HM HX1 HY1 hone hlen hlen2
    go_wp2_with fail
    refine hcall.mono ?_
    rintro e w6 ⟨rfl, hU6⟩
    have HU6 : Aside (UBox w1 w6 b g U) := hU6
    have HZ6 : Aside (w6.heap[w.heap.size + 1 + 1]? = some (boxU 0 (.slice none 0 0))) := heap_below HZ1.out hU6.below (heap_lt HZ1.out)
    have HB6 : Aside (Below w.heap.size w w6) := HB1.out.trans (hU6.below.mono HB1.out.size)
    have z2 : ∀ i, w6.cell? ⟨w.heap.size + 1 + 1, i, none⟩ = #[Value.int .i64 0, .slice none 0 0][i]? := fun i => Joins.cell_of_block HZ6.out i
    have f2 : ∀ i, w6.frozen? ⟨w.heap.size + 1 + 1, i, none⟩ = false := fun i => Joins.unfrozen_of_block HZ6.out i
    have z5 : ∀ i, w6.cell? ⟨b, i, none⟩ = #[Value.int .i64 U.p, .slice (some ⟨g, 0, none⟩) 60 60][i]? := fun i => Joins.cell_of_block HU6.out.box i
    clear hU6 hcall HU HY5 z1 HTK
    rcases HC.out with ⟨h0, h1⟩ | ⟨h0, h1⟩
    · have hzb : (d != 0) = false := by rw [h0]; rfl
      clear HC h0
      subst h1
      go_wp2
      have hlt6 := heap_lt HZ1.out
      have hgb := HU6.out.baseg
      have hne : g ≠ w.heap.size + 1 + 1 := by omega
      have hkeep := unit_keepG (unit_keepG HU6.out.unit (g := w.heap.size + 1 + 1) hne 0 (.int .i64 U.p)) (g := w.heap.size + 1 + 1) hne 1 (.slice (some ⟨g, 0, none⟩) 60 60)
      exact ret_unit (p := 4) (q := 5) Tryd.results17 rfl rfl rfl (unit_stored HZ6.out _ _) ⟨_, rfl, hkeep, below_two2 HB6.out (by omega) _ _, fun q hq => own_of hq (by omega)⟩
    · have hzb : (d != 0) = true := by rw [bne_iff_ne]; exact h0
      clear HC h0
      subst h1
      clear z5
      go_wp2
      exact ret_unit (p := 4) (q := 5) Tryd.results17 rfl rfl rfl (unit_stored HZ6.out _ _) ⟨_, rfl, unit_nil _, below_two2 HB6.out (by omega) _ _, fun q hq => by cases hq⟩

theorem unitNext_any (v : Value) (u : Un) (r : Rc) (w : World) (h : UnitAt w v u) : AnsO 17 #[.agg #[.int .i64 u.p, v], r.val] w (unext u r) := by
  obtain ⟨p, es⟩ := u
  obtain ⟨hE, hR⟩ := h
  obtain ⟨a, n, c, rfl, hnc⟩ := hR
  have hE' : EntSl w (.slice a n c) es := hE
  have hln := SlOf.len (cs := En.cells) (k := 5) hE'
  show AnsO 17 #[.agg #[.int .i64 p, .slice a n c], r.val] w (unext ⟨p, es⟩ r)
  by_cases h1 : Un.ck ⟨p, es⟩ = 0
  · have hl := (Un.ck_zero.1 h1).2.1
    change es.length = 60 at hl
    obtain rfl : n = 60 := by omega
    exact unext_good a c p es r w hE' hl h1
  · rw [unext, if_pos h1]
    exact unext_badU a n c p es r w hE' (Un.ck ⟨p, es⟩) rfl (by rw [bne_iff_ne]; exact h1)

/-- Where Replay's round stands. -/
def RpAt (X wr : World) (b g : Nat) (rs : List Rc) (k : Nat) : Prop :=
  ∃ u, UBox X wr b g u ∧ u.ck = 0 ∧ Hid (ufold unew rs = ufold u (rs.drop k))

set_option maxHeartbeats 4000000 in
set_option maxRecDepth 100000 in
theorem unitReplay_few (a : Option Addr) (n c : Nat) (rs : List Rc) (w : World) (h : RecSl w (.slice a n c) rs) (hn : (n : Int) ≤ 160) :
    AnsO 19 #[.slice a n c] w (ufold unew rs) := by
  have H : Aside (RecSl w (.slice a n c) rs) := h
  have HL : Aside (rs.length = n) := h.len
  have HB0 : Aside (Below w.heap.size w (w.alloc (boxU 0 (.slice none 0 0)))) := grew (Below.refl _ _) _
  have HX0 : Aside ((w.alloc (boxU 0 (.slice none 0 0))).heap[w.heap.size]? = some (boxU 0 (.slice none 0 0))) := heap_new _ _
  clear h
  go_enter Tryd.func19, Tryd.ntmps19
  go_upto_region 3 with fail
  generalize w.alloc (boxU 0 (.slice none 0 0)) = X at *
  go_wp2_with fail
  refine (unitNew_own _).mono ?_
  rintro e w1 ⟨g, rfl, hgX, hg, hb1⟩
  have hgl := heap_lt hg
  have HS : Aside (RpAt X (w1.alloc (boxU 1 (.slice (some ⟨g, 0, none⟩) 60 60))) w1.heap.size g rs 0) := ⟨unew, ⟨heap_new _ _, heap_old hg _, List.length_replicate .., by omega, hb1.size, hgX, grew hb1 _⟩, unew_ck, rfl⟩
  clear hb1 hg hgl hgX
  go_wp2
  generalize w1.heap.size = b at *
  go_loopw [15] (fun i wr => ∃ k : Nat, k ≤ n ∧ i = .int .i64 k ∧ RpAt X wr b g rs k) (fun i _ => n - (intOf i).toNat)
  case atStart => exact ⟨0, Nat.zero_le _, rfl, HS.out⟩
  case round =>
    clear HS
    obtain ⟨k, hk, rfl, u, hU, hck, hst⟩ := hrel
    have HU : Aside (UBox X wr b g u) := hU
    have HB : Aside (Below w.heap.size w wr) := HB0.out.trans (hU.below.mono HB0.out.size)
    have HR : Aside (wr.heap[w.heap.size]? = some (boxU 0 (.slice none 0 0))) := heap_below HX0.out hU.below (heap_lt HX0.out)
    clear hU
    by_cases hlt : k < n
    · obtain ⟨x, hx⟩ : ∃ x, rs[k]? = some x := ⟨rs[k]'(by have := HL.out; omega), List.getElem?_eq_getElem _⟩
      obtain ⟨bb, off, rfl, hE0⟩ := H.out.at (by omega)
      have hE := hE0.later HB.out
      have q0 : wr.cell? ⟨bb, off + k * 8, none⟩ = some (.int .i64 x.k) := hE k x hx 0 _ rfl
      have q1 : wr.cell? ⟨bb, off + k * 8 + 1, none⟩ = some (.int .i64 x.a) := hE k x hx 1 _ rfl
      have q2 : wr.cell? ⟨bb, off + k * 8 + 2, none⟩ = some (.int .i64 x.p) := hE k x hx 2 _ rfl
      have q3 : wr.cell? ⟨bb, off + k * 8 + 3, none⟩ = some (.int .i64 x.e.k) := hE k x hx 3 _ rfl
      have q4 : wr.cell? ⟨bb, off + k * 8 + 4, none⟩ = some (.int .i64 x.e.j) := hE k x hx 4 _ rfl
      have q5 : wr.cell? ⟨bb, off + k * 8 + 5, none⟩ = some (.int .i64 x.e.v) := hE k x hx 5 _ rfl
      have q6 : wr.cell? ⟨bb, off + k * 8 + 6, none⟩ = some (.int .i64 x.e.t) := hE k x hx 6 _ rfl
      have q7 : wr.cell? ⟨bb, off + k * 8 + 7, none⟩ = some (.int .i64 x.e.c) := hE k x hx 7 _ rfl
      have hd : Hid (ufold unew rs = if (unext u x).2 ≠ 0 then (Un.zero, (unext u x).2) else ufold (unext u x).1 (rs.drop (k + 1))) := by
        rw [Hid, hst.out, drop_rc hx, ufold]
      have hnx := utake_any X (wr.alloc (boxRc x)) b g u x (HU.out.later (grew (Below.refl _ _) _))
      obtain ⟨⟨u2, f⟩, hun⟩ : ∃ q, utake u x = q := ⟨_, rfl⟩
      have hcase : (f = 0 ∧ u2.ck = 0 ∧ ufold unew rs = ufold u2 (rs.drop (k + 1))) ∨ (f ≠ 0 ∧ ufold unew rs = (Un.zero, f)) := by
        have he := utake_err u x hck
        rw [hun] at he
        change f = _ at he
        by_cases h0 : f = 0
        · have ho := utake_ok (r := x) hck (by rw [hun]; exact h0)
          rw [hun] at ho
          have h2 : (unext u x).2 = 0 := by rw [← he]; exact h0
          have h3 := unext_ck h2
          rw [← ho] at h3
          refine Or.inl ⟨h0, h3, ?_⟩
          rw [hd.out, if_neg (by simpa using h2), ← ho]
        · refine Or.inr ⟨h0, ?_⟩
          rw [hd.out, ← he, if_pos h0]
      rw [hun] at hnx
      change Calls _ _ _ _ fun e w' => e = .returned (.int .i64 f) ∧ UBox X w' b g u2 at hnx
      have HC : Hid _ := hcase
      clear hE hE0 hst hx hck hd hun hcase HU HB HR
      go_wp2_with fail
      refine hnx.mono ?_
      rintro e w2 ⟨rfl, hU2⟩
      have HU2 : Aside (UBox X w2 b g u2) := hU2
      have HB2 : Aside (Below w.heap.size w w2) := HB0.out.trans (hU2.below.mono HB0.out.size)
      have HR2 : Aside (w2.heap[w.heap.size]? = some (boxU 0 (.slice none 0 0))) := heap_below HX0.out hU2.below (heap_lt HX0.out)
      have z1 : ∀ i, w2.cell? ⟨w.heap.size, i, none⟩ = #[Value.int .i64 0, .slice none 0 0][i]? := fun i => Joins.cell_of_block HR2.out i
      have f1 : ∀ i, w2.frozen? ⟨w.heap.size, i, none⟩ = false := fun i => Joins.unfrozen_of_block HR2.out i
      clear hU2 hnx q0 q1 q2 q3 q4 q5 q6 q7
      rcases HC.out with ⟨h0, h1, h2⟩ | ⟨h0, h1⟩
      · have hfb : (f != 0) = false := by rw [h0]; rfl
        have HE : Aside (RpAt X w2 b g rs (k + 1)) := ⟨u2, HU2.out, h1, h2⟩
        clear HC h0 h1 h2 z1 f1
        go_wp2
        go_roundw
        case rel => exact ⟨k + 1, by omega, by go_num, HE.out⟩
        case measure => simp [intOf]; omega
      · have hfb : (f != 0) = true := by rw [bne_iff_ne]; exact h0
        have HN : Hid (ufold unew rs = (Un.zero, f)) := h1
        clear HC h0 h1
        go_wp2
        exact ret_unit (p := 2) (q := 3) Tryd.results19 rfl rfl rfl (unit_stored HR2.out _ _) ⟨.slice none 0 0, by rw [HN.out]; rfl, by rw [HN.out]; exact unit_nil _, below_two2 HB2.out (Nat.le_refl _) _ _, fun q hq => by cases hq⟩
    · obtain rfl : k = n := by omega
      have HN : Hid (ufold unew rs = (u, 0)) := by
        rw [Hid, hst.out, List.drop_eq_nil_of_le (by have := HL.out; omega)]; rfl
      have z0 : ∀ i, wr.cell? ⟨b, i, none⟩ = #[Value.int .i64 u.p, .slice (some ⟨g, 0, none⟩) 60 60][i]? := fun i => Joins.cell_of_block HU.out.box i
      have z1 : ∀ i, wr.cell? ⟨w.heap.size, i, none⟩ = #[Value.int .i64 0, .slice none 0 0][i]? := fun i => Joins.cell_of_block HR.out i
      have f1 : ∀ i, wr.frozen? ⟨w.heap.size, i, none⟩ = false := fun i => Joins.unfrozen_of_block HR.out i
      clear hst hck
      go_wp2
      have hlt0 := heap_lt HX0.out
      have hgb := HU.out.baseg
      have hne : g ≠ w.heap.size := by omega
      have hkeep := unit_keepG (unit_keepG HU.out.unit (g := w.heap.size) hne 0 (.int .i64 u.p)) (g := w.heap.size) hne 1 (.slice (some ⟨g, 0, none⟩) 60 60)
      exact ret_unit (p := 2) (q := 3) Tryd.results19 rfl rfl rfl (unit_stored HR.out _ _) ⟨.slice (some ⟨g, 0, none⟩) 60 60, by rw [HN.out]; rfl, by rw [HN.out]; exact hkeep, below_two2 HB.out (Nat.le_refl _) _ _, fun q hq => own_of hq (by omega)⟩

theorem unitReplay_many (a : Option Addr) (n c : Nat) (w : World) (hn : 160 < (n : Int)) :
    AnsO 19 #[.slice a n c] w (Un.zero, 2) := by
  go_enter Tryd.func19, Tryd.ntmps19
  go_wp2
  exact ret_unit (p := 2) (q := 3) Tryd.results19 rfl rfl rfl (heap_new _ _) ⟨_, rfl, unit_nil _, grew (Below.refl _ _) _, fun q hq => by cases hq⟩

/-- Package unit's Replay. -/
theorem unitReplay_any (v : Value) (rs : List Rc) (w : World) (h : RecSl w v rs) : AnsO 19 #[v] w (unitOf rs) := by
  have h' := h
  obtain ⟨a, c, rfl, _⟩ := h
  by_cases hn : 160 < rs.length
  · rw [unitOf, if_pos hn]
    exact unitReplay_many a _ c w (by omega)
  · rw [unitOf, if_neg hn]
    exact unitReplay_few a _ c rs w h' (by omega)

end Go.Proofs.YtnmapehbcccbhadDoor
