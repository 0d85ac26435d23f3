/- Package unit's blank, New, Tail, Same. -/
import Derived.Test.YtaialgacaomaeadUnitF
import Derived.Test.YtaialgacaomaeadUnitZt
import Derived.Test.YtaialgacaomaeadNoteZk
namespace Go.Proofs.Ytaialgacaomaead
open Go.RowKit

theorem ublank_any (w : World) :
    Calls Try.prog 33 #[] w fun e w' => e = .returned (ev 4 0 0 0 0) ∧ Below w.heap.size w w' := by
  go_enter Try.func33, Try.ntmps33
  go_wp2
  exact bodyPost_ret (v := ev 4 0 0 0 0) (by simp [results, Try.results33, go_sem]) rfl ⟨rfl, grew (Below.refl _ _) _⟩

/-- A block of sixty entries of which the first so many are blank. -/
def NewAt (W : World) (g n : Nat) : Prop := ∃ es : List En, es.length = 60 ∧ (∀ j, j < n → es[j]? = some blankE) ∧ W.heap[g]? = some (.cells (es.flatMap En.cells ++ []).toArray 26)

theorem newAt_all {W : World} {g : Nat} (h : NewAt W g 60) : W.heap[g]? = some (.cells ((List.replicate 60 blankE).flatMap En.cells).toArray 26) := by
  obtain ⟨es, hl, he, hW⟩ := h
  have e : es = List.replicate 60 blankE := by
    apply List.ext_getElem?
    intro j
    by_cases hj : j < 60
    · rw [he j hj, List.getElem?_replicate, if_pos hj]
    · rw [List.getElem?_eq_none (by omega), List.getElem?_eq_none (by rw [List.length_replicate]; omega)]
  rw [hW, e, List.append_nil]

theorem newAt_step {W : World} {g n : Nat} (h : NewAt W g n) (hn : n < 60) : NewAt (((((W.setCell ⟨g, n * 5, none⟩ (.int .i64 4)).setCell ⟨g, n * 5 + 1, none⟩ (.int .i64 0)).setCell ⟨g, n * 5 + 2, none⟩ (.int .i64 0)).setCell ⟨g, n * 5 + 3, none⟩ (.int .i64 0)).setCell ⟨g, n * 5 + 4, none⟩ (.int .i64 0)) g (n + 1) := by
  obtain ⟨es, hl, he, hW⟩ := h
  refine ⟨es.set n blankE, by rw [List.length_set]; exact hl, fun j hj => ?_, stored_five hW (by omega) blankE⟩
  by_cases hjn : n = j
  · subst hjn
    exact List.getElem?_set_self (by omega)
  · rw [List.getElem?_set_ne hjn]
    exact he j (by omega)

theorem newAt_later {W W' : World} {g n : Nat} (h : NewAt W g n) (hb : Below W.heap.size W W') : NewAt W' g n := by
  obtain ⟨es, hl, he, hW⟩ := h
  exact ⟨es, hl, he, heap_below hW hb (heap_lt hW)⟩

/-- What lies at a place of the block. -/
theorem newAt_cells {W : World} {g n : Nat} (h : NewAt W g n) {k o : Nat} (hk : k < 60) (ho : o < 5) : ∃ v, W.cell? ⟨g, k * 5 + o, none⟩ = some v := by
  obtain ⟨es, hl, _, hW⟩ := h
  rw [Joins.cell_of_block hW]
  have hll : k * 5 + o < (es.flatMap En.cells ++ []).length := by rw [List.append_nil, row_len En.five, hl]; omega
  exact ⟨_, by rw [List.getElem?_toArray]; exact List.getElem?_eq_getElem hll⟩

theorem newAt_thaw {W : World} {g n : Nat} (h : NewAt W g n) (i : Nat) : W.frozen? ⟨g, i, none⟩ = false := by
  obtain ⟨es, _, _, hW⟩ := h
  exact Joins.unfrozen_of_block hW i

theorem made60 : (madeCells (ev 0 0 0 0 0).cells (60 * 5)).toList = (List.replicate 60 En.zero).flatMap En.cells := by kernel_rfl

set_option maxHeartbeats 4000000 in
set_option maxRecDepth 100000 in
theorem unitNew_own (w : World) :
    Calls Try.prog 16 #[] w fun e w' => ∃ g, e = .returned (.agg #[.int .i64 1, .slice (some ⟨g, 0, none⟩) 60 60]) ∧ w.heap.size ≤ g ∧ w'.heap[g]? = some (.cells (unew.cells.flatMap En.cells ++ []).toArray 26) ∧ Below w.heap.size w w' := by
  obtain ⟨i0, hi, hz0, hz1, hz2⟩ := info_parts infoE
  have HX0 : Aside ((w.alloc (boxU 0 (.slice none 0 0))).heap[w.heap.size]? = some (boxU 0 (.slice none 0 0))) := heap_new _ _
  have HB0 : Aside (Below w.heap.size w (w.alloc (boxU 0 (.slice none 0 0)))) := grew (Below.refl _ _) _
  go_enter Try.func16, Try.ntmps16
  go_upto_region 1 with fail
  generalize w.alloc (boxU 0 (.slice none 0 0)) = W0 at *
  go_wp2_with (at_make; refine wpList_make_full _ rfl _ _ 22 rfl W0.heap.size 26 i0 (ev 0 0 0 0 0) 5 Try.underlying22 hi hz0 hz1 _ _ _ _ 60 rfl rfl rfl rfl (by rw [hz2]; omega) (by unfold maxLen; omega) (Nat.le_refl _) ?_)
  intro w1 hown hgrow
  obtain ⟨hl0, ho⟩ := hown
  rcases ho with ⟨h, _⟩ | ⟨g, cap, cur, hv', _, hg, _, _, hsz, htake⟩
  · cases h
  injection hv' with ha _ hc
  injection ha with ha
  injection ha with ha _ _
  subst ha hc
  have hB1 : Below W0.heap.size W0 w1 := ⟨hgrow.os, hgrow.tape, hgrow.output, hgrow.size, fun k hk => hgrow.block k hk (fun h => by cases h)⟩
  have hN1 : NewAt w1 W0.heap.size 0 := by
    refine ⟨List.replicate 60 En.zero, List.length_replicate .., fun j hj => absurd hj (Nat.not_lt_zero j), ?_⟩
    have h2 : cur.toList = (List.replicate 60 En.zero).flatMap En.cells := by
      rw [← made60]
      rw [List.take_of_length_le (by rw [Array.length_toList, hsz]; omega)] at htake
      exact htake
    rw [List.append_nil, ← h2]
    simpa using hg
  have hX1 := heap_below HX0.out hB1 (heap_lt HX0.out)
  have hlt := heap_lt HX0.out
  have HB1 : Below w.heap.size w w1 := HB0.out.trans (hB1.mono HB0.out.size)
  have hgw : w.heap.size ≠ W0.heap.size := by omega
  have HLE : Hid (w.heap.size ≤ W0.heap.size) := by show _ ≤ _; omega
  clear hi hz0 hz1 hz2 hl0 htake hgrow hg hsz hB1 HX0 HB0 hlt
  generalize W0.heap.size = g at *
  go_wp2
  go_loopw [6] (fun s wr => ∃ n : Nat, n ≤ 60 ∧ s = .int .i64 n ∧ NewAt wr g n ∧ wr.heap[w.heap.size]? = some (boxU 0 (.slice none 0 0)) ∧ Below w.heap.size w wr) (fun s _ => 60 - (intOf s).toNat)
  case atStart => exact ⟨0, by omega, rfl, hN1, hX1, HB1⟩
  case round =>
    clear hN1 hX1 HB1
    obtain ⟨n, h60, rfl, hN, hX, hB⟩ := hrel
    have HN : Aside (NewAt wr g n) := hN
    have HX : Aside (wr.heap[w.heap.size]? = some (boxU 0 (.slice none 0 0))) := hX
    have HB : Aside (Below w.heap.size w wr) := hB
    clear hN hX hB
    by_cases hlt : n < 60
    · have hni : (n : Int) < 60 := by omega
      go_wp2_with fail
      refine (ublank_any _).mono ?_
      rintro e w2 ⟨rfl, hb2⟩
      have hN2 := newAt_later HN.out hb2
      have HX2 : Aside (w2.heap[w.heap.size]? = some (boxU 0 (.slice none 0 0))) := heap_below HX.out hb2 (heap_lt HX.out)
      have HB2 : Aside (Below w.heap.size w w2) := step_below1 HB.out hb2
      obtain ⟨q0, g0⟩ := newAt_cells hN2 hlt (o := 0) (by omega)
      obtain ⟨q1, g1⟩ := newAt_cells hN2 hlt (o := 1) (by omega)
      obtain ⟨q2, g2⟩ := newAt_cells hN2 hlt (o := 2) (by omega)
      obtain ⟨q3, g3⟩ := newAt_cells hN2 hlt (o := 3) (by omega)
      obtain ⟨q4, g4⟩ := newAt_cells hN2 hlt (o := 4) (by omega)
      rw [Nat.add_zero] at g0
      have fg := fun i => newAt_thaw hN2 i
      have HN2 : Aside _ := newAt_step hN2 hlt
      have HX3 : Aside _ := (other_fiveE (W := w2) hgw (n * 5) (.int .i64 4) (.int .i64 0) (.int .i64 0) (.int .i64 0) (.int .i64 0)).trans HX2.out
      have HB3 : Aside _ := below_fiveE HB2.out HLE.out (n * 5) (.int .i64 4) (.int .i64 0) (.int .i64 0) (.int .i64 0) (.int .i64 0)
      clear hb2 hN2 HN HX HB
      go_wp2
      go_roundw
      case rel => exact ⟨n + 1, by omega, by go_num, HN2.out, HX3.out, HB3.out⟩
      case measure => simp [intOf]; omega
    · obtain rfl : n = 60 := by omega
      have hG := newAt_all HN.out
      have z0 : ∀ i, wr.cell? ⟨w.heap.size, i, none⟩ = #[Value.int .i64 0, .slice none 0 0][i]? := fun i => Joins.cell_of_block HX.out i
      have f0 : ∀ i, wr.frozen? ⟨w.heap.size, i, none⟩ = false := fun i => Joins.unfrozen_of_block HX.out i
      have HG : Aside _ := hG
      clear hG HN
      go_wp2
      have hX := unit_stored HX.out 1 (.slice (some ⟨g, 0, none⟩) 60 60)
      have hBB := below_two2 HB.out (Nat.le_refl _) (.int .i64 1) (.slice (some ⟨g, 0, none⟩) 60 60)
      have hGG : ((wr.setCell ⟨w.heap.size, 0, none⟩ (.int .i64 1)).setCell ⟨w.heap.size, 1, none⟩ (.slice (some ⟨g, 0, none⟩) 60 60)).heap[g]? = some (.cells ((List.replicate 60 blankE).flatMap En.cells).toArray 26) := by
        rw [Below.heap_setCell _ _ _ _ (by exact hgw.symm), Below.heap_setCell _ _ _ _ (by exact hgw.symm)]
        exact HG.out
      have c0 := fun i => Joins.cell_of_block hX i
      refine bodyPost_ret (v := .agg #[.int .i64 1, .slice (some ⟨g, 0, none⟩) 60 60]) (by simp [results, Try.results16, go_sem, c0]) rfl ⟨_, rfl, HLE.out, ?_, hBB⟩
      rw [hGG, List.append_nil]
      rfl

theorem unitNew_any (w : World) :
    Calls Try.prog 16 #[] w fun e w' => ∃ v, e = .returned (.agg #[.int .i64 1, v]) ∧ UnitAt w' v unew ∧ Below w.heap.size w w' :=
  (unitNew_own w).mono fun _ _ ⟨_, he, _, hg, hb⟩ => ⟨_, he, ⟨ents_front (List.length_replicate ..) hg, ⟨_, _, _, rfl, Nat.le_refl _⟩⟩, hb⟩

open scoped Classical in
theorem unitSame_any (v v' : Value) (u x : Un) (w : World) (h : EntSl w v u.cells) (h' : EntSl w v' x.cells) (hn : u.cells.length ≤ topN) :
    Calls Try.prog 12 #[.agg #[.int .i64 u.p, v], .agg #[.int .i64 x.p, v']] w fun e w' => e = .returned (.bool (decide (u = x))) ∧ Below w.heap.size w w' := by
  obtain ⟨p, es⟩ := u
  obtain ⟨p', fs⟩ := x
  have hB2 : Below w.heap.size w ((w.alloc (boxU p v)).alloc (boxU p' v')) := grew (grew (Below.refl _ _) _) _
  have HB2 : Aside _ := hB2
  have heq := equalE v v' es fs ((w.alloc (boxU p v)).alloc (boxU p' v')) (h.later hB2) (h'.later hB2) hn
  clear hB2
  obtain ⟨a, c, rfl, _⟩ := h
  obtain ⟨a', c', rfl, _⟩ := h'
  have hd : decide ((⟨p, es⟩ : Un) = ⟨p', fs⟩) = (decide (p = p') && decide (es = fs)) := by
    by_cases h1 : p = p' <;> by_cases h2 : es = fs <;> simp [h1, h2]
  rw [hd]
  show Calls _ _ #[.agg #[.int .i64 p, .slice a es.length c], .agg #[.int .i64 p', .slice a' fs.length c']] _ _
  generalize decide (es = fs) = ef at *
  change Calls _ _ #[.slice a es.length c, .slice a' fs.length c'] _ _ at heq
  clear hn
  generalize es.length = n at *
  generalize fs.length = n' at *
  by_cases hp : p = p'
  · subst hp
    go_enter Try.func12, Try.ntmps12
    go_wp2_with fail
    refine heq.mono ?_
    rintro e w1 ⟨rfl, hb1⟩
    have HB3 : Aside (Below w.heap.size w w1) := step_below1 HB2.out hb1
    clear hb1 heq HB2
    go_wp2
    go_ret
    exact ⟨by simp, HB3.out⟩
  · have hpb : (p == p') = false := by rw [beq_eq_false_iff_ne]; exact hp
    rw [decide_eq_false hp]
    clear hp heq
    go_enter Try.func12, Try.ntmps12
    go_wp2
    go_ret
    exact ⟨rfl, HB2.out⟩

set_option maxHeartbeats 2000000 in
theorem unitTail_any (v : Value) (u : Un) (w : World) (h : EntSl w v u.cells) (hn : u.cells.length ≤ topN) :
    Calls Try.prog 14 #[.agg #[.int .i64 u.p, v]] w fun e w' => e = .returned (.int .i64 (tailOf u.cells)) ∧ Below w.heap.size w w' := by
  obtain ⟨p, es⟩ := u
  have H : Hid (EntSl w v es) := h
  obtain ⟨a, c, rfl, _⟩ := h
  obtain ⟨n, HL⟩ : ∃ n, Hid (es.length = n) := ⟨_, rfl⟩
  change es.length ≤ 9223372036854775807 at hn
  show Calls _ _ #[.agg #[.int .i64 p, .slice a es.length c]] _ fun e w' => e = .returned (.int .i64 (tailOf es)) ∧ _
  have HS : Hid (tailOf es = tailOf (es.take n)) := by rw [Hid, ← HL.out, List.take_length]
  rw [HL.out] at hn ⊢
  replace H : Hid (SlOf En.cells 5 w (.slice a n c) es) := by have := H.out; rw [HL.out] at this; exact this
  have HB0 : Aside (Below w.heap.size w (w.alloc (boxU p (.slice a n c)))) := grew (Below.refl _ _) _
  have HX0 : Aside ((w.alloc (boxU p (.slice a n c))).heap[w.heap.size]? = some (boxU p (.slice a n c))) := heap_new _ _
  go_enter Try.func14, Try.ntmps14
  go_wp2
  go_loopg [3] n (fun g s wr => ∃ k : Nat, k ≤ n ∧ k ≤ g ∧ s = .int .i64 k ∧ wr = w.alloc (boxU p (.slice a n c)) ∧ Hid (tailOf es = tailOf (es.take k)))
  case atStart => exact ⟨n, Nat.le_refl _, by omega, rfl, rfl, HS⟩
  case round =>
    obtain ⟨k, hk, hg, rfl, rfl, hst⟩ := hrel
    by_cases h0 : k = 0
    · subst h0
      have HR : Hid (tailOf es = 0) := by rw [Hid, hst.out]; rfl
      clear hst H
      go_wp2
      go_ret
      exact ⟨by rw [HR.out]; rfl, HB0.out⟩
    · obtain ⟨m, rfl⟩ : ∃ m, k = m + 1 := ⟨k - 1, by omega⟩
      obtain ⟨x, hx⟩ : ∃ x, es[m]? = some x := ⟨es[m]'(by have := HL.out; omega), List.getElem?_eq_getElem _⟩
      obtain ⟨b, off, rfl, hE0⟩ := H.out.at (by omega)
      have hE := hE0.later HB0.out
      have c0 : (w.alloc (boxU p (.slice (some ⟨b, off, none⟩) n c))).cell? ⟨b, off + m * 5, none⟩ = some (.int .i64 x.k) := hE m x hx 0 _ rfl
      have hd : Hid (tailOf es = if x.k = 4 then tailOf (es.take m) else ((m + 1 : Nat) : Int)) := by rw [Hid, hst.out, tail_take hx]
      have hw1 : IntKind.i64.wrap ((m : Int) + 1 - 1) = (m : Int) := by rw [IntKind.wrap_i64]; omega
      have hw2 : IntKind.i64.wrap (m : Int) = (m : Int) := by rw [IntKind.wrap_i64]; omega
      have hmn : (m : Int) < (n : Int) := by omega
      have hm0 : (0 : Int) < (m : Int) + 1 := by omega
      clear hE hE0 hst hx H h0
      by_cases h4 : x.k = 4
      · rw [if_pos h4] at hd
        have h4b : (x.k != 4) = false := by rw [h4]; rfl
        clear h4
        go_wp2
        go_roundg m
        case measure => omega
        case rel => exact ⟨m, by omega, by omega, by go_num, rfl, hd⟩
      · rw [if_neg h4] at hd
        have h4b : (x.k != 4) = true := by rw [bne_iff_ne]; exact h4
        clear h4
        go_wp2
        go_ret
        exact ⟨by rw [hd.out]; go_num, HB0.out⟩

end Go.Proofs.Ytaialgacaomaead
