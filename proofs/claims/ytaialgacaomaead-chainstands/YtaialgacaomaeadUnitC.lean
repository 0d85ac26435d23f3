/- The reference's FreshUnit: the library's slices.Repeat of one blank entry, sixty times. -/
import Derived.Test.YtaialgacaomaeadUnitB
import Derived.Test.YtaialgacaomaeadCopyK
namespace Go.Proofs.Ytaialgacaomaead
open Go.RowKit

theorem mul64_60 (w : World) : Calls Try.prog 58 #[.int .u64 1, .int .u64 60] w fun e w' => e = .returned (.tuple #[.int .u64 0, .int .u64 60]) ∧ w' = w := by
  go_enter Try.func58, Try.ntmps58
  go_wp2
  go_ret2
  exact ⟨rfl, rfl⟩

theorem mul_60 (w : World) : Calls Try.prog 53 #[.int .u64 1, .int .u64 60] w fun e w' => e = .returned (.tuple #[.int .u64 0, .int .u64 60]) ∧ w' = w := by
  go_enter Try.func53, Try.ntmps53
  go_wp2_with fail
  refine (mul64_60 _).mono ?_
  rintro e w1 ⟨rfl, rfl⟩
  go_wp2
  go_ret2
  exact ⟨rfl, rfl⟩

/-- So many blank entries' cells. -/
def repB (n : Nat) : List Value := (List.replicate n blankE).flatMap En.cells

theorem repB_len (n : Nat) : (repB n).length = n * 5 := by
  rw [repB, row_len En.five, List.length_replicate]

theorem repB_add (n k : Nat) : repB (n + k) = repB n ++ repB k := by
  rw [repB, repB, repB, ← List.flatMap_append, List.replicate_append_replicate]

theorem repB_one (n : Nat) : ∀ u ∈ repB n, u.oneCell' = true := oneE _

theorem sizeE : (Try.prog.info? 26).map (·.size) = some 5 := by kernel_rfl

theorem splice_tail {A T C : List Value} {n k : Nat} (hA : A.length = n * 5) (hC : C.length = k * 5) : splice (A ++ T) (n * 5) C = A ++ C ++ T.drop (k * 5) := by
  unfold splice
  rw [List.take_append_of_le_length (by omega), List.take_of_length_le (by omega), List.append_assoc, hC]
  congr 2
  rw [List.drop_append, List.drop_eq_nil_of_le (by omega), hA, List.nil_append]
  congr 1
  omega

/-- So many of a row of sixty are blank ones. -/
def RepAt (W : World) (g n : Nat) : Prop := ∃ tl : List Value, tl.length = (60 - n) * 5 ∧ W.heap[g]? = some (.cells (repB n ++ tl).toArray 26 (0, 0))

set_option maxHeartbeats 4000000 in
set_option maxRecDepth 100000 in
theorem repeat60 (b : Nat) (w : World) (hb : w.heap[b]? = some (boxE 4 0 0 0 0)) :
    Calls Try.prog 38 #[.slice (some ⟨b, 0, none⟩) 1 1, .int .i64 60] w fun e w' => ∃ g, e = .returned (.slice (some ⟨g, 0, none⟩) 60 60) ∧ w'.heap[g]? = some (.cells (repB 60).toArray 26) ∧ Below w.heap.size w w' := by
  obtain ⟨i0, hi, hz0, hz1, hz2⟩ := info_parts infoE
  have hbl := heap_lt hb
  have HB : Hid (w.heap[b]? = some (boxE 4 0 0 0 0)) := hb
  clear hb
  go_enter Try.func38, Try.ntmps38
  go_wp2_with fail
  refine (mul_60 _).mono ?_
  rintro e w ⟨rfl, rfl⟩
  go_wp2_with (at_make; refine wpList_make_full _ rfl _ _ 22 rfl w.heap.size 26 i0 (ev 0 0 0 0 0) 5 Try.underlying22 hi hz0 hz1 _ _ _ _ 60 rfl rfl rfl rfl (by rw [hz2]; omega) (by unfold maxLen; omega) (Nat.le_refl _) ?_)
  intro w1 hown hgrow
  obtain ⟨hl0, ho⟩ := hown
  rcases ho with ⟨h, _⟩ | ⟨g, cap, cur, hv', _, hg, _, _, hsz, htake⟩
  · cases h
  injection hv' with ha _ hc
  injection ha with ha
  injection ha with ha _ _
  subst ha hc
  have hB1 : Below w.heap.size w w1 := ⟨hgrow.os, hgrow.tape, hgrow.output, hgrow.size, fun k hk => hgrow.block k hk (fun h => by cases h)⟩
  have hcur : cur.toList.length = 60 * 5 := by simpa using hsz
  have hg' : w1.heap[w.heap.size]? = some (.cells cur.toList.toArray 26 (0, 0)) := by simpa using hg
  clear hi hz0 hz1 hz2 hl0 htake hgrow hg hsz
  have hb1 := heap_below HB.out hB1 hbl
  have hpos : 0 < Nat.min 1 60 → (some ⟨w.heap.size, 0, none⟩ : Option Addr) = some ⟨w.heap.size, 0, none⟩ ∧ ∃ ad, (some ⟨b, 0, none⟩ : Option Addr) = some ad ∧ ∀ j v, (repB 1)[j]? = some v → w1.cell? (ad.add j) = some v := fun _ => ⟨rfl, _, rfl, fun j v hj => by
    rw [Lib.add_plain, Nat.zero_add, Joins.cell_of_block hb1 j]
    simpa [repB, En.cells, blankE] using hj⟩
  have hmin : (repB 1).length = Nat.min 1 60 * 5 := repB_len 1
  have hfit : 0 + (repB 1).length ≤ cur.toList.length := by rw [hcur, repB_len]; omega
  obtain ⟨cl, hcl⟩ : ∃ cl, Hid (cur.toList = cl) := ⟨_, rfl⟩
  rw [hcl.out] at hg' hfit hcur
  have hsp : Hid (splice cl 0 (repB 1) = repB 1 ++ cl.drop 5) := by
    have := splice_tail (A := []) (T := cl) (C := repB 1) (n := 0) (k := 1) (by rfl) (repB_len 1)
    exact (show _ = _ by simpa using this)
  have hoz := repB_one 1
  clear hcl
  have HCL : Hid (cl.length = 60 * 5) := hcur
  clear hcur
  go_wp2_with ((with_reducible show wpList _ _ _ (Oper.mk (some 33) _ _ _ _ _ :: _) _ _); refine wpList_copyK rfl _ _ 22 22 rfl 26 5 Try.underlying22 sizeE (some ⟨w.heap.size, 0, none⟩) (some ⟨b, 0, none⟩) 60 60 1 1 rfl rfl w.heap.size 0 cl 26 hg' (repB 1) hmin hpos hfit hoz w.heap.size w hB1 (Nat.le_refl _) ?_)
  intro w2 hg2 hB2
  have hg2' : w2.heap[w.heap.size]? = some (.cells (repB 1 ++ cl.drop 5).toArray 26 (0, 0)) := by rw [← hsp.out]; exact hg2.out
  clear hpos hmin hfit hsp hoz hg' hg2 hb1 hB1 hbl
  go_wp2
  go_loopw [8] (fun s wr => ∃ n : Nat, 1 ≤ n ∧ n ≤ 60 ∧ s = .int .i64 n ∧ RepAt wr w.heap.size n ∧ Below w.heap.size w wr) (fun s _ => 60 - (intOf s).toNat)
  case atStart => exact ⟨1, by omega, by omega, rfl, ⟨cl.drop 5, by rw [List.length_drop, HCL.out], hg2'⟩, hB2⟩
  case round =>
    clear hg2' hB2
    obtain ⟨n, h1, h60, rfl, ⟨tl, htl, hW⟩, hB⟩ := hrel
    by_cases hlt : n < 60
    · obtain ⟨k, hk⟩ : ∃ k, min n (60 - n) = k := ⟨_, rfl⟩
      have hkp : 0 < k := by omega
      have hmin : (repB k).length = Nat.min n (60 - n) * 5 := by rw [repB_len]; show k * 5 = min n (60 - n) * 5; rw [hk]
      have hcell : ∀ (W : World), W.heap[w.heap.size]? = some (.cells (repB n ++ tl).toArray 26 (0, 0)) → ∀ j v, (repB k)[j]? = some v → W.cell? ((⟨w.heap.size, 0, none⟩ : Addr).add j) = some v := fun W hh j v hj => by
        rw [Lib.add_plain, Nat.zero_add, Joins.cell_of_block hh j]
        obtain ⟨m, rfl⟩ : ∃ m, n = k + m := ⟨n - k, by omega⟩
        rw [repB_add, List.append_assoc]
        have hj5 := (List.getElem?_eq_some_iff.1 hj).1
        simp only [List.getElem?_toArray]
        rw [List.getElem?_append_left hj5]
        exact hj
      have hfit : n * 5 + (repB k).length ≤ (repB n ++ tl).length := by rw [List.length_append, repB_len, repB_len, htl]; omega
      have hsp : Hid (splice (repB n ++ tl) (n * 5) (repB k) = repB (n + k) ++ tl.drop (k * 5)) := by
        rw [Hid, splice_tail (repB_len n) (repB_len k), repB_add]
      have htl2 : Hid ((tl.drop (k * 5)).length = (60 - (n + k)) * 5) := by rw [Hid, List.length_drop, htl]; omega
      have hoz := repB_one k
      obtain ⟨L0, hL0⟩ : ∃ L0, Hid (repB n ++ tl = L0) := ⟨_, rfl⟩
      rw [hL0.out] at hW hfit hsp hcell
      have hcell2 := hcell _ hW
      have hWd : wr.drew.heap[w.heap.size]? = some (.cells L0.toArray 26 (0, 0)) := hW
      have hcell3 := hcell _ hWd
      have hBd := hB.drew
      have hk2 : Nat.min n (60 - n) = k := hk
      have hnk : n + k ≤ 60 := by omega
      have hni : (n : Int) ≤ 60 := by omega
      have hwr : IntKind.i64.wrap ((n : Int) + (k : Int)) = (n : Int) + (k : Int) := by rw [IntKind.wrap_i64]; omega
      have hne : ¬ 60 = n := by omega
      have hltI : (n : Int) < 60 := by omega
      clear htl hL0 hcell
      go_wp2_with fail
      go_region_law ((refine step_copyK rfl _ _ 22 22 rfl 26 5 Try.underlying22 sizeE (some ⟨w.heap.size, n * 5, none⟩) (some ⟨w.heap.size, 0, none⟩) (60 - n) (60 - n) n 60 (by simp [Act.eval, Act.put]) (by simp [Act.eval, Act.put]) w.heap.size (n * 5) L0 26 hWd (repB k) hmin (fun _ => ⟨rfl, _, rfl, hcell3⟩) hfit hoz w.heap.size w hBd (Nat.le_refl _) ?_; intro w3 hg3 hB3; rw [hk2]))
      all_goals
        go_wp2
        go_roundw
        case rel =>
          refine ⟨_, _, _, _, _, _, _, _, _, _, _, _, _, _, ?_, rfl⟩
          exact ⟨n + k, by omega, hnk, by go_num, ⟨tl.drop (k * 5), htl2.out, by rw [← hsp.out]; exact hg3.out⟩, hB3⟩
        case measure =>
          show 60 - (intOf (.int .i64 ((n : Int) + (k : Int)))).toNat < 60 - (intOf (.int .i64 (n : Int))).toNat
          simp only [intOf]
          omega
    · obtain rfl : n = 60 := by omega
      obtain rfl : tl = [] := List.eq_nil_of_length_eq_zero (by rw [htl])
      rw [List.append_nil] at hW
      go_wp2
      go_ret
      exact ⟨_, rfl, hW, hB⟩

set_option maxHeartbeats 1000000 in
/-- The reference's FreshUnit. -/
theorem ref_fresh (w : World) :
    Calls Try.prog 17 #[] w fun e w' => ∃ v, e = .returned (.agg #[.int .i64 1, v]) ∧ UnitAt w' v unew ∧ Below w.heap.size w w' := by
  have HB0 : Aside (Below w.heap.size w (w.alloc (boxU 0 (.slice none 0 0)))) := grew (Below.refl _ _) _
  have HX0 : Aside ((w.alloc (boxU 0 (.slice none 0 0))).heap[w.heap.size]? = some (boxU 0 (.slice none 0 0))) := heap_new _ _
  go_enter Try.func17, Try.ntmps17
  go_wp2_with fail
  refine (blank_any _).mono ?_
  rintro e w1 ⟨rfl, hb1⟩
  have y0 := heap_below HX0.out hb1 (heap_lt HX0.out)
  have hB1 : Below w.heap.size w (w1.alloc (boxE 4 0 0 0 0)) := grew (step_below1 HB0.out hb1) _
  have hr := repeat60 w1.heap.size (w1.alloc (boxE 4 0 0 0 0)) (heap_new _ _)
  have HX1 : Aside ((w1.alloc (boxE 4 0 0 0 0)).heap[w.heap.size]? = some (boxU 0 (.slice none 0 0))) := heap_old y0 _
  have HB1 : Aside _ := hB1
  clear hb1 y0 hB1 HX0 HB0
  go_wp2_with fail
  refine hr.mono ?_
  rintro e w2 ⟨g, rfl, hg, hb2⟩
  have y0 := heap_below HX1.out hb2 (heap_lt HX1.out)
  have HB2 : Aside (Below w.heap.size w w2) := step_below1 HB1.out hb2
  have hgl := heap_lt hg
  have hgw : w.heap.size ≠ g := fun e => by
    rw [e, hg] at y0
    have := Option.some.inj y0
    injection this with h1 h2
    have h3 := congrArg Array.size h1
    simp [repB_len] at h3
  have HG : Aside (w2.heap[g]? = some (.cells (repB 60).toArray 26)) := hg
  have HX2 : Aside _ := y0
  have z0 : ∀ i, w2.cell? ⟨w.heap.size, i, none⟩ = #[Value.int .i64 0, .slice none 0 0][i]? := fun i => Joins.cell_of_block y0 i
  have f0 : ∀ i, w2.frozen? ⟨w.heap.size, i, none⟩ = false := fun i => Joins.unfrozen_of_block y0 i
  clear hr hb2 y0 HX1 HB1 hg
  go_wp2
  have hX : ((w2.setCell ⟨w.heap.size, 0, none⟩ (.int .i64 1)).setCell ⟨w.heap.size, 1, none⟩ (.slice (some ⟨g, 0, none⟩) 60 60)).heap[w.heap.size]? = some (boxU 1 (.slice (some ⟨g, 0, none⟩) 60 60)) := by
    have h0 : (w2.setCell ⟨w.heap.size, 0, none⟩ (.int .i64 1)).heap[w.heap.size]? = some (boxU 1 (.slice none 0 0)) := by rw [Joins.block_setCell HX2.out]; rfl
    rw [Joins.block_setCell h0]; rfl
  have hGG : ((w2.setCell ⟨w.heap.size, 0, none⟩ (.int .i64 1)).setCell ⟨w.heap.size, 1, none⟩ (.slice (some ⟨g, 0, none⟩) 60 60)).heap[g]? = some (.cells (repB 60).toArray 26) := by
    rw [Below.heap_setCell _ _ _ _ (by exact hgw.symm), Below.heap_setCell _ _ _ _ (by exact hgw.symm)]
    exact HG.out
  have hBB : Below w.heap.size w ((w2.setCell ⟨w.heap.size, 0, none⟩ (.int .i64 1)).setCell ⟨w.heap.size, 1, none⟩ (.slice (some ⟨g, 0, none⟩) 60 60)) := (HB2.out.setCell (p := ⟨w.heap.size, 0, none⟩) (Nat.le_refl _) _).setCell (p := ⟨w.heap.size, 1, none⟩) (Nat.le_refl _) _
  have c0 := fun i => Joins.cell_of_block hX i
  refine bodyPost_ret (v := .agg #[.int .i64 1, .slice (some ⟨g, 0, none⟩) 60 60]) (by simp [results, Try.results17, go_sem, c0]) rfl ⟨_, rfl, ⟨?_, ⟨_, _, _, rfl, Nat.le_refl _⟩⟩, hBB⟩
  have := slOf_lit (cs := En.cells) (k := 5) En.five (c := 60) (xs := List.replicate 60 blankE) hGG (by rw [repB])
  rw [List.length_replicate] at this
  exact this

end Go.Proofs.Ytaialgacaomaead
