/- The walk of the reference's EntryRead. The walk of the reference's EntryRead, where there is one word; at every text. The reference's LedgerText. Lines of a text; the library's SplitAfter at a line feed. The reference's LedgerRead. -/
import Derived.Test.YtknjdbpdlodpbacGreatDoorRefM
import Derived.Maps.AppendAt
import Derived.OwnWalk
namespace Go.Proofs.YtknjdbpdlodpbacGreatDoor
open Go.RowKit

/-- Words, as strings in memory. -/
def wvals (ws : List (List UInt8)) : Array Value := (ws.map fun x => Value.string ⟨x.toArray⟩).toArray

theorem bytes_eta (s : ByteArray) : s = ⟨s.data.toList.toArray⟩ := by
  obtain ⟨⟨x⟩⟩ := s; rfl

theorem split_ref (l : List UInt8) (w : World) (hL : ∃ m, w.cell? ⟨2, 0, none⟩ = some (.int .i64 m)) (hl : l.length ≤ 30000) :
    Calls Tryz.prog 71 #[.string ⟨l.toArray⟩, .string ⟨#[32]⟩] w fun e w' =>
      e = .returned (.slice (some ⟨w.heap.size, 0, none⟩) (words l).length (words l).length) ∧ w' = w.alloc (.cells (wvals (words l)) 9) := by
  obtain ⟨m, hm⟩ := hL
  have h := Tryz.strings_Split ⟨l.toArray⟩ ⟨#[32]⟩ m w (by simp [Lib.size_eq]; omega) hm (by decide)
  have hd : (Lib.splitB ⟨#[32]⟩ 0 (Lib.countB ⟨l.toArray⟩ ⟨#[32]⟩) ⟨l.toArray⟩).map (·.data.toList) = words l := Lib.splitB_data ⟨#[32]⟩ 0 _ ⟨l.toArray⟩
  have hn : (Lib.splitB ⟨#[32]⟩ 0 (Lib.countB ⟨l.toArray⟩ ⟨#[32]⟩) ⟨l.toArray⟩).length = Lib.countB ⟨l.toArray⟩ ⟨#[32]⟩ + 1 := Lib.splitB_all _ (by decide) _ _ _ rfl
  have hlen : Lib.countB ⟨l.toArray⟩ ⟨#[32]⟩ + 1 = (words l).length := by rw [← hn, ← hd, List.length_map]
  have hv : (Lib.splitB ⟨#[32]⟩ 0 (Lib.countB ⟨l.toArray⟩ ⟨#[32]⟩) ⟨l.toArray⟩).map Value.string = (words l).map fun x => Value.string ⟨x.toArray⟩ := by
    rw [← hd, List.map_map]
    refine List.map_congr_left fun s _ => ?_
    exact congrArg Value.string (bytes_eta s)
  rw [hlen, hv] at h
  exact h

theorem infoInt : (Tryz.prog.info? 3).map (fun i => (i.zero, i.size, i.bytes)) = some (some (.int .i64 0), 1, 8) := by kernel_rfl

theorem undrew {B : Nat} {a w : World} (h : Below B a.drew w) : Below B a w := ⟨h.os, h.tape, h.output, h.size, h.block⟩

theorem wvals_at (ws : List (List UInt8)) (i : Nat) (h : i < ws.length) : (wvals ws)[i]? = some (.string ⟨(ws.getD i []).toArray⟩) := by
  unfold wvals
  simp [List.getElem?_eq_getElem h, List.getD_eq_getElem?_getD]

theorem getD_mem (ws : List (List UInt8)) (i : Nat) (h : i < ws.length) : ws.getD i [] ∈ ws := by
  rw [List.getD_eq_getElem?_getD, List.getElem?_eq_getElem h]
  exact List.getElem_mem h

set_option maxHeartbeats 4000000 in
theorem ref_readN (l : List UInt8) (ws : List (List UInt8)) (n1 : Nat) (w : World) (hL : Laid w) (hl : l.length ≤ 30000) (hws : words l = ws) (hn1 : ws.length = n1 + 1) (hpos : 0 < n1) :
    Calls Tryz.prog 52 #[.string ⟨l.toArray⟩] w fun e w' => e = .returned (.tuple #[(prs l).1.val, .int .i64 (prs l).2]) ∧ Below w.heap.size w w' := by
  obtain ⟨i0, hi, hz0, hz1, hz2⟩ := info_parts infoInt
  have HQ : Hid ((rdW ws = none → prs l = (En.zero, 1)) ∧ ∀ r, rdW ws = some r → prs l = if (rdEn r).chk = 0 then (rdEn r, 0) else (En.zero, (rdEn r).chk)) := by
    subst hws; exact ⟨prs_none hl, fun r => prs_some hl⟩
  have hsp := fun W hW => split_ref l W hW hl
  have HW : Hid (∀ x, x ∈ ws → x.length ≤ 30000) := fun x hx => by
    obtain ⟨_, wnl, _⟩ := words_props l.length l (Nat.le_refl _)
    rw [hws] at wnl
    exact Nat.le_trans (wnl x hx).2 hl
  have hn2 : n1 ≤ 40000 := by
    have hc := Lib.count_le l [32]
    have hw : (words l).length ≤ Lib.count l [32] + 1 := by
      have h1 := Lib.splitB_all ⟨#[32]⟩ (by decide) 0 _ ⟨l.toArray⟩ rfl
      have h2 : (Lib.splitB ⟨#[32]⟩ 0 (Lib.countB ⟨l.toArray⟩ ⟨#[32]⟩) ⟨l.toArray⟩).map (·.data.toList) = words l := Lib.splitB_data ⟨#[32]⟩ 0 _ ⟨l.toArray⟩
      rw [← h2, List.length_map, h1]
      exact Nat.le_refl _
    rw [hws] at hw
    omega
  rw [hws, hn1] at hsp
  have HN : Hid (ws.length = n1 + 1) := hn1
  clear hn1 hws
  go_enter Tryz.func52, Tryz.ntmps52
  go_wp2_with fail
  refine (hsp _ (hL.later (grew (Below.refl _ _) _)).most).mono ?_
  rintro e w1 ⟨rfl, hw1⟩
  clear hsp
  go_wp2
  have hB0 : Below w.heap.size w w1 := by rw [hw1]; exact grew (grew (Below.refl _ _) _) _
  have hR0 : w1.heap[w.heap.size]? = some (boxE 0 0 0 0 0) := by rw [hw1]; exact heap_old (heap_new _ _) _
  have hW0 : w1.heap[w.heap.size + 1]? = some (.cells (wvals ws) 9) := by
    rw [hw1]
    have := heap_new (w.alloc (boxE 0 0 0 0 0)) (.cells (wvals ws) 9)
    rwa [World.size_alloc] at this
  have hS0 : w.heap.size + 2 ≤ w1.heap.size := by rw [hw1]; simp
  rw [← hw1]
  have HI : Hid (_ ∧ _ ∧ _ ∧ _) := ⟨hB0, hR0, hW0, hS0⟩
  clear hB0 hR0 hW0 hw1 hS0
  go_loopw [4, 17] (fun v i wr => ∃ (n : Nat) (vs : List Int) (ao : Option Addr) (cv : Nat), n ≤ n1 ∧ vs.length = n ∧ i = .int .i64 n ∧ v = .slice ao n cv ∧ wr.ownsRow (w.heap.size + 2) 3 1 (.slice ao n cv) n (vs.map (Value.int .i64)) ∧
    wr.heap[w.heap.size]? = some (boxE 0 0 0 0 0) ∧ wr.heap[w.heap.size + 1]? = some (.cells (wvals ws) 9) ∧ Below w.heap.size w wr ∧ w.heap.size + 2 ≤ wr.heap.size ∧ Hid (∀ i, i < n → numOf (ws.getD (i + 1) []) = some (vs.getD i 0))) (fun _ i _ => n1 - (intOf i).toNat)
  case atStart => exact ⟨0, [], none, 0, Nat.zero_le _, rfl, rfl, rfl, World.ownsRow_nil _ _ _ _, HI.out.2.1, HI.out.2.2.1, HI.out.1, HI.out.2.2.2, fun i hi => absurd hi (Nat.not_lt_zero _)⟩
  case round =>
    clear HI
    obtain ⟨n, vs, ao, cv, hn, hvs, rfl, rfl, hown, hR, hWb, hB, hS, hnum⟩ := hrel
    have hLr := hL.later hB
    by_cases hlt : n < n1
    · have hi1 : n + 1 < ws.length := by have := HN.out; omega
      have hmem := HW.out _ (getD_mem ws (n + 1) hi1)
      have cW : wr.cell? ⟨w.heap.size + 1, 1 + n, none⟩ = some (.string ⟨(ws.getD (n + 1) []).toArray⟩) := by
        rw [Joins.cell_of_block hWb, show 1 + n = n + 1 from Nat.add_comm _ _]; exact wvals_at ws (n + 1) hi1
      cases hx : numOf (ws.getD (n + 1) []) with
      | none =>
        have HF : Hid (prs l = (En.zero, 1)) := HQ.out.1 (rdW_bad (i := n + 1) (by omega) hi1 hx)
        have hwh := fun W hW => whole_no (ws.getD (n + 1) []) W hW hmem hx
        clear hx hi1 hmem hnum
        generalize ws.getD (n + 1) [] = x at *
        go_wp2_with fail
        refine (hwh _ hLr).mono ?_
        rintro e w3 ⟨m, rfl, hb3⟩
        clear hwh hLr hL cW
        have hR3 := heap_below hR hb3 (heap_lt hR)
        have hB3 := hB.trans (hb3.mono hB.size)
        clear hR hB hWb hown hb3
        have cR : ∀ i, w3.cell? ⟨w.heap.size, i, none⟩ = #[Value.int .i64 0, .int .i64 0, .int .i64 0, .int .i64 0, .int .i64 0][i]? := fun i => Joins.cell_of_block hR3 i
        have fR : ∀ i, w3.frozen? ⟨w.heap.size, i, none⟩ = false := fun i => Joins.unfrozen_of_block hR3 i
        go_wp2
        refine ret_entry Tryz.results52 rfl rfl rfl (five_stores hR3 0 0 0 0 0) ⟨by rw [HF.out]; rfl, ?_⟩
        exact below_five hB3 (Nat.le_refl _) _ _ _ _ _
      | some x =>
        have hwh := fun W hW => whole_yes (ws.getD (n + 1) []) x W hW hmem hx
        have hx' : Hid (numOf (ws.getD (n + 1) []) = some x) := hx
        clear hx hi1 hmem
        go_wp2_with fail
        refine (hwh _ hLr).mono ?_
        rintro e w3 ⟨rfl, hb3⟩
        clear hwh hLr cW
        have hR3 := heap_below hR hb3 (heap_lt hR)
        have hW3 := heap_below hWb hb3 (heap_lt hWb)
        have hB3 := hB.trans (hb3.mono hB.size)
        have hO3 := ownsRow_later hown hb3
        have hS3 : w.heap.size + 2 ≤ w3.heap.size := Nat.le_trans hS hb3.size
        clear hR hB hWb hown hb3
        go_wp2_with (first
          | (at_builtin; refine wpList_append_own _ rfl _ _ 101 rfl (w.heap.size + 2) 3 i0 (.int .i64 0) 1 8 Tryz.underlying101 hi hz0 hz1 hz2 rfl (by decide) _ _ _ rfl (hO3.alloc _) ⟨w3.heap.size, 0, none⟩ 1 1 [.int .i64 x] rfl rfl (cell_one_new _ _ _) (fun u hu => by simp at hu; subst hu; rfl) (by unfold maxLen; omega) (by omega) (by simp; omega) ?_; intro v' w4 hown' hgrow hnil))
        have hB4 : Below w.heap.size w w4 := (grew hB3 _).grown hgrow (by simp; omega) (fun q hq => by have := (hO3.lt q hq).1; omega)
        have hR4 : w4.heap[w.heap.size]? = some (boxE 0 0 0 0 0) := by
          rw [hgrow.block _ (by simp; omega) (fun e => by have := (hO3.lt _ e.symm).1; omega)]; exact heap_old hR3 _
        have hW4 : w4.heap[w.heap.size + 1]? = some (.cells (wvals ws) 9) := by
          rw [hgrow.block _ (by simp; omega) (fun e => by have := (hO3.lt _ e.symm).1; omega)]; exact heap_old hW3 _
        have hS4 : w.heap.size + 2 ≤ w4.heap.size := by have := hgrow.size; simp at this; omega
        obtain ⟨g4, cap4, hv4⟩ := Joins.ownsRow_form hown' (by omega)
        rw [hv4] at hown'
        have hO4 : w4.ownsRow (w.heap.size + 2) 3 1 (.slice (some ⟨g4, 0, none⟩) (n + 1) cap4) (n + 1) ((vs ++ [x]).map (Value.int .i64)) := by rw [List.map_append]; exact hown'
        have hnum4 : Hid (∀ i, i < n + 1 → numOf (ws.getD (i + 1) []) = some ((vs ++ [x]).getD i 0)) := by
          intro i hi
          by_cases e : i = n
          · subst e; rw [hx'.out]; rw [List.getD_eq_getElem?_getD, List.getElem?_append_right (by omega), hvs]; simp
          · rw [hnum.out i (by omega), List.getD_eq_getElem?_getD, List.getD_eq_getElem?_getD, List.getElem?_append_left (by omega)]
        go_roundw
        case rel => exact ⟨n + 1, vs ++ [x], some ⟨g4, 0, none⟩, cap4, by omega, by simp [hvs], by go_num, hv4, hO4, hR4, hW4, hB4, hS4, hnum4⟩
        case measure => simp [intOf]; omega
    · have hnn : n = n1 := by omega
      subst hnn
      have c5 : wr.cell? ⟨w.heap.size + 1, 0, none⟩ = some (.string ⟨(ws.getD 0 []).toArray⟩) := by
        rw [Joins.cell_of_block hWb]; exact wvals_at ws 0 (by have := HN.out; omega)
      have hltR : w.heap.size < wr.heap.size := by omega
      have hltW : w.heap.size + 1 < wr.heap.size := by omega
      have cR : ∀ i, wr.cell? ⟨w.heap.size, i, none⟩ = #[Value.int .i64 0, .int .i64 0, .int .i64 0, .int .i64 0, .int .i64 0][i]? := fun i => Joins.cell_of_block hR i
      have fR : ∀ i, wr.frozen? ⟨w.heap.size, i, none⟩ = false := fun i => Joins.unfrozen_of_block hR i
      have hcount := HN.out
      have hkr := kindOf_range (ws.getD 0 [])
      have hnl := nameL_kindOf (ws.getD 0 [])
      generalize hk : kindOf (ws.getD 0 []) = kd at *
      clear hi hz0 hz1 hz2 HW hWb
      rcases hkr with rfl | rfl | rfl | rfl | rfl
      · have HF : Hid (prs l = (En.zero, 1)) := HQ.out.1 (by rw [rdW, hk, if_pos (by omega)])
        have f0 : (ws.getD 0 [] == [106, 117, 110, 107]) = false := by
          rw [beq_eq_false_iff_ne]; intro e; rw [e] at hk; exact absurd hk (by decide)
        have f1 : (ws.getD 0 [] == [112, 117, 116]) = false := by
          rw [beq_eq_false_iff_ne]; intro e; rw [e] at hk; exact absurd hk (by decide)
        have f2 : (ws.getD 0 [] == [100, 114, 111, 112]) = false := by
          rw [beq_eq_false_iff_ne]; intro e; rw [e] at hk; exact absurd hk (by decide)
        have f3 : (ws.getD 0 [] == [114, 105, 110, 103]) = false := by
          rw [beq_eq_false_iff_ne]; intro e; rw [e] at hk; exact absurd hk (by decide)
        clear hk hnl hcount hnum hown HQ HN
        generalize ws.getD 0 [] = y at *
        go_wp2
        refine ret_entry Tryz.results52 rfl rfl rfl (heap_old (five_stores hR 0 0 0 0 0) _) ⟨by rw [HF.out]; rfl, ?_⟩
        exact grew (below_five hB (Nat.le_refl _) _ _ _ _ _) _
      · have hy : ws.getD 0 [] = [106, 117, 110, 107] := (hnl (by omega)).symm
        have HF : Hid (prs l = (En.zero, 1)) := HQ.out.1 (by rw [rdW, hk, if_pos (by rw [show cntOf 0 = 0 from rfl]; omega)])
        have hne : ((n : Int) == 0) = false := by rw [beq_eq_false_iff_ne]; omega
        rw [hy] at c5
        clear hk hnl hcount hnum hown HQ HN hy
        go_wp2
        refine ret_entry Tryz.results52 rfl rfl rfl (heap_old (five_stores hR 0 0 0 0 0) _) ⟨by rw [HF.out]; rfl, ?_⟩
        exact grew (below_five hB (Nat.le_refl _) _ _ _ _ _) _
      · have hy : ws.getD 0 [] = [112, 117, 116] := (hnl (by omega)).symm
        rw [hy] at c5
        by_cases hm : n = 3
        · subst hm
          have hcnt : ws.length = 1 + cntOf 1 := by rw [show cntOf 1 = 3 from rfl]; omega
          match vs, hvs with
          | [a, b, c], _ =>
          have hrd : rdW ws = some (1, a, b, c) := rdW_some hk (by omega) hcnt (by rw [nAt, if_pos (by omega)]; exact hnum.out 0 (by omega)) (by rw [nAt, if_pos (by omega)]; exact hnum.out 1 (by omega)) (by rw [nAt, if_pos (by omega)]; exact hnum.out 2 (by omega))
          have hpr := HQ.out.2 _ hrd
          obtain ⟨g, cap, hv⟩ := Joins.ownsRow_form hown (by omega)
          cases hv
          have k0 : wr.cell? ⟨g, 0, none⟩ = some (.int .i64 a) := hown.cellAt 0 (by omega)
          have k1 : wr.cell? ⟨g, 1, none⟩ = some (.int .i64 b) := hown.cellAt 1 (by omega)
          have k2 : wr.cell? ⟨g, 2, none⟩ = some (.int .i64 c) := hown.cellAt 2 (by omega)
          clear hrd hcnt hcount hnl hnum HQ HN hk hy hvs
          have hlg : g < wr.heap.size := (hown.lt g rfl).2
          clear hown
          obtain ⟨cn, hc⟩ : ∃ cn, chk 1 a b c 0 = cn := ⟨_, rfl⟩
          by_cases hz : cn = 0
          · subst hz
            have HF : Hid (prs l = (⟨1, a, b, c, 0⟩, 0)) := by rw [hpr]; exact if_pos hc
            have hch : ∀ W, Calls Tryz.prog 54 #[ev 1 a b c 0] W fun e w' => e = .returned (.int .i64 0) ∧ Below W.heap.size W w' := fun W => by have := ref_check 1 a b c 0 W; rw [hc] at this; exact this
            clear hpr hc
            go_wp2
            go_region
            go_wp2_with fail
            refine (hch _).mono ?_
            rintro e w5 ⟨rfl, hb5⟩
            clear hch
            have hb6 : Below (wr.alloc (boxE 1 a b c 0)).heap.size (wr.alloc (boxE 1 a b c 0)) w5 := undrew hb5
            clear hb5
            have hE5 : w5.heap[wr.heap.size]? = some (boxE 1 a b c 0) := by rw [hb6.block _ (by simp)]; exact heap_new _ _
            have hR5 : w5.heap[w.heap.size]? = some (boxE 0 0 0 0 0) := by rw [hb6.block _ (by simp; omega)]; exact heap_old hR _
            have hB5 : Below w.heap.size w w5 := (grew hB _).trans (hb6.mono (by simp; omega))
            generalize wr.heap.size = eb at *
            clear hb6 cR fR hR hB c5
            have cR5 : ∀ i, w5.cell? ⟨w.heap.size, i, none⟩ = #[Value.int .i64 0, .int .i64 0, .int .i64 0, .int .i64 0, .int .i64 0][i]? := fun i => Joins.cell_of_block hR5 i
            have fR5 : ∀ i, w5.frozen? ⟨w.heap.size, i, none⟩ = false := fun i => Joins.unfrozen_of_block hR5 i
            have cE5 : ∀ i, w5.cell? ⟨eb, i, none⟩ = #[Value.int .i64 1, .int .i64 a, .int .i64 b, .int .i64 c, .int .i64 0][i]? := fun i => Joins.cell_of_block hE5 i
            go_wp2
            exact ret_entry Tryz.results52 rfl rfl rfl (five_stores hR5 1 a b c 0) ⟨by rw [HF.out]; rfl, below_five hB5 (Nat.le_refl _) _ _ _ _ _⟩
          · have HF : Hid (prs l = (En.zero, cn)) := by
              rw [hpr]
              show (if chk 1 a b c 0 = 0 then _ else (En.zero, chk 1 a b c 0)) = _
              rw [hc, if_neg hz]
            have hzb : (cn != 0) = true := by rw [bne_iff_ne]; exact hz
            have hch : ∀ W, Calls Tryz.prog 54 #[ev 1 a b c 0] W fun e w' => e = .returned (.int .i64 cn) ∧ Below W.heap.size W w' := fun W => by have := ref_check 1 a b c 0 W; rw [hc] at this; exact this
            clear hpr hc hz
            go_wp2
            go_region
            go_wp2_with fail
            refine (hch _).mono ?_
            rintro e w5 ⟨rfl, hb5⟩
            clear hch
            have hb6 : Below (wr.alloc (boxE 1 a b c 0)).heap.size (wr.alloc (boxE 1 a b c 0)) w5 := undrew hb5
            clear hb5
            have hE5 : w5.heap[wr.heap.size]? = some (boxE 1 a b c 0) := by rw [hb6.block _ (by simp)]; exact heap_new _ _
            have hR5 : w5.heap[w.heap.size]? = some (boxE 0 0 0 0 0) := by rw [hb6.block _ (by simp; omega)]; exact heap_old hR _
            have hB5 : Below w.heap.size w w5 := (grew hB _).trans (hb6.mono (by simp; omega))
            generalize wr.heap.size = eb at *
            clear hb6 cR fR hR hB c5
            have cR5 : ∀ i, w5.cell? ⟨w.heap.size, i, none⟩ = #[Value.int .i64 0, .int .i64 0, .int .i64 0, .int .i64 0, .int .i64 0][i]? := fun i => Joins.cell_of_block hR5 i
            have fR5 : ∀ i, w5.frozen? ⟨w.heap.size, i, none⟩ = false := fun i => Joins.unfrozen_of_block hR5 i
            have cE5 : ∀ i, w5.cell? ⟨eb, i, none⟩ = #[Value.int .i64 1, .int .i64 a, .int .i64 b, .int .i64 c, .int .i64 0][i]? := fun i => Joins.cell_of_block hE5 i
            go_wp2
            exact ret_entry Tryz.results52 rfl rfl rfl (five_stores hR5 0 0 0 0 0) ⟨by rw [HF.out]; rfl, below_five hB5 (Nat.le_refl _) _ _ _ _ _⟩
        · have HF : Hid (prs l = (En.zero, 1)) := HQ.out.1 (by rw [rdW, hk, if_pos (by rw [show cntOf 1 = 3 from rfl]; omega)])
          have hne : ((n : Int) == 3) = false := by rw [beq_eq_false_iff_ne]; omega
          clear hk hnl hcount hnum hown HQ HN hy hm
          go_wp2
          refine ret_entry Tryz.results52 rfl rfl rfl (heap_old (five_stores hR 0 0 0 0 0) _) ⟨by rw [HF.out]; rfl, ?_⟩
          exact grew (below_five hB (Nat.le_refl _) _ _ _ _ _) _
      · have hy : ws.getD 0 [] = [100, 114, 111, 112] := (hnl (by omega)).symm
        rw [hy] at c5
        by_cases hm : n = 1
        · subst hm
          have hcnt : ws.length = 1 + cntOf 2 := by rw [show cntOf 2 = 1 from rfl]; omega
          match vs, hvs with
          | [a], _ =>
          have hrd : rdW ws = some (2, a, 0, 0) := rdW_some hk (by omega) hcnt (by rw [nAt, if_pos (by omega)]; exact hnum.out 0 (by omega)) (by rw [nAt, if_neg (by omega)]) (by rw [nAt, if_neg (by omega)])
          have hpr := HQ.out.2 _ hrd
          obtain ⟨g, cap, hv⟩ := Joins.ownsRow_form hown (by omega)
          cases hv
          have k0 : wr.cell? ⟨g, 0, none⟩ = some (.int .i64 a) := hown.cellAt 0 (by omega)
          clear hrd hcnt hcount hnl hnum HQ HN hk hy hvs
          have hlg : g < wr.heap.size := (hown.lt g rfl).2
          clear hown
          obtain ⟨cn, hc⟩ : ∃ cn, chk 2 a 0 0 0 = cn := ⟨_, rfl⟩
          by_cases hz : cn = 0
          · subst hz
            have HF : Hid (prs l = (⟨2, a, 0, 0, 0⟩, 0)) := by rw [hpr]; exact if_pos hc
            have hch : ∀ W, Calls Tryz.prog 54 #[ev 2 a 0 0 0] W fun e w' => e = .returned (.int .i64 0) ∧ Below W.heap.size W w' := fun W => by have := ref_check 2 a 0 0 0 W; rw [hc] at this; exact this
            clear hpr hc
            go_wp2_with fail
            refine (hch _).mono ?_
            rintro e w5 ⟨rfl, hb5⟩
            clear hch
            have hb6 : Below (wr.alloc (boxE 2 a 0 0 0)).heap.size (wr.alloc (boxE 2 a 0 0 0)) w5 := hb5
            clear hb5
            have hE5 : w5.heap[wr.heap.size]? = some (boxE 2 a 0 0 0) := by rw [hb6.block _ (by simp)]; exact heap_new _ _
            have hR5 : w5.heap[w.heap.size]? = some (boxE 0 0 0 0 0) := by rw [hb6.block _ (by simp; omega)]; exact heap_old hR _
            have hB5 : Below w.heap.size w w5 := (grew hB _).trans (hb6.mono (by simp; omega))
            generalize wr.heap.size = eb at *
            clear hb6 cR fR hR hB c5
            have cR5 : ∀ i, w5.cell? ⟨w.heap.size, i, none⟩ = #[Value.int .i64 0, .int .i64 0, .int .i64 0, .int .i64 0, .int .i64 0][i]? := fun i => Joins.cell_of_block hR5 i
            have fR5 : ∀ i, w5.frozen? ⟨w.heap.size, i, none⟩ = false := fun i => Joins.unfrozen_of_block hR5 i
            have cE5 : ∀ i, w5.cell? ⟨eb, i, none⟩ = #[Value.int .i64 2, .int .i64 a, .int .i64 0, .int .i64 0, .int .i64 0][i]? := fun i => Joins.cell_of_block hE5 i
            go_wp2
            exact ret_entry Tryz.results52 rfl rfl rfl (five_stores hR5 2 a 0 0 0) ⟨by rw [HF.out]; rfl, below_five hB5 (Nat.le_refl _) _ _ _ _ _⟩
          · have HF : Hid (prs l = (En.zero, cn)) := by
              rw [hpr]
              show (if chk 2 a 0 0 0 = 0 then _ else (En.zero, chk 2 a 0 0 0)) = _
              rw [hc, if_neg hz]
            have hzb : (cn != 0) = true := by rw [bne_iff_ne]; exact hz
            have hch : ∀ W, Calls Tryz.prog 54 #[ev 2 a 0 0 0] W fun e w' => e = .returned (.int .i64 cn) ∧ Below W.heap.size W w' := fun W => by have := ref_check 2 a 0 0 0 W; rw [hc] at this; exact this
            clear hpr hc hz
            go_wp2_with fail
            refine (hch _).mono ?_
            rintro e w5 ⟨rfl, hb5⟩
            clear hch
            have hb6 : Below (wr.alloc (boxE 2 a 0 0 0)).heap.size (wr.alloc (boxE 2 a 0 0 0)) w5 := hb5
            clear hb5
            have hE5 : w5.heap[wr.heap.size]? = some (boxE 2 a 0 0 0) := by rw [hb6.block _ (by simp)]; exact heap_new _ _
            have hR5 : w5.heap[w.heap.size]? = some (boxE 0 0 0 0 0) := by rw [hb6.block _ (by simp; omega)]; exact heap_old hR _
            have hB5 : Below w.heap.size w w5 := (grew hB _).trans (hb6.mono (by simp; omega))
            generalize wr.heap.size = eb at *
            clear hb6 cR fR hR hB c5
            have cR5 : ∀ i, w5.cell? ⟨w.heap.size, i, none⟩ = #[Value.int .i64 0, .int .i64 0, .int .i64 0, .int .i64 0, .int .i64 0][i]? := fun i => Joins.cell_of_block hR5 i
            have fR5 : ∀ i, w5.frozen? ⟨w.heap.size, i, none⟩ = false := fun i => Joins.unfrozen_of_block hR5 i
            have cE5 : ∀ i, w5.cell? ⟨eb, i, none⟩ = #[Value.int .i64 2, .int .i64 a, .int .i64 0, .int .i64 0, .int .i64 0][i]? := fun i => Joins.cell_of_block hE5 i
            go_wp2
            exact ret_entry Tryz.results52 rfl rfl rfl (five_stores hR5 0 0 0 0 0) ⟨by rw [HF.out]; rfl, below_five hB5 (Nat.le_refl _) _ _ _ _ _⟩
        · have HF : Hid (prs l = (En.zero, 1)) := HQ.out.1 (by rw [rdW, hk, if_pos (by rw [show cntOf 2 = 1 from rfl]; omega)])
          have hne : ((n : Int) == 1) = false := by rw [beq_eq_false_iff_ne]; omega
          clear hk hnl hcount hnum hown HQ HN hy hm
          go_wp2
          refine ret_entry Tryz.results52 rfl rfl rfl (heap_old (five_stores hR 0 0 0 0 0) _) ⟨by rw [HF.out]; rfl, ?_⟩
          exact grew (below_five hB (Nat.le_refl _) _ _ _ _ _) _
      · have hy : ws.getD 0 [] = [114, 105, 110, 103] := (hnl (by omega)).symm
        rw [hy] at c5
        by_cases hm : n = 3
        · subst hm
          have hcnt : ws.length = 1 + cntOf 3 := by rw [show cntOf 3 = 3 from rfl]; omega
          match vs, hvs with
          | [a, b, c], _ =>
          have hrd : rdW ws = some (3, a, b, c) := rdW_some hk (by omega) hcnt (by rw [nAt, if_pos (by omega)]; exact hnum.out 0 (by omega)) (by rw [nAt, if_pos (by omega)]; exact hnum.out 1 (by omega)) (by rw [nAt, if_pos (by omega)]; exact hnum.out 2 (by omega))
          have hpr := HQ.out.2 _ hrd
          obtain ⟨g, cap, hv⟩ := Joins.ownsRow_form hown (by omega)
          cases hv
          have k0 : wr.cell? ⟨g, 0, none⟩ = some (.int .i64 a) := hown.cellAt 0 (by omega)
          have k1 : wr.cell? ⟨g, 1, none⟩ = some (.int .i64 b) := hown.cellAt 1 (by omega)
          have k2 : wr.cell? ⟨g, 2, none⟩ = some (.int .i64 c) := hown.cellAt 2 (by omega)
          clear hrd hcnt hcount hnl hnum HQ HN hk hy hvs
          have hlg : g < wr.heap.size := (hown.lt g rfl).2
          clear hown
          obtain ⟨cn, hc⟩ : ∃ cn, chk 3 a 0 b c = cn := ⟨_, rfl⟩
          by_cases hz : cn = 0
          · subst hz
            have HF : Hid (prs l = (⟨3, a, 0, b, c⟩, 0)) := by rw [hpr]; exact if_pos hc
            have hch : ∀ W, Calls Tryz.prog 54 #[ev 3 a 0 b c] W fun e w' => e = .returned (.int .i64 0) ∧ Below W.heap.size W w' := fun W => by have := ref_check 3 a 0 b c W; rw [hc] at this; exact this
            clear hpr hc
            go_wp2
            go_region
            go_wp2_with fail
            refine (hch _).mono ?_
            rintro e w5 ⟨rfl, hb5⟩
            clear hch
            have hb6 : Below (wr.alloc (boxE 3 a 0 b c)).heap.size (wr.alloc (boxE 3 a 0 b c)) w5 := undrew hb5
            clear hb5
            have hE5 : w5.heap[wr.heap.size]? = some (boxE 3 a 0 b c) := by rw [hb6.block _ (by simp)]; exact heap_new _ _
            have hR5 : w5.heap[w.heap.size]? = some (boxE 0 0 0 0 0) := by rw [hb6.block _ (by simp; omega)]; exact heap_old hR _
            have hB5 : Below w.heap.size w w5 := (grew hB _).trans (hb6.mono (by simp; omega))
            generalize wr.heap.size = eb at *
            clear hb6 cR fR hR hB c5
            have cR5 : ∀ i, w5.cell? ⟨w.heap.size, i, none⟩ = #[Value.int .i64 0, .int .i64 0, .int .i64 0, .int .i64 0, .int .i64 0][i]? := fun i => Joins.cell_of_block hR5 i
            have fR5 : ∀ i, w5.frozen? ⟨w.heap.size, i, none⟩ = false := fun i => Joins.unfrozen_of_block hR5 i
            have cE5 : ∀ i, w5.cell? ⟨eb, i, none⟩ = #[Value.int .i64 3, .int .i64 a, .int .i64 0, .int .i64 b, .int .i64 c][i]? := fun i => Joins.cell_of_block hE5 i
            go_wp2
            exact ret_entry Tryz.results52 rfl rfl rfl (five_stores hR5 3 a 0 b c) ⟨by rw [HF.out]; rfl, below_five hB5 (Nat.le_refl _) _ _ _ _ _⟩
          · have HF : Hid (prs l = (En.zero, cn)) := by
              rw [hpr]
              show (if chk 3 a 0 b c = 0 then _ else (En.zero, chk 3 a 0 b c)) = _
              rw [hc, if_neg hz]
            have hzb : (cn != 0) = true := by rw [bne_iff_ne]; exact hz
            have hch : ∀ W, Calls Tryz.prog 54 #[ev 3 a 0 b c] W fun e w' => e = .returned (.int .i64 cn) ∧ Below W.heap.size W w' := fun W => by have := ref_check 3 a 0 b c W; rw [hc] at this; exact this
            clear hpr hc hz
            go_wp2
            go_region
            go_wp2_with fail
            refine (hch _).mono ?_
            rintro e w5 ⟨rfl, hb5⟩
            clear hch
            have hb6 : Below (wr.alloc (boxE 3 a 0 b c)).heap.size (wr.alloc (boxE 3 a 0 b c)) w5 := undrew hb5
            clear hb5
            have hE5 : w5.heap[wr.heap.size]? = some (boxE 3 a 0 b c) := by rw [hb6.block _ (by simp)]; exact heap_new _ _
            have hR5 : w5.heap[w.heap.size]? = some (boxE 0 0 0 0 0) := by rw [hb6.block _ (by simp; omega)]; exact heap_old hR _
            have hB5 : Below w.heap.size w w5 := (grew hB _).trans (hb6.mono (by simp; omega))
            generalize wr.heap.size = eb at *
            clear hb6 cR fR hR hB c5
            have cR5 : ∀ i, w5.cell? ⟨w.heap.size, i, none⟩ = #[Value.int .i64 0, .int .i64 0, .int .i64 0, .int .i64 0, .int .i64 0][i]? := fun i => Joins.cell_of_block hR5 i
            have fR5 : ∀ i, w5.frozen? ⟨w.heap.size, i, none⟩ = false := fun i => Joins.unfrozen_of_block hR5 i
            have cE5 : ∀ i, w5.cell? ⟨eb, i, none⟩ = #[Value.int .i64 3, .int .i64 a, .int .i64 0, .int .i64 b, .int .i64 c][i]? := fun i => Joins.cell_of_block hE5 i
            go_wp2
            exact ret_entry Tryz.results52 rfl rfl rfl (five_stores hR5 0 0 0 0 0) ⟨by rw [HF.out]; rfl, below_five hB5 (Nat.le_refl _) _ _ _ _ _⟩
        · have HF : Hid (prs l = (En.zero, 1)) := HQ.out.1 (by rw [rdW, hk, if_pos (by rw [show cntOf 3 = 3 from rfl]; omega)])
          have hne : ((n : Int) == 3) = false := by rw [beq_eq_false_iff_ne]; omega
          clear hk hnl hcount hnum hown HQ HN hy hm
          go_wp2
          refine ret_entry Tryz.results52 rfl rfl rfl (heap_old (five_stores hR 0 0 0 0 0) _) ⟨by rw [HF.out]; rfl, ?_⟩
          exact grew (below_five hB (Nat.le_refl _) _ _ _ _ _) _

end Go.Proofs.YtknjdbpdlodpbacGreatDoor
namespace Go.Proofs.YtknjdbpdlodpbacGreatDoor
open Go.RowKit

set_option maxHeartbeats 2000000 in
theorem ref_read0 (l x : List UInt8) (w : World) (hL : Laid w) (hl : l.length ≤ 30000) (hws : words l = [x]) :
    Calls Tryz.prog 52 #[.string ⟨l.toArray⟩] w fun e w' => e = .returned (.tuple #[(prs l).1.val, .int .i64 (prs l).2]) ∧ Below w.heap.size w w' := by
  have HQ : (rdW [x] = none → prs l = (En.zero, 1)) ∧ ∀ r, rdW [x] = some r → prs l = if (rdEn r).chk = 0 then (rdEn r, 0) else (En.zero, (rdEn r).chk) := by
    rw [← hws]; exact ⟨prs_none hl, fun r => prs_some hl⟩
  have hsp := fun W hW => split_ref l W hW hl
  rw [hws] at hsp
  have hwv : wvals [x] = #[.string ⟨x.toArray⟩] := rfl
  rw [hwv] at hsp
  clear hwv hws
  have hkr := kindOf_range x
  have hnl := nameL_kindOf x
  generalize hk : kindOf x = kd at *
  have hch0 : ∀ W, Calls Tryz.prog 54 #[ev 0 0 0 0 0] W fun e w' => e = .returned (.int .i64 0) ∧ Below W.heap.size W w' := fun W => ref_check 0 0 0 0 0 W
  rcases hkr with rfl | rfl | rfl | rfl | rfl
  · have HF : Hid (prs l = (En.zero, 1)) := HQ.1 (by rw [rdW, show kindOf ([x].getD 0 []) = -1 from hk, if_pos (by omega)])
    have f0 : (x == [106, 117, 110, 107]) = false := by
      rw [beq_eq_false_iff_ne]; intro e; rw [e] at hk; exact absurd hk (by decide)
    have f1 : (x == [112, 117, 116]) = false := by
      rw [beq_eq_false_iff_ne]; intro e; rw [e] at hk; exact absurd hk (by decide)
    have f2 : (x == [100, 114, 111, 112]) = false := by
      rw [beq_eq_false_iff_ne]; intro e; rw [e] at hk; exact absurd hk (by decide)
    have f3 : (x == [114, 105, 110, 103]) = false := by
      rw [beq_eq_false_iff_ne]; intro e; rw [e] at hk; exact absurd hk (by decide)
    clear hk hnl HQ hch0
    go_enter Tryz.func52, Tryz.ntmps52
    go_wp2_with fail
    refine (hsp _ (hL.later (grew (Below.refl _ _) _)).most).mono ?_
    rintro e w1 ⟨rfl, rfl⟩
    clear hsp
    go_wp2
    go_loop [4, 17] (fun v i => v = .slice none 0 0 ∧ i = .int .i64 0) (fun _ _ => 0)
    case atStart => exact ⟨rfl, rfl⟩
    case round =>
      obtain ⟨rfl, rfl⟩ := hrel
      go_wp2
      refine ret_entry Tryz.results52 rfl rfl rfl (heap_old (heap_old (heap_new _ _) _) _) ⟨by rw [HF.out]; rfl, ?_⟩
      exact grew (grew (grew (Below.refl _ _) _) _) _
  · have hy : x = [106, 117, 110, 107] := (hnl (by omega)).symm
    have HF : Hid (prs l = (En.zero, 0)) := by
      have hrd : rdW [x] = some (0, 0, 0, 0) := rdW_some hk (by omega) rfl rfl rfl rfl
      rw [Hid, HQ.2 _ hrd]; rfl
    have f0 : (x == [106, 117, 110, 107]) = true := by rw [hy]; rfl
    have f1 : (x == [112, 117, 116]) = false := by rw [hy]; rfl
    have f2 : (x == [100, 114, 111, 112]) = false := by rw [hy]; rfl
    have f3 : (x == [114, 105, 110, 103]) = false := by rw [hy]; rfl
    clear hy hk hnl HQ
    go_enter Tryz.func52, Tryz.ntmps52
    go_wp2_with fail
    refine (hsp _ (hL.later (grew (Below.refl _ _) _)).most).mono ?_
    rintro e w1 ⟨rfl, rfl⟩
    clear hsp
    go_wp2
    go_loop [4, 17] (fun v i => v = .slice none 0 0 ∧ i = .int .i64 0) (fun _ _ => 0)
    case atStart => exact ⟨rfl, rfl⟩
    case round =>
      obtain ⟨rfl, rfl⟩ := hrel
      go_wp2_with fail
      refine (hch0 _).mono ?_
      rintro e w5 ⟨rfl, hb5⟩
      clear hch0
      have hE5 : w5.heap[w.heap.size + 1 + 1]? = some (boxE 0 0 0 0 0) := by
        rw [hb5.block _ (by simp)]
        have := heap_new ((w.alloc (boxE 0 0 0 0 0)).alloc (.cells #[.string ⟨x.toArray⟩] 9)) (boxE 0 0 0 0 0)
        rwa [World.size_alloc, World.size_alloc] at this
      have hR5 : w5.heap[w.heap.size]? = some (boxE 0 0 0 0 0) := by rw [hb5.block _ (by simp; omega)]; exact heap_old (heap_old (heap_new _ _) _) _
      have hB5 : Below w.heap.size w w5 := (grew (grew (grew (Below.refl _ _) _) _) _).trans (hb5.mono (by simp; omega))
      clear hb5
      have cR5 : ∀ i, w5.cell? ⟨w.heap.size, i, none⟩ = #[Value.int .i64 0, .int .i64 0, .int .i64 0, .int .i64 0, .int .i64 0][i]? := fun i => Joins.cell_of_block hR5 i
      have fR5 : ∀ i, w5.frozen? ⟨w.heap.size, i, none⟩ = false := fun i => Joins.unfrozen_of_block hR5 i
      have cE5 : ∀ i, w5.cell? ⟨w.heap.size + 1 + 1, i, none⟩ = #[Value.int .i64 0, .int .i64 0, .int .i64 0, .int .i64 0, .int .i64 0][i]? := fun i => Joins.cell_of_block hE5 i
      go_wp2
      exact ret_entry Tryz.results52 rfl rfl rfl (five_stores hR5 0 0 0 0 0) ⟨by rw [HF.out]; rfl, below_five hB5 (Nat.le_refl _) _ _ _ _ _⟩
  · have hy : x = [112, 117, 116] := (hnl (by omega)).symm
    have HF : Hid (prs l = (En.zero, 1)) := HQ.1 (by rw [rdW, show kindOf ([x].getD 0 []) = 1 from hk, if_pos (by simp [cntOf])])
    have f0 : (x == [106, 117, 110, 107]) = false := by rw [hy]; rfl
    have f1 : (x == [112, 117, 116]) = true := by rw [hy]; rfl
    have f2 : (x == [100, 114, 111, 112]) = false := by rw [hy]; rfl
    have f3 : (x == [114, 105, 110, 103]) = false := by rw [hy]; rfl
    clear hy hk hnl HQ hch0
    go_enter Tryz.func52, Tryz.ntmps52
    go_wp2_with fail
    refine (hsp _ (hL.later (grew (Below.refl _ _) _)).most).mono ?_
    rintro e w1 ⟨rfl, rfl⟩
    clear hsp
    go_wp2
    go_loop [4, 17] (fun v i => v = .slice none 0 0 ∧ i = .int .i64 0) (fun _ _ => 0)
    case atStart => exact ⟨rfl, rfl⟩
    case round =>
      obtain ⟨rfl, rfl⟩ := hrel
      go_wp2
      refine ret_entry Tryz.results52 rfl rfl rfl (heap_old (heap_old (heap_new _ _) _) _) ⟨by rw [HF.out]; rfl, ?_⟩
      exact grew (grew (grew (Below.refl _ _) _) _) _
  · have hy : x = [100, 114, 111, 112] := (hnl (by omega)).symm
    have HF : Hid (prs l = (En.zero, 1)) := HQ.1 (by rw [rdW, show kindOf ([x].getD 0 []) = 2 from hk, if_pos (by simp [cntOf])])
    have f0 : (x == [106, 117, 110, 107]) = false := by rw [hy]; rfl
    have f1 : (x == [112, 117, 116]) = false := by rw [hy]; rfl
    have f2 : (x == [100, 114, 111, 112]) = true := by rw [hy]; rfl
    have f3 : (x == [114, 105, 110, 103]) = false := by rw [hy]; rfl
    clear hy hk hnl HQ hch0
    go_enter Tryz.func52, Tryz.ntmps52
    go_wp2_with fail
    refine (hsp _ (hL.later (grew (Below.refl _ _) _)).most).mono ?_
    rintro e w1 ⟨rfl, rfl⟩
    clear hsp
    go_wp2
    go_loop [4, 17] (fun v i => v = .slice none 0 0 ∧ i = .int .i64 0) (fun _ _ => 0)
    case atStart => exact ⟨rfl, rfl⟩
    case round =>
      obtain ⟨rfl, rfl⟩ := hrel
      go_wp2
      refine ret_entry Tryz.results52 rfl rfl rfl (heap_old (heap_old (heap_new _ _) _) _) ⟨by rw [HF.out]; rfl, ?_⟩
      exact grew (grew (grew (Below.refl _ _) _) _) _
  · have hy : x = [114, 105, 110, 103] := (hnl (by omega)).symm
    have HF : Hid (prs l = (En.zero, 1)) := HQ.1 (by rw [rdW, show kindOf ([x].getD 0 []) = 3 from hk, if_pos (by simp [cntOf])])
    have f0 : (x == [106, 117, 110, 107]) = false := by rw [hy]; rfl
    have f1 : (x == [112, 117, 116]) = false := by rw [hy]; rfl
    have f2 : (x == [100, 114, 111, 112]) = false := by rw [hy]; rfl
    have f3 : (x == [114, 105, 110, 103]) = true := by rw [hy]; rfl
    clear hy hk hnl HQ hch0
    go_enter Tryz.func52, Tryz.ntmps52
    go_wp2_with fail
    refine (hsp _ (hL.later (grew (Below.refl _ _) _)).most).mono ?_
    rintro e w1 ⟨rfl, rfl⟩
    clear hsp
    go_wp2
    go_loop [4, 17] (fun v i => v = .slice none 0 0 ∧ i = .int .i64 0) (fun _ _ => 0)
    case atStart => exact ⟨rfl, rfl⟩
    case round =>
      obtain ⟨rfl, rfl⟩ := hrel
      go_wp2
      refine ret_entry Tryz.results52 rfl rfl rfl (heap_old (heap_old (heap_new _ _) _) _) ⟨by rw [HF.out]; rfl, ?_⟩
      exact grew (grew (grew (Below.refl _ _) _) _) _

/-- The reference's EntryRead, at every text of few enough bytes: as Parse. -/
theorem ref_read (l : List UInt8) (w : World) (hL : Laid w) (hl : l.length ≤ 30000) :
    Calls Tryz.prog 52 #[.string ⟨l.toArray⟩] w fun e w' => e = .returned (.tuple #[(prs l).1.val, .int .i64 (prs l).2]) ∧ Below w.heap.size w w' := by
  obtain ⟨wne, _, _⟩ := words_props l.length l (Nat.le_refl _)
  cases hws : words l with
  | nil => exact absurd hws wne
  | cons x r =>
    cases r with
    | nil => exact ref_read0 l x w hL hl hws
    | cons y r => exact ref_readN l _ (r.length + 1) w hL hl hws rfl (by omega)

end Go.Proofs.YtknjdbpdlodpbacGreatDoor
namespace Go.Proofs.YtknjdbpdlodpbacGreatDoor
open Go.RowKit

/-- The rows of entries. -/
def rowsOf (es : List En) : List UInt8 := (es.map fun e => e.txt ++ [10]).flatten

/-- What a ledger of these entries is: the rows, or the first error. -/
def lprint (es : List En) : List UInt8 × Int := if 60 < es.length then ([], 2) else match es.find? fun e => e.chk != 0 with
  | some e => ([], e.chk)
  | none => (rowsOf es, 0)

theorem rowsOf_snoc (es : List En) (e : En) : rowsOf (es ++ [e]) = rowsOf es ++ (e.txt ++ [10]) := by simp [rowsOf]

theorem rowsOf_len : ∀ (es : List En), (∀ e, e ∈ es → e.chk = 0) → (rowsOf es).length ≤ es.length * 201
  | [], _ => by simp [rowsOf]
  | e :: r, h => by
    have h1 := txt_len e (h e (by simp))
    have h2 := rowsOf_len r (fun x hx => h x (List.mem_cons_of_mem _ hx))
    simp only [rowsOf, List.map_cons, List.flatten_cons, List.length_append, List.length_cons, List.length_nil] at h2 ⊢
    omega

theorem lprint_many {es : List En} (h : 60 < es.length) : lprint es = ([], 2) := by rw [lprint, if_pos h]
theorem lprint_bad {es : List En} {k : Nat} {e : En} (h : es.length ≤ 60) (hk : es[k]? = some e) (hall : ∀ x, x ∈ es.take k → x.chk = 0) (he : e.chk ≠ 0) : lprint es = ([], e.chk) := by
  rw [lprint, if_neg (by omega)]
  have hsplit : es = es.take k ++ e :: es.drop (k + 1) := by
    have hlt : k < es.length := (List.getElem?_eq_some_iff.1 hk).1
    have := (List.getElem?_eq_some_iff.1 hk).2
    rw [← this, ← List.drop_eq_getElem_cons hlt, List.take_append_drop]
  have hf : es.find? (fun e => e.chk != 0) = some e := by
    rw [hsplit, List.find?_append, List.find?_eq_none.2 (fun x hx => by simp [hall x hx])]
    simp [he]
  rw [hf]
theorem lprint_good {es : List En} (h : es.length ≤ 60) (hall : ∀ x, x ∈ es → x.chk = 0) : lprint es = (rowsOf es, 0) := by
  rw [lprint, if_neg (by omega), List.find?_eq_none.2 (fun x hx => by simp [hall x hx])]

theorem str_eq {s : ByteArray} {l : List UInt8} (h : s.data.toList = l) : Value.string s = .string ⟨l.toArray⟩ := by
  obtain ⟨⟨x⟩⟩ := s
  subst h; rfl

end Go.Proofs.YtknjdbpdlodpbacGreatDoor
namespace Go.Proofs.YtknjdbpdlodpbacGreatDoor
open Go.RowKit

/-- The lines of a text, each with its line feed; the last has none (and may be empty). -/
def pcs (l : List UInt8) : List (List UInt8) := Lib.splitK [10] 1 (Lib.count l [10]) l

theorem occAt_nl (a b : List UInt8) : Lib.occAt (a ++ 10 :: b) [10] a.length = true := by
  unfold Lib.occAt
  rw [List.drop_left]
  simp

theorem nl_index_no {l : List UInt8} (h : (Lib.cut l [10]).2.2 = false) : Lib.index l [10] = -1 := by
  unfold Lib.cut at h
  split at h
  · cases h
  · rename_i h'
    have := Lib.index_ge l [10]
    omega

theorem nl_back (l a b : List UInt8) (h : Lib.cut l [10] = (a, b, true)) : l = a ++ 10 :: b := by
  unfold Lib.cut at h
  rcases Lib.index_spec l [10] with ⟨h1, _⟩ | ⟨i, h1, h2, h3, _⟩
  · rw [h1, if_neg (by omega)] at h; cases h
  · rw [h1, if_pos (by omega)] at h
    simp only [Int.toNat_natCast, List.length_cons, List.length_nil, Prod.mk.injEq] at h
    obtain ⟨rfl, rfl, _⟩ := h
    unfold Lib.occAt at h3
    rcases hd : l.drop i with _ | ⟨x, r⟩
    · rw [hd] at h3; cases h3
    · rw [hd] at h3
      simp at h3
      subst h3
      have : l.drop (i + 1) = r := by rw [← List.drop_drop, hd]; rfl
      rw [show i + (0 + 1) = i + 1 from rfl, this, ← hd, List.take_append_drop]

theorem nl_whole (l a b : List UInt8) (h : Lib.cut l [10] = (a, b, false)) : a = l := by
  unfold Lib.cut at h
  split at h
  · cases h
  · injection h with h _; exact h.symm

theorem nl_first {l a b : List UInt8} (h : Lib.cut l [10] = (a, b, true)) : (10 : UInt8) ∉ a ∧ Lib.index l [10] = a.length := by
  have hl := nl_back l a b h
  unfold Lib.cut at h
  rcases Lib.index_spec l [10] with ⟨h1, _⟩ | ⟨i, h1, h2, _, h4⟩
  · rw [h1, if_neg (by omega)] at h; cases h
  · rw [h1, if_pos (by omega)] at h
    simp only [Int.toNat_natCast, Prod.mk.injEq] at h
    obtain ⟨ha, _, _⟩ := h
    have hal : a.length = i := by rw [← ha, List.length_take]; omega
    refine ⟨fun hm => ?_, by rw [h1, hal]⟩
    obtain ⟨j, hj, e⟩ := List.getElem_of_mem hm
    have h5 := h4 j (by omega)
    unfold Lib.occAt at h5
    have : l.drop j = 10 :: (a.drop (j + 1) ++ 10 :: b) := by
      rw [hl, List.drop_append_of_le_length (by omega), List.drop_eq_getElem_cons hj, e]
      rfl
    rw [this] at h5
    cases h5

theorem nl_none {l : List UInt8} (h : (Lib.cut l [10]).2.2 = false) : (10 : UInt8) ∉ l := by
  intro hm
  have hi := nl_index_no h
  obtain ⟨s, t, rfl⟩ := List.append_of_mem hm
  rcases Lib.index_spec (s ++ 10 :: t) [10] with ⟨_, h2⟩ | ⟨i, h1, _⟩
  · have := h2 s.length (by simp)
    rw [occAt_nl] at this; cases this
  · rw [hi] at h1; omega

theorem pcs_no {l a b : List UInt8} (h : Lib.cut l [10] = (a, b, false)) : pcs l = [l] := by
  have hi := nl_index_no (l := l) (by rw [h])
  unfold pcs
  rw [Lib.count_miss hi]
  rfl

theorem pcs_yes {l a b : List UInt8} (h : Lib.cut l [10] = (a, b, true)) : pcs l = (a ++ [10]) :: pcs b := by
  obtain ⟨_, hi⟩ := nl_first h
  have hl := nl_back l a b h
  have hd : l.drop (a.length + 1) = b := by rw [hl, List.drop_append]; simp
  have ht : l.take (a.length + 1) = a ++ [10] := by rw [hl, List.take_append]; simp [List.take_of_length_le]
  have hc : Lib.count l [10] = Lib.count b [10] + 1 := by
    rw [Lib.count_hit (by simp) hi]
    show 1 + Lib.count (l.drop (a.length + 1)) [10] = _
    rw [hd]; omega
  unfold pcs
  rw [hc, Lib.splitK, hi]
  have hm : ¬ ((a.length : Int) == -1) = true := by rw [beq_iff_eq]; omega
  rw [if_neg hm]
  simp only [Int.toNat_natCast, List.length_cons, List.length_nil]
  rw [ht]
  show (a ++ [10]) :: Lib.splitK [10] 1 (Lib.count b [10]) (l.drop (a.length + 1)) = _
  rw [hd]

theorem lines_ref (l : List UInt8) (w : World) (hL : ∃ m, w.cell? ⟨2, 0, none⟩ = some (.int .i64 m)) (hl : l.length ≤ 30000) :
    Calls Tryz.prog 32 #[.string ⟨l.toArray⟩, .string ⟨#[10]⟩] w fun e w' =>
      e = .returned (.slice (some ⟨w.heap.size, 0, none⟩) (pcs l).length (pcs l).length) ∧ w' = w.alloc (.cells (wvals (pcs l)) 9) := by
  obtain ⟨m, hm⟩ := hL
  have hsz : (⟨l.toArray⟩ : ByteArray).size = l.length := by rw [Lib.size_eq]
  have hcl := Lib.countB_le ⟨#[10]⟩ (by decide) l.length ⟨l.toArray⟩ (by rw [hsz]; exact Nat.le_refl _)
  have h := fun W hW => Tryz.strings_genSplit ⟨l.toArray⟩ ⟨#[10]⟩ 1 (-1) (Lib.countB ⟨l.toArray⟩ ⟨#[10]⟩ + 1) m W (by omega) hW (by decide) (by decide) (by decide) (by decide) (by rw [if_pos (by decide)]; omega)
  have hd : (Lib.splitB ⟨#[10]⟩ 1 (Lib.countB ⟨l.toArray⟩ ⟨#[10]⟩) ⟨l.toArray⟩).map (·.data.toList) = pcs l := Lib.splitB_data ⟨#[10]⟩ 1 _ ⟨l.toArray⟩
  have hn : (Lib.splitB ⟨#[10]⟩ 1 (Lib.countB ⟨l.toArray⟩ ⟨#[10]⟩) ⟨l.toArray⟩).length = Lib.countB ⟨l.toArray⟩ ⟨#[10]⟩ + 1 := Lib.splitB_all _ (by decide) _ _ _ rfl
  have hlen : Lib.countB ⟨l.toArray⟩ ⟨#[10]⟩ + 1 = (pcs l).length := by rw [← hn, ← hd, List.length_map]
  have hv : (Lib.splitB ⟨#[10]⟩ 1 (Lib.countB ⟨l.toArray⟩ ⟨#[10]⟩) ⟨l.toArray⟩).map Value.string = (pcs l).map fun x => Value.string ⟨x.toArray⟩ := by
    rw [← hd, List.map_map]
    refine List.map_congr_left fun s _ => ?_
    exact congrArg Value.string (bytes_eta s)
  have hcells : Lib.cellsOf (Lib.splitB ⟨#[10]⟩ 1 (Lib.countB ⟨l.toArray⟩ ⟨#[10]⟩) ⟨l.toArray⟩) (Lib.countB ⟨l.toArray⟩ ⟨#[10]⟩ + 1) = wvals (pcs l) := by
    unfold Lib.cellsOf wvals
    rw [hn, hv]; simp
  simp only [Nat.add_sub_cancel] at h
  rw [hcells, hn, hlen] at h
  clear hcells hv hlen hn hd hcl hsz
  go_enter Tryz.func32, Tryz.ntmps32
  go_wp2_with fail
  refine (h _ hm).mono ?_
  rintro e w1 ⟨rfl, rfl⟩
  go_wp2
  go_ret
  exact ⟨rfl, rfl⟩

end Go.Proofs.YtknjdbpdlodpbacGreatDoor
namespace Go.Proofs.YtknjdbpdlodpbacGreatDoor
open Go.RowKit

/-- What is read of a ledger's text, behind the entries that were read. -/
def lread : Nat → List UInt8 → List En → List En × Int
  | 0, _, acc => (acc, 0)
  | f + 1, l, acc => if l = [] then (acc, 0) else if (Lib.cut l [10]).2.2 = false then ([], 9) else if (prs (Lib.cut l [10]).1).2 ≠ 0 then ([], (prs (Lib.cut l [10]).1).2)
      else if acc.length = 60 then ([], 2) else lread f (Lib.cut l [10]).2.1 (acc ++ [(prs (Lib.cut l [10]).1).1])

def ledRead (l : List UInt8) : List En × Int := lread (l.length + 1) l []

theorem lread_nil (f : Nat) (acc : List En) : lread (f + 1) [] acc = (acc, 0) := by rw [lread, if_pos rfl]
theorem lread_torn (f : Nat) (acc : List En) {l a b : List UInt8} (hl : l ≠ []) (h : Lib.cut l [10] = (a, b, false)) : lread (f + 1) l acc = ([], 9) := by rw [lread, if_neg hl, if_pos (by rw [h])]
theorem lread_bad (f : Nat) (acc : List En) {l a b : List UInt8} (hl : l ≠ []) (h : Lib.cut l [10] = (a, b, true)) (hp : (prs a).2 ≠ 0) : lread (f + 1) l acc = ([], (prs a).2) := by
  rw [lread, if_neg hl, if_neg (by rw [h]; simp), h, if_pos hp]
theorem lread_many (f : Nat) (acc : List En) {l a b : List UInt8} (hl : l ≠ []) (h : Lib.cut l [10] = (a, b, true)) (hp : (prs a).2 = 0) (hm : acc.length = 60) : lread (f + 1) l acc = ([], 2) := by
  rw [lread, if_neg hl, if_neg (by rw [h]; simp), h, if_neg (by simp [hp]), if_pos hm]
theorem lread_more (f : Nat) (acc : List En) {l a b : List UInt8} (hl : l ≠ []) (h : Lib.cut l [10] = (a, b, true)) (hp : (prs a).2 = 0) (hm : acc.length ≠ 60) : lread (f + 1) l acc = lread f b (acc ++ [(prs a).1]) := by
  rw [lread, if_neg hl, if_neg (by rw [h]; simp), h, if_neg (by simp [hp]), if_neg hm]

theorem infoEntry : (Tryz.prog.info? 26).map (fun i => (i.zero, i.size, i.bytes)) = some (some (ev 0 0 0 0 0), 5, 40) := by kernel_rfl

theorem cells_new (w : World) (e : En) (T : TypeId) : ∀ j u, e.cells[j]? = some u → (w.alloc (.cells #[.int .i64 e.k, .int .i64 e.j, .int .i64 e.v, .int .i64 e.t, .int .i64 e.c] T)).cell? ((⟨w.heap.size, 0, none⟩ : Addr).add j) = some u := by
  intro j u hj
  rw [Lib.add_plain, Nat.zero_add, World.cell?_alloc_at _ _ _ _ rfl]
  simpa [En.cells] using hj

/-- The last byte of a text. -/
theorem run_last (a : List UInt8) (z : UInt8) (n : Int) (w : World) (hn : n = a.length) :
    (Instr.index 9 (.string ⟨(a ++ [z]).toArray⟩) (.int .i64 n)).run Tryz.prog w = .ok (.int .u8 z.toNat) w := by
  subst hn
  rw [run_index_string (h := Tryz.underlying9)]
  have hsz : (⟨(a ++ [z]).toArray⟩ : ByteArray).size = a.length + 1 := by rw [Lib.size_eq]; simp
  rw [dif_pos ⟨by omega, by rw [hsz]; omega⟩]
  refine congrArg (fun b : UInt8 => Result.ok (Value.int .u8 (b.toNat : Int)) w) ?_
  show ((a ++ [z]).toArray)[((a.length : Nat) : Int).toNat]'_ = z
  simp

/-- A text but its last byte. -/
theorem run_but_last (a : List UInt8) (z : UInt8) (n : Int) (w : World) (hn : n = a.length) :
    (Instr.slice 9 (.string ⟨(a ++ [z]).toArray⟩) none (some (.int .i64 n)) none).run Tryz.prog w = .ok (.string ⟨a.toArray⟩) w := by
  subst hn
  have hsz : (⟨(a ++ [z]).toArray⟩ : ByteArray).size = a.length + 1 := by rw [Lib.size_eq]; simp
  rw [run_slice_string_h (ht := Tryz.underlying9) (h0 := by omega) (h2 := by rw [hsz]; omega)]
  refine congrArg (fun b : ByteArray => Result.ok (Value.string b) w) ?_
  rw [bytes_eta (ByteArray.extract _ _ _), Lib.extract_data]
  simp

end Go.Proofs.YtknjdbpdlodpbacGreatDoor
