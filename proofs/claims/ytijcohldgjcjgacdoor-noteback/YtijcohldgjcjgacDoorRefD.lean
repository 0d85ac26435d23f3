/- The walk of the reference's EntryRead. -/
import Derived.Test.YtijcohldgjcjgacDoorRefM
import Derived.Maps.AppendAt
import Derived.OwnWalk
namespace Go.Proofs.YtijcohldgjcjgacDoor
open Go.RowKit

/-- Words, as strings in memory. -/
def wvals (ws : List (List UInt8)) : Array Value := (ws.map fun x => Value.string ⟨x.toArray⟩).toArray

theorem bytes_eta (s : ByteArray) : s = ⟨s.data.toList.toArray⟩ := by
  obtain ⟨⟨x⟩⟩ := s; rfl

theorem split_ref (l : List UInt8) (w : World) (hL : ∃ m, w.cell? ⟨2, 0, none⟩ = some (.int .i64 m)) (hl : l.length ≤ 30000) :
    Calls Tryd.prog 37 #[.string ⟨l.toArray⟩, .string ⟨#[32]⟩] w fun e w' =>
      e = .returned (.slice (some ⟨w.heap.size, 0, none⟩) (words l).length (words l).length) ∧ w' = w.alloc (.cells (wvals (words l)) 9) := by
  obtain ⟨m, hm⟩ := hL
  have h := Tryd.strings_Split ⟨l.toArray⟩ ⟨#[32]⟩ m w (by simp [Lib.size_eq]; omega) hm (by decide)
  have hd : (Lib.splitB ⟨#[32]⟩ 0 (Lib.countB ⟨l.toArray⟩ ⟨#[32]⟩) ⟨l.toArray⟩).map (·.data.toList) = words l := Lib.splitB_data ⟨#[32]⟩ 0 _ ⟨l.toArray⟩
  have hn : (Lib.splitB ⟨#[32]⟩ 0 (Lib.countB ⟨l.toArray⟩ ⟨#[32]⟩) ⟨l.toArray⟩).length = Lib.countB ⟨l.toArray⟩ ⟨#[32]⟩ + 1 := Lib.splitB_all _ (by decide) _ _ _ rfl
  have hlen : Lib.countB ⟨l.toArray⟩ ⟨#[32]⟩ + 1 = (words l).length := by rw [← hn, ← hd, List.length_map]
  have hv : (Lib.splitB ⟨#[32]⟩ 0 (Lib.countB ⟨l.toArray⟩ ⟨#[32]⟩) ⟨l.toArray⟩).map Value.string = (words l).map fun x => Value.string ⟨x.toArray⟩ := by
    rw [← hd, List.map_map]
    refine List.map_congr_left fun s _ => ?_
    exact congrArg Value.string (bytes_eta s)
  rw [hlen, hv] at h
  exact h

theorem infoInt : (Tryd.prog.info? 3).map (fun i => (i.zero, i.size, i.bytes)) = some (some (.int .i64 0), 1, 8) := by kernel_rfl

theorem undrew {B : Nat} {a w : World} (h : Below B a.drew w) : Below B a w := ⟨h.os, h.tape, h.output, h.size, h.block⟩

theorem wvals_at (ws : List (List UInt8)) (i : Nat) (h : i < ws.length) : (wvals ws)[i]? = some (.string ⟨(ws.getD i []).toArray⟩) := by
  unfold wvals
  simp [List.getElem?_eq_getElem h, List.getD_eq_getElem?_getD]

theorem getD_mem (ws : List (List UInt8)) (i : Nat) (h : i < ws.length) : ws.getD i [] ∈ ws := by
  rw [List.getD_eq_getElem?_getD, List.getElem?_eq_getElem h]
  exact List.getElem_mem h

set_option maxHeartbeats 4000000 in
theorem ref_readN (l : List UInt8) (ws : List (List UInt8)) (n1 : Nat) (w : World) (hL : Laid w) (hl : l.length ≤ 30000) (hws : words l = ws) (hn1 : ws.length = n1 + 1) (hpos : 0 < n1) :
    Calls Tryd.prog 22 #[.string ⟨l.toArray⟩] w fun e w' => e = .returned (.tuple #[(prs l).1.val, .int .i64 (prs l).2]) ∧ Below w.heap.size w w' := by
  obtain ⟨i0, hi, hz0, hz1, hz2⟩ := info_parts infoInt
  have HQ : Hid ((rdW ws = none → prs l = (En.zero, 1)) ∧ ∀ r, rdW ws = some r → prs l = if (rdEn r).chk = 0 then (rdEn r, 0) else (En.zero, (rdEn r).chk)) := by
    subst hws; exact ⟨prs_none hl, fun r => prs_some hl⟩
  have hsp := fun W hW => split_ref l W hW hl
  have HW : Hid (∀ x, x ∈ ws → x.length ≤ 30000) := fun x hx => by
    obtain ⟨_, wnl, _⟩ := words_props l.length l (Nat.le_refl _)
    rw [hws] at wnl
    exact Nat.le_trans (wnl x hx).2 hl
  have hn2 : n1 ≤ 40000 := by
    have hc := Lib.count_le l [32]
    have hw : (words l).length ≤ Lib.count l [32] + 1 := by
      have h1 := Lib.splitB_all ⟨#[32]⟩ (by decide) 0 _ ⟨l.toArray⟩ rfl
      have h2 : (Lib.splitB ⟨#[32]⟩ 0 (Lib.countB ⟨l.toArray⟩ ⟨#[32]⟩) ⟨l.toArray⟩).map (·.data.toList) = words l := Lib.splitB_data ⟨#[32]⟩ 0 _ ⟨l.toArray⟩
      rw [← h2, List.length_map, h1]
      exact Nat.le_refl _
    rw [hws] at hw
    omega
  rw [hws, hn1] at hsp
  have HN : Hid (ws.length = n1 + 1) := hn1
  clear hn1 hws
  go_enter Tryd.func22, Tryd.ntmps22
  go_wp2_with fail
  refine (hsp _ (hL.later (grew (Below.refl _ _) _)).most).mono ?_
  rintro e w1 ⟨rfl, hw1⟩
  clear hsp
  go_wp2
  have hB0 : Below w.heap.size w w1 := by rw [hw1]; exact grew (grew (Below.refl _ _) _) _
  have hR0 : w1.heap[w.heap.size]? = some (boxE 0 0 0 0 0) := by rw [hw1]; exact heap_old (heap_new _ _) _
  have hW0 : w1.heap[w.heap.size + 1]? = some (.cells (wvals ws) 9) := by
    rw [hw1]
    have := heap_new (w.alloc (boxE 0 0 0 0 0)) (.cells (wvals ws) 9)
    rwa [World.size_alloc] at this
  have hS0 : w.heap.size + 2 ≤ w1.heap.size := by rw [hw1]; simp
  rw [← hw1]
  have HI : Hid (_ ∧ _ ∧ _ ∧ _) := ⟨hB0, hR0, hW0, hS0⟩
  clear hB0 hR0 hW0 hw1 hS0
  go_loopw [4, 17] (fun v i wr => ∃ (n : Nat) (vs : List Int) (ao : Option Addr) (cv : Nat), n ≤ n1 ∧ vs.length = n ∧ i = .int .i64 n ∧ v = .slice ao n cv ∧ wr.ownsRow (w.heap.size + 2) 3 1 (.slice ao n cv) n (vs.map (Value.int .i64)) ∧
    wr.heap[w.heap.size]? = some (boxE 0 0 0 0 0) ∧ wr.heap[w.heap.size + 1]? = some (.cells (wvals ws) 9) ∧ Below w.heap.size w wr ∧ w.heap.size + 2 ≤ wr.heap.size ∧ Hid (∀ i, i < n → numOf (ws.getD (i + 1) []) = some (vs.getD i 0))) (fun _ i _ => n1 - (intOf i).toNat)
  case atStart => exact ⟨0, [], none, 0, Nat.zero_le _, rfl, rfl, rfl, World.ownsRow_nil _ _ _ _, HI.out.2.1, HI.out.2.2.1, HI.out.1, HI.out.2.2.2, fun i hi => absurd hi (Nat.not_lt_zero _)⟩
  case round =>
    clear HI
    obtain ⟨n, vs, ao, cv, hn, hvs, rfl, rfl, hown, hR, hWb, hB, hS, hnum⟩ := hrel
    have hLr := hL.later hB
    by_cases hlt : n < n1
    · have hi1 : n + 1 < ws.length := by have := HN.out; omega
      have hmem := HW.out _ (getD_mem ws (n + 1) hi1)
      have cW : wr.cell? ⟨w.heap.size + 1, 1 + n, none⟩ = some (.string ⟨(ws.getD (n + 1) []).toArray⟩) := by
        rw [Joins.cell_of_block hWb, show 1 + n = n + 1 from Nat.add_comm _ _]; exact wvals_at ws (n + 1) hi1
      cases hx : numOf (ws.getD (n + 1) []) with
      | none =>
        have HF : Hid (prs l = (En.zero, 1)) := HQ.out.1 (rdW_bad (i := n + 1) (by omega) hi1 hx)
        have hwh := fun W hW => whole_no (ws.getD (n + 1) []) W hW hmem hx
        clear hx hi1 hmem hnum
        generalize ws.getD (n + 1) [] = x at *
        go_wp2_with fail
        refine (hwh _ hLr).mono ?_
        rintro e w3 ⟨m, rfl, hb3⟩
        clear hwh hLr hL cW
        have hR3 := heap_below hR hb3 (heap_lt hR)
        have hB3 := hB.trans (hb3.mono hB.size)
        clear hR hB hWb hown hb3
        have cR : ∀ i, w3.cell? ⟨w.heap.size, i, none⟩ = #[Value.int .i64 0, .int .i64 0, .int .i64 0, .int .i64 0, .int .i64 0][i]? := fun i => Joins.cell_of_block hR3 i
        have fR : ∀ i, w3.frozen? ⟨w.heap.size, i, none⟩ = false := fun i => Joins.unfrozen_of_block hR3 i
        go_wp2
        refine ret_entry Tryd.results22 rfl rfl rfl (five_stores hR3 0 0 0 0 0) ⟨by rw [HF.out]; rfl, ?_⟩
        exact below_five hB3 (Nat.le_refl _) _ _ _ _ _
      | some x =>
        have hwh := fun W hW => whole_yes (ws.getD (n + 1) []) x W hW hmem hx
        have hx' : Hid (numOf (ws.getD (n + 1) []) = some x) := hx
        clear hx hi1 hmem
        go_wp2_with fail
        refine (hwh _ hLr).mono ?_
        rintro e w3 ⟨rfl, hb3⟩
        clear hwh hLr cW
        have hR3 := heap_below hR hb3 (heap_lt hR)
        have hW3 := heap_below hWb hb3 (heap_lt hWb)
        have hB3 := hB.trans (hb3.mono hB.size)
        have hO3 := ownsRow_later hown hb3
        have hS3 : w.heap.size + 2 ≤ w3.heap.size := Nat.le_trans hS hb3.size
        clear hR hB hWb hown hb3
        go_wp2_with (first
          | (at_builtin; refine wpList_append_own _ rfl _ _ 63 rfl (w.heap.size + 2) 3 i0 (.int .i64 0) 1 8 Tryd.underlying63 hi hz0 hz1 hz2 rfl (by decide) _ _ _ rfl (hO3.alloc _) ⟨w3.heap.size, 0, none⟩ 1 1 [.int .i64 x] rfl rfl (cell_one_new _ _ _) (fun u hu => by simp at hu; subst hu; rfl) (by unfold maxLen; omega) (by omega) (by simp; omega) ?_; intro v' w4 hown' hgrow hnil))
        have hB4 : Below w.heap.size w w4 := (grew hB3 _).grown hgrow (by simp; omega) (fun q hq => by have := (hO3.lt q hq).1; omega)
        have hR4 : w4.heap[w.heap.size]? = some (boxE 0 0 0 0 0) := by
          rw [hgrow.block _ (by simp; omega) (fun e => by have := (hO3.lt _ e.symm).1; omega)]; exact heap_old hR3 _
        have hW4 : w4.heap[w.heap.size + 1]? = some (.cells (wvals ws) 9) := by
          rw [hgrow.block _ (by simp; omega) (fun e => by have := (hO3.lt _ e.symm).1; omega)]; exact heap_old hW3 _
        have hS4 : w.heap.size + 2 ≤ w4.heap.size := by have := hgrow.size; simp at this; omega
        obtain ⟨g4, cap4, hv4⟩ := Joins.ownsRow_form hown' (by omega)
        rw [hv4] at hown'
        have hO4 : w4.ownsRow (w.heap.size + 2) 3 1 (.slice (some ⟨g4, 0, none⟩) (n + 1) cap4) (n + 1) ((vs ++ [x]).map (Value.int .i64)) := by rw [List.map_append]; exact hown'
        have hnum4 : Hid (∀ i, i < n + 1 → numOf (ws.getD (i + 1) []) = some ((vs ++ [x]).getD i 0)) := by
          intro i hi
          by_cases e : i = n
          · subst e; rw [hx'.out]; rw [List.getD_eq_getElem?_getD, List.getElem?_append_right (by omega), hvs]; simp
          · rw [hnum.out i (by omega), List.getD_eq_getElem?_getD, List.getD_eq_getElem?_getD, List.getElem?_append_left (by omega)]
        go_roundw
        case rel => exact ⟨n + 1, vs ++ [x], some ⟨g4, 0, none⟩, cap4, by omega, by simp [hvs], by go_num, hv4, hO4, hR4, hW4, hB4, hS4, hnum4⟩
        case measure => simp [intOf]; omega
    · have hnn : n = n1 := by omega
      subst hnn
      have c5 : wr.cell? ⟨w.heap.size + 1, 0, none⟩ = some (.string ⟨(ws.getD 0 []).toArray⟩) := by
        rw [Joins.cell_of_block hWb]; exact wvals_at ws 0 (by have := HN.out; omega)
      have hltR : w.heap.size < wr.heap.size := by omega
      have hltW : w.heap.size + 1 < wr.heap.size := by omega
      have cR : ∀ i, wr.cell? ⟨w.heap.size, i, none⟩ = #[Value.int .i64 0, .int .i64 0, .int .i64 0, .int .i64 0, .int .i64 0][i]? := fun i => Joins.cell_of_block hR i
      have fR : ∀ i, wr.frozen? ⟨w.heap.size, i, none⟩ = false := fun i => Joins.unfrozen_of_block hR i
      have hcount := HN.out
      have hkr := kindOf_range (ws.getD 0 [])
      have hnl := nameL_kindOf (ws.getD 0 [])
      generalize hk : kindOf (ws.getD 0 []) = kd at *
      clear hi hz0 hz1 hz2 HW hWb
      rcases hkr with rfl | rfl | rfl | rfl | rfl
      · have HF : Hid (prs l = (En.zero, 1)) := HQ.out.1 (by rw [rdW, hk, if_pos (by omega)])
        have f0 : (ws.getD 0 [] == [106, 117, 110, 107]) = false := by
          rw [beq_eq_false_iff_ne]; intro e; rw [e] at hk; exact absurd hk (by decide)
        have f1 : (ws.getD 0 [] == [112, 117, 116]) = false := by
          rw [beq_eq_false_iff_ne]; intro e; rw [e] at hk; exact absurd hk (by decide)
        have f2 : (ws.getD 0 [] == [100, 114, 111, 112]) = false := by
          rw [beq_eq_false_iff_ne]; intro e; rw [e] at hk; exact absurd hk (by decide)
        have f3 : (ws.getD 0 [] == [114, 105, 110, 103]) = false := by
          rw [beq_eq_false_iff_ne]; intro e; rw [e] at hk; exact absurd hk (by decide)
        clear hk hnl hcount hnum hown HQ HN
        generalize ws.getD 0 [] = y at *
        go_wp2
        refine ret_entry Tryd.results22 rfl rfl rfl (heap_old (five_stores hR 0 0 0 0 0) _) ⟨by rw [HF.out]; rfl, ?_⟩
        exact grew (below_five hB (Nat.le_refl _) _ _ _ _ _) _
      · have hy : ws.getD 0 [] = [106, 117, 110, 107] := (hnl (by omega)).symm
        have HF : Hid (prs l = (En.zero, 1)) := HQ.out.1 (by rw [rdW, hk, if_pos (by rw [show cntOf 0 = 0 from rfl]; omega)])
        have hne : ((n : Int) == 0) = false := by rw [beq_eq_false_iff_ne]; omega
        rw [hy] at c5
        clear hk hnl hcount hnum hown HQ HN hy
        go_wp2
        refine ret_entry Tryd.results22 rfl rfl rfl (heap_old (five_stores hR 0 0 0 0 0) _) ⟨by rw [HF.out]; rfl, ?_⟩
        exact grew (below_five hB (Nat.le_refl _) _ _ _ _ _) _
      · have hy : ws.getD 0 [] = [112, 117, 116] := (hnl (by omega)).symm
        rw [hy] at c5
        by_cases hm : n = 3
        · subst hm
          have hcnt : ws.length = 1 + cntOf 1 := by rw [show cntOf 1 = 3 from rfl]; omega
          match vs, hvs with
          | [a, b, c], _ =>
          have hrd : rdW ws = some (1, a, b, c) := rdW_some hk (by omega) hcnt (by rw [nAt, if_pos (by omega)]; exact hnum.out 0 (by omega)) (by rw [nAt, if_pos (by omega)]; exact hnum.out 1 (by omega)) (by rw [nAt, if_pos (by omega)]; exact hnum.out 2 (by omega))
          have hpr := HQ.out.2 _ hrd
          obtain ⟨g, cap, hv⟩ := Joins.ownsRow_form hown (by omega)
          cases hv
          have k0 : wr.cell? ⟨g, 0, none⟩ = some (.int .i64 a) := hown.cellAt 0 (by omega)
          have k1 : wr.cell? ⟨g, 1, none⟩ = some (.int .i64 b) := hown.cellAt 1 (by omega)
          have k2 : wr.cell? ⟨g, 2, none⟩ = some (.int .i64 c) := hown.cellAt 2 (by omega)
          clear hrd hcnt hcount hnl hnum HQ HN hk hy hvs
          have hlg : g < wr.heap.size := (hown.lt g rfl).2
          clear hown
          obtain ⟨cn, hc⟩ : ∃ cn, chk 1 a b c 0 = cn := ⟨_, rfl⟩
          by_cases hz : cn = 0
          · subst hz
            have HF : Hid (prs l = (⟨1, a, b, c, 0⟩, 0)) := by rw [hpr]; exact if_pos hc
            have hch : ∀ W, Calls Tryd.prog 32 #[ev 1 a b c 0] W fun e w' => e = .returned (.int .i64 0) ∧ Below W.heap.size W w' := fun W => by have := ref_check 1 a b c 0 W; rw [hc] at this; exact this
            clear hpr hc
            go_wp2
            go_region
            go_wp2_with fail
            refine (hch _).mono ?_
            rintro e w5 ⟨rfl, hb5⟩
            clear hch
            have hb6 : Below (wr.alloc (boxE 1 a b c 0)).heap.size (wr.alloc (boxE 1 a b c 0)) w5 := undrew hb5
            clear hb5
            have hE5 : w5.heap[wr.heap.size]? = some (boxE 1 a b c 0) := by rw [hb6.block _ (by simp)]; exact heap_new _ _
            have hR5 : w5.heap[w.heap.size]? = some (boxE 0 0 0 0 0) := by rw [hb6.block _ (by simp; omega)]; exact heap_old hR _
            have hB5 : Below w.heap.size w w5 := (grew hB _).trans (hb6.mono (by simp; omega))
            generalize wr.heap.size = eb at *
            clear hb6 cR fR hR hB c5
            have cR5 : ∀ i, w5.cell? ⟨w.heap.size, i, none⟩ = #[Value.int .i64 0, .int .i64 0, .int .i64 0, .int .i64 0, .int .i64 0][i]? := fun i => Joins.cell_of_block hR5 i
            have fR5 : ∀ i, w5.frozen? ⟨w.heap.size, i, none⟩ = false := fun i => Joins.unfrozen_of_block hR5 i
            have cE5 : ∀ i, w5.cell? ⟨eb, i, none⟩ = #[Value.int .i64 1, .int .i64 a, .int .i64 b, .int .i64 c, .int .i64 0][i]? := fun i => Joins.cell_of_block hE5 i
            go_wp2
            exact ret_entry Tryd.results22 rfl rfl rfl (five_stores hR5 1 a b c 0) ⟨by rw [HF.out]; rfl, below_five hB5 (Nat.le_refl _) _ _ _ _ _⟩
          · have HF : Hid (prs l = (En.zero, cn)) := by
              rw [hpr]
              show (if chk 1 a b c 0 = 0 then _ else (En.zero, chk 1 a b c 0)) = _
              rw [hc, if_neg hz]
            have hzb : (cn != 0) = true := by rw [bne_iff_ne]; exact hz
            have hch : ∀ W, Calls Tryd.prog 32 #[ev 1 a b c 0] W fun e w' => e = .returned (.int .i64 cn) ∧ Below W.heap.size W w' := fun W => by have := ref_check 1 a b c 0 W; rw [hc] at this; exact this
            clear hpr hc hz
            go_wp2
            go_region
            go_wp2_with fail
            refine (hch _).mono ?_
            rintro e w5 ⟨rfl, hb5⟩
            clear hch
            have hb6 : Below (wr.alloc (boxE 1 a b c 0)).heap.size (wr.alloc (boxE 1 a b c 0)) w5 := undrew hb5
            clear hb5
            have hE5 : w5.heap[wr.heap.size]? = some (boxE 1 a b c 0) := by rw [hb6.block _ (by simp)]; exact heap_new _ _
            have hR5 : w5.heap[w.heap.size]? = some (boxE 0 0 0 0 0) := by rw [hb6.block _ (by simp; omega)]; exact heap_old hR _
            have hB5 : Below w.heap.size w w5 := (grew hB _).trans (hb6.mono (by simp; omega))
            generalize wr.heap.size = eb at *
            clear hb6 cR fR hR hB c5
            have cR5 : ∀ i, w5.cell? ⟨w.heap.size, i, none⟩ = #[Value.int .i64 0, .int .i64 0, .int .i64 0, .int .i64 0, .int .i64 0][i]? := fun i => Joins.cell_of_block hR5 i
            have fR5 : ∀ i, w5.frozen? ⟨w.heap.size, i, none⟩ = false := fun i => Joins.unfrozen_of_block hR5 i
            have cE5 : ∀ i, w5.cell? ⟨eb, i, none⟩ = #[Value.int .i64 1, .int .i64 a, .int .i64 b, .int .i64 c, .int .i64 0][i]? := fun i => Joins.cell_of_block hE5 i
            go_wp2
            exact ret_entry Tryd.results22 rfl rfl rfl (five_stores hR5 0 0 0 0 0) ⟨by rw [HF.out]; rfl, below_five hB5 (Nat.le_refl _) _ _ _ _ _⟩
        · have HF : Hid (prs l = (En.zero, 1)) := HQ.out.1 (by rw [rdW, hk, if_pos (by rw [show cntOf 1 = 3 from rfl]; omega)])
          have hne : ((n : Int) == 3) = false := by rw [beq_eq_false_iff_ne]; omega
          clear hk hnl hcount hnum hown HQ HN hy hm
          go_wp2
          refine ret_entry Tryd.results22 rfl rfl rfl (heap_old (five_stores hR 0 0 0 0 0) _) ⟨by rw [HF.out]; rfl, ?_⟩
          exact grew (below_five hB (Nat.le_refl _) _ _ _ _ _) _
      · have hy : ws.getD 0 [] = [100, 114, 111, 112] := (hnl (by omega)).symm
        rw [hy] at c5
        by_cases hm : n = 1
        · subst hm
          have hcnt : ws.length = 1 + cntOf 2 := by rw [show cntOf 2 = 1 from rfl]; omega
          match vs, hvs with
          | [a], _ =>
          have hrd : rdW ws = some (2, a, 0, 0) := rdW_some hk (by omega) hcnt (by rw [nAt, if_pos (by omega)]; exact hnum.out 0 (by omega)) (by rw [nAt, if_neg (by omega)]) (by rw [nAt, if_neg (by omega)])
          have hpr := HQ.out.2 _ hrd
          obtain ⟨g, cap, hv⟩ := Joins.ownsRow_form hown (by omega)
          cases hv
          have k0 : wr.cell? ⟨g, 0, none⟩ = some (.int .i64 a) := hown.cellAt 0 (by omega)
          clear hrd hcnt hcount hnl hnum HQ HN hk hy hvs
          have hlg : g < wr.heap.size := (hown.lt g rfl).2
          clear hown
          obtain ⟨cn, hc⟩ : ∃ cn, chk 2 a 0 0 0 = cn := ⟨_, rfl⟩
          by_cases hz : cn = 0
          · subst hz
            have HF : Hid (prs l = (⟨2, a, 0, 0, 0⟩, 0)) := by rw [hpr]; exact if_pos hc
            have hch : ∀ W, Calls Tryd.prog 32 #[ev 2 a 0 0 0] W fun e w' => e = .returned (.int .i64 0) ∧ Below W.heap.size W w' := fun W => by have := ref_check 2 a 0 0 0 W; rw [hc] at this; exact this
            clear hpr hc
            go_wp2_with fail
            refine (hch _).mono ?_
            rintro e w5 ⟨rfl, hb5⟩
            clear hch
            have hb6 : Below (wr.alloc (boxE 2 a 0 0 0)).heap.size (wr.alloc (boxE 2 a 0 0 0)) w5 := hb5
            clear hb5
            have hE5 : w5.heap[wr.heap.size]? = some (boxE 2 a 0 0 0) := by rw [hb6.block _ (by simp)]; exact heap_new _ _
            have hR5 : w5.heap[w.heap.size]? = some (boxE 0 0 0 0 0) := by rw [hb6.block _ (by simp; omega)]; exact heap_old hR _
            have hB5 : Below w.heap.size w w5 := (grew hB _).trans (hb6.mono (by simp; omega))
            generalize wr.heap.size = eb at *
            clear hb6 cR fR hR hB c5
            have cR5 : ∀ i, w5.cell? ⟨w.heap.size, i, none⟩ = #[Value.int .i64 0, .int .i64 0, .int .i64 0, .int .i64 0, .int .i64 0][i]? := fun i => Joins.cell_of_block hR5 i
            have fR5 : ∀ i, w5.frozen? ⟨w.heap.size, i, none⟩ = false := fun i => Joins.unfrozen_of_block hR5 i
            have cE5 : ∀ i, w5.cell? ⟨eb, i, none⟩ = #[Value.int .i64 2, .int .i64 a, .int .i64 0, .int .i64 0, .int .i64 0][i]? := fun i => Joins.cell_of_block hE5 i
            go_wp2
            exact ret_entry Tryd.results22 rfl rfl rfl (five_stores hR5 2 a 0 0 0) ⟨by rw [HF.out]; rfl, below_five hB5 (Nat.le_refl _) _ _ _ _ _⟩
          · have HF : Hid (prs l = (En.zero, cn)) := by
              rw [hpr]
              show (if chk 2 a 0 0 0 = 0 then _ else (En.zero, chk 2 a 0 0 0)) = _
              rw [hc, if_neg hz]
            have hzb : (cn != 0) = true := by rw [bne_iff_ne]; exact hz
            have hch : ∀ W, Calls Tryd.prog 32 #[ev 2 a 0 0 0] W fun e w' => e = .returned (.int .i64 cn) ∧ Below W.heap.size W w' := fun W => by have := ref_check 2 a 0 0 0 W; rw [hc] at this; exact this
            clear hpr hc hz
            go_wp2_with fail
            refine (hch _).mono ?_
            rintro e w5 ⟨rfl, hb5⟩
            clear hch
            have hb6 : Below (wr.alloc (boxE 2 a 0 0 0)).heap.size (wr.alloc (boxE 2 a 0 0 0)) w5 := hb5
            clear hb5
            have hE5 : w5.heap[wr.heap.size]? = some (boxE 2 a 0 0 0) := by rw [hb6.block _ (by simp)]; exact heap_new _ _
            have hR5 : w5.heap[w.heap.size]? = some (boxE 0 0 0 0 0) := by rw [hb6.block _ (by simp; omega)]; exact heap_old hR _
            have hB5 : Below w.heap.size w w5 := (grew hB _).trans (hb6.mono (by simp; omega))
            generalize wr.heap.size = eb at *
            clear hb6 cR fR hR hB c5
            have cR5 : ∀ i, w5.cell? ⟨w.heap.size, i, none⟩ = #[Value.int .i64 0, .int .i64 0, .int .i64 0, .int .i64 0, .int .i64 0][i]? := fun i => Joins.cell_of_block hR5 i
            have fR5 : ∀ i, w5.frozen? ⟨w.heap.size, i, none⟩ = false := fun i => Joins.unfrozen_of_block hR5 i
            have cE5 : ∀ i, w5.cell? ⟨eb, i, none⟩ = #[Value.int .i64 2, .int .i64 a, .int .i64 0, .int .i64 0, .int .i64 0][i]? := fun i => Joins.cell_of_block hE5 i
            go_wp2
            exact ret_entry Tryd.results22 rfl rfl rfl (five_stores hR5 0 0 0 0 0) ⟨by rw [HF.out]; rfl, below_five hB5 (Nat.le_refl _) _ _ _ _ _⟩
        · have HF : Hid (prs l = (En.zero, 1)) := HQ.out.1 (by rw [rdW, hk, if_pos (by rw [show cntOf 2 = 1 from rfl]; omega)])
          have hne : ((n : Int) == 1) = false := by rw [beq_eq_false_iff_ne]; omega
          clear hk hnl hcount hnum hown HQ HN hy hm
          go_wp2
          refine ret_entry Tryd.results22 rfl rfl rfl (heap_old (five_stores hR 0 0 0 0 0) _) ⟨by rw [HF.out]; rfl, ?_⟩
          exact grew (below_five hB (Nat.le_refl _) _ _ _ _ _) _
      · have hy : ws.getD 0 [] = [114, 105, 110, 103] := (hnl (by omega)).symm
        rw [hy] at c5
        by_cases hm : n = 3
        · subst hm
          have hcnt : ws.length = 1 + cntOf 3 := by rw [show cntOf 3 = 3 from rfl]; omega
          match vs, hvs with
          | [a, b, c], _ =>
          have hrd : rdW ws = some (3, a, b, c) := rdW_some hk (by omega) hcnt (by rw [nAt, if_pos (by omega)]; exact hnum.out 0 (by omega)) (by rw [nAt, if_pos (by omega)]; exact hnum.out 1 (by omega)) (by rw [nAt, if_pos (by omega)]; exact hnum.out 2 (by omega))
          have hpr := HQ.out.2 _ hrd
          obtain ⟨g, cap, hv⟩ := Joins.ownsRow_form hown (by omega)
          cases hv
          have k0 : wr.cell? ⟨g, 0, none⟩ = some (.int .i64 a) := hown.cellAt 0 (by omega)
          have k1 : wr.cell? ⟨g, 1, none⟩ = some (.int .i64 b) := hown.cellAt 1 (by omega)
          have k2 : wr.cell? ⟨g, 2, none⟩ = some (.int .i64 c) := hown.cellAt 2 (by omega)
          clear hrd hcnt hcount hnl hnum HQ HN hk hy hvs
          have hlg : g < wr.heap.size := (hown.lt g rfl).2
          clear hown
          obtain ⟨cn, hc⟩ : ∃ cn, chk 3 a 0 b c = cn := ⟨_, rfl⟩
          by_cases hz : cn = 0
          · subst hz
            have HF : Hid (prs l = (⟨3, a, 0, b, c⟩, 0)) := by rw [hpr]; exact if_pos hc
            have hch : ∀ W, Calls Tryd.prog 32 #[ev 3 a 0 b c] W fun e w' => e = .returned (.int .i64 0) ∧ Below W.heap.size W w' := fun W => by have := ref_check 3 a 0 b c W; rw [hc] at this; exact this
            clear hpr hc
            go_wp2
            go_region
            go_wp2_with fail
            refine (hch _).mono ?_
            rintro e w5 ⟨rfl, hb5⟩
            clear hch
            have hb6 : Below (wr.alloc (boxE 3 a 0 b c)).heap.size (wr.alloc (boxE 3 a 0 b c)) w5 := undrew hb5
            clear hb5
            have hE5 : w5.heap[wr.heap.size]? = some (boxE 3 a 0 b c) := by rw [hb6.block _ (by simp)]; exact heap_new _ _
            have hR5 : w5.heap[w.heap.size]? = some (boxE 0 0 0 0 0) := by rw [hb6.block _ (by simp; omega)]; exact heap_old hR _
            have hB5 : Below w.heap.size w w5 := (grew hB _).trans (hb6.mono (by simp; omega))
            generalize wr.heap.size = eb at *
            clear hb6 cR fR hR hB c5
            have cR5 : ∀ i, w5.cell? ⟨w.heap.size, i, none⟩ = #[Value.int .i64 0, .int .i64 0, .int .i64 0, .int .i64 0, .int .i64 0][i]? := fun i => Joins.cell_of_block hR5 i
            have fR5 : ∀ i, w5.frozen? ⟨w.heap.size, i, none⟩ = false := fun i => Joins.unfrozen_of_block hR5 i
            have cE5 : ∀ i, w5.cell? ⟨eb, i, none⟩ = #[Value.int .i64 3, .int .i64 a, .int .i64 0, .int .i64 b, .int .i64 c][i]? := fun i => Joins.cell_of_block hE5 i
            go_wp2
            exact ret_entry Tryd.results22 rfl rfl rfl (five_stores hR5 3 a 0 b c) ⟨by rw [HF.out]; rfl, below_five hB5 (Nat.le_refl _) _ _ _ _ _⟩
          · have HF : Hid (prs l = (En.zero, cn)) := by
              rw [hpr]
              show (if chk 3 a 0 b c = 0 then _ else (En.zero, chk 3 a 0 b c)) = _
              rw [hc, if_neg hz]
            have hzb : (cn != 0) = true := by rw [bne_iff_ne]; exact hz
            have hch : ∀ W, Calls Tryd.prog 32 #[ev 3 a 0 b c] W fun e w' => e = .returned (.int .i64 cn) ∧ Below W.heap.size W w' := fun W => by have := ref_check 3 a 0 b c W; rw [hc] at this; exact this
            clear hpr hc hz
            go_wp2
            go_region
            go_wp2_with fail
            refine (hch _).mono ?_
            rintro e w5 ⟨rfl, hb5⟩
            clear hch
            have hb6 : Below (wr.alloc (boxE 3 a 0 b c)).heap.size (wr.alloc (boxE 3 a 0 b c)) w5 := undrew hb5
            clear hb5
            have hE5 : w5.heap[wr.heap.size]? = some (boxE 3 a 0 b c) := by rw [hb6.block _ (by simp)]; exact heap_new _ _
            have hR5 : w5.heap[w.heap.size]? = some (boxE 0 0 0 0 0) := by rw [hb6.block _ (by simp; omega)]; exact heap_old hR _
            have hB5 : Below w.heap.size w w5 := (grew hB _).trans (hb6.mono (by simp; omega))
            generalize wr.heap.size = eb at *
            clear hb6 cR fR hR hB c5
            have cR5 : ∀ i, w5.cell? ⟨w.heap.size, i, none⟩ = #[Value.int .i64 0, .int .i64 0, .int .i64 0, .int .i64 0, .int .i64 0][i]? := fun i => Joins.cell_of_block hR5 i
            have fR5 : ∀ i, w5.frozen? ⟨w.heap.size, i, none⟩ = false := fun i => Joins.unfrozen_of_block hR5 i
            have cE5 : ∀ i, w5.cell? ⟨eb, i, none⟩ = #[Value.int .i64 3, .int .i64 a, .int .i64 0, .int .i64 b, .int .i64 c][i]? := fun i => Joins.cell_of_block hE5 i
            go_wp2
            exact ret_entry Tryd.results22 rfl rfl rfl (five_stores hR5 0 0 0 0 0) ⟨by rw [HF.out]; rfl, below_five hB5 (Nat.le_refl _) _ _ _ _ _⟩
        · have HF : Hid (prs l = (En.zero, 1)) := HQ.out.1 (by rw [rdW, hk, if_pos (by rw [show cntOf 3 = 3 from rfl]; omega)])
          have hne : ((n : Int) == 3) = false := by rw [beq_eq_false_iff_ne]; omega
          clear hk hnl hcount hnum hown HQ HN hy hm
          go_wp2
          refine ret_entry Tryd.results22 rfl rfl rfl (heap_old (five_stores hR 0 0 0 0 0) _) ⟨by rw [HF.out]; rfl, ?_⟩
          exact grew (below_five hB (Nat.le_refl _) _ _ _ _ _) _

end Go.Proofs.YtijcohldgjcjgacDoor
