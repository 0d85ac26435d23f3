/- For the law. -/
import Derived.Test.YtmoaobfmopimlafGreatDoorM04
set_option linter.unusedSimpArgs false
set_option linter.unusedVariables false
namespace Go.Proofs.YtmoaobfmopimlafGreatDoor
open Go.RowKit
abbrev box3 (a b c : Int) : Obj := .cells #[.int .i64 a, .int .i64 b, .int .i64 c] 184
def st (ws : List (List UInt8)) (n i : Nat) (m : Int) : Prop := if i < n then nAt ws (i + 1) = some m else m = 0
theorem number_yes (ws : List (List UInt8)) (i : Nat) (v : Int) (w : World) (hL : Laid w) (hs : (wd ws i).size ≤ 30000) (hi : i < ws.length) (hv : nAt ws i = some v) :
  Calls Tryz.prog 296 #[.string (wd ws i)] w fun e w' => e = .returned (.tuple #[.int .i64 v, .bool true]) ∧ Below w.heap.size w w' := by
 have h := number_any (wd ws i) w hL hs
 have h' : numOf (wd ws i).data.toList = some v := by
  rw [nAt, if_pos hi] at hv; exact hv
 rw [h'] at h
 exact h
theorem number_no (ws : List (List UInt8)) (i : Nat) (w : World) (hL : Laid w) (hs : (wd ws i).size ≤ 30000) (hi : i < ws.length) (hv : nAt ws i = none) :
  Calls Tryz.prog 296 #[.string (wd ws i)] w fun e w' => e = .returned (.tuple #[.int .i64 0, .bool false]) ∧ Below w.heap.size w w' := by
 have h := number_any (wd ws i) w hL hs
 have h' : numOf (wd ws i).data.toList = none := by
  rw [nAt, if_pos hi] at hv; exact hv
 rw [h'] at h
 exact h
theorem rdW_some {ws : List (List UInt8)} {kk a b c : Int} (hk : kindOf (ws.getD 0 []) = kk) (h0 : 0 ≤ kk) (hl : ws.length = 1 + cntOf kk) (ha : nAt ws 1 = some a) (hb : nAt ws 2 = some b) (hc : nAt ws 3 = some c) : rdW ws = some (kk, a, b, c) := by
 rw [rdW, hk, if_neg (by omega), ha, hb, hc]; rfl
theorem rdW_none {ws : List (List UInt8)} (h : nAt ws 1 = none ∨ nAt ws 2 = none ∨ nAt ws 3 = none) : rdW ws = none := by
 unfold rdW
 split
 ·rfl
 ·rcases h with h | h | h
  ·rw [h]; rfl
  ·rw [h]; cases nAt ws 1 <;> rfl
  ·rw [h]; cases nAt ws 1 <;> cases nAt ws 2 <;> rfl
set_option maxHeartbeats 4000000 in
theorem read_go0 (l : List UInt8) (ws : List (List UInt8)) (kk : Int) (w : World) (hL : Laid w) (hl : l.length ≤ 30000) (hs : spl 4 l = some ws) (hk : kindOf (ws.getD 0 []) = kk) (hk0 : 0 ≤ kk) (hk3 : kk ≤ 3) (hm : cntOf kk = 0) (hn : ws.length = 1 + 0) :
  Calls Tryz.prog 288 #[.string ⟨l.toArray⟩] w fun e w' => e = .returned (rdV (rdW ws)) ∧ Below w.heap.size w w' := by
 have hsz : ∀ i, (wd ws i).size ≤ 30000 := fun i => Nat.le_trans (wd_size ws i _ (spl_len 4 l ws hs)) hl
 have HS : Hid (∀ i, (wd ws i).size ≤ 30000) := hsz
 have HK : Hid (kindOf (ws.getD 0 []) = kk) := hk
 have HN : Hid (ws.length = 1 + 0) := hn
 have HM : Hid (cntOf kk = 0) := hm
 have hsp := fun W hW => split_any l W hW hl
 rw [hs] at hsp
 have hko := fun W hW => kindOf_any (wd ws 0) W hW
 rw [show kindOf (wd ws 0).data.toList = kk from hk] at hko
 have hct := fun W (h : Laid W) => h.cnt kk hk0 hk3
 rw [hm] at hct
 simp only [Option.getD_some, Option.isSome_some] at hsp
 rw [hn] at hsp
 clear hs hk hn hm hsz
 go_enter Tryz.func288, Tryz.ntmps288
 go_wp2_with fail
 refine (hsp _ (hL.later (grew (Below.refl _ _) _)).most).mono ?_
 rintro e w1 ⟨rfl, hb⟩
 have hR : w1.heap[w.heap.size]? = some (boxE 0 0 0 0 0) := by rw [hb.block _ (by simp)]; exact heap_new _ _
 have hb1 : Below w.heap.size w w1 := (grew (Below.refl _ _) _).trans (hb.mono (by simp))
 have hlt : w.heap.size < w1.heap.size := by have := hb.size; simp at this; omega
 clear hb hsp
 go_wp2_with fail
 refine (hko _ (hL.later (grew hb1 _))).mono ?_
 rintro e w2 ⟨rfl, rfl⟩
 have hcc := hct _ (hL.later hb1)
 have hg : 2 < w1.heap.size := World.block_lt_of_cell? _ _ hcc
 clear hct hko
 go_wp2
 clear hcc hg
 have hW0 : ((w1.alloc (o4 ws)).alloc (box3 0 0 0)).heap[w1.heap.size]? = some (o4 ws) := heap_old (heap_new _ _) _
 have hN0 : ((w1.alloc (o4 ws)).alloc (box3 0 0 0)).heap[w1.heap.size + 1]? = some (box3 0 0 0) := by
  have := heap_new (w1.alloc (o4 ws)) (box3 0 0 0)
  rwa [World.size_alloc] at this
 have hR0 : ((w1.alloc (o4 ws)).alloc (box3 0 0 0)).heap[w.heap.size]? = some (boxE 0 0 0 0 0) := heap_old (heap_old hR _) _
 have hb0 : Below w.heap.size w ((w1.alloc (o4 ws)).alloc (box3 0 0 0)) := grew (grew hb1 _) _
 have HI : Hid (_ ∧ _ ∧ _ ∧ _) := ⟨hW0, hN0, hR0, hb0⟩
 clear hW0 hN0 hR0 hb0 hR hb1
 go_loopw [37] (fun i wr => ∃ (n : Nat) (m0 m1 m2 : Int), n ≤ 0 ∧ i = .int .i64 n ∧ wr.heap[w1.heap.size]? = some (o4 ws) ∧ wr.heap[w1.heap.size + 1]? = some (box3 m0 m1 m2) ∧ wr.heap[w.heap.size]? = some (boxE 0 0 0 0 0) ∧ Below w.heap.size w wr ∧
  Hid (st ws n 0 m0 ∧ st ws n 1 m1 ∧ st ws n 2 m2)) (fun i _ => 3 - (intOf i).toNat)
 case atStart => exact ⟨0, 0, 0, 0, by omega, rfl, HI.out.1, HI.out.2.1, HI.out.2.2.1, HI.out.2.2.2, rfl, rfl, rfl⟩
 case round =>
  clear HI
  obtain ⟨n, m0, m1, m2, hn, rfl, hW, hN, hR, hb, hst⟩ := hrel
  generalize w1.heap.size = wb at *
  have hLr := hL.later hb
  have cW := fun i => Joins.cell_of_block hW i
  have hn' : n = 0 := by omega
  subst hn'
  have HF : Hid (rdW ws = some (kk, m0, m1, m2)) := rdW_some HK.out hk0 (by rw [HM.out]; exact HN.out) (by rw [nAt, if_neg (by have := HN.out; omega)]; exact congrArg some (Eq.symm hst.out.1)) (by rw [nAt, if_neg (by have := HN.out; omega)]; exact congrArg some (Eq.symm hst.out.2.1)) (by rw [nAt, if_neg (by have := HN.out; omega)]; exact congrArg some (Eq.symm hst.out.2.2))
  clear hst HK HN HM HS hLr hL cW hW
  have cN := fun i => Joins.cell_of_block hN i
  go_wp2_with fail
  refine (build_any kk m0 m1 m2 _).mono ?_
  rintro e w3 ⟨rfl, rfl⟩
  clear cN
  have cR := fun i => Joins.cell_of_block hR i
  have fR := fun i => Joins.unfrozen_of_block hR i
  have hltr := heap_lt hR
  go_wp2
  refine ret_entry Tryz.results288 rfl rfl rfl (heap_old (heap_old (five_stores hR _ _ _ _ _) _) _) ⟨by rw [HF.out]; rfl, ?_⟩
  exact grew (grew (below_five hb (Nat.le_refl _) _ _ _ _ _) _) _
set_option maxHeartbeats 4000000 in
theorem read_go1 (l : List UInt8) (ws : List (List UInt8)) (kk : Int) (w : World) (hL : Laid w) (hl : l.length ≤ 30000) (hs : spl 4 l = some ws) (hk : kindOf (ws.getD 0 []) = kk) (hk0 : 0 ≤ kk) (hk3 : kk ≤ 3) (hm : cntOf kk = 1) (hn : ws.length = 1 + 1) :
  Calls Tryz.prog 288 #[.string ⟨l.toArray⟩] w fun e w' => e = .returned (rdV (rdW ws)) ∧ Below w.heap.size w w' := by
 have hsz : ∀ i, (wd ws i).size ≤ 30000 := fun i => Nat.le_trans (wd_size ws i _ (spl_len 4 l ws hs)) hl
 have HS : Hid (∀ i, (wd ws i).size ≤ 30000) := hsz
 have HK : Hid (kindOf (ws.getD 0 []) = kk) := hk
 have HN : Hid (ws.length = 1 + 1) := hn
 have HM : Hid (cntOf kk = 1) := hm
 have hsp := fun W hW => split_any l W hW hl
 rw [hs] at hsp
 have hko := fun W hW => kindOf_any (wd ws 0) W hW
 rw [show kindOf (wd ws 0).data.toList = kk from hk] at hko
 have hct := fun W (h : Laid W) => h.cnt kk hk0 hk3
 rw [hm] at hct
 simp only [Option.getD_some, Option.isSome_some] at hsp
 rw [hn] at hsp
 clear hs hk hn hm hsz
 go_enter Tryz.func288, Tryz.ntmps288
 go_wp2_with fail
 refine (hsp _ (hL.later (grew (Below.refl _ _) _)).most).mono ?_
 rintro e w1 ⟨rfl, hb⟩
 have hR : w1.heap[w.heap.size]? = some (boxE 0 0 0 0 0) := by rw [hb.block _ (by simp)]; exact heap_new _ _
 have hb1 : Below w.heap.size w w1 := (grew (Below.refl _ _) _).trans (hb.mono (by simp))
 have hlt : w.heap.size < w1.heap.size := by have := hb.size; simp at this; omega
 clear hb hsp
 go_wp2_with fail
 refine (hko _ (hL.later (grew hb1 _))).mono ?_
 rintro e w2 ⟨rfl, rfl⟩
 have hcc := hct _ (hL.later hb1)
 have hg : 2 < w1.heap.size := World.block_lt_of_cell? _ _ hcc
 clear hct hko
 go_wp2
 clear hcc hg
 have hW0 : ((w1.alloc (o4 ws)).alloc (box3 0 0 0)).heap[w1.heap.size]? = some (o4 ws) := heap_old (heap_new _ _) _
 have hN0 : ((w1.alloc (o4 ws)).alloc (box3 0 0 0)).heap[w1.heap.size + 1]? = some (box3 0 0 0) := by
  have := heap_new (w1.alloc (o4 ws)) (box3 0 0 0)
  rwa [World.size_alloc] at this
 have hR0 : ((w1.alloc (o4 ws)).alloc (box3 0 0 0)).heap[w.heap.size]? = some (boxE 0 0 0 0 0) := heap_old (heap_old hR _) _
 have hb0 : Below w.heap.size w ((w1.alloc (o4 ws)).alloc (box3 0 0 0)) := grew (grew hb1 _) _
 have HI : Hid (_ ∧ _ ∧ _ ∧ _) := ⟨hW0, hN0, hR0, hb0⟩
 clear hW0 hN0 hR0 hb0 hR hb1
 go_loopw [37] (fun i wr => ∃ (n : Nat) (m0 m1 m2 : Int), n ≤ 1 ∧ i = .int .i64 n ∧ wr.heap[w1.heap.size]? = some (o4 ws) ∧ wr.heap[w1.heap.size + 1]? = some (box3 m0 m1 m2) ∧ wr.heap[w.heap.size]? = some (boxE 0 0 0 0 0) ∧ Below w.heap.size w wr ∧
  Hid (st ws n 0 m0 ∧ st ws n 1 m1 ∧ st ws n 2 m2)) (fun i _ => 3 - (intOf i).toNat)
 case atStart => exact ⟨0, 0, 0, 0, by omega, rfl, HI.out.1, HI.out.2.1, HI.out.2.2.1, HI.out.2.2.2, rfl, rfl, rfl⟩
 case round =>
  clear HI
  obtain ⟨n, m0, m1, m2, hn, rfl, hW, hN, hR, hb, hst⟩ := hrel
  generalize w1.heap.size = wb at *
  have hLr := hL.later hb
  have cW := fun i => Joins.cell_of_block hW i
  have hn' : n = 0 ∨ n = 1 := by omega
  rcases hn' with rfl | rfl
  ·have hi : 1 < ws.length := by have := HN.out; omega
   cases hx : nAt ws 1 with
   | none =>
    have HF : Hid (rdW ws = none) := rdW_none (Or.inl hx)
    have hnu := fun W hW => number_no ws 1 W hW (HS.out _) hi hx
    clear hx hi
    go_wp2_with fail
    refine (hnu _ hLr).mono ?_
    rintro e w3 ⟨rfl, hb3⟩
    clear hnu hLr hL cW
    have hN3 := heap_below hN hb3 (heap_lt hN)
    have hR3 := heap_below hR hb3 (heap_lt hR)
    have hbb := hb.trans (hb3.mono hb.size)
    clear hN hR hW hb hb3
    have cN := fun i => Joins.cell_of_block hN3 i
    have fN := fun i => Joins.unfrozen_of_block hN3 i
    have hR4 : (w3.setCell ⟨wb + 1, 0, none⟩ (.int .i64 0)).heap[w.heap.size]? = some (boxE 0 0 0 0 0) := by rw [Below.heap_setCell _ _ _ _ (by show w.heap.size ≠ wb + 1; omega)]; exact hR3
    have cR : ∀ i, (w3.setCell ⟨wb + 1, 0, none⟩ (.int .i64 0)).cell? ⟨w.heap.size, i, none⟩ = #[Value.int .i64 0, .int .i64 0, .int .i64 0, .int .i64 0, .int .i64 0][i]? := fun i => Joins.cell_of_block hR4 i
    have fR : ∀ i, (w3.setCell ⟨wb + 1, 0, none⟩ (.int .i64 0)).frozen? ⟨w.heap.size, i, none⟩ = false := fun i => Joins.unfrozen_of_block hR4 i
    go_wp2
    refine ret_entry Tryz.results288 rfl rfl rfl (five_stores hR4 0 0 0 0 0) ⟨by rw [HF.out]; rfl, ?_⟩
    exact below_five (hbb.setCell (by show w.heap.size ≤ wb + 1; omega) _) (Nat.le_refl _) _ _ _ _ _
   | some x =>
    have hnu := fun W hW => number_yes ws 1 x W hW (HS.out _) hi hx
    have hx : Hid (nAt ws 1 = some x) := hx
    clear hi
    go_wp2_with fail
    refine (hnu _ hLr).mono ?_
    rintro e w3 ⟨rfl, hb3⟩
    clear hnu hLr hL cW
    have hN3 := heap_below hN hb3 (heap_lt hN)
    have hR3 := heap_below hR hb3 (heap_lt hR)
    have hW3 := heap_below hW hb3 (heap_lt hW)
    have hbb := hb.trans (hb3.mono hb.size)
    clear hN hR hW hb hb3
    have cN := fun i => Joins.cell_of_block hN3 i
    have fN := fun i => Joins.unfrozen_of_block hN3 i
    go_wp2
    go_roundw
    case rel => exact ⟨1, x, m1, m2, by omega, rfl, by rw [Below.heap_setCell _ _ _ _ (by show wb ≠ wb + 1; omega)]; exact hW3, by rw [Joins.block_setCell hN3]; rfl, by rw [Below.heap_setCell _ _ _ _ (by show w.heap.size ≠ wb + 1; omega)]; exact hR3,
     hbb.setCell (by show w.heap.size ≤ wb + 1; omega) _, hx.out, hst.out.2.1, hst.out.2.2⟩
    case measure => simp [intOf]
  ·have HF : Hid (rdW ws = some (kk, m0, m1, m2)) := rdW_some HK.out hk0 (by rw [HM.out]; exact HN.out) (hst.out.1) (by rw [nAt, if_neg (by have := HN.out; omega)]; exact congrArg some (Eq.symm hst.out.2.1)) (by rw [nAt, if_neg (by have := HN.out; omega)]; exact congrArg some (Eq.symm hst.out.2.2))
   clear hst HK HN HM HS hLr hL cW hW
   have cN := fun i => Joins.cell_of_block hN i
   go_wp2_with fail
   refine (build_any kk m0 m1 m2 _).mono ?_
   rintro e w3 ⟨rfl, rfl⟩
   clear cN
   have cR := fun i => Joins.cell_of_block hR i
   have fR := fun i => Joins.unfrozen_of_block hR i
   have hltr := heap_lt hR
   go_wp2
   refine ret_entry Tryz.results288 rfl rfl rfl (heap_old (heap_old (five_stores hR _ _ _ _ _) _) _) ⟨by rw [HF.out]; rfl, ?_⟩
   exact grew (grew (below_five hb (Nat.le_refl _) _ _ _ _ _) _) _
set_option maxHeartbeats 4000000 in
theorem read_go3 (l : List UInt8) (ws : List (List UInt8)) (kk : Int) (w : World) (hL : Laid w) (hl : l.length ≤ 30000) (hs : spl 4 l = some ws) (hk : kindOf (ws.getD 0 []) = kk) (hk0 : 0 ≤ kk) (hk3 : kk ≤ 3) (hm : cntOf kk = 3) (hn : ws.length = 1 + 3) :
  Calls Tryz.prog 288 #[.string ⟨l.toArray⟩] w fun e w' => e = .returned (rdV (rdW ws)) ∧ Below w.heap.size w w' := by
 have hsz : ∀ i, (wd ws i).size ≤ 30000 := fun i => Nat.le_trans (wd_size ws i _ (spl_len 4 l ws hs)) hl
 have HS : Hid (∀ i, (wd ws i).size ≤ 30000) := hsz
 have HK : Hid (kindOf (ws.getD 0 []) = kk) := hk
 have HN : Hid (ws.length = 1 + 3) := hn
 have HM : Hid (cntOf kk = 3) := hm
 have hsp := fun W hW => split_any l W hW hl
 rw [hs] at hsp
 have hko := fun W hW => kindOf_any (wd ws 0) W hW
 rw [show kindOf (wd ws 0).data.toList = kk from hk] at hko
 have hct := fun W (h : Laid W) => h.cnt kk hk0 hk3
 rw [hm] at hct
 simp only [Option.getD_some, Option.isSome_some] at hsp
 rw [hn] at hsp
 clear hs hk hn hm hsz
 go_enter Tryz.func288, Tryz.ntmps288
 go_wp2_with fail
 refine (hsp _ (hL.later (grew (Below.refl _ _) _)).most).mono ?_
 rintro e w1 ⟨rfl, hb⟩
 have hR : w1.heap[w.heap.size]? = some (boxE 0 0 0 0 0) := by rw [hb.block _ (by simp)]; exact heap_new _ _
 have hb1 : Below w.heap.size w w1 := (grew (Below.refl _ _) _).trans (hb.mono (by simp))
 have hlt : w.heap.size < w1.heap.size := by have := hb.size; simp at this; omega
 clear hb hsp
 go_wp2_with fail
 refine (hko _ (hL.later (grew hb1 _))).mono ?_
 rintro e w2 ⟨rfl, rfl⟩
 have hcc := hct _ (hL.later hb1)
 have hg : 2 < w1.heap.size := World.block_lt_of_cell? _ _ hcc
 clear hct hko
 go_wp2
 clear hcc hg
 have hW0 : ((w1.alloc (o4 ws)).alloc (box3 0 0 0)).heap[w1.heap.size]? = some (o4 ws) := heap_old (heap_new _ _) _
 have hN0 : ((w1.alloc (o4 ws)).alloc (box3 0 0 0)).heap[w1.heap.size + 1]? = some (box3 0 0 0) := by
  have := heap_new (w1.alloc (o4 ws)) (box3 0 0 0)
  rwa [World.size_alloc] at this
 have hR0 : ((w1.alloc (o4 ws)).alloc (box3 0 0 0)).heap[w.heap.size]? = some (boxE 0 0 0 0 0) := heap_old (heap_old hR _) _
 have hb0 : Below w.heap.size w ((w1.alloc (o4 ws)).alloc (box3 0 0 0)) := grew (grew hb1 _) _
 have HI : Hid (_ ∧ _ ∧ _ ∧ _) := ⟨hW0, hN0, hR0, hb0⟩
 clear hW0 hN0 hR0 hb0 hR hb1
 go_loopw [37] (fun i wr => ∃ (n : Nat) (m0 m1 m2 : Int), n ≤ 3 ∧ i = .int .i64 n ∧ wr.heap[w1.heap.size]? = some (o4 ws) ∧ wr.heap[w1.heap.size + 1]? = some (box3 m0 m1 m2) ∧ wr.heap[w.heap.size]? = some (boxE 0 0 0 0 0) ∧ Below w.heap.size w wr ∧
  Hid (st ws n 0 m0 ∧ st ws n 1 m1 ∧ st ws n 2 m2)) (fun i _ => 3 - (intOf i).toNat)
 case atStart => exact ⟨0, 0, 0, 0, by omega, rfl, HI.out.1, HI.out.2.1, HI.out.2.2.1, HI.out.2.2.2, rfl, rfl, rfl⟩
 case round =>
  clear HI
  obtain ⟨n, m0, m1, m2, hn, rfl, hW, hN, hR, hb, hst⟩ := hrel
  generalize w1.heap.size = wb at *
  have hLr := hL.later hb
  have cW := fun i => Joins.cell_of_block hW i
  have hn' : n = 0 ∨ n = 1 ∨ n = 2 ∨ n = 3 := by omega
  rcases hn' with rfl | rfl | rfl | rfl
  ·have hi : 1 < ws.length := by have := HN.out; omega
   cases hx : nAt ws 1 with
   | none =>
    have HF : Hid (rdW ws = none) := rdW_none (Or.inl hx)
    have hnu := fun W hW => number_no ws 1 W hW (HS.out _) hi hx
    clear hx hi
    go_wp2_with fail
    refine (hnu _ hLr).mono ?_
    rintro e w3 ⟨rfl, hb3⟩
    clear hnu hLr hL cW
    have hN3 := heap_below hN hb3 (heap_lt hN)
    have hR3 := heap_below hR hb3 (heap_lt hR)
    have hbb := hb.trans (hb3.mono hb.size)
    clear hN hR hW hb hb3
    have cN := fun i => Joins.cell_of_block hN3 i
    have fN := fun i => Joins.unfrozen_of_block hN3 i
    have hR4 : (w3.setCell ⟨wb + 1, 0, none⟩ (.int .i64 0)).heap[w.heap.size]? = some (boxE 0 0 0 0 0) := by rw [Below.heap_setCell _ _ _ _ (by show w.heap.size ≠ wb + 1; omega)]; exact hR3
    have cR : ∀ i, (w3.setCell ⟨wb + 1, 0, none⟩ (.int .i64 0)).cell? ⟨w.heap.size, i, none⟩ = #[Value.int .i64 0, .int .i64 0, .int .i64 0, .int .i64 0, .int .i64 0][i]? := fun i => Joins.cell_of_block hR4 i
    have fR : ∀ i, (w3.setCell ⟨wb + 1, 0, none⟩ (.int .i64 0)).frozen? ⟨w.heap.size, i, none⟩ = false := fun i => Joins.unfrozen_of_block hR4 i
    go_wp2
    refine ret_entry Tryz.results288 rfl rfl rfl (five_stores hR4 0 0 0 0 0) ⟨by rw [HF.out]; rfl, ?_⟩
    exact below_five (hbb.setCell (by show w.heap.size ≤ wb + 1; omega) _) (Nat.le_refl _) _ _ _ _ _
   | some x =>
    have hnu := fun W hW => number_yes ws 1 x W hW (HS.out _) hi hx
    have hx : Hid (nAt ws 1 = some x) := hx
    clear hi
    go_wp2_with fail
    refine (hnu _ hLr).mono ?_
    rintro e w3 ⟨rfl, hb3⟩
    clear hnu hLr hL cW
    have hN3 := heap_below hN hb3 (heap_lt hN)
    have hR3 := heap_below hR hb3 (heap_lt hR)
    have hW3 := heap_below hW hb3 (heap_lt hW)
    have hbb := hb.trans (hb3.mono hb.size)
    clear hN hR hW hb hb3
    have cN := fun i => Joins.cell_of_block hN3 i
    have fN := fun i => Joins.unfrozen_of_block hN3 i
    go_wp2
    go_roundw
    case rel => exact ⟨1, x, m1, m2, by omega, rfl, by rw [Below.heap_setCell _ _ _ _ (by show wb ≠ wb + 1; omega)]; exact hW3, by rw [Joins.block_setCell hN3]; rfl, by rw [Below.heap_setCell _ _ _ _ (by show w.heap.size ≠ wb + 1; omega)]; exact hR3,
     hbb.setCell (by show w.heap.size ≤ wb + 1; omega) _, hx.out, hst.out.2.1, hst.out.2.2⟩
    case measure => simp [intOf]
  ·have hi : 2 < ws.length := by have := HN.out; omega
   cases hx : nAt ws 2 with
   | none =>
    have HF : Hid (rdW ws = none) := rdW_none (Or.inr (Or.inl hx))
    have hnu := fun W hW => number_no ws 2 W hW (HS.out _) hi hx
    clear hx hi
    go_wp2_with fail
    refine (hnu _ hLr).mono ?_
    rintro e w3 ⟨rfl, hb3⟩
    clear hnu hLr hL cW
    have hN3 := heap_below hN hb3 (heap_lt hN)
    have hR3 := heap_below hR hb3 (heap_lt hR)
    have hbb := hb.trans (hb3.mono hb.size)
    clear hN hR hW hb hb3
    have cN := fun i => Joins.cell_of_block hN3 i
    have fN := fun i => Joins.unfrozen_of_block hN3 i
    have hR4 : (w3.setCell ⟨wb + 1, 1, none⟩ (.int .i64 0)).heap[w.heap.size]? = some (boxE 0 0 0 0 0) := by rw [Below.heap_setCell _ _ _ _ (by show w.heap.size ≠ wb + 1; omega)]; exact hR3
    have cR : ∀ i, (w3.setCell ⟨wb + 1, 1, none⟩ (.int .i64 0)).cell? ⟨w.heap.size, i, none⟩ = #[Value.int .i64 0, .int .i64 0, .int .i64 0, .int .i64 0, .int .i64 0][i]? := fun i => Joins.cell_of_block hR4 i
    have fR : ∀ i, (w3.setCell ⟨wb + 1, 1, none⟩ (.int .i64 0)).frozen? ⟨w.heap.size, i, none⟩ = false := fun i => Joins.unfrozen_of_block hR4 i
    go_wp2
    refine ret_entry Tryz.results288 rfl rfl rfl (five_stores hR4 0 0 0 0 0) ⟨by rw [HF.out]; rfl, ?_⟩
    exact below_five (hbb.setCell (by show w.heap.size ≤ wb + 1; omega) _) (Nat.le_refl _) _ _ _ _ _
   | some x =>
    have hnu := fun W hW => number_yes ws 2 x W hW (HS.out _) hi hx
    have hx : Hid (nAt ws 2 = some x) := hx
    clear hi
    go_wp2_with fail
    refine (hnu _ hLr).mono ?_
    rintro e w3 ⟨rfl, hb3⟩
    clear hnu hLr hL cW
    have hN3 := heap_below hN hb3 (heap_lt hN)
    have hR3 := heap_below hR hb3 (heap_lt hR)
    have hW3 := heap_below hW hb3 (heap_lt hW)
    have hbb := hb.trans (hb3.mono hb.size)
    clear hN hR hW hb hb3
    have cN := fun i => Joins.cell_of_block hN3 i
    have fN := fun i => Joins.unfrozen_of_block hN3 i
    go_wp2
    go_roundw
    case rel => exact ⟨2, m0, x, m2, by omega, rfl, by rw [Below.heap_setCell _ _ _ _ (by show wb ≠ wb + 1; omega)]; exact hW3, by rw [Joins.block_setCell hN3]; rfl, by rw [Below.heap_setCell _ _ _ _ (by show w.heap.size ≠ wb + 1; omega)]; exact hR3,
     hbb.setCell (by show w.heap.size ≤ wb + 1; omega) _, hst.out.1, hx.out, hst.out.2.2⟩
    case measure => simp [intOf]
  ·have hi : 3 < ws.length := by have := HN.out; omega
   cases hx : nAt ws 3 with
   | none =>
    have HF : Hid (rdW ws = none) := rdW_none (Or.inr (Or.inr hx))
    have hnu := fun W hW => number_no ws 3 W hW (HS.out _) hi hx
    clear hx hi
    go_wp2_with fail
    refine (hnu _ hLr).mono ?_
    rintro e w3 ⟨rfl, hb3⟩
    clear hnu hLr hL cW
    have hN3 := heap_below hN hb3 (heap_lt hN)
    have hR3 := heap_below hR hb3 (heap_lt hR)
    have hbb := hb.trans (hb3.mono hb.size)
    clear hN hR hW hb hb3
    have cN := fun i => Joins.cell_of_block hN3 i
    have fN := fun i => Joins.unfrozen_of_block hN3 i
    have hR4 : (w3.setCell ⟨wb + 1, 2, none⟩ (.int .i64 0)).heap[w.heap.size]? = some (boxE 0 0 0 0 0) := by rw [Below.heap_setCell _ _ _ _ (by show w.heap.size ≠ wb + 1; omega)]; exact hR3
    have cR : ∀ i, (w3.setCell ⟨wb + 1, 2, none⟩ (.int .i64 0)).cell? ⟨w.heap.size, i, none⟩ = #[Value.int .i64 0, .int .i64 0, .int .i64 0, .int .i64 0, .int .i64 0][i]? := fun i => Joins.cell_of_block hR4 i
    have fR : ∀ i, (w3.setCell ⟨wb + 1, 2, none⟩ (.int .i64 0)).frozen? ⟨w.heap.size, i, none⟩ = false := fun i => Joins.unfrozen_of_block hR4 i
    go_wp2
    refine ret_entry Tryz.results288 rfl rfl rfl (five_stores hR4 0 0 0 0 0) ⟨by rw [HF.out]; rfl, ?_⟩
    exact below_five (hbb.setCell (by show w.heap.size ≤ wb + 1; omega) _) (Nat.le_refl _) _ _ _ _ _
   | some x =>
    have hnu := fun W hW => number_yes ws 3 x W hW (HS.out _) hi hx
    have hx : Hid (nAt ws 3 = some x) := hx
    clear hi
    go_wp2_with fail
    refine (hnu _ hLr).mono ?_
    rintro e w3 ⟨rfl, hb3⟩
    clear hnu hLr hL cW
    have hN3 := heap_below hN hb3 (heap_lt hN)
    have hR3 := heap_below hR hb3 (heap_lt hR)
    have hW3 := heap_below hW hb3 (heap_lt hW)
    have hbb := hb.trans (hb3.mono hb.size)
    clear hN hR hW hb hb3
    have cN := fun i => Joins.cell_of_block hN3 i
    have fN := fun i => Joins.unfrozen_of_block hN3 i
    go_wp2
    go_roundw
    case rel => exact ⟨3, m0, m1, x, by omega, rfl, by rw [Below.heap_setCell _ _ _ _ (by show wb ≠ wb + 1; omega)]; exact hW3, by rw [Joins.block_setCell hN3]; rfl, by rw [Below.heap_setCell _ _ _ _ (by show w.heap.size ≠ wb + 1; omega)]; exact hR3,
     hbb.setCell (by show w.heap.size ≤ wb + 1; omega) _, hst.out.1, hst.out.2.1, hx.out⟩
    case measure => simp [intOf]
  ·have HF : Hid (rdW ws = some (kk, m0, m1, m2)) := rdW_some HK.out hk0 (by rw [HM.out]; exact HN.out) (hst.out.1) (hst.out.2.1) (hst.out.2.2)
   clear hst HK HN HM HS hLr hL cW hW
   have cN := fun i => Joins.cell_of_block hN i
   go_wp2_with fail
   refine (build_any kk m0 m1 m2 _).mono ?_
   rintro e w3 ⟨rfl, rfl⟩
   clear cN
   have cR := fun i => Joins.cell_of_block hR i
   have fR := fun i => Joins.unfrozen_of_block hR i
   have hltr := heap_lt hR
   go_wp2
   refine ret_entry Tryz.results288 rfl rfl rfl (heap_old (heap_old (five_stores hR _ _ _ _ _) _) _) ⟨by rw [HF.out]; rfl, ?_⟩
   exact grew (grew (below_five hb (Nat.le_refl _) _ _ _ _ _) _) _
end Go.Proofs.YtmoaobfmopimlafGreatDoor
