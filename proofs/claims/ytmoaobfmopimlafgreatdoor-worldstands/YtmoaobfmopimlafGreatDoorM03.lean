/- For the law. -/
import Derived.Test.YtmoaobfmopimlafGreatDoorM02
import Derived.Lib.AppendIntMem
import Derived.Lib.AtoiErrMem
set_option linter.unusedSimpArgs false
set_option linter.unusedVariables false
namespace Go.Proofs.YtmoaobfmopimlafGreatDoor
open Go.RowKit
abbrev bJunk : ByteArray := ⟨#[106, 117, 110, 107]⟩
abbrev bPut : ByteArray := ⟨#[112, 117, 116]⟩
abbrev bDrop : ByteArray := ⟨#[100, 114, 111, 112]⟩
abbrev bRing : ByteArray := ⟨#[114, 105, 110, 103]⟩
structure Laid (w : World) : Prop where
 names : w.var? Tryz.prog "carillon/entry.names" = some #[.string bJunk, .string bPut, .string bDrop, .string bRing]
 counts : w.var? Tryz.prog "carillon/entry.counts" = some #[.int .i64 0, .int .i64 3, .int .i64 1, .int .i64 3]
 most : ∃ m, w.cell? ⟨0, 0, none⟩ = some (.int .i64 m)
 pow : Lib.TabIs Tryz.prog w "internal/strconv.uint64pow10" .u64 Lib.pow10Tab
 syn : ∃ tp p, w.var? Tryz.prog "strconv.ErrSyntax" = some #[.iface tp p]
 rng : ∃ tp p, w.var? Tryz.prog "strconv.ErrRange" = some #[.iface tp p]
theorem gNames : Tryz.prog.globalNamed "carillon/entry.names" = some 1 := by kernel_rfl
theorem gCounts : Tryz.prog.globalNamed "carillon/entry.counts" = some 2 := by kernel_rfl
theorem gPow : Tryz.prog.globalNamed "internal/strconv.uint64pow10" = some 3 := by kernel_rfl
theorem gSyn : Tryz.prog.globalNamed "strconv.ErrSyntax" = some 6 := by kernel_rfl
theorem gRng : Tryz.prog.globalNamed "strconv.ErrRange" = some 7 := by kernel_rfl
theorem Laid.later {w w' : World} (h : Laid w) (hb : Below w.heap.size w w') : Laid w' := by
 obtain ⟨h1, h2, ⟨m, h3⟩, h4, ⟨t5, p5, h5⟩, ⟨t6, p6, h6⟩⟩ := h
 exact ⟨Joins.var_stays gNames h1 hb (Nat.le_refl _), Joins.var_stays gCounts h2 hb (Nat.le_refl _), ⟨m, cell_later hb h3⟩, Joins.tab_stays gPow h4 hb (Nat.le_refl _),
  ⟨t5, p5, Joins.var_stays gSyn h5 hb (Nat.le_refl _)⟩, ⟨t6, p6, Joins.var_stays gRng h6 hb (Nat.le_refl _)⟩⟩
theorem Laid.name {w : World} (h : Laid w) : w.cell? ⟨1, 0, none⟩ = some (.string bJunk) ∧ w.cell? ⟨1, 1, none⟩ = some (.string bPut) ∧ w.cell? ⟨1, 2, none⟩ = some (.string bDrop) ∧ w.cell? ⟨1, 3, none⟩ = some (.string bRing) :=
 ⟨World.var?_cell gNames h.names 0, World.var?_cell gNames h.names 1, World.var?_cell gNames h.names 2, World.var?_cell gNames h.names 3⟩
theorem Laid.count {w : World} (h : Laid w) : w.cell? ⟨2, 0, none⟩ = some (.int .i64 0) ∧ w.cell? ⟨2, 1, none⟩ = some (.int .i64 3) ∧ w.cell? ⟨2, 2, none⟩ = some (.int .i64 1) ∧ w.cell? ⟨2, 3, none⟩ = some (.int .i64 3) :=
 ⟨World.var?_cell gCounts h.counts 0, World.var?_cell gCounts h.counts 1, World.var?_cell gCounts h.counts 2, World.var?_cell gCounts h.counts 3⟩
def kindOf (l : List UInt8) : Int := if l = [106, 117, 110, 107] then 0 else if l = [112, 117, 116] then 1 else if l = [100, 114, 111, 112] then 2 else if l = [114, 105, 110, 103] then 3 else -1
theorem ret_int {k : IntKind} {a b : Int} (h : a = b) : Ending.returned (.int k a) = .returned (.int k b) := by rw [h]
theorem bytes_toList (s : ByteArray) : s.toList = s.data.toList := ByteArray.toList_eq s
theorem ne_of_beq {s : ByteArray} {l : List UInt8} (h : (s.toList == l) = false) : s.data.toList ≠ l := by
 rw [bytes_toList] at h; simpa using h
def noName (l : List UInt8) (k : Nat) : Prop := (0 < k → l ≠ [106, 117, 110, 107]) ∧ (1 < k → l ≠ [112, 117, 116]) ∧ (2 < k → l ≠ [100, 114, 111, 112]) ∧ (3 < k → l ≠ [114, 105, 110, 103])
set_option maxHeartbeats 1000000 in
theorem kindOf_any (s : ByteArray) (w : World) (hL : Laid w) :
  Calls Tryz.prog 295 #[.string s] w fun e w' => e = .returned (.int .i64 (kindOf s.data.toList)) ∧ w' = w := by
 obtain ⟨n0, n1, n2, n3⟩ := hL.name
 clear hL
 go_enter Tryz.func295, Tryz.ntmps295
 go_wp2
 go_loop [6] (fun i => ∃ k : Nat, k ≤ 4 ∧ i = .int .i64 k ∧ Hid (noName s.data.toList k)) (fun i => 4 - (intOf i).toNat)
 case atStart => exact ⟨0, Nat.zero_le _, rfl, by refine ⟨?_, ?_, ?_, ?_⟩ <;> intro h <;> exact absurd h (by omega)⟩
 case round =>
  obtain ⟨k, hk, rfl, hno⟩ := hrel
  have i0 : ∀ W, (Instr.index 238 (.agg #[.string bJunk, .string bPut, .string bDrop, .string bRing]) (.int .i64 0)).run Tryz.prog W = .ok (.string bJunk) W := fun _ => by kernel_rfl
  have i1 : ∀ W, (Instr.index 238 (.agg #[.string bJunk, .string bPut, .string bDrop, .string bRing]) (.int .i64 1)).run Tryz.prog W = .ok (.string bPut) W := fun _ => by kernel_rfl
  have i2 : ∀ W, (Instr.index 238 (.agg #[.string bJunk, .string bPut, .string bDrop, .string bRing]) (.int .i64 2)).run Tryz.prog W = .ok (.string bDrop) W := fun _ => by kernel_rfl
  have i3 : ∀ W, (Instr.index 238 (.agg #[.string bJunk, .string bPut, .string bDrop, .string bRing]) (.int .i64 3)).run Tryz.prog W = .ok (.string bRing) W := fun _ => by kernel_rfl
  have hk' : k = 0 ∨ k = 1 ∨ k = 2 ∨ k = 3 ∨ k = 4 := by omega
  rcases hk' with rfl | rfl | rfl | rfl | rfl
  case inr.inr.inr.inr =>
   go_wp2
   go_ret
   refine ⟨ret_int ?_, rfl⟩
   obtain ⟨h0, h1, h2, h3⟩ := hno.out
   unfold kindOf
   rw [if_neg (h0 (by omega)), if_neg (h1 (by omega)), if_neg (h2 (by omega)), if_neg (h3 (by omega))]
  ·go_wp2
   ·rename_i hb _
    go_ret
    refine ⟨ret_int ?_, rfl⟩
    have hb' := eq_of_beq hb
    rw [bytes_toList] at hb'
    rw [hb']
    decide
   ·rename_i hb
    have hb' := ne_of_beq hb
    obtain ⟨h0, h1, h2, h3⟩ := hno.out
    go_round
    case rel => exact ⟨1, by omega, rfl, fun _ => hb', fun h => absurd h (by omega), fun h => absurd h (by omega), fun h => absurd h (by omega)⟩
    case measure => simp [intOf]
  ·go_wp2
   ·rename_i hb _
    go_ret
    refine ⟨ret_int ?_, rfl⟩
    have hb' := eq_of_beq hb
    rw [bytes_toList] at hb'
    rw [hb']
    decide
   ·rename_i hb
    have hb' := ne_of_beq hb
    obtain ⟨h0, h1, h2, h3⟩ := hno.out
    go_round
    case rel => exact ⟨2, by omega, rfl, fun _ => h0 (by omega), fun _ => hb', fun h => absurd h (by omega), fun h => absurd h (by omega)⟩
    case measure => simp [intOf]
  ·go_wp2
   ·rename_i hb _
    go_ret
    refine ⟨ret_int ?_, rfl⟩
    have hb' := eq_of_beq hb
    rw [bytes_toList] at hb'
    rw [hb']
    decide
   ·rename_i hb
    have hb' := ne_of_beq hb
    obtain ⟨h0, h1, h2, h3⟩ := hno.out
    go_round
    case rel => exact ⟨3, by omega, rfl, fun _ => h0 (by omega), fun _ => h1 (by omega), fun _ => hb', fun h => absurd h (by omega)⟩
    case measure => simp [intOf]
  ·go_wp2
   ·rename_i hb _
    go_ret
    refine ⟨ret_int ?_, rfl⟩
    have hb' := eq_of_beq hb
    rw [bytes_toList] at hb'
    rw [hb']
    decide
   ·rename_i hb
    have hb' := ne_of_beq hb
    obtain ⟨h0, h1, h2, h3⟩ := hno.out
    go_round
    case rel => exact ⟨4, by omega, rfl, fun _ => h0 (by omega), fun _ => h1 (by omega), fun _ => h2 (by omega), fun _ => hb'⟩
    case measure => simp [intOf]
def numOf (l : List UInt8) : Option Int := match Lib.atoiAll l with | .ok v => if Lib.itoa v = l then some v else none | _ => none
theorem below_itoa {w w' : World} (h : ∃ k os, w' = Go.Sort.grow (w.drewN k) os) : Below w.heap.size w w' := by
 obtain ⟨k, os, rfl⟩ := h
 exact Lib.below_grow _ _ (Nat.le_refl _) _ _
set_option maxHeartbeats 1000000 in
theorem number_any (s : ByteArray) (w : World) (hL : Laid w) (hs : s.size ≤ 30000) :
  Calls Tryz.prog 296 #[.string s] w fun e w' => e = .returned (.tuple #[.int .i64 ((numOf s.data.toList).getD 0), .bool (numOf s.data.toList).isSome]) ∧ Below w.heap.size w w' := by
 cases h : Lib.atoiAll s.data.toList with
 | ok v =>
  have hb := Lib.atoiAll_bounds h
  have hat := Tryz.strconv_Atoi_ok s (by omega) v h
  by_cases hi : Lib.itoa v = s.data.toList
  ·have hn : numOf s.data.toList = some v := by simp only [numOf, h, if_pos hi]
   rw [hn]
   go_enter Tryz.func296, Tryz.ntmps296
   go_wp2_with fail
   refine (hat _).mono ?_
   rintro e w1 ⟨rfl, hw⟩
   have hb1 : Below w.heap.size w w1 := by
    rcases hw with rfl | ⟨t, rfl⟩
    ·exact Below.refl _ _
    ·exact Lib.bytesWorld_below _ _ _
   clear hw
   go_wp2_with fail
   refine (Tryz.strconv_Itoa v hb.1 hb.2 _ (hL.later hb1).pow).mono ?_
   rintro e w2 ⟨rfl, hw2⟩
   have hb2 := hb1.trans ((below_itoa hw2).mono hb1.size)
   clear hw2
   go_wp2
   go_ret2
   exact ⟨rfl, hb2⟩
  ·have hn : numOf s.data.toList = none := by simp only [numOf, h, if_neg hi]
   rw [hn]
   clear hn h
   have hne : (Lib.itoa v == s.toList) = false := by rw [bytes_toList]; simpa using hi
   clear hi
   go_enter Tryz.func296, Tryz.ntmps296
   go_wp2_with fail
   refine (hat _).mono ?_
   rintro e w1 ⟨rfl, hw⟩
   have hb1 : Below w.heap.size w w1 := by
    rcases hw with rfl | ⟨t, rfl⟩
    ·exact Below.refl _ _
    ·exact Lib.bytesWorld_below _ _ _
   clear hw
   go_wp2_with fail
   refine (Tryz.strconv_Itoa v hb.1 hb.2 _ (hL.later hb1).pow).mono ?_
   rintro e w2 ⟨rfl, hw2⟩
   have hb2 := hb1.trans ((below_itoa hw2).mono hb1.size)
   clear hw2
   go_wp2
   go_ret2
   exact ⟨rfl, hb2⟩
 | «syntax» =>
  have hn : numOf s.data.toList = none := by simp only [numOf, h]
  rw [hn]
  obtain ⟨tp, p, hv⟩ := hL.syn
  have hv0 : w.cell? ⟨6, 0, none⟩ = some (.iface tp p) := by have h0 := World.var?_cell gSyn hv 0; simpa using h0
  go_enter Tryz.func296, Tryz.ntmps296
  go_wp2_with fail
  refine (Tryz.strconv_Atoi_syntax s (by omega) h _ _ hv0 (Or.inr ⟨_, _, rfl⟩)).mono ?_
  rintro e w1 ⟨N, rfl, -, -, hb⟩
  go_wp2
  go_ret2
  exact ⟨rfl, hb⟩
 | range =>
  have hn : numOf s.data.toList = none := by simp only [numOf, h]
  rw [hn]
  obtain ⟨tp, p, hv⟩ := hL.rng
  have hv0 : w.cell? ⟨7, 0, none⟩ = some (.iface tp p) := by have h0 := World.var?_cell gRng hv 0; simpa using h0
  go_enter Tryz.func296, Tryz.ntmps296
  go_wp2_with fail
  refine (Tryz.strconv_Atoi_range s (by omega) h _ _ hv0 (Or.inr ⟨_, _, rfl⟩)).mono ?_
  rintro e w1 ⟨N, rfl, -, -, hb⟩
  go_wp2
  go_ret2
  exact ⟨rfl, hb⟩
def spl : Nat → List UInt8 → Option (List (List UInt8))
 | 0, _ => none
 | f + 1, l => if (Lib.cut l [32]).2.2 = true then (spl f (Lib.cut l [32]).2.1).map ((Lib.cut l [32]).1 :: ·) else some [(Lib.cut l [32]).1]
theorem spl_yes {r a b : List UInt8} (f : Nat) (hc : Lib.cut r [32] = (a, b, true)) : spl (f + 1) r = (spl f b).map (a :: ·) := by
 rw [spl.eq_2, hc]; rfl
theorem spl_no {r a b : List UInt8} (f : Nat) (hc : Lib.cut r [32] = (a, b, false)) : spl (f + 1) r = some [a] := by
 rw [spl.eq_2, hc]; rfl
def wd (ws : List (List UInt8)) (i : Nat) : ByteArray := ⟨(ws.getD i []).toArray⟩
abbrev wv (ws : List (List UInt8)) : Value := .agg #[.string (wd ws 0), .string (wd ws 1), .string (wd ws 2), .string (wd ws 3)]
theorem cut_yes (r a b : List UInt8) (w : World) (hL : ∃ m, w.cell? ⟨0, 0, none⟩ = some (.int .i64 m)) (hr : r.length ≤ 30000) (hc : Lib.cut r [32] = (a, b, true)) :
  Calls Tryz.prog 235 #[.string ⟨r.toArray⟩, .string ⟨#[32]⟩] w fun e w' => e = .returned (.tuple #[.string ⟨a.toArray⟩, .string ⟨b.toArray⟩, .bool true]) ∧ ∃ n, w' = w.drewN n := by
 obtain ⟨m, hm⟩ := hL
 have h := Tryz.strings_Cut ⟨r.toArray⟩ ⟨#[32]⟩ m w (by simp [Lib.size_eq]; omega) hm
 rw [show Lib.cut (⟨r.toArray⟩ : ByteArray).data.toList (⟨#[32]⟩ : ByteArray).data.toList = (a, b, true) from hc] at h
 exact h
theorem cut_no (r a b : List UInt8) (w : World) (hL : ∃ m, w.cell? ⟨0, 0, none⟩ = some (.int .i64 m)) (hr : r.length ≤ 30000) (hc : Lib.cut r [32] = (a, b, false)) :
  Calls Tryz.prog 235 #[.string ⟨r.toArray⟩, .string ⟨#[32]⟩] w fun e w' => e = .returned (.tuple #[.string ⟨a.toArray⟩, .string ⟨b.toArray⟩, .bool false]) ∧ ∃ n, w' = w.drewN n := by
 obtain ⟨m, hm⟩ := hL
 have h := Tryz.strings_Cut ⟨r.toArray⟩ ⟨#[32]⟩ m w (by simp [Lib.size_eq]; omega) hm
 rw [show Lib.cut (⟨r.toArray⟩ : ByteArray).data.toList (⟨#[32]⟩ : ByteArray).data.toList = (a, b, false) from hc] at h
 exact h
theorem cut_len (r a b : List UInt8) (f : Bool) (hc : Lib.cut r [32] = (a, b, f)) : b.length ≤ r.length := by
 unfold Lib.cut at hc
 split at hc
 ·injection hc with _ h; injection h with h _; subst h; simp
 ·injection hc with _ h; injection h with h _; subst h; simp
abbrev e4 : Obj := .cells #[.string ⟨#[]⟩, .string ⟨#[]⟩, .string ⟨#[]⟩, .string ⟨#[]⟩] 238
abbrev o4 (ws : List (List UInt8)) : Obj := .cells #[.string (wd ws 0), .string (wd ws 1), .string (wd ws 2), .string (wd ws 3)] 238
theorem setCell_drewN (w : World) (n : Nat) (a : Addr) (v : Value) : (w.drewN n).setCell a v = (w.setCell a v).drewN n := rfl
attribute [local go_sem] setCell_drewN
set_option maxHeartbeats 4000000 in
theorem split_any (l : List UInt8) (w : World) (hL : ∃ m, w.cell? ⟨0, 0, none⟩ = some (.int .i64 m)) (hl : l.length ≤ 30000) :
  Calls Tryz.prog 294 #[.string ⟨l.toArray⟩] w fun e w' =>
   e = .returned (.tuple #[wv ((spl 4 l).getD []), .int .i64 ((spl 4 l).getD []).length, .bool (spl 4 l).isSome]) ∧ Below w.heap.size w w' := by
 have HL : ∀ (o1 o2 : Obj), ∃ m, ((w.alloc o1).alloc o2).cell? ⟨0, 0, none⟩ = some (.int .i64 m) := fun o1 o2 => by
  obtain ⟨m, hm⟩ := hL
  exact ⟨m, cell_later (grew (grew (Below.refl _ _) _) _) hm⟩
 clear hL
 go_enter Tryz.func294, Tryz.ntmps294
 go_wp2
 go_loopw [6, 12] (fun rest i wr => ∃ (k : Nat) (done : List (List UInt8)) (r : List UInt8) (q : Nat), k ≤ 4 ∧ done.length = k ∧ r.length ≤ 30000 ∧ rest = .string ⟨r.toArray⟩ ∧ i = .int .i64 k ∧
  wr = ((w.alloc e4).alloc (o4 done)).drewN q ∧ Hid (spl 4 l = (spl (4 - k) r).map (done ++ ·))) (fun _ i _ => 4 - (intOf i).toNat)
 case atStart => exact ⟨0, [], l, 0, by simp, rfl, hl, rfl, rfl, rfl, by simp [Hid]⟩
 case round =>
  obtain ⟨k, done, r, q, hk, hd, hr, rfl, rfl, rfl, hs⟩ := hrel
  rcases hc : Lib.cut r [32] with ⟨a, b, f⟩
  have hbl := cut_len r a b f hc
  have hk' : k = 0 ∨ k = 1 ∨ k = 2 ∨ k = 3 ∨ k = 4 := by omega
  rcases hk' with rfl | rfl | rfl | rfl | rfl
  ·match done, hd with
   | [], _ =>
    cases f with
    | true =>
     have HF : Hid (spl 4 l = (spl (4 - 1) b).map ([a] ++ ·)) := by
      rw [hs.out]
      show ((spl (3 + 1) r).map _) = _
      rw [spl_yes _ hc]
      simp [Option.map_map, Function.comp_def]
     clear hs
     go_wp2_with fail
     refine (cut_yes r a b _ (by exact HL _ _) hr hc).mono ?_
     rintro e w1 ⟨rfl, n, rfl⟩
     clear hc
     go_wp2
     go_roundw
     case rel => exact ⟨1, [a], b, q + n, by omega, rfl, by omega, rfl, rfl, rfl, HF⟩
     case measure => simp [intOf]
    | false =>
     have HF : Hid (spl 4 l = some [a]) := by
      rw [hs.out]
      show ((spl (3 + 1) r).map _) = _
      rw [spl_no _ hc]
      rfl
     clear hs
     go_wp2_with fail
     refine (cut_no r a b _ (by exact HL _ _) hr hc).mono ?_
     rintro e w1 ⟨rfl, n, rfl⟩
     clear hc
     go_wp2
     refine bodyPost_ret (v := .tuple #[wv [a], .int .i64 1, .bool true]) (by simp [results, Tryz.results294, go_sem, wd]) rfl ⟨?_, ?_⟩
     ·rw [HF.out]; rfl
     ·exact below_drewN (grew (grew (Below.refl _ _) _) _) _
  ·match done, hd with
   | [x0], _ =>
    cases f with
    | true =>
     have HF : Hid (spl 4 l = (spl (4 - 2) b).map ([x0, a] ++ ·)) := by
      rw [hs.out]
      show ((spl (2 + 1) r).map _) = _
      rw [spl_yes _ hc]
      simp [Option.map_map, Function.comp_def]
     clear hs
     go_wp2_with fail
     refine (cut_yes r a b _ (by exact HL _ _) hr hc).mono ?_
     rintro e w1 ⟨rfl, n, rfl⟩
     clear hc
     go_wp2
     go_roundw
     case rel => exact ⟨2, [x0, a], b, q + n, by omega, rfl, by omega, rfl, rfl, rfl, HF⟩
     case measure => simp [intOf]
    | false =>
     have HF : Hid (spl 4 l = some [x0, a]) := by
      rw [hs.out]
      show ((spl (2 + 1) r).map _) = _
      rw [spl_no _ hc]
      rfl
     clear hs
     go_wp2_with fail
     refine (cut_no r a b _ (by exact HL _ _) hr hc).mono ?_
     rintro e w1 ⟨rfl, n, rfl⟩
     clear hc
     go_wp2
     refine bodyPost_ret (v := .tuple #[wv [x0, a], .int .i64 2, .bool true]) (by simp [results, Tryz.results294, go_sem, wd]) rfl ⟨?_, ?_⟩
     ·rw [HF.out]; rfl
     ·exact below_drewN (grew (grew (Below.refl _ _) _) _) _
  ·match done, hd with
   | [x0, x1], _ =>
    cases f with
    | true =>
     have HF : Hid (spl 4 l = (spl (4 - 3) b).map ([x0, x1, a] ++ ·)) := by
      rw [hs.out]
      show ((spl (1 + 1) r).map _) = _
      rw [spl_yes _ hc]
      simp [Option.map_map, Function.comp_def]
     clear hs
     go_wp2_with fail
     refine (cut_yes r a b _ (by exact HL _ _) hr hc).mono ?_
     rintro e w1 ⟨rfl, n, rfl⟩
     clear hc
     go_wp2
     go_roundw
     case rel => exact ⟨3, [x0, x1, a], b, q + n, by omega, rfl, by omega, rfl, rfl, rfl, HF⟩
     case measure => simp [intOf]
    | false =>
     have HF : Hid (spl 4 l = some [x0, x1, a]) := by
      rw [hs.out]
      show ((spl (1 + 1) r).map _) = _
      rw [spl_no _ hc]
      rfl
     clear hs
     go_wp2_with fail
     refine (cut_no r a b _ (by exact HL _ _) hr hc).mono ?_
     rintro e w1 ⟨rfl, n, rfl⟩
     clear hc
     go_wp2
     refine bodyPost_ret (v := .tuple #[wv [x0, x1, a], .int .i64 3, .bool true]) (by simp [results, Tryz.results294, go_sem, wd]) rfl ⟨?_, ?_⟩
     ·rw [HF.out]; rfl
     ·exact below_drewN (grew (grew (Below.refl _ _) _) _) _
  ·match done, hd with
   | [x0, x1, x2], _ =>
    cases f with
    | true =>
     have HF : Hid (spl 4 l = (spl (4 - 4) b).map ([x0, x1, x2, a] ++ ·)) := by
      rw [hs.out]
      show ((spl (0 + 1) r).map _) = _
      rw [spl_yes _ hc]
      simp [Option.map_map, Function.comp_def]
     clear hs
     go_wp2_with fail
     refine (cut_yes r a b _ (by exact HL _ _) hr hc).mono ?_
     rintro e w1 ⟨rfl, n, rfl⟩
     clear hc
     go_wp2
     go_roundw
     case rel => exact ⟨4, [x0, x1, x2, a], b, q + n, by omega, rfl, by omega, rfl, rfl, rfl, HF⟩
     case measure => simp [intOf]
    | false =>
     have HF : Hid (spl 4 l = some [x0, x1, x2, a]) := by
      rw [hs.out]
      show ((spl (0 + 1) r).map _) = _
      rw [spl_no _ hc]
      rfl
     clear hs
     go_wp2_with fail
     refine (cut_no r a b _ (by exact HL _ _) hr hc).mono ?_
     rintro e w1 ⟨rfl, n, rfl⟩
     clear hc
     go_wp2
     refine bodyPost_ret (v := .tuple #[wv [x0, x1, x2, a], .int .i64 4, .bool true]) (by simp [results, Tryz.results294, go_sem, wd]) rfl ⟨?_, ?_⟩
     ·rw [HF.out]; rfl
     ·exact below_drewN (grew (grew (Below.refl _ _) _) _) _
  ·have HF : Hid (spl 4 l = none) := by rw [hs.out]; rfl
   clear hs hc
   go_wp2
   refine bodyPost_ret (v := .tuple #[wv [], .int .i64 0, .bool false]) (by simp [results, Tryz.results294, go_sem, wd]) rfl ⟨?_, ?_⟩
   ·rw [HF.out]; rfl
   ·exact below_drewN (grew (grew (Below.refl _ _) _) _) _
end Go.Proofs.YtmoaobfmopimlafGreatDoor
