/- For the law. -/
import Derived.Test.YtmoaobfmopimlafGreatDoorM03
import Derived.Lib.ItoaLen
import Derived.Lib.Join
import Derived.Laws.ResultCell
set_option linter.unusedSimpArgs false
set_option linter.unusedVariables false
namespace Go.Proofs.YtmoaobfmopimlafGreatDoor
open Go.RowKit
abbrev box4 (a b c d : ByteArray) : Obj := .cells #[.string a, .string b, .string c, .string d] 238
def upTo (n i : Nat) (x : Int) : ByteArray := if i < n then ⟨(Lib.itoa x).toArray⟩ else ⟨#[]⟩
theorem join_any (wb : Nat) (nm a b c : ByteArray) (n : Nat) (xs : List ByteArray) (W : World) (hW : W.heap[wb]? = some (box4 nm a b c)) (hx : xs = [nm, a, b, c].take n) (hn : n ≤ 4)
  (hm : nm.data.toList.length ≤ 30) (ha : a.data.toList.length ≤ 30) (hb : b.data.toList.length ≤ 30) (hc : c.data.toList.length ≤ 30) :
  Calls Tryz.prog 223 #[.slice (some ⟨wb, 0, none⟩) n 4, .string ⟨#[32]⟩] W fun e w' => e = .returned (.string ⟨(Lib.join (xs.map (·.data.toList)) [32]).toArray⟩) ∧ Below W.heap.size W w' := by
 have hl : xs.length = n := by subst hx; simp; omega
 have hj : (Lib.join (xs.map (·.data.toList)) (⟨#[32]⟩ : ByteArray).data.toList).length ≤ 140737488355328 := by
  have : (Lib.join (xs.map (·.data.toList)) [32]).length ≤ 200 := by
   subst hx
   have hn' : n = 0 ∨ n = 1 ∨ n = 2 ∨ n = 3 ∨ n = 4 := by omega
   rcases hn' with rfl | rfl | rfl | rfl | rfl
   ·simp only [List.take, List.map, Lib.join_nil, List.length_nil]; omega
   all_goals
    simp only [List.take, List.map, Lib.join_cons, Lib.joinTail, List.flatten_cons, List.flatten_nil, List.length_append, List.length_cons, List.length_nil, List.nil_append, List.cons_append]
    omega
  exact Nat.le_trans this (by omega)
 have h := Tryz.strings_Join wb 0 4 xs ⟨#[32]⟩ W (fun i x hi => by
  rw [Joins.cell_of_block hW]
  subst hx
  rw [List.getElem?_take] at hi
  split at hi
  ·have hi4 : i < 4 := by omega
   have : i = 0 ∨ i = 1 ∨ i = 2 ∨ i = 3 := by omega
   rcases this with rfl | rfl | rfl | rfl <;> simp at hi <;> subst hi <;> rfl
  ·cases hi) (heap_lt hW) (by omega) (by omega) hj
 rw [hl] at h
 exact h
theorem itoa_le (x : Int) (h0 : 0 ≤ x) (h1 : x ≤ 100000) : (⟨(Lib.itoa x).toArray⟩ : ByteArray).data.toList.length ≤ 30 := by
 have := Lib.itoa_length_le x (by omega) (by omega)
 show (Lib.itoa x).length ≤ 30
 omega
theorem print_bad (k j v t c : Int) (w : World) (hbad : (chk k j v t c != 0) = true) :
  Calls Tryz.prog 196 #[ev k j v t c] w fun e w' => e = .returned (.tuple #[.string ⟨#[]⟩, .int .i64 (chk k j v t c)]) ∧ Below w.heap.size w w' := by
 have hch := fun W => check_any k j v t c W
 generalize chk k j v t c = n at *
 go_enter Tryz.func196, Tryz.ntmps196
 go_wp2_with fail
 refine (hch _).mono ?_
 rintro e w1 ⟨rfl, hb⟩
 go_wp2
 go_ret2
 exact ⟨rfl, (grew (Below.refl _ _) _).trans (hb.mono (by simp))⟩
set_option maxHeartbeats 2000000 in
theorem print_ok (k j v t c : Int) (nm : ByteArray) (cnt : Nat) (n0 n1 n2 : Int) (w : World) (hL : Laid w) (h0 : 0 ≤ k) (h3 : k ≤ 3) (hcnt : cnt ≤ 3) (hnl : nm.data.toList.length ≤ 30) (hok : chk k j v t c = 0)
  (hn0 : num0 k j = n0) (hn1 : num1 k v t = n1) (hn2 : num2 k t c = n2)
  (b0 : 0 ≤ n0 ∧ n0 ≤ 100000) (b1 : 0 ≤ n1 ∧ n1 ≤ 100000) (b2 : 0 ≤ n2 ∧ n2 ≤ 100000)
  (hnm : ∀ W, Laid W → W.cell? ⟨1, k.toNat, none⟩ = some (.string nm))
  (hct : ∀ W, Laid W → W.cell? ⟨2, k.toNat, none⟩ = some (.int .i64 cnt)) :
  Calls Tryz.prog 196 #[ev k j v t c] w fun e w' =>
   e = .returned (.tuple #[.string ⟨(Lib.join ([nm.data.toList, Lib.itoa n0, Lib.itoa n1, Lib.itoa n2].take (1 + cnt)) [32]).toArray⟩, .int .i64 0]) ∧ Below w.heap.size w w' := by
 have hch := fun W => check_any k j v t c W
 rw [hok] at hch
 have hnum := fun W => numbers_any k j v t c W
 rw [hn0, hn1, hn2] at hnum
 clear hok hn0 hn1 hn2
 go_enter Tryz.func196, Tryz.ntmps196
 go_wp2_with fail
 refine (hch _).mono ?_
 rintro e w1 ⟨rfl, hb⟩
 have hbox : w1.heap[w.heap.size]? = some (boxE k j v t c) := by rw [hb.block _ (by simp)]; exact heap_new _ _
 have hb1 : Below w.heap.size w w1 := (grew (Below.refl _ _) _).trans (hb.mono (by simp))
 have hL1 := hL.later hb1
 have hlt : w.heap.size < w1.heap.size := by have := hb.size; simp at this; omega
 clear hb
 have hn := hnm w1 hL1
 have c0 := fun i => Joins.cell_of_block hbox i
 go_wp2_with fail
 refine (hnum _).mono ?_
 rintro e w2 ⟨rfl, hw2⟩
 have hbW : w2.heap[w1.heap.size]? = some (box4 nm ⟨#[]⟩ ⟨#[]⟩ ⟨#[]⟩) := by rw [hw2]; exact heap_old (heap_old (heap_new _ _) _) _
 have hb2 : Below w.heap.size w w2 := by rw [hw2]; exact grew (grew (grew hb1 _) _) _
 have hbox2 : w2.heap[w.heap.size]? = some (boxE k j v t c) := by rw [hw2]; exact heap_old (heap_old (heap_old hbox _) _) _
 generalize w1.heap.size = wb at *
 clear hw2 hbox c0 hnum hch hb1 hL1 hn hnm
 go_wp2
 go_loopw [20] (fun i wr => ∃ n : Nat, n ≤ 3 ∧ i = .int .i64 n ∧ wr.heap[wb]? = some (box4 nm (upTo n 0 n0) (upTo n 1 n1) (upTo n 2 n2)) ∧ wr.heap[w.heap.size]? = some (boxE k j v t c) ∧ Below w.heap.size w wr)
  (fun i _ => 3 - (intOf i).toNat)
 case atStart => exact ⟨0, by omega, rfl, hbW, hbox2, hb2⟩
 case round =>
  clear hbW hbox2 hb2
  obtain ⟨n, hn, rfl, hW, hB, hb⟩ := hrel
  have hLr := hL.later hb
  have hlW := heap_lt hW
  have i0 : ∀ W, (Instr.index 184 (nv n0 n1 n2) (.int .i64 0)).run Tryz.prog W = .ok (.int .i64 n0) W := fun _ => by kernel_rfl
  have i1 : ∀ W, (Instr.index 184 (nv n0 n1 n2) (.int .i64 1)).run Tryz.prog W = .ok (.int .i64 n1) W := fun _ => by kernel_rfl
  have i2 : ∀ W, (Instr.index 184 (nv n0 n1 n2) (.int .i64 2)).run Tryz.prog W = .ok (.int .i64 n2) W := fun _ => by kernel_rfl
  have hn' : n = 0 ∨ n = 1 ∨ n = 2 ∨ n = 3 := by omega
  rcases hn' with rfl | rfl | rfl | rfl
  ·go_wp2_with fail
   refine (Tryz.strconv_Itoa n0 (by omega) (by omega) _ hLr.pow).mono ?_
   rintro e w3 ⟨rfl, hw3⟩
   have hb3 := below_itoa hw3
   clear hw3
   have hW3 := heap_below hW hb3 hlW
   have hB3 := heap_below hB hb3 (heap_lt hB)
   have c1 := fun i => Joins.cell_of_block hW3 i
   have c2 := fun i => Joins.unfrozen_of_block hW3 i
   go_wp2
   go_roundw
   case rel => exact ⟨1, by omega, rfl, by rw [Joins.block_setCell hW3]; rfl, by rw [Below.heap_setCell _ _ _ _ (Nat.ne_of_lt hlt)]; exact hB3, (hb.trans (hb3.mono hb.size)).setCell (Nat.le_of_lt hlt) _⟩
   case measure => simp [intOf]
  ·go_wp2_with fail
   refine (Tryz.strconv_Itoa n1 (by omega) (by omega) _ hLr.pow).mono ?_
   rintro e w3 ⟨rfl, hw3⟩
   have hb3 := below_itoa hw3
   clear hw3
   have hW3 := heap_below hW hb3 hlW
   have hB3 := heap_below hB hb3 (heap_lt hB)
   have c1 := fun i => Joins.cell_of_block hW3 i
   have c2 := fun i => Joins.unfrozen_of_block hW3 i
   go_wp2
   go_roundw
   case rel => exact ⟨2, by omega, rfl, by rw [Joins.block_setCell hW3]; rfl, by rw [Below.heap_setCell _ _ _ _ (Nat.ne_of_lt hlt)]; exact hB3, (hb.trans (hb3.mono hb.size)).setCell (Nat.le_of_lt hlt) _⟩
   case measure => simp [intOf]
  ·go_wp2_with fail
   refine (Tryz.strconv_Itoa n2 (by omega) (by omega) _ hLr.pow).mono ?_
   rintro e w3 ⟨rfl, hw3⟩
   have hb3 := below_itoa hw3
   clear hw3
   have hW3 := heap_below hW hb3 hlW
   have hB3 := heap_below hB hb3 (heap_lt hB)
   have c1 := fun i => Joins.cell_of_block hW3 i
   have c2 := fun i => Joins.unfrozen_of_block hW3 i
   go_wp2
   go_roundw
   case rel => exact ⟨3, by omega, rfl, by rw [Joins.block_setCell hW3]; rfl, by rw [Below.heap_setCell _ _ _ _ (Nat.ne_of_lt hlt)]; exact hB3, (hb.trans (hb3.mono hb.size)).setCell (Nat.le_of_lt hlt) _⟩
   case measure => simp [intOf]
  ·have hc := hct _ hLr
   clear hct i0 i1 i2 hLr
   have c0 := fun i => Joins.cell_of_block hB i
   clear hL hn hlt
   have hcnt' : cnt = 0 ∨ cnt = 1 ∨ cnt = 2 ∨ cnt = 3 := by omega
   rcases hcnt' with rfl | rfl | rfl | rfl
   all_goals
    go_wp2_with fail
    refine (join_any wb nm (upTo 3 0 n0) (upTo 3 1 n1) (upTo 3 2 n2) _ _ _ hW rfl (by omega) hnl (itoa_le _ b0.1 b0.2) (itoa_le _ b1.1 b1.2) (itoa_le _ b2.1 b2.2)).mono ?_
    rintro e w4 ⟨rfl, hb4⟩
    clear hW hB c0
    go_wp2
    go_ret2
    exact ⟨rfl, hb.trans (hb4.mono hb.size)⟩
theorem cut_len1 (r a b : List UInt8) (f : Bool) (hc : Lib.cut r [32] = (a, b, f)) : a.length ≤ r.length := by
 unfold Lib.cut at hc
 split at hc
 ·injection hc with h _; subst h; simp; omega
 ·injection hc with h _; subst h; exact Nat.le_refl _
theorem spl_len : ∀ (f : Nat) (l : List UInt8) (ws : List (List UInt8)), spl f l = some ws → ∀ x, x ∈ ws → x.length ≤ l.length
 | 0, _, _, h, _, _ => by cases h
 | f + 1, l, ws, h, x, hx => by
  rcases hc : Lib.cut l [32] with ⟨a, b, g⟩
  cases g with
  | true =>
   rw [spl_yes f hc] at h
   obtain ⟨ws', h', rfl⟩ := Option.map_eq_some_iff.1 h
   rcases List.mem_cons.1 hx with rfl | hx
   ·exact cut_len1 l x b true hc
   ·exact Nat.le_trans (spl_len f b ws' h' x hx) (cut_len l a b true hc)
  | false =>
   rw [spl_no f hc] at h
   cases h
   rcases List.mem_cons.1 hx with rfl | hx
   ·exact cut_len1 l x b false hc
   ·cases hx
theorem spl_count : ∀ (f : Nat) (l : List UInt8) (ws : List (List UInt8)), spl f l = some ws → 1 ≤ ws.length ∧ ws.length ≤ f
 | 0, _, _, h => by cases h
 | f + 1, l, ws, h => by
  rcases hc : Lib.cut l [32] with ⟨a, b, g⟩
  cases g with
  | true =>
   rw [spl_yes f hc] at h
   obtain ⟨ws', h', rfl⟩ := Option.map_eq_some_iff.1 h
   have := spl_count f b ws' h'
   simp; omega
  | false =>
   rw [spl_no f hc] at h
   cases h
   simp
theorem wd_size (ws : List (List UInt8)) (i n : Nat) (h : ∀ x, x ∈ ws → x.length ≤ n) : (wd ws i).size ≤ n := by
 rw [Lib.size_eq]
 show (ws.getD i []).length ≤ n
 rw [List.getD_eq_getElem?_getD]
 rcases hi : ws[i]? with _ | x
 ·simp
 ·exact h x (List.mem_of_getElem? hi)
def cntOf (k : Int) : Nat := if k = 0 then 0 else if k = 1 then 3 else if k = 2 then 1 else 3
def nAt (ws : List (List UInt8)) (i : Nat) : Option Int := if i < ws.length then numOf (ws.getD i []) else some 0
def rdW (ws : List (List UInt8)) : Option (Int × Int × Int × Int) :=
 if kindOf (ws.getD 0 []) < 0 ∨ ws.length ≠ 1 + cntOf (kindOf (ws.getD 0 [])) then none
 else (nAt ws 1).bind fun a => (nAt ws 2).bind fun b => (nAt ws 3).bind fun c => some (kindOf (ws.getD 0 []), a, b, c)
def rd (l : List UInt8) : Option (Int × Int × Int × Int) := (spl 4 l).bind rdW
def rdE (r : Int × Int × Int × Int) : Value := ev r.1 (bJob r.1 r.2.1) (bEvery r.1 r.2.2.1) (bTime r.1 r.2.2.1 r.2.2.2) (bClient r.1 r.2.2.2)
abbrev z5 : Value := ev 0 0 0 0 0
abbrev rdV (r : Option (Int × Int × Int × Int)) : Value := .tuple #[r.elim z5 rdE, .bool r.isSome]
theorem five_stores {W : World} {b : Nat} {k j v t c : Int} (h : W.heap[b]? = some (boxE k j v t c)) (k' j' v' t' c' : Int) :
  (((((W.setCell ⟨b, 0, none⟩ (.int .i64 k')).setCell ⟨b, 1, none⟩ (.int .i64 j')).setCell ⟨b, 2, none⟩ (.int .i64 v')).setCell ⟨b, 3, none⟩ (.int .i64 t')).setCell ⟨b, 4, none⟩ (.int .i64 c')).heap[b]? = some (boxE k' j' v' t' c') :=
 Joins.block_setCell (Joins.block_setCell (Joins.block_setCell (Joins.block_setCell (Joins.block_setCell h _) _) _) _) _
theorem ret_entry {fn : Func} {R : Ending → World → Prop} {a : Act} {W : World} {b : Nat} {k j v t c : Int} {y : Value} (hf : fn.results = #[.cell 2 27, .tmp 3]) (hd : a.defers = [])
  (h2 : a.tmps.getD 2 undef = .pointer (some ⟨b, 0, none⟩)) (h3 : a.tmps.getD 3 undef = y) (hR : W.heap[b]? = some (boxE k j v t c)) (hp : R (.returned (.tuple #[ev k j v t c, y])) W) :
  bodyPost Tryz.prog fn R .ret a W := by
 have c0 := fun i => Joins.cell_of_block hR i
 refine bodyPost_ret (v := .tuple #[ev k j v t c, y]) ?_ hd hp
 rw [results_cell_tmp hf, h2, h3]
 simp [go_sem, c0]
theorem below_five {B : Nat} {a W : World} {b : Nat} (h : Below B a W) (hb : B ≤ b) (v0 v1 v2 v3 v4 : Value) :
  Below B a (((((W.setCell ⟨b, 0, none⟩ v0).setCell ⟨b, 1, none⟩ v1).setCell ⟨b, 2, none⟩ v2).setCell ⟨b, 3, none⟩ v3).setCell ⟨b, 4, none⟩ v4) :=
 ((((h.setCell hb _).setCell hb _).setCell hb _).setCell hb _).setCell hb _
set_option maxHeartbeats 2000000 in
theorem read_none (l : List UInt8) (w : World) (hL : Laid w) (hl : l.length ≤ 30000) (hs : spl 4 l = none) :
  Calls Tryz.prog 288 #[.string ⟨l.toArray⟩] w fun e w' => e = .returned (rdV none) ∧ Below w.heap.size w w' := by
 have hsp := fun W hW => split_any l W hW hl
 rw [hs] at hsp
 go_enter Tryz.func288, Tryz.ntmps288
 go_wp2_with fail
 refine (hsp _ (hL.later (grew (Below.refl _ _) _)).most).mono ?_
 rintro e w1 ⟨rfl, hb⟩
 have hR : w1.heap[w.heap.size]? = some (boxE 0 0 0 0 0) := by rw [hb.block _ (by simp)]; exact heap_new _ _
 have hb1 : Below w.heap.size w w1 := (grew (Below.refl _ _) _).trans (hb.mono (by simp))
 have hlt : w.heap.size < w1.heap.size := by have := hb.size; simp at this; omega
 clear hb
 have c0 := fun i => Joins.cell_of_block hR i
 have c1 := fun i => Joins.unfrozen_of_block hR i
 go_wp2
 refine ret_entry Tryz.results288 rfl rfl rfl (heap_old (five_stores hR 0 0 0 0 0) _) ⟨rfl, ?_⟩
 exact (below_five hb1 (Nat.le_refl _) _ _ _ _ _).alloc (by simp; omega) _
theorem kindOf_range (l : List UInt8) : kindOf l = -1 ∨ kindOf l = 0 ∨ kindOf l = 1 ∨ kindOf l = 2 ∨ kindOf l = 3 := by
 unfold kindOf
 split
 ·simp
 split
 ·simp
 split
 ·simp
 split <;> simp
theorem Laid.cnt {W : World} (h : Laid W) (k : Int) (h0 : 0 ≤ k) (h3 : k ≤ 3) : W.cell? ⟨2, k.toNat, none⟩ = some (.int .i64 (cntOf k)) := by
 obtain ⟨c0, c1, c2, c3⟩ := h.count
 have : k = 0 ∨ k = 1 ∨ k = 2 ∨ k = 3 := by omega
 rcases this with rfl | rfl | rfl | rfl
 ·exact c0
 ·exact c1
 ·exact c2
 ·exact c3
set_option maxHeartbeats 2000000 in
theorem read_bad (l : List UInt8) (ws : List (List UInt8)) (kk n m : Int) (w : World) (hL : Laid w) (hl : l.length ≤ 30000) (hs : spl 4 l = some ws) (hk : kindOf (ws.getD 0 []) = kk) (hn : (ws.length : Int) = n)
  (hm : ((cntOf kk : Nat) : Int) = m) (hm0 : 0 ≤ m) (hm3 : m ≤ 3) (hbad : (kk < 0) ∨ (0 ≤ kk ∧ kk ≤ 3 ∧ (n != 1 + m) = true)) :
  Calls Tryz.prog 288 #[.string ⟨l.toArray⟩] w fun e w' => e = .returned (rdV none) ∧ Below w.heap.size w w' := by
 have hsp := fun W hW => split_any l W hW hl
 rw [hs] at hsp
 have hko := fun W hW => kindOf_any (wd ws 0) W hW
 rw [show kindOf (wd ws 0).data.toList = kk from hk] at hko
 have hct := fun W (h : Laid W) => h.cnt kk
 rw [hm] at hct
 simp only [Option.getD_some, Option.isSome_some] at hsp
 rw [hn] at hsp
 clear hs hk hn hm
 rcases hbad with hneg | ⟨hk0, hk3, hne⟩
 all_goals
  go_enter Tryz.func288, Tryz.ntmps288
  go_wp2_with fail
  refine (hsp _ (hL.later (grew (Below.refl _ _) _)).most).mono ?_
  rintro e w1 ⟨rfl, hb⟩
  have hR : w1.heap[w.heap.size]? = some (boxE 0 0 0 0 0) := by rw [hb.block _ (by simp)]; exact heap_new _ _
  have hb1 : Below w.heap.size w w1 := (grew (Below.refl _ _) _).trans (hb.mono (by simp))
  have hlt : w.heap.size < w1.heap.size := by have := hb.size; simp at this; omega
  clear hb hsp
  go_wp2_with fail
  refine (hko _ (hL.later (grew hb1 _))).mono ?_
  rintro e w2 ⟨rfl, rfl⟩
  have hcc := hct _ (hL.later hb1)
  clear hct hko hL
  have c0 := fun i => Joins.cell_of_block hR i
  have c1 := fun i => Joins.unfrozen_of_block hR i
 ·clear hcc
  go_wp2
  refine ret_entry Tryz.results288 rfl rfl rfl (heap_old (five_stores hR 0 0 0 0 0) _) ⟨rfl, ?_⟩
  exact (below_five hb1 (Nat.le_refl _) _ _ _ _ _).alloc (by simp; omega) _
 ·have hcc := hcc hk0 hk3
  have hg : 2 < w1.heap.size := World.block_lt_of_cell? _ _ hcc
  go_wp2
  refine ret_entry Tryz.results288 rfl rfl rfl (heap_old (five_stores hR 0 0 0 0 0) _) ⟨rfl, ?_⟩
  exact (below_five hb1 (Nat.le_refl _) _ _ _ _ _).alloc (by simp; omega) _
end Go.Proofs.YtmoaobfmopimlafGreatDoor
