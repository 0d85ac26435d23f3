/- The walk of package entry's read. The walk of package entry's read, where there are words. The walk of package entry's read, where there are as many words as the kind asks. The walks of package entry's read, Parse and Print, at every input. -/
import Derived.Test.YtnmapehbcccbhadDoorEntryF
import Derived.Laws.ResultCell
namespace Go.Proofs.YtnmapehbcccbhadDoor
open Go.RowKit

theorem cut_len1 (r a b : List UInt8) (f : Bool) (hc : Lib.cut r [32] = (a, b, f)) : a.length ≤ r.length := by
  unfold Lib.cut at hc
  split at hc
  · injection hc with h _; subst h; simp; omega
  · injection hc with h _; subst h; exact Nat.le_refl _

theorem spl_len : ∀ (f : Nat) (l : List UInt8) (ws : List (List UInt8)), spl f l = some ws → ∀ x, x ∈ ws → x.length ≤ l.length
  | 0, _, _, h, _, _ => by cases h
  | f + 1, l, ws, h, x, hx => by
    rcases hc : Lib.cut l [32] with ⟨a, b, g⟩
    cases g with
    | true =>
      rw [spl_yes f hc] at h
      obtain ⟨ws', h', rfl⟩ := Option.map_eq_some_iff.1 h
      rcases List.mem_cons.1 hx with rfl | hx
      · exact cut_len1 l x b true hc
      · exact Nat.le_trans (spl_len f b ws' h' x hx) (cut_len l a b true hc)
    | false =>
      rw [spl_no f hc] at h
      cases h
      rcases List.mem_cons.1 hx with rfl | hx
      · exact cut_len1 l x b false hc
      · cases hx

theorem spl_count : ∀ (f : Nat) (l : List UInt8) (ws : List (List UInt8)), spl f l = some ws → 1 ≤ ws.length ∧ ws.length ≤ f
  | 0, _, _, h => by cases h
  | f + 1, l, ws, h => by
    rcases hc : Lib.cut l [32] with ⟨a, b, g⟩
    cases g with
    | true =>
      rw [spl_yes f hc] at h
      obtain ⟨ws', h', rfl⟩ := Option.map_eq_some_iff.1 h
      have := spl_count f b ws' h'
      simp; omega
    | false =>
      rw [spl_no f hc] at h
      cases h
      simp

theorem wd_size (ws : List (List UInt8)) (i n : Nat) (h : ∀ x, x ∈ ws → x.length ≤ n) : (wd ws i).size ≤ n := by
  rw [Lib.size_eq]
  show (ws.getD i []).length ≤ n
  rw [List.getD_eq_getElem?_getD]
  rcases hi : ws[i]? with _ | x
  · simp
  · exact h x (List.mem_of_getElem? hi)

/-- How many numbers a text of this kind has. -/
def cntOf (k : Int) : Nat := if k = 0 then 0 else if k = 1 then 3 else if k = 2 then 1 else 3

/-- The number that stands at a word; none that is there: 0. -/
def nAt (ws : List (List UInt8)) (i : Nat) : Option Int := if i < ws.length then numOf (ws.getD i []) else some 0

/-- What is read of words: the kind and the numbers. -/
def rdW (ws : List (List UInt8)) : Option (Int × Int × Int × Int) :=
  if kindOf (ws.getD 0 []) < 0 ∨ ws.length ≠ 1 + cntOf (kindOf (ws.getD 0 [])) then none
  else (nAt ws 1).bind fun a => (nAt ws 2).bind fun b => (nAt ws 3).bind fun c => some (kindOf (ws.getD 0 []), a, b, c)

/-- What is read of a text. -/
def rd (l : List UInt8) : Option (Int × Int × Int × Int) := (spl 4 l).bind rdW

/-- The entry that is read. -/
def rdE (r : Int × Int × Int × Int) : Value := ev r.1 (bJob r.1 r.2.1) (bEvery r.1 r.2.2.1) (bTime r.1 r.2.2.1 r.2.2.2) (bClient r.1 r.2.2.2)

abbrev z5 : Value := ev 0 0 0 0 0
abbrev rdV (r : Option (Int × Int × Int × Int)) : Value := .tuple #[r.elim z5 rdE, .bool r.isSome]

/-- Five stores into an entry's block. -/
theorem five_stores {W : World} {b : Nat} {k j v t c : Int} (h : W.heap[b]? = some (boxE k j v t c)) (k' j' v' t' c' : Int) :
    (((((W.setCell ⟨b, 0, none⟩ (.int .i64 k')).setCell ⟨b, 1, none⟩ (.int .i64 j')).setCell ⟨b, 2, none⟩ (.int .i64 v')).setCell ⟨b, 3, none⟩ (.int .i64 t')).setCell ⟨b, 4, none⟩ (.int .i64 c')).heap[b]? = some (boxE k' j' v' t' c') :=
  Joins.block_setCell (Joins.block_setCell (Joins.block_setCell (Joins.block_setCell (Joins.block_setCell h _) _) _) _) _

/-- The end of a function whose results are an entry in memory and a slot. -/
theorem ret_entry {fn : Func} {R : Ending → World → Prop} {a : Act} {W : World} {b : Nat} {k j v t c : Int} {y : Value} (hf : fn.results = #[.cell 2 28, .tmp 3]) (hd : a.defers = [])
    (h2 : a.tmps.getD 2 undef = .pointer (some ⟨b, 0, none⟩)) (h3 : a.tmps.getD 3 undef = y) (hR : W.heap[b]? = some (boxE k j v t c)) (hp : R (.returned (.tuple #[ev k j v t c, y])) W) :
    bodyPost Tryd.prog fn R .ret a W := by
  have c0 : ∀ i, W.cell? ⟨b, i, none⟩ = #[Value.int .i64 k, .int .i64 j, .int .i64 v, .int .i64 t, .int .i64 c][i]? := fun i => Joins.cell_of_block hR i
  refine bodyPost_ret (v := .tuple #[ev k j v t c, y]) ?_ hd hp
  rw [results_cell_tmp hf, h2, h3]
  simp [go_sem, c0]

theorem below_five {B : Nat} {a W : World} {b : Nat} (h : Below B a W) (hb : B ≤ b) (v0 v1 v2 v3 v4 : Value) :
    Below B a (((((W.setCell ⟨b, 0, none⟩ v0).setCell ⟨b, 1, none⟩ v1).setCell ⟨b, 2, none⟩ v2).setCell ⟨b, 3, none⟩ v3).setCell ⟨b, 4, none⟩ v4) :=
  ((((h.setCell hb _).setCell hb _).setCell hb _).setCell hb _).setCell hb _

set_option maxHeartbeats 2000000 in
theorem read_none (l : List UInt8) (w : World) (hL : Laid w) (hl : l.length ≤ 30000) (hs : spl 4 l = none) :
    Calls Tryd.prog 79 #[.string ⟨l.toArray⟩] w fun e w' => e = .returned (rdV none) ∧ Below w.heap.size w w' := by
  have hsp := fun W hW => split_any l W hW hl
  rw [hs] at hsp
  go_enter Tryd.func79, Tryd.ntmps79
  go_wp2_with fail
  refine (hsp _ (hL.later (grew (Below.refl _ _) _)).most).mono ?_
  rintro e w1 ⟨rfl, hb⟩
  have hR : w1.heap[w.heap.size]? = some (boxE 0 0 0 0 0) := by rw [hb.block _ (by simp)]; exact heap_new _ _
  have hb1 : Below w.heap.size w w1 := (grew (Below.refl _ _) _).trans (hb.mono (by simp))
  have hlt : w.heap.size < w1.heap.size := by have := hb.size; simp at this; omega
  clear hb
  have c0 : ∀ i, w1.cell? ⟨w.heap.size, i, none⟩ = #[Value.int .i64 0, .int .i64 0, .int .i64 0, .int .i64 0, .int .i64 0][i]? := fun i => Joins.cell_of_block hR i
  have c1 : ∀ i, w1.frozen? ⟨w.heap.size, i, none⟩ = false := fun i => Joins.unfrozen_of_block hR i
  go_wp2
  refine ret_entry Tryd.results79 rfl rfl rfl (heap_old (five_stores hR 0 0 0 0 0) _) ⟨rfl, ?_⟩
  exact (below_five hb1 (Nat.le_refl _) _ _ _ _ _).alloc (by simp; omega) _

end Go.Proofs.YtnmapehbcccbhadDoor
namespace Go.Proofs.YtnmapehbcccbhadDoor
open Go.RowKit

theorem kindOf_range (l : List UInt8) : kindOf l = -1 ∨ kindOf l = 0 ∨ kindOf l = 1 ∨ kindOf l = 2 ∨ kindOf l = 3 := by
  unfold kindOf
  split
  · simp
  split
  · simp
  split
  · simp
  split <;> simp

theorem Laid.cnt {W : World} (h : Laid W) (k : Int) (h0 : 0 ≤ k) (h3 : k ≤ 3) : W.cell? ⟨1, k.toNat, none⟩ = some (.int .i64 (cntOf k)) := by
  obtain ⟨c0, c1, c2, c3⟩ := h.count
  have : k = 0 ∨ k = 1 ∨ k = 2 ∨ k = 3 := by omega
  rcases this with rfl | rfl | rfl | rfl
  · exact c0
  · exact c1
  · exact c2
  · exact c3

set_option maxHeartbeats 2000000 in
theorem read_bad (l : List UInt8) (ws : List (List UInt8)) (kk n m : Int) (w : World) (hL : Laid w) (hl : l.length ≤ 30000) (hs : spl 4 l = some ws) (hk : kindOf (ws.getD 0 []) = kk) (hn : (ws.length : Int) = n)
    (hm : ((cntOf kk : Nat) : Int) = m) (hm0 : 0 ≤ m) (hm3 : m ≤ 3) (hbad : (kk < 0) ∨ (0 ≤ kk ∧ kk ≤ 3 ∧ (n != 1 + m) = true)) :
    Calls Tryd.prog 79 #[.string ⟨l.toArray⟩] w fun e w' => e = .returned (rdV none) ∧ Below w.heap.size w w' := by
  have hsp := fun W hW => split_any l W hW hl
  rw [hs] at hsp
  have hko := fun W hW => kindOf_any (wd ws 0) W hW
  rw [show kindOf (wd ws 0).data.toList = kk from hk] at hko
  have hct := fun W (h : Laid W) => h.cnt kk
  rw [hm] at hct
  simp only [Option.getD_some, Option.isSome_some] at hsp
  rw [hn] at hsp
  clear hs hk hn hm
  rcases hbad with hneg | ⟨hk0, hk3, hne⟩
  all_goals
    go_enter Tryd.func79, Tryd.ntmps79
    go_wp2_with fail
    refine (hsp _ (hL.later (grew (Below.refl _ _) _)).most).mono ?_
    rintro e w1 ⟨rfl, hb⟩
    have hR : w1.heap[w.heap.size]? = some (boxE 0 0 0 0 0) := by rw [hb.block _ (by simp)]; exact heap_new _ _
    have hb1 : Below w.heap.size w w1 := (grew (Below.refl _ _) _).trans (hb.mono (by simp))
    have hlt : w.heap.size < w1.heap.size := by have := hb.size; simp at this; omega
    clear hb hsp
    go_wp2_with fail
    refine (hko _ (hL.later (grew hb1 _))).mono ?_
    rintro e w2 ⟨rfl, rfl⟩
    have hcc := hct _ (hL.later hb1)
    clear hct hko hL
    have c0 : ∀ i, w1.cell? ⟨w.heap.size, i, none⟩ = #[Value.int .i64 0, .int .i64 0, .int .i64 0, .int .i64 0, .int .i64 0][i]? := fun i => Joins.cell_of_block hR i
    have c1 : ∀ i, w1.frozen? ⟨w.heap.size, i, none⟩ = false := fun i => Joins.unfrozen_of_block hR i
  · clear hcc
    go_wp2
    refine ret_entry Tryd.results79 rfl rfl rfl (heap_old (five_stores hR 0 0 0 0 0) _) ⟨rfl, ?_⟩
    exact (below_five hb1 (Nat.le_refl _) _ _ _ _ _).alloc (by simp; omega) _
  · have hcc := hcc hk0 hk3
    have hg : 1 < w1.heap.size := World.block_lt_of_cell? _ _ hcc
    go_wp2
    refine ret_entry Tryd.results79 rfl rfl rfl (heap_old (five_stores hR 0 0 0 0 0) _) ⟨rfl, ?_⟩
    exact (below_five hb1 (Nat.le_refl _) _ _ _ _ _).alloc (by simp; omega) _

end Go.Proofs.YtnmapehbcccbhadDoor
namespace Go.Proofs.YtnmapehbcccbhadDoor
open Go.RowKit

abbrev box3 (a b c : Int) : Obj := .cells #[.int .i64 a, .int .i64 b, .int .i64 c] 82

/-- A place of the numbers once so many words are read. -/
def st (ws : List (List UInt8)) (n i : Nat) (m : Int) : Prop := if i < n then nAt ws (i + 1) = some m else m = 0

theorem number_yes (ws : List (List UInt8)) (i : Nat) (v : Int) (w : World) (hL : Laid w) (hs : (wd ws i).size ≤ 30000) (hi : i < ws.length) (hv : nAt ws i = some v) :
    Calls Tryd.prog 90 #[.string (wd ws i)] w fun e w' => e = .returned (.tuple #[.int .i64 v, .bool true]) ∧ Below w.heap.size w w' := by
  have h := number_any (wd ws i) w hL hs
  have h' : numOf (wd ws i).data.toList = some v := by
    rw [nAt, if_pos hi] at hv; exact hv
  rw [h'] at h
  exact h

theorem number_no (ws : List (List UInt8)) (i : Nat) (w : World) (hL : Laid w) (hs : (wd ws i).size ≤ 30000) (hi : i < ws.length) (hv : nAt ws i = none) :
    Calls Tryd.prog 90 #[.string (wd ws i)] w fun e w' => e = .returned (.tuple #[.int .i64 0, .bool false]) ∧ Below w.heap.size w w' := by
  have h := number_any (wd ws i) w hL hs
  have h' : numOf (wd ws i).data.toList = none := by
    rw [nAt, if_pos hi] at hv; exact hv
  rw [h'] at h
  exact h

theorem rdW_some {ws : List (List UInt8)} {kk a b c : Int} (hk : kindOf (ws.getD 0 []) = kk) (h0 : 0 ≤ kk) (hl : ws.length = 1 + cntOf kk) (ha : nAt ws 1 = some a) (hb : nAt ws 2 = some b) (hc : nAt ws 3 = some c) : rdW ws = some (kk, a, b, c) := by
  rw [rdW, hk, if_neg (by omega), ha, hb, hc]; rfl

theorem rdW_none {ws : List (List UInt8)} (h : nAt ws 1 = none ∨ nAt ws 2 = none ∨ nAt ws 3 = none) : rdW ws = none := by
  unfold rdW
  split
  · rfl
  · rcases h with h | h | h
    · rw [h]; rfl
    · rw [h]; cases nAt ws 1 <;> rfl
    · rw [h]; cases nAt ws 1 <;> cases nAt ws 2 <;> rfl

set_option maxHeartbeats 4000000 in
theorem read_go0 (l : List UInt8) (ws : List (List UInt8)) (kk : Int) (w : World) (hL : Laid w) (hl : l.length ≤ 30000) (hs : spl 4 l = some ws) (hk : kindOf (ws.getD 0 []) = kk) (hk0 : 0 ≤ kk) (hk3 : kk ≤ 3) (hm : cntOf kk = 0) (hn : ws.length = 1 + 0) :
    Calls Tryd.prog 79 #[.string ⟨l.toArray⟩] w fun e w' => e = .returned (rdV (rdW ws)) ∧ Below w.heap.size w w' := by
  have hsz : ∀ i, (wd ws i).size ≤ 30000 := fun i => Nat.le_trans (wd_size ws i _ (spl_len 4 l ws hs)) hl
  have HS : Hid (∀ i, (wd ws i).size ≤ 30000) := hsz
  have HK : Hid (kindOf (ws.getD 0 []) = kk) := hk
  have HN : Hid (ws.length = 1 + 0) := hn
  have HM : Hid (cntOf kk = 0) := hm
  have hsp := fun W hW => split_any l W hW hl
  rw [hs] at hsp
  have hko := fun W hW => kindOf_any (wd ws 0) W hW
  rw [show kindOf (wd ws 0).data.toList = kk from hk] at hko
  have hct := fun W (h : Laid W) => h.cnt kk hk0 hk3
  rw [hm] at hct
  simp only [Option.getD_some, Option.isSome_some] at hsp
  rw [hn] at hsp
  clear hs hk hn hm hsz
  go_enter Tryd.func79, Tryd.ntmps79
  go_wp2_with fail
  refine (hsp _ (hL.later (grew (Below.refl _ _) _)).most).mono ?_
  rintro e w1 ⟨rfl, hb⟩
  have hR : w1.heap[w.heap.size]? = some (boxE 0 0 0 0 0) := by rw [hb.block _ (by simp)]; exact heap_new _ _
  have hb1 : Below w.heap.size w w1 := (grew (Below.refl _ _) _).trans (hb.mono (by simp))
  have hlt : w.heap.size < w1.heap.size := by have := hb.size; simp at this; omega
  clear hb hsp
  go_wp2_with fail
  refine (hko _ (hL.later (grew hb1 _))).mono ?_
  rintro e w2 ⟨rfl, rfl⟩
  have hcc := hct _ (hL.later hb1)
  have hg : 1 < w1.heap.size := World.block_lt_of_cell? _ _ hcc
  clear hct hko
  go_wp2
  clear hcc hg
  have hW0 : ((w1.alloc (o4 ws)).alloc (box3 0 0 0)).heap[w1.heap.size]? = some (o4 ws) := heap_old (heap_new _ _) _
  have hN0 : ((w1.alloc (o4 ws)).alloc (box3 0 0 0)).heap[w1.heap.size + 1]? = some (box3 0 0 0) := by
    have := heap_new (w1.alloc (o4 ws)) (box3 0 0 0)
    rwa [World.size_alloc] at this
  have hR0 : ((w1.alloc (o4 ws)).alloc (box3 0 0 0)).heap[w.heap.size]? = some (boxE 0 0 0 0 0) := heap_old (heap_old hR _) _
  have hb0 : Below w.heap.size w ((w1.alloc (o4 ws)).alloc (box3 0 0 0)) := grew (grew hb1 _) _
  have HI : Hid (_ ∧ _ ∧ _ ∧ _) := ⟨hW0, hN0, hR0, hb0⟩
  clear hW0 hN0 hR0 hb0 hR hb1
  go_loopw [37] (fun i wr => ∃ (n : Nat) (m0 m1 m2 : Int), n ≤ 0 ∧ i = .int .i64 n ∧ wr.heap[w1.heap.size]? = some (o4 ws) ∧ wr.heap[w1.heap.size + 1]? = some (box3 m0 m1 m2) ∧ wr.heap[w.heap.size]? = some (boxE 0 0 0 0 0) ∧ Below w.heap.size w wr ∧
    Hid (st ws n 0 m0 ∧ st ws n 1 m1 ∧ st ws n 2 m2)) (fun i _ => 3 - (intOf i).toNat)
  case atStart => exact ⟨0, 0, 0, 0, by omega, rfl, HI.out.1, HI.out.2.1, HI.out.2.2.1, HI.out.2.2.2, rfl, rfl, rfl⟩
  case round =>
    clear HI
    obtain ⟨n, m0, m1, m2, hn, rfl, hW, hN, hR, hb, hst⟩ := hrel
    generalize w1.heap.size = wb at *
    have hLr := hL.later hb
    have cW : ∀ i, wr.cell? ⟨wb, i, none⟩ = #[Value.string (wd ws 0), .string (wd ws 1), .string (wd ws 2), .string (wd ws 3)][i]? := fun i => Joins.cell_of_block hW i
    have hn' : n = 0 := by omega
    subst hn'
    have HF : Hid (rdW ws = some (kk, m0, m1, m2)) := rdW_some HK.out hk0 (by rw [HM.out]; exact HN.out) (by rw [nAt, if_neg (by have := HN.out; omega)]; exact congrArg some (Eq.symm hst.out.1)) (by rw [nAt, if_neg (by have := HN.out; omega)]; exact congrArg some (Eq.symm hst.out.2.1)) (by rw [nAt, if_neg (by have := HN.out; omega)]; exact congrArg some (Eq.symm hst.out.2.2))
    clear hst HK HN HM HS hLr hL cW hW
    have cN : ∀ i, wr.cell? ⟨wb + 1, i, none⟩ = #[Value.int .i64 m0, .int .i64 m1, .int .i64 m2][i]? := fun i => Joins.cell_of_block hN i
    go_wp2_with fail
    refine (build_any kk m0 m1 m2 _).mono ?_
    rintro e w3 ⟨rfl, rfl⟩
    clear cN
    have cR : ∀ i, wr.cell? ⟨w.heap.size, i, none⟩ = #[Value.int .i64 0, .int .i64 0, .int .i64 0, .int .i64 0, .int .i64 0][i]? := fun i => Joins.cell_of_block hR i
    have fR : ∀ i, wr.frozen? ⟨w.heap.size, i, none⟩ = false := fun i => Joins.unfrozen_of_block hR i
    have hltr := heap_lt hR
    go_wp2
    refine ret_entry Tryd.results79 rfl rfl rfl (heap_old (heap_old (five_stores hR _ _ _ _ _) _) _) ⟨by rw [HF.out]; rfl, ?_⟩
    exact grew (grew (below_five hb (Nat.le_refl _) _ _ _ _ _) _) _

set_option maxHeartbeats 4000000 in
theorem read_go1 (l : List UInt8) (ws : List (List UInt8)) (kk : Int) (w : World) (hL : Laid w) (hl : l.length ≤ 30000) (hs : spl 4 l = some ws) (hk : kindOf (ws.getD 0 []) = kk) (hk0 : 0 ≤ kk) (hk3 : kk ≤ 3) (hm : cntOf kk = 1) (hn : ws.length = 1 + 1) :
    Calls Tryd.prog 79 #[.string ⟨l.toArray⟩] w fun e w' => e = .returned (rdV (rdW ws)) ∧ Below w.heap.size w w' := by
  have hsz : ∀ i, (wd ws i).size ≤ 30000 := fun i => Nat.le_trans (wd_size ws i _ (spl_len 4 l ws hs)) hl
  have HS : Hid (∀ i, (wd ws i).size ≤ 30000) := hsz
  have HK : Hid (kindOf (ws.getD 0 []) = kk) := hk
  have HN : Hid (ws.length = 1 + 1) := hn
  have HM : Hid (cntOf kk = 1) := hm
  have hsp := fun W hW => split_any l W hW hl
  rw [hs] at hsp
  have hko := fun W hW => kindOf_any (wd ws 0) W hW
  rw [show kindOf (wd ws 0).data.toList = kk from hk] at hko
  have hct := fun W (h : Laid W) => h.cnt kk hk0 hk3
  rw [hm] at hct
  simp only [Option.getD_some, Option.isSome_some] at hsp
  rw [hn] at hsp
  clear hs hk hn hm hsz
  go_enter Tryd.func79, Tryd.ntmps79
  go_wp2_with fail
  refine (hsp _ (hL.later (grew (Below.refl _ _) _)).most).mono ?_
  rintro e w1 ⟨rfl, hb⟩
  have hR : w1.heap[w.heap.size]? = some (boxE 0 0 0 0 0) := by rw [hb.block _ (by simp)]; exact heap_new _ _
  have hb1 : Below w.heap.size w w1 := (grew (Below.refl _ _) _).trans (hb.mono (by simp))
  have hlt : w.heap.size < w1.heap.size := by have := hb.size; simp at this; omega
  clear hb hsp
  go_wp2_with fail
  refine (hko _ (hL.later (grew hb1 _))).mono ?_
  rintro e w2 ⟨rfl, rfl⟩
  have hcc := hct _ (hL.later hb1)
  have hg : 1 < w1.heap.size := World.block_lt_of_cell? _ _ hcc
  clear hct hko
  go_wp2
  clear hcc hg
  have hW0 : ((w1.alloc (o4 ws)).alloc (box3 0 0 0)).heap[w1.heap.size]? = some (o4 ws) := heap_old (heap_new _ _) _
  have hN0 : ((w1.alloc (o4 ws)).alloc (box3 0 0 0)).heap[w1.heap.size + 1]? = some (box3 0 0 0) := by
    have := heap_new (w1.alloc (o4 ws)) (box3 0 0 0)
    rwa [World.size_alloc] at this
  have hR0 : ((w1.alloc (o4 ws)).alloc (box3 0 0 0)).heap[w.heap.size]? = some (boxE 0 0 0 0 0) := heap_old (heap_old hR _) _
  have hb0 : Below w.heap.size w ((w1.alloc (o4 ws)).alloc (box3 0 0 0)) := grew (grew hb1 _) _
  have HI : Hid (_ ∧ _ ∧ _ ∧ _) := ⟨hW0, hN0, hR0, hb0⟩
  clear hW0 hN0 hR0 hb0 hR hb1
  go_loopw [37] (fun i wr => ∃ (n : Nat) (m0 m1 m2 : Int), n ≤ 1 ∧ i = .int .i64 n ∧ wr.heap[w1.heap.size]? = some (o4 ws) ∧ wr.heap[w1.heap.size + 1]? = some (box3 m0 m1 m2) ∧ wr.heap[w.heap.size]? = some (boxE 0 0 0 0 0) ∧ Below w.heap.size w wr ∧
    Hid (st ws n 0 m0 ∧ st ws n 1 m1 ∧ st ws n 2 m2)) (fun i _ => 3 - (intOf i).toNat)
  case atStart => exact ⟨0, 0, 0, 0, by omega, rfl, HI.out.1, HI.out.2.1, HI.out.2.2.1, HI.out.2.2.2, rfl, rfl, rfl⟩
  case round =>
    clear HI
    obtain ⟨n, m0, m1, m2, hn, rfl, hW, hN, hR, hb, hst⟩ := hrel
    generalize w1.heap.size = wb at *
    have hLr := hL.later hb
    have cW : ∀ i, wr.cell? ⟨wb, i, none⟩ = #[Value.string (wd ws 0), .string (wd ws 1), .string (wd ws 2), .string (wd ws 3)][i]? := fun i => Joins.cell_of_block hW i
    have hn' : n = 0 ∨ n = 1 := by omega
    rcases hn' with rfl | rfl
    · have hi : 1 < ws.length := by have := HN.out; omega
      cases hx : nAt ws 1 with
      | none =>
        have HF : Hid (rdW ws = none) := rdW_none (Or.inl hx)
        have hnu := fun W hW => number_no ws 1 W hW (HS.out _) hi hx
        clear hx hi
        go_wp2_with fail
        refine (hnu _ hLr).mono ?_
        rintro e w3 ⟨rfl, hb3⟩
        clear hnu hLr hL cW
        have hN3 := heap_below hN hb3 (heap_lt hN)
        have hR3 := heap_below hR hb3 (heap_lt hR)
        have hbb := hb.trans (hb3.mono hb.size)
        clear hN hR hW hb hb3
        have cN : ∀ i, w3.cell? ⟨wb + 1, i, none⟩ = #[Value.int .i64 m0, .int .i64 m1, .int .i64 m2][i]? := fun i => Joins.cell_of_block hN3 i
        have fN : ∀ i, w3.frozen? ⟨wb + 1, i, none⟩ = false := fun i => Joins.unfrozen_of_block hN3 i
        have hR4 : (w3.setCell ⟨wb + 1, 0, none⟩ (.int .i64 0)).heap[w.heap.size]? = some (boxE 0 0 0 0 0) := by rw [Below.heap_setCell _ _ _ _ (by show w.heap.size ≠ wb + 1; omega)]; exact hR3
        have cR : ∀ i, (w3.setCell ⟨wb + 1, 0, none⟩ (.int .i64 0)).cell? ⟨w.heap.size, i, none⟩ = #[Value.int .i64 0, .int .i64 0, .int .i64 0, .int .i64 0, .int .i64 0][i]? := fun i => Joins.cell_of_block hR4 i
        have fR : ∀ i, (w3.setCell ⟨wb + 1, 0, none⟩ (.int .i64 0)).frozen? ⟨w.heap.size, i, none⟩ = false := fun i => Joins.unfrozen_of_block hR4 i
        go_wp2
        refine ret_entry Tryd.results79 rfl rfl rfl (five_stores hR4 0 0 0 0 0) ⟨by rw [HF.out]; rfl, ?_⟩
        exact below_five (hbb.setCell (by show w.heap.size ≤ wb + 1; omega) _) (Nat.le_refl _) _ _ _ _ _
      | some x =>
        have hnu := fun W hW => number_yes ws 1 x W hW (HS.out _) hi hx
        have hx : Hid (nAt ws 1 = some x) := hx
        clear hi
        go_wp2_with fail
        refine (hnu _ hLr).mono ?_
        rintro e w3 ⟨rfl, hb3⟩
        clear hnu hLr hL cW
        have hN3 := heap_below hN hb3 (heap_lt hN)
        have hR3 := heap_below hR hb3 (heap_lt hR)
        have hW3 := heap_below hW hb3 (heap_lt hW)
        have hbb := hb.trans (hb3.mono hb.size)
        clear hN hR hW hb hb3
        have cN : ∀ i, w3.cell? ⟨wb + 1, i, none⟩ = #[Value.int .i64 m0, .int .i64 m1, .int .i64 m2][i]? := fun i => Joins.cell_of_block hN3 i
        have fN : ∀ i, w3.frozen? ⟨wb + 1, i, none⟩ = false := fun i => Joins.unfrozen_of_block hN3 i
        go_wp2
        go_roundw
        case rel => exact ⟨1, x, m1, m2, by omega, rfl, by rw [Below.heap_setCell _ _ _ _ (by show wb ≠ wb + 1; omega)]; exact hW3, by rw [Joins.block_setCell hN3]; rfl, by rw [Below.heap_setCell _ _ _ _ (by show w.heap.size ≠ wb + 1; omega)]; exact hR3,
          hbb.setCell (by show w.heap.size ≤ wb + 1; omega) _, hx.out, hst.out.2.1, hst.out.2.2⟩
        case measure => simp [intOf]
    · have HF : Hid (rdW ws = some (kk, m0, m1, m2)) := rdW_some HK.out hk0 (by rw [HM.out]; exact HN.out) (hst.out.1) (by rw [nAt, if_neg (by have := HN.out; omega)]; exact congrArg some (Eq.symm hst.out.2.1)) (by rw [nAt, if_neg (by have := HN.out; omega)]; exact congrArg some (Eq.symm hst.out.2.2))
      clear hst HK HN HM HS hLr hL cW hW
      have cN : ∀ i, wr.cell? ⟨wb + 1, i, none⟩ = #[Value.int .i64 m0, .int .i64 m1, .int .i64 m2][i]? := fun i => Joins.cell_of_block hN i
      go_wp2_with fail
      refine (build_any kk m0 m1 m2 _).mono ?_
      rintro e w3 ⟨rfl, rfl⟩
      clear cN
      have cR : ∀ i, wr.cell? ⟨w.heap.size, i, none⟩ = #[Value.int .i64 0, .int .i64 0, .int .i64 0, .int .i64 0, .int .i64 0][i]? := fun i => Joins.cell_of_block hR i
      have fR : ∀ i, wr.frozen? ⟨w.heap.size, i, none⟩ = false := fun i => Joins.unfrozen_of_block hR i
      have hltr := heap_lt hR
      go_wp2
      refine ret_entry Tryd.results79 rfl rfl rfl (heap_old (heap_old (five_stores hR _ _ _ _ _) _) _) ⟨by rw [HF.out]; rfl, ?_⟩
      exact grew (grew (below_five hb (Nat.le_refl _) _ _ _ _ _) _) _

set_option maxHeartbeats 4000000 in
theorem read_go3 (l : List UInt8) (ws : List (List UInt8)) (kk : Int) (w : World) (hL : Laid w) (hl : l.length ≤ 30000) (hs : spl 4 l = some ws) (hk : kindOf (ws.getD 0 []) = kk) (hk0 : 0 ≤ kk) (hk3 : kk ≤ 3) (hm : cntOf kk = 3) (hn : ws.length = 1 + 3) :
    Calls Tryd.prog 79 #[.string ⟨l.toArray⟩] w fun e w' => e = .returned (rdV (rdW ws)) ∧ Below w.heap.size w w' := by
  have hsz : ∀ i, (wd ws i).size ≤ 30000 := fun i => Nat.le_trans (wd_size ws i _ (spl_len 4 l ws hs)) hl
  have HS : Hid (∀ i, (wd ws i).size ≤ 30000) := hsz
  have HK : Hid (kindOf (ws.getD 0 []) = kk) := hk
  have HN : Hid (ws.length = 1 + 3) := hn
  have HM : Hid (cntOf kk = 3) := hm
  have hsp := fun W hW => split_any l W hW hl
  rw [hs] at hsp
  have hko := fun W hW => kindOf_any (wd ws 0) W hW
  rw [show kindOf (wd ws 0).data.toList = kk from hk] at hko
  have hct := fun W (h : Laid W) => h.cnt kk hk0 hk3
  rw [hm] at hct
  simp only [Option.getD_some, Option.isSome_some] at hsp
  rw [hn] at hsp
  clear hs hk hn hm hsz
  go_enter Tryd.func79, Tryd.ntmps79
  go_wp2_with fail
  refine (hsp _ (hL.later (grew (Below.refl _ _) _)).most).mono ?_
  rintro e w1 ⟨rfl, hb⟩
  have hR : w1.heap[w.heap.size]? = some (boxE 0 0 0 0 0) := by rw [hb.block _ (by simp)]; exact heap_new _ _
  have hb1 : Below w.heap.size w w1 := (grew (Below.refl _ _) _).trans (hb.mono (by simp))
  have hlt : w.heap.size < w1.heap.size := by have := hb.size; simp at this; omega
  clear hb hsp
  go_wp2_with fail
  refine (hko _ (hL.later (grew hb1 _))).mono ?_
  rintro e w2 ⟨rfl, rfl⟩
  have hcc := hct _ (hL.later hb1)
  have hg : 1 < w1.heap.size := World.block_lt_of_cell? _ _ hcc
  clear hct hko
  go_wp2
  clear hcc hg
  have hW0 : ((w1.alloc (o4 ws)).alloc (box3 0 0 0)).heap[w1.heap.size]? = some (o4 ws) := heap_old (heap_new _ _) _
  have hN0 : ((w1.alloc (o4 ws)).alloc (box3 0 0 0)).heap[w1.heap.size + 1]? = some (box3 0 0 0) := by
    have := heap_new (w1.alloc (o4 ws)) (box3 0 0 0)
    rwa [World.size_alloc] at this
  have hR0 : ((w1.alloc (o4 ws)).alloc (box3 0 0 0)).heap[w.heap.size]? = some (boxE 0 0 0 0 0) := heap_old (heap_old hR _) _
  have hb0 : Below w.heap.size w ((w1.alloc (o4 ws)).alloc (box3 0 0 0)) := grew (grew hb1 _) _
  have HI : Hid (_ ∧ _ ∧ _ ∧ _) := ⟨hW0, hN0, hR0, hb0⟩
  clear hW0 hN0 hR0 hb0 hR hb1
  go_loopw [37] (fun i wr => ∃ (n : Nat) (m0 m1 m2 : Int), n ≤ 3 ∧ i = .int .i64 n ∧ wr.heap[w1.heap.size]? = some (o4 ws) ∧ wr.heap[w1.heap.size + 1]? = some (box3 m0 m1 m2) ∧ wr.heap[w.heap.size]? = some (boxE 0 0 0 0 0) ∧ Below w.heap.size w wr ∧
    Hid (st ws n 0 m0 ∧ st ws n 1 m1 ∧ st ws n 2 m2)) (fun i _ => 3 - (intOf i).toNat)
  case atStart => exact ⟨0, 0, 0, 0, by omega, rfl, HI.out.1, HI.out.2.1, HI.out.2.2.1, HI.out.2.2.2, rfl, rfl, rfl⟩
  case round =>
    clear HI
    obtain ⟨n, m0, m1, m2, hn, rfl, hW, hN, hR, hb, hst⟩ := hrel
    generalize w1.heap.size = wb at *
    have hLr := hL.later hb
    have cW : ∀ i, wr.cell? ⟨wb, i, none⟩ = #[Value.string (wd ws 0), .string (wd ws 1), .string (wd ws 2), .string (wd ws 3)][i]? := fun i => Joins.cell_of_block hW i
    have hn' : n = 0 ∨ n = 1 ∨ n = 2 ∨ n = 3 := by omega
    rcases hn' with rfl | rfl | rfl | rfl
    · have hi : 1 < ws.length := by have := HN.out; omega
      cases hx : nAt ws 1 with
      | none =>
        have HF : Hid (rdW ws = none) := rdW_none (Or.inl hx)
        have hnu := fun W hW => number_no ws 1 W hW (HS.out _) hi hx
        clear hx hi
        go_wp2_with fail
        refine (hnu _ hLr).mono ?_
        rintro e w3 ⟨rfl, hb3⟩
        clear hnu hLr hL cW
        have hN3 := heap_below hN hb3 (heap_lt hN)
        have hR3 := heap_below hR hb3 (heap_lt hR)
        have hbb := hb.trans (hb3.mono hb.size)
        clear hN hR hW hb hb3
        have cN : ∀ i, w3.cell? ⟨wb + 1, i, none⟩ = #[Value.int .i64 m0, .int .i64 m1, .int .i64 m2][i]? := fun i => Joins.cell_of_block hN3 i
        have fN : ∀ i, w3.frozen? ⟨wb + 1, i, none⟩ = false := fun i => Joins.unfrozen_of_block hN3 i
        have hR4 : (w3.setCell ⟨wb + 1, 0, none⟩ (.int .i64 0)).heap[w.heap.size]? = some (boxE 0 0 0 0 0) := by rw [Below.heap_setCell _ _ _ _ (by show w.heap.size ≠ wb + 1; omega)]; exact hR3
        have cR : ∀ i, (w3.setCell ⟨wb + 1, 0, none⟩ (.int .i64 0)).cell? ⟨w.heap.size, i, none⟩ = #[Value.int .i64 0, .int .i64 0, .int .i64 0, .int .i64 0, .int .i64 0][i]? := fun i => Joins.cell_of_block hR4 i
        have fR : ∀ i, (w3.setCell ⟨wb + 1, 0, none⟩ (.int .i64 0)).frozen? ⟨w.heap.size, i, none⟩ = false := fun i => Joins.unfrozen_of_block hR4 i
        go_wp2
        refine ret_entry Tryd.results79 rfl rfl rfl (five_stores hR4 0 0 0 0 0) ⟨by rw [HF.out]; rfl, ?_⟩
        exact below_five (hbb.setCell (by show w.heap.size ≤ wb + 1; omega) _) (Nat.le_refl _) _ _ _ _ _
      | some x =>
        have hnu := fun W hW => number_yes ws 1 x W hW (HS.out _) hi hx
        have hx : Hid (nAt ws 1 = some x) := hx
        clear hi
        go_wp2_with fail
        refine (hnu _ hLr).mono ?_
        rintro e w3 ⟨rfl, hb3⟩
        clear hnu hLr hL cW
        have hN3 := heap_below hN hb3 (heap_lt hN)
        have hR3 := heap_below hR hb3 (heap_lt hR)
        have hW3 := heap_below hW hb3 (heap_lt hW)
        have hbb := hb.trans (hb3.mono hb.size)
        clear hN hR hW hb hb3
        have cN : ∀ i, w3.cell? ⟨wb + 1, i, none⟩ = #[Value.int .i64 m0, .int .i64 m1, .int .i64 m2][i]? := fun i => Joins.cell_of_block hN3 i
        have fN : ∀ i, w3.frozen? ⟨wb + 1, i, none⟩ = false := fun i => Joins.unfrozen_of_block hN3 i
        go_wp2
        go_roundw
        case rel => exact ⟨1, x, m1, m2, by omega, rfl, by rw [Below.heap_setCell _ _ _ _ (by show wb ≠ wb + 1; omega)]; exact hW3, by rw [Joins.block_setCell hN3]; rfl, by rw [Below.heap_setCell _ _ _ _ (by show w.heap.size ≠ wb + 1; omega)]; exact hR3,
          hbb.setCell (by show w.heap.size ≤ wb + 1; omega) _, hx.out, hst.out.2.1, hst.out.2.2⟩
        case measure => simp [intOf]
    · have hi : 2 < ws.length := by have := HN.out; omega
      cases hx : nAt ws 2 with
      | none =>
        have HF : Hid (rdW ws = none) := rdW_none (Or.inr (Or.inl hx))
        have hnu := fun W hW => number_no ws 2 W hW (HS.out _) hi hx
        clear hx hi
        go_wp2_with fail
        refine (hnu _ hLr).mono ?_
        rintro e w3 ⟨rfl, hb3⟩
        clear hnu hLr hL cW
        have hN3 := heap_below hN hb3 (heap_lt hN)
        have hR3 := heap_below hR hb3 (heap_lt hR)
        have hbb := hb.trans (hb3.mono hb.size)
        clear hN hR hW hb hb3
        have cN : ∀ i, w3.cell? ⟨wb + 1, i, none⟩ = #[Value.int .i64 m0, .int .i64 m1, .int .i64 m2][i]? := fun i => Joins.cell_of_block hN3 i
        have fN : ∀ i, w3.frozen? ⟨wb + 1, i, none⟩ = false := fun i => Joins.unfrozen_of_block hN3 i
        have hR4 : (w3.setCell ⟨wb + 1, 1, none⟩ (.int .i64 0)).heap[w.heap.size]? = some (boxE 0 0 0 0 0) := by rw [Below.heap_setCell _ _ _ _ (by show w.heap.size ≠ wb + 1; omega)]; exact hR3
        have cR : ∀ i, (w3.setCell ⟨wb + 1, 1, none⟩ (.int .i64 0)).cell? ⟨w.heap.size, i, none⟩ = #[Value.int .i64 0, .int .i64 0, .int .i64 0, .int .i64 0, .int .i64 0][i]? := fun i => Joins.cell_of_block hR4 i
        have fR : ∀ i, (w3.setCell ⟨wb + 1, 1, none⟩ (.int .i64 0)).frozen? ⟨w.heap.size, i, none⟩ = false := fun i => Joins.unfrozen_of_block hR4 i
        go_wp2
        refine ret_entry Tryd.results79 rfl rfl rfl (five_stores hR4 0 0 0 0 0) ⟨by rw [HF.out]; rfl, ?_⟩
        exact below_five (hbb.setCell (by show w.heap.size ≤ wb + 1; omega) _) (Nat.le_refl _) _ _ _ _ _
      | some x =>
        have hnu := fun W hW => number_yes ws 2 x W hW (HS.out _) hi hx
        have hx : Hid (nAt ws 2 = some x) := hx
        clear hi
        go_wp2_with fail
        refine (hnu _ hLr).mono ?_
        rintro e w3 ⟨rfl, hb3⟩
        clear hnu hLr hL cW
        have hN3 := heap_below hN hb3 (heap_lt hN)
        have hR3 := heap_below hR hb3 (heap_lt hR)
        have hW3 := heap_below hW hb3 (heap_lt hW)
        have hbb := hb.trans (hb3.mono hb.size)
        clear hN hR hW hb hb3
        have cN : ∀ i, w3.cell? ⟨wb + 1, i, none⟩ = #[Value.int .i64 m0, .int .i64 m1, .int .i64 m2][i]? := fun i => Joins.cell_of_block hN3 i
        have fN : ∀ i, w3.frozen? ⟨wb + 1, i, none⟩ = false := fun i => Joins.unfrozen_of_block hN3 i
        go_wp2
        go_roundw
        case rel => exact ⟨2, m0, x, m2, by omega, rfl, by rw [Below.heap_setCell _ _ _ _ (by show wb ≠ wb + 1; omega)]; exact hW3, by rw [Joins.block_setCell hN3]; rfl, by rw [Below.heap_setCell _ _ _ _ (by show w.heap.size ≠ wb + 1; omega)]; exact hR3,
          hbb.setCell (by show w.heap.size ≤ wb + 1; omega) _, hst.out.1, hx.out, hst.out.2.2⟩
        case measure => simp [intOf]
    · have hi : 3 < ws.length := by have := HN.out; omega
      cases hx : nAt ws 3 with
      | none =>
        have HF : Hid (rdW ws = none) := rdW_none (Or.inr (Or.inr hx))
        have hnu := fun W hW => number_no ws 3 W hW (HS.out _) hi hx
        clear hx hi
        go_wp2_with fail
        refine (hnu _ hLr).mono ?_
        rintro e w3 ⟨rfl, hb3⟩
        clear hnu hLr hL cW
        have hN3 := heap_below hN hb3 (heap_lt hN)
        have hR3 := heap_below hR hb3 (heap_lt hR)
        have hbb := hb.trans (hb3.mono hb.size)
        clear hN hR hW hb hb3
        have cN : ∀ i, w3.cell? ⟨wb + 1, i, none⟩ = #[Value.int .i64 m0, .int .i64 m1, .int .i64 m2][i]? := fun i => Joins.cell_of_block hN3 i
        have fN : ∀ i, w3.frozen? ⟨wb + 1, i, none⟩ = false := fun i => Joins.unfrozen_of_block hN3 i
        have hR4 : (w3.setCell ⟨wb + 1, 2, none⟩ (.int .i64 0)).heap[w.heap.size]? = some (boxE 0 0 0 0 0) := by rw [Below.heap_setCell _ _ _ _ (by show w.heap.size ≠ wb + 1; omega)]; exact hR3
        have cR : ∀ i, (w3.setCell ⟨wb + 1, 2, none⟩ (.int .i64 0)).cell? ⟨w.heap.size, i, none⟩ = #[Value.int .i64 0, .int .i64 0, .int .i64 0, .int .i64 0, .int .i64 0][i]? := fun i => Joins.cell_of_block hR4 i
        have fR : ∀ i, (w3.setCell ⟨wb + 1, 2, none⟩ (.int .i64 0)).frozen? ⟨w.heap.size, i, none⟩ = false := fun i => Joins.unfrozen_of_block hR4 i
        go_wp2
        refine ret_entry Tryd.results79 rfl rfl rfl (five_stores hR4 0 0 0 0 0) ⟨by rw [HF.out]; rfl, ?_⟩
        exact below_five (hbb.setCell (by show w.heap.size ≤ wb + 1; omega) _) (Nat.le_refl _) _ _ _ _ _
      | some x =>
        have hnu := fun W hW => number_yes ws 3 x W hW (HS.out _) hi hx
        have hx : Hid (nAt ws 3 = some x) := hx
        clear hi
        go_wp2_with fail
        refine (hnu _ hLr).mono ?_
        rintro e w3 ⟨rfl, hb3⟩
        clear hnu hLr hL cW
        have hN3 := heap_below hN hb3 (heap_lt hN)
        have hR3 := heap_below hR hb3 (heap_lt hR)
        have hW3 := heap_below hW hb3 (heap_lt hW)
        have hbb := hb.trans (hb3.mono hb.size)
        clear hN hR hW hb hb3
        have cN : ∀ i, w3.cell? ⟨wb + 1, i, none⟩ = #[Value.int .i64 m0, .int .i64 m1, .int .i64 m2][i]? := fun i => Joins.cell_of_block hN3 i
        have fN : ∀ i, w3.frozen? ⟨wb + 1, i, none⟩ = false := fun i => Joins.unfrozen_of_block hN3 i
        go_wp2
        go_roundw
        case rel => exact ⟨3, m0, m1, x, by omega, rfl, by rw [Below.heap_setCell _ _ _ _ (by show wb ≠ wb + 1; omega)]; exact hW3, by rw [Joins.block_setCell hN3]; rfl, by rw [Below.heap_setCell _ _ _ _ (by show w.heap.size ≠ wb + 1; omega)]; exact hR3,
          hbb.setCell (by show w.heap.size ≤ wb + 1; omega) _, hst.out.1, hst.out.2.1, hx.out⟩
        case measure => simp [intOf]
    · have HF : Hid (rdW ws = some (kk, m0, m1, m2)) := rdW_some HK.out hk0 (by rw [HM.out]; exact HN.out) (hst.out.1) (hst.out.2.1) (hst.out.2.2)
      clear hst HK HN HM HS hLr hL cW hW
      have cN : ∀ i, wr.cell? ⟨wb + 1, i, none⟩ = #[Value.int .i64 m0, .int .i64 m1, .int .i64 m2][i]? := fun i => Joins.cell_of_block hN i
      go_wp2_with fail
      refine (build_any kk m0 m1 m2 _).mono ?_
      rintro e w3 ⟨rfl, rfl⟩
      clear cN
      have cR : ∀ i, wr.cell? ⟨w.heap.size, i, none⟩ = #[Value.int .i64 0, .int .i64 0, .int .i64 0, .int .i64 0, .int .i64 0][i]? := fun i => Joins.cell_of_block hR i
      have fR : ∀ i, wr.frozen? ⟨w.heap.size, i, none⟩ = false := fun i => Joins.unfrozen_of_block hR i
      have hltr := heap_lt hR
      go_wp2
      refine ret_entry Tryd.results79 rfl rfl rfl (heap_old (heap_old (five_stores hR _ _ _ _ _) _) _) ⟨by rw [HF.out]; rfl, ?_⟩
      exact grew (grew (below_five hb (Nat.le_refl _) _ _ _ _ _) _) _

end Go.Proofs.YtnmapehbcccbhadDoor
namespace Go.Proofs.YtnmapehbcccbhadDoor
open Go.RowKit

theorem read_any (l : List UInt8) (w : World) (hL : Laid w) (hl : l.length ≤ 30000) :
    Calls Tryd.prog 79 #[.string ⟨l.toArray⟩] w fun e w' => e = .returned (rdV (rd l)) ∧ Below w.heap.size w w' := by
  cases hs : spl 4 l with
  | none =>
    have hr : rd l = none := by rw [rd, hs]; rfl
    rw [hr]
    exact read_none l w hL hl hs
  | some ws =>
    have hr : rd l = rdW ws := by rw [rd, hs]; rfl
    rw [hr]
    have hkr := kindOf_range (ws.getD 0 [])
    have hc := spl_count 4 l ws hs
    have hcn : ∀ k : Int, cntOf k = 0 ∨ cntOf k = 1 ∨ cntOf k = 3 := by
      intro k; unfold cntOf
      split
      · simp
      split
      · simp
      split <;> simp
    by_cases hbad : kindOf (ws.getD 0 []) < 0 ∨ ws.length ≠ 1 + cntOf (kindOf (ws.getD 0 []))
    · have hn : rdW ws = none := by rw [rdW, if_pos hbad]
      rw [hn]
      refine read_bad l ws _ _ _ w hL hl hs rfl rfl rfl (by omega) (by have := hcn (kindOf (ws.getD 0 [])); omega) ?_
      by_cases h0 : kindOf (ws.getD 0 []) < 0
      · exact Or.inl h0
      · refine Or.inr ⟨by omega, by omega, ?_⟩
        have := hbad.resolve_left h0
        rw [bne_iff_ne]; omega
    · have hk0 : 0 ≤ kindOf (ws.getD 0 []) := by omega
      have hk3 : kindOf (ws.getD 0 []) ≤ 3 := by omega
      have hn : ws.length = 1 + cntOf (kindOf (ws.getD 0 [])) := by omega
      rcases hcn (kindOf (ws.getD 0 [])) with h | h | h
      · exact read_go0 l ws _ w hL hl hs rfl hk0 hk3 h (by omega)
      · exact read_go1 l ws _ w hL hl hs rfl hk0 hk3 h (by omega)
      · exact read_go3 l ws _ w hL hl hs rfl hk0 hk3 h (by omega)

def rdEn (r : Int × Int × Int × Int) : En := ⟨r.1, bJob r.1 r.2.1, bEvery r.1 r.2.2.1, bTime r.1 r.2.2.1 r.2.2.2, bClient r.1 r.2.2.2⟩

/-- What Parse answers. -/
def prs (l : List UInt8) : En × Int :=
  if 30000 < l.length then (En.zero, 2) else match rd l with
    | none => (En.zero, 1)
    | some r => if (rdEn r).chk = 0 then (rdEn r, 0) else (En.zero, (rdEn r).chk)

theorem parse_long (s : ByteArray) (w : World) (hs : 30000 < (s.size : Int)) :
    Calls Tryd.prog 68 #[.string s] w fun e w' => e = .returned (.tuple #[z5, .int .i64 2]) ∧ Below w.heap.size w w' := by
  go_enter Tryd.func68, Tryd.ntmps68
  go_wp2
  exact ret_entry Tryd.results68 rfl rfl rfl (heap_new _ _) ⟨rfl, grew (Below.refl _ _) _⟩

theorem parse_none (l : List UInt8) (w : World) (hL : Laid w) (hl : l.length ≤ 30000) (hr : rd l = none) :
    Calls Tryd.prog 68 #[.string ⟨l.toArray⟩] w fun e w' => e = .returned (.tuple #[z5, .int .i64 1]) ∧ Below w.heap.size w w' := by
  have hrd := fun W hW => read_any l W hW hl
  rw [hr] at hrd
  have hle : (l.length : Int) ≤ 30000 := by omega
  clear hr hl
  go_enter Tryd.func68, Tryd.ntmps68
  go_wp2_with fail
  refine (hrd _ (hL.later (grew (Below.refl _ _) _))).mono ?_
  rintro e w1 ⟨rfl, hb⟩
  have hR : w1.heap[w.heap.size]? = some (boxE 0 0 0 0 0) := by rw [hb.block _ (by simp)]; exact heap_new _ _
  have hb1 : Below w.heap.size w w1 := (grew (Below.refl _ _) _).trans (hb.mono (by simp))
  have hlt : w.heap.size < w1.heap.size := by have := hb.size; simp at this; omega
  clear hb hrd
  have c0 : ∀ i, w1.cell? ⟨w.heap.size, i, none⟩ = #[Value.int .i64 0, .int .i64 0, .int .i64 0, .int .i64 0, .int .i64 0][i]? := fun i => Joins.cell_of_block hR i
  have c1 : ∀ i, w1.frozen? ⟨w.heap.size, i, none⟩ = false := fun i => Joins.unfrozen_of_block hR i
  go_wp2
  refine ret_entry Tryd.results68 rfl rfl rfl (heap_old (five_stores hR 0 0 0 0 0) _) ⟨rfl, ?_⟩
  exact grew (below_five hb1 (Nat.le_refl _) _ _ _ _ _) _

set_option maxHeartbeats 1000000 in
theorem parse_good (l : List UInt8) (k j v t c : Int) (w : World) (hL : Laid w) (hl : l.length ≤ 30000) (hr : rdV (rd l) = .tuple #[ev k j v t c, .bool true]) (hc : chk k j v t c = 0) :
    Calls Tryd.prog 68 #[.string ⟨l.toArray⟩] w fun e w' => e = .returned (.tuple #[ev k j v t c, .int .i64 0]) ∧ Below w.heap.size w w' := by
  have hrd := fun W hW => read_any l W hW hl
  rw [hr] at hrd
  have hch := fun W => check_any k j v t c W
  rw [hc] at hch
  have hle : (l.length : Int) ≤ 30000 := by omega
  clear hr hl hc
  go_enter Tryd.func68, Tryd.ntmps68
  go_wp2_with fail
  refine (hrd _ (hL.later (grew (Below.refl _ _) _))).mono ?_
  rintro e w1 ⟨rfl, hb⟩
  have hR : w1.heap[w.heap.size]? = some (boxE 0 0 0 0 0) := by rw [hb.block _ (by simp)]; exact heap_new _ _
  have hb1 : Below w.heap.size w w1 := (grew (Below.refl _ _) _).trans (hb.mono (by simp))
  have hlt : w.heap.size < w1.heap.size := by have := hb.size; simp at this; omega
  clear hb hrd
  go_wp2_with fail
  refine (hch _).mono ?_
  rintro e w2 ⟨rfl, hb2⟩
  clear hch
  have hE2 : w2.heap[w1.heap.size]? = some (boxE k j v t c) := by rw [hb2.block _ (by simp)]; exact heap_new _ _
  have hR2 : w2.heap[w.heap.size]? = some (boxE 0 0 0 0 0) := by rw [hb2.block _ (by simp; omega)]; exact heap_old hR _
  have hbb : Below w.heap.size w w2 := (grew hb1 _).trans (hb2.mono (by simp; omega))
  generalize w1.heap.size = eb at *
  clear hb2 hb1 hR
  have c0 : ∀ i, w2.cell? ⟨w.heap.size, i, none⟩ = #[Value.int .i64 0, .int .i64 0, .int .i64 0, .int .i64 0, .int .i64 0][i]? := fun i => Joins.cell_of_block hR2 i
  have c1 : ∀ i, w2.frozen? ⟨w.heap.size, i, none⟩ = false := fun i => Joins.unfrozen_of_block hR2 i
  have c2 : ∀ i, w2.cell? ⟨eb, i, none⟩ = #[Value.int .i64 k, .int .i64 j, .int .i64 v, .int .i64 t, .int .i64 c][i]? := fun i => Joins.cell_of_block hE2 i
  go_wp2
  exact ret_entry Tryd.results68 rfl rfl rfl (five_stores hR2 k j v t c) ⟨rfl, below_five hbb (Nat.le_refl _) _ _ _ _ _⟩

set_option maxHeartbeats 1000000 in
theorem parse_bad (l : List UInt8) (k j v t c : Int) (n : Int) (w : World) (hL : Laid w) (hl : l.length ≤ 30000) (hr : rdV (rd l) = .tuple #[ev k j v t c, .bool true]) (hc : chk k j v t c = n) (hz : (n != 0) = true) :
    Calls Tryd.prog 68 #[.string ⟨l.toArray⟩] w fun e w' => e = .returned (.tuple #[z5, .int .i64 n]) ∧ Below w.heap.size w w' := by
  have hrd := fun W hW => read_any l W hW hl
  rw [hr] at hrd
  have hch := fun W => check_any k j v t c W
  rw [hc] at hch
  have hle : (l.length : Int) ≤ 30000 := by omega
  clear hr hl hc
  go_enter Tryd.func68, Tryd.ntmps68
  go_wp2_with fail
  refine (hrd _ (hL.later (grew (Below.refl _ _) _))).mono ?_
  rintro e w1 ⟨rfl, hb⟩
  have hR : w1.heap[w.heap.size]? = some (boxE 0 0 0 0 0) := by rw [hb.block _ (by simp)]; exact heap_new _ _
  have hb1 : Below w.heap.size w w1 := (grew (Below.refl _ _) _).trans (hb.mono (by simp))
  have hlt : w.heap.size < w1.heap.size := by have := hb.size; simp at this; omega
  clear hb hrd
  go_wp2_with fail
  refine (hch _).mono ?_
  rintro e w2 ⟨rfl, hb2⟩
  clear hch
  have hE2 : w2.heap[w1.heap.size]? = some (boxE k j v t c) := by rw [hb2.block _ (by simp)]; exact heap_new _ _
  have hR2 : w2.heap[w.heap.size]? = some (boxE 0 0 0 0 0) := by rw [hb2.block _ (by simp; omega)]; exact heap_old hR _
  have hbb : Below w.heap.size w w2 := (grew hb1 _).trans (hb2.mono (by simp; omega))
  generalize w1.heap.size = eb at *
  clear hb2 hb1 hR
  have c0 : ∀ i, w2.cell? ⟨w.heap.size, i, none⟩ = #[Value.int .i64 0, .int .i64 0, .int .i64 0, .int .i64 0, .int .i64 0][i]? := fun i => Joins.cell_of_block hR2 i
  have c1 : ∀ i, w2.frozen? ⟨w.heap.size, i, none⟩ = false := fun i => Joins.unfrozen_of_block hR2 i
  have c2 : ∀ i, w2.cell? ⟨eb, i, none⟩ = #[Value.int .i64 k, .int .i64 j, .int .i64 v, .int .i64 t, .int .i64 c][i]? := fun i => Joins.cell_of_block hE2 i
  go_wp2
  exact ret_entry Tryd.results68 rfl rfl rfl (five_stores hR2 0 0 0 0 0) ⟨rfl, below_five hbb (Nat.le_refl _) _ _ _ _ _⟩

/-- Parse, at every text. -/
theorem parse_any (s : ByteArray) (w : World) (hL : Laid w) :
    Calls Tryd.prog 68 #[.string s] w fun e w' => e = .returned (.tuple #[(prs s.data.toList).1.val, .int .i64 (prs s.data.toList).2]) ∧ Below w.heap.size w w' := by
  by_cases hs : 30000 < s.data.toList.length
  · have hp : prs s.data.toList = (En.zero, 2) := if_pos hs
    rw [hp]
    exact parse_long s w (by rw [Lib.size_eq]; omega)
  · obtain ⟨⟨l⟩⟩ := s
    have hs' : ¬ 30000 < l.length := hs
    show Calls Tryd.prog 68 #[.string ⟨l.toArray⟩] w fun e w' => e = .returned (.tuple #[(prs l).1.val, .int .i64 (prs l).2]) ∧ Below w.heap.size w w'
    cases hr : rd l with
    | none =>
      have hp : prs l = (En.zero, 1) := by rw [prs, if_neg hs', hr]
      rw [hp]
      exact parse_none l w hL (by omega) hr
    | some r =>
      have hp : prs l = if (rdEn r).chk = 0 then (rdEn r, 0) else (En.zero, (rdEn r).chk) := by rw [prs, if_neg hs', hr]
      rw [hp]
      by_cases h0 : (rdEn r).chk = 0
      · rw [if_pos h0]
        exact parse_good l (rdEn r).k (rdEn r).j (rdEn r).v (rdEn r).t (rdEn r).c w hL (by omega) (by rw [hr]; rfl) h0
      · rw [if_neg h0]
        exact parse_bad l (rdEn r).k (rdEn r).j (rdEn r).v (rdEn r).t (rdEn r).c (rdEn r).chk w hL (by omega) (by rw [hr]; rfl) rfl (by rw [bne_iff_ne]; exact h0)

end Go.Proofs.YtnmapehbcccbhadDoor
