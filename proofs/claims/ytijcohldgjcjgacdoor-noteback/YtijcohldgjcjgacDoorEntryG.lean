/- The walk of package entry's read. -/
import Derived.Test.YtijcohldgjcjgacDoorEntryF
import Derived.Laws.ResultCell
namespace Go.Proofs.YtijcohldgjcjgacDoor
open Go.RowKit

theorem cut_len1 (r a b : List UInt8) (f : Bool) (hc : Lib.cut r [32] = (a, b, f)) : a.length ≤ r.length := by
  unfold Lib.cut at hc
  split at hc
  · injection hc with h _; subst h; simp; omega
  · injection hc with h _; subst h; exact Nat.le_refl _

theorem spl_len : ∀ (f : Nat) (l : List UInt8) (ws : List (List UInt8)), spl f l = some ws → ∀ x, x ∈ ws → x.length ≤ l.length
  | 0, _, _, h, _, _ => by cases h
  | f + 1, l, ws, h, x, hx => by
    rcases hc : Lib.cut l [32] with ⟨a, b, g⟩
    cases g with
    | true =>
      rw [spl_yes f hc] at h
      obtain ⟨ws', h', rfl⟩ := Option.map_eq_some_iff.1 h
      rcases List.mem_cons.1 hx with rfl | hx
      · exact cut_len1 l x b true hc
      · exact Nat.le_trans (spl_len f b ws' h' x hx) (cut_len l a b true hc)
    | false =>
      rw [spl_no f hc] at h
      cases h
      rcases List.mem_cons.1 hx with rfl | hx
      · exact cut_len1 l x b false hc
      · cases hx

theorem spl_count : ∀ (f : Nat) (l : List UInt8) (ws : List (List UInt8)), spl f l = some ws → 1 ≤ ws.length ∧ ws.length ≤ f
  | 0, _, _, h => by cases h
  | f + 1, l, ws, h => by
    rcases hc : Lib.cut l [32] with ⟨a, b, g⟩
    cases g with
    | true =>
      rw [spl_yes f hc] at h
      obtain ⟨ws', h', rfl⟩ := Option.map_eq_some_iff.1 h
      have := spl_count f b ws' h'
      simp; omega
    | false =>
      rw [spl_no f hc] at h
      cases h
      simp

theorem wd_size (ws : List (List UInt8)) (i n : Nat) (h : ∀ x, x ∈ ws → x.length ≤ n) : (wd ws i).size ≤ n := by
  rw [Lib.size_eq]
  show (ws.getD i []).length ≤ n
  rw [List.getD_eq_getElem?_getD]
  rcases hi : ws[i]? with _ | x
  · simp
  · exact h x (List.mem_of_getElem? hi)

/-- How many numbers a text of this kind has. -/
def cntOf (k : Int) : Nat := if k = 0 then 0 else if k = 1 then 3 else if k = 2 then 1 else 3

/-- The number that stands at a word; none that is there: 0. -/
def nAt (ws : List (List UInt8)) (i : Nat) : Option Int := if i < ws.length then numOf (ws.getD i []) else some 0

/-- What is read of words: the kind and the numbers. -/
def rdW (ws : List (List UInt8)) : Option (Int × Int × Int × Int) :=
  if kindOf (ws.getD 0 []) < 0 ∨ ws.length ≠ 1 + cntOf (kindOf (ws.getD 0 [])) then none
  else (nAt ws 1).bind fun a => (nAt ws 2).bind fun b => (nAt ws 3).bind fun c => some (kindOf (ws.getD 0 []), a, b, c)

/-- What is read of a text. -/
def rd (l : List UInt8) : Option (Int × Int × Int × Int) := (spl 4 l).bind rdW

/-- The entry that is read. -/
def rdE (r : Int × Int × Int × Int) : Value := ev r.1 (bJob r.1 r.2.1) (bEvery r.1 r.2.2.1) (bTime r.1 r.2.2.1 r.2.2.2) (bClient r.1 r.2.2.2)

abbrev z5 : Value := ev 0 0 0 0 0
abbrev rdV (r : Option (Int × Int × Int × Int)) : Value := .tuple #[r.elim z5 rdE, .bool r.isSome]

/-- Five stores into an entry's block. -/
theorem five_stores {W : World} {b : Nat} {k j v t c : Int} (h : W.heap[b]? = some (boxE k j v t c)) (k' j' v' t' c' : Int) :
    (((((W.setCell ⟨b, 0, none⟩ (.int .i64 k')).setCell ⟨b, 1, none⟩ (.int .i64 j')).setCell ⟨b, 2, none⟩ (.int .i64 v')).setCell ⟨b, 3, none⟩ (.int .i64 t')).setCell ⟨b, 4, none⟩ (.int .i64 c')).heap[b]? = some (boxE k' j' v' t' c') :=
  Joins.block_setCell (Joins.block_setCell (Joins.block_setCell (Joins.block_setCell (Joins.block_setCell h _) _) _) _) _

/-- The end of a function whose results are an entry in memory and a slot. -/
theorem ret_entry {fn : Func} {R : Ending → World → Prop} {a : Act} {W : World} {b : Nat} {k j v t c : Int} {y : Value} (hf : fn.results = #[.cell 2 23, .tmp 3]) (hd : a.defers = [])
    (h2 : a.tmps.getD 2 undef = .pointer (some ⟨b, 0, none⟩)) (h3 : a.tmps.getD 3 undef = y) (hR : W.heap[b]? = some (boxE k j v t c)) (hp : R (.returned (.tuple #[ev k j v t c, y])) W) :
    bodyPost Tryd.prog fn R .ret a W := by
  have c0 : ∀ i, W.cell? ⟨b, i, none⟩ = #[Value.int .i64 k, .int .i64 j, .int .i64 v, .int .i64 t, .int .i64 c][i]? := fun i => Joins.cell_of_block hR i
  refine bodyPost_ret (v := .tuple #[ev k j v t c, y]) ?_ hd hp
  rw [results_cell_tmp hf, h2, h3]
  simp [go_sem, c0]

theorem below_five {B : Nat} {a W : World} {b : Nat} (h : Below B a W) (hb : B ≤ b) (v0 v1 v2 v3 v4 : Value) :
    Below B a (((((W.setCell ⟨b, 0, none⟩ v0).setCell ⟨b, 1, none⟩ v1).setCell ⟨b, 2, none⟩ v2).setCell ⟨b, 3, none⟩ v3).setCell ⟨b, 4, none⟩ v4) :=
  ((((h.setCell hb _).setCell hb _).setCell hb _).setCell hb _).setCell hb _

set_option maxHeartbeats 2000000 in
theorem read_none (l : List UInt8) (w : World) (hL : Laid w) (hl : l.length ≤ 30000) (hs : spl 4 l = none) :
    Calls Tryd.prog 64 #[.string ⟨l.toArray⟩] w fun e w' => e = .returned (rdV none) ∧ Below w.heap.size w w' := by
  have hsp := fun W hW => split_any l W hW hl
  rw [hs] at hsp
  go_enter Tryd.func64, Tryd.ntmps64
  go_wp2_with fail
  refine (hsp _ (hL.later (grew (Below.refl _ _) _)).most).mono ?_
  rintro e w1 ⟨rfl, hb⟩
  have hR : w1.heap[w.heap.size]? = some (boxE 0 0 0 0 0) := by rw [hb.block _ (by simp)]; exact heap_new _ _
  have hb1 : Below w.heap.size w w1 := (grew (Below.refl _ _) _).trans (hb.mono (by simp))
  have hlt : w.heap.size < w1.heap.size := by have := hb.size; simp at this; omega
  clear hb
  have c0 : ∀ i, w1.cell? ⟨w.heap.size, i, none⟩ = #[Value.int .i64 0, .int .i64 0, .int .i64 0, .int .i64 0, .int .i64 0][i]? := fun i => Joins.cell_of_block hR i
  have c1 : ∀ i, w1.frozen? ⟨w.heap.size, i, none⟩ = false := fun i => Joins.unfrozen_of_block hR i
  go_wp2
  refine ret_entry Tryd.results64 rfl rfl rfl (heap_old (five_stores hR 0 0 0 0 0) _) ⟨rfl, ?_⟩
  exact (below_five hb1 (Nat.le_refl _) _ _ _ _ _).alloc (by simp; omega) _

end Go.Proofs.YtijcohldgjcjgacDoor
