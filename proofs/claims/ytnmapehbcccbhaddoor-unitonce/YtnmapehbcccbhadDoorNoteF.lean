/- The reference's RecText and RecRead. The reference's RecRead. The reference's RecRead, a record that is written; RecRead whole. What the laws on records ask of package note; the closed fact 'noted'; the walk of NoteSays. -/
import Derived.Test.YtnmapehbcccbhadDoorNoteA
import Derived.Test.YtnmapehbcccbhadDoorNoteB
import Derived.Test.YtnmapehbcccbhadDoorEntryO
import Derived.Test.YtnmapehbcccbhadDoorRefJ
namespace Go.Proofs.YtnmapehbcccbhadDoor
open Go.RowKit

theorem bytes_eq {a b : ByteArray} (h : a.data.toList = b.data.toList) : a = b := by
  rw [bytes_eta a, bytes_eta b, h]

theorem ret_pair {fn : Func} {R : Ending → World → Prop} {a : Act} {W : World} {p q : Nat} {x y : Value} (hf : fn.results = #[.tmp p, .tmp q]) (hd : a.defers = [])
    (h1 : a.tmps.getD p undef = x) (h2 : a.tmps.getD q undef = y) (hp : R (.returned (.tuple #[x, y])) W) : bodyPost Tryd.prog fn R .ret a W := by
  have h1' : a.tmps[p]?.getD undef = x := by simpa using h1
  have h2' : a.tmps[q]?.getD undef = y := by simpa using h2
  refine bodyPost_ret (v := .tuple #[x, y]) ?_ hd hp
  simp [results, hf, h1', h2', go_sem]

theorem tup_str {a b : ByteArray} {v : Value} (h : a.data.toList = b.data.toList) : Ending.returned (.tuple #[.string a, v]) = .returned (.tuple #[.string b, v]) := by rw [bytes_eq h]

/-- What RecText reads. -/
abbrev RtS (W w : World) (b : Nat) (r : Rc) : Prop :=
  (Laid w ∧ Below W.heap.size W w) ∧ w.cell? ⟨b, 1, none⟩ = some (.int .i64 r.a) ∧ w.cell? ⟨b, 3, none⟩ = some (.int .i64 r.e.k) ∧ w.cell? ⟨b, 4, none⟩ = some (.int .i64 r.e.j) ∧ w.cell? ⟨b, 5, none⟩ = some (.int .i64 r.e.v) ∧ w.cell? ⟨b, 6, none⟩ = some (.int .i64 r.e.t) ∧ w.cell? ⟨b, 7, none⟩ = some (.int .i64 r.e.c)

theorem rtS_step {W w w' : World} {b : Nat} {r : Rc} (h : RtS W w b r) (hb : Below w.heap.size w w') : RtS W w' b r :=
  ⟨⟨h.1.1.later hb, h.1.2.trans (hb.mono h.1.2.size)⟩, cell_later hb h.2.1, cell_later hb h.2.2.1, cell_later hb h.2.2.2.1, cell_later hb h.2.2.2.2.1, cell_later hb h.2.2.2.2.2.1, cell_later hb h.2.2.2.2.2.2⟩

theorem rtS_laid {W w : World} {b : Nat} {r : Rc} (h : RtS W w b r) : Laid w := h.1.1

end Go.Proofs.YtnmapehbcccbhadDoor
namespace Go.Proofs.YtnmapehbcccbhadDoor
open Go.RowKit

theorem ext_from (l : List UInt8) (k : Nat) : (⟨l.toArray⟩ : ByteArray).extract k l.length = ⟨(l.drop k).toArray⟩ := by
  rw [bytes_eta (ByteArray.extract _ _ _), Lib.extract_data]
  simp only
  rw [List.take_of_length_le (by rw [List.length_drop]; exact Nat.le_refl _)]

theorem ext_upto (l : List UInt8) (k : Nat) : (⟨l.toArray⟩ : ByteArray).extract 0 k = ⟨(l.take k).toArray⟩ := by
  rw [bytes_eta (ByteArray.extract _ _ _), Lib.extract_data]
  simp

theorem five_tail {W : World} {b : Nat} {q : Rc} (h : W.heap[b]? = some (boxRc q)) (y : En) :
    (((((W.setCell ⟨b, 3, none⟩ (.int .i64 y.k)).setCell ⟨b, 4, none⟩ (.int .i64 y.j)).setCell ⟨b, 5, none⟩ (.int .i64 y.v)).setCell ⟨b, 6, none⟩ (.int .i64 y.t)).setCell ⟨b, 7, none⟩ (.int .i64 y.c)).heap[b]? = some (boxRc ⟨q.k, q.a, q.p, y⟩) := by
  have h4 := Joins.block_setCell h (i := 3) (.int .i64 y.k)
  have h5 := Joins.block_setCell h4 (i := 4) (.int .i64 y.j)
  have h6 := Joins.block_setCell h5 (i := 5) (.int .i64 y.v)
  have h7 := Joins.block_setCell h6 (i := 6) (.int .i64 y.t)
  have h8 := Joins.block_setCell h7 (i := 7) (.int .i64 y.c)
  simp only [List.setIfInBounds_toArray, List.set_cons_zero, List.set_cons_succ] at h8
  exact h8

theorem five_other {W : World} {b g : Nat} (hne : g ≠ b) (v3 v4 v5 v6 v7 : Value) :
    (((((W.setCell ⟨b, 3, none⟩ v3).setCell ⟨b, 4, none⟩ v4).setCell ⟨b, 5, none⟩ v5).setCell ⟨b, 6, none⟩ v6).setCell ⟨b, 7, none⟩ v7).heap[g]? = W.heap[g]? := by
  rw [Below.heap_setCell _ _ _ _ (by exact hne), Below.heap_setCell _ _ _ _ (by exact hne), Below.heap_setCell _ _ _ _ (by exact hne), Below.heap_setCell _ _ _ _ (by exact hne), Below.heap_setCell _ _ _ _ (by exact hne)]

theorem below_tail {B : Nat} {a W : World} {b : Nat} (h : Below B a W) (hb : B ≤ b) (v3 v4 v5 v6 v7 : Value) :
    Below B a (((((W.setCell ⟨b, 3, none⟩ v3).setCell ⟨b, 4, none⟩ v4).setCell ⟨b, 5, none⟩ v5).setCell ⟨b, 6, none⟩ v6).setCell ⟨b, 7, none⟩ v7) :=
  ((((h.setCell hb _).setCell hb _).setCell hb _).setCell hb _).setCell hb _

/-- The end of a function whose results are a record in memory and a slot. -/
theorem ret_rec {fn : Func} {R : Ending → World → Prop} {a : Act} {W : World} {b p q : Nat} {r : Rc} {y : Value} (hf : fn.results = #[.cell p 30, .tmp q]) (hd : a.defers = [])
    (h2 : a.tmps.getD p undef = .pointer (some ⟨b, 0, none⟩)) (h3 : a.tmps.getD q undef = y) (hR : W.heap[b]? = some (boxRc r)) (hp : R (.returned (.tuple #[r.val, y])) W) :
    bodyPost Tryd.prog fn R .ret a W := by
  have c0 : ∀ i, W.cell? ⟨b, i, none⟩ = #[Value.int .i64 r.k, .int .i64 r.a, .int .i64 r.p, .int .i64 r.e.k, .int .i64 r.e.j, .int .i64 r.e.v, .int .i64 r.e.t, .int .i64 r.e.c][i]? := fun i => Joins.cell_of_block hR i
  refine bodyPost_ret (v := .tuple #[r.val, y]) ?_ hd hp
  rw [results_cell_tmp hf, h2, h3]
  simp [go_sem, c0]

abbrev sealR : Rc := ⟨2, 0, 0, En.zero⟩
abbrev zB : Obj := .cells #[.int .i64 0, .int .i64 0, .int .i64 0, .int .i64 0, .int .i64 0, .int .i64 0, .int .i64 0, .int .i64 0] 30
abbrev wB : Obj := .cells #[.int .i64 1, .int .i64 0, .int .i64 0, .int .i64 0, .int .i64 0, .int .i64 0, .int .i64 0, .int .i64 0] 30

end Go.Proofs.YtnmapehbcccbhadDoor
namespace Go.Proofs.YtnmapehbcccbhadDoor
open Go.RowKit

end Go.Proofs.YtnmapehbcccbhadDoor
namespace Go.Proofs.YtnmapehbcccbhadDoor
open Go.RowKit

/-- Package note's three functions, at every record and text. -/
structure Notes : Prop where
  check : ∀ (r : Rc) (W : World), Laid W → Calls Tryd.prog 35 #[r.val] W fun e w' => e = .returned (.int .i64 r.chk) ∧ Below W.heap.size W w'
  print : ∀ (r : Rc) (W : World), Laid W → Calls Tryd.prog 22 #[r.val] W fun e w' => e = .returned (.tuple #[.string ⟨r.ptx.toArray⟩, .int .i64 r.chk]) ∧ Below W.heap.size W w'
  parse : ∀ (s : ByteArray) (W : World), Laid W → Calls Tryd.prog 39 #[.string s] W fun e w' => e = .returned (.tuple #[(rcPrs s.data.toList).1.val, .int .i64 (rcPrs s.data.toList).2]) ∧ Below W.heap.size W w'

def r1 : Rc := ⟨1, 7, 0, e1⟩
def r2 : Rc := ⟨2, 0, 3, En.zero⟩
theorem r1_chk : r1.chk = 0 := by decide
theorem r2_chk : r2.chk = 0 := by decide
theorem r1_ptx : r1.ptx = [55, 58, 32, 112, 117, 116, 32, 50, 32, 53, 32, 49, 48] := by
  rw [Rc.ptx, if_pos r1_chk, Rc.txt, if_neg (by decide)]
  show Lib.itoa ((7 : Nat) : Int) ++ ([58, 32] ++ e1.txt) = _
  rw [itoa1 7 (by omega), e1_txt]
  decide
theorem r2_ptx : r2.ptx = [115, 101, 97, 108, 32, 51] := by
  rw [Rc.ptx, if_pos r2_chk, Rc.txt, if_pos (by decide)]
  show sealL ++ Lib.itoa ((3 : Nat) : Int) = _
  rw [itoa1 3 (by omega)]
  decide
theorem r1_prs : rcPrs [55, 58, 32, 112, 117, 116, 32, 50, 32, 53, 32, 49, 48] = (r1, 0) := by
  have h := read_txt r1_chk
  have e : r1.txt = [55, 58, 32, 112, 117, 116, 32, 50, 32, 53, 32, 49, 48] := by rw [← r1_ptx, Rc.ptx, if_pos r1_chk]
  rw [e] at h
  rw [rcPrs, if_neg (by decide), h]

/-- A record in its box. -/
abbrev BxS (W w : World) (b : Nat) (r : Rc) : Prop :=
  Below W.heap.size W w ∧ w.cell? ⟨b, 0, none⟩ = some (.int .i64 r.k) ∧ w.cell? ⟨b, 1, none⟩ = some (.int .i64 r.a) ∧ w.cell? ⟨b, 2, none⟩ = some (.int .i64 r.p) ∧ w.cell? ⟨b, 3, none⟩ = some (.int .i64 r.e.k) ∧ w.cell? ⟨b, 4, none⟩ = some (.int .i64 r.e.j) ∧ w.cell? ⟨b, 5, none⟩ = some (.int .i64 r.e.v) ∧ w.cell? ⟨b, 6, none⟩ = some (.int .i64 r.e.t) ∧ w.cell? ⟨b, 7, none⟩ = some (.int .i64 r.e.c)

theorem bxS_step {W w w' : World} {b : Nat} {r : Rc} (h : BxS W w b r) (hb : Below w.heap.size w w') : BxS W w' b r :=
  ⟨h.1.trans (hb.mono h.1.size), cell_later hb h.2.1, cell_later hb h.2.2.1, cell_later hb h.2.2.2.1, cell_later hb h.2.2.2.2.1, cell_later hb h.2.2.2.2.2.1, cell_later hb h.2.2.2.2.2.2.1, cell_later hb h.2.2.2.2.2.2.2.1, cell_later hb h.2.2.2.2.2.2.2.2⟩

theorem bxS_new (w : World) (r : Rc) : BxS (w.alloc (boxRc r)) (w.alloc (boxRc r)) w.heap.size r := by
  have hx : (w.alloc (boxRc r)).heap[w.heap.size]? = some (boxRc r) := heap_new _ _
  exact ⟨Below.refl _ _, Joins.cell_of_block hx 0, Joins.cell_of_block hx 1, Joins.cell_of_block hx 2, Joins.cell_of_block hx 3, Joins.cell_of_block hx 4, Joins.cell_of_block hx 5, Joins.cell_of_block hx 6, Joins.cell_of_block hx 7⟩

theorem put_n (a b c : Int) (w : World) : Calls Tryd.prog 29 #[.int .i64 a, .int .i64 b, .int .i64 c] w fun e w' => e = .returned (ev 1 a b c 0) ∧ Below w.heap.size w w' :=
  (put_any a b c w).mono fun _ _ ⟨h1, h2⟩ => ⟨h1, by rw [h2]; exact grew (Below.refl _ _) _⟩

end Go.Proofs.YtnmapehbcccbhadDoor
