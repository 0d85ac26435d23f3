/- The walk of the reference's EntryRead. The walk of the reference's EntryRead, where there is one word; at every text. The reference's LedgerText. Lines of a text; the library's SplitAfter at a line feed. The reference's LedgerRead. -/
import Derived.Test.YtnmapehbcccbhadDoorRefM
import Derived.Maps.AppendAt
import Derived.OwnWalk
namespace Go.Proofs.YtnmapehbcccbhadDoor
open Go.RowKit

/-- Words, as strings in memory. -/
def wvals (ws : List (List UInt8)) : Array Value := (ws.map fun x => Value.string ⟨x.toArray⟩).toArray

theorem bytes_eta (s : ByteArray) : s = ⟨s.data.toList.toArray⟩ := by
  obtain ⟨⟨x⟩⟩ := s; rfl

theorem infoInt : (Tryd.prog.info? 3).map (fun i => (i.zero, i.size, i.bytes)) = some (some (.int .i64 0), 1, 8) := by kernel_rfl

theorem undrew {B : Nat} {a w : World} (h : Below B a.drew w) : Below B a w := ⟨h.os, h.tape, h.output, h.size, h.block⟩

theorem wvals_at (ws : List (List UInt8)) (i : Nat) (h : i < ws.length) : (wvals ws)[i]? = some (.string ⟨(ws.getD i []).toArray⟩) := by
  unfold wvals
  simp [List.getElem?_eq_getElem h, List.getD_eq_getElem?_getD]

theorem getD_mem (ws : List (List UInt8)) (i : Nat) (h : i < ws.length) : ws.getD i [] ∈ ws := by
  rw [List.getD_eq_getElem?_getD, List.getElem?_eq_getElem h]
  exact List.getElem_mem h

end Go.Proofs.YtnmapehbcccbhadDoor
namespace Go.Proofs.YtnmapehbcccbhadDoor
open Go.RowKit

end Go.Proofs.YtnmapehbcccbhadDoor
namespace Go.Proofs.YtnmapehbcccbhadDoor
open Go.RowKit

/-- The rows of entries. -/
def rowsOf (es : List En) : List UInt8 := (es.map fun e => e.txt ++ [10]).flatten

/-- What a ledger of these entries is: the rows, or the first error. -/
def lprint (es : List En) : List UInt8 × Int := if 60 < es.length then ([], 2) else match es.find? fun e => e.chk != 0 with
  | some e => ([], e.chk)
  | none => (rowsOf es, 0)

theorem rowsOf_snoc (es : List En) (e : En) : rowsOf (es ++ [e]) = rowsOf es ++ (e.txt ++ [10]) := by simp [rowsOf]

theorem rowsOf_len : ∀ (es : List En), (∀ e, e ∈ es → e.chk = 0) → (rowsOf es).length ≤ es.length * 201
  | [], _ => by simp [rowsOf]
  | e :: r, h => by
    have h1 := txt_len e (h e (by simp))
    have h2 := rowsOf_len r (fun x hx => h x (List.mem_cons_of_mem _ hx))
    simp only [rowsOf, List.map_cons, List.flatten_cons, List.length_append, List.length_cons, List.length_nil] at h2 ⊢
    omega

theorem lprint_many {es : List En} (h : 60 < es.length) : lprint es = ([], 2) := by rw [lprint, if_pos h]
theorem lprint_bad {es : List En} {k : Nat} {e : En} (h : es.length ≤ 60) (hk : es[k]? = some e) (hall : ∀ x, x ∈ es.take k → x.chk = 0) (he : e.chk ≠ 0) : lprint es = ([], e.chk) := by
  rw [lprint, if_neg (by omega)]
  have hsplit : es = es.take k ++ e :: es.drop (k + 1) := by
    have hlt : k < es.length := (List.getElem?_eq_some_iff.1 hk).1
    have := (List.getElem?_eq_some_iff.1 hk).2
    rw [← this, ← List.drop_eq_getElem_cons hlt, List.take_append_drop]
  have hf : es.find? (fun e => e.chk != 0) = some e := by
    rw [hsplit, List.find?_append, List.find?_eq_none.2 (fun x hx => by simp [hall x hx])]
    simp [he]
  rw [hf]
theorem lprint_good {es : List En} (h : es.length ≤ 60) (hall : ∀ x, x ∈ es → x.chk = 0) : lprint es = (rowsOf es, 0) := by
  rw [lprint, if_neg (by omega), List.find?_eq_none.2 (fun x hx => by simp [hall x hx])]

theorem str_eq {s : ByteArray} {l : List UInt8} (h : s.data.toList = l) : Value.string s = .string ⟨l.toArray⟩ := by
  obtain ⟨⟨x⟩⟩ := s
  subst h; rfl

end Go.Proofs.YtnmapehbcccbhadDoor
namespace Go.Proofs.YtnmapehbcccbhadDoor
open Go.RowKit

/-- The lines of a text, each with its line feed; the last has none (and may be empty). -/
def pcs (l : List UInt8) : List (List UInt8) := Lib.splitK [10] 1 (Lib.count l [10]) l

theorem occAt_nl (a b : List UInt8) : Lib.occAt (a ++ 10 :: b) [10] a.length = true := by
  unfold Lib.occAt
  rw [List.drop_left]
  simp

theorem nl_index_no {l : List UInt8} (h : (Lib.cut l [10]).2.2 = false) : Lib.index l [10] = -1 := by
  unfold Lib.cut at h
  split at h
  · cases h
  · rename_i h'
    have := Lib.index_ge l [10]
    omega

theorem nl_back (l a b : List UInt8) (h : Lib.cut l [10] = (a, b, true)) : l = a ++ 10 :: b := by
  unfold Lib.cut at h
  rcases Lib.index_spec l [10] with ⟨h1, _⟩ | ⟨i, h1, h2, h3, _⟩
  · rw [h1, if_neg (by omega)] at h; cases h
  · rw [h1, if_pos (by omega)] at h
    simp only [Int.toNat_natCast, List.length_cons, List.length_nil, Prod.mk.injEq] at h
    obtain ⟨rfl, rfl, _⟩ := h
    unfold Lib.occAt at h3
    rcases hd : l.drop i with _ | ⟨x, r⟩
    · rw [hd] at h3; cases h3
    · rw [hd] at h3
      simp at h3
      subst h3
      have : l.drop (i + 1) = r := by rw [← List.drop_drop, hd]; rfl
      rw [show i + (0 + 1) = i + 1 from rfl, this, ← hd, List.take_append_drop]

theorem nl_whole (l a b : List UInt8) (h : Lib.cut l [10] = (a, b, false)) : a = l := by
  unfold Lib.cut at h
  split at h
  · cases h
  · injection h with h _; exact h.symm

theorem nl_first {l a b : List UInt8} (h : Lib.cut l [10] = (a, b, true)) : (10 : UInt8) ∉ a ∧ Lib.index l [10] = a.length := by
  have hl := nl_back l a b h
  unfold Lib.cut at h
  rcases Lib.index_spec l [10] with ⟨h1, _⟩ | ⟨i, h1, h2, _, h4⟩
  · rw [h1, if_neg (by omega)] at h; cases h
  · rw [h1, if_pos (by omega)] at h
    simp only [Int.toNat_natCast, Prod.mk.injEq] at h
    obtain ⟨ha, _, _⟩ := h
    have hal : a.length = i := by rw [← ha, List.length_take]; omega
    refine ⟨fun hm => ?_, by rw [h1, hal]⟩
    obtain ⟨j, hj, e⟩ := List.getElem_of_mem hm
    have h5 := h4 j (by omega)
    unfold Lib.occAt at h5
    have : l.drop j = 10 :: (a.drop (j + 1) ++ 10 :: b) := by
      rw [hl, List.drop_append_of_le_length (by omega), List.drop_eq_getElem_cons hj, e]
      rfl
    rw [this] at h5
    cases h5

theorem nl_none {l : List UInt8} (h : (Lib.cut l [10]).2.2 = false) : (10 : UInt8) ∉ l := by
  intro hm
  have hi := nl_index_no h
  obtain ⟨s, t, rfl⟩ := List.append_of_mem hm
  rcases Lib.index_spec (s ++ 10 :: t) [10] with ⟨_, h2⟩ | ⟨i, h1, _⟩
  · have := h2 s.length (by simp)
    rw [occAt_nl] at this; cases this
  · rw [hi] at h1; omega

theorem pcs_no {l a b : List UInt8} (h : Lib.cut l [10] = (a, b, false)) : pcs l = [l] := by
  have hi := nl_index_no (l := l) (by rw [h])
  unfold pcs
  rw [Lib.count_miss hi]
  rfl

theorem pcs_yes {l a b : List UInt8} (h : Lib.cut l [10] = (a, b, true)) : pcs l = (a ++ [10]) :: pcs b := by
  obtain ⟨_, hi⟩ := nl_first h
  have hl := nl_back l a b h
  have hd : l.drop (a.length + 1) = b := by rw [hl, List.drop_append]; simp
  have ht : l.take (a.length + 1) = a ++ [10] := by rw [hl, List.take_append]; simp [List.take_of_length_le]
  have hc : Lib.count l [10] = Lib.count b [10] + 1 := by
    rw [Lib.count_hit (by simp) hi]
    show 1 + Lib.count (l.drop (a.length + 1)) [10] = _
    rw [hd]; omega
  unfold pcs
  rw [hc, Lib.splitK, hi]
  have hm : ¬ ((a.length : Int) == -1) = true := by rw [beq_iff_eq]; omega
  rw [if_neg hm]
  simp only [Int.toNat_natCast, List.length_cons, List.length_nil]
  rw [ht]
  show (a ++ [10]) :: Lib.splitK [10] 1 (Lib.count b [10]) (l.drop (a.length + 1)) = _
  rw [hd]

end Go.Proofs.YtnmapehbcccbhadDoor
namespace Go.Proofs.YtnmapehbcccbhadDoor
open Go.RowKit

/-- What is read of a ledger's text, behind the entries that were read. -/
def lread : Nat → List UInt8 → List En → List En × Int
  | 0, _, acc => (acc, 0)
  | f + 1, l, acc => if l = [] then (acc, 0) else if (Lib.cut l [10]).2.2 = false then ([], 9) else if (prs (Lib.cut l [10]).1).2 ≠ 0 then ([], (prs (Lib.cut l [10]).1).2)
      else if acc.length = 60 then ([], 2) else lread f (Lib.cut l [10]).2.1 (acc ++ [(prs (Lib.cut l [10]).1).1])

def ledRead (l : List UInt8) : List En × Int := lread (l.length + 1) l []

theorem lread_nil (f : Nat) (acc : List En) : lread (f + 1) [] acc = (acc, 0) := by rw [lread, if_pos rfl]
theorem lread_torn (f : Nat) (acc : List En) {l a b : List UInt8} (hl : l ≠ []) (h : Lib.cut l [10] = (a, b, false)) : lread (f + 1) l acc = ([], 9) := by rw [lread, if_neg hl, if_pos (by rw [h])]
theorem lread_bad (f : Nat) (acc : List En) {l a b : List UInt8} (hl : l ≠ []) (h : Lib.cut l [10] = (a, b, true)) (hp : (prs a).2 ≠ 0) : lread (f + 1) l acc = ([], (prs a).2) := by
  rw [lread, if_neg hl, if_neg (by rw [h]; simp), h, if_pos hp]
theorem lread_many (f : Nat) (acc : List En) {l a b : List UInt8} (hl : l ≠ []) (h : Lib.cut l [10] = (a, b, true)) (hp : (prs a).2 = 0) (hm : acc.length = 60) : lread (f + 1) l acc = ([], 2) := by
  rw [lread, if_neg hl, if_neg (by rw [h]; simp), h, if_neg (by simp [hp]), if_pos hm]
theorem lread_more (f : Nat) (acc : List En) {l a b : List UInt8} (hl : l ≠ []) (h : Lib.cut l [10] = (a, b, true)) (hp : (prs a).2 = 0) (hm : acc.length ≠ 60) : lread (f + 1) l acc = lread f b (acc ++ [(prs a).1]) := by
  rw [lread, if_neg hl, if_neg (by rw [h]; simp), h, if_neg (by simp [hp]), if_neg hm]

theorem infoEntry : (Tryd.prog.info? 28).map (fun i => (i.zero, i.size, i.bytes)) = some (some (ev 0 0 0 0 0), 5, 40) := by kernel_rfl

theorem cells_new (w : World) (e : En) (T : TypeId) : ∀ j u, e.cells[j]? = some u → (w.alloc (.cells #[.int .i64 e.k, .int .i64 e.j, .int .i64 e.v, .int .i64 e.t, .int .i64 e.c] T)).cell? ((⟨w.heap.size, 0, none⟩ : Addr).add j) = some u := by
  intro j u hj
  rw [Lib.add_plain, Nat.zero_add, World.cell?_alloc_at _ _ _ _ rfl]
  simpa [En.cells] using hj

/-- The last byte of a text. -/
theorem run_last (a : List UInt8) (z : UInt8) (n : Int) (w : World) (hn : n = a.length) :
    (Instr.index 9 (.string ⟨(a ++ [z]).toArray⟩) (.int .i64 n)).run Tryd.prog w = .ok (.int .u8 z.toNat) w := by
  subst hn
  rw [run_index_string (h := Tryd.underlying9)]
  have hsz : (⟨(a ++ [z]).toArray⟩ : ByteArray).size = a.length + 1 := by rw [Lib.size_eq]; simp
  rw [dif_pos ⟨by omega, by rw [hsz]; omega⟩]
  refine congrArg (fun b : UInt8 => Result.ok (Value.int .u8 (b.toNat : Int)) w) ?_
  show ((a ++ [z]).toArray)[((a.length : Nat) : Int).toNat]'_ = z
  simp

/-- A text but its last byte. -/
theorem run_but_last (a : List UInt8) (z : UInt8) (n : Int) (w : World) (hn : n = a.length) :
    (Instr.slice 9 (.string ⟨(a ++ [z]).toArray⟩) none (some (.int .i64 n)) none).run Tryd.prog w = .ok (.string ⟨a.toArray⟩) w := by
  subst hn
  have hsz : (⟨(a ++ [z]).toArray⟩ : ByteArray).size = a.length + 1 := by rw [Lib.size_eq]; simp
  rw [run_slice_string_h (ht := Tryd.underlying9) (h0 := by omega) (h2 := by rw [hsz]; omega)]
  refine congrArg (fun b : ByteArray => Result.ok (Value.string b) w) ?_
  rw [bytes_eta (ByteArray.extract _ _ _), Lib.extract_data]
  simp

end Go.Proofs.YtnmapehbcccbhadDoor
