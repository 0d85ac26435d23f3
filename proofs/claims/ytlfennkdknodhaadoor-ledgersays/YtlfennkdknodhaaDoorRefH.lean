/- The reference's LedgerText. -/
import Derived.Test.YtlfennkdknodhaaDoorRefE
namespace Go.Proofs.YtlfennkdknodhaaDoor
open Go.RowKit

/-- An entry's five cells. -/
def En.cells (e : En) : List Value := [.int .i64 e.k, .int .i64 e.j, .int .i64 e.v, .int .i64 e.t, .int .i64 e.c]

/-- Entries one behind the other in a block. -/
def EntsAt (w : World) (b off : Nat) (es : List En) : Prop := ∀ j e, es[j]? = some e → ∀ i v, e.cells[i]? = some v → w.cell? ⟨b, off + j * 5 + i, none⟩ = some v

theorem EntsAt.later {w w' : World} {b off : Nat} {es : List En} (h : EntsAt w b off es) (hb : Below w.heap.size w w') : EntsAt w' b off es :=
  fun j e hj i v hi => cell_later hb (h j e hj i v hi)

/-- The rows of entries. -/
def rowsOf (es : List En) : List UInt8 := (es.map fun e => e.txt ++ [10]).flatten

/-- What a ledger of these entries is: the rows, or the first error. -/
def lprint (es : List En) : List UInt8 × Int := if 60 < es.length then ([], 2) else match es.find? fun e => e.chk != 0 with
  | some e => ([], e.chk)
  | none => (rowsOf es, 0)

theorem rowsOf_snoc (es : List En) (e : En) : rowsOf (es ++ [e]) = rowsOf es ++ (e.txt ++ [10]) := by simp [rowsOf]

theorem rowsOf_len : ∀ (es : List En), (∀ e, e ∈ es → e.chk = 0) → (rowsOf es).length ≤ es.length * 201
  | [], _ => by simp [rowsOf]
  | e :: r, h => by
    have h1 := txt_len e (h e (by simp))
    have h2 := rowsOf_len r (fun x hx => h x (List.mem_cons_of_mem _ hx))
    simp only [rowsOf, List.map_cons, List.flatten_cons, List.length_append, List.length_cons, List.length_nil] at h2 ⊢
    omega

theorem lprint_many {es : List En} (h : 60 < es.length) : lprint es = ([], 2) := by rw [lprint, if_pos h]
theorem lprint_bad {es : List En} {k : Nat} {e : En} (h : es.length ≤ 60) (hk : es[k]? = some e) (hall : ∀ x, x ∈ es.take k → x.chk = 0) (he : e.chk ≠ 0) : lprint es = ([], e.chk) := by
  rw [lprint, if_neg (by omega)]
  have hsplit : es = es.take k ++ e :: es.drop (k + 1) := by
    have hlt : k < es.length := (List.getElem?_eq_some_iff.1 hk).1
    have := (List.getElem?_eq_some_iff.1 hk).2
    rw [← this, ← List.drop_eq_getElem_cons hlt, List.take_append_drop]
  have hf : es.find? (fun e => e.chk != 0) = some e := by
    rw [hsplit, List.find?_append, List.find?_eq_none.2 (fun x hx => by simp [hall x hx])]
    simp [he]
  rw [hf]
theorem lprint_good {es : List En} (h : es.length ≤ 60) (hall : ∀ x, x ∈ es → x.chk = 0) : lprint es = (rowsOf es, 0) := by
  rw [lprint, if_neg (by omega), List.find?_eq_none.2 (fun x hx => by simp [hall x hx])]

theorem str_eq {s : ByteArray} {l : List UInt8} (h : s.data.toList = l) : Value.string s = .string ⟨l.toArray⟩ := by
  obtain ⟨⟨x⟩⟩ := s
  subst h; rfl

set_option maxHeartbeats 1000000 in
theorem ledText_many (a : Option Addr) (n c : Nat) (w : World) (hn : 60 < (n : Int)) :
    Calls Tryd.prog 16 #[.slice a n c] w fun e w' => e = .returned (.tuple #[.string ⟨#[]⟩, .int .i64 2]) ∧ w' = w := by
  go_enter Tryd.func16, Tryd.ntmps16
  go_wp2
  go_ret2
  exact ⟨rfl, rfl⟩

set_option maxHeartbeats 2000000 in
theorem ledText_few (b off c : Nat) (es : List En) (n : Nat) (w : World) (hL : Laid w) (hn : es.length = n) (h60 : n ≤ 60) (hE : EntsAt w b off es) :
    Calls Tryd.prog 16 #[.slice (some ⟨b, off, none⟩) n c] w fun e w' => e = .returned (.tuple #[.string ⟨(lprint es).1.toArray⟩, .int .i64 (lprint es).2]) ∧ Below w.heap.size w w' := by
  have HN : Hid (es.length = n) := hn
  have HE : Hid (EntsAt w b off es) := hE
  have h60' : (n : Int) ≤ 60 := by omega
  clear hn hE
  go_enter Tryd.func16, Tryd.ntmps16
  go_wp2
  go_loopw [4, 13] (fun s i wr => ∃ k : Nat, k ≤ n ∧ i = .int .i64 k ∧ s = .string ⟨(rowsOf (es.take k)).toArray⟩ ∧ Below w.heap.size w wr ∧ Hid (∀ x, x ∈ es.take k → x.chk = 0)) (fun _ i _ => n - (intOf i).toNat)
  case atStart => exact ⟨0, Nat.zero_le _, rfl, rfl, Below.refl _ _, fun x hx => by simp at hx⟩
  case round =>
    obtain ⟨k, hk, rfl, rfl, hB, hall⟩ := hrel
    by_cases hlt : k < n
    · obtain ⟨e, he⟩ : ∃ e, es[k]? = some e := ⟨es[k]'(by have := HN.out; omega), List.getElem?_eq_getElem _⟩
      have hEr := HE.out.later hB
      have c0 : wr.cell? ⟨b, off + k * 5, none⟩ = some (.int .i64 e.k) := hEr k e he 0 _ rfl
      have c1 : wr.cell? ⟨b, off + k * 5 + 1, none⟩ = some (.int .i64 e.j) := hEr k e he 1 _ rfl
      have c2 : wr.cell? ⟨b, off + k * 5 + 2, none⟩ = some (.int .i64 e.v) := hEr k e he 2 _ rfl
      have c3 : wr.cell? ⟨b, off + k * 5 + 3, none⟩ = some (.int .i64 e.t) := hEr k e he 3 _ rfl
      have c4 : wr.cell? ⟨b, off + k * 5 + 4, none⟩ = some (.int .i64 e.c) := hEr k e he 4 _ rfl
      have hlen := rowsOf_len (es.take k) hall.out
      have hlk : (es.take k).length ≤ 60 := by rw [List.length_take]; omega
      have hrow : (rowsOf (es.take k)).length ≤ 12060 := by omega
      have HT : Hid (rowsOf (es.take (k + 1)) = rowsOf (es.take k) ++ (e.txt ++ [10])) := by
        rw [Hid, List.take_add_one, he]; simp only [Option.toList_some]; rw [rowsOf_snoc]
      have HA : Hid (e.chk = 0 → ∀ x, x ∈ es.take (k + 1) → x.chk = 0) := fun h0 x hx => by
        rw [List.take_add_one, he] at hx
        rcases List.mem_append.1 hx with hx | hx
        · exact hall.out x hx
        · simp at hx; rw [hx]; exact h0
      have HB : Hid (e.chk ≠ 0 → lprint es = ([], e.chk)) := fun h0 => lprint_bad (by have := HN.out; omega) he hall.out h0
      have hLr := hL.later hB
      clear hEr hlen hlk hall he
      generalize rowsOf (es.take k) = p at *
      by_cases hc : e.chk = 0
      · have hch : ∀ W, Calls Tryd.prog 9 #[ev e.k e.j e.v e.t e.c] W fun r w' => r = .returned (.int .i64 0) ∧ Below W.heap.size W w' := fun W => by have := ref_check e.k e.j e.v e.t e.c W; rw [show chk e.k e.j e.v e.t e.c = 0 from hc] at this; exact this
        have htx := fun W hW => ref_text e W hW hc
        have hl := txt_len e hc
        have HA' := HA.out hc
        clear HB HA hc
        generalize e.txt = q at *
        go_wp2_with fail
        refine (hch _).mono ?_
        rintro r w3 ⟨rfl, hb3⟩
        have hX3 : w3.heap[wr.heap.size]? = some (boxE e.k e.j e.v e.t e.c) := by rw [hb3.block _ (by simp)]; exact heap_new _ _
        have hB3 : Below w.heap.size w w3 := (grew hB _).trans (hb3.mono (by simp; have := hB.size; omega))
        clear hb3 hch c0 c1 c2 c3 c4 hLr
        generalize wr.heap.size = xb at *
        have cX : ∀ i, w3.cell? ⟨xb, i, none⟩ = #[Value.int .i64 e.k, .int .i64 e.j, .int .i64 e.v, .int .i64 e.t, .int .i64 e.c][i]? := fun i => Joins.cell_of_block hX3 i
        go_wp2_with fail
        refine (htx _ (hL.later hB3)).mono ?_
        rintro r w4 ⟨rfl, hb4⟩
        have hB4 := hB3.trans (hb4.mono hB3.size)
        clear hb4 htx cX hX3
        go_wp2
        go_roundw
        case rel => exact ⟨k + 1, by omega, by go_num, str_eq (by rw [HT.out]; simp only [data_append]), hB4, HA'⟩
        case measure => simp [intOf]; omega
      · have hch : ∀ W, Calls Tryd.prog 9 #[ev e.k e.j e.v e.t e.c] W fun r w' => r = .returned (.int .i64 e.chk) ∧ Below W.heap.size W w' := fun W => ref_check e.k e.j e.v e.t e.c W
        have hF : Hid (lprint es = ([], e.chk)) := HB.out hc
        have hcb : (e.chk != 0) = true := by rw [bne_iff_ne]; exact hc
        clear HA HB HT hc
        generalize e.chk = m at *
        go_wp2_with fail
        refine (hch _).mono ?_
        rintro r w3 ⟨rfl, hb3⟩
        have hB3 : Below w.heap.size w w3 := (grew hB _).trans (hb3.mono (by simp; have := hB.size; omega))
        clear hb3 hch c0 c1 c2 c3 c4 hLr
        go_wp2
        go_ret2
        exact ⟨by rw [hF.out]; rfl, hB3⟩
    · have hkn : k = n := by omega
      subst hkn
      have hF : Hid (lprint es = (rowsOf (es.take k), 0)) := by
        have e1 : es.take k = es := List.take_of_length_le (by have := HN.out; omega)
        have h1 := hall.out
        rw [e1] at h1 ⊢
        exact lprint_good (by have := HN.out; omega) h1
      clear hall
      generalize rowsOf (es.take k) = p at *
      go_wp2
      go_ret2
      exact ⟨by rw [hF.out]; rfl, hB⟩

end Go.Proofs.YtlfennkdknodhaaDoor
