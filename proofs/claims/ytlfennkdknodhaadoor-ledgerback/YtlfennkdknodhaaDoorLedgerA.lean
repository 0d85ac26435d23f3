/- The walk of package ledger's Print. -/
import Derived.Test.YtlfennkdknodhaaDoorRefQ
import Derived.Shelf.Strings.Builder1
namespace Go.Proofs.YtlfennkdknodhaaDoor
open Go.RowKit

theorem isB_later {T e : TypeId} {B b : Nat} {bs : List Value} {w w' : World} (h : Lib.IsBuilder T e B b bs w) (hb : Below w.heap.size w w') : Lib.IsBuilder T e B b bs w' := by
  rcases h with ⟨h1, v, h2, h3, h4⟩ | ⟨h1, v, h2, h3, h4⟩
  · exact Or.inl ⟨h1, v, heap_below h2 hb (heap_lt h2), ownsRow_later h3 hb, h4⟩
  · exact Or.inr ⟨h1, v, heap_below h2 hb (heap_lt h2), ownsRow_later h3 hb, h4⟩

abbrev IsB (b : Nat) (p : List UInt8) (w : World) : Prop := Lib.IsBuilder 64 5 b b (Lib.byteCells p) w

theorem write_any (b : Nat) (p s : List UInt8) (w : World) (h : IsB b p w) (hlen : p.length + s.length ≤ 140737488355328) (hbw : b ≤ w.heap.size) :
    Calls Tryd.prog 33 #[.pointer (some ⟨b, 0, none⟩), .string ⟨s.toArray⟩] w fun e w' => e = .returned (.tuple #[.int .i64 s.length, .nilIface]) ∧ IsB b (p ++ s) w' ∧ Below b w w' := by
  have hc := Any.Builder_WriteString (P := Tryd.prog) { Tryd.lays156 with } Tryd.Builder_Extra_156 b b (Lib.byteCells p) ⟨s.toArray⟩ w h (by rw [Lib.byteCells_length, Lib.size_eq]; exact hlen) hbw
  refine Calls.mono hc ?_
  rintro e w' ⟨rfl, h1, h2⟩
  refine ⟨by rw [Lib.size_eq], ?_, h2⟩
  rw [IsB, Lib.byteCells_append]
  exact Or.inr h1

theorem string_any (b : Nat) (p : List UInt8) (w : World) (h : IsB b p w) (hbw : b ≤ w.heap.size) :
    Calls Tryd.prog 34 #[.pointer (some ⟨b, 0, none⟩)] w fun e w' => e = .returned (.string ⟨p.toArray⟩) ∧ Below b w w' :=
  Tryd.Builder_String_any b b p w h hbw

theorem print_many (a : Option Addr) (n c : Nat) (w : World) (hn : 60 < (n : Int)) :
    Calls Tryd.prog 14 #[.slice a n c] w fun e w' => e = .returned (.tuple #[.string ⟨#[]⟩, .int .i64 2]) ∧ Below w.heap.size w w' := by
  go_enter Tryd.func14, Tryd.ntmps14
  go_wp2
  go_ret2
  exact ⟨rfl, Below.refl _ _⟩

set_option maxHeartbeats 2000000 in
theorem print_none (a : Option Addr) (c : Nat) (w : World) :
    Calls Tryd.prog 14 #[.slice a 0 c] w fun e w' => e = .returned (.tuple #[.string ⟨#[]⟩, .int .i64 0]) ∧ Below w.heap.size w w' := by
  go_enter Tryd.func14, Tryd.ntmps14
  go_wp2
  go_loopw [14] (fun i wr => i = .int .i64 0 ∧ wr = w.alloc (.cells #[.pointer none, .slice none 0 0] 64)) (fun _ _ => 0)
  case atStart => exact ⟨rfl, rfl⟩
  case round =>
    obtain ⟨rfl, rfl⟩ := hrel
    go_wp2_with fail
    refine (string_any w.heap.size [] _ (Lib.fresh_isBuilder _ _ _) (by simp)).mono ?_
    rintro e w1 ⟨rfl, hb⟩
    go_wp2
    go_ret2
    exact ⟨rfl, (grew (Below.refl _ _) _).trans hb⟩

set_option maxHeartbeats 2000000 in
theorem print_few (b off c : Nat) (es : List En) (n : Nat) (w : World) (hL : Laid w) (hn : es.length = n) (h60 : n ≤ 60) (hE : EntsAt w b off es) :
    Calls Tryd.prog 14 #[.slice (some ⟨b, off, none⟩) n c] w fun e w' => e = .returned (.tuple #[.string ⟨(lprint es).1.toArray⟩, .int .i64 (lprint es).2]) ∧ Below w.heap.size w w' := by
  have HN : Hid (es.length = n) := hn
  have HE : Hid (EntsAt w b off es) := hE
  have h60' : (n : Int) ≤ 60 := by omega
  clear hn hE
  go_enter Tryd.func14, Tryd.ntmps14
  go_wp2
  go_loopw [14] (fun i wr => ∃ k : Nat, k ≤ n ∧ i = .int .i64 k ∧ Hid (IsB w.heap.size (rowsOf (es.take k)) wr) ∧ Below w.heap.size w wr ∧ Hid (∀ x, x ∈ es.take k → x.chk = 0)) (fun i _ => n - (intOf i).toNat)
  case atStart => exact ⟨0, Nat.zero_le _, rfl, Lib.fresh_isBuilder _ _ _, grew (Below.refl _ _) _, fun x hx => by simp at hx⟩
  case round =>
    obtain ⟨k, hk, rfl, hI, hB, hall⟩ := hrel
    by_cases hlt : k < n
    · obtain ⟨e, he⟩ : ∃ e, es[k]? = some e := ⟨es[k]'(by have := HN.out; omega), List.getElem?_eq_getElem _⟩
      have hEr := HE.out.later hB
      have c0 : wr.cell? ⟨b, off + k * 5, none⟩ = some (.int .i64 e.k) := hEr k e he 0 _ rfl
      have c1 : wr.cell? ⟨b, off + k * 5 + 1, none⟩ = some (.int .i64 e.j) := hEr k e he 1 _ rfl
      have c2 : wr.cell? ⟨b, off + k * 5 + 2, none⟩ = some (.int .i64 e.v) := hEr k e he 2 _ rfl
      have c3 : wr.cell? ⟨b, off + k * 5 + 3, none⟩ = some (.int .i64 e.t) := hEr k e he 3 _ rfl
      have c4 : wr.cell? ⟨b, off + k * 5 + 4, none⟩ = some (.int .i64 e.c) := hEr k e he 4 _ rfl
      have hlen := rowsOf_len (es.take k) hall.out
      have hlk : (es.take k).length ≤ 60 := by rw [List.length_take]; omega
      have hrow : (rowsOf (es.take k)).length ≤ 12060 := by omega
      have HT : Hid (rowsOf (es.take (k + 1)) = (rowsOf (es.take k) ++ e.txt) ++ [10]) := by
        rw [Hid, List.take_add_one, he]; simp only [Option.toList_some]; rw [rowsOf_snoc, List.append_assoc]
      have HA : Hid (e.chk = 0 → ∀ x, x ∈ es.take (k + 1) → x.chk = 0) := fun h0 x hx => by
        rw [List.take_add_one, he] at hx
        rcases List.mem_append.1 hx with hx | hx
        · exact hall.out x hx
        · simp at hx; rw [hx]; exact h0
      have HB : Hid (e.chk ≠ 0 → lprint es = ([], e.chk)) := fun h0 => lprint_bad (by have := HN.out; omega) he hall.out h0
      have hLr := hL.later hB
      have hpr := fun W hW => print_any e W hW
      have hI' := hI.out
      clear hEr hlen hlk hall he hI
      generalize rowsOf (es.take k) = p at *
      by_cases hc : e.chk = 0
      · have hl := txt_len e hc
        have HA' := HA.out hc
        have hpt : e.ptx = e.txt := by rw [En.ptx, if_pos hc]
        rw [hc, hpt] at hpr
        clear HB HA hc hpt
        generalize e.txt = q at *
        go_wp2_with fail
        refine (hpr _ (hL.later (grew hB _))).mono ?_
        rintro r w3 ⟨rfl, hb3⟩
        have hI3 : IsB w.heap.size p w3 := isB_later (isB_later hI' (grew (Below.refl _ _) _)) hb3
        have hB3 : Below w.heap.size w w3 := (grew hB _).trans (hb3.mono (by simp; have := hB.size; omega))
        clear hb3 hpr c0 c1 c2 c3 c4 hLr hI'
        go_wp2_with fail
        refine (write_any w.heap.size p q _ hI3 (by omega) hB3.size).mono ?_
        rintro r w4 ⟨rfl, hI4, hb4⟩
        have hB4 := hB3.trans hb4
        clear hb4 hI3 hB3
        go_wp2_with fail
        refine (write_any w.heap.size (p ++ q) [10] _ hI4 (by simp; omega) hB4.size).mono ?_
        rintro r w5 ⟨rfl, hI5, hb5⟩
        have hB5 := hB4.trans hb5
        clear hb5 hI4 hB4
        go_wp2
        go_roundw
        case rel => exact ⟨k + 1, by omega, by go_num, by rw [HT.out]; exact hI5, hB5, HA'⟩
        case measure => simp [intOf]; omega
      · have hF : Hid (lprint es = ([], e.chk)) := HB.out hc
        have hcb : (e.chk != 0) = true := by rw [bne_iff_ne]; exact hc
        clear HA HB HT hc
        generalize e.chk = m at *
        go_wp2_with fail
        refine (hpr _ (hL.later (grew hB _))).mono ?_
        rintro r w3 ⟨rfl, hb3⟩
        have hB3 : Below w.heap.size w w3 := (grew hB _).trans (hb3.mono (by simp; have := hB.size; omega))
        clear hb3 hpr c0 c1 c2 c3 c4 hLr hI'
        go_wp2
        go_ret2
        exact ⟨by rw [hF.out]; rfl, hB3⟩
    · have hkn : k = n := by omega
      subst hkn
      have hF : Hid (lprint es = (rowsOf (es.take k), 0)) := by
        have e1 : es.take k = es := List.take_of_length_le (by have := HN.out; omega)
        have h1 := hall.out
        rw [e1] at h1 ⊢
        exact lprint_good (by have := HN.out; omega) h1
      have hI' := hI.out
      clear hall hI
      generalize rowsOf (es.take k) = p at *
      go_wp2_with fail
      refine (string_any w.heap.size p _ hI' hB.size).mono ?_
      rintro r w3 ⟨rfl, hb3⟩
      have hB3 := hB.trans hb3
      clear hb3 hI'
      go_wp2
      go_ret2
      exact ⟨by rw [hF.out]; rfl, hB3⟩

/-- Print, at every slice of entries. -/
theorem prints_any : Prints := by
  intro v es w hL hv _
  obtain ⟨a, c, rfl, hc⟩ := hv
  by_cases h60 : 60 < es.length
  · rw [lprint_many h60]
    exact print_many a es.length c w (by omega)
  · rcases hc with h0 | ⟨b, off, rfl, hE⟩
    · obtain rfl : es = [] := List.length_eq_zero_iff.1 h0
      exact print_none a c w
    · exact print_few b off c es es.length w hL rfl (by omega) hE

end Go.Proofs.YtlfennkdknodhaaDoor
