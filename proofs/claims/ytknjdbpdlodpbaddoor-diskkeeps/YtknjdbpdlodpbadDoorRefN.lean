/- The library's slices.Equal at entries. Plain facts on ledgers: what is printed is read, what is read is printed as it was. -/
import Derived.Test.YtknjdbpdlodpbadDoorRefJ
import Derived.Test.YtknjdbpdlodpbadDoorEntryN
namespace Go.Proofs.YtknjdbpdlodpbadDoor
open Go.RowKit

end Go.Proofs.YtknjdbpdlodpbadDoor
namespace Go.Proofs.YtknjdbpdlodpbadDoor
open Go.RowKit

theorem occAt_nl_no (l : List UInt8) (i : Nat) (h : ∀ x, l[i]? = some x → x ≠ 10) : Lib.occAt l [10] i = false := by
  unfold Lib.occAt
  rcases hd : l.drop i with _ | ⟨x, r⟩
  · rfl
  · have hx : l[i]? = some x := by
      have := List.getElem?_drop (xs := l) (i := i) (j := 0)
      rw [hd] at this
      simpa using this.symm
    have hne : ((10 : UInt8) == x) = false := by
      rw [beq_eq_false_iff_ne]; exact fun e => h x hx e.symm
    show (((10 : UInt8) == x) && ([] : List UInt8).isPrefixOf r) = false
    rw [hne]; rfl

theorem cut_nl (a b : List UInt8) (h : (10 : UInt8) ∉ a) : Lib.cut (a ++ 10 :: b) [10] = (a, b, true) := by
  have hi : Lib.index (a ++ 10 :: b) [10] = a.length := Lib.index_first (by simp) (occAt_nl a b) (fun j hj => occAt_nl_no _ _ (fun x hx => by
    rw [List.getElem?_append_left hj] at hx
    exact fun e => h (e ▸ List.mem_of_getElem? hx)))
  unfold Lib.cut
  rw [hi, if_pos (by omega)]
  simp

theorem itoa_no_nl (x : Int) (h0 : 0 ≤ x) : (10 : UInt8) ∉ Lib.itoa x := by
  unfold Lib.itoa
  rw [if_neg (by omega)]
  intro h
  have := dec_mem _ _ h
  have e : (10 : UInt8).toNat = 10 := rfl
  omega

theorem words_no_nl {e : En} (h : e.chk = 0) : ∀ x, x ∈ e.words → (10 : UInt8) ∉ x := by
  obtain ⟨b0, b1, b2⟩ := nums_range h
  intro x hx
  have hx := List.mem_of_mem_take hx
  simp only [List.mem_cons, List.not_mem_nil, or_false] at hx
  rcases hx with rfl | rfl | rfl | rfl
  · unfold nameL
    split
    · decide
    split
    · decide
    split <;> decide
  · exact itoa_no_nl _ b0.1
  · exact itoa_no_nl _ b1.1
  · exact itoa_no_nl _ b2.1

theorem join_no_nl : ∀ (ws : List (List UInt8)), (∀ x, x ∈ ws → (10 : UInt8) ∉ x) → (10 : UInt8) ∉ Lib.join ws [32]
  | [], _ => by rw [Lib.join_nil]; simp
  | [x], h => by rw [Lib.join_one]; exact h x (by simp)
  | x :: y :: r, h => by
    have hj : Lib.join (x :: y :: r) [32] = x ++ 32 :: Lib.join (y :: r) [32] := by
      rw [Lib.join_cons, Lib.join_cons]
      simp [Lib.joinTail]
    have ih := join_no_nl (y :: r) (fun z hz => h z (List.mem_cons_of_mem _ hz))
    rw [hj]
    intro hm
    rcases List.mem_append.1 hm with hm | hm
    · exact h x (by simp) hm
    · rcases List.mem_cons.1 hm with hm | hm
      · cases hm
      · exact ih hm

theorem txt_no_nl {e : En} (h : e.chk = 0) : (10 : UInt8) ∉ e.txt := join_no_nl _ (words_no_nl h)

theorem rowsOf_cons (e : En) (r : List En) : rowsOf (e :: r) = e.txt ++ 10 :: rowsOf r := by simp [rowsOf]
theorem rowsOf_append (es fs : List En) : rowsOf (es ++ fs) = rowsOf es ++ rowsOf fs := by simp [rowsOf]

theorem lread_rows : ∀ (es : List En) (f : Nat) (acc : List En), (∀ e, e ∈ es → e.chk = 0) → (rowsOf es).length < f → acc.length + es.length ≤ 60 → lread f (rowsOf es) acc = (acc ++ es, 0)
  | [], f, acc, _, hf, _ => by
    obtain ⟨f, rfl⟩ : ∃ g, f = g + 1 := ⟨f - 1, by omega⟩
    rw [show rowsOf [] = [] from rfl, lread_nil, List.append_nil]
  | e :: r, f, acc, h, hf, hl => by
    have he := h e (by simp)
    have hp := prs_txt he
    rw [rowsOf_cons] at hf ⊢
    simp only [List.length_append, List.length_cons] at hf hl
    obtain ⟨f, rfl⟩ : ∃ g, f = g + 1 := ⟨f - 1, by omega⟩
    rw [lread_more f acc (by simp) (cut_nl e.txt (rowsOf r) (txt_no_nl he)) (by rw [hp]) (by omega), hp]
    rw [lread_rows r f (acc ++ [e]) (fun x hx => h x (List.mem_cons_of_mem _ hx)) (by omega) (by simp; omega)]
    simp

/-- What is printed is read. -/
theorem ledRead_rows {es : List En} (h : ∀ e, e ∈ es → e.chk = 0) (hl : es.length ≤ 60) : ledRead (rowsOf es) = (es, 0) := by
  have := lread_rows es ((rowsOf es).length + 1) [] h (by omega) (by simpa using hl)
  simpa [ledRead] using this

theorem lread_back : ∀ (f : Nat) (l : List UInt8) (acc : List En), l.length < f → (lread f l acc).2 = 0 → ∃ es, (lread f l acc).1 = acc ++ es ∧ rowsOf es = l ∧ (∀ e, e ∈ es → e.chk = 0) ∧ (acc.length ≤ 60 → acc.length + es.length ≤ 60)
  | 0, l, acc, hf, _ => by omega
  | f + 1, l, acc, hf, h => by
    by_cases hl : l = []
    · subst hl
      refine ⟨[], by rw [lread_nil]; simp, rfl, fun e he => by simp at he, fun h => by simpa using h⟩
    · rcases hc : Lib.cut l [10] with ⟨a, b, g⟩
      cases g with
      | false => rw [lread_torn f acc hl hc] at h; cases h
      | true =>
        have hab := nl_back l a b hc
        by_cases hp : (prs a).2 = 0
        · by_cases hm : acc.length = 60
          · rw [lread_many f acc hl hc hp hm] at h; cases h
          · rw [lread_more f acc hl hc hp hm] at h ⊢
            obtain ⟨es, h1, h2, h3, h4⟩ := lread_back f b (acc ++ [(prs a).1]) (by rw [hab] at hf; simp at hf; omega) h
            obtain ⟨hk, ht⟩ := txt_prs hp
            refine ⟨(prs a).1 :: es, by rw [h1]; simp, by rw [rowsOf_cons, ht, h2, hab], fun e he => ?_, fun h60 => ?_⟩
            · rcases List.mem_cons.1 he with rfl | he
              · exact hk
              · exact h3 e he
            · have := h4 (by simp; omega)
              simp at this ⊢
              omega
        · rw [lread_bad f acc hl hc hp] at h; exact absurd h hp

/-- What is read is right, and is printed as it was. -/
theorem ledRead_back {l : List UInt8} (h : (ledRead l).2 = 0) : rowsOf (ledRead l).1 = l ∧ (∀ e, e ∈ (ledRead l).1 → e.chk = 0) ∧ (ledRead l).1.length ≤ 60 := by
  obtain ⟨es, h1, h2, h3, h4⟩ := lread_back (l.length + 1) l [] (by omega) h
  have e : (ledRead l).1 = es := by rw [ledRead, h1]; rfl
  rw [e]
  exact ⟨h2, h3, by simpa using h4 (by simp)⟩

theorem lprint_zero {es : List En} (h : (lprint es).2 = 0) : (∀ e, e ∈ es → e.chk = 0) ∧ es.length ≤ 60 ∧ (lprint es).1 = rowsOf es := by
  by_cases hm : 60 < es.length
  · rw [lprint_many hm] at h; cases h
  · cases hf : es.find? fun e => e.chk != 0 with
    | some e =>
      have hp := List.find?_some hf
      rw [lprint, if_neg hm, hf] at h
      simp only at h
      simp [h] at hp
    | none =>
      have hn := List.find?_eq_none.1 hf
      refine ⟨fun e he => by simpa using hn e he, by omega, ?_⟩
      rw [lprint, if_neg hm, hf]

/-- Unlike entries have unlike texts. -/
theorem lprint_inj {es fs : List En} (he : (lprint es).2 = 0) (hf : (lprint fs).2 = 0) : (lprint es).1 = (lprint fs).1 ↔ es = fs := by
  obtain ⟨a1, a2, a3⟩ := lprint_zero he
  obtain ⟨b1, b2, b3⟩ := lprint_zero hf
  refine ⟨fun h => ?_, fun h => by rw [h]⟩
  rw [a3, b3] at h
  have h1 := ledRead_rows a1 a2
  rw [h, ledRead_rows b1 b2] at h1
  exact (congrArg Prod.fst h1).symm

/-- Two ledgers one behind the other are both. -/
theorem ledRead_both {es fs : List En} (he : (lprint es).2 = 0) (hf : (lprint fs).2 = 0) (hl : es.length + fs.length ≤ 60) : ledRead ((lprint es).1 ++ (lprint fs).1) = (es ++ fs, 0) := by
  obtain ⟨a1, a2, a3⟩ := lprint_zero he
  obtain ⟨b1, b2, b3⟩ := lprint_zero hf
  rw [a3, b3, ← rowsOf_append]
  refine ledRead_rows (fun e h => ?_) (by simpa using hl)
  rcases List.mem_append.1 h with h | h
  · exact a1 e h
  · exact b1 e h

end Go.Proofs.YtknjdbpdlodpbadDoor
