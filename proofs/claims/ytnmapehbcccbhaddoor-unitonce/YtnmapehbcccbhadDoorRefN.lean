/- The library's slices.Equal at entries. Plain facts on ledgers: what is printed is read, what is read is printed as it was. -/
import Derived.Test.YtnmapehbcccbhadDoorRefJ
import Derived.Test.YtnmapehbcccbhadDoorEntryO
namespace Go.Proofs.YtnmapehbcccbhadDoor
open Go.RowKit

set_option maxHeartbeats 1000000 in
theorem equal_len (a1 a2 : Option Addr) (n m c d : Nat) (w : World) (h : ((n : Int) != (m : Int)) = true) :
    Calls Tryd.prog 34 #[.slice a1 n c, .slice a2 m d] w fun e w' => e = .returned (.bool false) ∧ w' = w := by
  go_enter Tryd.func34, Tryd.ntmps34
  go_wp2
  go_ret
  exact ⟨rfl, rfl⟩

set_option maxHeartbeats 1000000 in
theorem equal_none (a1 a2 : Option Addr) (c d : Nat) (w : World) :
    Calls Tryd.prog 34 #[.slice a1 0 c, .slice a2 0 d] w fun e w' => e = .returned (.bool true) ∧ w' = w := by
  go_enter Tryd.func34, Tryd.ntmps34
  go_wp2
  go_loop [13] (fun i => i = .int .i64 0) (fun _ => 0)
  case atStart => rfl
  case round =>
    subst hrel
    go_wp2
    go_ret
    exact ⟨rfl, rfl⟩

set_option maxHeartbeats 2000000 in
theorem equal_some (b1 o1 c b2 o2 d n : Nat) (es fs : List En) (w : World) (hn : n ≤ 9223372036854775807) (h1 : es.length = n) (h2 : fs.length = n) (hE : EntsAt w b1 o1 es) (hF : EntsAt w b2 o2 fs) :
    Calls Tryd.prog 34 #[.slice (some ⟨b1, o1, none⟩) n c, .slice (some ⟨b2, o2, none⟩) n d] w fun r w' => ∃ bb, r = .returned (.bool bb) ∧ (bb = true ↔ es = fs) ∧ ∃ q, w' = w.drewN q := by
  have H1 : Hid (es.length = n) := h1
  have H2 : Hid (fs.length = n) := h2
  have HE : Hid (EntsAt w b1 o1 es) := hE
  have HF : Hid (EntsAt w b2 o2 fs) := hF
  clear h1 h2 hE hF
  go_enter Tryd.func34, Tryd.ntmps34
  go_wp2
  go_loopg [13] n (fun g s13 wr => ∃ k q : Nat, k ≤ n ∧ n - k ≤ g ∧ s13 = .int .i64 k ∧ wr = w.drewN q ∧ Hid (es.take k = fs.take k))
  case atStart => exact ⟨0, 0, Nat.zero_le _, by omega, rfl, rfl, rfl⟩
  case round =>
    obtain ⟨k, q, hk, hg, rfl, rfl, heq⟩ := hrel
    by_cases hlt : k < n
    · obtain ⟨e, he⟩ : ∃ e, es[k]? = some e := ⟨es[k]'(by have := H1.out; omega), List.getElem?_eq_getElem _⟩
      obtain ⟨f, hf⟩ : ∃ f, fs[k]? = some f := ⟨fs[k]'(by have := H2.out; omega), List.getElem?_eq_getElem _⟩
      have c0 : w.cell? ⟨b1, o1 + k * 5, none⟩ = some (.int .i64 e.k) := HE.out k e he 0 _ rfl
      have c1 : w.cell? ⟨b1, o1 + k * 5 + 1, none⟩ = some (.int .i64 e.j) := HE.out k e he 1 _ rfl
      have c2 : w.cell? ⟨b1, o1 + k * 5 + 2, none⟩ = some (.int .i64 e.v) := HE.out k e he 2 _ rfl
      have c3 : w.cell? ⟨b1, o1 + k * 5 + 3, none⟩ = some (.int .i64 e.t) := HE.out k e he 3 _ rfl
      have c4 : w.cell? ⟨b1, o1 + k * 5 + 4, none⟩ = some (.int .i64 e.c) := HE.out k e he 4 _ rfl
      have d0 : w.cell? ⟨b2, o2 + k * 5, none⟩ = some (.int .i64 f.k) := HF.out k f hf 0 _ rfl
      have d1 : w.cell? ⟨b2, o2 + k * 5 + 1, none⟩ = some (.int .i64 f.j) := HF.out k f hf 1 _ rfl
      have d2 : w.cell? ⟨b2, o2 + k * 5 + 2, none⟩ = some (.int .i64 f.v) := HF.out k f hf 2 _ rfl
      have d3 : w.cell? ⟨b2, o2 + k * 5 + 3, none⟩ = some (.int .i64 f.t) := HF.out k f hf 3 _ rfl
      have d4 : w.cell? ⟨b2, o2 + k * 5 + 4, none⟩ = some (.int .i64 f.c) := HF.out k f hf 4 _ rfl
      have hne := fun W => neq_entry e.k e.j e.v e.t e.c f.k f.j f.v f.t f.c W
      cases hu : unlike e.k e.j e.v e.t e.c f.k f.j f.v f.t f.c with
      | false =>
        rw [hu] at hne
        have hef := en_eq hu
        have hnext : Hid (es.take (k + 1) = fs.take (k + 1)) := by rw [Hid, List.take_add_one, List.take_add_one, he, hf, heq.out, hef]
        clear hu hef he hf heq
        go_wp2_with fail
        go_quiet (fail)
        go_wp2
        go_roundg (n - (k + 1))
        case measure => omega
        case rel => exact ⟨k + 1, _, by omega, by omega, by go_num, rfl, hnext⟩
      | true =>
        rw [hu] at hne
        have hdiff : Hid (¬ es = fs) := fun e' => by
          rw [e'] at he
          have hef : e = f := Option.some.inj (he.symm.trans hf)
          rw [hef, show unlike f.k f.j f.v f.t f.c f.k f.j f.v f.t f.c = false by simp [unlike]] at hu
          cases hu
        clear hu he hf heq
        go_wp2_with fail
        go_quiet (fail)
        go_wp2
        go_ret
        exact ⟨false, rfl, ⟨fun h => (by cases h), fun h => absurd h hdiff.out⟩, _, World.drewN_drewN _ _ _⟩
    · have hkn : k = n := by omega
      subst hkn
      have hsame : Hid (es = fs) := by
        have h := heq.out
        rw [List.take_of_length_le (by have := H1.out; omega), List.take_of_length_le (by have := H2.out; omega)] at h
        exact h
      clear heq
      go_wp2
      go_ret
      exact ⟨true, rfl, ⟨fun _ => hsame.out, fun _ => rfl⟩, q, rfl⟩

/-- slices.Equal, at every two slices of entries. -/
theorem equal_ents (v1 v2 : Value) (es fs : List En) (w : World) (h1 : EntSl w v1 es) (h2 : EntSl w v2 fs) (hn1 : es.length ≤ 9223372036854775807) (hn2 : fs.length ≤ 9223372036854775807) :
    Calls Tryd.prog 34 #[v1, v2] w fun r w' => ∃ bb, r = .returned (.bool bb) ∧ (bb = true ↔ es = fs) ∧ ∃ q, w' = w.drewN q := by
  obtain ⟨a1, c1, rfl, h1⟩ := h1
  obtain ⟨a2, c2, rfl, h2⟩ := h2
  by_cases hl : es.length = fs.length
  · rcases h1 with h1 | ⟨b1, o1, rfl, hE⟩
    · have hf : fs.length = 0 := by omega
      have e1 : es = [] := List.length_eq_zero_iff.1 h1
      have e2 : fs = [] := List.length_eq_zero_iff.1 hf
      subst e1 e2
      exact (equal_none a1 a2 c1 c2 w).mono fun r w' ⟨hr, hw⟩ => ⟨true, hr, ⟨fun _ => rfl, fun _ => rfl⟩, 0, by rw [hw]; rfl⟩
    · rcases h2 with h2 | ⟨b2, o2, rfl, hF⟩
      · have hf : es.length = 0 := by omega
        have e1 : es = [] := List.length_eq_zero_iff.1 hf
        have e2 : fs = [] := List.length_eq_zero_iff.1 h2
        subst e1 e2
        exact (equal_none _ a2 c1 c2 w).mono fun r w' ⟨hr, hw⟩ => ⟨true, hr, ⟨fun _ => rfl, fun _ => rfl⟩, 0, by rw [hw]; rfl⟩
      · rw [← hl]
        exact equal_some b1 o1 c1 b2 o2 c2 es.length es fs w hn1 rfl hl.symm hE hF
  · exact (equal_len a1 a2 _ _ c1 c2 w (by rw [bne_iff_ne]; omega)).mono fun r w' ⟨hr, hw⟩ => ⟨false, hr, ⟨fun h => (by cases h), fun h => absurd (congrArg List.length h) hl⟩, 0, by rw [hw]; rfl⟩

end Go.Proofs.YtnmapehbcccbhadDoor
namespace Go.Proofs.YtnmapehbcccbhadDoor
open Go.RowKit

theorem occAt_nl_no (l : List UInt8) (i : Nat) (h : ∀ x, l[i]? = some x → x ≠ 10) : Lib.occAt l [10] i = false := by
  unfold Lib.occAt
  rcases hd : l.drop i with _ | ⟨x, r⟩
  · rfl
  · have hx : l[i]? = some x := by
      have := List.getElem?_drop (xs := l) (i := i) (j := 0)
      rw [hd] at this
      simpa using this.symm
    have hne : ((10 : UInt8) == x) = false := by
      rw [beq_eq_false_iff_ne]; exact fun e => h x hx e.symm
    show (((10 : UInt8) == x) && ([] : List UInt8).isPrefixOf r) = false
    rw [hne]; rfl

theorem cut_nl (a b : List UInt8) (h : (10 : UInt8) ∉ a) : Lib.cut (a ++ 10 :: b) [10] = (a, b, true) := by
  have hi : Lib.index (a ++ 10 :: b) [10] = a.length := Lib.index_first (by simp) (occAt_nl a b) (fun j hj => occAt_nl_no _ _ (fun x hx => by
    rw [List.getElem?_append_left hj] at hx
    exact fun e => h (e ▸ List.mem_of_getElem? hx)))
  unfold Lib.cut
  rw [hi, if_pos (by omega)]
  simp

theorem itoa_no_nl (x : Int) (h0 : 0 ≤ x) : (10 : UInt8) ∉ Lib.itoa x := by
  unfold Lib.itoa
  rw [if_neg (by omega)]
  intro h
  have := dec_mem _ _ h
  have e : (10 : UInt8).toNat = 10 := rfl
  omega

theorem words_no_nl {e : En} (h : e.chk = 0) : ∀ x, x ∈ e.words → (10 : UInt8) ∉ x := by
  obtain ⟨b0, b1, b2⟩ := nums_range h
  intro x hx
  have hx := List.mem_of_mem_take hx
  simp only [List.mem_cons, List.not_mem_nil, or_false] at hx
  rcases hx with rfl | rfl | rfl | rfl
  · unfold nameL
    split
    · decide
    split
    · decide
    split <;> decide
  · exact itoa_no_nl _ b0.1
  · exact itoa_no_nl _ b1.1
  · exact itoa_no_nl _ b2.1

theorem join_no_nl : ∀ (ws : List (List UInt8)), (∀ x, x ∈ ws → (10 : UInt8) ∉ x) → (10 : UInt8) ∉ Lib.join ws [32]
  | [], _ => by rw [Lib.join_nil]; simp
  | [x], h => by rw [Lib.join_one]; exact h x (by simp)
  | x :: y :: r, h => by
    have hj : Lib.join (x :: y :: r) [32] = x ++ 32 :: Lib.join (y :: r) [32] := by
      rw [Lib.join_cons, Lib.join_cons]
      simp [Lib.joinTail]
    have ih := join_no_nl (y :: r) (fun z hz => h z (List.mem_cons_of_mem _ hz))
    rw [hj]
    intro hm
    rcases List.mem_append.1 hm with hm | hm
    · exact h x (by simp) hm
    · rcases List.mem_cons.1 hm with hm | hm
      · cases hm
      · exact ih hm

theorem txt_no_nl {e : En} (h : e.chk = 0) : (10 : UInt8) ∉ e.txt := join_no_nl _ (words_no_nl h)

theorem rowsOf_cons (e : En) (r : List En) : rowsOf (e :: r) = e.txt ++ 10 :: rowsOf r := by simp [rowsOf]
theorem rowsOf_append (es fs : List En) : rowsOf (es ++ fs) = rowsOf es ++ rowsOf fs := by simp [rowsOf]

theorem lread_rows : ∀ (es : List En) (f : Nat) (acc : List En), (∀ e, e ∈ es → e.chk = 0) → (rowsOf es).length < f → acc.length + es.length ≤ 60 → lread f (rowsOf es) acc = (acc ++ es, 0)
  | [], f, acc, _, hf, _ => by
    obtain ⟨f, rfl⟩ : ∃ g, f = g + 1 := ⟨f - 1, by omega⟩
    rw [show rowsOf [] = [] from rfl, lread_nil, List.append_nil]
  | e :: r, f, acc, h, hf, hl => by
    have he := h e (by simp)
    have hp := prs_txt he
    rw [rowsOf_cons] at hf ⊢
    simp only [List.length_append, List.length_cons] at hf hl
    obtain ⟨f, rfl⟩ : ∃ g, f = g + 1 := ⟨f - 1, by omega⟩
    rw [lread_more f acc (by simp) (cut_nl e.txt (rowsOf r) (txt_no_nl he)) (by rw [hp]) (by omega), hp]
    rw [lread_rows r f (acc ++ [e]) (fun x hx => h x (List.mem_cons_of_mem _ hx)) (by omega) (by simp; omega)]
    simp

/-- What is printed is read. -/
theorem ledRead_rows {es : List En} (h : ∀ e, e ∈ es → e.chk = 0) (hl : es.length ≤ 60) : ledRead (rowsOf es) = (es, 0) := by
  have := lread_rows es ((rowsOf es).length + 1) [] h (by omega) (by simpa using hl)
  simpa [ledRead] using this

theorem lread_back : ∀ (f : Nat) (l : List UInt8) (acc : List En), l.length < f → (lread f l acc).2 = 0 → ∃ es, (lread f l acc).1 = acc ++ es ∧ rowsOf es = l ∧ (∀ e, e ∈ es → e.chk = 0) ∧ (acc.length ≤ 60 → acc.length + es.length ≤ 60)
  | 0, l, acc, hf, _ => by omega
  | f + 1, l, acc, hf, h => by
    by_cases hl : l = []
    · subst hl
      refine ⟨[], by rw [lread_nil]; simp, rfl, fun e he => by simp at he, fun h => by simpa using h⟩
    · rcases hc : Lib.cut l [10] with ⟨a, b, g⟩
      cases g with
      | false => rw [lread_torn f acc hl hc] at h; cases h
      | true =>
        have hab := nl_back l a b hc
        by_cases hp : (prs a).2 = 0
        · by_cases hm : acc.length = 60
          · rw [lread_many f acc hl hc hp hm] at h; cases h
          · rw [lread_more f acc hl hc hp hm] at h ⊢
            obtain ⟨es, h1, h2, h3, h4⟩ := lread_back f b (acc ++ [(prs a).1]) (by rw [hab] at hf; simp at hf; omega) h
            obtain ⟨hk, ht⟩ := txt_prs hp
            refine ⟨(prs a).1 :: es, by rw [h1]; simp, by rw [rowsOf_cons, ht, h2, hab], fun e he => ?_, fun h60 => ?_⟩
            · rcases List.mem_cons.1 he with rfl | he
              · exact hk
              · exact h3 e he
            · have := h4 (by simp; omega)
              simp at this ⊢
              omega
        · rw [lread_bad f acc hl hc hp] at h; exact absurd h hp

/-- What is read is right, and is printed as it was. -/
theorem ledRead_back {l : List UInt8} (h : (ledRead l).2 = 0) : rowsOf (ledRead l).1 = l ∧ (∀ e, e ∈ (ledRead l).1 → e.chk = 0) ∧ (ledRead l).1.length ≤ 60 := by
  obtain ⟨es, h1, h2, h3, h4⟩ := lread_back (l.length + 1) l [] (by omega) h
  have e : (ledRead l).1 = es := by rw [ledRead, h1]; rfl
  rw [e]
  exact ⟨h2, h3, by simpa using h4 (by simp)⟩

theorem lprint_zero {es : List En} (h : (lprint es).2 = 0) : (∀ e, e ∈ es → e.chk = 0) ∧ es.length ≤ 60 ∧ (lprint es).1 = rowsOf es := by
  by_cases hm : 60 < es.length
  · rw [lprint_many hm] at h; cases h
  · cases hf : es.find? fun e => e.chk != 0 with
    | some e =>
      have hp := List.find?_some hf
      rw [lprint, if_neg hm, hf] at h
      simp only at h
      simp [h] at hp
    | none =>
      have hn := List.find?_eq_none.1 hf
      refine ⟨fun e he => by simpa using hn e he, by omega, ?_⟩
      rw [lprint, if_neg hm, hf]

/-- Unlike entries have unlike texts. -/
theorem lprint_inj {es fs : List En} (he : (lprint es).2 = 0) (hf : (lprint fs).2 = 0) : (lprint es).1 = (lprint fs).1 ↔ es = fs := by
  obtain ⟨a1, a2, a3⟩ := lprint_zero he
  obtain ⟨b1, b2, b3⟩ := lprint_zero hf
  refine ⟨fun h => ?_, fun h => by rw [h]⟩
  rw [a3, b3] at h
  have h1 := ledRead_rows a1 a2
  rw [h, ledRead_rows b1 b2] at h1
  exact (congrArg Prod.fst h1).symm

/-- Two ledgers one behind the other are both. -/
theorem ledRead_both {es fs : List En} (he : (lprint es).2 = 0) (hf : (lprint fs).2 = 0) (hl : es.length + fs.length ≤ 60) : ledRead ((lprint es).1 ++ (lprint fs).1) = (es ++ fs, 0) := by
  obtain ⟨a1, a2, a3⟩ := lprint_zero he
  obtain ⟨b1, b2, b3⟩ := lprint_zero hf
  rw [a3, b3, ← rowsOf_append]
  refine ledRead_rows (fun e h => ?_) (by simpa using hl)
  rcases List.mem_append.1 h with h | h
  · exact a1 e h
  · exact b1 e h

end Go.Proofs.YtnmapehbcccbhadDoor
