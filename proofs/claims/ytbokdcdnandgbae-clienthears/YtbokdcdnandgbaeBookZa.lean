/- Package book: what is in range, where the first one is; the walks of Find, Same. -/
import Derived.Test.YtbokdcdnandgbaeBookW
import Derived.Shelf.GgClosure.Gives
namespace Go.Proofs.Ytbokdcdnandgbae
open Go.RowKit Go.Shelf

theorem Jb.bad_of {x : Jb} (h : ¬((0 ≤ x.i ∧ x.i ≤ 5) ∧ (1 ≤ x.e ∧ x.e ≤ 100) ∧ (0 ≤ x.n ∧ x.n ≤ 100100))) : x.bad = true := by
  cases hb : x.bad with
  | true => rfl
  | false => exact absurd (Jb.good hb) h
theorem Rg.bad_of {x : Rg} (h : ¬((0 ≤ x.j ∧ x.j ≤ 5) ∧ (0 ≤ x.t ∧ x.t ≤ 100000) ∧ (0 ≤ x.c ∧ x.c ≤ 2))) : x.bad = true := by
  cases hb : x.bad with
  | true => rfl
  | false => exact absurd (Rg.good hb) h
theorem ret_bool {a b : Bool} (h : a = b) : Ending.returned (.bool a) = .returned (.bool b) := by rw [h]

set_option maxHeartbeats 2000000 in
theorem jobIn (x : Jb) (w : World) :
    Calls Try.prog 83 #[x.val] w fun e w' => e = .returned (.bool (!x.bad)) ∧ Below w.heap.size w w' := by
  obtain ⟨b, hb⟩ : ∃ b, Hid (x.bad = b) := ⟨_, rfl⟩
  rw [hb.out]
  by_cases hl : x.n ≤ 100100
  all_goals
   go_enter Try.func83, Try.ntmps83
   go_wp2
   all_goals
     go_ret
     refine ⟨ret_bool ?_, grew (Below.refl _ _) _⟩
     rw [← hb.out]
     first
       | (rw [Jb.bad_of (by omega)]; first | rfl | (simp; omega))
       | (rw [Jb.good_of (by omega)]; first | rfl | (simp; omega))

set_option maxHeartbeats 2000000 in
theorem rungIn (x : Rg) (w : World) :
    Calls Try.prog 86 #[x.val] w fun e w' => e = .returned (.bool (!x.bad)) ∧ Below w.heap.size w w' := by
  obtain ⟨b, hb⟩ : ∃ b, Hid (x.bad = b) := ⟨_, rfl⟩
  rw [hb.out]
  by_cases hl : x.c < 3
  all_goals
   go_enter Try.func86, Try.ntmps86
   go_wp2
   all_goals
     go_ret
     refine ⟨ret_bool ?_, grew (Below.refl _ _) _⟩
     rw [← hb.out]
     first
       | (rw [Rg.bad_of (by omega)]; first | rfl | (simp; omega))
       | (rw [Rg.good_of (by omega)]; first | rfl | (simp; omega))

/-- Where the first is that is so; -1: nowhere. -/
def idx {α : Type} (p : α → Bool) (xs : List α) : Int := match xs.findIdx? p with
  | some k => k
  | none => -1

theorem idx_some {α : Type} {p : α → Bool} {xs : List α} {k : Nat} {x : α} (hx : xs[k]? = some x) (he : p x = true) (hb : ∀ y, y ∈ xs.take k → p y = false) : idx p xs = k := by
  have hlt := (List.getElem?_eq_some_iff.1 hx).1
  have : xs.findIdx? p = some k := by
    rw [List.findIdx?_eq_some_iff_getElem]
    refine ⟨hlt, ?_, fun j hj => ?_⟩
    · have := (List.getElem?_eq_some_iff.1 hx).2
      rw [this]; exact he
    · have hm : xs[j]'(by omega) ∈ xs.take k := by
        rw [List.mem_take_iff_getElem]
        exact ⟨j, by omega, rfl⟩
      have := hb _ hm
      rw [this]; decide
  rw [idx, this]

theorem idx_none {α : Type} {p : α → Bool} {xs : List α} (hb : ∀ y, y ∈ xs → p y = false) : idx p xs = -1 := by
  have : xs.findIdx? p = none := by
    rw [List.findIdx?_eq_none_iff]
    exact hb
  rw [idx, this]

/-- Nowhere, or at the first one. -/
theorem idx_ways {α : Type} (p : α → Bool) (xs : List α) : (idx p xs = -1 ∧ ∀ y, y ∈ xs → p y = false) ∨ ∃ k x, idx p xs = (k : Nat) ∧ k < xs.length ∧ xs[k]? = some x ∧ p x = true ∧ ∀ y, y ∈ xs.take k → p y = false := by
  cases h : xs.findIdx? p with
  | none =>
    left
    rw [List.findIdx?_eq_none_iff] at h
    exact ⟨idx_none h, h⟩
  | some k =>
    right
    rw [List.findIdx?_eq_some_iff_getElem] at h
    obtain ⟨hlt, ht, hf⟩ := h
    have hb : ∀ y, y ∈ xs.take k → p y = false := fun y hy => by
      rw [List.mem_take_iff_getElem] at hy
      obtain ⟨j, hj, rfl⟩ := hy
      have := hf j (by omega)
      simpa using this
    exact ⟨k, xs[k], idx_some (List.getElem?_eq_getElem hlt) ht hb, hlt, List.getElem?_eq_getElem hlt, ht, hb⟩

theorem step_below' {w a b : World} (h : Below w.heap.size w a) (hb : Below a.heap.size a b) : Below w.heap.size w b := h.trans (hb.mono h.size)

theorem jobAt_idx (js : List Jb) (id : Int) : jobAt js id = idx (fun x => x.i == id) js := rfl

set_option maxHeartbeats 2000000 in
/-- The place of the first of the jobs that is so; -1: there is none (slices.IndexFunc). -/
theorem idxFJ (p : Jb → Bool) (g : Nat) (lb : Array Value) (eg : ∀ args w, (callFunc g args).run Try.prog w = .ok (.enter g args) w) (v : Value) (xs : List Jb) (w : World) (hv : SlOf Jb.cells 3 w v xs) (hn : xs.length ≤ most)
    (hp : ∀ (W : World) (x : Jb), Below w.heap.size w W → Calls Try.prog g (#[x.val] ++ lb) W fun e w' => e = .returned (.bool (p x)) ∧ Below w.heap.size w w') :
    Calls Try.prog 36 #[v, .func (.func g) #[] lb] w fun e w' => e = .returned (.int .i64 (idx p xs)) ∧ Below w.heap.size w w' := by
  have H1 : Hid (SlOf Jb.cells 3 w v xs) := hv
  obtain ⟨a1, c1, rfl, _⟩ := hv
  obtain ⟨n1, hn1⟩ : ∃ n1, xs.length = n1 := ⟨_, rfl⟩
  rw [hn1] at H1 hn ⊢
  have L1 : Hid (xs.length = n1) := hn1
  replace hn : n1 ≤ 9223372036854775807 := hn
  clear hn1
  have HP : Aside _ := hp
  clear hp
  go_enter Try.func36, Try.ntmps36
  go_wp2
  go_loopg [5, 8] n1 (fun gg _ i wr => ∃ k : Nat, k ≤ n1 ∧ n1 - k ≤ gg ∧ i = .int .i64 k ∧ Aside (Below w.heap.size w wr) ∧ Hid (∀ y, y ∈ xs.take k → p y = false))
  case atStart => exact ⟨0, Nat.zero_le _, by omega, rfl, Below.refl _ w, fun y hy => by simp at hy⟩
  case round =>
    obtain ⟨k, hk, hgg, rfl, hB, hst⟩ := hrel
    by_cases hlt : k < n1
    · obtain ⟨x, hx⟩ : ∃ x, xs[k]? = some x := ⟨xs[k]'(by have := L1.out; omega), List.getElem?_eq_getElem _⟩
      obtain ⟨b, off, rfl, hE0⟩ := H1.out.at (by omega)
      have hE := hE0.later hB.out
      have c0 : wr.cell? ⟨b, off + k * 3, none⟩ = some (.int .i64 x.i) := hE k x hx 0 _ rfl
      have c1 : wr.cell? ⟨b, off + k * 3 + 1, none⟩ = some (.int .i64 x.e) := hE k x hx 1 _ rfl
      have c2 : wr.cell? ⟨b, off + k * 3 + 2, none⟩ = some (.int .i64 x.n) := hE k x hx 2 _ rfl
      have hcall := HP.out wr x hB.out
      cases hq : p x with
      | true =>
        have HF : Hid (idx p xs = k) := idx_some hx hq hst.out
        rw [hq] at hcall
        clear hE hE0 hx hst H1 hq HP
        go_wp2_with (go_at_fn g; refine hcall.mono ?_; rintro e w' ⟨rfl, hb'⟩)
        go_ret
        exact ⟨by rw [HF.out]; rfl, hb'⟩
      | false =>
        have HN : Hid (∀ y, y ∈ xs.take (k + 1) → p y = false) := fun y hy => by
          rw [List.take_add_one, hx] at hy
          rcases List.mem_append.1 hy with hy | hy
          · exact hst.out y hy
          · simp at hy; rw [hy]; exact hq
        rw [hq] at hcall
        clear hE hE0 hx hst H1 hq HP
        go_wp2_with (go_at_fn g; refine hcall.mono ?_; rintro e w' ⟨rfl, hb'⟩)
        go_roundg (n1 - (k + 1))
        case measure => omega
        case rel => exact ⟨k + 1, by omega, by omega, by go_num, hb', HN⟩
    · have hkn : k = n1 := by omega
      subst hkn
      have HF : Hid (idx p xs = -1) := by
        have h := hst.out
        rw [List.take_of_length_le (by have := L1.out; omega)] at h
        exact idx_none h
      clear hst H1 HP
      go_wp2
      go_ret
      exact ⟨by rw [HF.out]; rfl, hB.out⟩

set_option maxHeartbeats 2000000 in
/-- The place of the first of the rings that is so; -1: there is none (slices.IndexFunc). -/
theorem idxFR (p : Rg → Bool) (g : Nat) (lb : Array Value) (eg : ∀ args w, (callFunc g args).run Try.prog w = .ok (.enter g args) w) (v : Value) (xs : List Rg) (w : World) (hv : SlOf Rg.cells 3 w v xs) (hn : xs.length ≤ most)
    (hp : ∀ (W : World) (x : Rg), Below w.heap.size w W → Calls Try.prog g (#[x.val] ++ lb) W fun e w' => e = .returned (.bool (p x)) ∧ Below w.heap.size w w') :
    Calls Try.prog 101 #[v, .func (.func g) #[] lb] w fun e w' => e = .returned (.int .i64 (idx p xs)) ∧ Below w.heap.size w w' := by
  have H1 : Hid (SlOf Rg.cells 3 w v xs) := hv
  obtain ⟨a1, c1, rfl, _⟩ := hv
  obtain ⟨n1, hn1⟩ : ∃ n1, xs.length = n1 := ⟨_, rfl⟩
  rw [hn1] at H1 hn ⊢
  have L1 : Hid (xs.length = n1) := hn1
  replace hn : n1 ≤ 9223372036854775807 := hn
  clear hn1
  have HP : Aside _ := hp
  clear hp
  go_enter Try.func101, Try.ntmps101
  go_wp2
  go_loopg [5, 8] n1 (fun gg _ i wr => ∃ k : Nat, k ≤ n1 ∧ n1 - k ≤ gg ∧ i = .int .i64 k ∧ Aside (Below w.heap.size w wr) ∧ Hid (∀ y, y ∈ xs.take k → p y = false))
  case atStart => exact ⟨0, Nat.zero_le _, by omega, rfl, Below.refl _ w, fun y hy => by simp at hy⟩
  case round =>
    obtain ⟨k, hk, hgg, rfl, hB, hst⟩ := hrel
    by_cases hlt : k < n1
    · obtain ⟨x, hx⟩ : ∃ x, xs[k]? = some x := ⟨xs[k]'(by have := L1.out; omega), List.getElem?_eq_getElem _⟩
      obtain ⟨b, off, rfl, hE0⟩ := H1.out.at (by omega)
      have hE := hE0.later hB.out
      have c0 : wr.cell? ⟨b, off + k * 3, none⟩ = some (.int .i64 x.j) := hE k x hx 0 _ rfl
      have c1 : wr.cell? ⟨b, off + k * 3 + 1, none⟩ = some (.int .i64 x.t) := hE k x hx 1 _ rfl
      have c2 : wr.cell? ⟨b, off + k * 3 + 2, none⟩ = some (.int .i64 x.c) := hE k x hx 2 _ rfl
      have hcall := HP.out wr x hB.out
      cases hq : p x with
      | true =>
        have HF : Hid (idx p xs = k) := idx_some hx hq hst.out
        rw [hq] at hcall
        clear hE hE0 hx hst H1 hq HP
        go_wp2_with (go_at_fn g; refine hcall.mono ?_; rintro e w' ⟨rfl, hb'⟩)
        go_ret
        exact ⟨by rw [HF.out]; rfl, hb'⟩
      | false =>
        have HN : Hid (∀ y, y ∈ xs.take (k + 1) → p y = false) := fun y hy => by
          rw [List.take_add_one, hx] at hy
          rcases List.mem_append.1 hy with hy | hy
          · exact hst.out y hy
          · simp at hy; rw [hy]; exact hq
        rw [hq] at hcall
        clear hE hE0 hx hst H1 hq HP
        go_wp2_with (go_at_fn g; refine hcall.mono ?_; rintro e w' ⟨rfl, hb'⟩)
        go_roundg (n1 - (k + 1))
        case measure => omega
        case rel => exact ⟨k + 1, by omega, by omega, by go_num, hb', HN⟩
    · have hkn : k = n1 := by omega
      subst hkn
      have HF : Hid (idx p xs = -1) := by
        have h := hst.out
        rw [List.take_of_length_le (by have := L1.out; omega)] at h
        exact idx_none h
      clear hst H1 HP
      go_wp2
      go_ret
      exact ⟨by rw [HF.out]; rfl, hB.out⟩

set_option maxHeartbeats 1000000 in
theorem find_pred (id : Int) (B : Nat) (w : World) (hB : B < w.heap.size) (hc : w.cell? ⟨B, 0, none⟩ = some (.int .i64 id)) (W : World) (x : Jb) (hb : Below w.heap.size w W) :
    Calls Try.prog 118 (#[x.val] ++ #[.pointer (some ⟨B, 0, none⟩)]) W fun e w' => e = .returned (.bool (x.i == id)) ∧ Below w.heap.size w w' := by
  have hc' : W.cell? ⟨B, 0, none⟩ = some (.int .i64 id) := (hb.cell (p := ⟨B, 0, none⟩) hB).trans hc
  have hBW : B < W.heap.size := Nat.lt_of_lt_of_le hB hb.size
  have hne : B ≠ W.heap.size := by omega
  show Calls Try.prog 118 #[x.val, .pointer (some ⟨B, 0, none⟩)] W _
  go_enter Try.func118, Try.ntmps118
  go_wp2
  all_goals (go_ret; exact ⟨by simp_all, hb.alloc hb.size _⟩)

set_option maxHeartbeats 1000000 in
/-- book.Find, at every book. -/
theorem find_any (v1 v2 : Value) (js : List Jb) (id : Int) (w : World) (h1 : JobSl w v1 js) (hn1 : js.length ≤ most) :
    Calls Try.prog 102 #[.agg #[v1, v2], .int .i64 id] w fun e w' => e = .returned (.int .i64 (jobAt js id)) ∧ Below w.heap.size w w' := by
  rw [jobAt_idx]
  have eg : ∀ args w, (callFunc 118 args).run Try.prog w = .ok (.enter 118 args) w := enters_of Try.func118 (by kernel_rfl) rfl
  have hB2 : Below w.heap.size w ((w.alloc (boxB v1 v2)).alloc (.cells #[.int .i64 id] 3)) := grew (grew (Below.refl _ _) _) _
  have hcell : ((w.alloc (boxB v1 v2)).alloc (.cells #[.int .i64 id] 3)).cell? ⟨w.heap.size + 1, 0, none⟩ = some (.int .i64 id) := by
    have := Joins.cell_of_block (heap_new (w.alloc (boxB v1 v2)) (.cells #[.int .i64 id] 3)) 0
    rwa [World.size_alloc] at this
  have hcon := idxFJ (fun x => x.i == id) 118 #[.pointer (some ⟨w.heap.size + 1, 0, none⟩)] eg v1 js _ (h1.later hB2) hn1
    (find_pred id (w.heap.size + 1) _ (by simp) hcell)
  have HB : Aside _ := hB2
  clear hB2 hcell
  obtain ⟨a1, c1, rfl, _⟩ := h1
  generalize idx (fun x => x.i == id) js = r at hcon ⊢
  generalize js.length = n1 at *
  go_enter Try.func102, Try.ntmps102
  go_wp2_with (go_at_call 36; refine hcon.mono ?_; rintro e w' ⟨rfl, hb'⟩)
  go_ret
  exact ⟨rfl, HB.out.trans (hb'.mono HB.out.size)⟩

end Go.Proofs.Ytbokdcdnandgbae
