/- Package fair: where a job's life is, when it is due next, how often all lives were rung. -/
import Derived.Test.YtjbcfflbfnddeacFairN
import Derived.Test.YtjbcfflbfnddeacBookZa
namespace Go.Proofs.Ytjbcfflbfnddeac
open Go.RowKit Go.Shelf

set_option maxHeartbeats 2000000 in
/-- The place of the first of the lives that is so; -1: there is none (slices.IndexFunc). -/
theorem idxFL (p : Lf → Bool) (g : Nat) (lb : Array Value) (eg : ∀ args w, (callFunc g args).run Try.prog w = .ok (.enter g args) w) (v : Value) (xs : List Lf) (w : World) (hv : LifeSl w v xs) (hn : xs.length ≤ most)
    (hp : ∀ (W : World) (x : Lf), Below w.heap.size w W → Calls Try.prog g (#[x.val] ++ lb) W fun e w' => e = .returned (.bool (p x)) ∧ Below w.heap.size w w') :
    Calls Try.prog 43 #[v, .func (.func g) #[] lb] w fun e w' => e = .returned (.int .i64 (idx p xs)) ∧ Below w.heap.size w w' := by
  have H1 : Hid (LifeSl w v xs) := hv
  obtain ⟨a1, c1, rfl, _⟩ := hv
  obtain ⟨n1, hn1⟩ : ∃ n1, xs.length = n1 := ⟨_, rfl⟩
  rw [hn1] at H1 hn ⊢
  have L1 : Hid (xs.length = n1) := hn1
  replace hn : n1 ≤ 9223372036854775807 := hn
  clear hn1
  have HP : Aside _ := hp
  clear hp
  go_enter Try.func43, Try.ntmps43
  go_wp2
  go_loopg [5, 8] n1 (fun gg _ i wr => ∃ k : Nat, k ≤ n1 ∧ n1 - k ≤ gg ∧ i = .int .i64 k ∧ Aside (Below w.heap.size w wr) ∧ Hid (∀ y, y ∈ xs.take k → p y = false))
  case atStart => exact ⟨0, Nat.zero_le _, by omega, rfl, Below.refl _ w, fun y hy => by simp at hy⟩
  case round =>
    obtain ⟨k, hk, hgg, rfl, hB, hst⟩ := hrel
    by_cases hlt : k < n1
    · obtain ⟨x, hx⟩ : ∃ x, xs[k]? = some x := ⟨xs[k]'(by have := L1.out; omega), List.getElem?_eq_getElem _⟩
      obtain ⟨b, off, rfl, hE0⟩ := H1.out.at (by omega)
      have hE := hE0.later hB.out
      have c0 : wr.cell? ⟨b, off + k * 5, none⟩ = some (.int .i64 x.j) := hE k x hx 0 _ rfl
      have c1 : wr.cell? ⟨b, off + k * 5 + 1, none⟩ = some (.int .i64 x.e) := hE k x hx 1 _ rfl
      have c2 : wr.cell? ⟨b, off + k * 5 + 2, none⟩ = some (.int .i64 x.f) := hE k x hx 2 _ rfl
      have c3 : wr.cell? ⟨b, off + k * 5 + 3, none⟩ = some (.int .i64 x.r) := hE k x hx 3 _ rfl
      have c4 : wr.cell? ⟨b, off + k * 5 + 4, none⟩ = some (.bool x.o) := hE k x hx 4 _ rfl
      have hcall := HP.out wr x hB.out
      cases hq : p x with
      | true =>
        have HF : Hid (idx p xs = k) := idx_some hx hq hst.out
        rw [hq] at hcall
        clear hE hE0 hx hst H1 hq HP
        go_wp2_with (go_at_fn g; refine hcall.mono ?_; rintro e w' ⟨rfl, hb'⟩)
        go_ret
        exact ⟨by rw [HF.out]; rfl, hb'⟩
      | false =>
        have HN : Hid (∀ y, y ∈ xs.take (k + 1) → p y = false) := fun y hy => by
          rw [List.take_add_one, hx] at hy
          rcases List.mem_append.1 hy with hy | hy
          · exact hst.out y hy
          · simp at hy; rw [hy]; exact hq
        rw [hq] at hcall
        clear hE hE0 hx hst H1 hq HP
        go_wp2_with (go_at_fn g; refine hcall.mono ?_; rintro e w' ⟨rfl, hb'⟩)
        go_roundg (n1 - (k + 1))
        case measure => omega
        case rel => exact ⟨k + 1, by omega, by omega, by go_num, hb', HN⟩
    · have hkn : k = n1 := by omega
      subst hkn
      have HF : Hid (idx p xs = -1) := by
        have h := hst.out
        rw [List.take_of_length_le (by have := L1.out; omega)] at h
        exact idx_none h
      clear hst H1 HP
      go_wp2
      go_ret
      exact ⟨by rw [HF.out]; rfl, hB.out⟩

set_option maxHeartbeats 1000000 in
theorem current_pred (id : Int) (B : Nat) (w : World) (hB : B < w.heap.size) (hc : w.cell? ⟨B, 0, none⟩ = some (.int .i64 id)) (W : World) (x : Lf) (hb : Below w.heap.size w W) :
    Calls Try.prog 44 (#[x.val] ++ #[.pointer (some ⟨B, 0, none⟩)]) W fun e w' => e = .returned (.bool (Lf.of id x)) ∧ Below w.heap.size w w' := by
  have hc' : W.cell? ⟨B, 0, none⟩ = some (.int .i64 id) := (hb.cell (p := ⟨B, 0, none⟩) hB).trans hc
  have hBW : B < W.heap.size := Nat.lt_of_lt_of_le hB hb.size
  have hne : B ≠ W.heap.size := by omega
  show Calls Try.prog 44 #[x.val, .pointer (some ⟨B, 0, none⟩)] W _
  unfold Lf.of
  obtain ⟨j, e, f, r, o⟩ := x
  by_cases hj : (j == id) = true
  · rw [hj]
    go_enter Try.func44, Try.ntmps44
    go_wp2
    all_goals (go_ret; exact ⟨by simp_all, hb.alloc hb.size _⟩)
  · have hj' : (j == id) = false := by simpa using hj
    rw [hj']
    go_enter Try.func44, Try.ntmps44
    go_wp2
    all_goals (go_ret; exact ⟨by simp_all, hb.alloc hb.size _⟩)

set_option maxHeartbeats 1000000 in
/-- fair.current, at every slice of lives. -/
theorem current_any (v : Value) (ls : List Lf) (id : Int) (w : World) (h1 : LifeSl w v ls) (hn1 : ls.length ≤ most) :
    Calls Try.prog 29 #[v, .int .i64 id] w fun e w' => e = .returned (.int .i64 (idx (Lf.of id) ls)) ∧ Below w.heap.size w w' := by
  have eg : ∀ args w, (callFunc 44 args).run Try.prog w = .ok (.enter 44 args) w := enters_of Try.func44 (by kernel_rfl) rfl
  have hB2 : Below w.heap.size w (w.alloc (.cells #[.int .i64 id] 3)) := grew (Below.refl _ _) _
  have hcell : (w.alloc (.cells #[.int .i64 id] 3)).cell? ⟨w.heap.size, 0, none⟩ = some (.int .i64 id) :=
    Joins.cell_of_block (heap_new w (.cells #[.int .i64 id] 3)) 0
  have hcon := idxFL (Lf.of id) 44 #[.pointer (some ⟨w.heap.size, 0, none⟩)] eg v ls _ (h1.later hB2) hn1
    (current_pred id w.heap.size _ (by simp) hcell)
  have HB : Aside _ := hB2
  clear hB2 hcell
  obtain ⟨a1, c1, rfl, _⟩ := h1
  generalize idx (Lf.of id) ls = r at hcon ⊢
  generalize ls.length = n1 at *
  go_enter Try.func29, Try.ntmps29
  go_wp2_with (go_at_call 43; refine hcon.mono ?_; rintro e w' ⟨rfl, hb'⟩)
  go_ret
  exact ⟨rfl, HB.out.trans (hb'.mono HB.out.size)⟩

set_option maxHeartbeats 1000000 in
/-- fair.next, at a life of small numbers. -/
theorem next_any (x : Lf) (w : World) (h1 : 0 ≤ x.f ∧ x.f ≤ 100000) (h2 : 0 ≤ x.e * x.r ∧ x.e * x.r ≤ 6000) :
    Calls Try.prog 30 #[x.val] w fun e w' => e = .returned (.int .i64 (x.f + x.e * x.r)) ∧ Below w.heap.size w w' := by
  obtain ⟨p, hp⟩ : ∃ p, x.e * x.r = p := ⟨_, rfl⟩
  have hw1 : IntKind.i64.wrap (x.e * x.r) = p := by rw [hp, IntKind.wrap_i64]; omega
  rw [hp] at h2 ⊢
  have hw2 : IntKind.i64.wrap (x.f + p) = x.f + p := by rw [IntKind.wrap_i64]; omega
  clear hp
  go_enter Try.func30, Try.ntmps30
  go_wp2
  go_ret
  exact ⟨rfl, grew (Below.refl _ _) _⟩

set_option maxHeartbeats 2000000 in
/-- fair.rungInAll, at lives that were rung no oftener than there is room. -/
theorem rungInAll_any (v : Value) (ls : List Lf) (w : World) (hv : LifeSl w v ls) (hn : ls.length ≤ most) (hr : ∀ y, y ∈ ls → 0 ≤ y.r) (ha : allR ls ≤ 60) :
    Calls Try.prog 31 #[v] w fun e w' => e = .returned (.int .i64 (allR ls)) ∧ Below w.heap.size w w' := by
  have H1 : Hid (LifeSl w v ls) := hv
  obtain ⟨a1, c1, rfl, _⟩ := hv
  obtain ⟨n1, hn1⟩ : ∃ n1, ls.length = n1 := ⟨_, rfl⟩
  rw [hn1] at H1 hn ⊢
  have L1 : Hid (ls.length = n1) := hn1
  have HR : Hid (∀ k, 0 ≤ allR (ls.take k) ∧ allR (ls.take k) ≤ 60) := fun k => ⟨(allR_take_le hr k).1, Int.le_trans (allR_take_le hr k).2 ha⟩
  replace hn : n1 ≤ 9223372036854775807 := hn
  clear hn1 hr ha
  go_enter Try.func31, Try.ntmps31
  go_wp2
  go_loopw [3, 8] (fun s i wr => ∃ (k : Nat) (sv : Int), k ≤ n1 ∧ i = .int .i64 k ∧ s = .int .i64 sv ∧ Hid (allR (ls.take k) = sv) ∧ Aside (Below w.heap.size w wr)) (fun _ i _ => n1 - (intOf i).toNat)
  case atStart => exact ⟨0, 0, Nat.zero_le _, rfl, rfl, rfl, Below.refl _ w⟩
  case round =>
    obtain ⟨k, sv, hk, rfl, rfl, hst, hB⟩ := hrel
    by_cases hlt : k < n1
    · obtain ⟨x, hx⟩ : ∃ x, ls[k]? = some x := ⟨ls[k]'(by have := L1.out; omega), List.getElem?_eq_getElem _⟩
      obtain ⟨b, off, rfl, hE0⟩ := H1.out.at (by omega)
      have hE := hE0.later hB.out
      have c0 : wr.cell? ⟨b, off + k * 5, none⟩ = some (.int .i64 x.j) := hE k x hx 0 _ rfl
      have c1 : wr.cell? ⟨b, off + k * 5 + 1, none⟩ = some (.int .i64 x.e) := hE k x hx 1 _ rfl
      have c2 : wr.cell? ⟨b, off + k * 5 + 2, none⟩ = some (.int .i64 x.f) := hE k x hx 2 _ rfl
      have c3 : wr.cell? ⟨b, off + k * 5 + 3, none⟩ = some (.int .i64 x.r) := hE k x hx 3 _ rfl
      have c4 : wr.cell? ⟨b, off + k * 5 + 4, none⟩ = some (.bool x.o) := hE k x hx 4 _ rfl
      have hs0 := HR.out k
      have hs1 := HR.out (k + 1)
      have hsum : allR (ls.take (k + 1)) = sv + x.r := by
        rw [List.take_add_one, hx, ← hst.out, allR_append]
        simp [allR]
      rw [hst.out] at hs0
      rw [hsum] at hs1
      have HS : Hid (allR (ls.take (k + 1)) = sv + x.r) := hsum
      have hw : IntKind.i64.wrap (sv + x.r) = sv + x.r := by rw [IntKind.wrap_i64]; omega
      have HB : Aside (Below w.heap.size w (wr.alloc (boxL x))) := grew hB.out _
      clear hE hE0 hx hst H1 hsum hB HR
      go_wp2
      go_roundw
      case rel => exact ⟨k + 1, sv + x.r, by omega, by go_num, by first | rfl | (rw [hw]), HS, HB⟩
      case measure => simp [intOf]; omega
    · have hkn : k = n1 := by omega
      subst hkn
      have HF : Hid (allR ls = sv) := by
        have h := hst.out
        rwa [List.take_of_length_le (by have := L1.out; omega)] at h
      clear hst H1 HR
      go_wp2
      go_ret
      exact ⟨by rw [HF.out]; rfl, hB.out⟩

end Go.Proofs.Ytjbcfflbfnddeac
