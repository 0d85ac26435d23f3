/- The library's slices.Equal at entries. -/
import Derived.Test.YtlfennkdknodhaaDoorRefJ
import Derived.Test.YtlfennkdknodhaaDoorEntryN
namespace Go.Proofs.YtlfennkdknodhaaDoor
open Go.RowKit

/-- A slice value that holds these entries. -/
def EntSl (w : World) (v : Value) (es : List En) : Prop := ∃ a c, v = .slice a es.length c ∧ (es.length = 0 ∨ ∃ b off, a = some ⟨b, off, none⟩ ∧ EntsAt w b off es)

theorem EntSl.later {w w' : World} {v : Value} {es : List En} (h : EntSl w v es) (hb : Below w.heap.size w w') : EntSl w' v es := by
  obtain ⟨a, c, hv, h⟩ := h
  refine ⟨a, c, hv, ?_⟩
  rcases h with h | ⟨b, off, ha, hE⟩
  · exact Or.inl h
  · exact Or.inr ⟨b, off, ha, hE.later hb⟩

theorem flat_at : ∀ (es : List En) (j : Nat) (e : En), es[j]? = some e → ∀ i v, e.cells[i]? = some v → (es.flatMap En.cells)[j * 5 + i]? = some v
  | [], j, e, h, _, _, _ => by simp at h
  | x :: r, 0, e, h, i, v, hi => by
    simp at h; subst h
    have hlt : i < 5 := by
      have := (List.getElem?_eq_some_iff.1 hi).1
      simpa [En.cells] using this
    rw [List.flatMap_cons, Nat.zero_mul, Nat.zero_add, List.getElem?_append_left (by simpa [En.cells] using hlt)]
    exact hi
  | x :: r, j + 1, e, h, i, v, hi => by
    have ih := flat_at r j e (by simpa using h) i v hi
    rw [List.flatMap_cons, List.getElem?_append_right (by simp [En.cells]; omega)]
    rw [show (j + 1) * 5 + i - x.cells.length = j * 5 + i by simp [En.cells]; omega]
    exact ih

theorem flat_len : ∀ (es : List En), (es.flatMap En.cells).length = es.length * 5
  | [] => rfl
  | x :: r => by rw [List.flatMap_cons, List.length_append, flat_len r]; simp [En.cells]; omega

/-- A row of the call's own that holds these entries. -/
theorem entSl_of_owns {w : World} {base : Nat} {v : Value} {es : List En} (h : w.ownsRow base 23 5 v es.length (es.flatMap En.cells)) : EntSl w v es := by
  rcases h.2 with ⟨hv, hn⟩ | ⟨g, cap, cur, hv, _, hg, hle, _, hsz, htake⟩
  · exact ⟨none, 0, by rw [hv, hn], Or.inl hn⟩
  · refine ⟨some ⟨g, 0, none⟩, cap, hv, Or.inr ⟨g, 0, rfl, fun j e hj i u hi => ?_⟩⟩
    have hf := flat_at es j e hj i u hi
    rw [← htake, List.getElem?_take] at hf
    split at hf
    · rw [Joins.cell_of_block hg, Nat.zero_add]
      simpa using hf
    · cases hf

theorem en_eq {x y : En} (h : unlike x.k x.j x.v x.t x.c y.k y.j y.v y.t y.c = false) : x = y := by
  obtain ⟨h1, h2, h3, h4, h5⟩ := unlike_false h
  cases x; cases y; simp_all

set_option maxHeartbeats 1000000 in
theorem equal_len (a1 a2 : Option Addr) (n m c d : Nat) (w : World) (h : ((n : Int) != (m : Int)) = true) :
    Calls Tryd.prog 19 #[.slice a1 n c, .slice a2 m d] w fun e w' => e = .returned (.bool false) ∧ w' = w := by
  go_enter Tryd.func19, Tryd.ntmps19
  go_wp2
  go_ret
  exact ⟨rfl, rfl⟩

set_option maxHeartbeats 1000000 in
theorem equal_none (a1 a2 : Option Addr) (c d : Nat) (w : World) :
    Calls Tryd.prog 19 #[.slice a1 0 c, .slice a2 0 d] w fun e w' => e = .returned (.bool true) ∧ w' = w := by
  go_enter Tryd.func19, Tryd.ntmps19
  go_wp2
  go_loop [13] (fun i => i = .int .i64 0) (fun _ => 0)
  case atStart => rfl
  case round =>
    subst hrel
    go_wp2
    go_ret
    exact ⟨rfl, rfl⟩

set_option maxHeartbeats 2000000 in
theorem equal_some (b1 o1 c b2 o2 d n : Nat) (es fs : List En) (w : World) (hn : n ≤ 9223372036854775807) (h1 : es.length = n) (h2 : fs.length = n) (hE : EntsAt w b1 o1 es) (hF : EntsAt w b2 o2 fs) :
    Calls Tryd.prog 19 #[.slice (some ⟨b1, o1, none⟩) n c, .slice (some ⟨b2, o2, none⟩) n d] w fun r w' => ∃ bb, r = .returned (.bool bb) ∧ (bb = true ↔ es = fs) ∧ ∃ q, w' = w.drewN q := by
  have H1 : Hid (es.length = n) := h1
  have H2 : Hid (fs.length = n) := h2
  have HE : Hid (EntsAt w b1 o1 es) := hE
  have HF : Hid (EntsAt w b2 o2 fs) := hF
  clear h1 h2 hE hF
  go_enter Tryd.func19, Tryd.ntmps19
  go_wp2
  go_loopg [13] n (fun g s13 wr => ∃ k q : Nat, k ≤ n ∧ n - k ≤ g ∧ s13 = .int .i64 k ∧ wr = w.drewN q ∧ Hid (es.take k = fs.take k))
  case atStart => exact ⟨0, 0, Nat.zero_le _, by omega, rfl, rfl, rfl⟩
  case round =>
    obtain ⟨k, q, hk, hg, rfl, rfl, heq⟩ := hrel
    by_cases hlt : k < n
    · obtain ⟨e, he⟩ : ∃ e, es[k]? = some e := ⟨es[k]'(by have := H1.out; omega), List.getElem?_eq_getElem _⟩
      obtain ⟨f, hf⟩ : ∃ f, fs[k]? = some f := ⟨fs[k]'(by have := H2.out; omega), List.getElem?_eq_getElem _⟩
      have c0 : w.cell? ⟨b1, o1 + k * 5, none⟩ = some (.int .i64 e.k) := HE.out k e he 0 _ rfl
      have c1 : w.cell? ⟨b1, o1 + k * 5 + 1, none⟩ = some (.int .i64 e.j) := HE.out k e he 1 _ rfl
      have c2 : w.cell? ⟨b1, o1 + k * 5 + 2, none⟩ = some (.int .i64 e.v) := HE.out k e he 2 _ rfl
      have c3 : w.cell? ⟨b1, o1 + k * 5 + 3, none⟩ = some (.int .i64 e.t) := HE.out k e he 3 _ rfl
      have c4 : w.cell? ⟨b1, o1 + k * 5 + 4, none⟩ = some (.int .i64 e.c) := HE.out k e he 4 _ rfl
      have d0 : w.cell? ⟨b2, o2 + k * 5, none⟩ = some (.int .i64 f.k) := HF.out k f hf 0 _ rfl
      have d1 : w.cell? ⟨b2, o2 + k * 5 + 1, none⟩ = some (.int .i64 f.j) := HF.out k f hf 1 _ rfl
      have d2 : w.cell? ⟨b2, o2 + k * 5 + 2, none⟩ = some (.int .i64 f.v) := HF.out k f hf 2 _ rfl
      have d3 : w.cell? ⟨b2, o2 + k * 5 + 3, none⟩ = some (.int .i64 f.t) := HF.out k f hf 3 _ rfl
      have d4 : w.cell? ⟨b2, o2 + k * 5 + 4, none⟩ = some (.int .i64 f.c) := HF.out k f hf 4 _ rfl
      have hne := fun W => neq_entry e.k e.j e.v e.t e.c f.k f.j f.v f.t f.c W
      cases hu : unlike e.k e.j e.v e.t e.c f.k f.j f.v f.t f.c with
      | false =>
        rw [hu] at hne
        have hef := en_eq hu
        have hnext : Hid (es.take (k + 1) = fs.take (k + 1)) := by rw [Hid, List.take_add_one, List.take_add_one, he, hf, heq.out, hef]
        clear hu hef he hf heq
        go_wp2_with fail
        go_quiet (fail)
        go_wp2
        go_roundg (n - (k + 1))
        case measure => omega
        case rel => exact ⟨k + 1, _, by omega, by omega, by go_num, rfl, hnext⟩
      | true =>
        rw [hu] at hne
        have hdiff : Hid (¬ es = fs) := fun e' => by
          rw [e'] at he
          have hef : e = f := Option.some.inj (he.symm.trans hf)
          rw [hef, show unlike f.k f.j f.v f.t f.c f.k f.j f.v f.t f.c = false by simp [unlike]] at hu
          cases hu
        clear hu he hf heq
        go_wp2_with fail
        go_quiet (fail)
        go_wp2
        go_ret
        exact ⟨false, rfl, ⟨fun h => (by cases h), fun h => absurd h hdiff.out⟩, _, World.drewN_drewN _ _ _⟩
    · have hkn : k = n := by omega
      subst hkn
      have hsame : Hid (es = fs) := by
        have h := heq.out
        rw [List.take_of_length_le (by have := H1.out; omega), List.take_of_length_le (by have := H2.out; omega)] at h
        exact h
      clear heq
      go_wp2
      go_ret
      exact ⟨true, rfl, ⟨fun _ => hsame.out, fun _ => rfl⟩, q, rfl⟩

/-- slices.Equal, at every two slices of entries. -/
theorem equal_ents (v1 v2 : Value) (es fs : List En) (w : World) (h1 : EntSl w v1 es) (h2 : EntSl w v2 fs) (hn1 : es.length ≤ 9223372036854775807) (hn2 : fs.length ≤ 9223372036854775807) :
    Calls Tryd.prog 19 #[v1, v2] w fun r w' => ∃ bb, r = .returned (.bool bb) ∧ (bb = true ↔ es = fs) ∧ ∃ q, w' = w.drewN q := by
  obtain ⟨a1, c1, rfl, h1⟩ := h1
  obtain ⟨a2, c2, rfl, h2⟩ := h2
  by_cases hl : es.length = fs.length
  · rcases h1 with h1 | ⟨b1, o1, rfl, hE⟩
    · have hf : fs.length = 0 := by omega
      have e1 : es = [] := List.length_eq_zero_iff.1 h1
      have e2 : fs = [] := List.length_eq_zero_iff.1 hf
      subst e1 e2
      exact (equal_none a1 a2 c1 c2 w).mono fun r w' ⟨hr, hw⟩ => ⟨true, hr, ⟨fun _ => rfl, fun _ => rfl⟩, 0, by rw [hw]; rfl⟩
    · rcases h2 with h2 | ⟨b2, o2, rfl, hF⟩
      · have hf : es.length = 0 := by omega
        have e1 : es = [] := List.length_eq_zero_iff.1 hf
        have e2 : fs = [] := List.length_eq_zero_iff.1 h2
        subst e1 e2
        exact (equal_none _ a2 c1 c2 w).mono fun r w' ⟨hr, hw⟩ => ⟨true, hr, ⟨fun _ => rfl, fun _ => rfl⟩, 0, by rw [hw]; rfl⟩
      · rw [← hl]
        exact equal_some b1 o1 c1 b2 o2 c2 es.length es fs w hn1 rfl hl.symm hE hF
  · exact (equal_len a1 a2 _ _ c1 c2 w (by rw [bne_iff_ne]; omega)).mono fun r w' ⟨hr, hw⟩ => ⟨false, hr, ⟨fun h => (by cases h), fun h => absurd (congrArg List.length h) hl⟩, 0, by rw [hw]; rfl⟩

end Go.Proofs.YtlfennkdknodhaaDoor
