/- Slices of entries in memory: equal ones, appended ones, two as one. -/
import Derived.Test.YtaialgacaomaeadGen
import Derived.Test.YtaialgacaomaeadEql
import Derived.Deep.QuietTactic
import Derived.BigQuiet
import Derived.Lib.AppendZerosOnto
import Derived.Deep.Upon
import Derived.Laws.OwnMore
import Derived.Lib.ItoaMem
namespace Go.Proofs.Ytaialgacaomaead
open Go.ChangeShapes Go.WideShapes Go.ChangeAt Go.RowKit
open scoped Classical

theorem En.five (e : En) : e.cells.length = 5 := rfl

set_option maxHeartbeats 1000000 in
theorem eq_lenE (a1 a2 : Option Addr) (n m c d : Nat) (w : World) (h : ((n : Int) != (m : Int)) = true) :
    Calls Try.prog 37 #[.slice a1 n c, .slice a2 m d] w fun e w' => e = .returned (.bool false) ∧ w' = w := by
  go_enter Try.func37, Try.ntmps37
  go_wp2
  go_ret
  exact ⟨rfl, rfl⟩

set_option maxHeartbeats 2000000 in
theorem eq_someE (a1 a2 : Option Addr) (c d n : Nat) (es fs : List En) (w : World) (hn : n ≤ 9223372036854775807) (h1 : es.length = n) (h2 : fs.length = n) (hE : SlOf En.cells 5 w (.slice a1 n c) es) (hF : SlOf En.cells 5 w (.slice a2 n d) fs) :
    Calls Try.prog 37 #[.slice a1 n c, .slice a2 n d] w fun r w' => ∃ bb, r = .returned (.bool bb) ∧ (bb = true ↔ es = fs) ∧ ∃ q, w' = w.drewN q := by
  have H1 : Hid (es.length = n) := h1
  have H2 : Hid (fs.length = n) := h2
  have HE : Hid (SlOf En.cells 5 w (.slice a1 n c) es) := hE
  have HF : Hid (SlOf En.cells 5 w (.slice a2 n d) fs) := hF
  clear h1 h2 hE hF
  go_enter Try.func37, Try.ntmps37
  go_wp2
  go_loopg [13] n (fun g s13 wr => ∃ k q : Nat, k ≤ n ∧ n - k ≤ g ∧ s13 = .int .i64 k ∧ wr = w.drewN q ∧ Hid (es.take k = fs.take k))
  case atStart => exact ⟨0, 0, Nat.zero_le _, by omega, rfl, rfl, rfl⟩
  case round =>
    obtain ⟨k, q, hk, hg, rfl, rfl, heq⟩ := hrel
    by_cases hlt : k < n
    · obtain ⟨e, he⟩ : ∃ e, es[k]? = some e := ⟨es[k]'(by have := H1.out; omega), List.getElem?_eq_getElem _⟩
      obtain ⟨f, hf⟩ : ∃ f, fs[k]? = some f := ⟨fs[k]'(by have := H2.out; omega), List.getElem?_eq_getElem _⟩
      obtain ⟨b1, o1, rfl, hE⟩ := HE.out.at (by omega)
      obtain ⟨b2, o2, rfl, hF⟩ := HF.out.at (by omega)
      have c0 : w.cell? ⟨b1, o1 + k * 5, none⟩ = some (.int .i64 e.k) := hE k e he 0 _ rfl
      have c1 : w.cell? ⟨b1, o1 + k * 5 + 1, none⟩ = some (.int .i64 e.j) := hE k e he 1 _ rfl
      have c2 : w.cell? ⟨b1, o1 + k * 5 + 2, none⟩ = some (.int .i64 e.v) := hE k e he 2 _ rfl
      have c3 : w.cell? ⟨b1, o1 + k * 5 + 3, none⟩ = some (.int .i64 e.t) := hE k e he 3 _ rfl
      have c4 : w.cell? ⟨b1, o1 + k * 5 + 4, none⟩ = some (.int .i64 e.c) := hE k e he 4 _ rfl
      have d0 : w.cell? ⟨b2, o2 + k * 5, none⟩ = some (.int .i64 f.k) := hF k f hf 0 _ rfl
      have d1 : w.cell? ⟨b2, o2 + k * 5 + 1, none⟩ = some (.int .i64 f.j) := hF k f hf 1 _ rfl
      have d2 : w.cell? ⟨b2, o2 + k * 5 + 2, none⟩ = some (.int .i64 f.v) := hF k f hf 2 _ rfl
      have d3 : w.cell? ⟨b2, o2 + k * 5 + 3, none⟩ = some (.int .i64 f.t) := hF k f hf 3 _ rfl
      have d4 : w.cell? ⟨b2, o2 + k * 5 + 4, none⟩ = some (.int .i64 f.c) := hF k f hf 4 _ rfl
      have hne := fun W => neq_entry e.k e.j e.v e.t e.c f.k f.j f.v f.t f.c W
      by_cases hef : e = f
      · rw [show unlike e.k e.j e.v e.t e.c f.k f.j f.v f.t f.c = false by rw [hef]; simp [unlike]] at hne
        have hnext : Hid (es.take (k + 1) = fs.take (k + 1)) := by rw [Hid, List.take_add_one, List.take_add_one, he, hf, heq.out, hef]
        clear hef he hf heq hE hF HE HF
        go_wp2_with fail
        go_quiet (fail)
        go_wp2
        go_roundg (n - (k + 1))
        case measure => omega
        case rel => exact ⟨k + 1, _, by omega, by omega, by go_num, rfl, hnext⟩
      · rw [show unlike e.k e.j e.v e.t e.c f.k f.j f.v f.t f.c = true by rw [← Bool.not_eq_false]; exact fun h => hef (en_eq h)] at hne
        have hdiff : Hid (¬ es = fs) := fun e' => by
          rw [e'] at he
          exact hef (Option.some.inj (he.symm.trans hf))
        clear hef he hf heq hE hF HE HF
        go_wp2_with fail
        go_quiet (fail)
        go_wp2
        go_ret
        exact ⟨false, rfl, ⟨fun h => (by cases h), fun h => absurd h hdiff.out⟩, _, World.drewN_drewN _ _ _⟩
    · have hkn : k = n := by omega
      subst hkn
      have hsame : Hid (es = fs) := by
        have h := heq.out
        rw [List.take_of_length_le (by have := H1.out; omega), List.take_of_length_le (by have := H2.out; omega)] at h
        exact h
      clear heq HE HF
      go_wp2
      go_ret
      exact ⟨true, rfl, ⟨fun _ => hsame.out, fun _ => rfl⟩, q, rfl⟩

/-- slices.Equal, at every two slices. -/
theorem equalE (v1 v2 : Value) (es fs : List En) (w : World) (h1 : SlOf En.cells 5 w v1 es) (h2 : SlOf En.cells 5 w v2 fs) (hn1 : es.length ≤ 9223372036854775807) :
    Calls Try.prog 37 #[v1, v2] w fun r w' => r = .returned (.bool (decide (es = fs))) ∧ Below w.heap.size w w' := by
  have h1' := h1
  have h2' := h2
  obtain ⟨a1, c1, rfl, _⟩ := h1
  obtain ⟨a2, c2, rfl, _⟩ := h2
  by_cases hl : es.length = fs.length
  · rw [← hl] at h2' ⊢
    refine (eq_someE a1 a2 c1 c2 es.length es fs w hn1 rfl hl.symm h1' h2').mono ?_
    rintro r w' ⟨bb, rfl, hbb, q, rfl⟩
    have hd : decide (es = fs) = bb := by cases bb with | true => exact decide_eq_true (hbb.1 rfl) | false => exact decide_eq_false (fun h => by have := hbb.2 h; cases this)
    exact ⟨by rw [hd], below_drewN (Below.refl _ _) _⟩
  · rw [decide_eq_false (fun h => hl (congrArg List.length h))]
    exact (eq_lenE a1 a2 _ _ c1 c2 w (by rw [bne_iff_ne]; omega)).mono fun r w' ⟨hr, hw⟩ => ⟨hr, by rw [hw]; exact Below.refl _ _⟩

theorem infoE : (Try.prog.info? 26).map (fun i => (i.zero, i.size, i.bytes)) = some (some (ev 0 0 0 0 0), 5, 40) := by kernel_rfl

theorem oneE (es : List En) : ∀ u ∈ es.flatMap En.cells, u.oneCell' = true := fun u hu => by
  obtain ⟨e, _, he⟩ := List.mem_flatMap.1 hu
  simp only [En.cells, List.mem_cons, List.not_mem_nil, or_false] at he
  rcases he with rfl | rfl | rfl | rfl | rfl <;> rfl

/-- A slice appended to a row of the call's own. -/
theorem appendE {w : World} {ops : Array Oper} {rest : List Oper} {o : Oper} {a : Act} {Q : Exit → Act → World → Prop} (hgd : o.guard = none) (s x : Operand)
    (ho : o.op = .call { callee := .builtin .append, args := #[s, x], argTypes := #[22, 22] })
    (base : Nat) (v u : Value) (n : Nat) (xs : List Value) (hs : a.eval s = v) (hown : w.ownsRow base 26 5 v n xs)
    (es : List En) (hx : a.eval x = u) (hes : SlOf En.cells 5 w u es) (hlen : n + es.length ≤ 1000000) (hbase : base ≤ w.heap.size)
    (h : ∀ v' w', w'.ownsRow base 26 5 v' (n + es.length) (xs ++ es.flatMap En.cells) → w.grownBy w' v.ownBlock → wpList Try.prog ops Q rest (a.put o.dst v') w') : wpList Try.prog ops Q (o :: rest) a w := by
  obtain ⟨i0, hi, hz0, hz1, hz2⟩ := info_parts infoE
  obtain ⟨ao, c, rfl, hcase⟩ := hes
  by_cases hz : es.length = 0
  · obtain rfl : es = [] := List.length_eq_zero_iff.1 hz
    refine Lib.wpList_append_run w hgd s x _ _ ho v _ hs hx v w ?_ (h v w (by simpa using hown) ⟨rfl, rfl, rfl, Nat.le_refl _, fun _ _ _ => rfl⟩)
    have hsrc : Src Try.prog i0.size 22 (.slice ao 0 c) 0 [] w := by
      cases ao with
      | none => exact Src.ofNil w Try.underlying22 c
      | some ad => exact Src.ofSlice w Try.underlying22 ad 0 c [] (by simp) (by simp) (by simp)
    rcases hown.2 with ⟨rfl, _⟩ | ⟨g, cap, cur, rfl, _, _, hle, _⟩
    · exact run_append_nothing w _ _ _ _ i0 Try.underlying22 hi none 0 0 (Nat.le_refl _) _ hsrc
    · exact run_append_nothing w _ _ _ _ i0 Try.underlying22 hi _ n cap hle _ hsrc
  · rcases hcase with h0 | ⟨b, off, rfl, hE⟩
    · exact absurd h0 hz
    · exact wpList_append_own w hgd s x _ ho base _ i0 (ev 0 0 0 0 0) 5 40 Try.underlying22 hi hz0 hz1 hz2 rfl (by decide) v n xs hs hown ⟨b, off, none⟩ es.length c (es.flatMap En.cells) hx (row_len En.five es)
        (fun j u hj => by rw [Lib.add_plain]; exact rows_flat En.five es off hE j u hj) (oneE es) (by unfold maxLen; omega) (by omega) hbase fun v' w' h1 h2 _ => h v' w' h1 h2

end Go.Proofs.Ytaialgacaomaead
