/- Slices of jobs in memory: equal ones, appended ones, opened ones. -/
import Derived.Test.YtbokdcdnandgbaeBookC
import Derived.OpenShut
import Derived.ProofKit
import Derived.Deep.Slices
import Derived.SizedLaws
import Derived.Lib.ItoaMem
namespace Go.Proofs.Ytbokdcdnandgbae
open Go.ChangeShapes Go.WideShapes Go.ChangeAt Go.RowKit
open scoped Classical

abbrev valJ (a b c : Int) : Value := .agg #[.int .i64 a, .int .i64 b, .int .i64 c]
abbrev boxJ (x : Jb) : Obj := .cells #[.int .i64 x.i, .int .i64 x.e, .int .i64 x.n] 64
abbrev Jb.val (x : Jb) : Value := valJ x.i x.e x.n

theorem neqJ (a b c a' b' c' : Int) (w : World) :
    (binOp .neq 64 (valJ a b c) (valJ a' b' c')).run Try.prog w = .ok (.bool (!decide (a = a' ∧ b = b' ∧ c = c'))) w := by
  have u3 := Try.underlying3
  have a3 := Try.isAgg3
  have z3 := Try.sizeOf3
  have hS : Try.prog.underlying 64 = some (.struct (Try.prog.fieldsOf 64)) := by kernel_rfl
  have hp : Try.prog.stoodInHeld 64 = false := by kernel_rfl
  rw [run_neq_struct, show (10000 : Nat) = 9999 + 1 from rfl, run_equalIn_agg w 9999 64 _ _ hS hp]
  simp only [Program.fieldsOf, Try.underlying64]
  go_simp
  by_cases h1 : a = a' <;> by_cases h2 : b = b' <;> by_cases h3 : c = c' <;> simp [h1, h2, h3]

set_option maxHeartbeats 1000000 in
theorem eq_lenJ (a1 a2 : Option Addr) (n m c d : Nat) (w : World) (h : ((n : Int) != (m : Int)) = true) :
    Calls Try.prog 66 #[.slice a1 n c, .slice a2 m d] w fun e w' => e = .returned (.bool false) ∧ w' = w := by
  go_enter Try.func66, Try.ntmps66
  go_wp2
  go_ret
  exact ⟨rfl, rfl⟩

set_option maxHeartbeats 2000000 in
theorem eq_someJ (a1 a2 : Option Addr) (c d n : Nat) (es fs : List Jb) (w : World) (hn : n ≤ 9223372036854775807) (h1 : es.length = n) (h2 : fs.length = n) (hE : SlOf Jb.cells 3 w (.slice a1 n c) es) (hF : SlOf Jb.cells 3 w (.slice a2 n d) fs) :
    Calls Try.prog 66 #[.slice a1 n c, .slice a2 n d] w fun r w' => ∃ bb, r = .returned (.bool bb) ∧ (bb = true ↔ es = fs) ∧ ∃ q, w' = w.drewN q := by
  have H1 : Hid (es.length = n) := h1
  have H2 : Hid (fs.length = n) := h2
  have HE : Hid (SlOf Jb.cells 3 w (.slice a1 n c) es) := hE
  have HF : Hid (SlOf Jb.cells 3 w (.slice a2 n d) fs) := hF
  clear h1 h2 hE hF
  go_enter Try.func66, Try.ntmps66
  go_wp2
  go_loopg [13] n (fun g s13 wr => ∃ k q : Nat, k ≤ n ∧ n - k ≤ g ∧ s13 = .int .i64 k ∧ wr = w.drewN q ∧ Hid (es.take k = fs.take k))
  case atStart => exact ⟨0, 0, Nat.zero_le _, by omega, rfl, rfl, rfl⟩
  case round =>
    obtain ⟨k, q, hk, hg, rfl, rfl, heq⟩ := hrel
    by_cases hlt : k < n
    · obtain ⟨e, he⟩ : ∃ e, es[k]? = some e := ⟨es[k]'(by have := H1.out; omega), List.getElem?_eq_getElem _⟩
      obtain ⟨f, hf⟩ : ∃ f, fs[k]? = some f := ⟨fs[k]'(by have := H2.out; omega), List.getElem?_eq_getElem _⟩
      obtain ⟨b1, o1, rfl, hE⟩ := HE.out.at (by omega)
      obtain ⟨b2, o2, rfl, hF⟩ := HF.out.at (by omega)
      have c0 : w.cell? ⟨b1, o1 + k * 3, none⟩ = some (.int .i64 e.i) := hE k e he 0 _ rfl
      have c1 : w.cell? ⟨b1, o1 + k * 3 + 1, none⟩ = some (.int .i64 e.e) := hE k e he 1 _ rfl
      have c2 : w.cell? ⟨b1, o1 + k * 3 + 2, none⟩ = some (.int .i64 e.n) := hE k e he 2 _ rfl
      have d0 : w.cell? ⟨b2, o2 + k * 3, none⟩ = some (.int .i64 f.i) := hF k f hf 0 _ rfl
      have d1 : w.cell? ⟨b2, o2 + k * 3 + 1, none⟩ = some (.int .i64 f.e) := hF k f hf 1 _ rfl
      have d2 : w.cell? ⟨b2, o2 + k * 3 + 2, none⟩ = some (.int .i64 f.n) := hF k f hf 2 _ rfl
      have hne := fun W => neqJ e.i e.e e.n f.i f.e f.n W
      by_cases hef : e = f
      · rw [decide_eq_true (by rw [hef]; exact ⟨rfl, rfl, rfl⟩)] at hne
        have hnext : Hid (es.take (k + 1) = fs.take (k + 1)) := by rw [Hid, List.take_add_one, List.take_add_one, he, hf, heq.out, hef]
        clear hef he hf heq hE hF HE HF
        go_wp2_with fail
        go_quiet (fail)
        go_wp2
        go_roundg (n - (k + 1))
        case measure => omega
        case rel => exact ⟨k + 1, _, by omega, by omega, by go_num, rfl, hnext⟩
      · rw [decide_eq_false (fun h => hef (by cases e; cases f; simp_all))] at hne
        have hdiff : Hid (¬ es = fs) := fun e' => by
          rw [e'] at he
          exact hef (Option.some.inj (he.symm.trans hf))
        clear hef he hf heq hE hF HE HF
        go_wp2_with fail
        go_quiet (fail)
        go_wp2
        go_ret
        exact ⟨false, rfl, ⟨fun h => (by cases h), fun h => absurd h hdiff.out⟩, _, World.drewN_drewN _ _ _⟩
    · have hkn : k = n := by omega
      subst hkn
      have hsame : Hid (es = fs) := by
        have h := heq.out
        rw [List.take_of_length_le (by have := H1.out; omega), List.take_of_length_le (by have := H2.out; omega)] at h
        exact h
      clear heq HE HF
      go_wp2
      go_ret
      exact ⟨true, rfl, ⟨fun _ => hsame.out, fun _ => rfl⟩, q, rfl⟩

/-- slices.Equal, at every two slices. -/
theorem equalJ (v1 v2 : Value) (es fs : List Jb) (w : World) (h1 : SlOf Jb.cells 3 w v1 es) (h2 : SlOf Jb.cells 3 w v2 fs) (hn1 : es.length ≤ 9223372036854775807) :
    Calls Try.prog 66 #[v1, v2] w fun r w' => r = .returned (.bool (decide (es = fs))) ∧ Below w.heap.size w w' := by
  have h1' := h1
  have h2' := h2
  obtain ⟨a1, c1, rfl, _⟩ := h1
  obtain ⟨a2, c2, rfl, _⟩ := h2
  by_cases hl : es.length = fs.length
  · rw [← hl] at h2' ⊢
    refine (eq_someJ a1 a2 c1 c2 es.length es fs w hn1 rfl hl.symm h1' h2').mono ?_
    rintro r w' ⟨bb, rfl, hbb, q, rfl⟩
    have hd : decide (es = fs) = bb := by cases bb with | true => exact decide_eq_true (hbb.1 rfl) | false => exact decide_eq_false (fun h => by have := hbb.2 h; cases this)
    exact ⟨by rw [hd], below_drewN (Below.refl _ _) _⟩
  · rw [decide_eq_false (fun h => hl (congrArg List.length h))]
    exact (eq_lenJ a1 a2 _ _ c1 c2 w (by rw [bne_iff_ne]; omega)).mono fun r w' ⟨hr, hw⟩ => ⟨hr, by rw [hw]; exact Below.refl _ _⟩

theorem infoJ : (Try.prog.info? 64).map (fun i => (i.zero, i.size, i.bytes)) = some (some (valJ 0 0 0), 3, 24) := by kernel_rfl

theorem oneJ (es : List Jb) : ∀ u ∈ es.flatMap Jb.cells, u.oneCell' = true := fun u hu => by
  obtain ⟨e, _, he⟩ := List.mem_flatMap.1 hu
  simp only [Jb.cells, List.mem_cons, List.not_mem_nil, or_false] at he
  rcases he with rfl | rfl | rfl <;> rfl

/-- A slice appended to a row of the call's own. -/
theorem appendJ {w : World} {ops : Array Oper} {rest : List Oper} {o : Oper} {a : Act} {Q : Exit → Act → World → Prop} (hgd : o.guard = none) (s x : Operand)
    (ho : o.op = .call { callee := .builtin .append, args := #[s, x], argTypes := #[42, 42] })
    (base : Nat) (v u : Value) (n : Nat) (xs : List Value) (hs : a.eval s = v) (hown : w.ownsRow base 64 3 v n xs)
    (es : List Jb) (hx : a.eval x = u) (hes : SlOf Jb.cells 3 w u es) (hlen : n + es.length ≤ 1000000) (hbase : base ≤ w.heap.size)
    (h : ∀ v' w', w'.ownsRow base 64 3 v' (n + es.length) (xs ++ es.flatMap Jb.cells) → w.grownBy w' v.ownBlock → wpList Try.prog ops Q rest (a.put o.dst v') w') : wpList Try.prog ops Q (o :: rest) a w := by
  obtain ⟨i0, hi, hz0, hz1, hz2⟩ := info_parts infoJ
  obtain ⟨ao, c, rfl, hcase⟩ := hes
  by_cases hz : es.length = 0
  · obtain rfl : es = [] := List.length_eq_zero_iff.1 hz
    refine Lib.wpList_append_run w hgd s x _ _ ho v _ hs hx v w ?_ (h v w (by simpa using hown) ⟨rfl, rfl, rfl, Nat.le_refl _, fun _ _ _ => rfl⟩)
    have hsrc : Src Try.prog i0.size 42 (.slice ao 0 c) 0 [] w := by
      cases ao with
      | none => exact Src.ofNil w Try.underlying42 c
      | some ad => exact Src.ofSlice w Try.underlying42 ad 0 c [] (by simp) (by simp) (by simp)
    rcases hown.2 with ⟨rfl, _⟩ | ⟨g, cap, cur, rfl, _, _, hle, _⟩
    · exact run_append_nothing w _ _ _ _ i0 Try.underlying42 hi none 0 0 (Nat.le_refl _) _ hsrc
    · exact run_append_nothing w _ _ _ _ i0 Try.underlying42 hi _ n cap hle _ hsrc
  · rcases hcase with h0 | ⟨b, off, rfl, hE⟩
    · exact absurd h0 hz
    · exact wpList_append_own w hgd s x _ ho base _ i0 (valJ 0 0 0) 3 24 Try.underlying42 hi hz0 hz1 hz2 rfl (by decide) v n xs hs hown ⟨b, off, none⟩ es.length c (es.flatMap Jb.cells) hx (row_len Jb.three es)
        (fun j u hj => by rw [Lib.add_plain]; exact rows_flat Jb.three es off hE j u hj) (oneJ es) (by unfold maxLen; omega) (by omega) hbase fun v' w' h1 h2 _ => h v' w' h1 h2

theorem cellsJ : Try.prog.cellsOf 64 = 3 := by kernel_rfl
theorem cellsIJ : Try.prog.cellsOf 3 = 1 := by kernel_rfl

section
variable {H : Type} {enc : TypeId × Value → H} {w : World} {base : Nat} {spare : Nat → Bool} {held : Bool}

set_option maxRecDepth 100000 in
theorem trodJ {fuel : Nat} {cs : List Value} {x : DataW H × List MemPlace} (h : DataW.trod enc Try.prog w base spare held fuel 64 cs = some x) : ∃ e : Jb, cs = e.cells ∧ x.2 = [] := by
  obtain ⟨xs, n, _, hx, hcl, hlen, hel⟩ := DataW.trod_struct Try.underlying64 h
  rw [cellsJ] at hcl
  match xs, hlen, cs, hcl with
  | [y0, y1, y2], _, [c0, c1, c2], _ =>
    have k0 : DataW.trod enc Try.prog w base spare held n 3 (List.take (Try.prog.cellsOf 3) (List.drop 0 [c0, c1, c2])) = some y0 := hel 0 _ rfl
    have k1 : DataW.trod enc Try.prog w base spare held n 3 (List.take (Try.prog.cellsOf 3) (List.drop 1 [c0, c1, c2])) = some y1 := hel 1 _ rfl
    have k2 : DataW.trod enc Try.prog w base spare held n 3 (List.take (Try.prog.cellsOf 3) (List.drop 2 [c0, c1, c2])) = some y2 := hel 2 _ rfl
    rw [cellsIJ] at k0 k1 k2
    obtain ⟨a0, e0, f0, _⟩ := DataW.trod_int Try.underlying3 k0
    obtain ⟨a1, e1, f1, _⟩ := DataW.trod_int Try.underlying3 k1
    obtain ⟨a2, e2, f2, _⟩ := DataW.trod_int Try.underlying3 k2
    simp at e0 e1 e2
    subst e0 e1 e2
    subst f0 f1 f2
    exact ⟨⟨a0, a1, a2⟩, rfl, by rw [hx]; rfl⟩

set_option maxRecDepth 100000 in
theorem openJ {fuel : Nat} {a0 : Option Addr} {len0 cap0 : Nat} {x : DataW H × List MemPlace} (hf : DataW.trod enc Try.prog w base spare held fuel 42 [.slice a0 len0 cap0] = some x) :
    ∃ es : List Jb, SlOf Jb.cells 3 w (.slice a0 len0 cap0) es ∧ es.length ≤ maxLen := by
  rcases Deep.open_slice Try.underlying42 hf with ⟨hcs, _⟩ | ⟨a, len, cap, m, n, D, Pl, hcs, _, hl, hm, hmm, _, hel⟩
  · simp at hcs
    obtain ⟨rfl, rfl, rfl⟩ := hcs
    exact ⟨[], ⟨none, 0, rfl, Or.inl rfl⟩, Nat.zero_le _⟩
  · simp at hcs
    obtain ⟨rfl, rfl, rfl⟩ := hcs
    rw [cellsJ] at hel
    have hlm : len0 ≤ m := by rw [hmm]; split <;> omega
    have hE : ∀ i, i < len0 → ∃ e : Jb, ∀ j u, e.cells[j]? = some u → w.cell? ((a.add (i * 3)).add j) = some u := fun i hi => by
      obtain ⟨cs', h1, h2⟩ := hel i (by omega)
      obtain ⟨e, rfl, _⟩ := trodJ h2
      refine ⟨e, fun j u hj => ?_⟩
      have hlt : j < 3 := by
        have := (List.getElem?_eq_some_iff.1 hj).1
        simpa [Jb.cells] using this
      exact ((World.cells?_some h1).2.2 j hlt).trans hj
    obtain ⟨E, hE⟩ := @Deep.choose_lt Jb ⟨⟨0, 0, 0⟩⟩ len0 _ hE
    have hlen : ((List.range len0).map E).length = len0 := by simp
    refine ⟨(List.range len0).map E, ⟨some a, cap0, by rw [hlen], ?_⟩, by rw [hlen]; omega⟩
    rw [hlen]
    by_cases hz : len0 = 0
    · exact Or.inl hz
    · right
      obtain ⟨b, off, spot⟩ := a
      have hspot : spot = none := by
        have := World.cell?_spot (hE 0 (by omega) 0 _ rfl)
        simpa [Addr.add] using this
      subst hspot
      refine ⟨b, off, rfl, fun j e hj i u hi => ?_⟩
      have hjl : j < len0 := by
        have := (List.getElem?_eq_some_iff.1 hj).1
        rwa [hlen] at this
      have he : E j = e := by simpa [hjl] using hj
      have := hE j hjl i u (by rw [he]; exact hi)
      rw [Deep.add_add, Lib.add_plain] at this
      rw [Nat.add_assoc]
      exact this
end

end Go.Proofs.Ytbokdcdnandgbae
