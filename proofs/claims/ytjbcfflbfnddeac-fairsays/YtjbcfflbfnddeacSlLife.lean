/- Slices of lives in memory: equal ones, appended ones. -/
import Derived.Test.YtjbcfflbfnddeacFairB
import Derived.Test.YtjbcfflbfnddeacSlJob
namespace Go.Proofs.Ytjbcfflbfnddeac
open Go.ChangeShapes Go.WideShapes Go.ChangeAt Go.RowKit
open scoped Classical

def Lf.cells (x : Lf) : List Value := [.int .i64 x.j, .int .i64 x.e, .int .i64 x.f, .int .i64 x.r, .bool x.o]
theorem Lf.five (x : Lf) : x.cells.length = 5 := rfl
abbrev LifeSl (w : World) (v : Value) (ls : List Lf) : Prop := SlOf Lf.cells 5 w v ls
abbrev valL (a b c d : Int) (o : Bool) : Value := .agg #[.int .i64 a, .int .i64 b, .int .i64 c, .int .i64 d, .bool o]
abbrev boxL (x : Lf) : Obj := .cells #[.int .i64 x.j, .int .i64 x.e, .int .i64 x.f, .int .i64 x.r, .bool x.o] 30
abbrev Lf.val (x : Lf) : Value := valL x.j x.e x.f x.r x.o

theorem neqL (a b c d : Int) (o : Bool) (a' b' c' d' : Int) (o' : Bool) (w : World) :
    (binOp .neq 30 (valL a b c d o) (valL a' b' c' d' o')).run Try.prog w = .ok (.bool (!decide (a = a' ∧ b = b' ∧ c = c' ∧ d = d' ∧ o = o'))) w := by
  have u3 := Try.underlying3
  have a3 := Try.isAgg3
  have z3 := Try.sizeOf3
  have u4 := Try.underlying4
  have a4 := Try.isAgg4
  have z4 := Try.sizeOf4
  have hS : Try.prog.underlying 30 = some (.struct (Try.prog.fieldsOf 30)) := by kernel_rfl
  have hp : Try.prog.stoodInHeld 30 = false := by kernel_rfl
  rw [run_neq_struct, show (10000 : Nat) = 9999 + 1 from rfl, run_equalIn_agg w 9999 30 _ _ hS hp]
  simp only [Program.fieldsOf, Try.underlying30]
  go_simp
  by_cases h1 : a = a' <;> by_cases h2 : b = b' <;> by_cases h3 : c = c' <;> by_cases h4 : d = d' <;> cases o <;> cases o' <;> simp [h1, h2, h3, h4]

set_option maxHeartbeats 1000000 in
theorem eq_lenL (a1 a2 : Option Addr) (n m c d : Nat) (w : World) (h : ((n : Int) != (m : Int)) = true) :
    Calls Try.prog 9 #[.slice a1 n c, .slice a2 m d] w fun e w' => e = .returned (.bool false) ∧ w' = w := by
  go_enter Try.func9, Try.ntmps9
  go_wp2
  go_ret
  exact ⟨rfl, rfl⟩

set_option maxHeartbeats 2000000 in
theorem eq_someL (a1 a2 : Option Addr) (c d n : Nat) (es fs : List Lf) (w : World) (hn : n ≤ 9223372036854775807) (h1 : es.length = n) (h2 : fs.length = n) (hE : SlOf Lf.cells 5 w (.slice a1 n c) es) (hF : SlOf Lf.cells 5 w (.slice a2 n d) fs) :
    Calls Try.prog 9 #[.slice a1 n c, .slice a2 n d] w fun r w' => ∃ bb, r = .returned (.bool bb) ∧ (bb = true ↔ es = fs) ∧ ∃ q, w' = w.drewN q := by
  have H1 : Hid (es.length = n) := h1
  have H2 : Hid (fs.length = n) := h2
  have HE : Hid (SlOf Lf.cells 5 w (.slice a1 n c) es) := hE
  have HF : Hid (SlOf Lf.cells 5 w (.slice a2 n d) fs) := hF
  clear h1 h2 hE hF
  go_enter Try.func9, Try.ntmps9
  go_wp2
  go_loopg [13] n (fun g s13 wr => ∃ k q : Nat, k ≤ n ∧ n - k ≤ g ∧ s13 = .int .i64 k ∧ wr = w.drewN q ∧ Hid (es.take k = fs.take k))
  case atStart => exact ⟨0, 0, Nat.zero_le _, by omega, rfl, rfl, rfl⟩
  case round =>
    obtain ⟨k, q, hk, hg, rfl, rfl, heq⟩ := hrel
    by_cases hlt : k < n
    · obtain ⟨e, he⟩ : ∃ e, es[k]? = some e := ⟨es[k]'(by have := H1.out; omega), List.getElem?_eq_getElem _⟩
      obtain ⟨f, hf⟩ : ∃ f, fs[k]? = some f := ⟨fs[k]'(by have := H2.out; omega), List.getElem?_eq_getElem _⟩
      obtain ⟨b1, o1, rfl, hE⟩ := HE.out.at (by omega)
      obtain ⟨b2, o2, rfl, hF⟩ := HF.out.at (by omega)
      have c0 : w.cell? ⟨b1, o1 + k * 5, none⟩ = some (.int .i64 e.j) := hE k e he 0 _ rfl
      have c1 : w.cell? ⟨b1, o1 + k * 5 + 1, none⟩ = some (.int .i64 e.e) := hE k e he 1 _ rfl
      have c2 : w.cell? ⟨b1, o1 + k * 5 + 2, none⟩ = some (.int .i64 e.f) := hE k e he 2 _ rfl
      have c3 : w.cell? ⟨b1, o1 + k * 5 + 3, none⟩ = some (.int .i64 e.r) := hE k e he 3 _ rfl
      have c4 : w.cell? ⟨b1, o1 + k * 5 + 4, none⟩ = some (.bool e.o) := hE k e he 4 _ rfl
      have d0 : w.cell? ⟨b2, o2 + k * 5, none⟩ = some (.int .i64 f.j) := hF k f hf 0 _ rfl
      have d1 : w.cell? ⟨b2, o2 + k * 5 + 1, none⟩ = some (.int .i64 f.e) := hF k f hf 1 _ rfl
      have d2 : w.cell? ⟨b2, o2 + k * 5 + 2, none⟩ = some (.int .i64 f.f) := hF k f hf 2 _ rfl
      have d3 : w.cell? ⟨b2, o2 + k * 5 + 3, none⟩ = some (.int .i64 f.r) := hF k f hf 3 _ rfl
      have d4 : w.cell? ⟨b2, o2 + k * 5 + 4, none⟩ = some (.bool f.o) := hF k f hf 4 _ rfl
      have hne := fun W => neqL e.j e.e e.f e.r e.o f.j f.e f.f f.r f.o W
      by_cases hef : e = f
      · rw [decide_eq_true (by rw [hef]; exact ⟨rfl, rfl, rfl, rfl, rfl⟩)] at hne
        have hnext : Hid (es.take (k + 1) = fs.take (k + 1)) := by rw [Hid, List.take_add_one, List.take_add_one, he, hf, heq.out, hef]
        clear hef he hf heq hE hF HE HF
        go_wp2_with fail
        go_quiet (fail)
        go_wp2
        go_roundg (n - (k + 1))
        case measure => omega
        case rel => exact ⟨k + 1, _, by omega, by omega, by go_num, rfl, hnext⟩
      · rw [decide_eq_false (fun h => hef (by cases e; cases f; simp_all))] at hne
        have hdiff : Hid (¬ es = fs) := fun e' => by
          rw [e'] at he
          exact hef (Option.some.inj (he.symm.trans hf))
        clear hef he hf heq hE hF HE HF
        go_wp2_with fail
        go_quiet (fail)
        go_wp2
        go_ret
        exact ⟨false, rfl, ⟨fun h => (by cases h), fun h => absurd h hdiff.out⟩, _, World.drewN_drewN _ _ _⟩
    · have hkn : k = n := by omega
      subst hkn
      have hsame : Hid (es = fs) := by
        have h := heq.out
        rw [List.take_of_length_le (by have := H1.out; omega), List.take_of_length_le (by have := H2.out; omega)] at h
        exact h
      clear heq HE HF
      go_wp2
      go_ret
      exact ⟨true, rfl, ⟨fun _ => hsame.out, fun _ => rfl⟩, q, rfl⟩

/-- slices.Equal, at every two slices. -/
theorem equalL (v1 v2 : Value) (es fs : List Lf) (w : World) (h1 : SlOf Lf.cells 5 w v1 es) (h2 : SlOf Lf.cells 5 w v2 fs) (hn1 : es.length ≤ 9223372036854775807) :
    Calls Try.prog 9 #[v1, v2] w fun r w' => r = .returned (.bool (decide (es = fs))) ∧ Below w.heap.size w w' := by
  have h1' := h1
  have h2' := h2
  obtain ⟨a1, c1, rfl, _⟩ := h1
  obtain ⟨a2, c2, rfl, _⟩ := h2
  by_cases hl : es.length = fs.length
  · rw [← hl] at h2' ⊢
    refine (eq_someL a1 a2 c1 c2 es.length es fs w hn1 rfl hl.symm h1' h2').mono ?_
    rintro r w' ⟨bb, rfl, hbb, q, rfl⟩
    have hd : decide (es = fs) = bb := by cases bb with | true => exact decide_eq_true (hbb.1 rfl) | false => exact decide_eq_false (fun h => by have := hbb.2 h; cases this)
    exact ⟨by rw [hd], below_drewN (Below.refl _ _) _⟩
  · rw [decide_eq_false (fun h => hl (congrArg List.length h))]
    exact (eq_lenL a1 a2 _ _ c1 c2 w (by rw [bne_iff_ne]; omega)).mono fun r w' ⟨hr, hw⟩ => ⟨hr, by rw [hw]; exact Below.refl _ _⟩

theorem infoL : (Try.prog.info? 30).map (fun i => (i.zero, i.size, i.bytes)) = some (some (valL 0 0 0 0 false), 5, 40) := by kernel_rfl

theorem oneL (es : List Lf) : ∀ u ∈ es.flatMap Lf.cells, u.oneCell' = true := fun u hu => by
  obtain ⟨e, _, he⟩ := List.mem_flatMap.1 hu
  simp only [Lf.cells, List.mem_cons, List.not_mem_nil, or_false] at he
  rcases he with rfl | rfl | rfl | rfl | rfl <;> rfl

/-- A slice appended to a row of the call's own. -/
theorem appendL {w : World} {ops : Array Oper} {rest : List Oper} {o : Oper} {a : Act} {Q : Exit → Act → World → Prop} (hgd : o.guard = none) (s x : Operand)
    (ho : o.op = .call { callee := .builtin .append, args := #[s, x], argTypes := #[23, 23] })
    (base : Nat) (v u : Value) (n : Nat) (xs : List Value) (hs : a.eval s = v) (hown : w.ownsRow base 30 5 v n xs)
    (es : List Lf) (hx : a.eval x = u) (hes : SlOf Lf.cells 5 w u es) (hlen : n + es.length ≤ 1000000) (hbase : base ≤ w.heap.size)
    (h : ∀ v' w', w'.ownsRow base 30 5 v' (n + es.length) (xs ++ es.flatMap Lf.cells) → w.grownBy w' v.ownBlock → wpList Try.prog ops Q rest (a.put o.dst v') w') : wpList Try.prog ops Q (o :: rest) a w := by
  obtain ⟨i0, hi, hz0, hz1, hz2⟩ := info_parts infoL
  obtain ⟨ao, c, rfl, hcase⟩ := hes
  by_cases hz : es.length = 0
  · obtain rfl : es = [] := List.length_eq_zero_iff.1 hz
    refine Lib.wpList_append_run w hgd s x _ _ ho v _ hs hx v w ?_ (h v w (by simpa using hown) ⟨rfl, rfl, rfl, Nat.le_refl _, fun _ _ _ => rfl⟩)
    have hsrc : Src Try.prog i0.size 23 (.slice ao 0 c) 0 [] w := by
      cases ao with
      | none => exact Src.ofNil w Try.underlying23 c
      | some ad => exact Src.ofSlice w Try.underlying23 ad 0 c [] (by simp) (by simp) (by simp)
    rcases hown.2 with ⟨rfl, _⟩ | ⟨g, cap, cur, rfl, _, _, hle, _⟩
    · exact run_append_nothing w _ _ _ _ i0 Try.underlying23 hi none 0 0 (Nat.le_refl _) _ hsrc
    · exact run_append_nothing w _ _ _ _ i0 Try.underlying23 hi _ n cap hle _ hsrc
  · rcases hcase with h0 | ⟨b, off, rfl, hE⟩
    · exact absurd h0 hz
    · exact wpList_append_own w hgd s x _ ho base _ i0 (valL 0 0 0 0 false) 5 40 Try.underlying23 hi hz0 hz1 hz2 rfl (by decide) v n xs hs hown ⟨b, off, none⟩ es.length c (es.flatMap Lf.cells) hx (row_len Lf.five es)
        (fun j u hj => by rw [Lib.add_plain]; exact rows_flat Lf.five es off hE j u hj) (oneL es) (by unfold maxLen; omega) (by omega) hbase fun v' w' h1 h2 _ => h v' w' h1 h2

end Go.Proofs.Ytjbcfflbfnddeac
