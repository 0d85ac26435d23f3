/- Slices of records in memory: equal ones, appended ones, two as one. -/
import Derived.Test.YtnmapehbcccbhadDoorGen
import Derived.Test.YtnmapehbcccbhadDoorNoteB
import Derived.Deep.QuietTactic
import Derived.BigQuiet
import Derived.Lib.AppendZerosOnto
import Derived.Deep.Upon
import Derived.Laws.OwnMore
import Derived.Lib.ItoaMem
namespace Go.Proofs.YtnmapehbcccbhadDoor
open Go.ChangeShapes Go.WideShapes Go.ChangeAt Go.RowKit
open scoped Classical

/-- A record's cells. -/
def Rc.cells (r : Rc) : List Value := [.int .i64 r.k, .int .i64 r.a, .int .i64 r.p, .int .i64 r.e.k, .int .i64 r.e.j, .int .i64 r.e.v, .int .i64 r.e.t, .int .i64 r.e.c]
theorem Rc.eight (r : Rc) : r.cells.length = 8 := rfl
abbrev RecSl (w : World) (v : Value) (l : List Rc) : Prop := SlOf Rc.cells 8 w v l

set_option maxHeartbeats 1000000 in
theorem eq_lenC (a1 a2 : Option Addr) (n m c d : Nat) (w : World) (h : ((n : Int) != (m : Int)) = true) :
    Calls Tryd.prog 12 #[.slice a1 n c, .slice a2 m d] w fun e w' => e = .returned (.bool false) ∧ w' = w := by
  go_enter Tryd.func12, Tryd.ntmps12
  go_wp2
  go_ret
  exact ⟨rfl, rfl⟩

set_option maxHeartbeats 2000000 in
theorem eq_someC (a1 a2 : Option Addr) (c d n : Nat) (es fs : List Rc) (w : World) (hn : n ≤ 9223372036854775807) (h1 : es.length = n) (h2 : fs.length = n) (hE : SlOf Rc.cells 8 w (.slice a1 n c) es) (hF : SlOf Rc.cells 8 w (.slice a2 n d) fs) :
    Calls Tryd.prog 12 #[.slice a1 n c, .slice a2 n d] w fun r w' => ∃ bb, r = .returned (.bool bb) ∧ (bb = true ↔ es = fs) ∧ ∃ q, w' = w.drewN q := by
  have H1 : Hid (es.length = n) := h1
  have H2 : Hid (fs.length = n) := h2
  have HE : Hid (SlOf Rc.cells 8 w (.slice a1 n c) es) := hE
  have HF : Hid (SlOf Rc.cells 8 w (.slice a2 n d) fs) := hF
  clear h1 h2 hE hF
  go_enter Tryd.func12, Tryd.ntmps12
  go_wp2
  go_loopg [13] n (fun g s13 wr => ∃ k q : Nat, k ≤ n ∧ n - k ≤ g ∧ s13 = .int .i64 k ∧ wr = w.drewN q ∧ Hid (es.take k = fs.take k))
  case atStart => exact ⟨0, 0, Nat.zero_le _, by omega, rfl, rfl, rfl⟩
  case round =>
    obtain ⟨k, q, hk, hg, rfl, rfl, heq⟩ := hrel
    by_cases hlt : k < n
    · obtain ⟨e, he⟩ : ∃ e, es[k]? = some e := ⟨es[k]'(by have := H1.out; omega), List.getElem?_eq_getElem _⟩
      obtain ⟨f, hf⟩ : ∃ f, fs[k]? = some f := ⟨fs[k]'(by have := H2.out; omega), List.getElem?_eq_getElem _⟩
      obtain ⟨b1, o1, rfl, hE⟩ := HE.out.at (by omega)
      obtain ⟨b2, o2, rfl, hF⟩ := HF.out.at (by omega)
      have c0 : w.cell? ⟨b1, o1 + k * 8, none⟩ = some (.int .i64 e.k) := hE k e he 0 _ rfl
      have c1 : w.cell? ⟨b1, o1 + k * 8 + 1, none⟩ = some (.int .i64 e.a) := hE k e he 1 _ rfl
      have c2 : w.cell? ⟨b1, o1 + k * 8 + 2, none⟩ = some (.int .i64 e.p) := hE k e he 2 _ rfl
      have c3 : w.cell? ⟨b1, o1 + k * 8 + 3, none⟩ = some (.int .i64 e.e.k) := hE k e he 3 _ rfl
      have c4 : w.cell? ⟨b1, o1 + k * 8 + 4, none⟩ = some (.int .i64 e.e.j) := hE k e he 4 _ rfl
      have c5 : w.cell? ⟨b1, o1 + k * 8 + 5, none⟩ = some (.int .i64 e.e.v) := hE k e he 5 _ rfl
      have c6 : w.cell? ⟨b1, o1 + k * 8 + 6, none⟩ = some (.int .i64 e.e.t) := hE k e he 6 _ rfl
      have c7 : w.cell? ⟨b1, o1 + k * 8 + 7, none⟩ = some (.int .i64 e.e.c) := hE k e he 7 _ rfl
      have d0 : w.cell? ⟨b2, o2 + k * 8, none⟩ = some (.int .i64 f.k) := hF k f hf 0 _ rfl
      have d1 : w.cell? ⟨b2, o2 + k * 8 + 1, none⟩ = some (.int .i64 f.a) := hF k f hf 1 _ rfl
      have d2 : w.cell? ⟨b2, o2 + k * 8 + 2, none⟩ = some (.int .i64 f.p) := hF k f hf 2 _ rfl
      have d3 : w.cell? ⟨b2, o2 + k * 8 + 3, none⟩ = some (.int .i64 f.e.k) := hF k f hf 3 _ rfl
      have d4 : w.cell? ⟨b2, o2 + k * 8 + 4, none⟩ = some (.int .i64 f.e.j) := hF k f hf 4 _ rfl
      have d5 : w.cell? ⟨b2, o2 + k * 8 + 5, none⟩ = some (.int .i64 f.e.v) := hF k f hf 5 _ rfl
      have d6 : w.cell? ⟨b2, o2 + k * 8 + 6, none⟩ = some (.int .i64 f.e.t) := hF k f hf 6 _ rfl
      have d7 : w.cell? ⟨b2, o2 + k * 8 + 7, none⟩ = some (.int .i64 f.e.c) := hF k f hf 7 _ rfl
      have hne := fun W => neqR e f W
      by_cases hef : e = f
      · rw [show e.same f = true from same_eq.2 hef] at hne
        have hnext : Hid (es.take (k + 1) = fs.take (k + 1)) := by rw [Hid, List.take_add_one, List.take_add_one, he, hf, heq.out, hef]
        clear hef he hf heq hE hF HE HF
        go_wp2_with fail
        go_quiet (fail)
        go_wp2
        go_roundg (n - (k + 1))
        case measure => omega
        case rel => exact ⟨k + 1, _, by omega, by omega, by go_num, rfl, hnext⟩
      · rw [show e.same f = false by rw [← Bool.not_eq_true]; exact fun h => hef (same_eq.1 h)] at hne
        have hdiff : Hid (¬ es = fs) := fun e' => by
          rw [e'] at he
          exact hef (Option.some.inj (he.symm.trans hf))
        clear hef he hf heq hE hF HE HF
        go_wp2_with fail
        go_quiet (fail)
        go_wp2
        go_ret
        exact ⟨false, rfl, ⟨fun h => (by cases h), fun h => absurd h hdiff.out⟩, _, World.drewN_drewN _ _ _⟩
    · have hkn : k = n := by omega
      subst hkn
      have hsame : Hid (es = fs) := by
        have h := heq.out
        rw [List.take_of_length_le (by have := H1.out; omega), List.take_of_length_le (by have := H2.out; omega)] at h
        exact h
      clear heq HE HF
      go_wp2
      go_ret
      exact ⟨true, rfl, ⟨fun _ => hsame.out, fun _ => rfl⟩, q, rfl⟩

/-- slices.Equal, at every two slices. -/
theorem equalC (v1 v2 : Value) (es fs : List Rc) (w : World) (h1 : SlOf Rc.cells 8 w v1 es) (h2 : SlOf Rc.cells 8 w v2 fs) (hn1 : es.length ≤ 9223372036854775807) :
    Calls Tryd.prog 12 #[v1, v2] w fun r w' => r = .returned (.bool (decide (es = fs))) ∧ Below w.heap.size w w' := by
  have h1' := h1
  have h2' := h2
  obtain ⟨a1, c1, rfl, _⟩ := h1
  obtain ⟨a2, c2, rfl, _⟩ := h2
  by_cases hl : es.length = fs.length
  · rw [← hl] at h2' ⊢
    refine (eq_someC a1 a2 c1 c2 es.length es fs w hn1 rfl hl.symm h1' h2').mono ?_
    rintro r w' ⟨bb, rfl, hbb, q, rfl⟩
    have hd : decide (es = fs) = bb := by cases bb with | true => exact decide_eq_true (hbb.1 rfl) | false => exact decide_eq_false (fun h => by have := hbb.2 h; cases this)
    exact ⟨by rw [hd], below_drewN (Below.refl _ _) _⟩
  · rw [decide_eq_false (fun h => hl (congrArg List.length h))]
    exact (eq_lenC a1 a2 _ _ c1 c2 w (by rw [bne_iff_ne]; omega)).mono fun r w' ⟨hr, hw⟩ => ⟨hr, by rw [hw]; exact Below.refl _ _⟩

theorem infoC : (Tryd.prog.info? 30).map (fun i => (i.zero, i.size, i.bytes)) = some (some (Rc.zero.val), 8, 64) := by kernel_rfl

theorem oneC (es : List Rc) : ∀ u ∈ es.flatMap Rc.cells, u.oneCell' = true := fun u hu => by
  obtain ⟨e, _, he⟩ := List.mem_flatMap.1 hu
  simp only [Rc.cells, List.mem_cons, List.not_mem_nil, or_false] at he
  rcases he with rfl | rfl | rfl | rfl | rfl | rfl | rfl | rfl <;> rfl

/-- A slice appended to a row of the call's own. -/
theorem appendC {w : World} {ops : Array Oper} {rest : List Oper} {o : Oper} {a : Act} {Q : Exit → Act → World → Prop} (hgd : o.guard = none) (s x : Operand)
    (ho : o.op = .call { callee := .builtin .append, args := #[s, x], argTypes := #[22, 22] })
    (base : Nat) (v u : Value) (n : Nat) (xs : List Value) (hs : a.eval s = v) (hown : w.ownsRow base 30 8 v n xs)
    (es : List Rc) (hx : a.eval x = u) (hes : SlOf Rc.cells 8 w u es) (hlen : n + es.length ≤ 1000000) (hbase : base ≤ w.heap.size)
    (h : ∀ v' w', w'.ownsRow base 30 8 v' (n + es.length) (xs ++ es.flatMap Rc.cells) → w.grownBy w' v.ownBlock → wpList Tryd.prog ops Q rest (a.put o.dst v') w') : wpList Tryd.prog ops Q (o :: rest) a w := by
  obtain ⟨i0, hi, hz0, hz1, hz2⟩ := info_parts infoC
  obtain ⟨ao, c, rfl, hcase⟩ := hes
  by_cases hz : es.length = 0
  · obtain rfl : es = [] := List.length_eq_zero_iff.1 hz
    refine Lib.wpList_append_run w hgd s x _ _ ho v _ hs hx v w ?_ (h v w (by simpa using hown) ⟨rfl, rfl, rfl, Nat.le_refl _, fun _ _ _ => rfl⟩)
    have hsrc : Src Tryd.prog i0.size 22 (.slice ao 0 c) 0 [] w := by
      cases ao with
      | none => exact Src.ofNil w Tryd.underlying22 c
      | some ad => exact Src.ofSlice w Tryd.underlying22 ad 0 c [] (by simp) (by simp) (by simp)
    rcases hown.2 with ⟨rfl, _⟩ | ⟨g, cap, cur, rfl, _, _, hle, _⟩
    · exact run_append_nothing w _ _ _ _ i0 Tryd.underlying22 hi none 0 0 (Nat.le_refl _) _ hsrc
    · exact run_append_nothing w _ _ _ _ i0 Tryd.underlying22 hi _ n cap hle _ hsrc
  · rcases hcase with h0 | ⟨b, off, rfl, hE⟩
    · exact absurd h0 hz
    · exact wpList_append_own w hgd s x _ ho base _ i0 (Rc.zero.val) 8 64 Tryd.underlying22 hi hz0 hz1 hz2 rfl (by decide) v n xs hs hown ⟨b, off, none⟩ es.length c (es.flatMap Rc.cells) hx (row_len Rc.eight es)
        (fun j u hj => by rw [Lib.add_plain]; exact rows_flat Rc.eight es off hE j u hj) (oneC es) (by unfold maxLen; omega) (by omega) hbase fun v' w' h1 h2 _ => h v' w' h1 h2

set_option maxHeartbeats 1000000 in
theorem grow_noneC (w : World) : Calls Tryd.prog 26 #[.slice none 0 0, .int .i64 0] w fun e w' => e = .returned (.slice none 0 0) ∧ w' = w := by
  go_enter Tryd.func26, Tryd.ntmps26
  go_wp2
  go_ret
  exact ⟨rfl, rfl⟩

set_option maxHeartbeats 2000000 in
set_option maxRecDepth 100000 in
theorem grow_someC (n : Nat) (h0 : 0 < n) (h1 : n ≤ 1000000) (w : World) : Calls Tryd.prog 26 #[.slice none 0 0, .int .i64 n] w fun e w' =>
    ∃ v, e = .returned v ∧ w'.ownsRow w.heap.size 30 8 v 0 [] ∧ Below w.heap.size w w' := by
  obtain ⟨i0, hi, hz0, hz1, hz2⟩ := info_parts infoC
  have hrz : ∀ ty, (Builtin.append_ #[22, 3] ty #[.slice none 0 0, .int .i64 n]).run Tryd.prog w = _ := fun ty =>
    Lib.run_append_grow_zeros w 22 3 ty 30 i0 (Rc.zero.val) .i64 .i64 Tryd.underlying22 Tryd.underlying3 hi hz0 none 0 0 [] (run_firstCells_none w.drew i0.size 0 0 0) n h0 (by omega) (by omega) (by omega) (by rw [hz2]; omega)
      (by rw [hz2]; exact growslice_fits (by omega) (by omega))
  rw [Nat.zero_add] at hrz
  obtain ⟨G, hG⟩ : ∃ G, G = grownCap w n 0 30 := ⟨_, rfl⟩
  have hGn : n ≤ G := hG ▸ grownCap_ge w _ _ _
  have hGm : G ≤ maxLen := hG ▸ grownCap_le_maxLen w n 0 _ (by unfold maxLen; omega)
  rw [← hG] at hrz
  have hG63 : G ≤ 9223372036854775807 := by unfold maxLen at hGm; omega
  have hcur : (([] : List Value).toArray ++ Builtin.zeroCells (Rc.zero.val).cells n ++ Builtin.zeroCells (Rc.zero.val).cells (G - n)).size = G * 8 := by
    simp only [Array.size_append, size_zeroCells]
    show 0 + n * 8 + (G - n) * 8 = G * 8
    omega
  generalize ([] : List Value).toArray ++ Builtin.zeroCells (Rc.zero.val).cells n ++ Builtin.zeroCells (Rc.zero.val).cells (G - n) = cur at hrz hcur
  have hpos : ((n : Int) > 0) := by omega
  clear hG hi hz0 hz1 hz2
  go_enter Tryd.func26, Tryd.ntmps26
  go_wp2_with (at_builtin; refine Lib.wpList_append_run _ rfl _ _ _ _ rfl _ _ rfl rfl _ _ (hrz _) ?_)
  all_goals
    go_ret
    exact ⟨_, rfl, World.ownsRow_made _ _ _ (Nat.le_refl _) hGm hcur, grew (Below.refl _ _).drew _⟩

theorem grow_anyC (n : Nat) (h1 : n ≤ 1000000) (w : World) : Calls Tryd.prog 26 #[.slice none 0 0, .int .i64 n] w fun e w' =>
    ∃ v, e = .returned v ∧ w'.ownsRow w.heap.size 30 8 v 0 [] ∧ Below w.heap.size w w' := by
  by_cases h0 : n = 0
  · subst h0
    exact (grow_noneC w).mono fun e w' ⟨he, hw⟩ => ⟨_, he, World.ownsRow_nil _ _ _ _, by rw [hw]; exact Below.refl _ _⟩
  · exact grow_someC n (by omega) h1 w

set_option maxHeartbeats 2000000 in
set_option maxRecDepth 100000 in
theorem concat_atC (b n1 n2 c1 c2 : Nat) (a1 a2 : Option Addr) (es fs : List Rc) (w : World) (hb : w.heap[b]? = some (.cells #[.slice a1 n1 c1, .slice a2 n2 c2] 22)) (h1 : SlOf Rc.cells 8 w (.slice a1 n1 c1) es) (h2 : SlOf Rc.cells 8 w (.slice a2 n2 c2) fs) (hl1 : es.length = n1) (hl2 : fs.length = n2) (hlen : n1 + n2 ≤ 1000000) :
    Calls Tryd.prog 13 #[.slice (some ⟨b, 0, none⟩) 2 2] w fun e w' => ∃ v, e = .returned v ∧ SlOf Rc.cells 8 w' v (es ++ fs) ∧ Below w.heap.size w w' ∧ (∃ a n c, v = .slice a n c ∧ n ≤ c) := by
  have H1 : Hid (SlOf Rc.cells 8 w (.slice a1 n1 c1) es) := h1
  have H2 : Hid (SlOf Rc.cells 8 w (.slice a2 n2 c2) fs) := h2
  have HB : Hid (w.heap[b]? = some (.cells #[.slice a1 n1 c1, .slice a2 n2 c2] 22)) := hb
  have L1 : Hid (es.length = n1) := hl1
  have L2 : Hid (fs.length = n2) := hl2
  have k0 : ∀ i, w.cell? ⟨b, i, none⟩ = #[Value.slice a1 n1 c1, .slice a2 n2 c2][i]? := fun i => Joins.cell_of_block hb i
  clear hb h1 h2 hl1 hl2
  go_enter Tryd.func13, Tryd.ntmps13
  go_wp2
  go_loopw [3, 11] (fun z i wr => ∃ q : Nat, wr = w.drewN q ∧ ((i = .int .i64 0 ∧ z = .int .i64 0) ∨ (i = .int .i64 1 ∧ z = .int .i64 n1) ∨ (i = .int .i64 2 ∧ z = .int .i64 ((n1 + n2 : Nat) : Int)))) (fun _ i _ => 2 - (intOf i).toNat)
  case atStart => exact ⟨0, rfl, Or.inl ⟨rfl, rfl⟩⟩
  case round =>
    obtain ⟨q, rfl, ⟨rfl, rfl⟩ | ⟨rfl, rfl⟩ | ⟨rfl, rfl⟩⟩ := hrel
    · go_wp2
      go_roundw
      case rel => exact ⟨_, rfl, Or.inr (Or.inl ⟨rfl, by go_num⟩)⟩
      case measure => simp [intOf]
    · go_wp2
      go_roundw
      case rel => exact ⟨_, rfl, Or.inr (Or.inr ⟨rfl, by go_num⟩)⟩
      case measure => simp [intOf]
    · clear k0
      go_wp2_with fail
      refine (grow_anyC (n1 + n2) hlen _).mono ?_
      rintro r w1 ⟨v0, rfl, hO, hB0⟩
      have hB1 : Below w.heap.size w w1 := (below_drewN (Below.refl _ _) _).trans (hB0.mono (by simp))
      have hO1 : w1.ownsRow w.heap.size 30 8 v0 0 [] := by simpa using hO
      clear hO hB0
      go_wp2
      go_loopw [6, 27] (fun v i wr => ∃ gs : List Rc, wr.ownsRow w.heap.size 30 8 v gs.length (gs.flatMap Rc.cells) ∧ Below w.heap.size w wr ∧ ((i = .int .i64 0 ∧ gs = []) ∨ (i = .int .i64 1 ∧ gs = es) ∨ (i = .int .i64 2 ∧ gs = es ++ fs))) (fun _ i _ => 2 - (intOf i).toNat)
      case atStart => exact ⟨[], hO1, hB1, Or.inl ⟨rfl, rfl⟩⟩
      case round =>
        obtain ⟨gs, hO, hB, ⟨rfl, rfl⟩ | ⟨rfl, rfl⟩ | ⟨rfl, rfl⟩⟩ := hrel
        · have hbr := heap_below HB.out hB (heap_lt HB.out)
          have k1 : ∀ i, wr.cell? ⟨b, i, none⟩ = #[Value.slice a1 n1 c1, .slice a2 n2 c2][i]? := fun i => Joins.cell_of_block hbr i
          go_wp2_with (at_builtin; refine appendC rfl _ _ rfl w.heap.size _ _ _ _ rfl (hO) es rfl (H1.out.later hB) (by have := L1.out; simp; omega) hB.size ?_; intro v' w' hO' hg')
          have hB' : Below w.heap.size w w' := hB.grown hg' hB.size (fun q hq => by have := (hO.lt q hq).1; omega)
          go_roundw
          case rel => exact ⟨es, by simpa using hO', hB', Or.inr (Or.inl ⟨rfl, rfl⟩)⟩
          case measure => simp [intOf]
        · have hbr := heap_below HB.out hB (heap_lt HB.out)
          have k1 : ∀ i, wr.cell? ⟨b, i, none⟩ = #[Value.slice a1 n1 c1, .slice a2 n2 c2][i]? := fun i => Joins.cell_of_block hbr i
          go_wp2_with (at_builtin; refine appendC rfl _ _ rfl w.heap.size _ _ _ _ rfl (hO) fs rfl (H2.out.later hB) (by have := L1.out; have := L2.out; omega) hB.size ?_; intro v' w' hO' hg')
          have hB' : Below w.heap.size w w' := hB.grown hg' hB.size (fun q hq => by have := (hO.lt q hq).1; omega)
          go_roundw
          case rel => exact ⟨_, by rw [List.length_append, List.flatMap_append]; exact hO', hB', Or.inr (Or.inr ⟨rfl, rfl⟩)⟩
          case measure => simp [intOf]
        · go_wp2
          go_ret
          refine ⟨_, rfl, slOf_of_owns Rc.eight hO, hB, ?_⟩
          rcases hO.2 with ⟨hv, _⟩ | ⟨g, cap, cur, hv, _, _, hle, _⟩
          · exact ⟨none, 0, 0, hv, Nat.le_refl _⟩
          · exact ⟨_, _, cap, hv, hle⟩

/-- slices.Concat of two. -/
theorem concatC (b : Nat) (v1 v2 : Value) (es fs : List Rc) (w : World) (hb : w.heap[b]? = some (.cells #[v1, v2] 22)) (h1 : SlOf Rc.cells 8 w v1 es) (h2 : SlOf Rc.cells 8 w v2 fs) (hlen : es.length + fs.length ≤ 1000000) :
    Calls Tryd.prog 13 #[.slice (some ⟨b, 0, none⟩) 2 2] w fun e w' => ∃ v, e = .returned v ∧ SlOf Rc.cells 8 w' v (es ++ fs) ∧ Below w.heap.size w w' ∧ (∃ a n c, v = .slice a n c ∧ n ≤ c) := by
  have h1' := h1
  have h2' := h2
  obtain ⟨a1, c1, rfl, _⟩ := h1
  obtain ⟨a2, c2, rfl, _⟩ := h2
  exact concat_atC b _ _ c1 c2 a1 a2 es fs w hb h1' h2' rfl rfl hlen

end Go.Proofs.YtnmapehbcccbhadDoor
