/- The walk of FairBook, given package fair's and package book's contracts. -/
import Derived.Test.YtjbcfflbfnddeacFairC
namespace Go.Proofs.Ytjbcfflbfnddeac
open Go.RowKit
open scoped Classical

/-- What the laws on lives ask of package book. -/
structure BookF : Prop where
  find : ∀ (v1 v2 : Value) (js : List Jb) (rs : List Rg) (id : Int) (W : World), JobSl W v1 js → RungSl W v2 rs → js.length ≤ most → rs.length ≤ most →
    Calls Try.prog 11 #[.agg #[v1, v2], .int .i64 id] W fun e w' => e = .returned (.int .i64 (jobAt js id)) ∧ Below W.heap.size W w'
  applyR : ∀ (v1 v2 : Value) (js : List Jb) (rs : List Rg) (x : En) (W : World), JobSl W v1 js → RungSl W v2 rs → js.length ≤ most → rs.length ≤ most →
    Calls Try.prog 12 #[.agg #[v1, v2], x.val] W fun e w' => ∃ u1 u2, e = .returned (.tuple #[.agg #[u1, u2], .int .i64 (app js rs x).2]) ∧ JobSl w' u1 (app js rs x).1.1 ∧ RungSl w' u2 (app js rs x).1.2 ∧ Below W.heap.size W w' ∧ Roomy u2
  replay : ∀ (v : Value) (es : List En) (W : World), EntSl W v es → es.length ≤ most → Answers 10 #[v] W (bookOf es)

theorem allR_take_le {ls : List Lf} (h : ∀ y, y ∈ ls → 0 ≤ y.r) (k : Nat) : 0 ≤ allR (ls.take k) ∧ allR (ls.take k) ≤ allR ls := by
  have pos : ∀ l : List Lf, (∀ y, y ∈ l → 0 ≤ y.r) → 0 ≤ allR l := fun l => by
    induction l with
    | nil => intro _; exact Int.le_refl _
    | cons x r ih =>
      intro hl
      have := ih (fun y hy => hl y (List.mem_cons_of_mem _ hy))
      have := hl x (by simp)
      rw [allR]
      omega
  have e : allR ls = allR (ls.take k) + allR (ls.drop k) := by rw [← allR_append, List.take_append_drop]
  have h1 := pos (ls.take k) (fun y hy => h y (List.mem_of_mem_take hy))
  have h2 := pos (ls.drop k) (fun y hy => h y (List.mem_of_mem_drop hy))
  omega

theorem liveN_le : ∀ (ls : List Lf), liveN ls ≤ ls.length
  | [] => Nat.le_refl _
  | x :: r => by
    have := liveN_le r
    rw [liveN, List.length_cons]
    split <;> omega

set_option maxHeartbeats 2000000 in
theorem fairBook_bad (hK : Lives) (hF : BookF) (v : Value) (es : List En) (w : World) (hv : EntSl w v es) (hn : es.length ≤ most) (hbad : (livesOf es).2 ≠ 0) :
    Calls Try.prog 4 #[v] w fun e w' => e = .returned (.bool true) ∧ Below w.heap.size w w' := by
  have h1 := hK v es w hv hn
  have h2 := fun W (hb : Below w.heap.size w W) => hF.replay v es W (hv.later hb) hn
  have hl := fun W => lived_any hK W
  have hb : ((livesOf es).2 != 0) = true := by rw [bne_iff_ne]; exact hbad
  have hs := (says_all es).1
  unfold Answers at h2
  rw [← hs] at h2
  clear hK hF hbad hs
  obtain ⟨a, c, rfl, _⟩ := hv
  generalize es.length = n at *
  generalize (livesOf es).2 = d at *
  generalize (livesOf es).1 = ls at *
  generalize (bookOf es).1.1 = js at *
  generalize (bookOf es).1.2 = rs at *
  go_enter Try.func4, Try.ntmps4
  go_wp2_with fail
  refine h1.mono ?_
  rintro e w1 ⟨u1, rfl, J1, hb1⟩
  have h2' := h2 w1 hb1
  clear h1 h2 J1
  go_wp2_with fail
  refine h2'.mono ?_
  rintro e w2 ⟨t1, t2, rfl, K2, R2, hb2⟩
  have hB2 := step_below hb1 hb2
  clear h2' hb1 hb2
  obtain ⟨a1, c1, a2, c2, rfl, rfl⟩ := bk_slices K2 R2
  generalize js.length = n1 at *
  generalize rs.length = n2 at *
  go_wp2_with fail
  have hB2' := grew hB2 (boxB (.slice a1 n1 c1) (.slice a2 n2 c2))
  refine (hl _).mono ?_
  rintro e w3 ⟨rfl, hb3⟩
  have hB3 := step_below hB2' hb3
  clear hB2 hB2' hb3 K2 R2
  go_wp2_with fail
  refine (hl _).mono ?_
  rintro e w4 ⟨rfl, hb4⟩
  have hB4 := step_below hB3 hb4
  clear hl hB3 hb4
  go_wp2
  go_ret
  exact ⟨by simp, hB4⟩

/-- A life that isn't over, in its book. -/
theorem says_at {js : List Jb} {rs : List Rg} {ls : List Lf} (h : Says js rs ls) {y : Lf} (hy : y ∈ ls) (ho : y.o = false) : ∃ k : Nat, jobAt js y.j = k ∧ js[k]? = some y.job ∧ 0 ≤ y.e * y.r ∧ y.f + y.e * y.r ≤ 100100 := by
  have hm : y.job ∈ js := (h.jobs y.job).2 ⟨y, hy, ho, rfl⟩
  have ht := tab_mem h.ok.srt y.job hm
  have ht' : tab js y.j = some y.job := ht
  have hg := Jb.good (h.ok.jobs y.job hm)
  have hnums := h.lok.nums y hy
  refine (jobAt_ways js y.j).elim (fun ⟨_, hn⟩ => ?_) (fun ⟨k, z, hk, hz, htz⟩ => ?_)
  · rw [ht'] at hn; cases hn
  · rw [ht'] at htz
    obtain rfl : y.job = z := Option.some.inj htz
    exact ⟨k, hk, hz, Int.mul_nonneg (by omega) hnums.2.2.2, hg.2.2.2⟩

set_option maxHeartbeats 4000000 in
set_option maxRecDepth 100000 in
theorem fairBook_ok (hK : Lives) (hF : BookF) (v : Value) (es : List En) (w : World) (hv : EntSl w v es) (hn : es.length ≤ most) (hok : (livesOf es).2 = 0) :
    Calls Try.prog 4 #[v] w fun e w' => e = .returned (.bool true) ∧ Below w.heap.size w w' := by
  have h1 := hK v es w hv hn
  have h2 := fun W (hb : Below w.heap.size w W) => hF.replay v es W (hv.later hb) hn
  have hl := fun W => lived_any hK W
  have hs := (says_all es).1
  have hS := (says_all es).2 hok
  have hlen := livesOf_len es
  unfold Answers at h2
  rw [← hs, hok] at h2
  rw [hok] at h1
  have HF := fun v1 v2 (id : Int) W g1 g2 => hF.find v1 v2 (bookOf es).1.1 (bookOf es).1.2 id W g1 g2 (by have := hS.ok.few; unfold most; omega) (by have := hS.ok.room; unfold most; omega)
  clear hK hF hs hok
  obtain ⟨a, c, rfl, _⟩ := hv
  generalize es.length = n at *
  generalize (livesOf es).1 = ls at *
  generalize (bookOf es).1.1 = js at *
  generalize (bookOf es).1.2 = rs at *
  have HSay : Hid (Says js rs ls) := hS
  have hr60 : (rs.length : Int) ≤ 60 := by have := hS.ok.room; omega
  have hj6 : js.length ≤ 6 := hS.ok.few
  clear hS
  go_enter Try.func4, Try.ntmps4
  go_wp2_with fail
  refine h1.mono ?_
  rintro e w1 ⟨u1, rfl, J1, hb1⟩
  have h2' := h2 w1 hb1
  clear h1 h2
  go_wp2_with fail
  refine h2'.mono ?_
  rintro e w2 ⟨t1, t2, rfl, K2, R2, hb2⟩
  have hB2 := step_below hb1 hb2
  have J2 := J1.later hb2
  clear h2' hb1 hb2 J1
  obtain ⟨a0, q0, rfl, _⟩ := id J2
  obtain ⟨a1, q1, a2, q2, rfl, rfl⟩ := bk_slices K2 R2
  obtain ⟨n0, hn0⟩ : ∃ n0, Hid (ls.length = n0) := ⟨_, rfl⟩
  obtain ⟨n1, hn1⟩ : ∃ n1, Hid (js.length = n1) := ⟨_, rfl⟩
  obtain ⟨n2, hn2⟩ : ∃ n2, Hid (rs.length = n2) := ⟨_, rfl⟩
  rw [hn0.out] at J2 hlen ⊢
  rw [hn1.out] at K2 hj6 ⊢
  rw [hn2.out] at R2 hr60 ⊢
  go_wp2_with fail
  have hB2' := grew hB2 (boxB (.slice a1 n1 q1) (.slice a2 n2 q2))
  have hg2 := grew (Below.refl w2.heap.size w2) (boxB (.slice a1 n1 q1) (.slice a2 n2 q2))
  refine (hl _).mono ?_
  rintro e w3 ⟨rfl, hb3⟩
  have hB3 := step_below hB2' hb3
  have J3 : Aside (LifeSl w3 (.slice a0 n0 q0) ls) := (J2.later hg2).later hb3
  have K3 : Aside (JobSl w3 (.slice a1 n1 q1) js) := (K2.later hg2).later hb3
  have R3 : Aside (RungSl w3 (.slice a2 n2 q2) rs) := (R2.later hg2).later hb3
  have y3 : w3.heap[w2.heap.size]? = some (boxB (.slice a1 n1 q1) (.slice a2 n2 q2)) := heap_below (heap_new _ _) hb3 (by rw [World.size_alloc]; omega)
  replace hB3 : Aside _ := hB3
  replace y3 : Aside _ := y3
  clear hB2 hB2' hb3 K2 R2 J2 hg2 hl
  generalize w2.heap.size = bb at *
  go_wp2
  go_loopw [7, 8, 38] (fun l m i wr => ∃ (k nv : Nat) (lv : Int), k ≤ n0 ∧ i = .int .i64 k ∧ l = .int .i64 lv ∧ m = .int .i64 nv ∧ 0 ≤ lv ∧ lv ≤ 60 ∧ nv ≤ k ∧ Aside (Below w3.heap.size w3 wr) ∧ Hid (allR (ls.take k) = lv ∧ liveN (ls.take k) = nv)) (fun _ _ i _ => n0 - (intOf i).toNat)
  case atStart => exact ⟨0, 0, 0, Nat.zero_le _, rfl, rfl, rfl, by omega, by omega, Nat.le_refl _, Below.refl _ _, ⟨rfl, rfl⟩⟩
  case round =>
    obtain ⟨k, nv, lv, hk, rfl, rfl, rfl, hl1, hl2, hnv, hB, hst⟩ := hrel
    have yr : wr.heap[bb]? = some (boxB (.slice a1 n1 q1) (.slice a2 n2 q2)) := heap_below y3.out hB.out (heap_lt y3.out)
    have zr : ∀ i, wr.cell? ⟨bb, i, none⟩ = #[Value.slice a1 n1 q1, .slice a2 n2 q2][i]? := fun i => Joins.cell_of_block yr i
    have hbl := heap_lt yr
    by_cases hlt : k < n0
    · obtain ⟨y, hy⟩ : ∃ y, ls[k]? = some y := ⟨ls[k]'(by have := hn0.out; omega), List.getElem?_eq_getElem _⟩
      have hym := List.mem_of_getElem? hy
      obtain ⟨b, off, rfl, hE0⟩ := J3.out.at (by omega)
      have hE := hE0.later hB.out
      have c0 : wr.cell? ⟨b, off + k * 5, none⟩ = some (.int .i64 y.j) := hE k y hy 0 _ rfl
      have c1 : wr.cell? ⟨b, off + k * 5 + 1, none⟩ = some (.int .i64 y.e) := hE k y hy 1 _ rfl
      have c2 : wr.cell? ⟨b, off + k * 5 + 2, none⟩ = some (.int .i64 y.f) := hE k y hy 2 _ rfl
      have c3 : wr.cell? ⟨b, off + k * 5 + 3, none⟩ = some (.int .i64 y.r) := hE k y hy 3 _ rfl
      have c4 : wr.cell? ⟨b, off + k * 5 + 4, none⟩ = some (.bool y.o) := hE k y hy 4 _ rfl
      have hnum := (HSay.out.lok.nums y hym)
      have hsum : allR (ls.take (k + 1)) = lv + y.r ∧ liveN (ls.take (k + 1)) = nv + (if y.o = true then 0 else 1) := by
        rw [List.take_add_one, hy, ← hst.out.1, ← hst.out.2, allR_append, liveN_append]
        simp [allR, liveN]
      have hle := (allR_take_le (fun y hy => (HSay.out.lok.nums y hy).2.2.2) (k + 1)).2
      have hle2 : lv + y.r ≤ 60 := by
        have := HSay.out.rung
        rw [hn2.out] at this
        rw [hsum.1] at hle
        omega
      have hr0 : 0 ≤ y.r := hnum.2.2.2
      have hf0 : 0 ≤ y.f := hnum.2.2.1.1
      have HS2 : Hid _ := hsum
      have hBB := grew hB.out (boxL y)
      cases ho : y.o with
      | true =>
        rw [ho] at c4 HS2
        have HS3 : Hid (allR (ls.take (k + 1)) = lv + y.r ∧ liveN (ls.take (k + 1)) = nv) := by have := HS2.out; simp only [if_true, Nat.add_zero] at this; exact this
        have hbox : boxL y = .cells #[.int .i64 y.j, .int .i64 y.e, .int .i64 y.f, .int .i64 y.r, .bool true] 30 := by show Obj.cells _ _ = _; rw [ho]
        rw [hbox] at hBB
        replace hBB : Aside _ := hBB
        clear hE hE0 hy hsum hst HS2 hnum hle hym hbox
        go_wp2
        go_roundw
        case rel => exact ⟨k + 1, nv, lv + y.r, by omega, by go_num, by first | rfl | go_num, rfl, by omega, by omega, by omega, hBB, HS3⟩
        case measure => simp [intOf]; omega
      | false =>
        rw [ho] at c4 HS2
        have HS3 : Hid (allR (ls.take (k + 1)) = lv + y.r ∧ liveN (ls.take (k + 1)) = nv + 1) := by have := HS2.out; simp at this; exact this
        obtain ⟨m, hm, hjm, hp1, hp2⟩ := says_at HSay.out hym ho
        have hfind := HF (.slice a1 n1 q1) (.slice a2 n2 q2) y.j (wr.alloc (boxL y)) (K3.out.later hBB) (R3.out.later hBB)
        rw [hm] at hfind
        have hmn : m < n1 := by have := (List.getElem?_eq_some_iff.1 hjm).1; rwa [hn1.out] at this
        have hbn : (wr.alloc (boxL y)).heap[wr.heap.size]? = some (boxL y) := heap_new _ _
        have hbo : (wr.alloc (boxL y)).heap[bb]? = some (boxB (.slice a1 n1 q1) (.slice a2 n2 q2)) := heap_old yr _
        have hsz : (wr.alloc (boxL y)).heap.size = wr.heap.size + 1 := World.size_alloc _ _
        clear hE hE0 hy hsum hst HS2 hnum hle hym
        have hbox : boxL y = .cells #[.int .i64 y.j, .int .i64 y.e, .int .i64 y.f, .int .i64 y.r, .bool false] 30 := by show Obj.cells _ _ = _; rw [ho]
        rw [hbox] at hbn hbo hfind hBB hsz
        clear hbox
        go_wp2_with fail
        refine hfind.mono ?_
        rintro e w4 ⟨rfl, hb4⟩
        have hB4 : Aside (Below w3.heap.size w3 w4) := step_below hBB hb4
        have f4 : w4.heap[bb]? = some (boxB (.slice a1 n1 q1) (.slice a2 n2 q2)) := heap_below hbo hb4 (by rw [hsz]; omega)
        have g4 : w4.heap[wr.heap.size]? = some (.cells #[.int .i64 y.j, .int .i64 y.e, .int .i64 y.f, .int .i64 y.r, .bool false] 30) := heap_below hbn hb4 (by rw [hsz]; omega)
        obtain ⟨jb, joff, rfl, hJ0⟩ := K3.out.at (by omega)
        have hJ := hJ0.later hB4.out
        have d1 : w4.cell? ⟨jb, joff + m * 3 + 1, none⟩ = some (.int .i64 y.e) := hJ m _ hjm 1 _ rfl
        have d2 : w4.cell? ⟨jb, joff + m * 3 + 2, none⟩ = some (.int .i64 (y.f + y.e * y.r)) := hJ m _ hjm 2 _ rfl
        have z4 : ∀ i, w4.cell? ⟨bb, i, none⟩ = #[Value.slice (some ⟨jb, joff, none⟩) n1 q1, .slice a2 n2 q2][i]? := fun i => Joins.cell_of_block f4 i
        have l4 : ∀ i, w4.cell? ⟨wr.heap.size, i, none⟩ = #[Value.int .i64 y.j, .int .i64 y.e, .int .i64 y.f, .int .i64 y.r, .bool false][i]? := fun i => Joins.cell_of_block g4 i
        have hm0 : (0 : Int) ≤ (m : Int) := by omega
        have hm1 : (m : Int) < (n1 : Int) := by omega
        have hw1 : IntKind.i64.wrap (y.e * y.r) = y.e * y.r := by rw [IntKind.wrap_i64]; omega
        have hw2 : (y.f + y.e * y.r != IntKind.i64.wrap (y.f + IntKind.i64.wrap (y.e * y.r))) = false := by
          rw [hw1, show IntKind.i64.wrap (y.f + y.e * y.r) = y.f + y.e * y.r by rw [IntKind.wrap_i64]; omega]
          exact bne_self_eq_false _
        clear hw1
        clear hfind hBB hb4 hbn hbo f4 g4 hJ hJ0 K3 R3 yr zr HF hjm hm
        go_wp2_with fail
        go_quiet (fail)
        go_wp2
        go_roundw
        case rel => exact ⟨k + 1, nv + 1, lv + y.r, by omega, by go_num, by first | rfl | go_num, by first | rfl | go_num, by omega, by omega, by omega, by first | exact hB4 | exact below_drewN hB4.out _ | exact hB4.out.drew, HS3⟩
        case measure => simp [intOf]; omega
    · have hkn : k = n0 := by omega
      subst hkn
      have ht : ls.take k = ls := List.take_of_length_le (by have := hn0.out; omega)
      have e1 : lv = (n2 : Int) := by
        have h := hst.out.1
        rw [ht] at h
        have := HSay.out.rung
        rw [hn2.out] at this
        omega
      have e2 : nv = n1 := by
        have h := hst.out.2
        rw [ht] at h
        have := HSay.out.live
        rw [hn1.out] at this
        omega
      subst e1 e2
      have HBe : Aside (Below w.heap.size w wr) := hB3.out.trans (hB.out.mono hB3.out.size)
      clear hst HSay HF J3 K3 R3 y3 hB hB3 ht
      go_wp2
      go_ret
      exact ⟨by simp, HBe.out⟩

end Go.Proofs.Ytjbcfflbfnddeac
