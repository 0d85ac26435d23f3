/- The walk of the law DueRings, under package due's and package book's contracts. -/
import Derived.Test.YtmfoonalehmjoabDueG
import Derived.Test.YtmfoonalehmjoabLast
namespace Go.Proofs.Ytmfoonalehmjoab
open Go.RowKit

/-- What DueRings knows at the beginning of a round. -/
structure Turn (w wr : World) (v1 v2 : Value) (js : List Jb) (rs : List Rg) (t n was lv : Int) (k : Nat) : Prop where
  jobs : JobSl wr v1 js
  rungs : RungSl wr v2 rs
  ok : Ok js rs
  left : countOf js t = n - k
  been : (rs.length : Int) = was + k
  least : ∀ x, x ∈ js → lv ≤ x.n
  below : Below w.heap.size w wr

theorem Turn.later {w wr W : World} {v1 v2 : Value} {js : List Jb} {rs : List Rg} {t n was lv : Int} {k : Nat} (h : Turn w wr v1 v2 js rs t n was lv k) (hb : Below wr.heap.size wr W) : Turn w W v1 v2 js rs t n was lv k :=
  ⟨h.jobs.later hb, h.rungs.later hb, h.ok, h.left, h.been, h.least, h.below.trans (hb.mono h.below.size)⟩

set_option linter.unusedSimpArgs false in
set_option maxHeartbeats 8000000 in
set_option maxRecDepth 100000 in
theorem dueRings_in (hK : Dues) (a1 a2 : Option Addr) (n1 n2 c1 c2 : Nat) (js : List Jb) (rs : List Rg) (t : Int) (w : World) (h1 : JobSl w (.slice a1 n1 c1) js) (h2 : RungSl w (.slice a2 n2 c2) rs) (hok : Ok js rs) (ht0 : 0 ≤ t) (ht1 : t ≤ 100000) (hroom : countOf js t ≤ 60 - (rs.length : Int)) :
    Calls Try.prog 7 #[.agg #[.slice a1 n1 c1, .slice a2 n2 c2], .int .i64 t] w fun e w' => e = .returned (.bool true) ∧ Below w.heap.size w w' := by
  have hB0 := grew (Below.refl w.heap.size w) (boxB (.slice a1 n1 c1) (.slice a2 n2 c2))
  have hx0 := heap_new w (boxB (.slice a1 n1 c1) (.slice a2 n2 c2))
  have herr : ∀ js' rs', Ok js' rs' → dueErr js' rs' t = 0 := fun js' rs' h => by rw [dueErr, if_neg (by simpa using ckBook_zero.2 h), if_neg (by omega)]
  have HD : Aside (∀ v1 v2 js' rs' W, JobSl W v1 js' → RungSl W v2 rs' → Ok js' rs' → Calls Try.prog 19 #[.agg #[v1, v2], .int .i64 t] W fun e w' => ∃ u, e = .returned (.tuple #[u, .int .i64 0]) ∧ JobSl w' u (dueOf js' t) ∧ Below W.heap.size W w') := fun v1 v2 js' rs' W g1 g2 g3 => by
    have := hK.due v1 v2 js' rs' t W g1 g2 (by have := g3.few; unfold most; omega) (by have := g3.room; unfold most; omega)
    simp only [herr js' rs' g3, if_true] at this
    exact this.mono fun e w' ⟨u, q1, q2, q3, _⟩ => ⟨u, q1, q2, q3⟩
  have HC : Aside (∀ v1 v2 js' rs' W, JobSl W v1 js' → RungSl W v2 rs' → Ok js' rs' → Calls Try.prog 20 #[.agg #[v1, v2], .int .i64 t] W fun e w' => e = .returned (.tuple #[.int .i64 (countOf js' t), .int .i64 0]) ∧ Below W.heap.size W w') := fun v1 v2 js' rs' W g1 g2 g3 => by
    have := hK.count v1 v2 js' rs' t W g1 g2 (by have := g3.few; unfold most; omega) (by have := g3.room; unfold most; omega)
    simp only [herr js' rs' g3, if_true] at this
    exact this
  have HN : Aside (∀ v1 v2 js' rs' W, JobSl W v1 js' → RungSl W v2 rs' → Ok js' rs' → Calls Try.prog 21 #[.agg #[v1, v2]] W fun e w' => e = .returned (.tuple #[.int .i64 (whenOf js'), .int .i64 0]) ∧ Below W.heap.size W w') := fun v1 v2 js' rs' W g1 g2 g3 => by
    have := hK.when_ v1 v2 js' rs' W g1 g2 (by have := g3.few; unfold most; omega) (by have := g3.room; unfold most; omega)
    simp only [ckBook_zero.2 g3, if_true] at this
    exact this
  have HA : Aside (∀ v1 v2 js' rs' x W, JobSl W v1 js' → RungSl W v2 rs' → Ok js' rs' → Answers 13 #[.agg #[v1, v2], En.val x] W (app js' rs' x)) := fun v1 v2 js' rs' x W g1 g2 g3 =>
    hK.apply v1 v2 js' rs' x W g1 g2 (by have := g3.few; unfold most; omega) (by have := g3.room; unfold most; omega)
  have hg := fun (W : World) => counted_any hK W
  have hev : ∀ x, x ∈ js → 1 ≤ x.e := fun x hx => (Jb.good (hok.jobs x hx)).2.1.1
  have hc0 := countOf_nonneg t hev
  have hl2 := h2.len
  have hr60 := hok.room
  have hcall := HC.out _ _ js rs _ (h1.later hB0) (h2.later hB0) hok
  have HT : Hid (∀ W, Below w.heap.size w W → Turn w W (.slice a1 n1 c1) (.slice a2 n2 c2) js rs t (countOf js t) rs.length (-1) 0) := fun W hb => ⟨h1.later hb, h2.later hb, hok, by simp, by simp, fun x hx => by have := (Jb.good (hok.jobs x hx)).2.2.1; omega, hb⟩
  have hl1 := h1.len
  clear hK herr hev h1 h2 hok
  rw [hl2] at hroom hr60 HT
  generalize countOf js t = n at *
  have hmt : ¬ 60 - (n2 : Int) < n := by omega
  go_enter Try.func7, Try.ntmps7
  go_wp2_with fail
  refine hcall.mono ?_
  rintro e w1 ⟨rfl, hb1⟩
  have hB1 := step_below hB0 hb1
  have hx1 := heap_below hx0 hb1 (heap_lt hx0)
  clear hb1 hB0 hx0 hcall
  go_wp2_with fail
  refine (hg _).mono ?_
  rintro e w2 ⟨rfl, hb2⟩
  have hB2 := step_below hB1 hb2
  have hx2 := heap_below hx1 hb2 (heap_lt hx1)
  clear hb2 hB1 hx1 hg
  have z2 : ∀ i, w2.cell? ⟨w.heap.size, i, none⟩ = #[Value.slice a1 n1 c1, .slice a2 n2 c2][i]? := fun i => Joins.cell_of_block hx2 i
  have HT2 : Hid (Turn w w2 (.slice a1 n1 c1) (.slice a2 n2 c2) js rs t n n2 (-1) 0) := HT.out w2 hB2
  clear HT
  go_wp2
  go_loopw [8, 42] (fun l i wr => ∃ (k : Nat) (lv : Int) (b1 b2 : Option Addr) (m1 m2 d1 d2 : Nat) (js' : List Jb) (rs' : List Rg), (k : Int) ≤ n ∧ i = .int .i64 k ∧ l = .int .i64 lv ∧ wr.heap[w.heap.size]? = some (boxB (.slice b1 m1 d1) (.slice b2 m2 d2)) ∧ Hid (Turn w wr (.slice b1 m1 d1) (.slice b2 m2 d2) js' rs' t n n2 lv k)) (fun _ i _ => (n + 1).toNat - (intOf i).toNat)
  case atStart => exact ⟨0, -1, a1, a2, n1, n2, c1, c2, js, rs, by omega, rfl, rfl, hx2, HT2.out⟩
  case round =>
    clear z2 hx2 HT2 hB2
    obtain ⟨k, lv, b1, b2, m1, m2, d1, d2, js', rs', hk, rfl, rfl, hx, T⟩ := hrel
    have z0 : ∀ i, wr.cell? ⟨w.heap.size, i, none⟩ = #[Value.slice b1 m1 d1, .slice b2 m2 d2][i]? := fun i => Joins.cell_of_block hx i
    have h3 := HD.out _ _ js' rs' wr T.out.jobs T.out.rungs T.out.ok
    go_wp2_with fail
    refine h3.mono ?_
    rintro e w3 ⟨u, rfl, U3, hb3⟩
    have hx3 := heap_below hx hb3 (heap_lt hx)
    have T3 : Hid (Turn w w3 (.slice b1 m1 d1) (.slice b2 m2 d2) js' rs' t n n2 lv k) := T.out.later hb3
    have h4 := HN.out _ _ js' rs' w3 T3.out.jobs T3.out.rungs T3.out.ok
    obtain ⟨ua, uc, rfl, _⟩ := id U3
    obtain ⟨ul, hul⟩ : ∃ ul, Hid ((dueOf js' t).length = ul) := ⟨_, rfl⟩
    rw [hul.out] at U3 ⊢
    replace U3 : Aside (JobSl w3 (.slice ua ul uc) (dueOf js' t)) := U3
    clear hb3 hx T h3 z0
    have z3 : ∀ i, w3.cell? ⟨w.heap.size, i, none⟩ = #[Value.slice b1 m1 d1, .slice b2 m2 d2][i]? := fun i => Joins.cell_of_block hx3 i
    go_wp2_with fail
    refine h4.mono ?_
    rintro e w4 ⟨rfl, hb4⟩
    have hx4 := heap_below hx3 hb4 (heap_lt hx3)
    have T4 : Hid (Turn w w4 (.slice b1 m1 d1) (.slice b2 m2 d2) js' rs' t n n2 lv k) := T3.out.later hb4
    have h5 := HC.out _ _ js' rs' w4 T4.out.jobs T4.out.rungs T4.out.ok
    have U4 : Aside (JobSl w4 (.slice ua ul uc) (dueOf js' t)) := SlOf.later U3.out hb4
    clear hb4 hx3 T3 h4 z3 U3
    have z4 : ∀ i, w4.cell? ⟨w.heap.size, i, none⟩ = #[Value.slice b1 m1 d1, .slice b2 m2 d2][i]? := fun i => Joins.cell_of_block hx4 i
    go_wp2_with fail
    refine h5.mono ?_
    rintro e w5 ⟨rfl, hb5⟩
    have hx5 := heap_below hx4 hb5 (heap_lt hx4)
    have T5 : Hid (Turn w w5 (.slice b1 m1 d1) (.slice b2 m2 d2) js' rs' t n n2 lv k) := T4.out.later hb5
    have U5 : Aside (JobSl w5 (.slice ua ul uc) (dueOf js' t)) := SlOf.later U4.out hb5
    clear hb5 hx4 T4 h5 z4 U4
    have z5 : ∀ i, w5.cell? ⟨w.heap.size, i, none⟩ = #[Value.slice b1 m1 d1, .slice b2 m2 d2][i]? := fun i => Joins.cell_of_block hx5 i
    have hev : ∀ x, x ∈ js' → 1 ≤ x.e := fun x hx => (Jb.good (T5.out.ok.jobs x hx)).2.1.1
    have hz := countOf_zero t hev
    rw [T5.out.left] at hz ⊢
    have hwr : n - (k : Int) = n - (k : Int) := rfl
    by_cases hkn : (k : Int) < n
    · have hne : dueOf js' t ≠ [] := fun h => by have := hz.2 h; omega
      obtain ⟨zz, r, hzr⟩ : ∃ zz r, dueOf js' t = zz :: r := by
        cases h : dueOf js' t with
        | nil => exact absurd h hne
        | cons zz r => exact ⟨zz, r, rfl⟩
      have hr' : rs'.length < 60 := by have := T5.out.been; omega
      obtain ⟨hzm, hzt, hzw, hzl⟩ := due_head T5.out.ok hzr
      obtain ⟨r1, r2, r3⟩ := ring_on T5.out.ok ht1 hzr hr'
      have hap := app_ring T5.out.ok hzm (by omega) hr' 0 (by omega) (by omega)
      have hll := T5.out.least zz hzm
      have hzn := (Jb.good (T5.out.ok.jobs zz hzm)).2.2
      have hU := U5.out
      rw [hzr] at hU
      have hul0 : 0 < ul := by have := hU.len; simp at this; omega
      obtain ⟨lb, loff, rfl, hE⟩ := hU.at hul0
      have e0 : w5.cell? ⟨lb, loff, none⟩ = some (.int .i64 zz.i) := hE 0 zz rfl 0 _ rfl
      have e2 : w5.cell? ⟨lb, loff + 2, none⟩ = some (.int .i64 zz.n) := hE 0 zz rfl 2 _ rfl
      have h6 := fun (W : World) (hb : Below w5.heap.size w5 W) => HA.out _ _ js' rs' ⟨3, zz.i, 0, zz.n, 0⟩ W (T5.out.jobs.later hb) (T5.out.rungs.later hb) T5.out.ok
      rw [hap] at h6
      have HNx : Hid (∀ W v1 v2, JobSl W v1 (alt js' zz.i (some ⟨zz.i, zz.e, zz.n + zz.e⟩)) → RungSl W v2 (rs' ++ [⟨zz.i, zz.n, 0⟩]) → Below w.heap.size w W → Turn w W v1 v2 (alt js' zz.i (some ⟨zz.i, zz.e, zz.n + zz.e⟩)) (rs' ++ [⟨zz.i, zz.n, 0⟩]) t n n2 zz.n (k + 1)) := fun W v1 v2 q1 q2 q3 =>
        ⟨q1, q2, r1, by have := T5.out.left; push_cast; omega, by rw [List.length_append]; have := T5.out.been; simp; omega, r3, q3⟩
      rw [hzw]
      have B5 : Aside (Below w.heap.size w w5) := T5.out.below
      have ul1 : (0 : Int) < (ul : Int) := by omega
      have ulb : ((ul : Int) == 0) = false := by rw [beq_eq_false_iff_ne]; omega
      have knb : ((k : Int) == n) = false := by rw [beq_eq_false_iff_ne]; omega
      have zt1 : ¬ t < zz.n := by omega
      have zl1 : ¬ zz.n < lv := by omega
      clear hz hne hzm hzw hzl r1 r2 r3 hap hU hE T5 hev U5 hzr hwr HD HC HN HA hul
      go_wp2_with fail
      refine wp_region_noPanic ?_
      refine region_L (fun w' => Below w5.heap.size w5 w' ∧ w'.cell? ⟨w.heap.size, 0, none⟩ = some (.slice b1 m1 d1) ∧ w'.cell? ⟨w.heap.size, 1, none⟩ = some (.slice b2 m2 d2) ∧ w'.cell? ⟨lb, loff, none⟩ = some (.int .i64 zz.i)) 11 (by kernel_rfl) (⟨(Below.refl _ _).drew, by exact z5 0, by exact z5 1, e0⟩) (fun hHeld => ?_)
      refine anyL_take (i := 0) (v := ?_) rfl (by kernel_rfl) (by kernel_rfl) (by kernel_rfl) (by kernel_rfl) (by kernel_rfl) (fun _ _ _ h => h) (Or.inl ⟨by rfl, ?_⟩) (by assumption) ?_
      rotate_left
      · (intro w0 hSw; (try dsimp only at hSw); go_simp; first | done | with_reducible rfl)
      try simp only [Act.put, List.setIfInBounds_toArray, List.set_cons_zero, List.set_cons_succ]
      refine anyL_take (i := 1) (v := ?_) rfl (by kernel_rfl) (by kernel_rfl) (by kernel_rfl) (by kernel_rfl) (by kernel_rfl) (fun _ _ _ h => h) (Or.inl ⟨by rfl, ?_⟩) (by assumption) ?_
      rotate_left
      · (intro w0 hSw; (try dsimp only at hSw); go_simp; first | done | with_reducible rfl)
      try simp only [Act.put, List.setIfInBounds_toArray, List.set_cons_zero, List.set_cons_succ]
      refine anyL_take (i := 2) (v := ?_) rfl (by kernel_rfl) (by kernel_rfl) (by kernel_rfl) (by kernel_rfl) (by kernel_rfl) (fun _ _ _ h => h) (Or.inl ⟨by rfl, ?_⟩) (by assumption) ?_
      rotate_left
      · (intro w0 hSw; (try dsimp only at hSw); go_simp; first | done | with_reducible rfl)
      try simp only [Act.put, List.setIfInBounds_toArray, List.set_cons_zero, List.set_cons_succ]
      refine anyL_take (i := 3) (v := ?_) rfl (by kernel_rfl) (by kernel_rfl) (by kernel_rfl) (by kernel_rfl) (by kernel_rfl) (fun _ _ _ h => h) (Or.inl ⟨by rfl, ?_⟩) (by assumption) ?_
      rotate_left
      · (intro w0 hSw; (try dsimp only at hSw); go_simp; first | done | with_reducible rfl)
      try simp only [Act.put, List.setIfInBounds_toArray, List.set_cons_zero, List.set_cons_succ]
      refine anyL_take (i := 4) (v := ?_) rfl (by kernel_rfl) (by kernel_rfl) (by kernel_rfl) (by kernel_rfl) (by kernel_rfl) (fun _ _ _ h => h) (Or.inl ⟨by rfl, ?_⟩) (by assumption) ?_
      rotate_left
      · (intro w0 hSw; (try dsimp only at hSw); go_simp; first | done | with_reducible rfl)
      try simp only [Act.put, List.setIfInBounds_toArray, List.set_cons_zero, List.set_cons_succ]
      refine anyL_take (i := 5) (v := ?_) rfl (by kernel_rfl) (by kernel_rfl) (by kernel_rfl) (by kernel_rfl) (by kernel_rfl) (fun _ _ _ h => h) (Or.inl ⟨by rfl, ?_⟩) (by assumption) ?_
      rotate_left
      · (intro w0 hSw; (try dsimp only at hSw); go_simp; first | done | with_reducible rfl)
      try simp only [Act.put, List.setIfInBounds_toArray, List.set_cons_zero, List.set_cons_succ]
      refine anyL_take (i := 6) (v := ?_) rfl (by kernel_rfl) (by kernel_rfl) (by kernel_rfl) (by kernel_rfl) (by kernel_rfl) (fun _ _ _ h => h) (Or.inl ⟨by rfl, ?_⟩) (by assumption) ?_
      rotate_left
      · (intro w0 hSw; (try dsimp only at hSw); go_simp; first | done | with_reducible rfl)
      try simp only [Act.put, List.setIfInBounds_toArray, List.set_cons_zero, List.set_cons_succ]
      refine anyL_one (i := 7) (by kernel_rfl) rfl (fun K hK => ?_)
      go_simp
      refine (h6 _ hHeld.1).mono ?_
      rintro e w7 ⟨u1, u2, rfl, J7, R7, hb7⟩
      obtain ⟨g1, q1, g2, q2, rfl, rfl⟩ := bk_slices J7 R7
      have hb57 := hHeld.1.trans (hb7.mono hHeld.1.size)
      have h7 := heap_below hx5 hb57 (heap_lt hx5)
      have z7 : ∀ i, w7.cell? ⟨w.heap.size, i, none⟩ = #[Value.slice b1 m1 d1, .slice b2 m2 d2][i]? := fun i => Joins.cell_of_block h7 i
      have f7 : ∀ i, w7.frozen? ⟨w.heap.size, i, none⟩ = false := fun i => Joins.unfrozen_of_block h7 i
      have h8 : (w7.setCell ⟨w.heap.size, 0, none⟩ (.slice g1 (alt js' zz.i (some ⟨zz.i, zz.e, zz.n + zz.e⟩)).length q1)).heap[w.heap.size]? = some (boxB (.slice g1 (alt js' zz.i (some ⟨zz.i, zz.e, zz.n + zz.e⟩)).length q1) (.slice b2 m2 d2)) := Joins.block_setCell (i := 0) h7 _
      have h9 : ((w7.setCell ⟨w.heap.size, 0, none⟩ (.slice g1 (alt js' zz.i (some ⟨zz.i, zz.e, zz.n + zz.e⟩)).length q1)).setCell ⟨w.heap.size, 1, none⟩ (.slice g2 (rs' ++ [(⟨zz.i, zz.n, 0⟩ : Rg)]).length q2)).heap[w.heap.size]? = some (boxB (.slice g1 (alt js' zz.i (some ⟨zz.i, zz.e, zz.n + zz.e⟩)).length q1) (.slice g2 (rs' ++ [(⟨zz.i, zz.n, 0⟩ : Rg)]).length q2)) := Joins.block_setCell (i := 1) h8 _
      have hB9 := ((B5.out.trans (hb57.mono B5.out.size)).setCell (p := ⟨w.heap.size, 0, none⟩) (Nat.le_refl _) (.slice g1 (alt js' zz.i (some ⟨zz.i, zz.e, zz.n + zz.e⟩)).length q1)).setCell (p := ⟨w.heap.size, 1, none⟩) (Nat.le_refl _) (.slice g2 (rs' ++ [(⟨zz.i, zz.n, 0⟩ : Rg)]).length q2)
      have T9 : Hid (Turn w _ _ _ _ _ t n n2 zz.n (k + 1)) := HNx.out _ _ _ ((J7.beside Jb.ints h7 0 _).beside Jb.ints h8 1 _) ((R7.beside Rg.ints h7 0 _).beside Rg.ints h8 1 _) hB9
      replace h9 : Aside _ := h9
      refine hK.out _ _ (fun _ => ⟨hb57, cell_later hb7 hHeld.2.1, cell_later hb7 hHeld.2.2.1, cell_later hb7 hHeld.2.2.2⟩) (fun hNext => ?_)
      replace hNext := hNext (by kernel_rfl)
      clear hK K hHeld
      try simp only [Act.put, List.setIfInBounds_toArray, List.set_cons_zero, List.set_cons_succ]
      clear J7 R7 hb7 hb57 h7 h8 hB9 HNx B5 hx5 z5 e0 e2 h6
      generalize (alt js' zz.i (some ⟨zz.i, zz.e, zz.n + zz.e⟩)).length = o1 at *
      generalize (rs' ++ [(⟨zz.i, zz.n, 0⟩ : Rg)]).length = o2 at *
      refine anyL_take (i := 8) (v := ?_) rfl (by kernel_rfl) (by kernel_rfl) (by kernel_rfl) (by kernel_rfl) (by kernel_rfl) (fun _ _ _ h => h) (Or.inl ⟨by rfl, ?_⟩) (by assumption) ?_
      rotate_left
      · (intro w0 hSw; (try dsimp only at hSw); go_simp; first | done | with_reducible rfl)
      try simp only [Act.put, List.setIfInBounds_toArray, List.set_cons_zero, List.set_cons_succ]
      refine anyL_take (i := 9) (v := ?_) rfl (by kernel_rfl) (by kernel_rfl) (by kernel_rfl) (by kernel_rfl) (by kernel_rfl) (fun _ _ _ h => h) (Or.inl ⟨by rfl, ?_⟩) (by assumption) ?_
      rotate_left
      · (intro w0 hSw; (try dsimp only at hSw); go_simp; first | done | with_reducible rfl)
      try simp only [Act.put, List.setIfInBounds_toArray, List.set_cons_zero, List.set_cons_succ]
      refine anyL_two (i := 10) (k := 11) (by kernel_rfl) rfl rfl (fun K hK => ?_) (fun K hK => ?_)
      · go_simp
        refine hK.out _ _ (fun _ => hNext) (fun hNext => ?_)
        replace hNext := hNext (by kernel_rfl)
        clear hK K 
        try simp only [Act.put, List.setIfInBounds_toArray, List.set_cons_zero, List.set_cons_succ]
        refine anyL_one (i := 11) (by kernel_rfl) rfl (fun K hK => ?_)
        go_simp
        refine hK.out _ _ (fun h => absurd h (by decide +kernel)) (fun _ => ?_)
        clear hK K
        try simp only [Act.put, List.setIfInBounds_toArray, List.set_cons_zero, List.set_cons_succ]
        refine anyL_one (i := 12) (by kernel_rfl) rfl (fun K hK => ?_)
        go_simp
        refine hK.out _ _ (fun h => absurd h (by decide +kernel)) (fun _ => ?_)
        clear hK K
        try simp only [Act.put, List.setIfInBounds_toArray, List.set_cons_zero, List.set_cons_succ]
        refine anyL_done (by kernel_rfl) ?_ _
        refine NoPanic.normal ?_
        try simp only [Act.put, List.setIfInBounds_toArray, List.set_cons_zero, List.set_cons_succ]
        go_wp2
        go_roundw
        case rel => exact ⟨k + 1, zz.n, g1, g2, _, _, q1, q2, _, _, by omega, by go_num, rfl, h9.out, T9.out⟩
        case measure => simp [intOf]; omega
      · go_simp
        refine hK.out _ _ (fun h => absurd h (by decide +kernel)) (fun _ => ?_)
        clear hK K
        try simp only [Act.put, List.setIfInBounds_toArray, List.set_cons_zero, List.set_cons_succ]
        refine anyL_one (i := 10) (by kernel_rfl) rfl (fun K hK => ?_)
        go_simp
        refine hK.out _ _ (fun h => absurd h (by decide +kernel)) (fun _ => ?_)
        clear hK K
        try simp only [Act.put, List.setIfInBounds_toArray, List.set_cons_zero, List.set_cons_succ]
        refine anyL_one (i := 12) (by kernel_rfl) rfl (fun K hK => ?_)
        go_simp
        refine hK.out _ _ (fun h => absurd h (by decide +kernel)) (fun _ => ?_)
        clear hK K
        try simp only [Act.put, List.setIfInBounds_toArray, List.set_cons_zero, List.set_cons_succ]
        refine anyL_done (by kernel_rfl) ?_ _
        refine NoPanic.normal ?_
        try simp only [Act.put, List.setIfInBounds_toArray, List.set_cons_zero, List.set_cons_succ]
        go_wp2
        go_roundw
        case rel => exact ⟨k + 1, zz.n, g1, g2, _, _, q1, q2, _, _, by omega, by go_num, rfl, h9.out, T9.out⟩
        case measure => simp [intOf]; omega
    · have hke : (k : Int) = n := by omega
      have hdn : dueOf js' t = [] := hz.1 (by omega)
      have hu0 : ul = 0 := by rw [← hul.out, hdn]; rfl
      have hm2 : (m2 : Int) = (n2 : Int) + n := by
        have q1 := T5.out.rungs.len
        have q2 := T5.out.been
        omega
      have HB : Aside (Below w.heap.size w w5) := T5.out.below
      subst hu0
      subst hke
      clear hz hdn T5 U5 hev hwr hul HD HC HN HA
      go_wp2
      go_ret
      exact ⟨rfl, HB.out⟩

set_option maxHeartbeats 4000000 in
theorem dueRings_any (hK : Dues) (v1 v2 : Value) (js : List Jb) (rs : List Rg) (t : Int) (w : World) (h1 : JobSl w v1 js) (h2 : RungSl w v2 rs) (hn1 : js.length ≤ most) (hn2 : rs.length ≤ most) :
    Calls Try.prog 7 #[.agg #[v1, v2], .int .i64 t] w fun e w' => e = .returned (.bool true) ∧ Below w.heap.size w w' := by
  have hB0 := grew (Below.refl w.heap.size w) (boxB v1 v2)
  have hx0 := heap_new w (boxB v1 v2)
  have hcall := hK.count v1 v2 js rs t _ (h1.later hB0) (h2.later hB0) hn1 hn2
  have hg := fun (W : World) => counted_any hK W
  by_cases he : dueErr js rs t = 0
  · have hck : ckBook js rs = 0 := by
      by_cases h : ckBook js rs = 0
      · exact h
      · rw [dueErr, if_pos h] at he; exact absurd he h
    have hok := ckBook_zero.1 hck
    have htt : ¬ (t < 0 ∨ 100000 < t) := fun h => by
      rw [dueErr, if_neg (by simpa using hck), if_pos h] at he
      exact absurd he (by decide)
    obtain ⟨a1, c1, a2, c2, rfl, rfl⟩ := bk_slices h1 h2
    by_cases hroom : countOf js t ≤ 60 - (rs.length : Int)
    · exact dueRings_in hK a1 a2 _ _ c1 c2 js rs t w h1 h2 hok (by omega) (by omega) hroom
    · simp only [he, if_true] at hcall
      have hr60 := hok.room
      clear hK h1 h2 hn1 hn2 hok he hck htt
      generalize countOf js t = n at *
      generalize js.length = m1 at *
      generalize rs.length = m2 at *
      have hgt : 60 - (m2 : Int) < n := by omega
      clear hroom
      go_enter Try.func7, Try.ntmps7
      go_wp2_with fail
      refine hcall.mono ?_
      rintro e w1 ⟨rfl, hb1⟩
      have hB1 := step_below hB0 hb1
      have hx1 := heap_below hx0 hb1 (heap_lt hx0)
      clear hb1 hB0 hx0 hcall
      go_wp2_with fail
      refine (hg _).mono ?_
      rintro e w2 ⟨rfl, hb2⟩
      have hB2 := step_below hB1 hb2
      have hx2 := heap_below hx1 hb2 (heap_lt hx1)
      clear hb2 hB1 hx1
      have z2 : ∀ i, w2.cell? ⟨w.heap.size, i, none⟩ = #[Value.slice a1 m1 c1, .slice a2 m2 c2][i]? := fun i => Joins.cell_of_block hx2 i
      go_wp2_with fail
      refine (hg _).mono ?_
      rintro e w3 ⟨rfl, hb3⟩
      have hB3 := step_below hB2 hb3
      go_wp2
      go_ret
      exact ⟨rfl, hB3⟩
  · simp only [if_neg he] at hcall
    have hne : (dueErr js rs t != 0) = true := by rw [bne_iff_ne]; exact he
    obtain ⟨a1, c1, a2, c2, rfl, rfl⟩ := bk_slices h1 h2
    clear hK h1 h2 hn1 hn2 he
    generalize dueErr js rs t = er at *
    generalize js.length = m1 at *
    generalize rs.length = m2 at *
    go_enter Try.func7, Try.ntmps7
    go_wp2_with fail
    refine hcall.mono ?_
    rintro e w1 ⟨rfl, hb1⟩
    have hB1 := step_below hB0 hb1
    clear hb1 hB0 hx0 hcall
    go_wp2_with fail
    refine (hg _).mono ?_
    rintro e w2 ⟨rfl, hb2⟩
    have hB2 := step_below hB1 hb2
    clear hb2 hB1
    go_wp2_with fail
    refine (hg _).mono ?_
    rintro e w3 ⟨rfl, hb3⟩
    have hB3 := step_below hB2 hb3
    go_wp2
    go_ret
    exact ⟨rfl, hB3⟩

end Go.Proofs.Ytmfoonalehmjoab
