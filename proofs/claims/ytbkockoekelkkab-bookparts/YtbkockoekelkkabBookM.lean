/- The walk of the law BookOnce, under package book's contracts. -/
import Derived.Test.YtbkockoekelkkabBookL
namespace Go.Proofs.Ytbkockoekelkkab
open Go.RowKit
open scoped Classical

/-- What region 5 of BookOnce reads, and what its calls ask. -/
structure HeldO (w W : World) (b0 b1 b2 : Nat) (v1 v2 u1 u2 t1 t2 s2 : Value) (js jc : List Jb) (rs rc : List Rg) : Prop where
  h0 : W.heap[b0]? = some (boxB v1 v2)
  h1 : W.heap[b1]? = some (boxB u1 u2)
  h2 : W.heap[b2]? = some (boxB t1 t2)
  j : JobSl W v1 js
  r : RungSl W v2 rs
  kj : JobSl W u1 jc
  kr : RungSl W u2 rc
  dj : JobSl W t1 jc
  dr : RungSl W t2 rc
  cut : RungSl W s2 rs
  below : Below w.heap.size w W

theorem HeldO.later {w W W' : World} {b0 b1 b2 : Nat} {v1 v2 u1 u2 t1 t2 s2 : Value} {js jc : List Jb} {rs rc : List Rg} (h : HeldO w W b0 b1 b2 v1 v2 u1 u2 t1 t2 s2 js jc rs rc) (hb : Below W.heap.size W W') : HeldO w W' b0 b1 b2 v1 v2 u1 u2 t1 t2 s2 js jc rs rc :=
  ⟨heap_below h.h0 hb (heap_lt h.h0), heap_below h.h1 hb (heap_lt h.h1), heap_below h.h2 hb (heap_lt h.h2), h.j.later hb, h.r.later hb, h.kj.later hb, h.kr.later hb, h.dj.later hb, h.dr.later hb, h.cut.later hb, step_below h.below hb⟩

abbrev HeldOC (w W : World) (b0 b1 b2 : Nat) (v1 v2 u1 u2 t1 t2 s2 : Value) (js jc : List Jb) (rs rc : List Rg) : Prop :=
  HeldO w W b0 b1 b2 v1 v2 u1 u2 t1 t2 s2 js jc rs rc ∧ W.cell? ⟨b0, 0, none⟩ = some v1 ∧ W.cell? ⟨b0, 1, none⟩ = some v2 ∧ W.cell? ⟨b1, 0, none⟩ = some u1 ∧ W.cell? ⟨b1, 1, none⟩ = some u2 ∧ W.cell? ⟨b2, 0, none⟩ = some t1 ∧ W.cell? ⟨b2, 1, none⟩ = some t2

theorem HeldO.cells {w W : World} {b0 b1 b2 : Nat} {v1 v2 u1 u2 t1 t2 s2 : Value} {js jc : List Jb} {rs rc : List Rg} (h : HeldO w W b0 b1 b2 v1 v2 u1 u2 t1 t2 s2 js jc rs rc) : HeldOC w W b0 b1 b2 v1 v2 u1 u2 t1 t2 s2 js jc rs rc :=
  ⟨h, by rw [Joins.cell_of_block h.h0]; rfl, by rw [Joins.cell_of_block h.h0]; rfl, by rw [Joins.cell_of_block h.h1]; rfl, by rw [Joins.cell_of_block h.h1]; rfl, by rw [Joins.cell_of_block h.h2]; rfl, by rw [Joins.cell_of_block h.h2]; rfl⟩

theorem heldOC_step {w W W' : World} {b0 b1 b2 : Nat} {v1 v2 u1 u2 t1 t2 s2 : Value} {js jc : List Jb} {rs rc : List Rg} (h : HeldOC w W b0 b1 b2 v1 v2 u1 u2 t1 t2 s2 js jc rs rc) (hb : Below W.heap.size W W') : HeldOC w W' b0 b1 b2 v1 v2 u1 u2 t1 t2 s2 js jc rs rc := (h.1.later hb).cells

theorem SlOf.cut {α : Type} {cs : α → List Value} {k : Nat} {w : World} {a : Option Addr} {n c : Nat} {xs : List α} (h : SlOf cs k w (.slice a n c) xs) (m : Nat) (hm : m ≤ n) : SlOf cs k w (.slice a m c) (xs.take m) := by
  have hl := h.len
  have hlen : (xs.take m).length = m := by rw [List.length_take]; omega
  refine ⟨a, c, by rw [hlen], ?_⟩
  rw [hlen]
  by_cases h0 : m = 0
  · exact Or.inl h0
  · obtain ⟨b, off, ha, hE⟩ := h.at (by omega)
    exact Or.inr ⟨b, off, ha, hE.take m⟩

theorem cut_run (a : Option Addr) (m n c : Nat) (h : (n : Int) ≤ c) (w : World) : (Instr.slice 24 (.slice a m c) none (some (.int .i64 n)) none).run Try.prog w = .ok (.slice a n c) w := by
  rw [run_slice_h (ht := Try.underlying24) (h0 := by omega) (h2 := h)]
  have hs : (sizeOf (Try.prog.elem 24)).run Try.prog w = .ok 3 w := by kernel_rfl
  rw [hs]
  cases a with
  | none => simp [Result.andThen, sliced]
  | some ad => simp [Result.andThen, sliced, Addr.add]

set_option maxHeartbeats 2000000 in
theorem bookOnce_bad (hK : Books) (v1 v2 : Value) (js : List Jb) (rs : List Rg) (x : En) (w : World) (h1 : JobSl w v1 js) (h2 : RungSl w v2 rs) (hn1 : js.length ≤ most) (hn2 : rs.length ≤ most) (hbad : (app js rs x).2 ≠ 0) :
    Calls Try.prog 4 #[.agg #[v1, v2], x.val] w fun e w' => e = .returned (.bool true) ∧ Below w.heap.size w w' := by
  have hg := rung_any hK
  have qa : ∀ W, JobSl W v1 js → RungSl W v2 rs → _ := fun W g1 g2 => hK.apply v1 v2 js rs x W g1 g2 hn1 hn2
  have hb : ((app js rs x).2 != 0) = true := by rw [bne_iff_ne]; exact hbad
  clear hK hn1 hn2 hbad
  generalize app js rs x = r at *
  obtain ⟨⟨jr, rr⟩, n⟩ := r
  change (n != 0) = true at hb
  have H1 : Hid (JobSl w v1 js) := h1
  have H2 : Hid (RungSl w v2 rs) := h2
  obtain ⟨a1, c1, a2, c2, rfl, rfl⟩ := bk_slices h1 h2
  clear h1 h2
  generalize js.length = n1 at *
  generalize rs.length = n2 at *
  go_enter Try.func4, Try.ntmps4
  go_wp2_with fail
  have hg0 := grew (grew (Below.refl w.heap.size w) (boxB (.slice a1 n1 c1) (.slice a2 n2 c2))) (boxE x.k x.j x.v x.t x.c)
  refine (qa _ (by exact H1.out.later hg0) (by exact H2.out.later hg0)).mono ?_
  rintro e w1 ⟨s1, s2, rfl, J1, R1, hb1⟩
  have hB1 := step_below hg0 hb1
  obtain ⟨b1, d1, b2, d2, rfl, rfl⟩ := bk_slices J1 R1
  clear hb1 hg0 qa J1 R1 H1 H2
  go_wp2_with fail
  refine (hg _).mono ?_
  rintro e w2 ⟨rfl, hb2⟩
  have hB2 := step_below (grew hB1 _) hb2
  clear hb2 hB1
  go_wp2_with fail
  refine (hg _).mono ?_
  rintro e w3 ⟨rfl, hb3⟩
  have hB3 := step_below hB2 hb3
  clear hb3 hB2
  go_wp2
  go_ret
  exact ⟨rfl, hB3⟩

set_option maxHeartbeats 8000000 in
set_option maxRecDepth 100000 in
theorem bookOnce_ok (hK : Books) (v1 v2 : Value) (js : List Jb) (rs : List Rg) (x : En) (w : World) (h1 : JobSl w v1 js) (h2 : RungSl w v2 rs) (hok : Ok js rs) (hx : x.chk = 0) :
    Calls Try.prog 4 #[.agg #[v1, v2], x.val] w fun e w' => e = .returned (.bool true) ∧ Below w.heap.size w w' := by
  have hg := rung_any hK
  have hlj : js.length ≤ most := Nat.le_trans hok.few (by decide)
  have hlr : rs.length ≤ most := Nat.le_trans hok.room (by decide)
  have hok' := step_ok hok hx
  have hlj' : (step js rs x).1.length ≤ most := Nat.le_trans hok'.few (by decide)
  have hlr' : (step js rs x).2.length ≤ most := Nat.le_trans hok'.room (by decide)
  have qa : ∀ W, JobSl W v1 js → RungSl W v2 rs → _ := fun W g1 g2 => hK.applyR v1 v2 js rs x W g1 g2 hlj hlr
  rw [app_step hok hx] at qa
  have qb := fun u1 u2 W g1 g2 => hK.apply u1 u2 (step js rs x).1 (step js rs x).2 x W g1 g2 hlj' hlr'
  rw [app_step hok' hx, step_again hok hx] at qb
  have q1 := fun u1 u2 t1 t2 W g1 g2 g3 g4 => hK.same u1 u2 t1 t2 (step js rs x).1 (step js rs x).1 (step js rs x).2 (step js rs x).2 W g1 g2 g3 g4 hlj' hlr' hlj' hlr'
  rw [true_same] at q1
  have q2 := fun u1 u2 W g1 g2 => hK.check u1 u2 (step js rs x).1 (step js rs x).2 W g1 g2 hlj' hlr'
  rw [ckBook_zero.2 hok'] at q2
  have q3 := fun s1 s2 W g1 g2 => equalR s1 s2 rs rs W g1 g2 hlr
  rw [show decide (rs = rs) = true by simp] at q3
  have q4 : Hid (∀ id W, JobSl W v1 js → RungSl W v2 rs → _) := fun id W g1 g2 => hK.find v1 v2 js rs id W g1 g2 hlj hlr
  have HJ : Hid (∀ y z, y ∈ (step js rs x).1 → tab js y.i = some z → y.e = z.e ∧ (y.n = z.n ∨ (y.n = z.n + y.e ∧ (step js rs x).2.length ≠ rs.length))) := fun y z => step_jobs hok hx y z
  have hfew : (step js rs x).1.length ≤ 6 := hok'.few
  have hroom : (step js rs x).2.length ≤ 60 := hok'.room
  have hsr : (step js rs x).2.take rs.length = rs ∧ rs.length ≤ (step js rs x).2.length ∧ (step js rs x).2.length ≤ rs.length + 1 := by
    rcases step_rungs (js := js) (rs := rs) hx with e | ⟨r, e⟩
    · rw [e]; simp
    · rw [e]; simp
  have HG : Hid (∀ z, z ∈ (step js rs x).1 → z.bad = false) := hok'.jobs
  have HGb : Hid (∀ z, z ∈ js → z.bad = false) := hok.jobs
  clear hK hlj hlr hlj' hlr' hok'
  generalize step js rs x = c at *
  obtain ⟨jc, rc⟩ := c
  change (∀ y z, y ∈ jc → tab js y.i = some z → y.e = z.e ∧ (y.n = z.n ∨ (y.n = z.n + y.e ∧ rc.length ≠ rs.length))) at HJ
  change jc.length ≤ 6 at hfew
  change rc.length ≤ 60 at hroom
  change rc.take rs.length = rs ∧ rs.length ≤ rc.length ∧ rc.length ≤ rs.length + 1 at hsr
  have HS : Hid (rc.take rs.length = rs) := hsr.1
  have hs1 := hsr.2.1
  have hs2 := hsr.2.2
  clear hsr hok hx
  have H1 : Hid (JobSl w v1 js) := h1
  have H2 : Hid (RungSl w v2 rs) := h2
  obtain ⟨a1, c1, a2, c2, rfl, rfl⟩ := bk_slices h1 h2
  clear h1 h2
  obtain ⟨n1, hn1⟩ : ∃ n1, js.length = n1 := ⟨_, rfl⟩
  obtain ⟨n2, hn2⟩ : ∃ n2, rs.length = n2 := ⟨_, rfl⟩
  obtain ⟨m1, hm1⟩ : ∃ m1, jc.length = m1 := ⟨_, rfl⟩
  obtain ⟨m2, hm2⟩ : ∃ m2, rc.length = m2 := ⟨_, rfl⟩
  rw [hn1] at H1 qa q4
  rw [hn2] at H2 qa q4 HS hs1 hs2
  rw [hm1] at hfew
  rw [hm2] at hroom hs1 hs2
  have HJ' : Hid (∀ y z, y ∈ jc → tab js y.i = some z → y.e = z.e ∧ (y.n = z.n ∨ (y.n = z.n + y.e ∧ m2 ≠ n2))) := fun y z h1 h2 => by have := HJ y z h1 h2; rw [hm2, hn2] at this; exact this
  rw [hn1, hn2]
  have N1 : Hid (js.length = n1) := hn1
  have M1 : Hid (jc.length = m1) := hm1
  have M2 : Hid (rc.length = m2) := hm2
  clear hn1 hn2 HJ
  go_enter Try.func4, Try.ntmps4
  go_wp2_with fail
  have hg0 := grew (grew (Below.refl w.heap.size w) (boxB (.slice a1 n1 c1) (.slice a2 n2 c2))) (boxE x.k x.j x.v x.t x.c)
  refine (qa _ (by exact H1.out.later hg0) (by exact H2.out.later hg0)).mono ?_
  rintro e w1 ⟨s1, s2, rfl, J1, R1, hb1, hroomy⟩
  have y0 : w1.heap[w.heap.size]? = some (boxB (.slice a1 n1 c1) (.slice a2 n2 c2)) := by rw [hb1.block _ (by simp only [World.size_alloc]; omega)]; exact heap_old (heap_new _ _) _
  have y1 : w1.heap[w.heap.size + 1]? = some (boxE x.k x.j x.v x.t x.c) := by
    rw [hb1.block _ (by simp only [World.size_alloc]; omega)]
    have := heap_new (w.alloc (boxB (.slice a1 n1 c1) (.slice a2 n2 c2))) (boxE x.k x.j x.v x.t x.c)
    rw [World.size_alloc] at this
    exact this
  have hB1 := step_below hg0 hb1
  obtain ⟨b1, d1, b2, d2, rfl, rfl⟩ := bk_slices J1 R1
  have hcap : m2 ≤ d2 := by
    obtain ⟨a', n', c', e, hle⟩ := hroomy
    injection e with _ e2 e3
    rw [← hm2]
    show rc.length ≤ d2
    rw [e3]; exact e2 ▸ hle
  change JobSl w1 (.slice b1 jc.length d1) jc at J1
  change RungSl w1 (.slice b2 rc.length d2) rc at R1
  rw [hm1] at J1
  rw [hm2] at R1
  clear hb1 hg0 qa hroomy
  dsimp only
  rw [hm1, hm2]
  go_wp2_with fail
  have hgc := grew (Below.refl w1.heap.size w1) (boxB (.slice b1 m1 d1) (.slice b2 m2 d2))
  refine (hg _).mono ?_
  rintro e w2 ⟨rfl, hb2⟩
  have x0 := heap_below (heap_below y0 hgc (heap_lt y0)) hb2 (by rw [World.size_alloc]; have := heap_lt y0; omega)
  have x1 := heap_below (heap_below y1 hgc (heap_lt y1)) hb2 (by rw [World.size_alloc]; have := heap_lt y1; omega)
  have xc : w2.heap[w1.heap.size]? = some (boxB (.slice b1 m1 d1) (.slice b2 m2 d2)) := heap_below (heap_new _ _) hb2 (by rw [World.size_alloc]; omega)
  have J2 := (J1.later hgc).later hb2
  have R2 := (R1.later hgc).later hb2
  have hB2 := step_below (step_below hB1 hgc) hb2
  clear y0 y1 J1 R1 hB1 hgc hb2 hg
  generalize w1.heap.size = b1' at *
  have z1 : ∀ i, w2.cell? ⟨w.heap.size + 1, i, none⟩ = #[Value.int .i64 x.k, .int .i64 x.j, .int .i64 x.v, .int .i64 x.t, .int .i64 x.c][i]? := fun i => Joins.cell_of_block x1 i
  have zc : ∀ i, w2.cell? ⟨b1', i, none⟩ = #[Value.slice b1 m1 d1, .slice b2 m2 d2][i]? := fun i => Joins.cell_of_block xc i
  go_wp2_with fail
  refine (qb _ _ _ (by exact J2) (by exact R2)).mono ?_
  rintro e w3 ⟨t1, t2, rfl, J3, R3, hb3⟩
  obtain ⟨b3, d3, b4, d4, rfl, rfl⟩ := bk_slices J3 R3
  have y0 := heap_below x0 hb3 (heap_lt x0)
  have yc := heap_below xc hb3 (heap_lt xc)
  have J4 := J2.later hb3
  have R4 := R2.later hb3
  have hB3 := step_below hB2 hb3
  change JobSl w3 (.slice b3 jc.length d3) jc at J3
  change RungSl w3 (.slice b4 rc.length d4) rc at R3
  rw [hm1] at J3
  rw [hm2] at R3
  clear x0 x1 xc J2 R2 hB2 hb3 z1 zc qb
  dsimp only
  rw [hm1, hm2]
  have hgd := grew (Below.refl w3.heap.size w3) (boxB (.slice b3 m1 d3) (.slice b4 m2 d4))
  have hH : HeldOC w (w3.alloc (boxB (.slice b3 m1 d3) (.slice b4 m2 d4))) w.heap.size b1' w3.heap.size (.slice a1 n1 c1) (.slice a2 n2 c2) (.slice b1 m1 d1) (.slice b2 m2 d2) (.slice b3 m1 d3) (.slice b4 m2 d4) (.slice b2 n2 d2) js jc rs rc := by
    have hBx := step_below hB3 hgd
    have hcut := SlOf.cut R4 n2 hs1
    rw [HS.out] at hcut
    exact HeldO.cells ⟨heap_old y0 _, heap_old yc _, heap_new _ _, H1.out.later hBx, H2.out.later hBx, J4.later hgd, R4.later hgd, J3.later hgd, R3.later hgd, hcut.later hgd, hBx⟩
  clear H1 H2 y0 yc J3 R3 J4 R4 hB3 hgd HS
  go_wp2_with fail
  generalize hW0 : w3.alloc (.cells #[.slice b3 m1 d3, .slice b4 m2 d4] 26) = W0 at *
  clear hW0
  generalize w3.heap.size = b2' at *
  have hbd : Below W0.heap.size W0 W0.drew := (Below.refl _ _).drew
  have i1 : (n2 : Int) ≤ m2 := by omega
  have i2 : (m2 : Int) ≤ n2 + 1 := by omega
  have i3 : (m2 : Int) ≤ 60 := by omega
  have i4 : (n2 : Int) ≤ d2 := by omega
  have e1 : decide (m2 < n2) = false := decide_eq_false (by omega)
  have e2 : decide (IntKind.i64.wrap ((n2 : Int) + 1) < (m2 : Int)) = false := decide_eq_false (by rw [IntKind.wrap_i64]; omega)
  have hsl := fun W => cut_run b2 m2 n2 d2 i4 W
  have p1 : ∀ W, HeldOC w W w.heap.size b1' b2' (.slice a1 n1 c1) (.slice a2 n2 c2) (.slice b1 m1 d1) (.slice b2 m2 d2) (.slice b3 m1 d3) (.slice b4 m2 d4) (.slice b2 n2 d2) js jc rs rc → _ := fun W h => q1 _ _ _ _ W h.1.kj h.1.kr h.1.dj h.1.dr
  have p2 : ∀ W, HeldOC w W w.heap.size b1' b2' (.slice a1 n1 c1) (.slice a2 n2 c2) (.slice b1 m1 d1) (.slice b2 m2 d2) (.slice b3 m1 d3) (.slice b4 m2 d4) (.slice b2 n2 d2) js jc rs rc → _ := fun W h => q2 _ _ W h.1.kj h.1.kr
  have p3 : ∀ W, HeldOC w W w.heap.size b1' b2' (.slice a1 n1 c1) (.slice a2 n2 c2) (.slice b1 m1 d1) (.slice b2 m2 d2) (.slice b3 m1 d3) (.slice b4 m2 d4) (.slice b2 n2 d2) js jc rs rc → _ := fun W h => q3 _ _ W h.1.cut h.1.r
  clear q1 q2 q3 hs1 hs2 hcap hm1 hm2 hroom
  go_region_held3 (fun w' => HeldOC w w' w.heap.size b1' b2' (.slice a1 n1 c1) (.slice a2 n2 c2) (.slice b1 m1 d1) (.slice b2 m2 d2) (.slice b3 m1 d3) (.slice b4 m2 d4) (.slice b2 n2 d2) js jc rs rc)
    (exact heldOC_step (by assumption) (by assumption))
    (first
      | (go_at_call 11; refine (p1 _ (by assumption)).mono ?_; rintro e w' ⟨rfl, hb'⟩)
      | (go_at_call 12; refine (p2 _ (by assumption)).mono ?_; rintro e w' ⟨rfl, hb'⟩)
      | (go_at_call 13; refine (p3 _ (by assumption)).mono ?_; rintro e w' ⟨rfl, hb'⟩))
  all_goals
    rename_i hS
    have hH' := hS.1
    clear hS hH hbd p1 p2 p3 hsl e1 e2
    have zc : ∀ i, w'.cell? ⟨b1', i, none⟩ = #[Value.slice b1 m1 d1, .slice b2 m2 d2][i]? := fun i => Joins.cell_of_block hH'.h1 i
    have hm6 : (m1 : Int) ≤ 6 := by omega
    go_wp2
    go_loopw [77] (fun i wr => ∃ k : Nat, k ≤ m1 ∧ i = .int .i64 k ∧ Hid (HeldO w wr w.heap.size b1' b2' (.slice a1 n1 c1) (.slice a2 n2 c2) (.slice b1 m1 d1) (.slice b2 m2 d2) (.slice b3 m1 d3) (.slice b4 m2 d4) (.slice b2 n2 d2) js jc rs rc)) (fun i _ => m1 - (intOf i).toNat)
    case atStart => exact ⟨0, Nat.zero_le _, rfl, hH'⟩
    case round =>
      clear zc hH'
      obtain ⟨k, hk, rfl, hH⟩ := hrel
      by_cases hlt : k < m1
      · obtain ⟨y, hy⟩ : ∃ y, jc[k]? = some y := ⟨jc[k]'(by have := M1.out; omega), List.getElem?_eq_getElem _⟩
        obtain ⟨b, off, rfl, hE⟩ := hH.out.kj.at (by omega)
        have f0 : wr.cell? ⟨b, off + k * 3, none⟩ = some (.int .i64 y.i) := hE k y hy 0 _ rfl
        have f1 : wr.cell? ⟨b, off + k * 3 + 1, none⟩ = some (.int .i64 y.e) := hE k y hy 1 _ rfl
        have f2 : wr.cell? ⟨b, off + k * 3 + 2, none⟩ = some (.int .i64 y.n) := hE k y hy 2 _ rfl
        have z0 : ∀ i, wr.cell? ⟨w.heap.size, i, none⟩ = #[Value.slice a1 n1 c1, .slice a2 n2 c2][i]? := fun i => Joins.cell_of_block hH.out.h0 i
        have l0 : w.heap.size < wr.heap.size := heap_lt hH.out.h0
        have hym : y ∈ jc := List.mem_of_getElem? hy
        have hyg := Jb.good (HG.out y hym)
        have ye1 : 1 ≤ y.e := hyg.2.1.1
        have ye2 : y.e ≤ 100 := hyg.2.1.2
        have HY : Hid (∀ z, tab js y.i = some z → y.e = z.e ∧ (y.n = z.n ∨ (y.n = z.n + y.e ∧ m2 ≠ n2))) := fun z hz => HJ'.out y z hym hz
        clear hE hy hym hyg
        go_wp2_with fail
        have hgj := grew (Below.refl wr.heap.size wr) (boxJ y)
        refine (q4.out _ _ (by exact hH.out.j.later hgj) (by exact hH.out.r.later hgj)).mono ?_
        rintro e wf ⟨rfl, hbf⟩
        have hHf := (hH.out.later hgj).later hbf
        have yj : wf.heap[wr.heap.size]? = some (boxJ y) := heap_below (heap_new _ _) hbf (by rw [World.size_alloc]; omega)
        clear hH hgj hbf f0 f1 f2 z0 l0
        generalize wr.heap.size = jb at *
        have HH : Hid (_) := hHf
        have z0 : ∀ i, wf.cell? ⟨w.heap.size, i, none⟩ = #[Value.slice a1 n1 c1, .slice a2 n2 c2][i]? := fun i => Joins.cell_of_block hHf.h0 i
        have zc : ∀ i, wf.cell? ⟨b1', i, none⟩ = #[Value.slice (some ⟨b, off, none⟩) m1 d1, .slice b2 m2 d2][i]? := fun i => Joins.cell_of_block hHf.h1 i
        have zj : ∀ i, wf.cell? ⟨jb, i, none⟩ = #[Value.int .i64 y.i, .int .i64 y.e, .int .i64 y.n][i]? := fun i => Joins.cell_of_block yj i
        rcases jobAt_ways js y.i with ⟨hj, ht⟩ | ⟨q, z, hj, hz, ht⟩
        · rw [hj]
          clear hj ht hHf yj HY
          go_wp2_with fail
          go_quiet (fail)
          go_wp2
          go_roundw
          case rel => exact ⟨k + 1, by omega, by go_num, HH.out.later (below_drewN (Below.refl _ _) _)⟩
          case measure => simp [intOf]; omega
        · rw [hj]
          have hql : q < n1 := by have := (List.getElem?_eq_some_iff.1 hz).1; have := N1.out; omega
          obtain ⟨ba, oa, rfl, hA⟩ := hHf.j.at (by omega)
          have g0 : wf.cell? ⟨ba, oa + q * 3, none⟩ = some (.int .i64 z.i) := hA q z hz 0 _ rfl
          have g1 : wf.cell? ⟨ba, oa + q * 3 + 1, none⟩ = some (.int .i64 z.e) := hA q z hz 1 _ rfl
          have g2 : wf.cell? ⟨ba, oa + q * 3 + 2, none⟩ = some (.int .i64 z.n) := hA q z hz 2 _ rfl
          have hzg := Jb.good (HGb.out z (List.mem_of_getElem? hz))
          have zn0 : 0 ≤ z.n := hzg.2.2.1
          have zn1 : z.n ≤ 100100 := hzg.2.2.2
          have hw := HY.out z ht
          have q0 : decide ((0 : Int) ≤ (q : Int)) = true := decide_eq_true (by omega)
          have r1 : (y.e != z.e) = false := by rw [bne_eq_false_iff_eq]; exact hw.1
          clear hj ht hHf yj HY hA hz hzg
          by_cases hn : y.n = z.n
          · have r2 : (y.n != z.n) = false := by rw [bne_eq_false_iff_eq]; exact hn
            clear hn hw
            go_wp2_with fail
            go_quiet (fail)
            go_wp2
            go_roundw
            case rel => exact ⟨k + 1, by omega, by go_num, HH.out.later (below_drewN (Below.refl _ _) _)⟩
            case measure => simp [intOf]; omega
          · have r2 : (y.n != z.n) = true := by rw [bne_iff_ne]; exact hn
            have hw2 := hw.2.resolve_left hn
            have r3 : (y.n != z.n + y.e) = false := by rw [bne_eq_false_iff_eq]; exact hw2.1
            have r4 : ((m2 : Int) == (n2 : Int)) = false := by rw [beq_eq_false_iff_ne]; have := hw2.2; omega
            clear hn hw hw2
            go_wp2_with fail
            go_quiet (fail)
            go_wp2
            go_roundw
            case rel => exact ⟨k + 1, by omega, by go_num, HH.out.later (below_drewN (Below.refl _ _) _)⟩
            case measure => simp [intOf]; omega
      · go_wp2
        go_ret
        exact ⟨rfl, hH.out.below⟩

/-- The law BookOnce, at every book and entry. -/
theorem bookOnce_any (hK : Books) (v1 v2 : Value) (js : List Jb) (rs : List Rg) (x : En) (w : World) (h1 : JobSl w v1 js) (h2 : RungSl w v2 rs) (hn1 : js.length ≤ most) (hn2 : rs.length ≤ most) :
    Calls Try.prog 4 #[.agg #[v1, v2], x.val] w fun e w' => e = .returned (.bool true) ∧ Below w.heap.size w w' := by
  by_cases h : (app js rs x).2 = 0
  · exact bookOnce_ok hK v1 v2 js rs x w h1 h2 (app_ok h).1 (app_ok h).2.1
  · exact bookOnce_bad hK v1 v2 js rs x w h1 h2 hn1 hn2 h

end Go.Proofs.Ytbkockoekelkkab
