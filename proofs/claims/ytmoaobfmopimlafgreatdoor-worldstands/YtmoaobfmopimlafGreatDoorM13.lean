/- For the law: Package world: play, does. Package world: learn. Package world: atClient. Package world: hear. Package world: what a node's function leaves of the world. -/
import Derived.Test.YtmoaobfmopimlafGreatDoorM12
namespace Go.Proofs.YtmoaobfmopimlafGreatDoor
open Go.RowKit
set_option linter.unusedSimpArgs false in
set_option maxHeartbeats 4000000 in
set_option maxRecDepth 100000 in
theorem w_play_full (c : Cl) (a1 a2 : Option Addr) (m1 k1 m2 k2 : Nat) (g1 : Nat) (w : World) (h60 : (c.n == 60) = true) :
    AnsT 141 #[c.val (.slice a1 m1 k1) (.slice a2 m2 k2), .slice (some ⟨g1, 0, none⟩) 3 3] w (Cl.zero, 2) := by
  have B0 : Aside (Below w.heap.size w ((w.alloc (boxC c (.slice a1 m1 k1) (.slice a2 m2 k2))).alloc (boxZ))) := grew (grew (Below.refl _ _) _) _
  have h0_0 : Aside (((w.alloc (boxC c (.slice a1 m1 k1) (.slice a2 m2 k2))).alloc (boxZ)).heap[w.heap.size]? = some (boxC c (.slice a1 m1 k1) (.slice a2 m2 k2))) := by
    have := heap_new w (boxC c (.slice a1 m1 k1) (.slice a2 m2 k2))
    exact heap_old (this) _
  have h1_0 : Aside (((w.alloc (boxC c (.slice a1 m1 k1) (.slice a2 m2 k2))).alloc (boxZ)).heap[w.heap.size + 1]? = some (boxZ)) := by
    have := heap_new (w.alloc (boxC c (.slice a1 m1 k1) (.slice a2 m2 k2))) (boxZ)
    rw [World.size_alloc] at this
    exact this
  go_enter Tryz.func141, Tryz.ntmps141
  go_upto_region 1 with fail
  generalize ((w.alloc (boxC c (.slice a1 m1 k1) (.slice a2 m2 k2))).alloc (boxZ)) = w0 at *
  have z0 : ∀ i, w0.cell? ⟨w.heap.size, i, none⟩ = #[Value.int .i64 c.p, .int .i64 c.d, .int .i64 c.e.k, .int .i64 c.e.j, .int .i64 c.e.v, .int .i64 c.e.t, .int .i64 c.e.c, .int .i64 c.a, .int .i64 c.l, .int .i64 c.n, .slice a1 m1 k1, .slice a2 m2 k2][i]? := fun i => Joins.cell_of_block h0_0.out i
  skip
  have z1 : ∀ i, w0.cell? ⟨w.heap.size + 1, i, none⟩ = #[Value.int .i64 0, .int .i64 0, .int .i64 0, .int .i64 0, .int .i64 0, .int .i64 0, .int .i64 0, .int .i64 0, .int .i64 0, .int .i64 0, .slice none 0 0, .slice none 0 0][i]? := fun i => Joins.cell_of_block h1_0.out i
  have fz1 : ∀ i, w0.frozen? ⟨w.heap.size + 1, i, none⟩ = false := fun i => Joins.unfrozen_of_block h1_0.out i
  go_wp2
  refine ret_st (p := 4) (q := 5) w0 (w.heap.size + 1) Cl.zero nil0 nil0 (o := Cl.zero) (u1 := nil0) (u2 := nil0) Tryz.results141 rfl rfl rfl h1_0.out rfl ?_
  exact ⟨nil0, nil0, rfl, bkT_nil _ rfl rfl, st12_below B0.out (by omega) _ _ _⟩
set_option linter.unusedSimpArgs false in
set_option maxHeartbeats 4000000 in
set_option maxRecDepth 100000 in
theorem w_play_late (c : Cl) (a1 a2 : Option Addr) (m1 k1 m2 k2 : Nat) (g1 : Nat) (w : World) (h60 : (c.n == 60) = false) (hup14 : w.cell? ⟨g1, 14, none⟩ = some (.bool false)) (_ : g1 < w.heap.size) :
    AnsT 141 #[c.val (.slice a1 m1 k1) (.slice a2 m2 k2), .slice (some ⟨g1, 0, none⟩) 3 3] w (Cl.zero, 7) := by
  have hu14 : Aside ((((w.alloc (boxC c (.slice a1 m1 k1) (.slice a2 m2 k2))).alloc (boxZ))).cell? ⟨g1, 14, none⟩ = some (.bool false)) := cell_later (grew (grew (Below.refl _ _) _) _) hup14
  have B0 : Aside (Below w.heap.size w ((w.alloc (boxC c (.slice a1 m1 k1) (.slice a2 m2 k2))).alloc (boxZ))) := grew (grew (Below.refl _ _) _) _
  have h0_0 : Aside (((w.alloc (boxC c (.slice a1 m1 k1) (.slice a2 m2 k2))).alloc (boxZ)).heap[w.heap.size]? = some (boxC c (.slice a1 m1 k1) (.slice a2 m2 k2))) := by
    have := heap_new w (boxC c (.slice a1 m1 k1) (.slice a2 m2 k2))
    exact heap_old (this) _
  have h1_0 : Aside (((w.alloc (boxC c (.slice a1 m1 k1) (.slice a2 m2 k2))).alloc (boxZ)).heap[w.heap.size + 1]? = some (boxZ)) := by
    have := heap_new (w.alloc (boxC c (.slice a1 m1 k1) (.slice a2 m2 k2))) (boxZ)
    rw [World.size_alloc] at this
    exact this
  go_enter Tryz.func141, Tryz.ntmps141
  go_upto_region 1 with fail
  generalize ((w.alloc (boxC c (.slice a1 m1 k1) (.slice a2 m2 k2))).alloc (boxZ)) = w0 at *
  have z0 : ∀ i, w0.cell? ⟨w.heap.size, i, none⟩ = #[Value.int .i64 c.p, .int .i64 c.d, .int .i64 c.e.k, .int .i64 c.e.j, .int .i64 c.e.v, .int .i64 c.e.t, .int .i64 c.e.c, .int .i64 c.a, .int .i64 c.l, .int .i64 c.n, .slice a1 m1 k1, .slice a2 m2 k2][i]? := fun i => Joins.cell_of_block h0_0.out i
  have hu := hu14.out
  skip
  have z1 : ∀ i, w0.cell? ⟨w.heap.size + 1, i, none⟩ = #[Value.int .i64 0, .int .i64 0, .int .i64 0, .int .i64 0, .int .i64 0, .int .i64 0, .int .i64 0, .int .i64 0, .int .i64 0, .int .i64 0, .slice none 0 0, .slice none 0 0][i]? := fun i => Joins.cell_of_block h1_0.out i
  have fz1 : ∀ i, w0.frozen? ⟨w.heap.size + 1, i, none⟩ = false := fun i => Joins.unfrozen_of_block h1_0.out i
  go_wp2
  refine ret_st (p := 4) (q := 5) w0 (w.heap.size + 1) Cl.zero nil0 nil0 (o := Cl.zero) (u1 := nil0) (u2 := nil0) Tryz.results141 rfl rfl rfl h1_0.out rfl ?_
  exact ⟨nil0, nil0, rfl, bkT_nil _ rfl rfl, st12_below B0.out (by omega) _ _ _⟩
theorem cell14 {w : World} {g1 : Nat} {xs : List Nb} {x2 : Nb} (hv : SlOf Nb.cells 5 w (.slice (some ⟨g1, 0, none⟩) 3 3) xs) (hx2 : xs[2]? = some x2) : w.cell? ⟨g1, 14, none⟩ = some (.bool x2.n.up) ∧ g1 < w.heap.size := by
  obtain ⟨b, off, he, hE⟩ := hv.at (by omega)
  injection he with he
  injection he with e1 e2 e3
  subst e1 e2
  have h := hE 2 x2 hx2 4 _ rfl
  refine ⟨by simpa using h, ?_⟩
  rcases Nat.lt_or_ge g1 w.heap.size with hh | hh
  · exact hh
  · rw [World.cell?, Array.getElem?_eq_none (by simpa using hh)] at h
    cases h
/-- Package world's play. -/
theorem w_play (c : Cl) (v1 v2 : Value) (xs : List Nb) (g1 : Nat) (w : World) (W : Wd) (hW : RW W) (hn : nodesOf xs = W.ns) (hb : BkAt w v1 v2 c) (hv : SlOf Nb.cells 5 w (.slice (some ⟨g1, 0, none⟩) 3 3) xs) (hu : ∀ x, x ∈ xs → NodeT w x) :
    AnsT 141 #[c.val v1 v2, .slice (some ⟨g1, 0, none⟩) 3 3] w (playAt W c) := by
  obtain ⟨a1, k1, a2, k2, rfl, rfl⟩ := bk_slices hb.1 hb.2
  have hl3 : xs.length = 3 := hv.len
  obtain ⟨x2, hx2⟩ : ∃ x2, xs[2]? = some x2 := ⟨xs[2]'(by omega), List.getElem?_eq_getElem _⟩
  have hnd : W.nd 2 = x2.n := by
    rw [Wd.nd, ← hn, List.getD_eq_getElem?_getD, show (2 : Int).toNat = 2 from rfl, nodes_at hx2]; rfl
  obtain ⟨h14, hgl⟩ := cell14 hv hx2
  have hus : W.us = (nodesOf xs).map Nd.u := by rw [Wd.us, hn]
  unfold playAt
  rw [hnd, hus]
  by_cases h60 : c.n = 60
  · rw [if_pos h60]
    exact w_play_full c a1 a2 _ k1 _ k2 g1 w (by rw [h60]; rfl)
  · rw [if_neg h60]
    have h60b : (c.n == 60) = false := by rw [beq_eq_false_iff_ne]; exact h60
    cases hup : x2.n.up with
    | false =>
      rw [if_pos rfl]
      rw [hup] at h14
      exact w_play_late c a1 a2 _ k1 _ k2 g1 w h60b h14 hgl
    | true =>
      rw [if_neg (by simp)]
      have hc : ckChain ((nodesOf xs).map Nd.u) = 0 := by rw [← hus]; exact hW.chain
      refine w_play_at c a1 a2 _ k1 _ k2 xs g1 w hb hv hu ⟨?_, fun y hy => ?_⟩ hc h60b hx2 hup
      · rw [List.length_map, hl3]; decide
      · obtain ⟨z, hz, rfl⟩ := List.mem_map.1 hy
        have hzn : z.n ∈ W.ns := by rw [← hn]; exact List.mem_map.2 ⟨z, hz, rfl⟩
        obtain ⟨k, hk⟩ := List.getElem?_of_mem hzn
        obtain ⟨_, _, R⟩ := rn_of (hW.node k _ hk)
        have := (Un.ck_zero.1 R.uck).2.1
        show z.n.u.cells.length ≤ topN
        rw [this]; decide
set_option linter.unusedSimpArgs false in
set_option maxHeartbeats 8000000 in
set_option maxRecDepth 100000 in
theorem w_does1 (c : Cl) (a1 a2 : Option Addr) (m1 k1 m2 k2 : Nat) (x : Hp) (w : World) (B : Nat)  (R : Cl) (f : Int) (hk1 : (x.k == 1) = true)
    (kc : ∀ W, Below w.heap.size w W → AnsT 137 #[c.val (.slice a1 m1 k1) (.slice a2 m2 k2), x.e.val] W (R, f)) :
    AnsT 110 #[.pointer (some ⟨B, 0, none⟩), c.val (.slice a1 m1 k1) (.slice a2 m2 k2), x.val] w (R, f) := by
  have KC : Aside _ := kc
  clear kc
  have B0 : Aside (Below w.heap.size w (((w.alloc (boxC c (.slice a1 m1 k1) (.slice a2 m2 k2))).alloc (boxH x)).alloc (boxZ))) := grew (grew (grew (Below.refl _ _) _) _) _
  have h0_0 : Aside ((((w.alloc (boxC c (.slice a1 m1 k1) (.slice a2 m2 k2))).alloc (boxH x)).alloc (boxZ)).heap[w.heap.size]? = some (boxC c (.slice a1 m1 k1) (.slice a2 m2 k2))) := by
    have := heap_new w (boxC c (.slice a1 m1 k1) (.slice a2 m2 k2))
    exact heap_old (heap_old (this) _) _
  have h1_0 : Aside ((((w.alloc (boxC c (.slice a1 m1 k1) (.slice a2 m2 k2))).alloc (boxH x)).alloc (boxZ)).heap[w.heap.size + 1]? = some (boxH x)) := by
    have := heap_new (w.alloc (boxC c (.slice a1 m1 k1) (.slice a2 m2 k2))) (boxH x)
    rw [World.size_alloc] at this
    exact heap_old (this) _
  have h2_0 : Aside ((((w.alloc (boxC c (.slice a1 m1 k1) (.slice a2 m2 k2))).alloc (boxH x)).alloc (boxZ)).heap[w.heap.size + 1 + 1]? = some (boxZ)) := by
    have := heap_new ((w.alloc (boxC c (.slice a1 m1 k1) (.slice a2 m2 k2))).alloc (boxH x)) (boxZ)
    rw [World.size_alloc, World.size_alloc] at this
    exact this
  go_enter Tryz.func110, Tryz.ntmps110
  go_upto_region 1 with fail
  generalize (((w.alloc (boxC c (.slice a1 m1 k1) (.slice a2 m2 k2))).alloc (boxH x)).alloc (boxZ)) = w0 at *
  have z0 : ∀ i, w0.cell? ⟨w.heap.size, i, none⟩ = #[Value.int .i64 c.p, .int .i64 c.d, .int .i64 c.e.k, .int .i64 c.e.j, .int .i64 c.e.v, .int .i64 c.e.t, .int .i64 c.e.c, .int .i64 c.a, .int .i64 c.l, .int .i64 c.n, .slice a1 m1 k1, .slice a2 m2 k2][i]? := fun i => Joins.cell_of_block h0_0.out i
  have z1 : ∀ i, w0.cell? ⟨w.heap.size + 1, i, none⟩ = #[Value.int .i64 x.k, .int .i64 x.c, .int .i64 x.n, .int .i64 x.j, .int .i64 x.p, .int .i64 x.e.k, .int .i64 x.e.j, .int .i64 x.e.v, .int .i64 x.e.t, .int .i64 x.e.c][i]? := fun i => Joins.cell_of_block h1_0.out i
  go_wp2_with fail
  refine (KC.out w0 B0.out).mono ?_
  rintro e w1 ⟨u1, u2, rfl, hT, hb1⟩
  have hR : Aside (w1.heap[w.heap.size + 1 + 1]? = some (boxZ)) := heap_below h2_0.out hb1 (heap_lt h2_0.out)
  have hB : Aside (Below w.heap.size w w1) := step_below1 B0.out hb1
  have HT : Aside (BkT w1 u1 u2 R) := hT
  obtain ⟨s1, o1, s2, o2, rfl, rfl⟩ := bk_slices hT.1.1 hT.1.2
  clear hb1 B0 hT h0_0 h1_0 h2_0 z0 z1 KC
  obtain ⟨n1, hn1⟩ : ∃ n, Hid ((R).js.length = n) := ⟨_, rfl⟩
  obtain ⟨n2, hn2⟩ : ∃ n, Hid ((R).rs.length = n) := ⟨_, rfl⟩
  rw [hn1.out, hn2.out] at HT ⊢
  have zr : ∀ i, w1.cell? ⟨w.heap.size + 1 + 1, i, none⟩ = #[Value.int .i64 0, .int .i64 0, .int .i64 0, .int .i64 0, .int .i64 0, .int .i64 0, .int .i64 0, .int .i64 0, .int .i64 0, .int .i64 0, .slice none 0 0, .slice none 0 0][i]? := fun i => Joins.cell_of_block hR.out i
  have fzr : ∀ i, w1.frozen? ⟨w.heap.size + 1 + 1, i, none⟩ = false := fun i => Joins.unfrozen_of_block hR.out i
  go_wp2
  refine ret_st (p := 6) (q := 7) w1 (w.heap.size + 1 + 1) (R) (.slice s1 n1 o1) (.slice s2 n2 o2) (o := Cl.zero) (u1 := nil0) (u2 := nil0) Tryz.results110 rfl rfl rfl hR.out rfl ?_
  exact ⟨(.slice s1 n1 o1), (.slice s2 n2 o2), rfl, bkT_st12 ⟨_, hR.out⟩ HT.out _ _ _, st12_below hB.out (by omega) _ _ _⟩
set_option linter.unusedSimpArgs false in
set_option maxHeartbeats 8000000 in
set_option maxRecDepth 100000 in
theorem w_does2 (c : Cl) (a1 a2 : Option Addr) (m1 k1 m2 k2 : Nat) (x : Hp) (w : World) (B : Nat) (vn vc : Value) (tip t : Int) (hbw : w.heap[B]? = some (boxW vn tip vc t)) (R : Cl) (f : Int) (hk1 : (x.k == 1) = false) (hk2 : (x.k == 2) = true)
    (kc : ∀ W, Below w.heap.size w W → AnsT 138 #[c.val (.slice a1 m1 k1) (.slice a2 m2 k2), .int .i64 x.c, .int .i64 x.j, .int .i64 t] W (R, f)) :
    AnsT 110 #[.pointer (some ⟨B, 0, none⟩), c.val (.slice a1 m1 k1) (.slice a2 m2 k2), x.val] w (R, f) := by
  have KC : Aside _ := kc
  have HW : Aside (w.heap[B]? = some (boxW vn tip vc t)) := hbw
  clear kc hbw
  have B0 : Aside (Below w.heap.size w (((w.alloc (boxC c (.slice a1 m1 k1) (.slice a2 m2 k2))).alloc (boxH x)).alloc (boxZ))) := grew (grew (grew (Below.refl _ _) _) _) _
  have h0_0 : Aside ((((w.alloc (boxC c (.slice a1 m1 k1) (.slice a2 m2 k2))).alloc (boxH x)).alloc (boxZ)).heap[w.heap.size]? = some (boxC c (.slice a1 m1 k1) (.slice a2 m2 k2))) := by
    have := heap_new w (boxC c (.slice a1 m1 k1) (.slice a2 m2 k2))
    exact heap_old (heap_old (this) _) _
  have h1_0 : Aside ((((w.alloc (boxC c (.slice a1 m1 k1) (.slice a2 m2 k2))).alloc (boxH x)).alloc (boxZ)).heap[w.heap.size + 1]? = some (boxH x)) := by
    have := heap_new (w.alloc (boxC c (.slice a1 m1 k1) (.slice a2 m2 k2))) (boxH x)
    rw [World.size_alloc] at this
    exact heap_old (this) _
  have h2_0 : Aside ((((w.alloc (boxC c (.slice a1 m1 k1) (.slice a2 m2 k2))).alloc (boxH x)).alloc (boxZ)).heap[w.heap.size + 1 + 1]? = some (boxZ)) := by
    have := heap_new ((w.alloc (boxC c (.slice a1 m1 k1) (.slice a2 m2 k2))).alloc (boxH x)) (boxZ)
    rw [World.size_alloc, World.size_alloc] at this
    exact this
  go_enter Tryz.func110, Tryz.ntmps110
  go_upto_region 1 with fail
  generalize (((w.alloc (boxC c (.slice a1 m1 k1) (.slice a2 m2 k2))).alloc (boxH x)).alloc (boxZ)) = w0 at *
  have HW0 : Aside (w0.heap[B]? = some (boxW vn tip vc t)) := heap_below HW.out B0.out (heap_lt HW.out)
  clear HW
  have z0 : ∀ i, w0.cell? ⟨w.heap.size, i, none⟩ = #[Value.int .i64 c.p, .int .i64 c.d, .int .i64 c.e.k, .int .i64 c.e.j, .int .i64 c.e.v, .int .i64 c.e.t, .int .i64 c.e.c, .int .i64 c.a, .int .i64 c.l, .int .i64 c.n, .slice a1 m1 k1, .slice a2 m2 k2][i]? := fun i => Joins.cell_of_block h0_0.out i
  have z1 : ∀ i, w0.cell? ⟨w.heap.size + 1, i, none⟩ = #[Value.int .i64 x.k, .int .i64 x.c, .int .i64 x.n, .int .i64 x.j, .int .i64 x.p, .int .i64 x.e.k, .int .i64 x.e.j, .int .i64 x.e.v, .int .i64 x.e.t, .int .i64 x.e.c][i]? := fun i => Joins.cell_of_block h1_0.out i
  go_upto_region 5 with fail
  clear z0 z1
  have h0_1 : Aside (w0.drew.heap[w.heap.size]? = some (boxC c (.slice a1 m1 k1) (.slice a2 m2 k2))) := h0_0.out
  have h1_1 : Aside (w0.drew.heap[w.heap.size + 1]? = some (boxH x)) := h1_0.out
  have h2_1 : Aside (w0.drew.heap[w.heap.size + 1 + 1]? = some (boxZ)) := h2_0.out
  have HW1 : Aside (w0.drew.heap[B]? = some (boxW vn tip vc t)) := HW0.out
  have B1 : Aside (Below w.heap.size w w0.drew) := B0.out.drew
  clear h0_0 h1_0 h2_0 HW0 B0
  refine wp_region_noPanic ?_
  refine region_L (fun w' => Below w0.drew.heap.size w0.drew w') 12 (by kernel_rfl) (Below.refl _ _) (fun hHeld => ?_)
  generalize w0.drew = w1 at *
  refine anyL_take (i := 0) (v := ?_) rfl (by kernel_rfl) (by kernel_rfl) (by kernel_rfl) (by kernel_rfl) (by kernel_rfl) (fun _ _ _ h => h) (Or.inl ⟨by rfl, ?_⟩) (by assumption) ?_
  rotate_left
  · (intro w0 hSw; have z := (show ∀ i, w0.cell? ⟨w.heap.size, i, none⟩ = #[Value.int .i64 c.p, .int .i64 c.d, .int .i64 c.e.k, .int .i64 c.e.j, .int .i64 c.e.v, .int .i64 c.e.t, .int .i64 c.e.c, .int .i64 c.a, .int .i64 c.l, .int .i64 c.n, .slice a1 m1 k1, .slice a2 m2 k2][i]? from fun i => Joins.cell_of_block (heap_below h0_1.out hSw (heap_lt h0_1.out)) i); clear hSw; go_simp; first | done | with_reducible rfl)
  try simp only [Act.put, List.setIfInBounds_toArray, List.set_cons_zero, List.set_cons_succ]
  refine anyL_take (i := 1) (v := ?_) rfl (by kernel_rfl) (by kernel_rfl) (by kernel_rfl) (by kernel_rfl) (by kernel_rfl) (fun _ _ _ h => h) (Or.inl ⟨by rfl, ?_⟩) (by assumption) ?_
  rotate_left
  · (intro w0 hSw; clear hSw; go_simp; first | done | with_reducible rfl)
  try simp only [Act.put, List.setIfInBounds_toArray, List.set_cons_zero, List.set_cons_succ]
  refine anyL_take (i := 2) (v := ?_) rfl (by kernel_rfl) (by kernel_rfl) (by kernel_rfl) (by kernel_rfl) (by kernel_rfl) (fun _ _ _ h => h) (Or.inl ⟨by rfl, ?_⟩) (by assumption) ?_
  rotate_left
  · (intro w0 hSw; have z := (show ∀ i, w0.cell? ⟨w.heap.size + 1, i, none⟩ = #[Value.int .i64 x.k, .int .i64 x.c, .int .i64 x.n, .int .i64 x.j, .int .i64 x.p, .int .i64 x.e.k, .int .i64 x.e.j, .int .i64 x.e.v, .int .i64 x.e.t, .int .i64 x.e.c][i]? from fun i => Joins.cell_of_block (heap_below h1_1.out hSw (heap_lt h1_1.out)) i); clear hSw; go_simp; first | done | with_reducible rfl)
  try simp only [Act.put, List.setIfInBounds_toArray, List.set_cons_zero, List.set_cons_succ]
  refine anyL_take (i := 3) (v := ?_) rfl (by kernel_rfl) (by kernel_rfl) (by kernel_rfl) (by kernel_rfl) (by kernel_rfl) (fun _ _ _ h => h) (Or.inl ⟨by rfl, ?_⟩) (by assumption) ?_
  rotate_left
  · (intro w0 hSw; clear hSw; go_simp; first | done | with_reducible rfl)
  try simp only [Act.put, List.setIfInBounds_toArray, List.set_cons_zero, List.set_cons_succ]
  refine anyL_take (i := 4) (v := ?_) rfl (by kernel_rfl) (by kernel_rfl) (by kernel_rfl) (by kernel_rfl) (by kernel_rfl) (fun _ _ _ h => h) (Or.inl ⟨by rfl, ?_⟩) (by assumption) ?_
  rotate_left
  · (intro w0 hSw; have z := (show ∀ i, w0.cell? ⟨w.heap.size + 1, i, none⟩ = #[Value.int .i64 x.k, .int .i64 x.c, .int .i64 x.n, .int .i64 x.j, .int .i64 x.p, .int .i64 x.e.k, .int .i64 x.e.j, .int .i64 x.e.v, .int .i64 x.e.t, .int .i64 x.e.c][i]? from fun i => Joins.cell_of_block (heap_below h1_1.out hSw (heap_lt h1_1.out)) i); clear hSw; go_simp; first | done | with_reducible rfl)
  try simp only [Act.put, List.setIfInBounds_toArray, List.set_cons_zero, List.set_cons_succ]
  refine anyL_take (i := 5) (v := ?_) rfl (by kernel_rfl) (by kernel_rfl) (by kernel_rfl) (by kernel_rfl) (by kernel_rfl) (fun _ _ _ h => h) (Or.inl ⟨by rfl, ?_⟩) (by assumption) ?_
  rotate_left
  · (intro w0 hSw; clear hSw; go_simp; first | done | with_reducible rfl)
  try simp only [Act.put, List.setIfInBounds_toArray, List.set_cons_zero, List.set_cons_succ]
  refine anyL_take (i := 6) (v := ?_) rfl (by kernel_rfl) (by kernel_rfl) (by kernel_rfl) (by kernel_rfl) (by kernel_rfl) (fun _ _ _ h => h) (Or.inl ⟨by rfl, ?_⟩) (by assumption) ?_
  rotate_left
  · (intro w0 hSw; clear hSw; go_simp; first | done | with_reducible rfl)
  try simp only [Act.put, List.setIfInBounds_toArray, List.set_cons_zero, List.set_cons_succ]
  refine anyL_take (i := 7) (v := ?_) rfl (by kernel_rfl) (by kernel_rfl) (by kernel_rfl) (by kernel_rfl) (by kernel_rfl) (fun _ _ _ h => h) (Or.inl ⟨by rfl, ?_⟩) (by assumption) ?_
  rotate_left
  · (intro w0 hSw; clear hSw; go_simp; first | done | with_reducible rfl)
  try simp only [Act.put, List.setIfInBounds_toArray, List.set_cons_zero, List.set_cons_succ]
  refine anyL_take (i := 8) (v := ?_) rfl (by kernel_rfl) (by kernel_rfl) (by kernel_rfl) (by kernel_rfl) (by kernel_rfl) (fun _ _ _ h => h) (Or.inl ⟨by rfl, ?_⟩) (by assumption) ?_
  rotate_left
  · (intro w0 hSw; have z := (show ∀ i, w0.cell? ⟨B, i, none⟩ = #[vn, .int .i64 tip, vc, .int .i64 t][i]? from fun i => Joins.cell_of_block (heap_below HW1.out hSw (heap_lt HW1.out)) i); clear hSw; go_simp; first | done | with_reducible rfl)
  try simp only [Act.put, List.setIfInBounds_toArray, List.set_cons_zero, List.set_cons_succ]
  refine anyL_one (i := 9) (by kernel_rfl) rfl (fun K hK => ?_)
  go_simp
  refine (KC.out _ B1.out).mono ?_
  rintro e w2 ⟨u1, u2, rfl, hT, hb2⟩
  have hR : Aside (w2.heap[w.heap.size + 1 + 1]? = some (boxZ)) := heap_below h2_1.out hb2 (heap_lt h2_1.out)
  have hB : Aside (Below w.heap.size w w2) := step_below1 B1.out hb2
  have HT : Aside (BkT w2 u1 u2 R) := hT
  obtain ⟨s1, o1, s2, o2, rfl, rfl⟩ := bk_slices hT.1.1 hT.1.2
  refine hK.out _ _ (fun _ => hb2) (fun hNext => ?_)
  replace hNext := hNext (by kernel_rfl)
  clear hK K hb2 B1 hT h2_1 KC
  try simp only [Act.put, List.setIfInBounds_toArray, List.set_cons_zero, List.set_cons_succ]
  obtain ⟨n1, hn1⟩ : ∃ n, Hid (R.js.length = n) := ⟨_, rfl⟩
  obtain ⟨n2, hn2⟩ : ∃ n, Hid (R.rs.length = n) := ⟨_, rfl⟩
  rw [hn1.out, hn2.out] at HT ⊢
  refine anyL_free (i := 10) (v := ?_) rfl (by kernel_rfl) (by kernel_rfl) (by kernel_rfl) (by kernel_rfl) (fun _ _ _ h => h) (Or.inl ⟨by rfl, ?_⟩) (by assumption) ?_
  rotate_left
  · (intro w0 _; go_simp; first | done | with_reducible rfl)
  try simp only [Act.put, List.setIfInBounds_toArray, List.set_cons_zero, List.set_cons_succ]
  refine anyL_free (i := 11) (v := ?_) rfl (by kernel_rfl) (by kernel_rfl) (by kernel_rfl) (by kernel_rfl) (fun _ _ _ h => h) (Or.inl ⟨by rfl, ?_⟩) (by assumption) ?_
  rotate_left
  · (intro w0 _; go_simp; first | done | with_reducible rfl)
  try simp only [Act.put, List.setIfInBounds_toArray, List.set_cons_zero, List.set_cons_succ]
  have zr : ∀ i, w2.cell? ⟨w.heap.size + 1 + 1, i, none⟩ = #[Value.int .i64 0, .int .i64 0, .int .i64 0, .int .i64 0, .int .i64 0, .int .i64 0, .int .i64 0, .int .i64 0, .int .i64 0, .int .i64 0, .slice none 0 0, .slice none 0 0][i]? := fun i => Joins.cell_of_block hR.out i
  have fzr : ∀ i, w2.frozen? ⟨w.heap.size + 1 + 1, i, none⟩ = false := fun i => Joins.unfrozen_of_block hR.out i
  clear hHeld
  refine anyL_one (i := 12) (by kernel_rfl) rfl (fun K hK => ?_)
  go_simp
  refine hK.out _ _ (fun h => absurd h (by decide +kernel)) (fun _ => ?_)
  clear hK K
  try simp only [Act.put, List.setIfInBounds_toArray, List.set_cons_zero, List.set_cons_succ]
  refine anyL_one (i := 13) (by kernel_rfl) rfl (fun K hK => ?_)
  go_simp
  refine hK.out _ _ (fun h => absurd h (by decide +kernel)) (fun _ => ?_)
  clear hK K
  try simp only [Act.put, List.setIfInBounds_toArray, List.set_cons_zero, List.set_cons_succ]
  refine anyL_done (by kernel_rfl) ?_ _
  refine NoPanic.normal ?_
  try simp only [Act.put, List.setIfInBounds_toArray, List.set_cons_zero, List.set_cons_succ]
  go_wp2
  refine ret_st (p := 6) (q := 7) w2 (w.heap.size + 1 + 1) R (.slice s1 n1 o1) (.slice s2 n2 o2) (o := Cl.zero) (u1 := nil0) (u2 := nil0) Tryz.results110 rfl rfl rfl hR.out rfl ?_
  exact ⟨(.slice s1 n1 o1), (.slice s2 n2 o2), rfl, bkT_st12 ⟨_, hR.out⟩ HT.out _ _ _, st12_below hB.out (by omega) _ _ _⟩
set_option linter.unusedSimpArgs false in
set_option maxHeartbeats 8000000 in
set_option maxRecDepth 100000 in
theorem w_does3 (c : Cl) (a1 a2 : Option Addr) (m1 k1 m2 k2 : Nat) (x : Hp) (w : World) (B : Nat) (vn vc : Value) (tip t : Int) (hbw : w.heap[B]? = some (boxW vn tip vc t)) (R : Cl) (f : Int) (hk1 : (x.k == 1) = false) (hk2 : (x.k == 2) = false) (hk3 : (x.k == 3) = true)
    (kc : ∀ W, Below w.heap.size w W → AnsT 139 #[c.val (.slice a1 m1 k1) (.slice a2 m2 k2), .int .i64 tip] W (R, f)) :
    AnsT 110 #[.pointer (some ⟨B, 0, none⟩), c.val (.slice a1 m1 k1) (.slice a2 m2 k2), x.val] w (R, f) := by
  have KC : Aside _ := kc
  have HW : Aside (w.heap[B]? = some (boxW vn tip vc t)) := hbw
  clear kc hbw
  have B0 : Aside (Below w.heap.size w (((w.alloc (boxC c (.slice a1 m1 k1) (.slice a2 m2 k2))).alloc (boxH x)).alloc (boxZ))) := grew (grew (grew (Below.refl _ _) _) _) _
  have h0_0 : Aside ((((w.alloc (boxC c (.slice a1 m1 k1) (.slice a2 m2 k2))).alloc (boxH x)).alloc (boxZ)).heap[w.heap.size]? = some (boxC c (.slice a1 m1 k1) (.slice a2 m2 k2))) := by
    have := heap_new w (boxC c (.slice a1 m1 k1) (.slice a2 m2 k2))
    exact heap_old (heap_old (this) _) _
  have h1_0 : Aside ((((w.alloc (boxC c (.slice a1 m1 k1) (.slice a2 m2 k2))).alloc (boxH x)).alloc (boxZ)).heap[w.heap.size + 1]? = some (boxH x)) := by
    have := heap_new (w.alloc (boxC c (.slice a1 m1 k1) (.slice a2 m2 k2))) (boxH x)
    rw [World.size_alloc] at this
    exact heap_old (this) _
  have h2_0 : Aside ((((w.alloc (boxC c (.slice a1 m1 k1) (.slice a2 m2 k2))).alloc (boxH x)).alloc (boxZ)).heap[w.heap.size + 1 + 1]? = some (boxZ)) := by
    have := heap_new ((w.alloc (boxC c (.slice a1 m1 k1) (.slice a2 m2 k2))).alloc (boxH x)) (boxZ)
    rw [World.size_alloc, World.size_alloc] at this
    exact this
  go_enter Tryz.func110, Tryz.ntmps110
  go_upto_region 1 with fail
  generalize (((w.alloc (boxC c (.slice a1 m1 k1) (.slice a2 m2 k2))).alloc (boxH x)).alloc (boxZ)) = w0 at *
  have HW0 : Aside (w0.heap[B]? = some (boxW vn tip vc t)) := heap_below HW.out B0.out (heap_lt HW.out)
  clear HW
  have z0 : ∀ i, w0.cell? ⟨w.heap.size, i, none⟩ = #[Value.int .i64 c.p, .int .i64 c.d, .int .i64 c.e.k, .int .i64 c.e.j, .int .i64 c.e.v, .int .i64 c.e.t, .int .i64 c.e.c, .int .i64 c.a, .int .i64 c.l, .int .i64 c.n, .slice a1 m1 k1, .slice a2 m2 k2][i]? := fun i => Joins.cell_of_block h0_0.out i
  have z1 : ∀ i, w0.cell? ⟨w.heap.size + 1, i, none⟩ = #[Value.int .i64 x.k, .int .i64 x.c, .int .i64 x.n, .int .i64 x.j, .int .i64 x.p, .int .i64 x.e.k, .int .i64 x.e.j, .int .i64 x.e.v, .int .i64 x.e.t, .int .i64 x.e.c][i]? := fun i => Joins.cell_of_block h1_0.out i
  go_upto_region 7 with fail
  clear z0 z1
  have h0_1 : Aside (w0.drew.heap[w.heap.size]? = some (boxC c (.slice a1 m1 k1) (.slice a2 m2 k2))) := h0_0.out
  have h1_1 : Aside (w0.drew.heap[w.heap.size + 1]? = some (boxH x)) := h1_0.out
  have h2_1 : Aside (w0.drew.heap[w.heap.size + 1 + 1]? = some (boxZ)) := h2_0.out
  have HW1 : Aside (w0.drew.heap[B]? = some (boxW vn tip vc t)) := HW0.out
  have B1 : Aside (Below w.heap.size w w0.drew) := B0.out.drew
  clear h0_0 h1_0 h2_0 HW0 B0
  refine wp_region_noPanic ?_
  refine region_L (fun w' => Below w0.drew.heap.size w0.drew w') 8 (by kernel_rfl) (Below.refl _ _) (fun hHeld => ?_)
  generalize w0.drew = w1 at *
  refine anyL_take (i := 0) (v := ?_) rfl (by kernel_rfl) (by kernel_rfl) (by kernel_rfl) (by kernel_rfl) (by kernel_rfl) (fun _ _ _ h => h) (Or.inl ⟨by rfl, ?_⟩) (by assumption) ?_
  rotate_left
  · (intro w0 hSw; have z := (show ∀ i, w0.cell? ⟨w.heap.size, i, none⟩ = #[Value.int .i64 c.p, .int .i64 c.d, .int .i64 c.e.k, .int .i64 c.e.j, .int .i64 c.e.v, .int .i64 c.e.t, .int .i64 c.e.c, .int .i64 c.a, .int .i64 c.l, .int .i64 c.n, .slice a1 m1 k1, .slice a2 m2 k2][i]? from fun i => Joins.cell_of_block (heap_below h0_1.out hSw (heap_lt h0_1.out)) i); clear hSw; go_simp; first | done | with_reducible rfl)
  try simp only [Act.put, List.setIfInBounds_toArray, List.set_cons_zero, List.set_cons_succ]
  refine anyL_take (i := 1) (v := ?_) rfl (by kernel_rfl) (by kernel_rfl) (by kernel_rfl) (by kernel_rfl) (by kernel_rfl) (fun _ _ _ h => h) (Or.inl ⟨by rfl, ?_⟩) (by assumption) ?_
  rotate_left
  · (intro w0 hSw; clear hSw; go_simp; first | done | with_reducible rfl)
  try simp only [Act.put, List.setIfInBounds_toArray, List.set_cons_zero, List.set_cons_succ]
  refine anyL_take (i := 2) (v := ?_) rfl (by kernel_rfl) (by kernel_rfl) (by kernel_rfl) (by kernel_rfl) (by kernel_rfl) (fun _ _ _ h => h) (Or.inl ⟨by rfl, ?_⟩) (by assumption) ?_
  rotate_left
  · (intro w0 hSw; clear hSw; go_simp; first | done | with_reducible rfl)
  try simp only [Act.put, List.setIfInBounds_toArray, List.set_cons_zero, List.set_cons_succ]
  refine anyL_take (i := 3) (v := ?_) rfl (by kernel_rfl) (by kernel_rfl) (by kernel_rfl) (by kernel_rfl) (by kernel_rfl) (fun _ _ _ h => h) (Or.inl ⟨by rfl, ?_⟩) (by assumption) ?_
  rotate_left
  · (intro w0 hSw; clear hSw; go_simp; first | done | with_reducible rfl)
  try simp only [Act.put, List.setIfInBounds_toArray, List.set_cons_zero, List.set_cons_succ]
  refine anyL_take (i := 4) (v := ?_) rfl (by kernel_rfl) (by kernel_rfl) (by kernel_rfl) (by kernel_rfl) (by kernel_rfl) (fun _ _ _ h => h) (Or.inl ⟨by rfl, ?_⟩) (by assumption) ?_
  rotate_left
  · (intro w0 hSw; have z := (show ∀ i, w0.cell? ⟨B, i, none⟩ = #[vn, .int .i64 tip, vc, .int .i64 t][i]? from fun i => Joins.cell_of_block (heap_below HW1.out hSw (heap_lt HW1.out)) i); clear hSw; go_simp; first | done | with_reducible rfl)
  try simp only [Act.put, List.setIfInBounds_toArray, List.set_cons_zero, List.set_cons_succ]
  refine anyL_one (i := 5) (by kernel_rfl) rfl (fun K hK => ?_)
  go_simp
  refine (KC.out _ B1.out).mono ?_
  rintro e w2 ⟨u1, u2, rfl, hT, hb2⟩
  have hR : Aside (w2.heap[w.heap.size + 1 + 1]? = some (boxZ)) := heap_below h2_1.out hb2 (heap_lt h2_1.out)
  have hB : Aside (Below w.heap.size w w2) := step_below1 B1.out hb2
  have HT : Aside (BkT w2 u1 u2 R) := hT
  obtain ⟨s1, o1, s2, o2, rfl, rfl⟩ := bk_slices hT.1.1 hT.1.2
  refine hK.out _ _ (fun _ => hb2) (fun hNext => ?_)
  replace hNext := hNext (by kernel_rfl)
  clear hK K hb2 B1 hT h2_1 KC
  try simp only [Act.put, List.setIfInBounds_toArray, List.set_cons_zero, List.set_cons_succ]
  obtain ⟨n1, hn1⟩ : ∃ n, Hid (R.js.length = n) := ⟨_, rfl⟩
  obtain ⟨n2, hn2⟩ : ∃ n, Hid (R.rs.length = n) := ⟨_, rfl⟩
  rw [hn1.out, hn2.out] at HT ⊢
  refine anyL_free (i := 6) (v := ?_) rfl (by kernel_rfl) (by kernel_rfl) (by kernel_rfl) (by kernel_rfl) (fun _ _ _ h => h) (Or.inl ⟨by rfl, ?_⟩) (by assumption) ?_
  rotate_left
  · (intro w0 _; go_simp; first | done | with_reducible rfl)
  try simp only [Act.put, List.setIfInBounds_toArray, List.set_cons_zero, List.set_cons_succ]
  refine anyL_free (i := 7) (v := ?_) rfl (by kernel_rfl) (by kernel_rfl) (by kernel_rfl) (by kernel_rfl) (fun _ _ _ h => h) (Or.inl ⟨by rfl, ?_⟩) (by assumption) ?_
  rotate_left
  · (intro w0 _; go_simp; first | done | with_reducible rfl)
  try simp only [Act.put, List.setIfInBounds_toArray, List.set_cons_zero, List.set_cons_succ]
  have zr : ∀ i, w2.cell? ⟨w.heap.size + 1 + 1, i, none⟩ = #[Value.int .i64 0, .int .i64 0, .int .i64 0, .int .i64 0, .int .i64 0, .int .i64 0, .int .i64 0, .int .i64 0, .int .i64 0, .int .i64 0, .slice none 0 0, .slice none 0 0][i]? := fun i => Joins.cell_of_block hR.out i
  have fzr : ∀ i, w2.frozen? ⟨w.heap.size + 1 + 1, i, none⟩ = false := fun i => Joins.unfrozen_of_block hR.out i
  clear hHeld
  refine anyL_one (i := 8) (by kernel_rfl) rfl (fun K hK => ?_)
  go_simp
  refine hK.out _ _ (fun h => absurd h (by decide +kernel)) (fun _ => ?_)
  clear hK K
  try simp only [Act.put, List.setIfInBounds_toArray, List.set_cons_zero, List.set_cons_succ]
  refine anyL_one (i := 9) (by kernel_rfl) rfl (fun K hK => ?_)
  go_simp
  refine hK.out _ _ (fun h => absurd h (by decide +kernel)) (fun _ => ?_)
  clear hK K
  try simp only [Act.put, List.setIfInBounds_toArray, List.set_cons_zero, List.set_cons_succ]
  refine anyL_done (by kernel_rfl) ?_ _
  refine NoPanic.normal ?_
  try simp only [Act.put, List.setIfInBounds_toArray, List.set_cons_zero, List.set_cons_succ]
  go_wp2
  refine ret_st (p := 6) (q := 7) w2 (w.heap.size + 1 + 1) R (.slice s1 n1 o1) (.slice s2 n2 o2) (o := Cl.zero) (u1 := nil0) (u2 := nil0) Tryz.results110 rfl rfl rfl hR.out rfl ?_
  exact ⟨(.slice s1 n1 o1), (.slice s2 n2 o2), rfl, bkT_st12 ⟨_, hR.out⟩ HT.out _ _ _, st12_below hB.out (by omega) _ _ _⟩
set_option linter.unusedSimpArgs false in
set_option maxHeartbeats 8000000 in
set_option maxRecDepth 100000 in
theorem w_does6 (c : Cl) (a1 a2 : Option Addr) (m1 k1 m2 k2 : Nat) (x : Hp) (w : World) (B : Nat)  (R : Cl) (f : Int) (hk1 : (x.k == 1) = false) (hk2 : (x.k == 2) = false) (hk3 : (x.k == 3) = false) (hk6 : (x.k == 6) = true)
    (kc : ∀ W, Below w.heap.size w W → AnsT 140 #[c.val (.slice a1 m1 k1) (.slice a2 m2 k2), .int .i64 x.n] W (R, f)) :
    AnsT 110 #[.pointer (some ⟨B, 0, none⟩), c.val (.slice a1 m1 k1) (.slice a2 m2 k2), x.val] w (R, f) := by
  have KC : Aside _ := kc
  clear kc
  have B0 : Aside (Below w.heap.size w (((w.alloc (boxC c (.slice a1 m1 k1) (.slice a2 m2 k2))).alloc (boxH x)).alloc (boxZ))) := grew (grew (grew (Below.refl _ _) _) _) _
  have h0_0 : Aside ((((w.alloc (boxC c (.slice a1 m1 k1) (.slice a2 m2 k2))).alloc (boxH x)).alloc (boxZ)).heap[w.heap.size]? = some (boxC c (.slice a1 m1 k1) (.slice a2 m2 k2))) := by
    have := heap_new w (boxC c (.slice a1 m1 k1) (.slice a2 m2 k2))
    exact heap_old (heap_old (this) _) _
  have h1_0 : Aside ((((w.alloc (boxC c (.slice a1 m1 k1) (.slice a2 m2 k2))).alloc (boxH x)).alloc (boxZ)).heap[w.heap.size + 1]? = some (boxH x)) := by
    have := heap_new (w.alloc (boxC c (.slice a1 m1 k1) (.slice a2 m2 k2))) (boxH x)
    rw [World.size_alloc] at this
    exact heap_old (this) _
  have h2_0 : Aside ((((w.alloc (boxC c (.slice a1 m1 k1) (.slice a2 m2 k2))).alloc (boxH x)).alloc (boxZ)).heap[w.heap.size + 1 + 1]? = some (boxZ)) := by
    have := heap_new ((w.alloc (boxC c (.slice a1 m1 k1) (.slice a2 m2 k2))).alloc (boxH x)) (boxZ)
    rw [World.size_alloc, World.size_alloc] at this
    exact this
  go_enter Tryz.func110, Tryz.ntmps110
  go_upto_region 1 with fail
  generalize (((w.alloc (boxC c (.slice a1 m1 k1) (.slice a2 m2 k2))).alloc (boxH x)).alloc (boxZ)) = w0 at *
  have z0 : ∀ i, w0.cell? ⟨w.heap.size, i, none⟩ = #[Value.int .i64 c.p, .int .i64 c.d, .int .i64 c.e.k, .int .i64 c.e.j, .int .i64 c.e.v, .int .i64 c.e.t, .int .i64 c.e.c, .int .i64 c.a, .int .i64 c.l, .int .i64 c.n, .slice a1 m1 k1, .slice a2 m2 k2][i]? := fun i => Joins.cell_of_block h0_0.out i
  have z1 : ∀ i, w0.cell? ⟨w.heap.size + 1, i, none⟩ = #[Value.int .i64 x.k, .int .i64 x.c, .int .i64 x.n, .int .i64 x.j, .int .i64 x.p, .int .i64 x.e.k, .int .i64 x.e.j, .int .i64 x.e.v, .int .i64 x.e.t, .int .i64 x.e.c][i]? := fun i => Joins.cell_of_block h1_0.out i
  go_wp2_with fail
  refine (KC.out w0 B0.out).mono ?_
  rintro e w1 ⟨u1, u2, rfl, hT, hb1⟩
  have hR : Aside (w1.heap[w.heap.size + 1 + 1]? = some (boxZ)) := heap_below h2_0.out hb1 (heap_lt h2_0.out)
  have hB : Aside (Below w.heap.size w w1) := step_below1 B0.out hb1
  have HT : Aside (BkT w1 u1 u2 R) := hT
  obtain ⟨s1, o1, s2, o2, rfl, rfl⟩ := bk_slices hT.1.1 hT.1.2
  clear hb1 B0 hT h0_0 h1_0 h2_0 z0 z1 KC
  obtain ⟨n1, hn1⟩ : ∃ n, Hid ((R).js.length = n) := ⟨_, rfl⟩
  obtain ⟨n2, hn2⟩ : ∃ n, Hid ((R).rs.length = n) := ⟨_, rfl⟩
  rw [hn1.out, hn2.out] at HT ⊢
  have zr : ∀ i, w1.cell? ⟨w.heap.size + 1 + 1, i, none⟩ = #[Value.int .i64 0, .int .i64 0, .int .i64 0, .int .i64 0, .int .i64 0, .int .i64 0, .int .i64 0, .int .i64 0, .int .i64 0, .int .i64 0, .slice none 0 0, .slice none 0 0][i]? := fun i => Joins.cell_of_block hR.out i
  have fzr : ∀ i, w1.frozen? ⟨w.heap.size + 1 + 1, i, none⟩ = false := fun i => Joins.unfrozen_of_block hR.out i
  go_wp2
  refine ret_st (p := 6) (q := 7) w1 (w.heap.size + 1 + 1) (R) (.slice s1 n1 o1) (.slice s2 n2 o2) (o := Cl.zero) (u1 := nil0) (u2 := nil0) Tryz.results110 rfl rfl rfl hR.out rfl ?_
  exact ⟨(.slice s1 n1 o1), (.slice s2 n2 o2), rfl, bkT_st12 ⟨_, hR.out⟩ HT.out _ _ _, st12_below hB.out (by omega) _ _ _⟩
set_option linter.unusedSimpArgs false in
set_option maxHeartbeats 8000000 in
set_option maxRecDepth 100000 in
theorem w_does7 (c : Cl) (a1 a2 : Option Addr) (m1 k1 m2 k2 : Nat) (x : Hp) (w : World) (B : Nat) (v0 : Option Addr) (l0 q0 : Nat) (vc : Value) (tip t : Int) (hbw : w.heap[B]? = some (boxW (.slice v0 l0 q0) tip vc t)) (R : Cl) (f : Int) (hk1 : (x.k == 1) = false) (hk2 : (x.k == 2) = false) (hk3 : (x.k == 3) = false) (hk6 : (x.k == 6) = false) (hk7 : (x.k == 7) = true)
    (kc : ∀ W, Below w.heap.size w W → AnsT 141 #[c.val (.slice a1 m1 k1) (.slice a2 m2 k2), (.slice v0 l0 q0)] W (R, f)) :
    AnsT 110 #[.pointer (some ⟨B, 0, none⟩), c.val (.slice a1 m1 k1) (.slice a2 m2 k2), x.val] w (R, f) := by
  have KC : Aside _ := kc
  have HW : Aside (w.heap[B]? = some (boxW (.slice v0 l0 q0) tip vc t)) := hbw
  clear kc hbw
  have B0 : Aside (Below w.heap.size w (((w.alloc (boxC c (.slice a1 m1 k1) (.slice a2 m2 k2))).alloc (boxH x)).alloc (boxZ))) := grew (grew (grew (Below.refl _ _) _) _) _
  have h0_0 : Aside ((((w.alloc (boxC c (.slice a1 m1 k1) (.slice a2 m2 k2))).alloc (boxH x)).alloc (boxZ)).heap[w.heap.size]? = some (boxC c (.slice a1 m1 k1) (.slice a2 m2 k2))) := by
    have := heap_new w (boxC c (.slice a1 m1 k1) (.slice a2 m2 k2))
    exact heap_old (heap_old (this) _) _
  have h1_0 : Aside ((((w.alloc (boxC c (.slice a1 m1 k1) (.slice a2 m2 k2))).alloc (boxH x)).alloc (boxZ)).heap[w.heap.size + 1]? = some (boxH x)) := by
    have := heap_new (w.alloc (boxC c (.slice a1 m1 k1) (.slice a2 m2 k2))) (boxH x)
    rw [World.size_alloc] at this
    exact heap_old (this) _
  have h2_0 : Aside ((((w.alloc (boxC c (.slice a1 m1 k1) (.slice a2 m2 k2))).alloc (boxH x)).alloc (boxZ)).heap[w.heap.size + 1 + 1]? = some (boxZ)) := by
    have := heap_new ((w.alloc (boxC c (.slice a1 m1 k1) (.slice a2 m2 k2))).alloc (boxH x)) (boxZ)
    rw [World.size_alloc, World.size_alloc] at this
    exact this
  go_enter Tryz.func110, Tryz.ntmps110
  go_upto_region 1 with fail
  generalize (((w.alloc (boxC c (.slice a1 m1 k1) (.slice a2 m2 k2))).alloc (boxH x)).alloc (boxZ)) = w0 at *
  have HW0 : Aside (w0.heap[B]? = some (boxW (.slice v0 l0 q0) tip vc t)) := heap_below HW.out B0.out (heap_lt HW.out)
  clear HW
  have z0 : ∀ i, w0.cell? ⟨w.heap.size, i, none⟩ = #[Value.int .i64 c.p, .int .i64 c.d, .int .i64 c.e.k, .int .i64 c.e.j, .int .i64 c.e.v, .int .i64 c.e.t, .int .i64 c.e.c, .int .i64 c.a, .int .i64 c.l, .int .i64 c.n, .slice a1 m1 k1, .slice a2 m2 k2][i]? := fun i => Joins.cell_of_block h0_0.out i
  have z1 : ∀ i, w0.cell? ⟨w.heap.size + 1, i, none⟩ = #[Value.int .i64 x.k, .int .i64 x.c, .int .i64 x.n, .int .i64 x.j, .int .i64 x.p, .int .i64 x.e.k, .int .i64 x.e.j, .int .i64 x.e.v, .int .i64 x.e.t, .int .i64 x.e.c][i]? := fun i => Joins.cell_of_block h1_0.out i
  go_upto_region 11 with fail
  clear z0 z1
  have h0_1 : Aside (w0.drew.heap[w.heap.size]? = some (boxC c (.slice a1 m1 k1) (.slice a2 m2 k2))) := h0_0.out
  have h1_1 : Aside (w0.drew.heap[w.heap.size + 1]? = some (boxH x)) := h1_0.out
  have h2_1 : Aside (w0.drew.heap[w.heap.size + 1 + 1]? = some (boxZ)) := h2_0.out
  have HW1 : Aside (w0.drew.heap[B]? = some (boxW (.slice v0 l0 q0) tip vc t)) := HW0.out
  have B1 : Aside (Below w.heap.size w w0.drew) := B0.out.drew
  clear h0_0 h1_0 h2_0 HW0 B0
  refine wp_region_noPanic ?_
  refine region_L (fun w' => Below w0.drew.heap.size w0.drew w') 8 (by kernel_rfl) (Below.refl _ _) (fun hHeld => ?_)
  generalize w0.drew = w1 at *
  refine anyL_take (i := 0) (v := ?_) rfl (by kernel_rfl) (by kernel_rfl) (by kernel_rfl) (by kernel_rfl) (by kernel_rfl) (fun _ _ _ h => h) (Or.inl ⟨by rfl, ?_⟩) (by assumption) ?_
  rotate_left
  · (intro w0 hSw; have z := (show ∀ i, w0.cell? ⟨w.heap.size, i, none⟩ = #[Value.int .i64 c.p, .int .i64 c.d, .int .i64 c.e.k, .int .i64 c.e.j, .int .i64 c.e.v, .int .i64 c.e.t, .int .i64 c.e.c, .int .i64 c.a, .int .i64 c.l, .int .i64 c.n, .slice a1 m1 k1, .slice a2 m2 k2][i]? from fun i => Joins.cell_of_block (heap_below h0_1.out hSw (heap_lt h0_1.out)) i); clear hSw; go_simp; first | done | with_reducible rfl)
  try simp only [Act.put, List.setIfInBounds_toArray, List.set_cons_zero, List.set_cons_succ]
  refine anyL_take (i := 1) (v := ?_) rfl (by kernel_rfl) (by kernel_rfl) (by kernel_rfl) (by kernel_rfl) (by kernel_rfl) (fun _ _ _ h => h) (Or.inl ⟨by rfl, ?_⟩) (by assumption) ?_
  rotate_left
  · (intro w0 hSw; clear hSw; go_simp; first | done | with_reducible rfl)
  try simp only [Act.put, List.setIfInBounds_toArray, List.set_cons_zero, List.set_cons_succ]
  refine anyL_take (i := 2) (v := ?_) rfl (by kernel_rfl) (by kernel_rfl) (by kernel_rfl) (by kernel_rfl) (by kernel_rfl) (fun _ _ _ h => h) (Or.inl ⟨by rfl, ?_⟩) (by assumption) ?_
  rotate_left
  · (intro w0 hSw; clear hSw; go_simp; first | done | with_reducible rfl)
  try simp only [Act.put, List.setIfInBounds_toArray, List.set_cons_zero, List.set_cons_succ]
  refine anyL_take (i := 3) (v := ?_) rfl (by kernel_rfl) (by kernel_rfl) (by kernel_rfl) (by kernel_rfl) (by kernel_rfl) (fun _ _ _ h => h) (Or.inl ⟨by rfl, ?_⟩) (by assumption) ?_
  rotate_left
  · (intro w0 hSw; clear hSw; go_simp; first | done | with_reducible rfl)
  try simp only [Act.put, List.setIfInBounds_toArray, List.set_cons_zero, List.set_cons_succ]
  refine anyL_take (i := 4) (v := ?_) rfl (by kernel_rfl) (by kernel_rfl) (by kernel_rfl) (by kernel_rfl) (by kernel_rfl) (fun _ _ _ h => h) (Or.inl ⟨by rfl, ?_⟩) (by assumption) ?_
  rotate_left
  · (intro w0 hSw; have z := (show ∀ i, w0.cell? ⟨B, i, none⟩ = #[Value.slice v0 l0 q0, .int .i64 tip, vc, .int .i64 t][i]? from fun i => Joins.cell_of_block (heap_below HW1.out hSw (heap_lt HW1.out)) i); clear hSw; go_simp; first | done | with_reducible rfl)
  try simp only [Act.put, List.setIfInBounds_toArray, List.set_cons_zero, List.set_cons_succ]
  refine anyL_one (i := 5) (by kernel_rfl) rfl (fun K hK => ?_)
  go_simp
  refine (KC.out _ B1.out).mono ?_
  rintro e w2 ⟨u1, u2, rfl, hT, hb2⟩
  have hR : Aside (w2.heap[w.heap.size + 1 + 1]? = some (boxZ)) := heap_below h2_1.out hb2 (heap_lt h2_1.out)
  have hB : Aside (Below w.heap.size w w2) := step_below1 B1.out hb2
  have HT : Aside (BkT w2 u1 u2 R) := hT
  obtain ⟨s1, o1, s2, o2, rfl, rfl⟩ := bk_slices hT.1.1 hT.1.2
  refine hK.out _ _ (fun _ => hb2) (fun hNext => ?_)
  replace hNext := hNext (by kernel_rfl)
  clear hK K hb2 B1 hT h2_1 KC
  try simp only [Act.put, List.setIfInBounds_toArray, List.set_cons_zero, List.set_cons_succ]
  obtain ⟨n1, hn1⟩ : ∃ n, Hid (R.js.length = n) := ⟨_, rfl⟩
  obtain ⟨n2, hn2⟩ : ∃ n, Hid (R.rs.length = n) := ⟨_, rfl⟩
  rw [hn1.out, hn2.out] at HT ⊢
  refine anyL_free (i := 6) (v := ?_) rfl (by kernel_rfl) (by kernel_rfl) (by kernel_rfl) (by kernel_rfl) (fun _ _ _ h => h) (Or.inl ⟨by rfl, ?_⟩) (by assumption) ?_
  rotate_left
  · (intro w0 _; go_simp; first | done | with_reducible rfl)
  try simp only [Act.put, List.setIfInBounds_toArray, List.set_cons_zero, List.set_cons_succ]
  refine anyL_free (i := 7) (v := ?_) rfl (by kernel_rfl) (by kernel_rfl) (by kernel_rfl) (by kernel_rfl) (fun _ _ _ h => h) (Or.inl ⟨by rfl, ?_⟩) (by assumption) ?_
  rotate_left
  · (intro w0 _; go_simp; first | done | with_reducible rfl)
  try simp only [Act.put, List.setIfInBounds_toArray, List.set_cons_zero, List.set_cons_succ]
  have zr : ∀ i, w2.cell? ⟨w.heap.size + 1 + 1, i, none⟩ = #[Value.int .i64 0, .int .i64 0, .int .i64 0, .int .i64 0, .int .i64 0, .int .i64 0, .int .i64 0, .int .i64 0, .int .i64 0, .int .i64 0, .slice none 0 0, .slice none 0 0][i]? := fun i => Joins.cell_of_block hR.out i
  have fzr : ∀ i, w2.frozen? ⟨w.heap.size + 1 + 1, i, none⟩ = false := fun i => Joins.unfrozen_of_block hR.out i
  clear hHeld
  refine anyL_one (i := 8) (by kernel_rfl) rfl (fun K hK => ?_)
  go_simp
  refine hK.out _ _ (fun h => absurd h (by decide +kernel)) (fun _ => ?_)
  clear hK K
  try simp only [Act.put, List.setIfInBounds_toArray, List.set_cons_zero, List.set_cons_succ]
  refine anyL_one (i := 9) (by kernel_rfl) rfl (fun K hK => ?_)
  go_simp
  refine hK.out _ _ (fun h => absurd h (by decide +kernel)) (fun _ => ?_)
  clear hK K
  try simp only [Act.put, List.setIfInBounds_toArray, List.set_cons_zero, List.set_cons_succ]
  refine anyL_done (by kernel_rfl) ?_ _
  refine NoPanic.normal ?_
  try simp only [Act.put, List.setIfInBounds_toArray, List.set_cons_zero, List.set_cons_succ]
  go_wp2
  refine ret_st (p := 6) (q := 7) w2 (w.heap.size + 1 + 1) R (.slice s1 n1 o1) (.slice s2 n2 o2) (o := Cl.zero) (u1 := nil0) (u2 := nil0) Tryz.results110 rfl rfl rfl hR.out rfl ?_
  exact ⟨(.slice s1 n1 o1), (.slice s2 n2 o2), rfl, bkT_st12 ⟨_, hR.out⟩ HT.out _ _ _, st12_below hB.out (by omega) _ _ _⟩
set_option linter.unusedSimpArgs false in
set_option maxHeartbeats 4000000 in
set_option maxRecDepth 100000 in
theorem w_does14 (c : Cl) (a1 a2 : Option Addr) (m1 k1 m2 k2 : Nat) (x : Hp) (w : World) (B : Nat) (hk1 : (x.k == 1) = false) (hk2 : (x.k == 2) = false) (hk3 : (x.k == 3) = false) (hk6 : (x.k == 6) = false) (hk7 : (x.k == 7) = false) :
    AnsT 110 #[.pointer (some ⟨B, 0, none⟩), c.val (.slice a1 m1 k1) (.slice a2 m2 k2), x.val] w (cnew, 0) := by
  have B0 : Aside (Below w.heap.size w (((w.alloc (boxC c (.slice a1 m1 k1) (.slice a2 m2 k2))).alloc (boxH x)).alloc (boxZ))) := grew (grew (grew (Below.refl _ _) _) _) _
  have h0_0 : Aside ((((w.alloc (boxC c (.slice a1 m1 k1) (.slice a2 m2 k2))).alloc (boxH x)).alloc (boxZ)).heap[w.heap.size]? = some (boxC c (.slice a1 m1 k1) (.slice a2 m2 k2))) := by
    have := heap_new w (boxC c (.slice a1 m1 k1) (.slice a2 m2 k2))
    exact heap_old (heap_old (this) _) _
  have h1_0 : Aside ((((w.alloc (boxC c (.slice a1 m1 k1) (.slice a2 m2 k2))).alloc (boxH x)).alloc (boxZ)).heap[w.heap.size + 1]? = some (boxH x)) := by
    have := heap_new (w.alloc (boxC c (.slice a1 m1 k1) (.slice a2 m2 k2))) (boxH x)
    rw [World.size_alloc] at this
    exact heap_old (this) _
  have h2_0 : Aside ((((w.alloc (boxC c (.slice a1 m1 k1) (.slice a2 m2 k2))).alloc (boxH x)).alloc (boxZ)).heap[w.heap.size + 1 + 1]? = some (boxZ)) := by
    have := heap_new ((w.alloc (boxC c (.slice a1 m1 k1) (.slice a2 m2 k2))).alloc (boxH x)) (boxZ)
    rw [World.size_alloc, World.size_alloc] at this
    exact this
  go_enter Tryz.func110, Tryz.ntmps110
  go_upto_region 1 with fail
  generalize (((w.alloc (boxC c (.slice a1 m1 k1) (.slice a2 m2 k2))).alloc (boxH x)).alloc (boxZ)) = w0 at *
  have z1 : ∀ i, w0.cell? ⟨w.heap.size + 1, i, none⟩ = #[Value.int .i64 x.k, .int .i64 x.c, .int .i64 x.n, .int .i64 x.j, .int .i64 x.p, .int .i64 x.e.k, .int .i64 x.e.j, .int .i64 x.e.v, .int .i64 x.e.t, .int .i64 x.e.c][i]? := fun i => Joins.cell_of_block h1_0.out i
  go_wp2_with fail
  refine (cl_new _).mono ?_
  rintro e w1 ⟨rfl, hb1⟩
  have hR : Aside (w1.heap[w.heap.size + 1 + 1]? = some (boxZ)) := heap_below h2_0.out hb1 (heap_lt h2_0.out)
  have hB : Aside (Below w.heap.size w w1) := step_below1 B0.out hb1
  clear hb1 h0_0 h1_0 h2_0 B0 z1
  have zr : ∀ i, w1.cell? ⟨w.heap.size + 1 + 1, i, none⟩ = #[Value.int .i64 0, .int .i64 0, .int .i64 0, .int .i64 0, .int .i64 0, .int .i64 0, .int .i64 0, .int .i64 0, .int .i64 0, .int .i64 0, .slice none 0 0, .slice none 0 0][i]? := fun i => Joins.cell_of_block hR.out i
  have fzr : ∀ i, w1.frozen? ⟨w.heap.size + 1 + 1, i, none⟩ = false := fun i => Joins.unfrozen_of_block hR.out i
  go_wp2
  refine ret_st (p := 6) (q := 7) w1 (w.heap.size + 1 + 1) cnew nil0 nil0 (o := Cl.zero) (u1 := nil0) (u2 := nil0) Tryz.results110 rfl rfl rfl hR.out rfl ?_
  exact ⟨nil0, nil0, rfl, bkT_nil _ rfl rfl, st12_below hB.out (by omega) _ _ _⟩
/-- Package world's does. -/
theorem w_does {X w : World} {B g1 g2 : Nat} {W : Wd} {xs : List Nb} {cs : List Cb} (hW : RW W) (hI : WIn X w B g1 g2 xs W.tip cs W.t) (hn : nodesOf xs = W.ns) (c : Cl) (v1 v2 : Value) (hb : BkAt w v1 v2 c) (x : Hp) :
    AnsT 110 #[.pointer (some ⟨B, 0, none⟩), c.val v1 v2, x.val] w (doesAt W c x) := by
  obtain ⟨a1, k1, a2, k2, rfl, rfl⟩ := bk_slices hb.1 hb.2
  have ff : ∀ q : Int, ¬ x.k = q → (x.k == q) = false := fun q h => by rw [beq_eq_false_iff_ne]; exact h
  have hbw := hI.st.box
  unfold doesAt
  by_cases k1' : x.k = 1
  · rw [if_pos k1']
    exact w_does1 c a1 a2 _ k1 _ k2 x w B _ _ (by rw [k1']; rfl) (fun V hV => w_want c x.e _ _ V (bkAt_later hb hV))
  rw [if_neg k1']
  by_cases k2' : x.k = 2
  · rw [if_pos k2']
    exact w_does2 c a1 a2 _ k1 _ k2 x w B _ _ _ _ hbw _ _ (ff 1 k1') (by rw [k2']; rfl) (fun V hV => cl_ring c x.c x.j W.t _ _ V (bkAt_later hb hV))
  rw [if_neg k2']
  by_cases k3' : x.k = 3
  · rw [if_pos k3']
    exact w_does3 c a1 a2 _ k1 _ k2 x w B _ _ _ _ hbw _ _ (ff 1 k1') (ff 2 k2') (by rw [k3']; rfl) (fun V hV => w_place c W.tip _ _ V (bkAt_later hb hV))
  rw [if_neg k3']
  by_cases k6' : x.k = 6
  · rw [if_pos k6']
    exact w_does6 c a1 a2 _ k1 _ k2 x w B _ _ (ff 1 k1') (ff 2 k2') (ff 3 k3') (by rw [k6']; rfl) (fun V hV => cl_fill c x.n _ _ V (bkAt_later hb hV))
  rw [if_neg k6']
  by_cases k7' : x.k = 7
  · rw [if_pos k7']
    refine w_does7 c a1 a2 _ k1 _ k2 x w B _ _ _ _ _ _ hbw _ _ (ff 1 k1') (ff 2 k2') (ff 3 k3') (ff 6 k6') (by rw [k7']; rfl) (fun V hV => ?_)
    have hI' := hI.later hV
    exact w_play c _ _ xs g1 V W hW hn (bkAt_later hb hV) (by have := slOf_lit (c := 3) Nb.five hI'.st.nrow rfl; rwa [hI.three] at this) (fun y hy => (hI'.st.nodes y hy).1)
  rw [if_neg k7']
  exact w_does14 c a1 a2 _ k1 _ k2 x w B (ff 1 k1') (ff 2 k2') (ff 3 k3') (ff 6 k6') (ff 7 k7')
end Go.Proofs.YtmoaobfmopimlafGreatDoor
namespace Go.Proofs.YtmoaobfmopimlafGreatDoor
open Go.RowKit
/-- The client of a number. -/
theorem WIn.cat {X w : World} {B g1 g2 : Nat} {xs : List Nb} {cs : List Cb} {tip t : Int} (h : WIn X w B g1 g2 xs tip cs t) {k : Nat} {y : Cb} (hy : cs[k]? = some y) {i : Nat} {v : Value} (hv : y.cells[i]? = some v) : w.cell? ⟨g2, k * 12 + i, none⟩ = some v := by
  rw [Joins.cell_of_block h.st.crow]
  have := row_flat Cb.twelve cs k y hy i v hv
  simpa using this
theorem WIn.cfz {X w : World} {B g1 g2 : Nat} {xs : List Nb} {cs : List Cb} {tip t : Int} (h : WIn X w B g1 g2 xs tip cs t) (i : Nat) : w.frozen? ⟨g2, i, none⟩ = false := Joins.unfrozen_of_block h.st.crow i
theorem WIn.boxz {X w : World} {B g1 g2 : Nat} {xs : List Nb} {cs : List Cb} {tip t : Int} (h : WIn X w B g1 g2 xs tip cs t) : ∀ i, w.cell? ⟨B, i, none⟩ = #[Value.slice (some ⟨g1, 0, none⟩) 3 3, .int .i64 tip, .slice (some ⟨g2, 0, none⟩) 3 3, .int .i64 t][i]? := fun i => Joins.cell_of_block h.st.box i
theorem wd_cl {W : Wd} {cs : List Cb} (hc : clientsOf cs = W.cs) {k : Nat} {y : Cb} (hy : cs[k]? = some y) : W.cl (k : Int) = y.c := by
  rw [Wd.cl, ← hc, List.getD_eq_getElem?_getD, Int.toNat_natCast, clients_at hy]; rfl
theorem wd_nd {W : Wd} {xs : List Nb} (hn : nodesOf xs = W.ns) {k : Nat} {x : Nb} (hx : xs[k]? = some x) : W.nd (k : Int) = x.n := by
  rw [Wd.nd, ← hn, List.getD_eq_getElem?_getD, Int.toNat_natCast, nodes_at hx]; rfl
/-- A client stored where another one was: the world then. -/
theorem has_putC {X w : World} {B g1 g2 : Nat} {W : Wd} {xs : List Nb} {cs : List Cb} (hI : WIn X w B g1 g2 xs W.tip cs W.t) (hn : nodesOf xs = W.ns) (hc : clientsOf cs = W.cs) {k : Nat} {y : Cb} (hy : cs[k]? = some y) {z : Cb} (hz : ClientR w z) : WHas X (stC w g2 (k * 12) z) B g1 g2 (W.putC (k : Int) z.c) := by
  obtain ⟨ds, h1, h2⟩ := liftC hI hy hz
  refine ⟨xs, ds, h1, hn, ?_⟩
  rw [h2, hc]
  show W.cs.set k z.c = W.cs.set (k : Int).toNat z.c
  rw [Int.toNat_natCast]
set_option linter.unusedSimpArgs false in
set_option maxHeartbeats 8000000 in
set_option maxRecDepth 100000 in
theorem w_learn_at {X w : World} {B g1 g2 : Nat} {W : Wd} {xs : List Nb} {cs : List Cb} (hI : WIn X w B g1 g2 xs W.tip cs W.t) (hn : nodesOf xs = W.ns) (hc : clientsOf cs = W.cs) (k : Nat) (hk : k < 3) (c : Cl) (a1 a2 : Option Addr) (m1 k1 m2 k2 : Nat) (hy : cs[k]? = some ⟨c, .slice a1 m1 k1, .slice a2 m2 k2⟩) (p : Int) :
    AnsW 103 #[.pointer (some ⟨B, 0, none⟩), .int .i64 (k : Int), .int .i64 p] X w B g1 g2 (W.onC (k : Int) (learnOf c p)) := by
  obtain ⟨⟨R, d⟩, hq⟩ : ∃ q, learnOf c p = q := ⟨_, rfl⟩
  have hcl : Aside (∀ V, Below w.heap.size w V → Calls Tryz.prog 104 #[.pointer (some ⟨B, 0, none⟩), .int .i64 (k : Int)] V fun e w' => e = .returned (.bool true) ∧ w' = V) := fun V hV => by
    have := w_isClient (hI.later hV).st (k : Int)
    rwa [decide_eq_true (show 0 ≤ (k : Int) ∧ (k : Int) ≤ 2 by omega)] at this
  have kc := cl_learn c p (.slice a1 m1 k1) (.slice a2 m2 k2) w (hI.st.clients _ (List.mem_of_getElem? hy)).1
  rw [hq] at kc
  have HI : Aside (WIn X w B g1 g2 xs W.tip cs W.t) := hI
  have HE : Aside (nodesOf xs = W.ns ∧ clientsOf cs = W.cs) := ⟨hn, hc⟩
  have HY : Aside (cs[k]? = some ⟨c, .slice a1 m1 k1, .slice a2 m2 k2⟩) := hy
  have hki : (k : Int) < 3 := by omega
  have hk0 : (0 : Int) ≤ (k : Int) := by omega
  obtain ⟨rr, HRR⟩ : ∃ rr, Hid (W.onC (k : Int) (learnOf c p) = rr) := ⟨_, rfl⟩
  rw [HRR.out]
  have HC : Hid ((d ≠ 0 ∧ rr = (W, d)) ∨ (d = 0 ∧ rr = (W.putC (k : Int) R, 0))) := by
    have := HRR.out
    rw [hq, Wd.onC] at this
    by_cases h0 : d = 0
    · rw [if_neg (not_not_intro h0)] at this; exact Or.inr ⟨h0, this.symm⟩
    · rw [if_pos h0] at this; exact Or.inl ⟨h0, this.symm⟩
  have y0 := hI.cat hy (i := 0) rfl
  have y1 := hI.cat hy (i := 1) rfl
  have y2 := hI.cat hy (i := 2) rfl
  have y3 := hI.cat hy (i := 3) rfl
  have y4 := hI.cat hy (i := 4) rfl
  have y5 := hI.cat hy (i := 5) rfl
  have y6 := hI.cat hy (i := 6) rfl
  have y7 := hI.cat hy (i := 7) rfl
  have y8 := hI.cat hy (i := 8) rfl
  have y9 := hI.cat hy (i := 9) rfl
  have y10 := hI.cat hy (i := 10) rfl
  have y11 := hI.cat hy (i := 11) rfl
  simp only [Nat.add_zero] at y0
  have zb := hI.boxz
  clear hq hI hn hc hy HRR
  go_enter Tryz.func103, Tryz.ntmps103
  go_wp2_with fail
  refine (hcl.out w (Below.refl _ _)).mono ?_
  rintro e wx ⟨rfl, hwx⟩
  obtain rfl : w = wx := hwx.symm
  clear hcl
  go_wp2_with fail
  refine kc.mono ?_
  rintro e w1 ⟨u1, u2, rfl, hT, hb1⟩
  have HI1 : Aside (WIn X w1 B g1 g2 xs W.tip cs W.t) := HI.out.later hb1
  have HT : Aside (BkT w1 u1 u2 R) := hT
  obtain ⟨s1, o1, s2, o2, rfl, rfl⟩ := bk_slices hT.1.1 hT.1.2
  clear hb1 hT HI kc zb y0 y1 y2 y3 y4 y5 y6 y7 y8 y9 y10 y11
  obtain ⟨n1, hn1⟩ : ∃ n, Hid (R.js.length = n) := ⟨_, rfl⟩
  obtain ⟨n2, hn2⟩ : ∃ n, Hid (R.rs.length = n) := ⟨_, rfl⟩
  rw [hn1.out, hn2.out] at HT ⊢
  have hbA : Below w1.heap.size w1 (w1.alloc (boxC R (.slice s1 n1 o1) (.slice s2 n2 o2))) := grew (Below.refl _ _) _
  have HI2 : Aside (WIn X (w1.alloc (boxC R (.slice s1 n1 o1) (.slice s2 n2 o2))) B g1 g2 xs W.tip cs W.t) := HI1.out.later hbA
  have HT2 : Aside (ClientR (w1.alloc (boxC R (.slice s1 n1 o1) (.slice s2 n2 o2))) ⟨R, .slice s1 n1 o1, .slice s2 n2 o2⟩) := bkT_later HT.out hbA
  have HX2 : Aside ((w1.alloc (boxC R (.slice s1 n1 o1) (.slice s2 n2 o2))).heap[w1.heap.size]? = some (boxC R (.slice s1 n1 o1) (.slice s2 n2 o2))) := heap_new _ _
  clear HI1 HT hbA
  go_upto_region 4 with fail
  generalize w1.alloc (boxC R (.slice s1 n1 o1) (.slice s2 n2 o2)) = w2 at *
  generalize w1.heap.size = b at *
  rcases HC.out with ⟨h0, h1⟩ | ⟨h0, h1⟩
  · have hz : (d != 0) = true := by rw [bne_iff_ne]; exact h0
    subst h1
    clear h0 HC HT2 HX2
    go_wp2
    go_ret
    exact ⟨rfl, xs, cs, HI2.out, HE.out.1, HE.out.2⟩
  · have hz : (d != 0) = false := by rw [h0]; rfl
    subst h1
    clear h0 HC
    have zb := HI2.out.boxz
    have zx : ∀ i, w2.cell? ⟨b, i, none⟩ = #[Value.int .i64 R.p, .int .i64 R.d, .int .i64 R.e.k, .int .i64 R.e.j, .int .i64 R.e.v, .int .i64 R.e.t, .int .i64 R.e.c, .int .i64 R.a, .int .i64 R.l, .int .i64 R.n, .slice s1 n1 o1, .slice s2 n2 o2][i]? := fun i => Joins.cell_of_block HX2.out i
    have y0 := HI2.out.cat HY.out (i := 0) rfl
    have y1 := HI2.out.cat HY.out (i := 1) rfl
    have y2 := HI2.out.cat HY.out (i := 2) rfl
    have y3 := HI2.out.cat HY.out (i := 3) rfl
    have y4 := HI2.out.cat HY.out (i := 4) rfl
    have y5 := HI2.out.cat HY.out (i := 5) rfl
    have y6 := HI2.out.cat HY.out (i := 6) rfl
    have y7 := HI2.out.cat HY.out (i := 7) rfl
    have y8 := HI2.out.cat HY.out (i := 8) rfl
    have y9 := HI2.out.cat HY.out (i := 9) rfl
    have y10 := HI2.out.cat HY.out (i := 10) rfl
    have y11 := HI2.out.cat HY.out (i := 11) rfl
    simp only [Nat.add_zero] at y0
    have fy := HI2.out.cfz
    go_upto_region 6 with fail
    go_region
    go_wp2
    go_ret
    have := (has_putC HI2.out HE.out.1 HE.out.2 HY.out HT2.out).later (Below.refl _ _).drew
    exact ⟨rfl, this⟩
/-- Package world's learn. -/
theorem w_learn {X w : World} {B g1 g2 : Nat} {W : Wd} (h : WHas X w B g1 g2 W) (who p : Int) : AnsW 103 #[.pointer (some ⟨B, 0, none⟩), .int .i64 who, .int .i64 p] X w B g1 g2 (learnAt W who p) := by
  have H := h
  obtain ⟨xs, cs, hI, hn, hc⟩ := h
  unfold learnAt
  by_cases g : 0 ≤ who ∧ who ≤ 2
  · rw [if_neg (not_not_intro g)]
    obtain ⟨k, rfl⟩ : ∃ k : Nat, who = k := ⟨who.toNat, by omega⟩
    obtain ⟨y, hy⟩ : ∃ y, cs[k]? = some y := ⟨cs[k]'(by have := hI.three'; omega), List.getElem?_eq_getElem _⟩
    rw [wd_cl hc hy]
    obtain ⟨c, v1, v2⟩ := y
    obtain ⟨a1, k1, a2, k2, e1, e2⟩ := bk_slices (hI.st.clients _ (List.mem_of_getElem? hy)).1.1 (hI.st.clients _ (List.mem_of_getElem? hy)).1.2
    simp only at e1 e2
    subst e1 e2
    exact w_learn_at hI hn hc k (by omega) c a1 a2 _ k1 _ k2 hy p
  · rw [if_pos g]
    have hcl := w_isClient hI.st who
    rw [decide_eq_false g] at hcl
    clear hI hn hc g
    go_enter Tryz.func103, Tryz.ntmps103
    go_wp2_with fail
    refine hcl.mono ?_
    rintro e wx ⟨rfl, hwx⟩
    obtain rfl : w = wx := hwx.symm
    go_wp2
    go_ret
    exact ⟨rfl, H⟩
end Go.Proofs.YtmoaobfmopimlafGreatDoor
namespace Go.Proofs.YtmoaobfmopimlafGreatDoor
open Go.RowKit
/-- A client in a box that was made. -/
structure CBx (W0 wx : World) (b : Nat) (R : Cl) (v1 v2 : Value) : Prop where
  box : wx.heap[b]? = some (boxC R v1 v2)
  bk : BkT wx v1 v2 R
  base : W0.heap.size ≤ b
  below : Below W0.heap.size W0 wx
theorem cbx_A {W0 w1 : World} {R : Cl} {v1 v2 : Value} (hA : Below W0.heap.size W0 w1) (hT : BkT w1 v1 v2 R) : CBx W0 (w1.alloc (boxC R v1 v2)) w1.heap.size R v1 v2 := ⟨heap_new _ _, bkT_later hT (grew (Below.refl _ _) _), hA.size, grew hA _⟩
theorem cbx_B {W0 w1 : World} {b : Nat} {R : Cl} {v1 v2 : Value} (hx : w1.heap[b]? = some (boxZ)) (hB : Below W0.heap.size W0 w1) (hT : BkT w1 v1 v2 R) (hb : W0.heap.size ≤ b) : CBx W0 (st12 w1 b R v1 v2) b R v1 v2 :=
  ⟨st12_box (show w1.heap[b]? = some (boxC Cl.zero nil0 nil0) from hx) R v1 v2, bkT_st12 ⟨_, hx⟩ hT _ _ _, hb, st12_below hB hb _ _ _⟩
theorem stC_other {w : World} {g q : Nat} {ob : Obj} (h : w.heap[q]? = some ob) (hne : q ≠ g) (o : Nat) (y : Cb) : (stC w g o y).heap[q]? = some ob := by
  unfold stC
  exact other_block (other_block (other_block (other_block (other_block (other_block (other_block (other_block (other_block (other_block (other_block (other_block h hne _ _) hne _ _) hne _ _) hne _ _) hne _ _) hne _ _) hne _ _) hne _ _) hne _ _) hne _ _) hne _ _) hne _ _
theorem heap_drew {w : World} {q : Nat} {ob : Obj} (h : w.heap[q]? = some ob) : w.drew.heap[q]? = some ob := h
/-- The tip one more. -/
theorem has_tip {X w : World} {B g1 g2 : Nat} {W : Wd} (h : WHas X w B g1 g2 W) (q : Int) : WHas X (w.setCell ⟨B, 1, none⟩ (.int .i64 q)) B g1 g2 ⟨W.ns, q, W.cs, W.t⟩ := by
  obtain ⟨xs, cs, h1, h2, h3⟩ := h
  exact ⟨xs, cs, ⟨h1.st.setTip q, h1.three, h1.three'⟩, h2, h3⟩
set_option linter.unusedSimpArgs false in
set_option maxHeartbeats 8000000 in
set_option maxRecDepth 100000 in
theorem w_atClient_at {X w : World} {B g1 g2 : Nat} {W : Wd} (hW : RW W) {xs : List Nb} {cs : List Cb} (hI : WIn X w B g1 g2 xs W.tip cs W.t) (hn : nodesOf xs = W.ns) (hc : clientsOf cs = W.cs) (k : Nat) (hk : k < 3) (c : Cl) (a1 a2 : Option Addr) (m1 k1 m2 k2 : Nat) (hy : cs[k]? = some ⟨c, .slice a1 m1 k1, .slice a2 m2 k2⟩)
    (xk xn xj xp : Int) (xe : En) :
    AnsW 75 #[.pointer (some ⟨B, 0, none⟩), Hp.val ⟨xk, (k : Int), xn, xj, xp, xe⟩] X w B g1 g2 (if (doesAt W c ⟨xk, (k : Int), xn, xj, xp, xe⟩).2 ≠ 0 then (W, (doesAt W c ⟨xk, (k : Int), xn, xj, xp, xe⟩).2) else (⟨W.ns, if xk = 3 then W.tip + 1 else W.tip, W.cs.set k (doesAt W c ⟨xk, (k : Int), xn, xj, xp, xe⟩).1, W.t⟩, 0)) := by
  obtain ⟨⟨R, d⟩, hq⟩ : ∃ q, doesAt W c ⟨xk, (k : Int), xn, xj, xp, xe⟩ = q := ⟨_, rfl⟩
  rw [hq]
  simp only
  obtain ⟨tp, HTP⟩ : ∃ tp, Hid ((if xk = 3 then W.tip + 1 else W.tip) = tp) := ⟨_, rfl⟩
  rw [HTP.out]
  have hbA : Below w.heap.size w (w.alloc (boxH ⟨xk, (k : Int), xn, xj, xp, xe⟩)) := grew (Below.refl _ _) _
  have hcl := w_isClient (hI.later hbA).st (k : Int)
  rw [decide_eq_true (show 0 ≤ (k : Int) ∧ (k : Int) ≤ 2 by omega)] at hcl
  have kc : Aside (∀ V, Below w.heap.size w V → AnsT 110 #[.pointer (some ⟨B, 0, none⟩), c.val (.slice a1 m1 k1) (.slice a2 m2 k2), Hp.val ⟨xk, (k : Int), xn, xj, xp, xe⟩] V (R, d)) := fun V hV => by
    have := w_does hW (hI.later hV) hn c (.slice a1 m1 k1) (.slice a2 m2 k2) (bkAt_later (hI.st.clients _ (List.mem_of_getElem? hy)).1 hV) ⟨xk, (k : Int), xn, xj, xp, xe⟩
    rwa [hq] at this
  have HI0 : Aside (WIn X (w.alloc (boxH ⟨xk, (k : Int), xn, xj, xp, xe⟩)) B g1 g2 xs W.tip cs W.t) := hI.later hbA
  have HX0 : Aside ((w.alloc (boxH ⟨xk, (k : Int), xn, xj, xp, xe⟩)).heap[w.heap.size]? = some (boxH ⟨xk, (k : Int), xn, xj, xp, xe⟩)) := heap_new _ _
  have HB0 : Aside (Below w.heap.size w (w.alloc (boxH ⟨xk, (k : Int), xn, xj, xp, xe⟩))) := hbA
  have HE : Aside (nodesOf xs = W.ns ∧ clientsOf cs = W.cs) := ⟨hn, hc⟩
  have HY : Aside (cs[k]? = some ⟨c, .slice a1 m1 k1, .slice a2 m2 k2⟩) := hy
  have HG : Aside (g2 < w.heap.size ∧ B < w.heap.size) := ⟨heap_lt hI.st.crow, heap_lt hI.st.box⟩
  have HT3 : Aside (W.tip ≤ 60) := hW.tip.2
  have HT0 : Aside (0 ≤ W.tip) := hW.tip.1
  have hki : (k : Int) < 3 := by omega
  have hk0 : (0 : Int) ≤ (k : Int) := by omega
  obtain ⟨rr, HRR⟩ : ∃ rr, Hid ((if d ≠ 0 then (W, d) else ((⟨W.ns, tp, W.cs.set k R, W.t⟩ : Wd), 0)) = rr) := ⟨_, rfl⟩
  rw [HRR.out]
  have HC : Hid ((d ≠ 0 ∧ rr = (W, d)) ∨ (d = 0 ∧ rr = (⟨W.ns, tp, W.cs.set k R, W.t⟩, 0))) := by
    have := HRR.out
    by_cases h0 : d = 0
    · rw [if_neg (not_not_intro h0)] at this; exact Or.inr ⟨h0, this.symm⟩
    · rw [if_pos h0] at this; exact Or.inl ⟨h0, this.symm⟩
  clear hq hI hn hc hy HRR hW hbA
  go_enter Tryz.func75, Tryz.ntmps75
  go_upto_region 1 with fail
  generalize w.alloc (boxH ⟨xk, (k : Int), xn, xj, xp, xe⟩) = w1 at *
  have HI1 : Aside (WIn X w1 B g1 g2 xs W.tip cs W.t) := HI0.out
  have HX1 : Aside (w1.heap[w.heap.size]? = some (boxH ⟨xk, (k : Int), xn, xj, xp, xe⟩)) := HX0.out
  have zh : ∀ i, w1.cell? ⟨w.heap.size, i, none⟩ = #[Value.int .i64 xk, .int .i64 (k : Int), .int .i64 xn, .int .i64 xj, .int .i64 xp, .int .i64 xe.k, .int .i64 xe.j, .int .i64 xe.v, .int .i64 xe.t, .int .i64 xe.c][i]? := fun i => Joins.cell_of_block HX1.out i
  clear HI0 HX0
  go_wp2_with fail
  refine hcl.mono ?_
  rintro e wx ⟨rfl, hwx⟩
  obtain rfl : w1 = wx := hwx.symm
  clear hcl
  go_upto_region 3 with fail
  clear zh
  have HK1 : Aside (∀ V, Below w1.heap.size w1 V → AnsT 110 #[.pointer (some ⟨B, 0, none⟩), c.val (.slice a1 m1 k1) (.slice a2 m2 k2), Hp.val ⟨xk, (k : Int), xn, xj, xp, xe⟩] V (R, d)) := fun V hV => kc.out V (HB0.out.trans (hV.mono HB0.out.size))
  clear kc
  go_cut [5, 6] from 12 to 25 (fun s5 s6 wx => ∃ (b : Nat) (v1 v2 : Value), s5 = .pointer (some ⟨b, 0, none⟩) ∧ s6 = .int .i64 d ∧ CBx w1 wx b R v1 v2)
  case first =>
    refine wp_region_held_drew (S := fun W' => Below w1.heap.size w1 W') (by kernel_rfl) ((Below.refl _ _).drew) (fun hHeld => ?_)
    refine wpAnyH_take (i := 0) (oi := ?oi0) (v := ?v0) ?hi0 ?hs0 ?hf0 ?hr0 ?hQ0 (Or.inl ⟨?hw0, ?hy0⟩) (by assumption) ?h0
    case hi0 => (simp only [List.getElem?_toArray, List.getElem?_cons_succ, List.getElem?_cons_zero]; rfl)
    case hs0 => kernel_rfl
    case hf0 => kernel_rfl
    case hr0 => kernel_rfl
    case hw0 => rfl
    case hy0 => (intro w0 hSw; clear hSw; go_simp; first | done | with_reducible rfl)
    case hQ0 => exact fun _ _ _ h => h
    try simp only [Act.put, List.setIfInBounds_toArray, List.set_cons_zero, List.set_cons_succ]
    refine wpAnyH_take (i := 1) (oi := ?oi1) (v := ?v1) ?hi1 ?hs1 ?hf1 ?hr1 ?hQ1 (Or.inl ⟨?hw1, ?hy1⟩) (by assumption) ?h1
    case hi1 => (simp only [List.getElem?_toArray, List.getElem?_cons_succ, List.getElem?_cons_zero]; rfl)
    case hs1 => kernel_rfl
    case hf1 => kernel_rfl
    case hr1 => kernel_rfl
    case hw1 => rfl
    case hy1 => (intro w0 hSw; clear hSw; go_simp; first | done | with_reducible rfl)
    case hQ1 => exact fun _ _ _ h => h
    try simp only [Act.put, List.setIfInBounds_toArray, List.set_cons_zero, List.set_cons_succ]
    refine wpAnyH_take (i := 2) (oi := ?oi2) (v := ?v2) ?hi2 ?hs2 ?hf2 ?hr2 ?hQ2 (Or.inl ⟨?hw2, ?hy2⟩) (by assumption) ?h2
    case hi2 => (simp only [List.getElem?_toArray, List.getElem?_cons_succ, List.getElem?_cons_zero]; rfl)
    case hs2 => kernel_rfl
    case hf2 => kernel_rfl
    case hr2 => kernel_rfl
    case hw2 => rfl
    case hy2 => (intro w0 hSw; clear hSw; go_simp; first | done | with_reducible rfl)
    case hQ2 => exact fun _ _ _ h => h
    try simp only [Act.put, List.setIfInBounds_toArray, List.set_cons_zero, List.set_cons_succ]
    refine wpAnyH_take (i := 3) (oi := ?oi3) (v := ?v3) ?hi3 ?hs3 ?hf3 ?hr3 ?hQ3 (Or.inl ⟨?hw3, ?hy3⟩) (by assumption) ?h3
    case hi3 => (simp only [List.getElem?_toArray, List.getElem?_cons_succ, List.getElem?_cons_zero]; rfl)
    case hs3 => kernel_rfl
    case hf3 => kernel_rfl
    case hr3 => kernel_rfl
    case hw3 => rfl
    case hy3 => (intro w0 hSw; clear hSw; go_simp; first | done | with_reducible rfl)
    case hQ3 => exact fun _ _ _ h => h
    try simp only [Act.put, List.setIfInBounds_toArray, List.set_cons_zero, List.set_cons_succ]
    refine wpAnyH_take (i := 4) (oi := ?oi4) (v := ?v4) ?hi4 ?hs4 ?hf4 ?hr4 ?hQ4 (Or.inl ⟨?hw4, ?hy4⟩) (by assumption) ?h4
    case hi4 => (simp only [List.getElem?_toArray, List.getElem?_cons_succ, List.getElem?_cons_zero]; rfl)
    case hs4 => kernel_rfl
    case hf4 => kernel_rfl
    case hr4 => kernel_rfl
    case hw4 => rfl
    case hy4 => (intro w0 hSw; have z := (HI1.out.later hSw).boxz; clear hSw; go_simp; first | done | with_reducible rfl)
    case hQ4 => exact fun _ _ _ h => h
    try simp only [Act.put, List.setIfInBounds_toArray, List.set_cons_zero, List.set_cons_succ]
    refine wpAnyH_take (i := 5) (oi := ?oi5) (v := ?v5) ?hi5 ?hs5 ?hf5 ?hr5 ?hQ5 (Or.inl ⟨?hw5, ?hy5⟩) (by assumption) ?h5
    case hi5 => (simp only [List.getElem?_toArray, List.getElem?_cons_succ, List.getElem?_cons_zero]; rfl)
    case hs5 => kernel_rfl
    case hf5 => kernel_rfl
    case hr5 => kernel_rfl
    case hw5 => rfl
    case hy5 => (intro w0 hSw; clear hSw; go_simp; first | done | with_reducible rfl)
    case hQ5 => exact fun _ _ _ h => h
    try simp only [Act.put, List.setIfInBounds_toArray, List.set_cons_zero, List.set_cons_succ]
    refine wpAnyH_take (i := 6) (oi := ?oi6) (v := ?v6) ?hi6 ?hs6 ?hf6 ?hr6 ?hQ6 (Or.inl ⟨?hw6, ?hy6⟩) (by assumption) ?h6
    case hi6 => (simp only [List.getElem?_toArray, List.getElem?_cons_succ, List.getElem?_cons_zero]; rfl)
    case hs6 => kernel_rfl
    case hf6 => kernel_rfl
    case hr6 => kernel_rfl
    case hw6 => rfl
    case hy6 => (intro w0 hSw; have z := (show ∀ i, w0.cell? ⟨w.heap.size, i, none⟩ = #[Value.int .i64 xk, .int .i64 (k : Int), .int .i64 xn, .int .i64 xj, .int .i64 xp, .int .i64 xe.k, .int .i64 xe.j, .int .i64 xe.v, .int .i64 xe.t, .int .i64 xe.c][i]? from fun i => Joins.cell_of_block (heap_below HX1.out hSw (heap_lt HX1.out)) i); clear hSw; go_simp; first | done | with_reducible rfl)
    case hQ6 => exact fun _ _ _ h => h
    try simp only [Act.put, List.setIfInBounds_toArray, List.set_cons_zero, List.set_cons_succ]
    refine wpAnyH_take (i := 7) (oi := ?oi7) (v := ?v7) ?hi7 ?hs7 ?hf7 ?hr7 ?hQ7 (Or.inl ⟨?hw7, ?hy7⟩) (by assumption) ?h7
    case hi7 => (simp only [List.getElem?_toArray, List.getElem?_cons_succ, List.getElem?_cons_zero]; rfl)
    case hs7 => kernel_rfl
    case hf7 => kernel_rfl
    case hr7 => kernel_rfl
    case hw7 => rfl
    case hy7 => (intro w0 hSw; clear hSw; go_simp; first | done | with_reducible rfl)
    case hQ7 => exact fun _ _ _ h => h
    try simp only [Act.put, List.setIfInBounds_toArray, List.set_cons_zero, List.set_cons_succ]
    refine wpAnyH_take (i := 8) (oi := ?oi8) (v := ?v8) ?hi8 ?hs8 ?hf8 ?hr8 ?hQ8 (Or.inl ⟨?hw8, ?hy8⟩) (by assumption) ?h8
    case hi8 => (simp only [List.getElem?_toArray, List.getElem?_cons_succ, List.getElem?_cons_zero]; rfl)
    case hs8 => kernel_rfl
    case hf8 => kernel_rfl
    case hr8 => kernel_rfl
    case hw8 => rfl
    case hy8 => (intro w0 hSw; have y0 := (HI1.out.later hSw).cat HY.out (i := 0) rfl; have y1 := (HI1.out.later hSw).cat HY.out (i := 1) rfl; have y2 := (HI1.out.later hSw).cat HY.out (i := 2) rfl; have y3 := (HI1.out.later hSw).cat HY.out (i := 3) rfl; have y4 := (HI1.out.later hSw).cat HY.out (i := 4) rfl; have y5 := (HI1.out.later hSw).cat HY.out (i := 5) rfl; have y6 := (HI1.out.later hSw).cat HY.out (i := 6) rfl; have y7 := (HI1.out.later hSw).cat HY.out (i := 7) rfl; have y8 := (HI1.out.later hSw).cat HY.out (i := 8) rfl; have y9 := (HI1.out.later hSw).cat HY.out (i := 9) rfl; have y10 := (HI1.out.later hSw).cat HY.out (i := 10) rfl; have y11 := (HI1.out.later hSw).cat HY.out (i := 11) rfl; simp only [Nat.add_zero] at y0; clear hSw; go_simp; first | done | with_reducible rfl)
    case hQ8 => exact fun _ _ _ h => h
    try simp only [Act.put, List.setIfInBounds_toArray, List.set_cons_zero, List.set_cons_succ]
    refine wpAnyH_take (i := 9) (oi := ?oi9) (v := ?v9) ?hi9 ?hs9 ?hf9 ?hr9 ?hQ9 (Or.inl ⟨?hw9, ?hy9⟩) (by assumption) ?h9
    case hi9 => (simp only [List.getElem?_toArray, List.getElem?_cons_succ, List.getElem?_cons_zero]; rfl)
    case hs9 => kernel_rfl
    case hf9 => kernel_rfl
    case hr9 => kernel_rfl
    case hw9 => rfl
    case hy9 => (intro w0 hSw; have z := (show ∀ i, w0.cell? ⟨w.heap.size, i, none⟩ = #[Value.int .i64 xk, .int .i64 (k : Int), .int .i64 xn, .int .i64 xj, .int .i64 xp, .int .i64 xe.k, .int .i64 xe.j, .int .i64 xe.v, .int .i64 xe.t, .int .i64 xe.c][i]? from fun i => Joins.cell_of_block (heap_below HX1.out hSw (heap_lt HX1.out)) i); clear hSw; go_simp; first | done | with_reducible rfl)
    case hQ9 => exact fun _ _ _ h => h
    try simp only [Act.put, List.setIfInBounds_toArray, List.set_cons_zero, List.set_cons_succ]
    refine wpAnyH_ready (rs := [10, 14]) (by kernel_rfl) (by simp) ?_
    refine AllReadyH.cons (o := ?o10p) ?hi10p ?step10p (AllReadyH.cons (o := ?o14p) ?hi14p ?step14p AllReadyH.nil)
    case hi10p => (simp only [List.getElem?_toArray, List.getElem?_cons_succ, List.getElem?_cons_zero]; rfl)
    case hi14p => (simp only [List.getElem?_toArray, List.getElem?_cons_succ, List.getElem?_cons_zero]; rfl)
    case step10p =>
      intro K hK
      go_simp
      refine (HK1.out _ hHeld).mono ?_
      rintro e wv ⟨u1, u2, rfl, hT, hb1⟩
      obtain ⟨s1, o1, s2, o2, rfl, rfl⟩ := bk_slices hT.1.1 hT.1.2
      obtain ⟨n1, hn1⟩ : ∃ n, Hid (R.js.length = n) := ⟨_, rfl⟩
      obtain ⟨n2, hn2⟩ : ∃ n, Hid (R.rs.length = n) := ⟨_, rfl⟩
      rw [hn1.out, hn2.out] at hT ⊢
      have hA1 : Below w1.heap.size w1 wv := step_below1 hHeld hb1
      refine hK.out _ _ hA1 (fun hHeld => ?_)
      clear hK K
      try simp only [Act.put, List.setIfInBounds_toArray, List.set_cons_zero, List.set_cons_succ]
      refine wpAnyH_take (i := 11) (oi := ?oi11A) (v := ?v11A) ?hi11A ?hs11A ?hf11A ?hr11A ?hQ11A (Or.inl ⟨?hw11A, ?hy11A⟩) (by assumption) ?h11A
      case hi11A => (simp only [List.getElem?_toArray, List.getElem?_cons_succ, List.getElem?_cons_zero]; rfl)
      case hs11A => kernel_rfl
      case hf11A => kernel_rfl
      case hr11A => kernel_rfl
      case hw11A => rfl
      case hy11A => (intro w0 hSw; clear hSw; go_simp; first | done | with_reducible rfl)
      case hQ11A => exact fun _ _ _ h => h
      try simp only [Act.put, List.setIfInBounds_toArray, List.set_cons_zero, List.set_cons_succ]
      refine wpAnyH_take (i := 12) (oi := ?oi12A) (v := ?v12A) ?hi12A ?hs12A ?hf12A ?hr12A ?hQ12A (Or.inl ⟨?hw12A, ?hy12A⟩) (by assumption) ?h12A
      case hi12A => (simp only [List.getElem?_toArray, List.getElem?_cons_succ, List.getElem?_cons_zero]; rfl)
      case hs12A => kernel_rfl
      case hf12A => kernel_rfl
      case hr12A => kernel_rfl
      case hw12A => rfl
      case hy12A => (intro w0 hSw; clear hSw; go_simp; first | done | with_reducible rfl)
      case hQ12A => exact fun _ _ _ h => h
      try simp only [Act.put, List.setIfInBounds_toArray, List.set_cons_zero, List.set_cons_succ]
      refine wpAnyH_take (i := 13) (oi := ?oi13A) (v := ?v13A) ?hi13A ?hs13A ?hf13A ?hr13A ?hQ13A (Or.inl ⟨?hw13A, ?hy13A⟩) (by assumption) ?h13A
      case hi13A => (simp only [List.getElem?_toArray, List.getElem?_cons_succ, List.getElem?_cons_zero]; rfl)
      case hs13A => kernel_rfl
      case hf13A => kernel_rfl
      case hr13A => kernel_rfl
      case hw13A => rfl
      case hy13A => (intro w0 hSw; clear hSw; go_simp; first | done | with_reducible rfl)
      case hQ13A => exact fun _ _ _ h => h
      try simp only [Act.put, List.setIfInBounds_toArray, List.set_cons_zero, List.set_cons_succ]
      refine wpAnyH_ready (rs := [14]) (by kernel_rfl) (by simp) ?_
      refine AllReadyH.cons (o := ?o14A) ?hi14A ?step14A AllReadyH.nil
      case hi14A => (simp only [List.getElem?_toArray, List.getElem?_cons_succ, List.getElem?_cons_zero]; rfl)
      intro K hK
      go_simp
      refine hK.out _ _ (grew hHeld _) (fun hHeld => ?_)
      clear hK K
      try simp only [Act.put, List.setIfInBounds_toArray, List.set_cons_zero, List.set_cons_succ]
      refine wpAnyH_ready (rs := [15]) (by kernel_rfl) (by simp) ?_
      refine AllReadyH.cons (o := ?o15A) ?hi15A ?step15A AllReadyH.nil
      case hi15A => (simp only [List.getElem?_toArray, List.getElem?_cons_succ, List.getElem?_cons_zero]; rfl)
      intro K hK
      go_simp
      refine hK.out _ _ (grew hA1 _) (fun hHeld => ?_)
      clear hK K
      try simp only [Act.put, List.setIfInBounds_toArray, List.set_cons_zero, List.set_cons_succ]
      refine wpAnyH_ready (rs := [16]) (by kernel_rfl) (by simp) ?_
      refine AllReadyH.cons (o := ?o16A) ?hi16A ?step16A AllReadyH.nil
      case hi16A => (simp only [List.getElem?_toArray, List.getElem?_cons_succ, List.getElem?_cons_zero]; rfl)
      intro K hK
      go_simp
      refine hK.out _ _ (hHeld) (fun hHeld => ?_)
      clear hK K
      try simp only [Act.put, List.setIfInBounds_toArray, List.set_cons_zero, List.set_cons_succ]
      refine wpAnyH_done (by kernel_rfl) ?_ _
      go_wp2_with fail
      go_meet
      case rel => exact ⟨_, _, _, rfl, rfl, cbx_A hA1 hT⟩
    case step14p =>
      intro K hK
      go_simp
      refine hK.out _ _ (grew hHeld _) (fun hHeld => ?_)
      clear hK K
      try simp only [Act.put, List.setIfInBounds_toArray, List.set_cons_zero, List.set_cons_succ]
      have hx1 : ((w1.alloc (boxZ)).drew).heap[w1.heap.size]? = some (boxZ) := heap_new w1 _
      refine wpAnyH_ready (rs := [10]) (by kernel_rfl) (by simp) ?_
      refine AllReadyH.cons (o := ?o10B) ?hi10B ?step10B AllReadyH.nil
      case hi10B => (simp only [List.getElem?_toArray, List.getElem?_cons_succ, List.getElem?_cons_zero]; rfl)
      intro K hK
      go_simp
      refine (HK1.out _ hHeld).mono ?_
      rintro e wv ⟨u1, u2, rfl, hT, hb1⟩
      obtain ⟨s1, o1, s2, o2, rfl, rfl⟩ := bk_slices hT.1.1 hT.1.2
      obtain ⟨n1, hn1⟩ : ∃ n, Hid (R.js.length = n) := ⟨_, rfl⟩
      obtain ⟨n2, hn2⟩ : ∃ n, Hid (R.rs.length = n) := ⟨_, rfl⟩
      rw [hn1.out, hn2.out] at hT ⊢
      have hB1 : Below w1.heap.size w1 wv := step_below1 hHeld hb1
      have hx2 := heap_below hx1 hb1 (heap_lt hx1)
      have c7 := fun i => Joins.cell_of_block hx2 i
      have f7 := fun i => Joins.unfrozen_of_block hx2 i
      refine hK.out _ _ hB1 (fun hHeld => ?_)
      clear hK K
      try simp only [Act.put, List.setIfInBounds_toArray, List.set_cons_zero, List.set_cons_succ]
      refine wpAnyH_take (i := 11) (oi := ?oi11B) (v := ?v11B) ?hi11B ?hs11B ?hf11B ?hr11B ?hQ11B (Or.inl ⟨?hw11B, ?hy11B⟩) (by assumption) ?h11B
      case hi11B => (simp only [List.getElem?_toArray, List.getElem?_cons_succ, List.getElem?_cons_zero]; rfl)
      case hs11B => kernel_rfl
      case hf11B => kernel_rfl
      case hr11B => kernel_rfl
      case hw11B => rfl
      case hy11B => (intro w0 hSw; clear hSw; go_simp; first | done | with_reducible rfl)
      case hQ11B => exact fun _ _ _ h => h
      try simp only [Act.put, List.setIfInBounds_toArray, List.set_cons_zero, List.set_cons_succ]
      refine wpAnyH_take (i := 12) (oi := ?oi12B) (v := ?v12B) ?hi12B ?hs12B ?hf12B ?hr12B ?hQ12B (Or.inl ⟨?hw12B, ?hy12B⟩) (by assumption) ?h12B
      case hi12B => (simp only [List.getElem?_toArray, List.getElem?_cons_succ, List.getElem?_cons_zero]; rfl)
      case hs12B => kernel_rfl
      case hf12B => kernel_rfl
      case hr12B => kernel_rfl
      case hw12B => rfl
      case hy12B => (intro w0 hSw; clear hSw; go_simp; first | done | with_reducible rfl)
      case hQ12B => exact fun _ _ _ h => h
      try simp only [Act.put, List.setIfInBounds_toArray, List.set_cons_zero, List.set_cons_succ]
      refine wpAnyH_take (i := 13) (oi := ?oi13B) (v := ?v13B) ?hi13B ?hs13B ?hf13B ?hr13B ?hQ13B (Or.inl ⟨?hw13B, ?hy13B⟩) (by assumption) ?h13B
      case hi13B => (simp only [List.getElem?_toArray, List.getElem?_cons_succ, List.getElem?_cons_zero]; rfl)
      case hs13B => kernel_rfl
      case hf13B => kernel_rfl
      case hr13B => kernel_rfl
      case hw13B => rfl
      case hy13B => (intro w0 hSw; clear hSw; go_simp; first | done | with_reducible rfl)
      case hQ13B => exact fun _ _ _ h => h
      try simp only [Act.put, List.setIfInBounds_toArray, List.set_cons_zero, List.set_cons_succ]
      refine wpAnyH_ready (rs := [15]) (by kernel_rfl) (by simp) ?_
      refine AllReadyH.cons (o := ?o15B) ?hi15B ?step15B AllReadyH.nil
      case hi15B => (simp only [List.getElem?_toArray, List.getElem?_cons_succ, List.getElem?_cons_zero]; rfl)
      intro K hK
      go_simp
      refine hK.out _ _ (st12_below hHeld (Nat.le_refl _) _ _ _) (fun hHeld => ?_)
      clear hK K
      try simp only [Act.put, List.setIfInBounds_toArray, List.set_cons_zero, List.set_cons_succ]
      refine wpAnyH_ready (rs := [16]) (by kernel_rfl) (by simp) ?_
      refine AllReadyH.cons (o := ?o16B) ?hi16B ?step16B AllReadyH.nil
      case hi16B => (simp only [List.getElem?_toArray, List.getElem?_cons_succ, List.getElem?_cons_zero]; rfl)
      intro K hK
      go_simp
      refine hK.out _ _ (hHeld) (fun hHeld => ?_)
      clear hK K
      try simp only [Act.put, List.setIfInBounds_toArray, List.set_cons_zero, List.set_cons_succ]
      refine wpAnyH_done (by kernel_rfl) ?_ _
      go_wp2_with fail
      go_meet
      case rel => exact ⟨_, _, _, rfl, rfl, cbx_B hx2 hB1 hT (Nat.le_refl _)⟩
  case rest =>
    obtain ⟨b, v1, v2, rfl, rfl, hR⟩ := hcut
    obtain ⟨s1, o1, s2, o2, rfl, rfl⟩ := bk_slices hR.bk.1.1 hR.bk.1.2
    obtain ⟨n1, hn1⟩ : ∃ n, Hid (R.js.length = n) := ⟨_, rfl⟩
    obtain ⟨n2, hn2⟩ : ∃ n, Hid (R.rs.length = n) := ⟨_, rfl⟩
    rw [hn1.out, hn2.out] at hR
    have HR : Aside (CBx w1 wc b R (.slice s1 n1 o1) (.slice s2 n2 o2)) := hR
    have HI2 : Aside (WIn X wc B g1 g2 xs W.tip cs W.t) := HI1.out.later hR.below
    have HX2 : Aside (wc.heap[w.heap.size]? = some (boxH ⟨xk, (k : Int), xn, xj, xp, xe⟩)) := heap_below HX1.out hR.below (heap_lt HX1.out)
    clear hR HI1 HX1 HB0 HK1
    generalize wc = w2 at *
    rcases HC.out with ⟨h0, h1⟩ | ⟨h0, h1⟩
    · have hz : (d != 0) = true := by rw [bne_iff_ne]; exact h0
      subst h1
      clear h0 HC HR HX2
      go_wp2
      go_ret
      exact ⟨rfl, xs, cs, HI2.out, HE.out.1, HE.out.2⟩
    · have hz : (d != 0) = false := by rw [h0]; rfl
      subst h1
      clear h0 HC
      have zb := HI2.out.boxz
      have zh : ∀ i, w2.cell? ⟨w.heap.size, i, none⟩ = #[Value.int .i64 xk, .int .i64 (k : Int), .int .i64 xn, .int .i64 xj, .int .i64 xp, .int .i64 xe.k, .int .i64 xe.j, .int .i64 xe.v, .int .i64 xe.t, .int .i64 xe.c][i]? := fun i => Joins.cell_of_block HX2.out i
      have zx : ∀ i, w2.cell? ⟨b, i, none⟩ = #[Value.int .i64 R.p, .int .i64 R.d, .int .i64 R.e.k, .int .i64 R.e.j, .int .i64 R.e.v, .int .i64 R.e.t, .int .i64 R.e.c, .int .i64 R.a, .int .i64 R.l, .int .i64 R.n, .slice s1 n1 o1, .slice s2 n2 o2][i]? := fun i => Joins.cell_of_block HR.out.box i
      have y0 := HI2.out.cat HY.out (i := 0) rfl
      have y1 := HI2.out.cat HY.out (i := 1) rfl
      have y2 := HI2.out.cat HY.out (i := 2) rfl
      have y3 := HI2.out.cat HY.out (i := 3) rfl
      have y4 := HI2.out.cat HY.out (i := 4) rfl
      have y5 := HI2.out.cat HY.out (i := 5) rfl
      have y6 := HI2.out.cat HY.out (i := 6) rfl
      have y7 := HI2.out.cat HY.out (i := 7) rfl
      have y8 := HI2.out.cat HY.out (i := 8) rfl
      have y9 := HI2.out.cat HY.out (i := 9) rfl
      have y10 := HI2.out.cat HY.out (i := 10) rfl
      have y11 := HI2.out.cat HY.out (i := 11) rfl
      simp only [Nat.add_zero] at y0
      have fy := HI2.out.cfz
      have HS : Aside (WHas X (stC w2 g2 (k * 12) ⟨R, .slice s1 n1 o1, .slice s2 n2 o2⟩).drew B g1 g2 ⟨W.ns, W.tip, W.cs.set k R, W.t⟩) := by
        have := (has_putC (z := ⟨R, .slice s1 n1 o1, .slice s2 n2 o2⟩) HI2.out HE.out.1 HE.out.2 HY.out HR.out.bk).later (Below.refl _ _).drew
        rw [Wd.putC, Int.toNat_natCast] at this
        exact this
      have HX3 : Aside ((stC w2 g2 (k * 12) ⟨R, .slice s1 n1 o1, .slice s2 n2 o2⟩).drew.heap[w.heap.size]? = some (boxH ⟨xk, (k : Int), xn, xj, xp, xe⟩)) := heap_drew (stC_other HX2.out (by have := HG.out.1; omega) _ _)
      clear HR HI2 HX2 HY HE
      go_upto_region 6 with fail
      go_region
      go_upto_region 7 with fail
      clear zb zh zx y0 y1 y2 y3 y4 y5 y6 y7 y8 y9 y10 y11 fy
      change Aside (WHas X ((((((((((((w2.setCell ⟨g2, k * 12, none⟩ (.int .i64 R.p)).setCell ⟨g2, k * 12 + 1, none⟩ (.int .i64 R.d)).setCell ⟨g2, k * 12 + 2, none⟩ (.int .i64 R.e.k)).setCell ⟨g2, k * 12 + 3, none⟩ (.int .i64 R.e.j)).setCell ⟨g2, k * 12 + 4, none⟩ (.int .i64 R.e.v)).setCell ⟨g2, k * 12 + 5, none⟩ (.int .i64 R.e.t)).setCell ⟨g2, k * 12 + 6, none⟩ (.int .i64 R.e.c)).setCell ⟨g2, k * 12 + 7, none⟩ (.int .i64 R.a)).setCell ⟨g2, k * 12 + 8, none⟩ (.int .i64 R.l)).setCell ⟨g2, k * 12 + 9, none⟩ (.int .i64 R.n)).setCell ⟨g2, k * 12 + 10, none⟩ (.slice s1 n1 o1)).setCell ⟨g2, k * 12 + 11, none⟩ (.slice s2 n2 o2)).drew B g1 g2 ⟨W.ns, W.tip, W.cs.set k R, W.t⟩) at HS
      change Aside (((((((((((((w2.setCell ⟨g2, k * 12, none⟩ (.int .i64 R.p)).setCell ⟨g2, k * 12 + 1, none⟩ (.int .i64 R.d)).setCell ⟨g2, k * 12 + 2, none⟩ (.int .i64 R.e.k)).setCell ⟨g2, k * 12 + 3, none⟩ (.int .i64 R.e.j)).setCell ⟨g2, k * 12 + 4, none⟩ (.int .i64 R.e.v)).setCell ⟨g2, k * 12 + 5, none⟩ (.int .i64 R.e.t)).setCell ⟨g2, k * 12 + 6, none⟩ (.int .i64 R.e.c)).setCell ⟨g2, k * 12 + 7, none⟩ (.int .i64 R.a)).setCell ⟨g2, k * 12 + 8, none⟩ (.int .i64 R.l)).setCell ⟨g2, k * 12 + 9, none⟩ (.int .i64 R.n)).setCell ⟨g2, k * 12 + 10, none⟩ (.slice s1 n1 o1)).setCell ⟨g2, k * 12 + 11, none⟩ (.slice s2 n2 o2)).drew.heap[w.heap.size]? = some (boxH ⟨xk, (k : Int), xn, xj, xp, xe⟩)) at HX3
      generalize ((((((((((((w2.setCell ⟨g2, k * 12, none⟩ (.int .i64 R.p)).setCell ⟨g2, k * 12 + 1, none⟩ (.int .i64 R.d)).setCell ⟨g2, k * 12 + 2, none⟩ (.int .i64 R.e.k)).setCell ⟨g2, k * 12 + 3, none⟩ (.int .i64 R.e.j)).setCell ⟨g2, k * 12 + 4, none⟩ (.int .i64 R.e.v)).setCell ⟨g2, k * 12 + 5, none⟩ (.int .i64 R.e.t)).setCell ⟨g2, k * 12 + 6, none⟩ (.int .i64 R.e.c)).setCell ⟨g2, k * 12 + 7, none⟩ (.int .i64 R.a)).setCell ⟨g2, k * 12 + 8, none⟩ (.int .i64 R.l)).setCell ⟨g2, k * 12 + 9, none⟩ (.int .i64 R.n)).setCell ⟨g2, k * 12 + 10, none⟩ (.slice s1 n1 o1)).setCell ⟨g2, k * 12 + 11, none⟩ (.slice s2 n2 o2)).drew = w3 at *
      have zh : ∀ i, w3.cell? ⟨w.heap.size, i, none⟩ = #[Value.int .i64 xk, .int .i64 (k : Int), .int .i64 xn, .int .i64 xj, .int .i64 xp, .int .i64 xe.k, .int .i64 xe.j, .int .i64 xe.v, .int .i64 xe.t, .int .i64 xe.c][i]? := fun i => Joins.cell_of_block HX3.out i
      by_cases h3 : xk = 3
      · have htp : Hid (tp = W.tip + 1) := by rw [Hid, ← HTP.out, if_pos h3]
        have hb3 : (xk == 3) = true := by rw [h3]; rfl
        have hw1 : IntKind.i64.wrap (W.tip + 1) = W.tip + 1 := by rw [IntKind.wrap_i64]; have := HT3.out; have := HT0.out; omega
        obtain ⟨ys, ds, hJ, hJn, hJc⟩ := HS.out
        have zb := hJ.boxz
        have fb : ∀ i, w3.frozen? ⟨B, i, none⟩ = false := fun i => Joins.unfrozen_of_block hJ.st.box i
        clear h3 hJ hJn hJc HTP
        go_wp2
        go_ret
        exact ⟨rfl, by rw [htp.out]; exact has_tip HS.out _⟩
      · have htp : Hid (tp = W.tip) := by rw [Hid, ← HTP.out, if_neg h3]
        have hb3 : (xk == 3) = false := by rw [beq_eq_false_iff_ne]; exact h3
        clear h3 HTP
        go_wp2
        go_ret
        exact ⟨rfl, by rw [htp.out]; exact HS.out⟩
/-- Package world's atClient. -/
theorem w_atClient {X w : World} {B g1 g2 : Nat} {W : Wd} (hW : RW W) (h : WHas X w B g1 g2 W) (x : Hp) : AnsW 75 #[.pointer (some ⟨B, 0, none⟩), x.val] X w B g1 g2 (atClient W x) := by
  have H := h
  obtain ⟨xs, cs, hI, hn, hc⟩ := h
  unfold atClient
  by_cases g : 0 ≤ x.c ∧ x.c ≤ 2
  · rw [if_neg (not_not_intro g)]
    obtain ⟨xk, xc, xn, xj, xp, xe⟩ := x
    simp only at g ⊢
    obtain ⟨k, rfl⟩ : ∃ k : Nat, xc = k := ⟨xc.toNat, by omega⟩
    obtain ⟨y, hy⟩ : ∃ y, cs[k]? = some y := ⟨cs[k]'(by have := hI.three'; omega), List.getElem?_eq_getElem _⟩
    rw [wd_cl hc hy, Int.toNat_natCast]
    obtain ⟨c, v1, v2⟩ := y
    obtain ⟨a1, k1, a2, k2, e1, e2⟩ := bk_slices (hI.st.clients _ (List.mem_of_getElem? hy)).1.1 (hI.st.clients _ (List.mem_of_getElem? hy)).1.2
    simp only at e1 e2
    subst e1 e2
    exact w_atClient_at hW hI hn hc k (by omega) c a1 a2 _ k1 _ k2 hy xk xn xj xp xe
  · rw [if_pos g]
    have hbA : Below w.heap.size w (w.alloc (boxH x)) := grew (Below.refl _ _) _
    have hcl := w_isClient (hI.later hbA).st x.c
    rw [decide_eq_false g] at hcl
    have HX0 : Aside ((w.alloc (boxH x)).heap[w.heap.size]? = some (boxH x)) := heap_new _ _
    have HH : Aside (WHas X (w.alloc (boxH x)) B g1 g2 W) := H.later hbA
    clear hI hn hc g hbA H hW
    go_enter Tryz.func75, Tryz.ntmps75
    go_upto_region 1 with fail
    generalize w.alloc (boxH x) = w1 at *
    have zh : ∀ i, w1.cell? ⟨w.heap.size, i, none⟩ = #[Value.int .i64 x.k, .int .i64 x.c, .int .i64 x.n, .int .i64 x.j, .int .i64 x.p, .int .i64 x.e.k, .int .i64 x.e.j, .int .i64 x.e.v, .int .i64 x.e.t, .int .i64 x.e.c][i]? := fun i => Joins.cell_of_block HX0.out i
    go_wp2_with fail
    refine hcl.mono ?_
    rintro e wx ⟨rfl, hwx⟩
    obtain rfl : w1 = wx := hwx.symm
    clear hcl zh
    go_wp2
    go_ret
    exact ⟨rfl, HH.out⟩
end Go.Proofs.YtmoaobfmopimlafGreatDoor
namespace Go.Proofs.YtmoaobfmopimlafGreatDoor
open Go.RowKit
/-- A node in a box of its own, written there. -/
theorem local_post {w w1 w2 : World} {d : Nat} {x : Nb} {n' : Nd} (hp : Post st4 w1 w2 d 0 x n') (hx : w1.heap[d]? = some (boxNb x)) (hxt : NodeT w1 x) (hB : Below w.heap.size w w1) (hd : w.heap.size ≤ d) (h60 : n'.u.cells.length = 60) (hup : n'.up = x.n.up) :
    ∃ y : Nb, y.n = n' ∧ w2.heap[d]? = some (boxNb y) ∧ NodeT w2 y ∧ Below w.heap.size w w2 := by
  obtain ⟨wq, hb, hc⟩ := hp
  rcases hc with ⟨rfl, rfl⟩ | ⟨y, hy, rfl, rfl⟩
  · exact ⟨x, rfl, heap_below hx hb (heap_lt hx), hxt.later hb, step_below1 hB hb⟩
  · have h0 : wq.heap[d]? = some (boxNb x) := heap_below hx hb (heap_lt hx)
    obtain ⟨a1, m1, k1, e1⟩ := roomy_sl hy.unit.room
    obtain ⟨a2, m2, k2, e2⟩ := roomy_sl hy.disk.room1
    obtain ⟨a3, m3, k3, e3⟩ := roomy_sl hy.disk.room2
    obtain ⟨b1, p1, q1, f1⟩ := roomy_sl hxt.unit.room
    obtain ⟨b2, p2, q2, f2⟩ := roomy_sl hxt.disk.room1
    obtain ⟨b3, p3, q3, f3⟩ := roomy_sl hxt.disk.room2
    have g0 := Joins.block_setCell h0 (i := 0) (.int .i64 y.n.u.p)
    have g1 := Joins.block_setCell g0 (i := 1) y.vc
    have g2 := Joins.block_setCell g1 (i := 2) y.vs
    have g3 := Joins.block_setCell g2 (i := 3) y.vw
    simp only [List.setIfInBounds_toArray, List.set_cons_zero, List.set_cons_succ] at g0 g1 g2 g3
    have nb : ∀ (A : List Value), (∀ v, v ∈ A → (∃ a n c, v = .slice a n c) ∨ (∃ q, v = .int .i64 q) ∨ ∃ b, v = .bool b) → ∀ q : Int, Value.int .u8 q ∉ A.toArray.toList := fun A hA q hq => by
      rcases hA _ (by simpa using hq) with ⟨_, _, _, h⟩ | ⟨_, h⟩ | ⟨_, h⟩ <;> cases h
    have R0 : NodeR wq y := ⟨hy, h60⟩
    have R1 := node_off R0 h0 (by simp) (nb _ (by simp [f1, f2, f3])) 0 (.int .i64 y.n.u.p)
    have R2 := node_off R1 g0 (by simp) (nb _ (by simp [f1, f2, f3])) 1 y.vc
    have R3 := node_off R2 g1 (by simp) (nb _ (by simp [e1, f2, f3])) 2 y.vs
    have R4 := node_off R3 g2 (by simp) (nb _ (by simp [e1, e2, f3])) 3 y.vw
    refine ⟨y, rfl, ?_, R4.1, ?_⟩
    · have : (boxNb y) = .cells #[.int .i64 y.n.u.p, y.vc, y.vs, y.vw, .bool x.n.up] 49 := by rw [← hup]
      rw [this]
      exact g3
    · exact ((((step_below1 hB hb).setCell (p := ⟨d, 0, none⟩) hd _).setCell (p := ⟨d, 0 + 1, none⟩) hd _).setCell (p := ⟨d, 0 + 2, none⟩) hd _).setCell (p := ⟨d, 0 + 3, none⟩) hd _
theorem post_below {w w1 w2 : World} {d : Nat} {x : Nb} {n' : Nd} (hp : Post st4 w1 w2 d 0 x n') (hB : Below w.heap.size w w1) (hd : w.heap.size ≤ d) : Below w.heap.size w w2 := by
  obtain ⟨wq, hb, hc⟩ := hp
  rcases hc with ⟨rfl, _⟩ | ⟨y, _, _, rfl⟩
  · exact step_below1 hB hb
  · exact ((((step_below1 hB hb).setCell (p := ⟨d, 0, none⟩) hd _).setCell (p := ⟨d, 0 + 1, none⟩) hd _).setCell (p := ⟨d, 0 + 2, none⟩) hd _).setCell (p := ⟨d, 0 + 3, none⟩) hd _
theorem post_other {w1 w2 : World} {d q : Nat} {x : Nb} {n' : Nd} {ob : Obj} (hp : Post st4 w1 w2 d 0 x n') (h : w1.heap[q]? = some ob) (hne : q ≠ d) : w2.heap[q]? = some ob := by
  obtain ⟨wq, hb, hc⟩ := hp
  have h0 := heap_below h hb (heap_lt h)
  rcases hc with ⟨rfl, _⟩ | ⟨y, _, _, rfl⟩
  · exact h0
  · exact other_block (other_block (other_block (other_block h0 hne _ _) hne _ _) hne _ _) hne _ _
/-- A node and a client stored. -/
theorem has_both {X w : World} {B g1 g2 : Nat} {W : Wd} {xs : List Nb} {cs : List Cb} (hI : WIn X w B g1 g2 xs W.tip cs W.t) (hn : nodesOf xs = W.ns) (hc : clientsOf cs = W.cs) {j k : Nat} {x : Nb} (hx : xs[j]? = some x) {c : Cb} (hy : cs[k]? = some c) {y : Nb} (hyn : NodeT w y) (h60 : y.n.u.cells.length = 60) {z : Cb} (hz : ClientR w z) :
    WHas X (stC (st5 w g1 (j * 5) y) g2 (k * 12) z) B g1 g2 ((W.putN (j : Int) y.n).putC (k : Int) z.c) := by
  obtain ⟨s1, s2, s3⟩ := (⟨roomy_sl hyn.unit.room, roomy_sl hyn.disk.room1, roomy_sl hyn.disk.room2⟩ : _ ∧ _ ∧ _)
  have h0 := (hI.st.with ⟨hyn, h60⟩).more (L' := y :: xs) (M' := z :: cs) (fun q hq => (List.mem_cons.1 hq).elim (fun e => e ▸ ⟨hyn, h60⟩) (hI.st.nodes q)) (fun q hq => (List.mem_cons.1 hq).elim (fun e => e ▸ hz) (hI.st.clients q))
  have Hs := ((((h0.setN (j * 5 + 0) (int_nob y.n.u.p)).setN (j * 5 + 1) (slice_nob s1)).setN (j * 5 + 2) (slice_nob s2)).setN (j * 5 + 3) (slice_nob s3)).setN (j * 5 + 4) (bool_nob y.n.up)
  rw [nput5 hx y] at Hs
  have hz2 : ClientR (st5 w g1 (j * 5) y) z := Hs.clients z (List.mem_cons_self ..)
  have hI2 : WIn X (st5 w g1 (j * 5) y) B g1 g2 (xs.set j y) W.tip cs W.t := ⟨Hs.more (fun q hq => Hs.nodes q (mem_set hq)) (fun q hq => Hs.clients q (List.mem_cons_of_mem _ hq)), by rw [List.length_set]; exact hI.three, hI.three'⟩
  refine has_putC (W := W.putN (j : Int) y.n) hI2 ?_ hc hy hz2
  rw [nodes_set, hn]
  show W.ns.set j y.n = W.ns.set (j : Int).toNat y.n
  rw [Int.toNat_natCast]
set_option linter.unusedSimpArgs false in
set_option maxHeartbeats 8000000 in
set_option maxRecDepth 100000 in
theorem w_hear_at {X w : World} {B g1 g2 : Nat} {W : Wd} {xs : List Nb} {cs : List Cb} (hL : Laid w) (hI : WIn X w B g1 g2 xs W.tip cs W.t) (hn : nodesOf xs = W.ns) (hc : clientsOf cs = W.cs) (k j : Nat) (c : Cl) (u : Un) (sf wt : List UInt8) (up : Bool)
    (a1 a2 a3 a4 a5 : Option Addr) (m1 k1 m2 k2 m3 k3 m4 k4 m5 k5 : Nat) (hy : cs[k]? = some ⟨c, .slice a1 m1 k1, .slice a2 m2 k2⟩) (hx : xs[j]? = some ⟨⟨u, sf, wt, up⟩, .slice a3 m3 k3, .slice a4 m4 k4, .slice a5 m5 k5⟩) (hcl : c.l = (j : Int)) (hn1 : sf.length ≤ topLen) (hn2 : wt.length ≤ topLen) (r : Rc) (hr : r = Rc.zero ∨ r.k = 1) (s : En)
    (hok : ((⟨u, sf, wt, up⟩ : Nd).writeAny r).2 = 0 → ((⟨u, sf, wt, up⟩ : Nd).writeAny r).1.u.cells.length = 60 ∧ ((⟨u, sf, wt, up⟩ : Nd).writeAny r).1.up = up) :
    AnsW 109 #[.pointer (some ⟨g2, k * 12, none⟩), .pointer (some ⟨g1, j * 5, none⟩), r.val, s.val] X w B g1 g2 (hearAt W (k : Int) c (⟨u, sf, wt, up⟩ : Nd) r s) := by
  obtain ⟨⟨n', d1⟩, q1⟩ : ∃ q, (⟨u, sf, wt, up⟩ : Nd).writeAny r = q := ⟨_, rfl⟩
  obtain ⟨⟨R, d2⟩, q2⟩ : ∃ q, hearOf c s = q := ⟨_, rfl⟩
  rw [q1] at hok
  simp only at hok
  have hb3 : Below w.heap.size w (((w.alloc (boxRc r)).alloc (boxE s.k s.j s.v s.t s.c)).alloc (boxNb ⟨⟨u, sf, wt, up⟩, .slice a3 m3 k3, .slice a4 m4 k4, .slice a5 m5 k5⟩)) := grew (grew (grew (Below.refl _ _) _) _) _
  have hxt := hI.st.nodes _ (List.mem_of_getElem? hx)
  have HD : Aside ((((w.alloc (boxRc r)).alloc (boxE s.k s.j s.v s.t s.c)).alloc (boxNb ⟨⟨u, sf, wt, up⟩, .slice a3 m3 k3, .slice a4 m4 k4, .slice a5 m5 k5⟩)).heap[w.heap.size + 1 + 1]? = some (boxNb ⟨⟨u, sf, wt, up⟩, .slice a3 m3 k3, .slice a4 m4 k4, .slice a5 m5 k5⟩)) := by
    have := heap_new ((w.alloc (boxRc r)).alloc (boxE s.k s.j s.v s.t s.c)) (boxNb ⟨⟨u, sf, wt, up⟩, .slice a3 m3 k3, .slice a4 m4 k4, .slice a5 m5 k5⟩)
    rwa [World.size_alloc, World.size_alloc] at this
  have HR0 : Aside ((((w.alloc (boxRc r)).alloc (boxE s.k s.j s.v s.t s.c)).alloc (boxNb ⟨⟨u, sf, wt, up⟩, .slice a3 m3 k3, .slice a4 m4 k4, .slice a5 m5 k5⟩)).heap[w.heap.size]? = some (boxRc r)) := heap_old (heap_old (heap_new _ _) _) _
  have HS0 : Aside ((((w.alloc (boxRc r)).alloc (boxE s.k s.j s.v s.t s.c)).alloc (boxNb ⟨⟨u, sf, wt, up⟩, .slice a3 m3 k3, .slice a4 m4 k4, .slice a5 m5 k5⟩)).heap[w.heap.size + 1]? = some (boxE s.k s.j s.v s.t s.c)) := by
    have := heap_new (w.alloc (boxRc r)) (boxE s.k s.j s.v s.t s.c)
    rw [World.size_alloc] at this
    exact heap_old this _
  have hxw : NodeT (((w.alloc (boxRc r)).alloc (boxE s.k s.j s.v s.t s.c)).alloc (boxNb ⟨⟨u, sf, wt, up⟩, .slice a3 m3 k3, .slice a4 m4 k4, .slice a5 m5 k5⟩)) ⟨⟨u, sf, wt, up⟩, .slice a3 m3 k3, .slice a4 m4 k4, .slice a5 m5 k5⟩ := hxt.1.later hb3
  have kw := w_writeAny (w := (((w.alloc (boxRc r)).alloc (boxE s.k s.j s.v s.t s.c)).alloc (boxNb ⟨⟨u, sf, wt, up⟩, .slice a3 m3 k3, .slice a4 m4 k4, .slice a5 m5 k5⟩))) (g := w.heap.size + 1 + 1) (o := 0) (NC := Nb.cells ⟨⟨u, sf, wt, up⟩, .slice a3 m3 k3, .slice a4 m4 k4, .slice a5 m5 k5⟩) (x := ⟨⟨u, sf, wt, up⟩, .slice a3 m3 k3, .slice a4 m4 k4, .slice a5 m5 k5⟩) (hL.later hb3) ⟨HD.out, fun i v hv => by rw [Nat.zero_add]; exact hv, hxw⟩ hn1 hn2 hr
  simp only at kw
  rw [q1] at kw
  have KH : Aside (∀ V, Below w.heap.size w V → AnsT 136 #[c.val (.slice a1 m1 k1) (.slice a2 m2 k2), s.val] V (R, d2)) := fun V hV => by
    have := cl_heard c s (.slice a1 m1 k1) (.slice a2 m2 k2) V (bkAt_later (hI.st.clients _ (List.mem_of_getElem? hy)).1 hV)
    rwa [q2] at this
  have HXW : Aside (NodeT (((w.alloc (boxRc r)).alloc (boxE s.k s.j s.v s.t s.c)).alloc (boxNb ⟨⟨u, sf, wt, up⟩, .slice a3 m3 k3, .slice a4 m4 k4, .slice a5 m5 k5⟩)) ⟨⟨u, sf, wt, up⟩, .slice a3 m3 k3, .slice a4 m4 k4, .slice a5 m5 k5⟩) := hxw
  have HI0 : Aside (WIn X w B g1 g2 xs W.tip cs W.t) := hI
  have HE : Aside (nodesOf xs = W.ns ∧ clientsOf cs = W.cs) := ⟨hn, hc⟩
  have HY : Aside (cs[k]? = some ⟨c, .slice a1 m1 k1, .slice a2 m2 k2⟩) := hy
  have HX : Aside (xs[j]? = some ⟨⟨u, sf, wt, up⟩, .slice a3 m3 k3, .slice a4 m4 k4, .slice a5 m5 k5⟩) := hx
  have HB3 : Aside (Below w.heap.size w (((w.alloc (boxRc r)).alloc (boxE s.k s.j s.v s.t s.c)).alloc (boxNb ⟨⟨u, sf, wt, up⟩, .slice a3 m3 k3, .slice a4 m4 k4, .slice a5 m5 k5⟩))) := hb3
  have HOK : Aside (d1 = 0 → n'.u.cells.length = 60 ∧ n'.up = up) := hok
  obtain ⟨rr, HRR⟩ : ∃ rr, Hid (hearAt W (k : Int) c (⟨u, sf, wt, up⟩ : Nd) r s = rr) := ⟨_, rfl⟩
  rw [HRR.out]
  have HC : Hid ((d1 ≠ 0 ∧ rr = (W, d1)) ∨ (d1 = 0 ∧ ((d2 ≠ 0 ∧ rr = (W, d2)) ∨ (d2 = 0 ∧ rr = ((W.putN (j : Int) n').putC (k : Int) R, 0))))) := by
    have := HRR.out
    rw [hearAt, q1, q2, hcl] at this
    by_cases h0 : d1 = 0
    · rw [if_neg (not_not_intro h0)] at this
      refine Or.inr ⟨h0, ?_⟩
      by_cases h1 : d2 = 0
      · rw [if_neg (not_not_intro h1)] at this; exact Or.inr ⟨h1, this.symm⟩
      · rw [if_pos h1] at this; exact Or.inl ⟨h1, this.symm⟩
    · rw [if_pos h0] at this; exact Or.inl ⟨h0, this.symm⟩
  have x0 := (hI.nat hx).cell (i := 0) rfl
  have x1 := (hI.nat hx).cell (i := 1) rfl
  have x2 := (hI.nat hx).cell (i := 2) rfl
  have x3 := (hI.nat hx).cell (i := 3) rfl
  have x4 := (hI.nat hx).cell (i := 4) rfl
  simp only [Nat.add_zero] at x0
  have hbx : ∀ {g i : Nat} {v : Value}, w.cell? ⟨g, i, none⟩ = some v → ((w.alloc (boxRc r)).alloc (boxE s.k s.j s.v s.t s.c)).cell? ⟨g, i, none⟩ = some v := fun h => cell_later (grew (grew (Below.refl _ _) _) _) h
  have x0 := hbx x0
  have x1 := hbx x1
  have x2 := hbx x2
  have x3 := hbx x3
  have x4 := hbx x4
  clear hbx q1 q2 hI hn hc hy hx HRR hb3 hxt hxw hok hr hn1 hn2 hL hcl
  go_enter Tryz.func109, Tryz.ntmps109
  go_upto_region 2 with fail
  generalize (((w.alloc (boxRc r)).alloc (boxE s.k s.j s.v s.t s.c)).alloc (boxNb ⟨⟨u, sf, wt, up⟩, .slice a3 m3 k3, .slice a4 m4 k4, .slice a5 m5 k5⟩)) = w1 at *
  clear x0 x1 x2 x3 x4
  have zr : ∀ i, w1.cell? ⟨w.heap.size, i, none⟩ = #[Value.int .i64 r.k, .int .i64 r.a, .int .i64 r.p, .int .i64 r.e.k, .int .i64 r.e.j, .int .i64 r.e.v, .int .i64 r.e.t, .int .i64 r.e.c][i]? := fun i => Joins.cell_of_block HR0.out i
  go_wp2_with fail
  refine kw.mono ?_
  rintro e w2 ⟨rfl, hp⟩
  clear kw zr
  rcases HC.out with ⟨h0, h1⟩ | ⟨h0, HC1⟩
  · have hz : (d1 != 0) = true := by rw [bne_iff_ne]; exact h0
    subst h1
    have HI2 : Aside (WHas X w2 B g1 g2 W) := ⟨xs, cs, HI0.out.later (post_below hp HB3.out (by omega)), HE.out.1, HE.out.2⟩
    clear h0 HC hp
    go_wp2
    go_ret
    exact ⟨rfl, HI2.out⟩
  · have hz : (d1 != 0) = false := by rw [h0]; rfl
    have HC2 : Hid _ := HC1
    obtain ⟨yb, hyn, hyb, hyt, hB2⟩ := local_post hp HD.out HXW.out HB3.out (by omega) (HOK.out h0).1 (HOK.out h0).2
    have H60 : Aside (yb.n.u.cells.length = 60) := by rw [hyn]; exact (HOK.out h0).1
    have HYN : Aside (yb.n = n') := hyn
    have HYB : Aside (w2.heap[w.heap.size + 1 + 1]? = some (boxNb yb)) := hyb
    have HYT : Aside (NodeT w2 yb) := hyt
    have HB2 : Aside (Below w.heap.size w w2) := hB2
    have HI2 : Aside (WIn X w2 B g1 g2 xs W.tip cs W.t) := HI0.out.later hB2
    have HS2 : Aside (w2.heap[w.heap.size + 1]? = some (boxE s.k s.j s.v s.t s.c)) := post_other hp HS0.out (by omega)
    clear h0 HC HC1 hp hyn hyb hyt hB2 HOK HD HXW HB3 HI0 HR0 HS0
    have HK2 : Aside (∀ V, Below w2.heap.size w2 V → AnsT 136 #[c.val (.slice a1 m1 k1) (.slice a2 m2 k2), s.val] V (R, d2)) := fun V hV => KH.out V (HB2.out.trans (hV.mono HB2.out.size))
    clear KH
    go_upto_region 5 with fail
    go_cut [11, 12] from 21 to 28 (fun s5 s6 wx => ∃ (b : Nat) (v1 v2 : Value), s5 = .pointer (some ⟨b, 0, none⟩) ∧ s6 = .int .i64 d2 ∧ CBx w2 wx b R v1 v2)
    case first =>
      refine wp_region_held_drew (S := fun W' => Below w2.heap.size w2 W') (by kernel_rfl) ((Below.refl _ _).drew) (fun hHeld => ?_)
      refine wpAnyH_take (i := 0) (oi := ?oi0) (v := ?v0) ?hi0 ?hs0 ?hf0 ?hr0 ?hQ0 (Or.inl ⟨?hw0, ?hy0⟩) (by assumption) ?h0
      case hi0 => (simp only [List.getElem?_toArray, List.getElem?_cons_succ, List.getElem?_cons_zero]; rfl)
      case hs0 => kernel_rfl
      case hf0 => kernel_rfl
      case hr0 => kernel_rfl
      case hw0 => rfl
      case hy0 => (intro w0 hSw; clear hSw; go_simp; first | done | with_reducible rfl)
      case hQ0 => exact fun _ _ _ h => h
      try simp only [Act.put, List.setIfInBounds_toArray, List.set_cons_zero, List.set_cons_succ]
      refine wpAnyH_take (i := 1) (oi := ?oi1) (v := ?v1) ?hi1 ?hs1 ?hf1 ?hr1 ?hQ1 (Or.inl ⟨?hw1, ?hy1⟩) (by assumption) ?h1
      case hi1 => (simp only [List.getElem?_toArray, List.getElem?_cons_succ, List.getElem?_cons_zero]; rfl)
      case hs1 => kernel_rfl
      case hf1 => kernel_rfl
      case hr1 => kernel_rfl
      case hw1 => rfl
      case hy1 => (intro w0 hSw; clear hSw; go_simp; first | done | with_reducible rfl)
      case hQ1 => exact fun _ _ _ h => h
      try simp only [Act.put, List.setIfInBounds_toArray, List.set_cons_zero, List.set_cons_succ]
      refine wpAnyH_take (i := 2) (oi := ?oi2) (v := ?v2) ?hi2 ?hs2 ?hf2 ?hr2 ?hQ2 (Or.inl ⟨?hw2, ?hy2⟩) (by assumption) ?h2
      case hi2 => (simp only [List.getElem?_toArray, List.getElem?_cons_succ, List.getElem?_cons_zero]; rfl)
      case hs2 => kernel_rfl
      case hf2 => kernel_rfl
      case hr2 => kernel_rfl
      case hw2 => rfl
      case hy2 => (intro w0 hSw; have y0 := (HI2.out.later hSw).cat HY.out (i := 0) rfl; have y1 := (HI2.out.later hSw).cat HY.out (i := 1) rfl; have y2 := (HI2.out.later hSw).cat HY.out (i := 2) rfl; have y3 := (HI2.out.later hSw).cat HY.out (i := 3) rfl; have y4 := (HI2.out.later hSw).cat HY.out (i := 4) rfl; have y5 := (HI2.out.later hSw).cat HY.out (i := 5) rfl; have y6 := (HI2.out.later hSw).cat HY.out (i := 6) rfl; have y7 := (HI2.out.later hSw).cat HY.out (i := 7) rfl; have y8 := (HI2.out.later hSw).cat HY.out (i := 8) rfl; have y9 := (HI2.out.later hSw).cat HY.out (i := 9) rfl; have y10 := (HI2.out.later hSw).cat HY.out (i := 10) rfl; have y11 := (HI2.out.later hSw).cat HY.out (i := 11) rfl; simp only [Nat.add_zero] at y0; clear hSw; go_simp; first | done | with_reducible rfl)
      case hQ2 => exact fun _ _ _ h => h
      try simp only [Act.put, List.setIfInBounds_toArray, List.set_cons_zero, List.set_cons_succ]
      refine wpAnyH_take (i := 3) (oi := ?oi3) (v := ?v3) ?hi3 ?hs3 ?hf3 ?hr3 ?hQ3 (Or.inl ⟨?hw3, ?hy3⟩) (by assumption) ?h3
      case hi3 => (simp only [List.getElem?_toArray, List.getElem?_cons_succ, List.getElem?_cons_zero]; rfl)
      case hs3 => kernel_rfl
      case hf3 => kernel_rfl
      case hr3 => kernel_rfl
      case hw3 => rfl
      case hy3 => (intro w0 hSw; have z := (show ∀ i, w0.cell? ⟨w.heap.size + 1, i, none⟩ = #[Value.int .i64 s.k, .int .i64 s.j, .int .i64 s.v, .int .i64 s.t, .int .i64 s.c][i]? from fun i => Joins.cell_of_block (heap_below HS2.out hSw (heap_lt HS2.out)) i); clear hSw; go_simp; first | done | with_reducible rfl)
      case hQ3 => exact fun _ _ _ h => h
      try simp only [Act.put, List.setIfInBounds_toArray, List.set_cons_zero, List.set_cons_succ]
      refine wpAnyH_ready (rs := [4, 8]) (by kernel_rfl) (by simp) ?_
      refine AllReadyH.cons (o := ?o4p) ?hi4p ?step4p (AllReadyH.cons (o := ?o8p) ?hi8p ?step8p AllReadyH.nil)
      case hi4p => (simp only [List.getElem?_toArray, List.getElem?_cons_succ, List.getElem?_cons_zero]; rfl)
      case hi8p => (simp only [List.getElem?_toArray, List.getElem?_cons_succ, List.getElem?_cons_zero]; rfl)
      case step4p =>
        intro K hK
        go_simp
        refine (HK2.out _ hHeld).mono ?_
        rintro e w1 ⟨u1, u2, rfl, hT, hb1⟩
        obtain ⟨s1, o1, s2, o2, rfl, rfl⟩ := bk_slices hT.1.1 hT.1.2
        obtain ⟨n1, hn1⟩ : ∃ n, Hid (R.js.length = n) := ⟨_, rfl⟩
        obtain ⟨n2, hn2⟩ : ∃ n, Hid (R.rs.length = n) := ⟨_, rfl⟩
        rw [hn1.out, hn2.out] at hT ⊢
        have hA1 : Below w2.heap.size w2 w1 := step_below1 hHeld hb1
        refine hK.out _ _ hA1 (fun hHeld => ?_)
        clear hK K
        try simp only [Act.put, List.setIfInBounds_toArray, List.set_cons_zero, List.set_cons_succ]
        refine wpAnyH_take (i := 5) (oi := ?oi5A) (v := ?v5A) ?hi5A ?hs5A ?hf5A ?hr5A ?hQ5A (Or.inl ⟨?hw5A, ?hy5A⟩) (by assumption) ?h5A
        case hi5A => (simp only [List.getElem?_toArray, List.getElem?_cons_succ, List.getElem?_cons_zero]; rfl)
        case hs5A => kernel_rfl
        case hf5A => kernel_rfl
        case hr5A => kernel_rfl
        case hw5A => rfl
        case hy5A => (intro w0 hSw; clear hSw; go_simp; first | done | with_reducible rfl)
        case hQ5A => exact fun _ _ _ h => h
        try simp only [Act.put, List.setIfInBounds_toArray, List.set_cons_zero, List.set_cons_succ]
        refine wpAnyH_take (i := 6) (oi := ?oi6A) (v := ?v6A) ?hi6A ?hs6A ?hf6A ?hr6A ?hQ6A (Or.inl ⟨?hw6A, ?hy6A⟩) (by assumption) ?h6A
        case hi6A => (simp only [List.getElem?_toArray, List.getElem?_cons_succ, List.getElem?_cons_zero]; rfl)
        case hs6A => kernel_rfl
        case hf6A => kernel_rfl
        case hr6A => kernel_rfl
        case hw6A => rfl
        case hy6A => (intro w0 hSw; clear hSw; go_simp; first | done | with_reducible rfl)
        case hQ6A => exact fun _ _ _ h => h
        try simp only [Act.put, List.setIfInBounds_toArray, List.set_cons_zero, List.set_cons_succ]
        refine wpAnyH_take (i := 7) (oi := ?oi7A) (v := ?v7A) ?hi7A ?hs7A ?hf7A ?hr7A ?hQ7A (Or.inl ⟨?hw7A, ?hy7A⟩) (by assumption) ?h7A
        case hi7A => (simp only [List.getElem?_toArray, List.getElem?_cons_succ, List.getElem?_cons_zero]; rfl)
        case hs7A => kernel_rfl
        case hf7A => kernel_rfl
        case hr7A => kernel_rfl
        case hw7A => rfl
        case hy7A => (intro w0 hSw; clear hSw; go_simp; first | done | with_reducible rfl)
        case hQ7A => exact fun _ _ _ h => h
        try simp only [Act.put, List.setIfInBounds_toArray, List.set_cons_zero, List.set_cons_succ]
        refine wpAnyH_ready (rs := [8]) (by kernel_rfl) (by simp) ?_
        refine AllReadyH.cons (o := ?o8A) ?hi8A ?step8A AllReadyH.nil
        case hi8A => (simp only [List.getElem?_toArray, List.getElem?_cons_succ, List.getElem?_cons_zero]; rfl)
        intro K hK
        go_simp
        refine hK.out _ _ (grew hHeld _) (fun hHeld => ?_)
        clear hK K
        try simp only [Act.put, List.setIfInBounds_toArray, List.set_cons_zero, List.set_cons_succ]
        refine wpAnyH_ready (rs := [9]) (by kernel_rfl) (by simp) ?_
        refine AllReadyH.cons (o := ?o9A) ?hi9A ?step9A AllReadyH.nil
        case hi9A => (simp only [List.getElem?_toArray, List.getElem?_cons_succ, List.getElem?_cons_zero]; rfl)
        intro K hK
        go_simp
        refine hK.out _ _ (grew hA1 _) (fun hHeld => ?_)
        clear hK K
        try simp only [Act.put, List.setIfInBounds_toArray, List.set_cons_zero, List.set_cons_succ]
        refine wpAnyH_ready (rs := [10]) (by kernel_rfl) (by simp) ?_
        refine AllReadyH.cons (o := ?o10A) ?hi10A ?step10A AllReadyH.nil
        case hi10A => (simp only [List.getElem?_toArray, List.getElem?_cons_succ, List.getElem?_cons_zero]; rfl)
        intro K hK
        go_simp
        refine hK.out _ _ (hHeld) (fun hHeld => ?_)
        clear hK K
        try simp only [Act.put, List.setIfInBounds_toArray, List.set_cons_zero, List.set_cons_succ]
        refine wpAnyH_done (by kernel_rfl) ?_ _
        go_wp2_with fail
        go_meet
        case rel => exact ⟨_, _, _, rfl, rfl, cbx_A hA1 hT⟩
      case step8p =>
        intro K hK
        go_simp
        refine hK.out _ _ (grew hHeld _) (fun hHeld => ?_)
        clear hK K
        try simp only [Act.put, List.setIfInBounds_toArray, List.set_cons_zero, List.set_cons_succ]
        have hx1 : ((w2.alloc (boxZ)).drew).heap[w2.heap.size]? = some (boxZ) := heap_new w2 _
        refine wpAnyH_ready (rs := [4]) (by kernel_rfl) (by simp) ?_
        refine AllReadyH.cons (o := ?o4B) ?hi4B ?step4B AllReadyH.nil
        case hi4B => (simp only [List.getElem?_toArray, List.getElem?_cons_succ, List.getElem?_cons_zero]; rfl)
        intro K hK
        go_simp
        refine (HK2.out _ hHeld).mono ?_
        rintro e w1 ⟨u1, u2, rfl, hT, hb1⟩
        obtain ⟨s1, o1, s2, o2, rfl, rfl⟩ := bk_slices hT.1.1 hT.1.2
        obtain ⟨n1, hn1⟩ : ∃ n, Hid (R.js.length = n) := ⟨_, rfl⟩
        obtain ⟨n2, hn2⟩ : ∃ n, Hid (R.rs.length = n) := ⟨_, rfl⟩
        rw [hn1.out, hn2.out] at hT ⊢
        have hB1 : Below w2.heap.size w2 w1 := step_below1 hHeld hb1
        have hx2 := heap_below hx1 hb1 (heap_lt hx1)
        have c7 := fun i => Joins.cell_of_block hx2 i
        have f7 := fun i => Joins.unfrozen_of_block hx2 i
        refine hK.out _ _ hB1 (fun hHeld => ?_)
        clear hK K
        try simp only [Act.put, List.setIfInBounds_toArray, List.set_cons_zero, List.set_cons_succ]
        refine wpAnyH_take (i := 5) (oi := ?oi5B) (v := ?v5B) ?hi5B ?hs5B ?hf5B ?hr5B ?hQ5B (Or.inl ⟨?hw5B, ?hy5B⟩) (by assumption) ?h5B
        case hi5B => (simp only [List.getElem?_toArray, List.getElem?_cons_succ, List.getElem?_cons_zero]; rfl)
        case hs5B => kernel_rfl
        case hf5B => kernel_rfl
        case hr5B => kernel_rfl
        case hw5B => rfl
        case hy5B => (intro w0 hSw; clear hSw; go_simp; first | done | with_reducible rfl)
        case hQ5B => exact fun _ _ _ h => h
        try simp only [Act.put, List.setIfInBounds_toArray, List.set_cons_zero, List.set_cons_succ]
        refine wpAnyH_take (i := 6) (oi := ?oi6B) (v := ?v6B) ?hi6B ?hs6B ?hf6B ?hr6B ?hQ6B (Or.inl ⟨?hw6B, ?hy6B⟩) (by assumption) ?h6B
        case hi6B => (simp only [List.getElem?_toArray, List.getElem?_cons_succ, List.getElem?_cons_zero]; rfl)
        case hs6B => kernel_rfl
        case hf6B => kernel_rfl
        case hr6B => kernel_rfl
        case hw6B => rfl
        case hy6B => (intro w0 hSw; clear hSw; go_simp; first | done | with_reducible rfl)
        case hQ6B => exact fun _ _ _ h => h
        try simp only [Act.put, List.setIfInBounds_toArray, List.set_cons_zero, List.set_cons_succ]
        refine wpAnyH_take (i := 7) (oi := ?oi7B) (v := ?v7B) ?hi7B ?hs7B ?hf7B ?hr7B ?hQ7B (Or.inl ⟨?hw7B, ?hy7B⟩) (by assumption) ?h7B
        case hi7B => (simp only [List.getElem?_toArray, List.getElem?_cons_succ, List.getElem?_cons_zero]; rfl)
        case hs7B => kernel_rfl
        case hf7B => kernel_rfl
        case hr7B => kernel_rfl
        case hw7B => rfl
        case hy7B => (intro w0 hSw; clear hSw; go_simp; first | done | with_reducible rfl)
        case hQ7B => exact fun _ _ _ h => h
        try simp only [Act.put, List.setIfInBounds_toArray, List.set_cons_zero, List.set_cons_succ]
        refine wpAnyH_ready (rs := [9]) (by kernel_rfl) (by simp) ?_
        refine AllReadyH.cons (o := ?o9B) ?hi9B ?step9B AllReadyH.nil
        case hi9B => (simp only [List.getElem?_toArray, List.getElem?_cons_succ, List.getElem?_cons_zero]; rfl)
        intro K hK
        go_simp
        refine hK.out _ _ (st12_below hHeld (Nat.le_refl _) _ _ _) (fun hHeld => ?_)
        clear hK K
        try simp only [Act.put, List.setIfInBounds_toArray, List.set_cons_zero, List.set_cons_succ]
        refine wpAnyH_ready (rs := [10]) (by kernel_rfl) (by simp) ?_
        refine AllReadyH.cons (o := ?o10B) ?hi10B ?step10B AllReadyH.nil
        case hi10B => (simp only [List.getElem?_toArray, List.getElem?_cons_succ, List.getElem?_cons_zero]; rfl)
        intro K hK
        go_simp
        refine hK.out _ _ (hHeld) (fun hHeld => ?_)
        clear hK K
        try simp only [Act.put, List.setIfInBounds_toArray, List.set_cons_zero, List.set_cons_succ]
        refine wpAnyH_done (by kernel_rfl) ?_ _
        go_wp2_with fail
        go_meet
        case rel => exact ⟨_, _, _, rfl, rfl, cbx_B hx2 hB1 hT (Nat.le_refl _)⟩
    case rest =>
      obtain ⟨b, v1, v2, rfl, rfl, hR⟩ := hcut
      obtain ⟨s1, o1, s2, o2, rfl, rfl⟩ := bk_slices hR.bk.1.1 hR.bk.1.2
      obtain ⟨n1, hn1⟩ : ∃ n, Hid (R.js.length = n) := ⟨_, rfl⟩
      obtain ⟨n2, hn2⟩ : ∃ n, Hid (R.rs.length = n) := ⟨_, rfl⟩
      rw [hn1.out, hn2.out] at hR
      have HR : Aside (CBx w2 wc b R (.slice s1 n1 o1) (.slice s2 n2 o2)) := hR
      have HI3 : Aside (WIn X wc B g1 g2 xs W.tip cs W.t) := HI2.out.later hR.below
      have HYB3 : Aside (wc.heap[w.heap.size + 1 + 1]? = some (boxNb yb)) := heap_below HYB.out hR.below (heap_lt HYB.out)
      have HYT3 : Aside (NodeT wc yb) := HYT.out.later hR.below
      clear hR HI2 HYB HYT HB2 HK2 HS2
      generalize wc = w3 at *
      rcases HC2.out with ⟨h0, h1⟩ | ⟨h0, h1⟩
      · have hz : (d2 != 0) = true := by rw [bne_iff_ne]; exact h0
        subst h1
        clear h0 HC2 HR HYB3 HYT3
        go_wp2
        go_ret
        exact ⟨rfl, xs, cs, HI3.out, HE.out.1, HE.out.2⟩
      · have hz : (d2 != 0) = false := by rw [h0]; rfl
        subst h1
        clear h0 HC2
        have HF : Aside (WHas X (stC (st5 w3 g1 (j * 5) yb) g2 (k * 12) ⟨R, .slice s1 n1 o1, .slice s2 n2 o2⟩).drew B g1 g2 ((W.putN (j : Int) n').putC (k : Int) R)) := by
          have := (has_both (z := ⟨R, .slice s1 n1 o1, .slice s2 n2 o2⟩) HI3.out HE.out.1 HE.out.2 HX.out HY.out HYT3.out H60.out HR.out.bk).later (Below.refl _ _).drew
          rw [HYN.out] at this
          exact this
        obtain ⟨yn, yc, ys, yw⟩ := yb
        obtain ⟨p3, l3, q3, rfl⟩ := roomy_sl HYT3.out.unit.room
        obtain ⟨p4, l4, q4, rfl⟩ := roomy_sl HYT3.out.disk.room1
        obtain ⟨p5, l5, q5, rfl⟩ := roomy_sl HYT3.out.disk.room2
        have zx : ∀ i, w3.cell? ⟨b, i, none⟩ = #[Value.int .i64 R.p, .int .i64 R.d, .int .i64 R.e.k, .int .i64 R.e.j, .int .i64 R.e.v, .int .i64 R.e.t, .int .i64 R.e.c, .int .i64 R.a, .int .i64 R.l, .int .i64 R.n, .slice s1 n1 o1, .slice s2 n2 o2][i]? := fun i => Joins.cell_of_block HR.out.box i
        have zy : ∀ i, w3.cell? ⟨w.heap.size + 1 + 1, i, none⟩ = #[Value.int .i64 yn.u.p, .slice p3 l3 q3, .slice p4 l4 q4, .slice p5 l5 q5, .bool yn.up][i]? := fun i => Joins.cell_of_block HYB3.out i
        have y0 := HI3.out.cat HY.out (i := 0) rfl
        have y1 := HI3.out.cat HY.out (i := 1) rfl
        have y2 := HI3.out.cat HY.out (i := 2) rfl
        have y3 := HI3.out.cat HY.out (i := 3) rfl
        have y4 := HI3.out.cat HY.out (i := 4) rfl
        have y5 := HI3.out.cat HY.out (i := 5) rfl
        have y6 := HI3.out.cat HY.out (i := 6) rfl
        have y7 := HI3.out.cat HY.out (i := 7) rfl
        have y8 := HI3.out.cat HY.out (i := 8) rfl
        have y9 := HI3.out.cat HY.out (i := 9) rfl
        have y10 := HI3.out.cat HY.out (i := 10) rfl
        have y11 := HI3.out.cat HY.out (i := 11) rfl
        have x0 := (HI3.out.nat HX.out).cell (i := 0) rfl
        have x1 := (HI3.out.nat HX.out).cell (i := 1) rfl
        have x2 := (HI3.out.nat HX.out).cell (i := 2) rfl
        have x3 := (HI3.out.nat HX.out).cell (i := 3) rfl
        have x4 := (HI3.out.nat HX.out).cell (i := 4) rfl
        simp only [Nat.add_zero] at y0 x0
        have fy := HI3.out.cfz
        have fx := (HI3.out.nat HX.out).fz
        have hg12 : g1 ≠ g2 := HI3.out.st.ne12
        have hgb : b ≠ g1 := fun e => by have h1 := HR.out.box; have h2 := HI3.out.st.nrow; rw [e, h2] at h1; injection h1 with h1; injection h1 with _ h3; cases h3
        clear HI3 HYB3 HYT3 HR HYN H60 HY HX HE
        go_upto_region 8 with fail
        go_region
        go_wp2
        go_ret
        exact ⟨rfl, HF.out⟩
end Go.Proofs.YtmoaobfmopimlafGreatDoor
namespace Go.Proofs.YtmoaobfmopimlafGreatDoor
open Go.RowKit
theorem write_err {n : Nd} {r : Rc} (h : (n.write r).2 ≠ 0) : (n.write r).1 = n := by
  revert h
  unfold Nd.write
  split
  · exact fun _ => rfl
  · split
    · exact fun _ => rfl
    · split
      · exact fun _ => rfl
      · exact fun h => absurd rfl h
theorem writeAny_err {n : Nd} {r : Rc} (h : (n.writeAny r).2 ≠ 0) : (n.writeAny r).1 = n := by
  revert h
  unfold Nd.writeAny
  split
  · exact fun _ => rfl
  · exact write_err
theorem boot_err {n : Nd} (h : n.boot.2 ≠ 0) : n.boot.1 = n := by
  revert h
  unfold Nd.boot
  split
  · exact fun _ => rfl
  · split
    · exact fun _ => rfl
    · exact fun h => absurd rfl h
theorem tear_err {n : Nd} {r : Rc} {k : Int} (h : (n.tear r k).2 ≠ 0) : (n.tear r k).1 = n := by
  revert h
  unfold Nd.tear
  split
  · exact fun _ => rfl
  · split
    · exact fun _ => rfl
    · exact fun h => absurd rfl h
theorem has_set {X w : World} {B g1 g2 : Nat} {W : Wd} {ys : List Nb} {cs : List Cb} {j : Nat} {R : Nd × Int} (hI : WIn X w B g1 g2 ys W.tip cs W.t) (hn : nodesOf ys = W.ns.set j R.1) (hc : clientsOf cs = W.cs) (herr : R.2 ≠ 0 → W.ns.set j R.1 = W.ns) : WHas X w B g1 g2 (W.onN (j : Int) R).1 := by
  unfold Wd.onN
  by_cases h : R.2 = 0
  · rw [if_neg (not_not_intro h)]
    refine ⟨ys, cs, hI, ?_, hc⟩
    rw [hn]
    show W.ns.set j R.1 = W.ns.set (j : Int).toNat R.1
    rw [Int.toNat_natCast]
  · rw [if_pos h]
    exact ⟨ys, cs, hI, by rw [hn, herr h], hc⟩
theorem set_same {W : Wd} {xs : List Nb} (hn : nodesOf xs = W.ns) {j : Nat} {x : Nb} (hx : xs[j]? = some x) : W.ns.set j x.n = W.ns := by rw [← hn]; exact set_self _ _ _ (nodes_at hx)
theorem has_on4 {X w w' : World} {B g1 g2 : Nat} {W : Wd} {xs : List Nb} {cs : List Cb} (hI : WIn X w B g1 g2 xs W.tip cs W.t) (hn : nodesOf xs = W.ns) (hc : clientsOf cs = W.cs) {j : Nat} {x : Nb} (hx : xs[j]? = some x) {R : Nd × Int} (hp : Post st4 w w' g1 (j * 5) x R.1) (h60 : R.1.u.cells.length = 60) (hup : R.1.up = x.n.up) (herr : R.2 ≠ 0 → R.1 = x.n) :
    WHas X w' B g1 g2 (W.onN (j : Int) R).1 := by
  obtain ⟨ys, h1, h2⟩ := lift4 hI hx hp h60 hup
  exact has_set h1 (by rw [h2, hn]) hc (fun h => by rw [herr h]; exact set_same hn hx)
theorem has_on5 {X w w' : World} {B g1 g2 : Nat} {W : Wd} {xs : List Nb} {cs : List Cb} (hI : WIn X w B g1 g2 xs W.tip cs W.t) (hn : nodesOf xs = W.ns) (hc : clientsOf cs = W.cs) {j : Nat} {x : Nb} (hx : xs[j]? = some x) {R : Nd × Int} (hp : Post st5 w w' g1 (j * 5) x R.1) (h60 : R.1.u.cells.length = 60) (herr : R.2 ≠ 0 → R.1 = x.n) :
    WHas X w' B g1 g2 (W.onN (j : Int) R).1 := by
  obtain ⟨ys, h1, h2⟩ := lift5 hI hx hp h60
  exact has_set h1 (by rw [h2, hn]) hc (fun h => by rw [herr h]; exact set_same hn hx)
theorem has_on3 {X w w' : World} {B g1 g2 : Nat} {W : Wd} {xs : List Nb} {cs : List Cb} (hI : WIn X w B g1 g2 xs W.tip cs W.t) (hn : nodesOf xs = W.ns) (hc : clientsOf cs = W.cs) {j : Nat} {x : Nb} (hx : xs[j]? = some x) {R : Nd × Int} (hp : Post3 w w' g1 (j * 5) x R.1) (h60 : R.1.u.cells.length = 60) (hu : R.1.u = x.n.u) (herr : R.2 ≠ 0 → R.1 = x.n) :
    WHas X w' B g1 g2 (W.onN (j : Int) R).1 := by
  obtain ⟨ys, h1, h2⟩ := lift3 hI hx hp h60 hu
  exact has_set h1 (by rw [h2, hn]) hc (fun h => by rw [herr h]; exact set_same hn hx)
theorem right_sixty {n : Nd} (h : n.ck = 0) : n.u.cells.length = 60 := by
  obtain ⟨_, _, R⟩ := rn_of h
  exact (Un.ck_zero.1 R.uck).2.1
theorem right_fits {n : Nd} (h : n.ck = 0) : n.s.length ≤ topLen ∧ n.w.length ≤ topLen := by
  obtain ⟨_, _, R⟩ := rn_of h
  have := R.fits
  unfold topLen
  constructor <;> omega
theorem boot_sixty {n : Nd} (h : n.ck = 0) : n.boot.1.u.cells.length = 60 := by
  by_cases h0 : n.boot.2 = 0
  · cases hu : n.up with
    | true => rw [Nd.boot, hu, if_pos rfl] at h0; cases h0
    | false => exact right_sixty (boot_ok h hu).2.1
  · rw [boot_err h0]; exact right_sixty h
theorem write_sixty {n : Nd} {r : Rc} (h : n.ck = 0) (hu : n.up = true) : (n.write r).1.u.cells.length = 60 ∧ (n.write r).1.up = n.up := by
  by_cases h0 : (n.write r).2 = 0
  · obtain ⟨_, _, e, h4, _⟩ := write_ok h hu h0
    exact ⟨right_sixty h4, by rw [e, hu]⟩
  · rw [write_err h0]; exact ⟨right_sixty h, rfl⟩
theorem any_sixty {n : Nd} {r : Rc} (h : n.ck = 0) (hu : n.up = true) : (n.writeAny r).1.u.cells.length = 60 ∧ (n.writeAny r).1.up = n.up := by
  unfold Nd.writeAny
  split
  · exact ⟨right_sixty h, rfl⟩
  · exact write_sixty h hu
theorem tear_sixty {n : Nd} {r : Rc} {k : Int} (h : n.ck = 0) : (n.tear r k).1.u.cells.length = 60 ∧ (n.tear r k).1.u = n.u := by
  have e : (n.tear r k).1.u = n.u := by
    unfold Nd.tear
    split
    · rfl
    · split
      · rfl
      · rfl
  exact ⟨by rw [e]; exact right_sixty h, e⟩
/-- What comes of an entry at a chain, ahead of a call. -/
theorem klink {xs : List Nb} (hf : Fits (ubsOf xs)) (hc : ckChain ((nodesOf xs).map Nd.u) = 0) (k a ep : Int) (x : En) {r : Rc} {s : En} {d : Int} (hq : linkIn ((nodesOf xs).map Nd.u) k a x ep = (r, s, d)) (W : World) (u : Value) (h : ChAt W u (ubsOf xs)) :
    Calls Tryz.prog 105 #[u, .int .i64 k, .int .i64 a, x.val, .int .i64 ep] W fun e w' => e = .returned (.tuple #[r.val, s.val, .int .i64 d]) ∧ Below W.heap.size W w' := by
  have := chains_any.link u (ubsOf xs) k a ep x W h hf
  rw [ubs_units, linkOf_in hc, hq] at this
  exact this
theorem link_kind {us : List Un} {k a : Int} {x : En} {ep : Int} {r : Rc} {s : En} {d : Int} (h : linkIn us k a x ep = (r, s, d)) : r = Rc.zero ∨ r.k = 1 := by
  have e : (linkIn us k a x ep).1 = r := by rw [h]
  rw [← e]
  unfold linkIn
  split
  · exact Or.inl rfl
  · split
    · exact Or.inl rfl
    · split
      · exact Or.inl rfl
      · split
        · exact Or.inl rfl
        · split
          · exact Or.inl rfl
          · exact Or.inr rfl
theorem fits_right {W : Wd} (hW : RW W) {xs : List Nb} (hn : nodesOf xs = W.ns) : Fits (ubsOf xs) := by
  refine ⟨?_, fun y hy => ?_⟩
  · have h3 := hW.ns3
    rw [← hn, List.length_map] at h3
    rw [List.length_map, h3]; decide
  · obtain ⟨z, hz, rfl⟩ := List.mem_map.1 hy
    have hzn : z.n ∈ W.ns := by rw [← hn]; exact List.mem_map.2 ⟨z, hz, rfl⟩
    obtain ⟨k, hk⟩ := List.getElem?_of_mem hzn
    have := right_sixty (hW.node k _ hk)
    show z.n.u.cells.length ≤ topN
    rw [this]; decide
theorem onN_snd (W : Wd) (k : Int) (R : Nd × Int) : (W.onN k R).2 = R.2 := by
  unfold Wd.onN
  split
  · rfl
  · rename_i h
    have : R.2 = 0 := Classical.byContradiction h
    rw [this]
/-- Package world's hear. -/
theorem w_hear {X w : World} {B g1 g2 : Nat} {W : Wd} {xs : List Nb} {cs : List Cb} (hL : Laid w) (hI : WIn X w B g1 g2 xs W.tip cs W.t) (hn : nodesOf xs = W.ns) (hc : clientsOf cs = W.cs) (k j : Nat) (c : Cl) (a1 a2 : Option Addr) (m1 k1 m2 k2 : Nat) (hy : cs[k]? = some ⟨c, .slice a1 m1 k1, .slice a2 m2 k2⟩) {x : Nb} (hx : xs[j]? = some x) (hcl : c.l = (j : Int))
    (hn1 : x.n.s.length ≤ topLen) (hn2 : x.n.w.length ≤ topLen) (r : Rc) (hr : r = Rc.zero ∨ r.k = 1) (s : En) (hok : (x.n.writeAny r).1.u.cells.length = 60 ∧ (x.n.writeAny r).1.up = x.n.up) :
    AnsW 109 #[.pointer (some ⟨g2, k * 12, none⟩), .pointer (some ⟨g1, j * 5, none⟩), r.val, s.val] X w B g1 g2 (hearAt W (k : Int) c x.n r s) := by
  have ht := (hI.st.nodes _ (List.mem_of_getElem? hx)).1
  obtain ⟨⟨u, sf, wt, up⟩, vc, vs, vw⟩ := x
  obtain ⟨a3, m3, k3, rfl⟩ := roomy_sl ht.unit.room
  obtain ⟨a4, m4, k4, rfl⟩ := roomy_sl ht.disk.room1
  obtain ⟨a5, m5, k5, rfl⟩ := roomy_sl ht.disk.room2
  exact w_hear_at hL hI hn hc k j c u sf wt up a1 a2 a3 a4 a5 m1 k1 m2 k2 m3 k3 m4 k4 m5 k5 hy hx hcl hn1 hn2 r hr s (fun _ => hok)
end Go.Proofs.YtmoaobfmopimlafGreatDoor
