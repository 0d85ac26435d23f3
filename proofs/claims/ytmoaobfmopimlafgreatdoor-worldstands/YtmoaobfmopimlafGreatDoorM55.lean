/- For the law. -/
import Derived.Test.YtmoaobfmopimlafGreatDoorM54
set_option linter.unusedSimpArgs false
set_option linter.unusedVariables false
namespace Go.Proofs.YtmoaobfmopimlafGreatDoor
open Go.RowKit
set_option maxHeartbeats 4000000 in
set_option maxRecDepth 100000 in
theorem w_play_full (c : Cl) (a1 a2 : Option Addr) (m1 k1 m2 k2 : Nat) (g1 : Nat) (w : World) (h60 : (c.n == 60) = true) :
  AnsT 141 #[c.val (.slice a1 m1 k1) (.slice a2 m2 k2), .slice (some ⟨g1, 0, none⟩) 3 3] w (Cl.zero, 2) := by
 have B0 : Aside (Below w.heap.size w ((w.alloc (boxC c (.slice a1 m1 k1) (.slice a2 m2 k2))).alloc (boxZ))) := grew (grew (Below.refl _ _) _) _
 have h0_0 : Aside (((w.alloc (boxC c (.slice a1 m1 k1) (.slice a2 m2 k2))).alloc (boxZ)).heap[w.heap.size]? = some (boxC c (.slice a1 m1 k1) (.slice a2 m2 k2))) := by
  have := heap_new w (boxC c (.slice a1 m1 k1) (.slice a2 m2 k2))
  exact heap_old (this) _
 have h1_0 : Aside (((w.alloc (boxC c (.slice a1 m1 k1) (.slice a2 m2 k2))).alloc (boxZ)).heap[w.heap.size + 1]? = some (boxZ)) := by
  have := heap_new (w.alloc (boxC c (.slice a1 m1 k1) (.slice a2 m2 k2))) (boxZ)
  rw [World.size_alloc] at this
  exact this
 go_enter Tryz.func141, Tryz.ntmps141
 go_upto_region 1 with fail
 generalize ((w.alloc (boxC c (.slice a1 m1 k1) (.slice a2 m2 k2))).alloc (boxZ)) = w0 at *
 have z0 := cb h0_0
 skip
 have z1 := cb h1_0
 have fz1 := cf h1_0
 go_wp2
 refine ret_st (p := 4) (q := 5) w0 (w.heap.size + 1) Cl.zero nil0 nil0 (o := Cl.zero) (u1 := nil0) (u2 := nil0) Tryz.results141 rfl rfl rfl h1_0.out rfl ?_
 exact ⟨nil0, nil0, rfl, bkT_nil _ rfl rfl, st12_below B0.out (by omega) _ _ _⟩
set_option maxHeartbeats 4000000 in
set_option maxRecDepth 100000 in
theorem w_play_late (c : Cl) (a1 a2 : Option Addr) (m1 k1 m2 k2 : Nat) (g1 : Nat) (w : World) (h60 : (c.n == 60) = false) (hup14 : w.cell? ⟨g1, 14, none⟩ = some (.bool false)) (_ : g1 < w.heap.size) :
  AnsT 141 #[c.val (.slice a1 m1 k1) (.slice a2 m2 k2), .slice (some ⟨g1, 0, none⟩) 3 3] w (Cl.zero, 7) := by
 have hu14 : Aside ((((w.alloc (boxC c (.slice a1 m1 k1) (.slice a2 m2 k2))).alloc (boxZ))).cell? ⟨g1, 14, none⟩ = some (.bool false)) := cell_later (grew (grew (Below.refl _ _) _) _) hup14
 have B0 : Aside (Below w.heap.size w ((w.alloc (boxC c (.slice a1 m1 k1) (.slice a2 m2 k2))).alloc (boxZ))) := grew (grew (Below.refl _ _) _) _
 have h0_0 : Aside (((w.alloc (boxC c (.slice a1 m1 k1) (.slice a2 m2 k2))).alloc (boxZ)).heap[w.heap.size]? = some (boxC c (.slice a1 m1 k1) (.slice a2 m2 k2))) := by
  have := heap_new w (boxC c (.slice a1 m1 k1) (.slice a2 m2 k2))
  exact heap_old (this) _
 have h1_0 : Aside (((w.alloc (boxC c (.slice a1 m1 k1) (.slice a2 m2 k2))).alloc (boxZ)).heap[w.heap.size + 1]? = some (boxZ)) := by
  have := heap_new (w.alloc (boxC c (.slice a1 m1 k1) (.slice a2 m2 k2))) (boxZ)
  rw [World.size_alloc] at this
  exact this
 go_enter Tryz.func141, Tryz.ntmps141
 go_upto_region 1 with fail
 generalize ((w.alloc (boxC c (.slice a1 m1 k1) (.slice a2 m2 k2))).alloc (boxZ)) = w0 at *
 have z0 := cb h0_0
 have hu := hu14.out
 skip
 have z1 := cb h1_0
 have fz1 := cf h1_0
 go_wp2
 refine ret_st (p := 4) (q := 5) w0 (w.heap.size + 1) Cl.zero nil0 nil0 (o := Cl.zero) (u1 := nil0) (u2 := nil0) Tryz.results141 rfl rfl rfl h1_0.out rfl ?_
 exact ⟨nil0, nil0, rfl, bkT_nil _ rfl rfl, st12_below B0.out (by omega) _ _ _⟩
theorem cell14 {w : World} {g1 : Nat} {xs : List Nb} {x2 : Nb} (hv : SlOf Nb.cells 5 w (.slice (some ⟨g1, 0, none⟩) 3 3) xs) (hx2 : xs[2]? = some x2) : w.cell? ⟨g1, 14, none⟩ = some (.bool x2.n.up) ∧ g1 < w.heap.size := by
 obtain ⟨b, off, he, hE⟩ := hv.at (by omega)
 injection he with he
 injection he with e1 e2 e3
 subst e1 e2
 have h := hE 2 x2 hx2 4 _ rfl
 refine ⟨by simpa using h, ?_⟩
 rcases Nat.lt_or_ge g1 w.heap.size with hh | hh
 ·exact hh
 ·rw [World.cell?, Array.getElem?_eq_none (by simpa using hh)] at h
  cases h
theorem w_play (c : Cl) (v1 v2 : Value) (xs : List Nb) (g1 : Nat) (w : World) (W : Wd) (hW : RW W) (hn : nodesOf xs = W.ns) (hb : BkAt w v1 v2 c) (hv : SlOf Nb.cells 5 w (.slice (some ⟨g1, 0, none⟩) 3 3) xs) (hu : ∀ x, x ∈ xs → NodeT w x) :
  AnsT 141 #[c.val v1 v2, .slice (some ⟨g1, 0, none⟩) 3 3] w (playAt W c) := by
 obtain ⟨a1, k1, a2, k2, rfl, rfl⟩ := bk_slices hb.1 hb.2
 have hl3 : xs.length = 3 := hv.len
 obtain ⟨x2, hx2⟩ : ∃ x2, xs[2]? = some x2 := ⟨xs[2]'(by omega), List.getElem?_eq_getElem _⟩
 have hnd : W.nd 2 = x2.n := by
  rw [Wd.nd, ← hn, List.getD_eq_getElem?_getD, show (2 : Int).toNat = 2 from rfl, nodes_at hx2]; rfl
 obtain ⟨h14, hgl⟩ := cell14 hv hx2
 have hus : W.us = (nodesOf xs).map Nd.u := by rw [Wd.us, hn]
 unfold playAt
 rw [hnd, hus]
 by_cases h60 : c.n = 60
 ·rw [if_pos h60]
  exact w_play_full c a1 a2 _ k1 _ k2 g1 w (by rw [h60]; rfl)
 ·rw [if_neg h60]
  have h60b : (c.n == 60) = false := by rw [beq_eq_false_iff_ne]; exact h60
  cases hup : x2.n.up with
  | false =>
   rw [if_pos rfl]
   rw [hup] at h14
   exact w_play_late c a1 a2 _ k1 _ k2 g1 w h60b h14 hgl
  | true =>
   rw [if_neg (by simp)]
   have hc : ckChain ((nodesOf xs).map Nd.u) = 0 := by rw [← hus]; exact hW.chain
   refine w_play_at c a1 a2 _ k1 _ k2 xs g1 w hb hv hu ⟨?_, fun y hy => ?_⟩ hc h60b hx2 hup
   ·rw [List.length_map, hl3]; decide
   ·obtain ⟨z, hz, rfl⟩ := List.mem_map.1 hy
    have hzn : z.n ∈ W.ns := by rw [← hn]; exact List.mem_map.2 ⟨z, hz, rfl⟩
    obtain ⟨k, hk⟩ := List.getElem?_of_mem hzn
    obtain ⟨_, _, R⟩ := rn_of (hW.node k _ hk)
    have := (Un.ck_zero.1 R.uck).2.1
    show z.n.u.cells.length ≤ topN
    rw [this]; decide
set_option maxHeartbeats 8000000 in
set_option maxRecDepth 100000 in
theorem w_does1 (c : Cl) (a1 a2 : Option Addr) (m1 k1 m2 k2 : Nat) (x : Hp) (w : World) (B : Nat)  (R : Cl) (f : Int) (hk1 : (x.k == 1) = true)
  (kc : ∀ W, Below w.heap.size w W → AnsT 137 #[c.val (.slice a1 m1 k1) (.slice a2 m2 k2), x.e.val] W (R, f)) :
  AnsT 110 #[.pointer (some ⟨B, 0, none⟩), c.val (.slice a1 m1 k1) (.slice a2 m2 k2), x.val] w (R, f) := by
 have KC : Aside _ := kc
 clear kc
 have B0 : Aside (Below w.heap.size w (((w.alloc (boxC c (.slice a1 m1 k1) (.slice a2 m2 k2))).alloc (boxH x)).alloc (boxZ))) := grew (grew (grew (Below.refl _ _) _) _) _
 have h0_0 : Aside ((((w.alloc (boxC c (.slice a1 m1 k1) (.slice a2 m2 k2))).alloc (boxH x)).alloc (boxZ)).heap[w.heap.size]? = some (boxC c (.slice a1 m1 k1) (.slice a2 m2 k2))) := by
  have := heap_new w (boxC c (.slice a1 m1 k1) (.slice a2 m2 k2))
  exact heap_old (heap_old (this) _) _
 have h1_0 : Aside ((((w.alloc (boxC c (.slice a1 m1 k1) (.slice a2 m2 k2))).alloc (boxH x)).alloc (boxZ)).heap[w.heap.size + 1]? = some (boxH x)) := by
  have := heap_new (w.alloc (boxC c (.slice a1 m1 k1) (.slice a2 m2 k2))) (boxH x)
  rw [World.size_alloc] at this
  exact heap_old (this) _
 have h2_0 : Aside ((((w.alloc (boxC c (.slice a1 m1 k1) (.slice a2 m2 k2))).alloc (boxH x)).alloc (boxZ)).heap[w.heap.size + 1 + 1]? = some (boxZ)) := by
  have := heap_new ((w.alloc (boxC c (.slice a1 m1 k1) (.slice a2 m2 k2))).alloc (boxH x)) (boxZ)
  rw [World.size_alloc, World.size_alloc] at this
  exact this
 go_enter Tryz.func110, Tryz.ntmps110
 go_upto_region 1 with fail
 generalize (((w.alloc (boxC c (.slice a1 m1 k1) (.slice a2 m2 k2))).alloc (boxH x)).alloc (boxZ)) = w0 at *
 have z0 := cb h0_0
 have z1 := cb h1_0
 go_wp2_with fail
 refine (KC.out w0 B0.out).mono ?_
 rintro e w1 ⟨u1, u2, rfl, hT, hb1⟩
 have hR := hv h2_0 hb1
 have hB := sb B0 hb1
 have HT : Aside (BkT w1 u1 u2 R) := hT
 obtain ⟨s1, o1, s2, o2, rfl, rfl⟩ := bk_slices hT.1.1 hT.1.2
 clear hb1 B0 hT h0_0 h1_0 h2_0 z0 z1 KC
 obtain ⟨n1, hn1⟩ : ∃ n, Hid ((R).js.length = n) := ⟨_, rfl⟩
 obtain ⟨n2, hn2⟩ : ∃ n, Hid ((R).rs.length = n) := ⟨_, rfl⟩
 rw [hn1.out, hn2.out] at HT ⊢
 have zr := cb hR
 have fzr := cf hR
 go_wp2
 refine ret_st (p := 6) (q := 7) w1 (w.heap.size + 1 + 1) (R) (.slice s1 n1 o1) (.slice s2 n2 o2) (o := Cl.zero) (u1 := nil0) (u2 := nil0) Tryz.results110 rfl rfl rfl hR.out rfl ?_
 exact ⟨(.slice s1 n1 o1), (.slice s2 n2 o2), rfl, bkT_st12 ⟨_, hR.out⟩ HT.out _ _ _, st12_below hB.out (by omega) _ _ _⟩
set_option maxHeartbeats 8000000 in
set_option maxRecDepth 100000 in
theorem w_does2 (c : Cl) (a1 a2 : Option Addr) (m1 k1 m2 k2 : Nat) (x : Hp) (w : World) (B : Nat) (vn vc : Value) (tip t : Int) (hbw : w.heap[B]? = some (boxW vn tip vc t)) (R : Cl) (f : Int) (hk1 : (x.k == 1) = false) (hk2 : (x.k == 2) = true)
  (kc : ∀ W, Below w.heap.size w W → AnsT 138 #[c.val (.slice a1 m1 k1) (.slice a2 m2 k2), .int .i64 x.c, .int .i64 x.j, .int .i64 t] W (R, f)) :
  AnsT 110 #[.pointer (some ⟨B, 0, none⟩), c.val (.slice a1 m1 k1) (.slice a2 m2 k2), x.val] w (R, f) := by
 have KC : Aside _ := kc
 have HW : Aside (w.heap[B]? = some (boxW vn tip vc t)) := hbw
 clear kc hbw
 have B0 : Aside (Below w.heap.size w (((w.alloc (boxC c (.slice a1 m1 k1) (.slice a2 m2 k2))).alloc (boxH x)).alloc (boxZ))) := grew (grew (grew (Below.refl _ _) _) _) _
 have h0_0 : Aside ((((w.alloc (boxC c (.slice a1 m1 k1) (.slice a2 m2 k2))).alloc (boxH x)).alloc (boxZ)).heap[w.heap.size]? = some (boxC c (.slice a1 m1 k1) (.slice a2 m2 k2))) := by
  have := heap_new w (boxC c (.slice a1 m1 k1) (.slice a2 m2 k2))
  exact heap_old (heap_old (this) _) _
 have h1_0 : Aside ((((w.alloc (boxC c (.slice a1 m1 k1) (.slice a2 m2 k2))).alloc (boxH x)).alloc (boxZ)).heap[w.heap.size + 1]? = some (boxH x)) := by
  have := heap_new (w.alloc (boxC c (.slice a1 m1 k1) (.slice a2 m2 k2))) (boxH x)
  rw [World.size_alloc] at this
  exact heap_old (this) _
 have h2_0 : Aside ((((w.alloc (boxC c (.slice a1 m1 k1) (.slice a2 m2 k2))).alloc (boxH x)).alloc (boxZ)).heap[w.heap.size + 1 + 1]? = some (boxZ)) := by
  have := heap_new ((w.alloc (boxC c (.slice a1 m1 k1) (.slice a2 m2 k2))).alloc (boxH x)) (boxZ)
  rw [World.size_alloc, World.size_alloc] at this
  exact this
 go_enter Tryz.func110, Tryz.ntmps110
 go_upto_region 1 with fail
 generalize (((w.alloc (boxC c (.slice a1 m1 k1) (.slice a2 m2 k2))).alloc (boxH x)).alloc (boxZ)) = w0 at *
 have HW0 : Aside _ := heap_below HW.out B0.out (heap_lt HW.out)
 clear HW
 have z0 := cb h0_0
 have z1 := cb h1_0
 go_upto_region 5 with fail
 clear z0 z1
 have h0_1 : Aside (w0.drew.heap[w.heap.size]? = some (boxC c (.slice a1 m1 k1) (.slice a2 m2 k2))) := h0_0.out
 have h1_1 : Aside (w0.drew.heap[w.heap.size + 1]? = some (boxH x)) := h1_0.out
 have h2_1 : Aside (w0.drew.heap[w.heap.size + 1 + 1]? = some (boxZ)) := h2_0.out
 have HW1 : Aside (w0.drew.heap[B]? = some (boxW vn tip vc t)) := HW0.out
 have B1 : Aside (Below w.heap.size w w0.drew) := B0.out.drew
 clear h0_0 h1_0 h2_0 HW0 B0
 refine wp_region_noPanic ?_
 refine region_L (fun w' => Below w0.drew.heap.size w0.drew w') 12 (by kernel_rfl) (Below.refl _ _) (fun hHeld => ?_)
 generalize w0.drew = w1 at *
 refine tl 0 (v := ?_) rfl (by kernel_rfl) (by rfl) (by assumption) (fun _ _ _ h => h) ?_ ?_
 rotate_left
 ·(intro w0 hSw; have z := (show ∀ i, w0.cell? ⟨w.heap.size, i, none⟩ = #[Value.int .i64 c.p, .int .i64 c.d, .int .i64 c.e.k, .int .i64 c.e.j, .int .i64 c.e.v, .int .i64 c.e.t, .int .i64 c.e.c, .int .i64 c.a, .int .i64 c.l, .int .i64 c.n, .slice a1 m1 k1, .slice a2 m2 k2][i]? from fun i => Joins.cell_of_block (heap_below h0_1.out hSw (heap_lt h0_1.out)) i); clear hSw; go_simp; first | done | with_reducible rfl)
 try simp only [Act.put, qa, qb, qc]
 refine tl 1 (v := ?_) rfl (by kernel_rfl) (by rfl) (by assumption) (fun _ _ _ h => h) ?_ ?_
 rotate_left
 ·(intro w0 hSw; clear hSw; go_simp; first | done | with_reducible rfl)
 try simp only [Act.put, qa, qb, qc]
 refine tl 2 (v := ?_) rfl (by kernel_rfl) (by rfl) (by assumption) (fun _ _ _ h => h) ?_ ?_
 rotate_left
 ·(intro w0 hSw; have z := (show ∀ i, w0.cell? ⟨w.heap.size + 1, i, none⟩ = #[Value.int .i64 x.k, .int .i64 x.c, .int .i64 x.n, .int .i64 x.j, .int .i64 x.p, .int .i64 x.e.k, .int .i64 x.e.j, .int .i64 x.e.v, .int .i64 x.e.t, .int .i64 x.e.c][i]? from fun i => Joins.cell_of_block (heap_below h1_1.out hSw (heap_lt h1_1.out)) i); clear hSw; go_simp; first | done | with_reducible rfl)
 try simp only [Act.put, qa, qb, qc]
 refine tl 3 (v := ?_) rfl (by kernel_rfl) (by rfl) (by assumption) (fun _ _ _ h => h) ?_ ?_
 rotate_left
 ·(intro w0 hSw; clear hSw; go_simp; first | done | with_reducible rfl)
 try simp only [Act.put, qa, qb, qc]
 refine tl 4 (v := ?_) rfl (by kernel_rfl) (by rfl) (by assumption) (fun _ _ _ h => h) ?_ ?_
 rotate_left
 ·(intro w0 hSw; have z := (show ∀ i, w0.cell? ⟨w.heap.size + 1, i, none⟩ = #[Value.int .i64 x.k, .int .i64 x.c, .int .i64 x.n, .int .i64 x.j, .int .i64 x.p, .int .i64 x.e.k, .int .i64 x.e.j, .int .i64 x.e.v, .int .i64 x.e.t, .int .i64 x.e.c][i]? from fun i => Joins.cell_of_block (heap_below h1_1.out hSw (heap_lt h1_1.out)) i); clear hSw; go_simp; first | done | with_reducible rfl)
 try simp only [Act.put, qa, qb, qc]
 refine tl 5 (v := ?_) rfl (by kernel_rfl) (by rfl) (by assumption) (fun _ _ _ h => h) ?_ ?_
 rotate_left
 ·(intro w0 hSw; clear hSw; go_simp; first | done | with_reducible rfl)
 try simp only [Act.put, qa, qb, qc]
 refine tl 6 (v := ?_) rfl (by kernel_rfl) (by rfl) (by assumption) (fun _ _ _ h => h) ?_ ?_
 rotate_left
 ·(intro w0 hSw; clear hSw; go_simp; first | done | with_reducible rfl)
 try simp only [Act.put, qa, qb, qc]
 refine tl 7 (v := ?_) rfl (by kernel_rfl) (by rfl) (by assumption) (fun _ _ _ h => h) ?_ ?_
 rotate_left
 ·(intro w0 hSw; clear hSw; go_simp; first | done | with_reducible rfl)
 try simp only [Act.put, qa, qb, qc]
 refine tl 8 (v := ?_) rfl (by kernel_rfl) (by rfl) (by assumption) (fun _ _ _ h => h) ?_ ?_
 rotate_left
 ·(intro w0 hSw; have z := (show ∀ i, w0.cell? ⟨B, i, none⟩ = #[vn, .int .i64 tip, vc, .int .i64 t][i]? from fun i => Joins.cell_of_block (heap_below HW1.out hSw (heap_lt HW1.out)) i); clear hSw; go_simp; first | done | with_reducible rfl)
 try simp only [Act.put, qa, qb, qc]
 refine anyL_one (i := 9) (by kernel_rfl) rfl (fun K hK => ?_)
 go_simp
 refine (KC.out _ B1.out).mono ?_
 rintro e w2 ⟨u1, u2, rfl, hT, hb2⟩
 have hR := hv h2_1 hb2
 have hB := sb B1 hb2
 have HT : Aside (BkT w2 u1 u2 R) := hT
 obtain ⟨s1, o1, s2, o2, rfl, rfl⟩ := bk_slices hT.1.1 hT.1.2
 refine hK.out _ _ (fun _ => hb2) (fun hNext => ?_)
 replace hNext := hNext (by kernel_rfl)
 clear hK K hb2 B1 hT h2_1 KC
 try simp only [Act.put, qa, qb, qc]
 obtain ⟨n1, hn1⟩ : ∃ n, Hid (R.js.length = n) := ⟨_, rfl⟩
 obtain ⟨n2, hn2⟩ : ∃ n, Hid (R.rs.length = n) := ⟨_, rfl⟩
 rw [hn1.out, hn2.out] at HT ⊢
 refine anyL_free (i := 10) (v := ?_) rfl (by kernel_rfl) (by kernel_rfl) (by kernel_rfl) (by kernel_rfl) (fun _ _ _ h => h) (Or.inl ⟨by rfl, ?_⟩) (by assumption) ?_
 rotate_left
 ·(intro w0 _; go_simp; first | done | with_reducible rfl)
 try simp only [Act.put, qa, qb, qc]
 refine anyL_free (i := 11) (v := ?_) rfl (by kernel_rfl) (by kernel_rfl) (by kernel_rfl) (by kernel_rfl) (fun _ _ _ h => h) (Or.inl ⟨by rfl, ?_⟩) (by assumption) ?_
 rotate_left
 ·(intro w0 _; go_simp; first | done | with_reducible rfl)
 try simp only [Act.put, qa, qb, qc]
 have zr := cb hR
 have fzr := cf hR
 clear hHeld
 refine anyL_one (i := 12) (by kernel_rfl) rfl (fun K hK => ?_)
 go_simp
 refine hK.out _ _ (fun h => absurd h (by decide +kernel)) (fun _ => ?_)
 clear hK K
 try simp only [Act.put, qa, qb, qc]
 refine anyL_one (i := 13) (by kernel_rfl) rfl (fun K hK => ?_)
 go_simp
 refine hK.out _ _ (fun h => absurd h (by decide +kernel)) (fun _ => ?_)
 clear hK K
 try simp only [Act.put, qa, qb, qc]
 refine anyL_done (by kernel_rfl) ?_ _
 refine NoPanic.normal ?_
 try simp only [Act.put, qa, qb, qc]
 go_wp2
 refine ret_st (p := 6) (q := 7) w2 (w.heap.size + 1 + 1) R (.slice s1 n1 o1) (.slice s2 n2 o2) (o := Cl.zero) (u1 := nil0) (u2 := nil0) Tryz.results110 rfl rfl rfl hR.out rfl ?_
 exact ⟨(.slice s1 n1 o1), (.slice s2 n2 o2), rfl, bkT_st12 ⟨_, hR.out⟩ HT.out _ _ _, st12_below hB.out (by omega) _ _ _⟩
set_option maxHeartbeats 8000000 in
set_option maxRecDepth 100000 in
theorem w_does3 (c : Cl) (a1 a2 : Option Addr) (m1 k1 m2 k2 : Nat) (x : Hp) (w : World) (B : Nat) (vn vc : Value) (tip t : Int) (hbw : w.heap[B]? = some (boxW vn tip vc t)) (R : Cl) (f : Int) (hk1 : (x.k == 1) = false) (hk2 : (x.k == 2) = false) (hk3 : (x.k == 3) = true)
  (kc : ∀ W, Below w.heap.size w W → AnsT 139 #[c.val (.slice a1 m1 k1) (.slice a2 m2 k2), .int .i64 tip] W (R, f)) :
  AnsT 110 #[.pointer (some ⟨B, 0, none⟩), c.val (.slice a1 m1 k1) (.slice a2 m2 k2), x.val] w (R, f) := by
 have KC : Aside _ := kc
 have HW : Aside (w.heap[B]? = some (boxW vn tip vc t)) := hbw
 clear kc hbw
 have B0 : Aside (Below w.heap.size w (((w.alloc (boxC c (.slice a1 m1 k1) (.slice a2 m2 k2))).alloc (boxH x)).alloc (boxZ))) := grew (grew (grew (Below.refl _ _) _) _) _
 have h0_0 : Aside ((((w.alloc (boxC c (.slice a1 m1 k1) (.slice a2 m2 k2))).alloc (boxH x)).alloc (boxZ)).heap[w.heap.size]? = some (boxC c (.slice a1 m1 k1) (.slice a2 m2 k2))) := by
  have := heap_new w (boxC c (.slice a1 m1 k1) (.slice a2 m2 k2))
  exact heap_old (heap_old (this) _) _
 have h1_0 : Aside ((((w.alloc (boxC c (.slice a1 m1 k1) (.slice a2 m2 k2))).alloc (boxH x)).alloc (boxZ)).heap[w.heap.size + 1]? = some (boxH x)) := by
  have := heap_new (w.alloc (boxC c (.slice a1 m1 k1) (.slice a2 m2 k2))) (boxH x)
  rw [World.size_alloc] at this
  exact heap_old (this) _
 have h2_0 : Aside ((((w.alloc (boxC c (.slice a1 m1 k1) (.slice a2 m2 k2))).alloc (boxH x)).alloc (boxZ)).heap[w.heap.size + 1 + 1]? = some (boxZ)) := by
  have := heap_new ((w.alloc (boxC c (.slice a1 m1 k1) (.slice a2 m2 k2))).alloc (boxH x)) (boxZ)
  rw [World.size_alloc, World.size_alloc] at this
  exact this
 go_enter Tryz.func110, Tryz.ntmps110
 go_upto_region 1 with fail
 generalize (((w.alloc (boxC c (.slice a1 m1 k1) (.slice a2 m2 k2))).alloc (boxH x)).alloc (boxZ)) = w0 at *
 have HW0 : Aside _ := heap_below HW.out B0.out (heap_lt HW.out)
 clear HW
 have z0 := cb h0_0
 have z1 := cb h1_0
 go_upto_region 7 with fail
 clear z0 z1
 have h0_1 : Aside (w0.drew.heap[w.heap.size]? = some (boxC c (.slice a1 m1 k1) (.slice a2 m2 k2))) := h0_0.out
 have h1_1 : Aside (w0.drew.heap[w.heap.size + 1]? = some (boxH x)) := h1_0.out
 have h2_1 : Aside (w0.drew.heap[w.heap.size + 1 + 1]? = some (boxZ)) := h2_0.out
 have HW1 : Aside (w0.drew.heap[B]? = some (boxW vn tip vc t)) := HW0.out
 have B1 : Aside (Below w.heap.size w w0.drew) := B0.out.drew
 clear h0_0 h1_0 h2_0 HW0 B0
 refine wp_region_noPanic ?_
 refine region_L (fun w' => Below w0.drew.heap.size w0.drew w') 8 (by kernel_rfl) (Below.refl _ _) (fun hHeld => ?_)
 generalize w0.drew = w1 at *
 refine tl 0 (v := ?_) rfl (by kernel_rfl) (by rfl) (by assumption) (fun _ _ _ h => h) ?_ ?_
 rotate_left
 ·(intro w0 hSw; have z := (show ∀ i, w0.cell? ⟨w.heap.size, i, none⟩ = #[Value.int .i64 c.p, .int .i64 c.d, .int .i64 c.e.k, .int .i64 c.e.j, .int .i64 c.e.v, .int .i64 c.e.t, .int .i64 c.e.c, .int .i64 c.a, .int .i64 c.l, .int .i64 c.n, .slice a1 m1 k1, .slice a2 m2 k2][i]? from fun i => Joins.cell_of_block (heap_below h0_1.out hSw (heap_lt h0_1.out)) i); clear hSw; go_simp; first | done | with_reducible rfl)
 try simp only [Act.put, qa, qb, qc]
 refine tl 1 (v := ?_) rfl (by kernel_rfl) (by rfl) (by assumption) (fun _ _ _ h => h) ?_ ?_
 rotate_left
 ·(intro w0 hSw; clear hSw; go_simp; first | done | with_reducible rfl)
 try simp only [Act.put, qa, qb, qc]
 refine tl 2 (v := ?_) rfl (by kernel_rfl) (by rfl) (by assumption) (fun _ _ _ h => h) ?_ ?_
 rotate_left
 ·(intro w0 hSw; clear hSw; go_simp; first | done | with_reducible rfl)
 try simp only [Act.put, qa, qb, qc]
 refine tl 3 (v := ?_) rfl (by kernel_rfl) (by rfl) (by assumption) (fun _ _ _ h => h) ?_ ?_
 rotate_left
 ·(intro w0 hSw; clear hSw; go_simp; first | done | with_reducible rfl)
 try simp only [Act.put, qa, qb, qc]
 refine tl 4 (v := ?_) rfl (by kernel_rfl) (by rfl) (by assumption) (fun _ _ _ h => h) ?_ ?_
 rotate_left
 ·(intro w0 hSw; have z := (show ∀ i, w0.cell? ⟨B, i, none⟩ = #[vn, .int .i64 tip, vc, .int .i64 t][i]? from fun i => Joins.cell_of_block (heap_below HW1.out hSw (heap_lt HW1.out)) i); clear hSw; go_simp; first | done | with_reducible rfl)
 try simp only [Act.put, qa, qb, qc]
 refine anyL_one (i := 5) (by kernel_rfl) rfl (fun K hK => ?_)
 go_simp
 refine (KC.out _ B1.out).mono ?_
 rintro e w2 ⟨u1, u2, rfl, hT, hb2⟩
 have hR := hv h2_1 hb2
 have hB := sb B1 hb2
 have HT : Aside (BkT w2 u1 u2 R) := hT
 obtain ⟨s1, o1, s2, o2, rfl, rfl⟩ := bk_slices hT.1.1 hT.1.2
 refine hK.out _ _ (fun _ => hb2) (fun hNext => ?_)
 replace hNext := hNext (by kernel_rfl)
 clear hK K hb2 B1 hT h2_1 KC
 try simp only [Act.put, qa, qb, qc]
 obtain ⟨n1, hn1⟩ : ∃ n, Hid (R.js.length = n) := ⟨_, rfl⟩
 obtain ⟨n2, hn2⟩ : ∃ n, Hid (R.rs.length = n) := ⟨_, rfl⟩
 rw [hn1.out, hn2.out] at HT ⊢
 refine anyL_free (i := 6) (v := ?_) rfl (by kernel_rfl) (by kernel_rfl) (by kernel_rfl) (by kernel_rfl) (fun _ _ _ h => h) (Or.inl ⟨by rfl, ?_⟩) (by assumption) ?_
 rotate_left
 ·(intro w0 _; go_simp; first | done | with_reducible rfl)
 try simp only [Act.put, qa, qb, qc]
 refine anyL_free (i := 7) (v := ?_) rfl (by kernel_rfl) (by kernel_rfl) (by kernel_rfl) (by kernel_rfl) (fun _ _ _ h => h) (Or.inl ⟨by rfl, ?_⟩) (by assumption) ?_
 rotate_left
 ·(intro w0 _; go_simp; first | done | with_reducible rfl)
 try simp only [Act.put, qa, qb, qc]
 have zr := cb hR
 have fzr := cf hR
 clear hHeld
 refine anyL_one (i := 8) (by kernel_rfl) rfl (fun K hK => ?_)
 go_simp
 refine hK.out _ _ (fun h => absurd h (by decide +kernel)) (fun _ => ?_)
 clear hK K
 try simp only [Act.put, qa, qb, qc]
 refine anyL_one (i := 9) (by kernel_rfl) rfl (fun K hK => ?_)
 go_simp
 refine hK.out _ _ (fun h => absurd h (by decide +kernel)) (fun _ => ?_)
 clear hK K
 try simp only [Act.put, qa, qb, qc]
 refine anyL_done (by kernel_rfl) ?_ _
 refine NoPanic.normal ?_
 try simp only [Act.put, qa, qb, qc]
 go_wp2
 refine ret_st (p := 6) (q := 7) w2 (w.heap.size + 1 + 1) R (.slice s1 n1 o1) (.slice s2 n2 o2) (o := Cl.zero) (u1 := nil0) (u2 := nil0) Tryz.results110 rfl rfl rfl hR.out rfl ?_
 exact ⟨(.slice s1 n1 o1), (.slice s2 n2 o2), rfl, bkT_st12 ⟨_, hR.out⟩ HT.out _ _ _, st12_below hB.out (by omega) _ _ _⟩
set_option maxHeartbeats 8000000 in
set_option maxRecDepth 100000 in
theorem w_does6 (c : Cl) (a1 a2 : Option Addr) (m1 k1 m2 k2 : Nat) (x : Hp) (w : World) (B : Nat)  (R : Cl) (f : Int) (hk1 : (x.k == 1) = false) (hk2 : (x.k == 2) = false) (hk3 : (x.k == 3) = false) (hk6 : (x.k == 6) = true)
  (kc : ∀ W, Below w.heap.size w W → AnsT 140 #[c.val (.slice a1 m1 k1) (.slice a2 m2 k2), .int .i64 x.n] W (R, f)) :
  AnsT 110 #[.pointer (some ⟨B, 0, none⟩), c.val (.slice a1 m1 k1) (.slice a2 m2 k2), x.val] w (R, f) := by
 have KC : Aside _ := kc
 clear kc
 have B0 : Aside (Below w.heap.size w (((w.alloc (boxC c (.slice a1 m1 k1) (.slice a2 m2 k2))).alloc (boxH x)).alloc (boxZ))) := grew (grew (grew (Below.refl _ _) _) _) _
 have h0_0 : Aside ((((w.alloc (boxC c (.slice a1 m1 k1) (.slice a2 m2 k2))).alloc (boxH x)).alloc (boxZ)).heap[w.heap.size]? = some (boxC c (.slice a1 m1 k1) (.slice a2 m2 k2))) := by
  have := heap_new w (boxC c (.slice a1 m1 k1) (.slice a2 m2 k2))
  exact heap_old (heap_old (this) _) _
 have h1_0 : Aside ((((w.alloc (boxC c (.slice a1 m1 k1) (.slice a2 m2 k2))).alloc (boxH x)).alloc (boxZ)).heap[w.heap.size + 1]? = some (boxH x)) := by
  have := heap_new (w.alloc (boxC c (.slice a1 m1 k1) (.slice a2 m2 k2))) (boxH x)
  rw [World.size_alloc] at this
  exact heap_old (this) _
 have h2_0 : Aside ((((w.alloc (boxC c (.slice a1 m1 k1) (.slice a2 m2 k2))).alloc (boxH x)).alloc (boxZ)).heap[w.heap.size + 1 + 1]? = some (boxZ)) := by
  have := heap_new ((w.alloc (boxC c (.slice a1 m1 k1) (.slice a2 m2 k2))).alloc (boxH x)) (boxZ)
  rw [World.size_alloc, World.size_alloc] at this
  exact this
 go_enter Tryz.func110, Tryz.ntmps110
 go_upto_region 1 with fail
 generalize (((w.alloc (boxC c (.slice a1 m1 k1) (.slice a2 m2 k2))).alloc (boxH x)).alloc (boxZ)) = w0 at *
 have z0 := cb h0_0
 have z1 := cb h1_0
 go_wp2_with fail
 refine (KC.out w0 B0.out).mono ?_
 rintro e w1 ⟨u1, u2, rfl, hT, hb1⟩
 have hR := hv h2_0 hb1
 have hB := sb B0 hb1
 have HT : Aside (BkT w1 u1 u2 R) := hT
 obtain ⟨s1, o1, s2, o2, rfl, rfl⟩ := bk_slices hT.1.1 hT.1.2
 clear hb1 B0 hT h0_0 h1_0 h2_0 z0 z1 KC
 obtain ⟨n1, hn1⟩ : ∃ n, Hid ((R).js.length = n) := ⟨_, rfl⟩
 obtain ⟨n2, hn2⟩ : ∃ n, Hid ((R).rs.length = n) := ⟨_, rfl⟩
 rw [hn1.out, hn2.out] at HT ⊢
 have zr := cb hR
 have fzr := cf hR
 go_wp2
 refine ret_st (p := 6) (q := 7) w1 (w.heap.size + 1 + 1) (R) (.slice s1 n1 o1) (.slice s2 n2 o2) (o := Cl.zero) (u1 := nil0) (u2 := nil0) Tryz.results110 rfl rfl rfl hR.out rfl ?_
 exact ⟨(.slice s1 n1 o1), (.slice s2 n2 o2), rfl, bkT_st12 ⟨_, hR.out⟩ HT.out _ _ _, st12_below hB.out (by omega) _ _ _⟩
set_option maxHeartbeats 8000000 in
set_option maxRecDepth 100000 in
theorem w_does7 (c : Cl) (a1 a2 : Option Addr) (m1 k1 m2 k2 : Nat) (x : Hp) (w : World) (B : Nat) (v0 : Option Addr) (l0 q0 : Nat) (vc : Value) (tip t : Int) (hbw : w.heap[B]? = some (boxW (.slice v0 l0 q0) tip vc t)) (R : Cl) (f : Int) (hk1 : (x.k == 1) = false) (hk2 : (x.k == 2) = false) (hk3 : (x.k == 3) = false) (hk6 : (x.k == 6) = false) (hk7 : (x.k == 7) = true)
  (kc : ∀ W, Below w.heap.size w W → AnsT 141 #[c.val (.slice a1 m1 k1) (.slice a2 m2 k2), (.slice v0 l0 q0)] W (R, f)) :
  AnsT 110 #[.pointer (some ⟨B, 0, none⟩), c.val (.slice a1 m1 k1) (.slice a2 m2 k2), x.val] w (R, f) := by
 have KC : Aside _ := kc
 have HW : Aside (w.heap[B]? = some (boxW (.slice v0 l0 q0) tip vc t)) := hbw
 clear kc hbw
 have B0 : Aside (Below w.heap.size w (((w.alloc (boxC c (.slice a1 m1 k1) (.slice a2 m2 k2))).alloc (boxH x)).alloc (boxZ))) := grew (grew (grew (Below.refl _ _) _) _) _
 have h0_0 : Aside ((((w.alloc (boxC c (.slice a1 m1 k1) (.slice a2 m2 k2))).alloc (boxH x)).alloc (boxZ)).heap[w.heap.size]? = some (boxC c (.slice a1 m1 k1) (.slice a2 m2 k2))) := by
  have := heap_new w (boxC c (.slice a1 m1 k1) (.slice a2 m2 k2))
  exact heap_old (heap_old (this) _) _
 have h1_0 : Aside ((((w.alloc (boxC c (.slice a1 m1 k1) (.slice a2 m2 k2))).alloc (boxH x)).alloc (boxZ)).heap[w.heap.size + 1]? = some (boxH x)) := by
  have := heap_new (w.alloc (boxC c (.slice a1 m1 k1) (.slice a2 m2 k2))) (boxH x)
  rw [World.size_alloc] at this
  exact heap_old (this) _
 have h2_0 : Aside ((((w.alloc (boxC c (.slice a1 m1 k1) (.slice a2 m2 k2))).alloc (boxH x)).alloc (boxZ)).heap[w.heap.size + 1 + 1]? = some (boxZ)) := by
  have := heap_new ((w.alloc (boxC c (.slice a1 m1 k1) (.slice a2 m2 k2))).alloc (boxH x)) (boxZ)
  rw [World.size_alloc, World.size_alloc] at this
  exact this
 go_enter Tryz.func110, Tryz.ntmps110
 go_upto_region 1 with fail
 generalize (((w.alloc (boxC c (.slice a1 m1 k1) (.slice a2 m2 k2))).alloc (boxH x)).alloc (boxZ)) = w0 at *
 have HW0 : Aside _ := heap_below HW.out B0.out (heap_lt HW.out)
 clear HW
 have z0 := cb h0_0
 have z1 := cb h1_0
 go_upto_region 11 with fail
 clear z0 z1
 have h0_1 : Aside (w0.drew.heap[w.heap.size]? = some (boxC c (.slice a1 m1 k1) (.slice a2 m2 k2))) := h0_0.out
 have h1_1 : Aside (w0.drew.heap[w.heap.size + 1]? = some (boxH x)) := h1_0.out
 have h2_1 : Aside (w0.drew.heap[w.heap.size + 1 + 1]? = some (boxZ)) := h2_0.out
 have HW1 : Aside (w0.drew.heap[B]? = some (boxW (.slice v0 l0 q0) tip vc t)) := HW0.out
 have B1 : Aside (Below w.heap.size w w0.drew) := B0.out.drew
 clear h0_0 h1_0 h2_0 HW0 B0
 refine wp_region_noPanic ?_
 refine region_L (fun w' => Below w0.drew.heap.size w0.drew w') 8 (by kernel_rfl) (Below.refl _ _) (fun hHeld => ?_)
 generalize w0.drew = w1 at *
 refine tl 0 (v := ?_) rfl (by kernel_rfl) (by rfl) (by assumption) (fun _ _ _ h => h) ?_ ?_
 rotate_left
 ·(intro w0 hSw; have z := (show ∀ i, w0.cell? ⟨w.heap.size, i, none⟩ = #[Value.int .i64 c.p, .int .i64 c.d, .int .i64 c.e.k, .int .i64 c.e.j, .int .i64 c.e.v, .int .i64 c.e.t, .int .i64 c.e.c, .int .i64 c.a, .int .i64 c.l, .int .i64 c.n, .slice a1 m1 k1, .slice a2 m2 k2][i]? from fun i => Joins.cell_of_block (heap_below h0_1.out hSw (heap_lt h0_1.out)) i); clear hSw; go_simp; first | done | with_reducible rfl)
 try simp only [Act.put, qa, qb, qc]
 refine tl 1 (v := ?_) rfl (by kernel_rfl) (by rfl) (by assumption) (fun _ _ _ h => h) ?_ ?_
 rotate_left
 ·(intro w0 hSw; clear hSw; go_simp; first | done | with_reducible rfl)
 try simp only [Act.put, qa, qb, qc]
 refine tl 2 (v := ?_) rfl (by kernel_rfl) (by rfl) (by assumption) (fun _ _ _ h => h) ?_ ?_
 rotate_left
 ·(intro w0 hSw; clear hSw; go_simp; first | done | with_reducible rfl)
 try simp only [Act.put, qa, qb, qc]
 refine tl 3 (v := ?_) rfl (by kernel_rfl) (by rfl) (by assumption) (fun _ _ _ h => h) ?_ ?_
 rotate_left
 ·(intro w0 hSw; clear hSw; go_simp; first | done | with_reducible rfl)
 try simp only [Act.put, qa, qb, qc]
 refine tl 4 (v := ?_) rfl (by kernel_rfl) (by rfl) (by assumption) (fun _ _ _ h => h) ?_ ?_
 rotate_left
 ·(intro w0 hSw; have z := (show ∀ i, w0.cell? ⟨B, i, none⟩ = #[Value.slice v0 l0 q0, .int .i64 tip, vc, .int .i64 t][i]? from fun i => Joins.cell_of_block (heap_below HW1.out hSw (heap_lt HW1.out)) i); clear hSw; go_simp; first | done | with_reducible rfl)
 try simp only [Act.put, qa, qb, qc]
 refine anyL_one (i := 5) (by kernel_rfl) rfl (fun K hK => ?_)
 go_simp
 refine (KC.out _ B1.out).mono ?_
 rintro e w2 ⟨u1, u2, rfl, hT, hb2⟩
 have hR := hv h2_1 hb2
 have hB := sb B1 hb2
 have HT : Aside (BkT w2 u1 u2 R) := hT
 obtain ⟨s1, o1, s2, o2, rfl, rfl⟩ := bk_slices hT.1.1 hT.1.2
 refine hK.out _ _ (fun _ => hb2) (fun hNext => ?_)
 replace hNext := hNext (by kernel_rfl)
 clear hK K hb2 B1 hT h2_1 KC
 try simp only [Act.put, qa, qb, qc]
 obtain ⟨n1, hn1⟩ : ∃ n, Hid (R.js.length = n) := ⟨_, rfl⟩
 obtain ⟨n2, hn2⟩ : ∃ n, Hid (R.rs.length = n) := ⟨_, rfl⟩
 rw [hn1.out, hn2.out] at HT ⊢
 refine anyL_free (i := 6) (v := ?_) rfl (by kernel_rfl) (by kernel_rfl) (by kernel_rfl) (by kernel_rfl) (fun _ _ _ h => h) (Or.inl ⟨by rfl, ?_⟩) (by assumption) ?_
 rotate_left
 ·(intro w0 _; go_simp; first | done | with_reducible rfl)
 try simp only [Act.put, qa, qb, qc]
 refine anyL_free (i := 7) (v := ?_) rfl (by kernel_rfl) (by kernel_rfl) (by kernel_rfl) (by kernel_rfl) (fun _ _ _ h => h) (Or.inl ⟨by rfl, ?_⟩) (by assumption) ?_
 rotate_left
 ·(intro w0 _; go_simp; first | done | with_reducible rfl)
 try simp only [Act.put, qa, qb, qc]
 have zr := cb hR
 have fzr := cf hR
 clear hHeld
 refine anyL_one (i := 8) (by kernel_rfl) rfl (fun K hK => ?_)
 go_simp
 refine hK.out _ _ (fun h => absurd h (by decide +kernel)) (fun _ => ?_)
 clear hK K
 try simp only [Act.put, qa, qb, qc]
 refine anyL_one (i := 9) (by kernel_rfl) rfl (fun K hK => ?_)
 go_simp
 refine hK.out _ _ (fun h => absurd h (by decide +kernel)) (fun _ => ?_)
 clear hK K
 try simp only [Act.put, qa, qb, qc]
 refine anyL_done (by kernel_rfl) ?_ _
 refine NoPanic.normal ?_
 try simp only [Act.put, qa, qb, qc]
 go_wp2
 refine ret_st (p := 6) (q := 7) w2 (w.heap.size + 1 + 1) R (.slice s1 n1 o1) (.slice s2 n2 o2) (o := Cl.zero) (u1 := nil0) (u2 := nil0) Tryz.results110 rfl rfl rfl hR.out rfl ?_
 exact ⟨(.slice s1 n1 o1), (.slice s2 n2 o2), rfl, bkT_st12 ⟨_, hR.out⟩ HT.out _ _ _, st12_below hB.out (by omega) _ _ _⟩
set_option maxHeartbeats 4000000 in
set_option maxRecDepth 100000 in
theorem w_does14 (c : Cl) (a1 a2 : Option Addr) (m1 k1 m2 k2 : Nat) (x : Hp) (w : World) (B : Nat) (hk1 : (x.k == 1) = false) (hk2 : (x.k == 2) = false) (hk3 : (x.k == 3) = false) (hk6 : (x.k == 6) = false) (hk7 : (x.k == 7) = false) :
  AnsT 110 #[.pointer (some ⟨B, 0, none⟩), c.val (.slice a1 m1 k1) (.slice a2 m2 k2), x.val] w (cnew, 0) := by
 have B0 : Aside (Below w.heap.size w (((w.alloc (boxC c (.slice a1 m1 k1) (.slice a2 m2 k2))).alloc (boxH x)).alloc (boxZ))) := grew (grew (grew (Below.refl _ _) _) _) _
 have h0_0 : Aside ((((w.alloc (boxC c (.slice a1 m1 k1) (.slice a2 m2 k2))).alloc (boxH x)).alloc (boxZ)).heap[w.heap.size]? = some (boxC c (.slice a1 m1 k1) (.slice a2 m2 k2))) := by
  have := heap_new w (boxC c (.slice a1 m1 k1) (.slice a2 m2 k2))
  exact heap_old (heap_old (this) _) _
 have h1_0 : Aside ((((w.alloc (boxC c (.slice a1 m1 k1) (.slice a2 m2 k2))).alloc (boxH x)).alloc (boxZ)).heap[w.heap.size + 1]? = some (boxH x)) := by
  have := heap_new (w.alloc (boxC c (.slice a1 m1 k1) (.slice a2 m2 k2))) (boxH x)
  rw [World.size_alloc] at this
  exact heap_old (this) _
 have h2_0 : Aside ((((w.alloc (boxC c (.slice a1 m1 k1) (.slice a2 m2 k2))).alloc (boxH x)).alloc (boxZ)).heap[w.heap.size + 1 + 1]? = some (boxZ)) := by
  have := heap_new ((w.alloc (boxC c (.slice a1 m1 k1) (.slice a2 m2 k2))).alloc (boxH x)) (boxZ)
  rw [World.size_alloc, World.size_alloc] at this
  exact this
 go_enter Tryz.func110, Tryz.ntmps110
 go_upto_region 1 with fail
 generalize (((w.alloc (boxC c (.slice a1 m1 k1) (.slice a2 m2 k2))).alloc (boxH x)).alloc (boxZ)) = w0 at *
 have z1 := cb h1_0
 go_wp2_with fail
 refine (cl_new _).mono ?_
 rintro e w1 ⟨rfl, hb1⟩
 have hR := hv h2_0 hb1
 have hB := sb B0 hb1
 clear hb1 h0_0 h1_0 h2_0 B0 z1
 have zr := cb hR
 have fzr := cf hR
 go_wp2
 refine ret_st (p := 6) (q := 7) w1 (w.heap.size + 1 + 1) cnew nil0 nil0 (o := Cl.zero) (u1 := nil0) (u2 := nil0) Tryz.results110 rfl rfl rfl hR.out rfl ?_
 exact ⟨nil0, nil0, rfl, bkT_nil _ rfl rfl, st12_below hB.out (by omega) _ _ _⟩
theorem w_does {X w : World} {B g1 g2 : Nat} {W : Wd} {xs : List Nb} {cs : List Cb} (hW : RW W) (hI : WIn X w B g1 g2 xs W.tip cs W.t) (hn : nodesOf xs = W.ns) (c : Cl) (v1 v2 : Value) (hb : BkAt w v1 v2 c) (x : Hp) :
  AnsT 110 #[.pointer (some ⟨B, 0, none⟩), c.val v1 v2, x.val] w (doesAt W c x) := by
 obtain ⟨a1, k1, a2, k2, rfl, rfl⟩ := bk_slices hb.1 hb.2
 have ff : ∀ q : Int, ¬ x.k = q → (x.k == q) = false := fun q h => by rw [beq_eq_false_iff_ne]; exact h
 have hbw := hI.st.box
 unfold doesAt
 by_cases k1' : x.k = 1
 ·rw [if_pos k1']
  exact w_does1 c a1 a2 _ k1 _ k2 x w B _ _ (by rw [k1']; rfl) (fun V hV => w_want c x.e _ _ V (bkAt_later hb hV))
 rw [if_neg k1']
 by_cases k2' : x.k = 2
 ·rw [if_pos k2']
  exact w_does2 c a1 a2 _ k1 _ k2 x w B _ _ _ _ hbw _ _ (ff 1 k1') (by rw [k2']; rfl) (fun V hV => cl_ring c x.c x.j W.t _ _ V (bkAt_later hb hV))
 rw [if_neg k2']
 by_cases k3' : x.k = 3
 ·rw [if_pos k3']
  exact w_does3 c a1 a2 _ k1 _ k2 x w B _ _ _ _ hbw _ _ (ff 1 k1') (ff 2 k2') (by rw [k3']; rfl) (fun V hV => w_place c W.tip _ _ V (bkAt_later hb hV))
 rw [if_neg k3']
 by_cases k6' : x.k = 6
 ·rw [if_pos k6']
  exact w_does6 c a1 a2 _ k1 _ k2 x w B _ _ (ff 1 k1') (ff 2 k2') (ff 3 k3') (by rw [k6']; rfl) (fun V hV => cl_fill c x.n _ _ V (bkAt_later hb hV))
 rw [if_neg k6']
 by_cases k7' : x.k = 7
 ·rw [if_pos k7']
  refine w_does7 c a1 a2 _ k1 _ k2 x w B _ _ _ _ _ _ hbw _ _ (ff 1 k1') (ff 2 k2') (ff 3 k3') (ff 6 k6') (by rw [k7']; rfl) (fun V hV => ?_)
  have hI' := hI.later hV
  exact w_play c _ _ xs g1 V W hW hn (bkAt_later hb hV) (by have := slOf_lit (c := 3) Nb.five hI'.st.nrow rfl; rwa [hI.three] at this) (fun y hy => (hI'.st.nodes y hy).1)
 rw [if_neg k7']
 exact w_does14 c a1 a2 _ k1 _ k2 x w B (ff 1 k1') (ff 2 k2') (ff 3 k3') (ff 6 k6') (ff 7 k7')
end Go.Proofs.YtmoaobfmopimlafGreatDoor
