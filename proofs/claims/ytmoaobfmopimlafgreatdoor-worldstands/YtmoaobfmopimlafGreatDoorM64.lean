/- For the law. -/
import Derived.Test.YtmoaobfmopimlafGreatDoorM63
set_option linter.unusedSimpArgs false
set_option linter.unusedVariables false
namespace Go.Proofs.YtmoaobfmopimlafGreatDoor
open Go.RowKit
abbrev nbZ : Nb := ⟨⟨⟨0, []⟩, [], [], false⟩, nil0, nil0, nil0⟩
abbrev cbZ : Cb := ⟨Cl.zero, nil0, nil0⟩
abbrev oN3 : Obj := .cells #[.int .i64 0, .slice none 0 0, .slice none 0 0, .slice none 0 0, .bool false, .int .i64 0, .slice none 0 0, .slice none 0 0, .slice none 0 0, .bool false, .int .i64 0, .slice none 0 0, .slice none 0 0, .slice none 0 0, .bool false] 49
abbrev oC3 : Obj := .cells #[.int .i64 0, .int .i64 0, .int .i64 0, .int .i64 0, .int .i64 0, .int .i64 0, .int .i64 0, .int .i64 0, .int .i64 0, .int .i64 0, .slice none 0 0, .slice none 0 0, .int .i64 0, .int .i64 0, .int .i64 0, .int .i64 0, .int .i64 0, .int .i64 0, .int .i64 0, .int .i64 0, .int .i64 0, .int .i64 0, .slice none 0 0, .slice none 0 0, .int .i64 0, .int .i64 0, .int .i64 0, .int .i64 0, .int .i64 0, .int .i64 0, .int .i64 0, .int .i64 0, .int .i64 0, .int .i64 0, .slice none 0 0, .slice none 0 0] 41
def Nw1 (X wr : World) (B g1 g2 : Nat) (k : Nat) : Prop :=
 ∃ ys : List Nb, ys.length = 3 ∧ WSt X wr B g1 g2 (ys.flatMap Nb.cells) 0 ([cbZ, cbZ, cbZ].flatMap Cb.cells) 0 (ys.take k) [] ∧ ∀ i y, i < k → ys[i]? = some y → y.n = nnew
def Nw2 (X wr : World) (B g1 g2 : Nat) (k : Nat) : Prop :=
 ∃ (ys : List Nb) (ds : List Cb), ys.length = 3 ∧ ds.length = 3 ∧ WSt X wr B g1 g2 (ys.flatMap Nb.cells) 0 (ds.flatMap Cb.cells) 0 ys (ds.take k) ∧ nodesOf ys = [nnew, nnew, nnew] ∧ ∀ i y, i < k → ds[i]? = some y → y.c = cnew
theorem Nw1.step {X w1 : World} {B g1 g2 k : Nat} {ys : List Nb} {x : Nb} (hl : ys.length = 3) (hx : ys[k]? = some x) (hS : WSt X w1 B g1 g2 (ys.flatMap Nb.cells) 0 ([cbZ, cbZ, cbZ].flatMap Cb.cells) 0 (ys.take k) []) (hn : ∀ i y, i < k → ys[i]? = some y → y.n = nnew) {y : Nb} (hy : NodeT w1 y) (hyn : y.n = nnew) :
  Nw1 X (st5 w1 g1 (k * 5) y) B g1 g2 (k + 1) := by
 have hlt := (List.getElem?_eq_some_iff.1 hx).1
 have h60 : y.n.u.cells.length = 60 := by rw [hyn]; exact List.length_replicate ..
 obtain ⟨s1, s2, s3⟩ := (⟨roomy_sl hy.unit.room, roomy_sl hy.disk.room1, roomy_sl hy.disk.room2⟩ : _ ∧ _ ∧ _)
 have H := (((((hS.with ⟨hy, h60⟩).setN (k * 5 + 0) (int_nob y.n.u.p)).setN (k * 5 + 1) (slice_nob s1)).setN (k * 5 + 2) (slice_nob s2)).setN (k * 5 + 3) (slice_nob s3)).setN (k * 5 + 4) (bool_nob y.n.up)
 rw [nput5 hx y] at H
 refine ⟨ys.set k y, by rw [List.length_set, hl], H.more (fun z hz => ?_) H.clients, fun i z hi hz => ?_⟩
 ·rw [List.take_add_one, List.getElem?_set_self hlt] at hz
  rcases List.mem_append.1 hz with hz | hz
  ·rw [List.take_set_of_le (Nat.le_refl k)] at hz
   exact H.nodes z (List.mem_cons_of_mem _ hz)
  ·obtain rfl : z = y := by simpa using hz
   exact H.nodes z (List.mem_cons_self ..)
 ·by_cases hik : i = k
  ·subst hik
   rw [List.getElem?_set_self hlt] at hz
   rw [← Option.some.inj hz]; exact hyn
  ·rw [List.getElem?_set_ne (Ne.symm hik)] at hz
   exact hn i z (by omega) hz
theorem Nw1.all {X w1 : World} {B g1 g2 : Nat} (h : Nw1 X w1 B g1 g2 3) : Nw2 X w1 B g1 g2 0 := by
 obtain ⟨ys, hl, hS, hn⟩ := h
 rw [List.take_of_length_le (by omega)] at hS
 refine ⟨ys, [cbZ, cbZ, cbZ], hl, rfl, hS, ?_, fun i y hi => absurd hi (Nat.not_lt_zero i)⟩
 match ys, hl, hn with
 | [a, b, c], _, hn =>
  show [a.n, b.n, c.n] = _
  rw [hn 0 a (by omega) rfl, hn 1 b (by omega) rfl, hn 2 c (by omega) rfl]
theorem Nw2.step {X w1 : World} {B g1 g2 k : Nat} {ys : List Nb} {ds : List Cb} {x : Cb} (hl : ys.length = 3) (hl' : ds.length = 3) (hx : ds[k]? = some x) (hS : WSt X w1 B g1 g2 (ys.flatMap Nb.cells) 0 (ds.flatMap Cb.cells) 0 ys (ds.take k)) (hn : nodesOf ys = [nnew, nnew, nnew]) (hc : ∀ i y, i < k → ds[i]? = some y → y.c = cnew) :
  Nw2 X (stC w1 g2 (k * 12) ⟨cnew, nil0, nil0⟩) B g1 g2 (k + 1) := by
 have hlt := (List.getElem?_eq_some_iff.1 hx).1
 have hy : ClientR w1 ⟨cnew, nil0, nil0⟩ := bkT_nil _ rfl rfl
 have h0 := hS.more (L' := ys) (M' := (⟨cnew, nil0, nil0⟩ : Cb) :: ds.take k) hS.nodes (fun z hz => (List.mem_cons.1 hz).elim (fun e => e ▸ hy) (hS.clients z))
 have H := (((((((((((h0.setC (k * 12 + 0) (int_nob cnew.p)).setC (k * 12 + 1) (int_nob cnew.d)).setC (k * 12 + 2) (int_nob cnew.e.k)).setC (k * 12 + 3) (int_nob cnew.e.j)).setC (k * 12 + 4) (int_nob cnew.e.v)).setC (k * 12 + 5) (int_nob cnew.e.t)).setC (k * 12 + 6) (int_nob cnew.e.c)).setC (k * 12 + 7) (int_nob cnew.a)).setC (k * 12 + 8) (int_nob cnew.l)).setC (k * 12 + 9) (int_nob cnew.n)).setC (k * 12 + 10) (slnob none 0 0)).setC (k * 12 + 11) (slnob none 0 0)
 rw [cput12 hx ⟨cnew, nil0, nil0⟩] at H
 refine ⟨ys, ds.set k ⟨cnew, nil0, nil0⟩, hl, by rw [List.length_set, hl'], H.more H.nodes (fun z hz => ?_), hn, fun i z hi hz => ?_⟩
 ·rw [List.take_add_one, List.getElem?_set_self hlt] at hz
  rcases List.mem_append.1 hz with hz | hz
  ·rw [List.take_set_of_le (Nat.le_refl k)] at hz
   exact H.clients z (List.mem_cons_of_mem _ hz)
  ·obtain rfl : z = ⟨cnew, nil0, nil0⟩ := by simpa using hz
   exact H.clients _ (List.mem_cons_self ..)
 ·by_cases hik : i = k
  ·subst hik
   rw [List.getElem?_set_self hlt] at hz
   rw [← Option.some.inj hz]
  ·rw [List.getElem?_set_ne (Ne.symm hik)] at hz
   exact hc i z (by omega) hz
theorem Nw2.all {X w1 : World} {B g1 g2 : Nat} (h : Nw2 X w1 B g1 g2 3) : ∃ ys ds, WIn X w1 B g1 g2 ys 0 ds 0 ∧ nodesOf ys = wnew.ns ∧ clientsOf ds = wnew.cs := by
 obtain ⟨ys, ds, hl, hl', hS, hn, hc⟩ := h
 rw [List.take_of_length_le (by omega)] at hS
 refine ⟨ys, ds, ⟨hS, hl, hl'⟩, hn, ?_⟩
 match ds, hl', hc with
 | [a, b, c], _, hc =>
  show [a.c, b.c, c.c] = _
  rw [hc 0 a (by omega) rfl, hc 1 b (by omega) rfl, hc 2 c (by omega) rfl]
  rfl
theorem blk_ne {w : World} {a b : Nat} {A A' : Array Value} {T T' : TypeId} (h : w.heap[a]? = some (.cells A T)) (h' : w.heap[b]? = some (.cells A' T')) (hT : T ≠ T') : a ≠ b := fun e => by
 rw [e, h'] at h
 injection h with h
 injection h with _ h
 exact hT h.symm
theorem nw_start {W0 w1 : World} {dn dc dx : Nat} (hn : w1.heap[dn]? = some oN3) (hc : w1.heap[dc]? = some oC3) (hx : w1.heap[dx]? = some boxWZ) (lx : W0.heap.size ≤ dx) (hb : Below W0.heap.size W0 w1) :
  Nw1 W0 (stW w1 dx (.slice (some ⟨dn, 0, none⟩) 3 3) 0 (.slice (some ⟨dc, 0, none⟩) 3 3) 0) dx dn dc 0 := by
 have n1 : dn ≠ dx := blk_ne hn hx (by decide)
 have n2 : dc ≠ dx := blk_ne hc hx (by decide)
 exact ⟨[nbZ, nbZ, nbZ], rfl, ⟨stW_box hx _ _ _ _, stW_other hn n1 _ _ _ _, stW_other hc n2 _ _ _ _, rfl, rfl, fun x hx => by simp [Nb.cells] at hx, fun x hx => by simp [Cb.cells] at hx, fun y hy => by simp at hy, fun y hy => by simp at hy, BelowX.of (stW_below hb lx _ _ _ _) _ _ _⟩, fun i y hi => absurd hi (Nat.not_lt_zero i)⟩
set_option maxHeartbeats 8000000 in
set_option maxRecDepth 100000 in
theorem w_new (w : World) : Calls Tryz.prog 26 #[] w fun e w' => ∃ vn vc, e = .returned (wval vn 0 vc 0) ∧ WOut w w' vn vc wnew ∧ Below w.heap.size w w' := by
 have hmkN : ∀ W, (Instr.makeSlice 22 (.int .i64 3) (.int .i64 3)).run Tryz.prog W = .ok (.slice (some ⟨W.heap.size, 0, none⟩) 3 3) (W.alloc (.cells #[.int .i64 0, .slice none 0 0, .slice none 0 0, .slice none 0 0, .bool false, .int .i64 0, .slice none 0 0, .slice none 0 0, .slice none 0 0, .bool false, .int .i64 0, .slice none 0 0, .slice none 0 0, .slice none 0 0, .bool false] 49)) := fun W => by kernel_rfl
 have hmkC : ∀ W, (Instr.makeSlice 23 (.int .i64 3) (.int .i64 3)).run Tryz.prog W = .ok (.slice (some ⟨W.heap.size, 0, none⟩) 3 3) (W.alloc (.cells #[.int .i64 0, .int .i64 0, .int .i64 0, .int .i64 0, .int .i64 0, .int .i64 0, .int .i64 0, .int .i64 0, .int .i64 0, .int .i64 0, .slice none 0 0, .slice none 0 0, .int .i64 0, .int .i64 0, .int .i64 0, .int .i64 0, .int .i64 0, .int .i64 0, .int .i64 0, .int .i64 0, .int .i64 0, .int .i64 0, .slice none 0 0, .slice none 0 0, .int .i64 0, .int .i64 0, .int .i64 0, .int .i64 0, .int .i64 0, .int .i64 0, .int .i64 0, .int .i64 0, .int .i64 0, .int .i64 0, .slice none 0 0, .slice none 0 0] 41)) := fun W => by kernel_rfl
 have B0 : Aside (Below w.heap.size w (w.alloc (boxWZ))) := grew (Below.refl _ _) _
 have h0_0 : Aside ((w.alloc (boxWZ)).heap[w.heap.size]? = some (boxWZ)) := by
  have := heap_new w (boxWZ)
  exact this
 go_enter Tryz.func26, Tryz.ntmps26
 go_upto_region 1 with fail
 generalize (w.alloc (boxWZ)) = w0 at *
 generalize w0 = W0 at *
 go_cut [1] from 4 to 6 (fun s1 wx => ∃ b g1 g2 : Nat, s1 = .pointer (some ⟨b, 0, none⟩) ∧ Nw1 W0 wx b g1 g2 0 ∧ W0.heap.size ≤ g1 ∧ W0.heap.size ≤ g2 ∧ W0.heap.size ≤ b)
 case first =>
  refine wp_region_held_drew (S := fun W' => Below W0.heap.size W0 W') (by kernel_rfl) ((Below.refl _ _).drew) (fun hHeld => ?_)
  refine wpAnyH_ready (rs := [0, 1, 3]) (by kernel_rfl) (by simp) ?_
  refine AllReadyH.cons (o := ?o0r) ?hi0r ?step0r (AllReadyH.cons (o := ?o1r) ?hi1r ?step1r (AllReadyH.cons (o := ?o3r) ?hi3r ?step3r AllReadyH.nil))
  case hi0r => (simp only [List.getElem?_toArray, List.getElem?_cons_succ, List.getElem?_cons_zero]; rfl)
  case hi1r => (simp only [List.getElem?_toArray, List.getElem?_cons_succ, List.getElem?_cons_zero]; rfl)
  case hi3r => (simp only [List.getElem?_toArray, List.getElem?_cons_succ, List.getElem?_cons_zero]; rfl)
  case step0r =>
   intro K hK
   go_simp
   have ln : W0.heap.size ≤ W0.heap.size := Nat.le_refl _
   refine hK.out _ _ (grew hHeld _) (fun hHeld => ?_)
   clear hK K
   try simp only [Act.put, qa, qb, qc]
   have n1 : ((W0.alloc (oN3)).drew).heap[W0.heap.size]? = some (oN3) := heap_new _ _
   generalize (W0.alloc (oN3)).drew = w1 at *
   refine wpAnyH_ready (rs := [1, 3]) (by kernel_rfl) (by simp) ?_
   refine AllReadyH.cons (o := ?o1ra) ?hi1ra ?step1ra (AllReadyH.cons (o := ?o3ra) ?hi3ra ?step3ra AllReadyH.nil)
   case hi1ra => (simp only [List.getElem?_toArray, List.getElem?_cons_succ, List.getElem?_cons_zero]; rfl)
   case hi3ra => (simp only [List.getElem?_toArray, List.getElem?_cons_succ, List.getElem?_cons_zero]; rfl)
   case step1ra =>
    intro K hK
    go_simp
    have lc : W0.heap.size ≤ w1.heap.size := hHeld.size
    refine hK.out _ _ (grew hHeld _) (fun hHeld => ?_)
    clear hK K
    try simp only [Act.put, qa, qb, qc]
    have c2 : (w1.alloc (oC3)).heap[w1.heap.size]? = some (oC3) := heap_new _ _
    have nnc : W0.heap.size ≠ w1.heap.size := by have := heap_lt n1; omega
    have n2 : _ := heap_below n1 (show Below w1.heap.size w1 (w1.alloc (oC3)) from grew (Below.refl _ _) _) (heap_lt n1)
    generalize w1.alloc (oC3) = w2 at *
    generalize w1.heap.size = dc at *
    refine tk 2 (v := ?_) rfl (by kernel_rfl) (by rfl) (by assumption) (fun _ _ _ h => h) ?_ ?_
    rotate_left
    ·intro w0 hSw; clear hSw; go_simp; first | done | with_reducible rfl
    try simp only [Act.put, qa, qb, qc]
    refine rdy 3 (by kernel_rfl) rfl (fun K hK => ?_)
    go_simp
    have lx : W0.heap.size ≤ w2.heap.size := hHeld.size
    refine hK.out _ _ (grew hHeld _) (fun hHeld => ?_)
    clear hK K
    try simp only [Act.put, qa, qb, qc]
    have x3 : (w2.alloc (boxWZ)).heap[w2.heap.size]? = some (boxWZ) := heap_new _ _
    have nnx : W0.heap.size ≠ w2.heap.size := by have := heap_lt n2; omega
    have ncx : dc ≠ w2.heap.size := by have := heap_lt c2; omega
    have n3 : _ := heap_below n2 (show Below w2.heap.size w2 (w2.alloc (boxWZ)) from grew (Below.refl _ _) _) (heap_lt n2)
    have c3 : _ := heap_below c2 (show Below w2.heap.size w2 (w2.alloc (boxWZ)) from grew (Below.refl _ _) _) (heap_lt c2)
    generalize w2.alloc (boxWZ) = w3 at *
    generalize w2.heap.size = dx at *
    have hBB := hHeld
    have cc := fun i => Joins.cell_of_block x3 i
    have ff := fun i => Joins.unfrozen_of_block x3 i
    refine rdy 4 (by kernel_rfl) rfl (fun K hK => ?_)
    go_simp
    refine hK.out _ _ (stW_below hHeld lx _ _ _ _) (fun hHeld => ?_)
    clear hK K
    try simp only [Act.put, qa, qb, qc]
    refine wpAnyH_done (by kernel_rfl) ?_ _
    go_wp2_with fail
    go_meet
    case rel => exact ⟨dx, W0.heap.size, dc, rfl, nw_start n3 c3 x3 lx hBB, ln, lc, lx⟩
   case step3ra =>
    intro K hK
    go_simp
    have lx : W0.heap.size ≤ w1.heap.size := hHeld.size
    refine hK.out _ _ (grew hHeld _) (fun hHeld => ?_)
    clear hK K
    try simp only [Act.put, qa, qb, qc]
    have x2 : (w1.alloc (boxWZ)).heap[w1.heap.size]? = some (boxWZ) := heap_new _ _
    have nnx : W0.heap.size ≠ w1.heap.size := by have := heap_lt n1; omega
    have n2 : _ := heap_below n1 (show Below w1.heap.size w1 (w1.alloc (boxWZ)) from grew (Below.refl _ _) _) (heap_lt n1)
    generalize w1.alloc (boxWZ) = w2 at *
    generalize w1.heap.size = dx at *
    refine rdy 1 (by kernel_rfl) rfl (fun K hK => ?_)
    go_simp
    have lc : W0.heap.size ≤ w2.heap.size := hHeld.size
    refine hK.out _ _ (grew hHeld _) (fun hHeld => ?_)
    clear hK K
    try simp only [Act.put, qa, qb, qc]
    have c3 : (w2.alloc (oC3)).heap[w2.heap.size]? = some (oC3) := heap_new _ _
    have nnc : W0.heap.size ≠ w2.heap.size := by have := heap_lt n2; omega
    have nxc : dx ≠ w2.heap.size := by have := heap_lt x2; omega
    have n3 : _ := heap_below n2 (show Below w2.heap.size w2 (w2.alloc (oC3)) from grew (Below.refl _ _) _) (heap_lt n2)
    have x3 : _ := heap_below x2 (show Below w2.heap.size w2 (w2.alloc (oC3)) from grew (Below.refl _ _) _) (heap_lt x2)
    generalize w2.alloc (oC3) = w3 at *
    generalize w2.heap.size = dc at *
    refine tk 2 (v := ?_) rfl (by kernel_rfl) (by rfl) (by assumption) (fun _ _ _ h => h) ?_ ?_
    rotate_left
    ·intro w0 hSw; clear hSw; go_simp; first | done | with_reducible rfl
    try simp only [Act.put, qa, qb, qc]
    have hBB := hHeld
    have cc := fun i => Joins.cell_of_block x3 i
    have ff := fun i => Joins.unfrozen_of_block x3 i
    refine rdy 4 (by kernel_rfl) rfl (fun K hK => ?_)
    go_simp
    refine hK.out _ _ (stW_below hHeld lx _ _ _ _) (fun hHeld => ?_)
    clear hK K
    try simp only [Act.put, qa, qb, qc]
    refine wpAnyH_done (by kernel_rfl) ?_ _
    go_wp2_with fail
    go_meet
    case rel => exact ⟨dx, W0.heap.size, dc, rfl, nw_start n3 c3 x3 lx hBB, ln, lc, lx⟩
  case step1r =>
   intro K hK
   go_simp
   have lc : W0.heap.size ≤ W0.heap.size := Nat.le_refl _
   refine hK.out _ _ (grew hHeld _) (fun hHeld => ?_)
   clear hK K
   try simp only [Act.put, qa, qb, qc]
   have c1 : ((W0.alloc (oC3)).drew).heap[W0.heap.size]? = some (oC3) := heap_new _ _
   generalize (W0.alloc (oC3)).drew = w1 at *
   refine wpAnyH_ready (rs := [0, 3]) (by kernel_rfl) (by simp) ?_
   refine AllReadyH.cons (o := ?o0rb) ?hi0rb ?step0rb (AllReadyH.cons (o := ?o3rb) ?hi3rb ?step3rb AllReadyH.nil)
   case hi0rb => (simp only [List.getElem?_toArray, List.getElem?_cons_succ, List.getElem?_cons_zero]; rfl)
   case hi3rb => (simp only [List.getElem?_toArray, List.getElem?_cons_succ, List.getElem?_cons_zero]; rfl)
   case step0rb =>
    intro K hK
    go_simp
    have ln : W0.heap.size ≤ w1.heap.size := hHeld.size
    refine hK.out _ _ (grew hHeld _) (fun hHeld => ?_)
    clear hK K
    try simp only [Act.put, qa, qb, qc]
    have n2 : (w1.alloc (oN3)).heap[w1.heap.size]? = some (oN3) := heap_new _ _
    have ncn : W0.heap.size ≠ w1.heap.size := by have := heap_lt c1; omega
    have c2 : _ := heap_below c1 (show Below w1.heap.size w1 (w1.alloc (oN3)) from grew (Below.refl _ _) _) (heap_lt c1)
    generalize w1.alloc (oN3) = w2 at *
    generalize w1.heap.size = dn at *
    refine tk 2 (v := ?_) rfl (by kernel_rfl) (by rfl) (by assumption) (fun _ _ _ h => h) ?_ ?_
    rotate_left
    ·intro w0 hSw; clear hSw; go_simp; first | done | with_reducible rfl
    try simp only [Act.put, qa, qb, qc]
    refine rdy 3 (by kernel_rfl) rfl (fun K hK => ?_)
    go_simp
    have lx : W0.heap.size ≤ w2.heap.size := hHeld.size
    refine hK.out _ _ (grew hHeld _) (fun hHeld => ?_)
    clear hK K
    try simp only [Act.put, qa, qb, qc]
    have x3 : (w2.alloc (boxWZ)).heap[w2.heap.size]? = some (boxWZ) := heap_new _ _
    have ncx : W0.heap.size ≠ w2.heap.size := by have := heap_lt c2; omega
    have nnx : dn ≠ w2.heap.size := by have := heap_lt n2; omega
    have c3 : _ := heap_below c2 (show Below w2.heap.size w2 (w2.alloc (boxWZ)) from grew (Below.refl _ _) _) (heap_lt c2)
    have n3 : _ := heap_below n2 (show Below w2.heap.size w2 (w2.alloc (boxWZ)) from grew (Below.refl _ _) _) (heap_lt n2)
    generalize w2.alloc (boxWZ) = w3 at *
    generalize w2.heap.size = dx at *
    have hBB := hHeld
    have cc := fun i => Joins.cell_of_block x3 i
    have ff := fun i => Joins.unfrozen_of_block x3 i
    refine rdy 4 (by kernel_rfl) rfl (fun K hK => ?_)
    go_simp
    refine hK.out _ _ (stW_below hHeld lx _ _ _ _) (fun hHeld => ?_)
    clear hK K
    try simp only [Act.put, qa, qb, qc]
    refine wpAnyH_done (by kernel_rfl) ?_ _
    go_wp2_with fail
    go_meet
    case rel => exact ⟨dx, dn, W0.heap.size, rfl, nw_start n3 c3 x3 lx hBB, ln, lc, lx⟩
   case step3rb =>
    intro K hK
    go_simp
    have lx : W0.heap.size ≤ w1.heap.size := hHeld.size
    refine hK.out _ _ (grew hHeld _) (fun hHeld => ?_)
    clear hK K
    try simp only [Act.put, qa, qb, qc]
    have x2 : (w1.alloc (boxWZ)).heap[w1.heap.size]? = some (boxWZ) := heap_new _ _
    have ncx : W0.heap.size ≠ w1.heap.size := by have := heap_lt c1; omega
    have c2 : _ := heap_below c1 (show Below w1.heap.size w1 (w1.alloc (boxWZ)) from grew (Below.refl _ _) _) (heap_lt c1)
    generalize w1.alloc (boxWZ) = w2 at *
    generalize w1.heap.size = dx at *
    refine rdy 0 (by kernel_rfl) rfl (fun K hK => ?_)
    go_simp
    have ln : W0.heap.size ≤ w2.heap.size := hHeld.size
    refine hK.out _ _ (grew hHeld _) (fun hHeld => ?_)
    clear hK K
    try simp only [Act.put, qa, qb, qc]
    have n3 : (w2.alloc (oN3)).heap[w2.heap.size]? = some (oN3) := heap_new _ _
    have ncn : W0.heap.size ≠ w2.heap.size := by have := heap_lt c2; omega
    have nxn : dx ≠ w2.heap.size := by have := heap_lt x2; omega
    have c3 : _ := heap_below c2 (show Below w2.heap.size w2 (w2.alloc (oN3)) from grew (Below.refl _ _) _) (heap_lt c2)
    have x3 : _ := heap_below x2 (show Below w2.heap.size w2 (w2.alloc (oN3)) from grew (Below.refl _ _) _) (heap_lt x2)
    generalize w2.alloc (oN3) = w3 at *
    generalize w2.heap.size = dn at *
    refine tk 2 (v := ?_) rfl (by kernel_rfl) (by rfl) (by assumption) (fun _ _ _ h => h) ?_ ?_
    rotate_left
    ·intro w0 hSw; clear hSw; go_simp; first | done | with_reducible rfl
    try simp only [Act.put, qa, qb, qc]
    have hBB := hHeld
    have cc := fun i => Joins.cell_of_block x3 i
    have ff := fun i => Joins.unfrozen_of_block x3 i
    refine rdy 4 (by kernel_rfl) rfl (fun K hK => ?_)
    go_simp
    refine hK.out _ _ (stW_below hHeld lx _ _ _ _) (fun hHeld => ?_)
    clear hK K
    try simp only [Act.put, qa, qb, qc]
    refine wpAnyH_done (by kernel_rfl) ?_ _
    go_wp2_with fail
    go_meet
    case rel => exact ⟨dx, dn, W0.heap.size, rfl, nw_start n3 c3 x3 lx hBB, ln, lc, lx⟩
  case step3r =>
   intro K hK
   go_simp
   have lx : W0.heap.size ≤ W0.heap.size := Nat.le_refl _
   refine hK.out _ _ (grew hHeld _) (fun hHeld => ?_)
   clear hK K
   try simp only [Act.put, qa, qb, qc]
   have x1 : ((W0.alloc (boxWZ)).drew).heap[W0.heap.size]? = some (boxWZ) := heap_new _ _
   generalize (W0.alloc (boxWZ)).drew = w1 at *
   refine wpAnyH_ready (rs := [0, 1]) (by kernel_rfl) (by simp) ?_
   refine AllReadyH.cons (o := ?o0rc) ?hi0rc ?step0rc (AllReadyH.cons (o := ?o1rc) ?hi1rc ?step1rc AllReadyH.nil)
   case hi0rc => (simp only [List.getElem?_toArray, List.getElem?_cons_succ, List.getElem?_cons_zero]; rfl)
   case hi1rc => (simp only [List.getElem?_toArray, List.getElem?_cons_succ, List.getElem?_cons_zero]; rfl)
   case step0rc =>
    intro K hK
    go_simp
    have ln : W0.heap.size ≤ w1.heap.size := hHeld.size
    refine hK.out _ _ (grew hHeld _) (fun hHeld => ?_)
    clear hK K
    try simp only [Act.put, qa, qb, qc]
    have n2 : (w1.alloc (oN3)).heap[w1.heap.size]? = some (oN3) := heap_new _ _
    have nxn : W0.heap.size ≠ w1.heap.size := by have := heap_lt x1; omega
    have x2 : _ := heap_below x1 (show Below w1.heap.size w1 (w1.alloc (oN3)) from grew (Below.refl _ _) _) (heap_lt x1)
    generalize w1.alloc (oN3) = w2 at *
    generalize w1.heap.size = dn at *
    refine rdy 1 (by kernel_rfl) rfl (fun K hK => ?_)
    go_simp
    have lc : W0.heap.size ≤ w2.heap.size := hHeld.size
    refine hK.out _ _ (grew hHeld _) (fun hHeld => ?_)
    clear hK K
    try simp only [Act.put, qa, qb, qc]
    have c3 : (w2.alloc (oC3)).heap[w2.heap.size]? = some (oC3) := heap_new _ _
    have nxc : W0.heap.size ≠ w2.heap.size := by have := heap_lt x2; omega
    have nnc : dn ≠ w2.heap.size := by have := heap_lt n2; omega
    have x3 : _ := heap_below x2 (show Below w2.heap.size w2 (w2.alloc (oC3)) from grew (Below.refl _ _) _) (heap_lt x2)
    have n3 : _ := heap_below n2 (show Below w2.heap.size w2 (w2.alloc (oC3)) from grew (Below.refl _ _) _) (heap_lt n2)
    generalize w2.alloc (oC3) = w3 at *
    generalize w2.heap.size = dc at *
    refine tk 2 (v := ?_) rfl (by kernel_rfl) (by rfl) (by assumption) (fun _ _ _ h => h) ?_ ?_
    rotate_left
    ·intro w0 hSw; clear hSw; go_simp; first | done | with_reducible rfl
    try simp only [Act.put, qa, qb, qc]
    have hBB := hHeld
    have cc := fun i => Joins.cell_of_block x3 i
    have ff := fun i => Joins.unfrozen_of_block x3 i
    refine rdy 4 (by kernel_rfl) rfl (fun K hK => ?_)
    go_simp
    refine hK.out _ _ (stW_below hHeld lx _ _ _ _) (fun hHeld => ?_)
    clear hK K
    try simp only [Act.put, qa, qb, qc]
    refine wpAnyH_done (by kernel_rfl) ?_ _
    go_wp2_with fail
    go_meet
    case rel => exact ⟨W0.heap.size, dn, dc, rfl, nw_start n3 c3 x3 lx hBB, ln, lc, lx⟩
   case step1rc =>
    intro K hK
    go_simp
    have lc : W0.heap.size ≤ w1.heap.size := hHeld.size
    refine hK.out _ _ (grew hHeld _) (fun hHeld => ?_)
    clear hK K
    try simp only [Act.put, qa, qb, qc]
    have c2 : (w1.alloc (oC3)).heap[w1.heap.size]? = some (oC3) := heap_new _ _
    have nxc : W0.heap.size ≠ w1.heap.size := by have := heap_lt x1; omega
    have x2 : _ := heap_below x1 (show Below w1.heap.size w1 (w1.alloc (oC3)) from grew (Below.refl _ _) _) (heap_lt x1)
    generalize w1.alloc (oC3) = w2 at *
    generalize w1.heap.size = dc at *
    refine rdy 0 (by kernel_rfl) rfl (fun K hK => ?_)
    go_simp
    have ln : W0.heap.size ≤ w2.heap.size := hHeld.size
    refine hK.out _ _ (grew hHeld _) (fun hHeld => ?_)
    clear hK K
    try simp only [Act.put, qa, qb, qc]
    have n3 : (w2.alloc (oN3)).heap[w2.heap.size]? = some (oN3) := heap_new _ _
    have nxn : W0.heap.size ≠ w2.heap.size := by have := heap_lt x2; omega
    have ncn : dc ≠ w2.heap.size := by have := heap_lt c2; omega
    have x3 : _ := heap_below x2 (show Below w2.heap.size w2 (w2.alloc (oN3)) from grew (Below.refl _ _) _) (heap_lt x2)
    have c3 : _ := heap_below c2 (show Below w2.heap.size w2 (w2.alloc (oN3)) from grew (Below.refl _ _) _) (heap_lt c2)
    generalize w2.alloc (oN3) = w3 at *
    generalize w2.heap.size = dn at *
    refine tk 2 (v := ?_) rfl (by kernel_rfl) (by rfl) (by assumption) (fun _ _ _ h => h) ?_ ?_
    rotate_left
    ·intro w0 hSw; clear hSw; go_simp; first | done | with_reducible rfl
    try simp only [Act.put, qa, qb, qc]
    have hBB := hHeld
    have cc := fun i => Joins.cell_of_block x3 i
    have ff := fun i => Joins.unfrozen_of_block x3 i
    refine rdy 4 (by kernel_rfl) rfl (fun K hK => ?_)
    go_simp
    refine hK.out _ _ (stW_below hHeld lx _ _ _ _) (fun hHeld => ?_)
    clear hK K
    try simp only [Act.put, qa, qb, qc]
    refine wpAnyH_done (by kernel_rfl) ?_ _
    go_wp2_with fail
    go_meet
    case rel => exact ⟨W0.heap.size, dn, dc, rfl, nw_start n3 c3 x3 lx hBB, ln, lc, lx⟩
 case rest =>
  obtain ⟨b, g1, g2, rfl, hE, l1, l2, lb⟩ := hcut
  have HE : Aside (Nw1 W0 wc b g1 g2 0) := hE
  have HGW : Hid (W0.heap.size ≤ b ∧ W0.heap.size ≤ g1 ∧ W0.heap.size ≤ g2) := ⟨lb, l1, l2⟩
  have zb : ∀ i, wc.cell? ⟨b, i, none⟩ = #[Value.slice (some ⟨g1, 0, none⟩) 3 3, .int .i64 0, .slice (some ⟨g2, 0, none⟩) 3 3, .int .i64 0][i]? := fun i => by
   obtain ⟨ys, _, hS, _⟩ := hE
   exact Joins.cell_of_block hS.box i
  clear hE l1 l2 lb hmkN hmkC
  go_wp2
  clear zb
  go_loopw [10] (fun i wr => ∃ k : Nat, k ≤ 3 ∧ i = .int .i64 k ∧ Nw1 W0 wr b g1 g2 k) (fun i _ => 3 - (intOf i).toNat)
  case atStart => exact ⟨0, Nat.zero_le _, rfl, HE.out⟩
  case round =>
   clear HE
   obtain ⟨k, hk, rfl, hrelN⟩ := hrel
   by_cases hlt : k < 3
   ·obtain ⟨ys, hyl, hS, hnn⟩ := hrelN
    obtain ⟨x, hx⟩ : ∃ x, ys[k]? = some x := ⟨ys[k]'(by omega), List.getElem?_eq_getElem _⟩
    have HY : Aside (ys.length = 3 ∧ ys[k]? = some x ∧ ∀ i y, i < k → ys[i]? = some y → y.n = nnew) := ⟨hyl, hx, hnn⟩
    have HS : Aside (WSt W0 wr.drew b g1 g2 (ys.flatMap Nb.cells) 0 ([cbZ, cbZ, cbZ].flatMap Cb.cells) 0 (ys.take k) []) := hS.later (Below.refl _ _).drew
    have hki : (k : Int) < 3 := by omega
    have hk0 : (0 : Int) ≤ (k : Int) := by omega
    clear hyl hS hnn hx
    go_upto_region 5 with fail
    refine wp_region_noPanic ?_
    refine region_L (fun w' => Below wr.drew.heap.size wr.drew w') 6 (by kernel_rfl) (Below.refl _ _) (fun hHeld => ?_)
    generalize wr.drew = w1 at *
    refine tl 0 (v := ?_) rfl (by kernel_rfl) (by rfl) (by assumption) (fun _ _ _ h => h) ?_ ?_
    rotate_left
    ·(intro w0 hSw; clear hSw; go_simp; first | done | with_reducible rfl)
    try simp only [Act.put, qa, qb, qc]
    refine tl 1 (v := ?_) rfl (by kernel_rfl) (by rfl) (by assumption) (fun _ _ _ h => h) ?_ ?_
    rotate_left
    ·(intro w0 hSw; have zb := (show ∀ i, w0.cell? ⟨b, i, none⟩ = #[Value.slice (some ⟨g1, 0, none⟩) 3 3, .int .i64 0, .slice (some ⟨g2, 0, none⟩) 3 3, .int .i64 0][i]? from fun i => Joins.cell_of_block (heap_below HS.out.box hSw (heap_lt HS.out.box)) i); clear hSw; go_simp; first | done | with_reducible rfl)
    try simp only [Act.put, qa, qb, qc]
    refine tl 2 (v := ?_) rfl (by kernel_rfl) (by rfl) (by assumption) (fun _ _ _ h => h) ?_ ?_
    rotate_left
    ·(intro w0 hSw; clear hSw; go_simp; first | done | with_reducible rfl)
    try simp only [Act.put, qa, qb, qc]
    refine anyL_one (i := 3) (by kernel_rfl) rfl (fun K hK => ?_)
    go_simp
    refine (unitNew_own _).mono ?_
    rintro e w2 ⟨g, rfl, hg0, hg, hb2⟩
    have S2 : Aside _ := HS.out.later hb2
    have G2 : Aside (w2.heap[g]? = some (.cells (unew.cells.flatMap En.cells).toArray 27)) := by rwa [List.append_nil] at hg
    have hH2 := step_below1 hHeld hb2
    refine hK.out _ _ (fun _ => hH2) (fun hNext => ?_)
    replace hNext := hNext (by kernel_rfl)
    clear hK K hb2 hg hg0 HS hHeld hH2
    try simp only [Act.put, qa, qb, qc]
    refine tl 4 (v := ?_) rfl (by kernel_rfl) (by rfl) (by assumption) (fun _ _ _ h => h) ?_ ?_
    rotate_left
    ·(intro w0 hSw; clear hSw; go_simp; first | done | with_reducible rfl)
    try simp only [Act.put, qa, qb, qc]
    refine tl 5 (v := ?_) rfl (by kernel_rfl) (by rfl) (by assumption) (fun _ _ _ h => h) ?_ ?_
    rotate_left
    ·(intro w0 hSw; clear hSw; go_simp; first | done | with_reducible rfl)
    try simp only [Act.put, qa, qb, qc]
    have yc : ∀ i : Nat, i < 5 → ∃ v, w2.cell? ⟨g1, k * 5 + i, none⟩ = some v := fun i hi => by
     have hz := (S2.out.nrow)
     have hn := S2.out.nlen
     rw [Joins.cell_of_block hz]
     refine ⟨(ys.flatMap Nb.cells)[k * 5 + i]'(by omega), ?_⟩
     rw [List.getElem?_toArray, List.getElem?_eq_getElem]
    obtain ⟨v0, y0⟩ := yc 0 (by omega)
    obtain ⟨v1, y1⟩ := yc 1 (by omega)
    obtain ⟨v2, y2⟩ := yc 2 (by omega)
    obtain ⟨v3, y3⟩ := yc 3 (by omega)
    obtain ⟨v4, y4⟩ := yc 4 (by omega)
    rw [Nat.add_zero] at y0
    clear yc
    have fy := fun i => Joins.unfrozen_of_block S2.out.nrow i
    refine anyL_one (i := 6) (by kernel_rfl) rfl (fun K hK => ?_)
    go_simp
    refine hK.out _ _ (fun h => absurd h (by decide +kernel)) (fun _ => ?_)
    clear hK K y0 y1 y2 y3 y4 fy
    try simp only [Act.put, qa, qb, qc]
    refine anyL_done (by kernel_rfl) ?_ _
    refine NoPanic.normal ?_
    try simp only [Act.put, qa, qb, qc]
    have hu := own_ents G2.out unew rfl
    have hyT : NodeT w2 ⟨nnew, .slice (some ⟨g, 0, none⟩) 60 60, nil0, nil0⟩ := ⟨hu, ⟨SlOf.nil _ _, SlOf.nil _ _, ⟨_, _, _, rfl, Nat.le_refl _⟩, ⟨_, _, _, rfl, Nat.le_refl _⟩⟩⟩
    have HN := Nw1.step HY.out.1 HY.out.2.1 S2.out HY.out.2.2 hyT rfl
    have HN' : Aside (Nw1 W0 (st5 w2 g1 (k * 5) ⟨nnew, .slice (some ⟨g, 0, none⟩) 60 60, nil0, nil0⟩) b g1 g2 (k + 1)) := HN
    clear hyT hu HN S2 G2 HY hNext
    go_wp2
    go_roundw
    case rel => exact ⟨k + 1, by omega, by go_num, HN'.out⟩
    case measure => simp [intOf]; omega
   ·have hk3 : k = 3 := by omega
    have HE : Aside (Nw2 W0 wr b g1 g2 0) := (show Nw1 W0 wr b g1 g2 3 from hk3 ▸ hrelN).all
    have hki : ¬ (k : Int) < 3 := by omega
    have zb : ∀ i, wr.cell? ⟨b, i, none⟩ = #[Value.slice (some ⟨g1, 0, none⟩) 3 3, .int .i64 0, .slice (some ⟨g2, 0, none⟩) 3 3, .int .i64 0][i]? := fun i => by
     obtain ⟨ys, _, hS, _⟩ := hrelN
     exact Joins.cell_of_block hS.box i
    clear hrelN hk hlt hk3
    go_wp2
    clear zb
    generalize wr = wq at *
    go_loopw [23] (fun i wr => ∃ k : Nat, k ≤ 3 ∧ i = .int .i64 k ∧ Nw2 W0 wr b g1 g2 k) (fun i _ => 3 - (intOf i).toNat)
    case atStart => exact ⟨0, Nat.zero_le _, rfl, HE.out⟩
    case round =>
     clear HE
     obtain ⟨k, hk, rfl, hrelN⟩ := hrel
     by_cases hlt : k < 3
     ·obtain ⟨ys, ds, hyl, hdl, hS, hnn, hcc⟩ := hrelN
      obtain ⟨x, hx⟩ : ∃ x, ds[k]? = some x := ⟨ds[k]'(by omega), List.getElem?_eq_getElem _⟩
      have HY : Aside (ys.length = 3 ∧ ds.length = 3 ∧ ds[k]? = some x ∧ nodesOf ys = [nnew, nnew, nnew] ∧ ∀ i y, i < k → ds[i]? = some y → y.c = cnew) := ⟨hyl, hdl, hx, hnn, hcc⟩
      have HS : Aside (WSt W0 wr.drew b g1 g2 (ys.flatMap Nb.cells) 0 (ds.flatMap Cb.cells) 0 ys (ds.take k)) := hS.later (Below.refl _ _).drew
      have hki : (k : Int) < 3 := by omega
      have hk0 : (0 : Int) ≤ (k : Int) := by omega
      clear hyl hdl hS hnn hcc hx
      go_upto_region 10 with fail
      refine wp_region_noPanic ?_
      refine region_L (fun w' => Below wr.drew.heap.size wr.drew w') 5 (by kernel_rfl) (Below.refl _ _) (fun hHeld => ?_)
      generalize wr.drew = w1 at *
      refine tl 0 (v := ?_) rfl (by kernel_rfl) (by rfl) (by assumption) (fun _ _ _ h => h) ?_ ?_
      rotate_left
      ·(intro w0 hSw; clear hSw; go_simp; first | done | with_reducible rfl)
      try simp only [Act.put, qa, qb, qc]
      refine tl 1 (v := ?_) rfl (by kernel_rfl) (by rfl) (by assumption) (fun _ _ _ h => h) ?_ ?_
      rotate_left
      ·(intro w0 hSw; have zb := (show ∀ i, w0.cell? ⟨b, i, none⟩ = #[Value.slice (some ⟨g1, 0, none⟩) 3 3, .int .i64 0, .slice (some ⟨g2, 0, none⟩) 3 3, .int .i64 0][i]? from fun i => Joins.cell_of_block (heap_below HS.out.box hSw (heap_lt HS.out.box)) i); clear hSw; go_simp; first | done | with_reducible rfl)
      try simp only [Act.put, qa, qb, qc]
      refine tl 2 (v := ?_) rfl (by kernel_rfl) (by rfl) (by assumption) (fun _ _ _ h => h) ?_ ?_
      rotate_left
      ·(intro w0 hSw; clear hSw; go_simp; first | done | with_reducible rfl)
      try simp only [Act.put, qa, qb, qc]
      refine anyL_one (i := 3) (by kernel_rfl) rfl (fun K hK => ?_)
      go_simp
      refine (cl_new _).mono ?_
      rintro e w2 ⟨rfl, hb2⟩
      have S2 : Aside _ := HS.out.later hb2
      have hH2 := step_below1 hHeld hb2
      refine hK.out _ _ (fun _ => hH2) (fun hNext => ?_)
      replace hNext := hNext (by kernel_rfl)
      clear hK K hb2 HS hHeld hH2
      try simp only [Act.put, qa, qb, qc]
      refine tl 4 (v := ?_) rfl (by kernel_rfl) (by rfl) (by assumption) (fun _ _ _ h => h) ?_ ?_
      rotate_left
      ·(intro w0 hSw; clear hSw; go_simp; first | done | with_reducible rfl)
      try simp only [Act.put, qa, qb, qc]
      have yc : ∀ i : Nat, i < 12 → ∃ v, w2.cell? ⟨g2, k * 12 + i, none⟩ = some v := fun i hi => by
       have hz := (S2.out.crow)
       have hn := S2.out.clen
       rw [Joins.cell_of_block hz]
       refine ⟨(ds.flatMap Cb.cells)[k * 12 + i]'(by omega), ?_⟩
       rw [List.getElem?_toArray, List.getElem?_eq_getElem]
      obtain ⟨v0, y0⟩ := yc 0 (by omega)
      obtain ⟨v1, y1⟩ := yc 1 (by omega)
      obtain ⟨v2, y2⟩ := yc 2 (by omega)
      obtain ⟨v3, y3⟩ := yc 3 (by omega)
      obtain ⟨v4, y4⟩ := yc 4 (by omega)
      obtain ⟨v5, y5⟩ := yc 5 (by omega)
      obtain ⟨v6, y6⟩ := yc 6 (by omega)
      obtain ⟨v7, y7⟩ := yc 7 (by omega)
      obtain ⟨v8, y8⟩ := yc 8 (by omega)
      obtain ⟨v9, y9⟩ := yc 9 (by omega)
      obtain ⟨v10, y10⟩ := yc 10 (by omega)
      obtain ⟨v11, y11⟩ := yc 11 (by omega)
      rw [Nat.add_zero] at y0
      clear yc
      have fy := fun i => Joins.unfrozen_of_block S2.out.crow i
      refine anyL_one (i := 5) (by kernel_rfl) rfl (fun K hK => ?_)
      go_simp
      refine hK.out _ _ (fun h => absurd h (by decide +kernel)) (fun _ => ?_)
      clear hK K y0 y1 y2 y3 y4 y5 y6 y7 y8 y9 y10 y11 fy
      try simp only [Act.put, qa, qb, qc]
      refine anyL_done (by kernel_rfl) ?_ _
      refine NoPanic.normal ?_
      try simp only [Act.put, qa, qb, qc]
      have HN := Nw2.step HY.out.1 HY.out.2.1 HY.out.2.2.1 S2.out HY.out.2.2.2.1 HY.out.2.2.2.2
      have HN' : Aside (Nw2 W0 (stC w2 g2 (k * 12) ⟨cnew, nil0, nil0⟩) b g1 g2 (k + 1)) := HN
      clear HN S2 HY hNext
      go_wp2
      go_roundw
      case rel => exact ⟨k + 1, by omega, by go_num, HN'.out⟩
      case measure => simp [intOf]; omega
     ·obtain rfl : k = 3 := by omega
      obtain ⟨ys, ds, hI, hyn, hdn⟩ := hrelN.all
      have HI : Aside (WIn W0 wr b g1 g2 ys 0 ds 0) := hI
      have HZN : Hid (nodesOf ys = wnew.ns ∧ clientsOf ds = wnew.cs) := ⟨hyn, hdn⟩
      have zb := fun i => Joins.cell_of_block hI.st.box i
      have HB : Aside (Below W0.heap.size W0 wr) := hI.st.below.whole HGW.out.1 HGW.out.2.1 HGW.out.2.2
      have HY4 : Aside _ := heap_below h0_0.out HB.out (heap_lt h0_0.out)
      have y4 := cb HY4
      have f4 := cf HY4
      clear hrelN hI hyn hdn hk hlt
      go_wp2
      have h3 := HGW.out
      have h4 := heap_lt h0_0.out
      have h5 := B0.out.size
      exact ret1_world (p := 0) Tryz.results26 rfl rfl (stW_box HY4.out (.slice (some ⟨g1, 0, none⟩) 3 3) 0 (.slice (some ⟨g2, 0, none⟩) 3 3) 0) ⟨_, _, rfl, Or.inr ⟨g1, g2, ys, ds, rfl, rfl, wrow_st HY4.out (HI.out.st.rebase B0.out) (by omega) (by omega) (by omega) (by omega) (by omega) (step_below1 B0.out HB.out) HI.out.three HI.out.three' _ _, HZN.out.1, HZN.out.2⟩, stW_below (step_below1 B0.out HB.out) (by omega) _ _ _ _⟩
end Go.Proofs.YtmoaobfmopimlafGreatDoor
