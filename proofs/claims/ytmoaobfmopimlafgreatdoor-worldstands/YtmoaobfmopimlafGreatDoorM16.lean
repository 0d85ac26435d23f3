/- For the law: Package world: New. The closed fact 'tolled': its pieces. Package world: sameNode. Package world: slices.EqualFunc at nodes. Package world: slices.EqualFunc at clients. Package world: Same. Worlds as values: what the laws hold of them. The closed fact 'tolled'. The law WorldStands. -/
import Derived.Test.YtmoaobfmopimlafGreatDoorM15
namespace Go.Proofs.YtmoaobfmopimlafGreatDoor
open Go.RowKit
abbrev nbZ : Nb := ⟨⟨⟨0, []⟩, [], [], false⟩, nil0, nil0, nil0⟩
abbrev cbZ : Cb := ⟨Cl.zero, nil0, nil0⟩
/-- Where the nodes' loop stands. -/
def Nw1 (X wr : World) (B g1 g2 : Nat) (k : Nat) : Prop :=
  ∃ ys : List Nb, ys.length = 3 ∧ WSt X wr B g1 g2 (ys.flatMap Nb.cells) 0 ([cbZ, cbZ, cbZ].flatMap Cb.cells) 0 (ys.take k) [] ∧ ∀ i y, i < k → ys[i]? = some y → y.n = nnew
/-- Where the clients' loop stands. -/
def Nw2 (X wr : World) (B g1 g2 : Nat) (k : Nat) : Prop :=
  ∃ (ys : List Nb) (ds : List Cb), ys.length = 3 ∧ ds.length = 3 ∧ WSt X wr B g1 g2 (ys.flatMap Nb.cells) 0 (ds.flatMap Cb.cells) 0 ys (ds.take k) ∧ nodesOf ys = [nnew, nnew, nnew] ∧ ∀ i y, i < k → ds[i]? = some y → y.c = cnew
theorem Nw1.step {X w1 : World} {B g1 g2 k : Nat} {ys : List Nb} {x : Nb} (hl : ys.length = 3) (hx : ys[k]? = some x) (hS : WSt X w1 B g1 g2 (ys.flatMap Nb.cells) 0 ([cbZ, cbZ, cbZ].flatMap Cb.cells) 0 (ys.take k) []) (hn : ∀ i y, i < k → ys[i]? = some y → y.n = nnew) {y : Nb} (hy : NodeT w1 y) (hyn : y.n = nnew) :
    Nw1 X (st5 w1 g1 (k * 5) y) B g1 g2 (k + 1) := by
  have hlt := (List.getElem?_eq_some_iff.1 hx).1
  have h60 : y.n.u.cells.length = 60 := by rw [hyn]; exact List.length_replicate ..
  obtain ⟨s1, s2, s3⟩ := (⟨roomy_sl hy.unit.room, roomy_sl hy.disk.room1, roomy_sl hy.disk.room2⟩ : _ ∧ _ ∧ _)
  have H := (((((hS.with ⟨hy, h60⟩).setN (k * 5 + 0) (int_nob y.n.u.p)).setN (k * 5 + 1) (slice_nob s1)).setN (k * 5 + 2) (slice_nob s2)).setN (k * 5 + 3) (slice_nob s3)).setN (k * 5 + 4) (bool_nob y.n.up)
  rw [nput5 hx y] at H
  refine ⟨ys.set k y, by rw [List.length_set, hl], H.more (fun z hz => ?_) H.clients, fun i z hi hz => ?_⟩
  · rw [List.take_add_one, List.getElem?_set_self hlt] at hz
    rcases List.mem_append.1 hz with hz | hz
    · rw [List.take_set_of_le (Nat.le_refl k)] at hz
      exact H.nodes z (List.mem_cons_of_mem _ hz)
    · obtain rfl : z = y := by simpa using hz
      exact H.nodes z (List.mem_cons_self ..)
  · by_cases hik : i = k
    · subst hik
      rw [List.getElem?_set_self hlt] at hz
      rw [← Option.some.inj hz]; exact hyn
    · rw [List.getElem?_set_ne (Ne.symm hik)] at hz
      exact hn i z (by omega) hz
theorem Nw1.all {X w1 : World} {B g1 g2 : Nat} (h : Nw1 X w1 B g1 g2 3) : Nw2 X w1 B g1 g2 0 := by
  obtain ⟨ys, hl, hS, hn⟩ := h
  rw [List.take_of_length_le (by omega)] at hS
  refine ⟨ys, [cbZ, cbZ, cbZ], hl, rfl, hS, ?_, fun i y hi => absurd hi (Nat.not_lt_zero i)⟩
  match ys, hl, hn with
  | [a, b, c], _, hn =>
    show [a.n, b.n, c.n] = _
    rw [hn 0 a (by omega) rfl, hn 1 b (by omega) rfl, hn 2 c (by omega) rfl]
theorem Nw2.step {X w1 : World} {B g1 g2 k : Nat} {ys : List Nb} {ds : List Cb} {x : Cb} (hl : ys.length = 3) (hl' : ds.length = 3) (hx : ds[k]? = some x) (hS : WSt X w1 B g1 g2 (ys.flatMap Nb.cells) 0 (ds.flatMap Cb.cells) 0 ys (ds.take k)) (hn : nodesOf ys = [nnew, nnew, nnew]) (hc : ∀ i y, i < k → ds[i]? = some y → y.c = cnew) :
    Nw2 X (stC w1 g2 (k * 12) ⟨cnew, nil0, nil0⟩) B g1 g2 (k + 1) := by
  have hlt := (List.getElem?_eq_some_iff.1 hx).1
  have hy : ClientR w1 ⟨cnew, nil0, nil0⟩ := bkT_nil _ rfl rfl
  have h0 := hS.more (L' := ys) (M' := (⟨cnew, nil0, nil0⟩ : Cb) :: ds.take k) hS.nodes (fun z hz => (List.mem_cons.1 hz).elim (fun e => e ▸ hy) (hS.clients z))
  have H := (((((((((((h0.setC (k * 12 + 0) (int_nob cnew.p)).setC (k * 12 + 1) (int_nob cnew.d)).setC (k * 12 + 2) (int_nob cnew.e.k)).setC (k * 12 + 3) (int_nob cnew.e.j)).setC (k * 12 + 4) (int_nob cnew.e.v)).setC (k * 12 + 5) (int_nob cnew.e.t)).setC (k * 12 + 6) (int_nob cnew.e.c)).setC (k * 12 + 7) (int_nob cnew.a)).setC (k * 12 + 8) (int_nob cnew.l)).setC (k * 12 + 9) (int_nob cnew.n)).setC (k * 12 + 10) (slnob none 0 0)).setC (k * 12 + 11) (slnob none 0 0)
  rw [cput12 hx ⟨cnew, nil0, nil0⟩] at H
  refine ⟨ys, ds.set k ⟨cnew, nil0, nil0⟩, hl, by rw [List.length_set, hl'], H.more H.nodes (fun z hz => ?_), hn, fun i z hi hz => ?_⟩
  · rw [List.take_add_one, List.getElem?_set_self hlt] at hz
    rcases List.mem_append.1 hz with hz | hz
    · rw [List.take_set_of_le (Nat.le_refl k)] at hz
      exact H.clients z (List.mem_cons_of_mem _ hz)
    · obtain rfl : z = ⟨cnew, nil0, nil0⟩ := by simpa using hz
      exact H.clients _ (List.mem_cons_self ..)
  · by_cases hik : i = k
    · subst hik
      rw [List.getElem?_set_self hlt] at hz
      rw [← Option.some.inj hz]
    · rw [List.getElem?_set_ne (Ne.symm hik)] at hz
      exact hc i z (by omega) hz
theorem Nw2.all {X w1 : World} {B g1 g2 : Nat} (h : Nw2 X w1 B g1 g2 3) : ∃ ys ds, WIn X w1 B g1 g2 ys 0 ds 0 ∧ nodesOf ys = wnew.ns ∧ clientsOf ds = wnew.cs := by
  obtain ⟨ys, ds, hl, hl', hS, hn, hc⟩ := h
  rw [List.take_of_length_le (by omega)] at hS
  refine ⟨ys, ds, ⟨hS, hl, hl'⟩, hn, ?_⟩
  match ds, hl', hc with
  | [a, b, c], _, hc =>
    show [a.c, b.c, c.c] = _
    rw [hc 0 a (by omega) rfl, hc 1 b (by omega) rfl, hc 2 c (by omega) rfl]
    rfl
/-- Two blocks of two types. -/
theorem blk_ne {w : World} {a b : Nat} {A A' : Array Value} {T T' : TypeId} (h : w.heap[a]? = some (.cells A T)) (h' : w.heap[b]? = some (.cells A' T')) (hT : T ≠ T') : a ≠ b := fun e => by
  rw [e, h'] at h
  injection h with h
  injection h with _ h
  exact hT h.symm
/-- A world in the making. -/
theorem nw_start {W0 w1 : World} {dn dc dx : Nat} (hn : w1.heap[dn]? = some (.cells #[.int .i64 0, .slice none 0 0, .slice none 0 0, .slice none 0 0, .bool false, .int .i64 0, .slice none 0 0, .slice none 0 0, .slice none 0 0, .bool false, .int .i64 0, .slice none 0 0, .slice none 0 0, .slice none 0 0, .bool false] 49)) (hc : w1.heap[dc]? = some (.cells #[.int .i64 0, .int .i64 0, .int .i64 0, .int .i64 0, .int .i64 0, .int .i64 0, .int .i64 0, .int .i64 0, .int .i64 0, .int .i64 0, .slice none 0 0, .slice none 0 0, .int .i64 0, .int .i64 0, .int .i64 0, .int .i64 0, .int .i64 0, .int .i64 0, .int .i64 0, .int .i64 0, .int .i64 0, .int .i64 0, .slice none 0 0, .slice none 0 0, .int .i64 0, .int .i64 0, .int .i64 0, .int .i64 0, .int .i64 0, .int .i64 0, .int .i64 0, .int .i64 0, .int .i64 0, .int .i64 0, .slice none 0 0, .slice none 0 0] 41)) (hx : w1.heap[dx]? = some boxWZ) (lx : W0.heap.size ≤ dx) (hb : Below W0.heap.size W0 w1) :
    Nw1 W0 (stW w1 dx (.slice (some ⟨dn, 0, none⟩) 3 3) 0 (.slice (some ⟨dc, 0, none⟩) 3 3) 0) dx dn dc 0 := by
  have n1 : dn ≠ dx := blk_ne hn hx (by decide)
  have n2 : dc ≠ dx := blk_ne hc hx (by decide)
  exact ⟨[nbZ, nbZ, nbZ], rfl, ⟨stW_box hx _ _ _ _, stW_other hn n1 _ _ _ _, stW_other hc n2 _ _ _ _, rfl, rfl, fun x hx => by simp [Nb.cells] at hx, fun x hx => by simp [Cb.cells] at hx, fun y hy => by simp at hy, fun y hy => by simp at hy, BelowX.of (stW_below hb lx _ _ _ _) _ _ _⟩, fun i y hi => absurd hi (Nat.not_lt_zero i)⟩
set_option linter.unusedSimpArgs false in
set_option maxHeartbeats 8000000 in
set_option maxRecDepth 100000 in
theorem w_new (w : World) : Calls Tryz.prog 26 #[] w fun e w' => ∃ vn vc, e = .returned (wval vn 0 vc 0) ∧ WOut w w' vn vc wnew ∧ Below w.heap.size w w' := by
  have hmkN : ∀ W, (Instr.makeSlice 22 (.int .i64 3) (.int .i64 3)).run Tryz.prog W = .ok (.slice (some ⟨W.heap.size, 0, none⟩) 3 3) (W.alloc (.cells #[.int .i64 0, .slice none 0 0, .slice none 0 0, .slice none 0 0, .bool false, .int .i64 0, .slice none 0 0, .slice none 0 0, .slice none 0 0, .bool false, .int .i64 0, .slice none 0 0, .slice none 0 0, .slice none 0 0, .bool false] 49)) := fun W => by kernel_rfl
  have hmkC : ∀ W, (Instr.makeSlice 23 (.int .i64 3) (.int .i64 3)).run Tryz.prog W = .ok (.slice (some ⟨W.heap.size, 0, none⟩) 3 3) (W.alloc (.cells #[.int .i64 0, .int .i64 0, .int .i64 0, .int .i64 0, .int .i64 0, .int .i64 0, .int .i64 0, .int .i64 0, .int .i64 0, .int .i64 0, .slice none 0 0, .slice none 0 0, .int .i64 0, .int .i64 0, .int .i64 0, .int .i64 0, .int .i64 0, .int .i64 0, .int .i64 0, .int .i64 0, .int .i64 0, .int .i64 0, .slice none 0 0, .slice none 0 0, .int .i64 0, .int .i64 0, .int .i64 0, .int .i64 0, .int .i64 0, .int .i64 0, .int .i64 0, .int .i64 0, .int .i64 0, .int .i64 0, .slice none 0 0, .slice none 0 0] 41)) := fun W => by kernel_rfl
  have B0 : Aside (Below w.heap.size w (w.alloc (boxWZ))) := grew (Below.refl _ _) _
  have h0_0 : Aside ((w.alloc (boxWZ)).heap[w.heap.size]? = some (boxWZ)) := by
    have := heap_new w (boxWZ)
    exact this
  go_enter Tryz.func26, Tryz.ntmps26
  go_upto_region 1 with fail
  generalize (w.alloc (boxWZ)) = w0 at *
  generalize w0 = W0 at *
  go_cut [1] from 4 to 6 (fun s1 wx => ∃ b g1 g2 : Nat, s1 = .pointer (some ⟨b, 0, none⟩) ∧ Nw1 W0 wx b g1 g2 0 ∧ W0.heap.size ≤ g1 ∧ W0.heap.size ≤ g2 ∧ W0.heap.size ≤ b)
  case first =>
    refine wp_region_held_drew (S := fun W' => Below W0.heap.size W0 W') (by kernel_rfl) ((Below.refl _ _).drew) (fun hHeld => ?_)
    refine wpAnyH_ready (rs := [0, 1, 3]) (by kernel_rfl) (by simp) ?_
    refine AllReadyH.cons (o := ?o0r) ?hi0r ?step0r (AllReadyH.cons (o := ?o1r) ?hi1r ?step1r (AllReadyH.cons (o := ?o3r) ?hi3r ?step3r AllReadyH.nil))
    case hi0r => (simp only [List.getElem?_toArray, List.getElem?_cons_succ, List.getElem?_cons_zero]; rfl)
    case hi1r => (simp only [List.getElem?_toArray, List.getElem?_cons_succ, List.getElem?_cons_zero]; rfl)
    case hi3r => (simp only [List.getElem?_toArray, List.getElem?_cons_succ, List.getElem?_cons_zero]; rfl)
    case step0r =>
      intro K hK
      go_simp
      have ln : W0.heap.size ≤ W0.heap.size := Nat.le_refl _
      refine hK.out _ _ (grew hHeld _) (fun hHeld => ?_)
      clear hK K
      try simp only [Act.put, List.setIfInBounds_toArray, List.set_cons_zero, List.set_cons_succ]
      have n1 : ((W0.alloc (.cells #[.int .i64 0, .slice none 0 0, .slice none 0 0, .slice none 0 0, .bool false, .int .i64 0, .slice none 0 0, .slice none 0 0, .slice none 0 0, .bool false, .int .i64 0, .slice none 0 0, .slice none 0 0, .slice none 0 0, .bool false] 49)).drew).heap[W0.heap.size]? = some (.cells #[.int .i64 0, .slice none 0 0, .slice none 0 0, .slice none 0 0, .bool false, .int .i64 0, .slice none 0 0, .slice none 0 0, .slice none 0 0, .bool false, .int .i64 0, .slice none 0 0, .slice none 0 0, .slice none 0 0, .bool false] 49) := heap_new _ _
      generalize (W0.alloc (.cells #[.int .i64 0, .slice none 0 0, .slice none 0 0, .slice none 0 0, .bool false, .int .i64 0, .slice none 0 0, .slice none 0 0, .slice none 0 0, .bool false, .int .i64 0, .slice none 0 0, .slice none 0 0, .slice none 0 0, .bool false] 49)).drew = w1 at *
      refine wpAnyH_ready (rs := [1, 3]) (by kernel_rfl) (by simp) ?_
      refine AllReadyH.cons (o := ?o1ra) ?hi1ra ?step1ra (AllReadyH.cons (o := ?o3ra) ?hi3ra ?step3ra AllReadyH.nil)
      case hi1ra => (simp only [List.getElem?_toArray, List.getElem?_cons_succ, List.getElem?_cons_zero]; rfl)
      case hi3ra => (simp only [List.getElem?_toArray, List.getElem?_cons_succ, List.getElem?_cons_zero]; rfl)
      case step1ra =>
        intro K hK
        go_simp
        have lc : W0.heap.size ≤ w1.heap.size := hHeld.size
        refine hK.out _ _ (grew hHeld _) (fun hHeld => ?_)
        clear hK K
        try simp only [Act.put, List.setIfInBounds_toArray, List.set_cons_zero, List.set_cons_succ]
        have c2 : (w1.alloc (.cells #[.int .i64 0, .int .i64 0, .int .i64 0, .int .i64 0, .int .i64 0, .int .i64 0, .int .i64 0, .int .i64 0, .int .i64 0, .int .i64 0, .slice none 0 0, .slice none 0 0, .int .i64 0, .int .i64 0, .int .i64 0, .int .i64 0, .int .i64 0, .int .i64 0, .int .i64 0, .int .i64 0, .int .i64 0, .int .i64 0, .slice none 0 0, .slice none 0 0, .int .i64 0, .int .i64 0, .int .i64 0, .int .i64 0, .int .i64 0, .int .i64 0, .int .i64 0, .int .i64 0, .int .i64 0, .int .i64 0, .slice none 0 0, .slice none 0 0] 41)).heap[w1.heap.size]? = some (.cells #[.int .i64 0, .int .i64 0, .int .i64 0, .int .i64 0, .int .i64 0, .int .i64 0, .int .i64 0, .int .i64 0, .int .i64 0, .int .i64 0, .slice none 0 0, .slice none 0 0, .int .i64 0, .int .i64 0, .int .i64 0, .int .i64 0, .int .i64 0, .int .i64 0, .int .i64 0, .int .i64 0, .int .i64 0, .int .i64 0, .slice none 0 0, .slice none 0 0, .int .i64 0, .int .i64 0, .int .i64 0, .int .i64 0, .int .i64 0, .int .i64 0, .int .i64 0, .int .i64 0, .int .i64 0, .int .i64 0, .slice none 0 0, .slice none 0 0] 41) := heap_new _ _
        have nnc : W0.heap.size ≠ w1.heap.size := by have := heap_lt n1; omega
        have n2 : _ := heap_below n1 (show Below w1.heap.size w1 (w1.alloc (.cells #[.int .i64 0, .int .i64 0, .int .i64 0, .int .i64 0, .int .i64 0, .int .i64 0, .int .i64 0, .int .i64 0, .int .i64 0, .int .i64 0, .slice none 0 0, .slice none 0 0, .int .i64 0, .int .i64 0, .int .i64 0, .int .i64 0, .int .i64 0, .int .i64 0, .int .i64 0, .int .i64 0, .int .i64 0, .int .i64 0, .slice none 0 0, .slice none 0 0, .int .i64 0, .int .i64 0, .int .i64 0, .int .i64 0, .int .i64 0, .int .i64 0, .int .i64 0, .int .i64 0, .int .i64 0, .int .i64 0, .slice none 0 0, .slice none 0 0] 41)) from grew (Below.refl _ _) _) (heap_lt n1)
        generalize w1.alloc (.cells #[.int .i64 0, .int .i64 0, .int .i64 0, .int .i64 0, .int .i64 0, .int .i64 0, .int .i64 0, .int .i64 0, .int .i64 0, .int .i64 0, .slice none 0 0, .slice none 0 0, .int .i64 0, .int .i64 0, .int .i64 0, .int .i64 0, .int .i64 0, .int .i64 0, .int .i64 0, .int .i64 0, .int .i64 0, .int .i64 0, .slice none 0 0, .slice none 0 0, .int .i64 0, .int .i64 0, .int .i64 0, .int .i64 0, .int .i64 0, .int .i64 0, .int .i64 0, .int .i64 0, .int .i64 0, .int .i64 0, .slice none 0 0, .slice none 0 0] 41) = w2 at *
        generalize w1.heap.size = dc at *
        refine wpAnyH_take (i := 2) (oi := ?oi2raa) (v := ?v2raa) ?hi2raa ?hs2raa ?hf2raa ?hr2raa ?hQ2raa (Or.inl ⟨?hw2raa, ?hy2raa⟩) (by assumption) ?h2raa
        case hi2raa => (simp only [List.getElem?_toArray, List.getElem?_cons_succ, List.getElem?_cons_zero]; rfl)
        case hs2raa => kernel_rfl
        case hf2raa => kernel_rfl
        case hr2raa => kernel_rfl
        case hw2raa => rfl
        case hy2raa => (intro w0 hSw; clear hSw; go_simp; first | done | with_reducible rfl)
        case hQ2raa => exact fun _ _ _ h => h
        try simp only [Act.put, List.setIfInBounds_toArray, List.set_cons_zero, List.set_cons_succ]
        refine wpAnyH_ready (rs := [3]) (by kernel_rfl) (by simp) ?_
        refine AllReadyH.cons (o := ?o3raa) ?hi3raa ?step3raa AllReadyH.nil
        case hi3raa => (simp only [List.getElem?_toArray, List.getElem?_cons_succ, List.getElem?_cons_zero]; rfl)
        intro K hK
        go_simp
        have lx : W0.heap.size ≤ w2.heap.size := hHeld.size
        refine hK.out _ _ (grew hHeld _) (fun hHeld => ?_)
        clear hK K
        try simp only [Act.put, List.setIfInBounds_toArray, List.set_cons_zero, List.set_cons_succ]
        have x3 : (w2.alloc (boxWZ)).heap[w2.heap.size]? = some (boxWZ) := heap_new _ _
        have nnx : W0.heap.size ≠ w2.heap.size := by have := heap_lt n2; omega
        have ncx : dc ≠ w2.heap.size := by have := heap_lt c2; omega
        have n3 : _ := heap_below n2 (show Below w2.heap.size w2 (w2.alloc (boxWZ)) from grew (Below.refl _ _) _) (heap_lt n2)
        have c3 : _ := heap_below c2 (show Below w2.heap.size w2 (w2.alloc (boxWZ)) from grew (Below.refl _ _) _) (heap_lt c2)
        generalize w2.alloc (boxWZ) = w3 at *
        generalize w2.heap.size = dx at *
        have hBB := hHeld
        have cc := fun i => Joins.cell_of_block x3 i
        have ff := fun i => Joins.unfrozen_of_block x3 i
        refine wpAnyH_ready (rs := [4]) (by kernel_rfl) (by simp) ?_
        refine AllReadyH.cons (o := ?o4raax) ?hi4raax ?step4raax AllReadyH.nil
        case hi4raax => (simp only [List.getElem?_toArray, List.getElem?_cons_succ, List.getElem?_cons_zero]; rfl)
        intro K hK
        go_simp
        refine hK.out _ _ (stW_below hHeld lx _ _ _ _) (fun hHeld => ?_)
        clear hK K
        try simp only [Act.put, List.setIfInBounds_toArray, List.set_cons_zero, List.set_cons_succ]
        refine wpAnyH_done (by kernel_rfl) ?_ _
        go_wp2_with fail
        go_meet
        case rel => exact ⟨dx, W0.heap.size, dc, rfl, nw_start n3 c3 x3 lx hBB, ln, lc, lx⟩
      case step3ra =>
        intro K hK
        go_simp
        have lx : W0.heap.size ≤ w1.heap.size := hHeld.size
        refine hK.out _ _ (grew hHeld _) (fun hHeld => ?_)
        clear hK K
        try simp only [Act.put, List.setIfInBounds_toArray, List.set_cons_zero, List.set_cons_succ]
        have x2 : (w1.alloc (boxWZ)).heap[w1.heap.size]? = some (boxWZ) := heap_new _ _
        have nnx : W0.heap.size ≠ w1.heap.size := by have := heap_lt n1; omega
        have n2 : _ := heap_below n1 (show Below w1.heap.size w1 (w1.alloc (boxWZ)) from grew (Below.refl _ _) _) (heap_lt n1)
        generalize w1.alloc (boxWZ) = w2 at *
        generalize w1.heap.size = dx at *
        refine wpAnyH_ready (rs := [1]) (by kernel_rfl) (by simp) ?_
        refine AllReadyH.cons (o := ?o1rab) ?hi1rab ?step1rab AllReadyH.nil
        case hi1rab => (simp only [List.getElem?_toArray, List.getElem?_cons_succ, List.getElem?_cons_zero]; rfl)
        intro K hK
        go_simp
        have lc : W0.heap.size ≤ w2.heap.size := hHeld.size
        refine hK.out _ _ (grew hHeld _) (fun hHeld => ?_)
        clear hK K
        try simp only [Act.put, List.setIfInBounds_toArray, List.set_cons_zero, List.set_cons_succ]
        have c3 : (w2.alloc (.cells #[.int .i64 0, .int .i64 0, .int .i64 0, .int .i64 0, .int .i64 0, .int .i64 0, .int .i64 0, .int .i64 0, .int .i64 0, .int .i64 0, .slice none 0 0, .slice none 0 0, .int .i64 0, .int .i64 0, .int .i64 0, .int .i64 0, .int .i64 0, .int .i64 0, .int .i64 0, .int .i64 0, .int .i64 0, .int .i64 0, .slice none 0 0, .slice none 0 0, .int .i64 0, .int .i64 0, .int .i64 0, .int .i64 0, .int .i64 0, .int .i64 0, .int .i64 0, .int .i64 0, .int .i64 0, .int .i64 0, .slice none 0 0, .slice none 0 0] 41)).heap[w2.heap.size]? = some (.cells #[.int .i64 0, .int .i64 0, .int .i64 0, .int .i64 0, .int .i64 0, .int .i64 0, .int .i64 0, .int .i64 0, .int .i64 0, .int .i64 0, .slice none 0 0, .slice none 0 0, .int .i64 0, .int .i64 0, .int .i64 0, .int .i64 0, .int .i64 0, .int .i64 0, .int .i64 0, .int .i64 0, .int .i64 0, .int .i64 0, .slice none 0 0, .slice none 0 0, .int .i64 0, .int .i64 0, .int .i64 0, .int .i64 0, .int .i64 0, .int .i64 0, .int .i64 0, .int .i64 0, .int .i64 0, .int .i64 0, .slice none 0 0, .slice none 0 0] 41) := heap_new _ _
        have nnc : W0.heap.size ≠ w2.heap.size := by have := heap_lt n2; omega
        have nxc : dx ≠ w2.heap.size := by have := heap_lt x2; omega
        have n3 : _ := heap_below n2 (show Below w2.heap.size w2 (w2.alloc (.cells #[.int .i64 0, .int .i64 0, .int .i64 0, .int .i64 0, .int .i64 0, .int .i64 0, .int .i64 0, .int .i64 0, .int .i64 0, .int .i64 0, .slice none 0 0, .slice none 0 0, .int .i64 0, .int .i64 0, .int .i64 0, .int .i64 0, .int .i64 0, .int .i64 0, .int .i64 0, .int .i64 0, .int .i64 0, .int .i64 0, .slice none 0 0, .slice none 0 0, .int .i64 0, .int .i64 0, .int .i64 0, .int .i64 0, .int .i64 0, .int .i64 0, .int .i64 0, .int .i64 0, .int .i64 0, .int .i64 0, .slice none 0 0, .slice none 0 0] 41)) from grew (Below.refl _ _) _) (heap_lt n2)
        have x3 : _ := heap_below x2 (show Below w2.heap.size w2 (w2.alloc (.cells #[.int .i64 0, .int .i64 0, .int .i64 0, .int .i64 0, .int .i64 0, .int .i64 0, .int .i64 0, .int .i64 0, .int .i64 0, .int .i64 0, .slice none 0 0, .slice none 0 0, .int .i64 0, .int .i64 0, .int .i64 0, .int .i64 0, .int .i64 0, .int .i64 0, .int .i64 0, .int .i64 0, .int .i64 0, .int .i64 0, .slice none 0 0, .slice none 0 0, .int .i64 0, .int .i64 0, .int .i64 0, .int .i64 0, .int .i64 0, .int .i64 0, .int .i64 0, .int .i64 0, .int .i64 0, .int .i64 0, .slice none 0 0, .slice none 0 0] 41)) from grew (Below.refl _ _) _) (heap_lt x2)
        generalize w2.alloc (.cells #[.int .i64 0, .int .i64 0, .int .i64 0, .int .i64 0, .int .i64 0, .int .i64 0, .int .i64 0, .int .i64 0, .int .i64 0, .int .i64 0, .slice none 0 0, .slice none 0 0, .int .i64 0, .int .i64 0, .int .i64 0, .int .i64 0, .int .i64 0, .int .i64 0, .int .i64 0, .int .i64 0, .int .i64 0, .int .i64 0, .slice none 0 0, .slice none 0 0, .int .i64 0, .int .i64 0, .int .i64 0, .int .i64 0, .int .i64 0, .int .i64 0, .int .i64 0, .int .i64 0, .int .i64 0, .int .i64 0, .slice none 0 0, .slice none 0 0] 41) = w3 at *
        generalize w2.heap.size = dc at *
        refine wpAnyH_take (i := 2) (oi := ?oi2rabx) (v := ?v2rabx) ?hi2rabx ?hs2rabx ?hf2rabx ?hr2rabx ?hQ2rabx (Or.inl ⟨?hw2rabx, ?hy2rabx⟩) (by assumption) ?h2rabx
        case hi2rabx => (simp only [List.getElem?_toArray, List.getElem?_cons_succ, List.getElem?_cons_zero]; rfl)
        case hs2rabx => kernel_rfl
        case hf2rabx => kernel_rfl
        case hr2rabx => kernel_rfl
        case hw2rabx => rfl
        case hy2rabx => (intro w0 hSw; clear hSw; go_simp; first | done | with_reducible rfl)
        case hQ2rabx => exact fun _ _ _ h => h
        try simp only [Act.put, List.setIfInBounds_toArray, List.set_cons_zero, List.set_cons_succ]
        have hBB := hHeld
        have cc := fun i => Joins.cell_of_block x3 i
        have ff := fun i => Joins.unfrozen_of_block x3 i
        refine wpAnyH_ready (rs := [4]) (by kernel_rfl) (by simp) ?_
        refine AllReadyH.cons (o := ?o4rabx) ?hi4rabx ?step4rabx AllReadyH.nil
        case hi4rabx => (simp only [List.getElem?_toArray, List.getElem?_cons_succ, List.getElem?_cons_zero]; rfl)
        intro K hK
        go_simp
        refine hK.out _ _ (stW_below hHeld lx _ _ _ _) (fun hHeld => ?_)
        clear hK K
        try simp only [Act.put, List.setIfInBounds_toArray, List.set_cons_zero, List.set_cons_succ]
        refine wpAnyH_done (by kernel_rfl) ?_ _
        go_wp2_with fail
        go_meet
        case rel => exact ⟨dx, W0.heap.size, dc, rfl, nw_start n3 c3 x3 lx hBB, ln, lc, lx⟩
    case step1r =>
      intro K hK
      go_simp
      have lc : W0.heap.size ≤ W0.heap.size := Nat.le_refl _
      refine hK.out _ _ (grew hHeld _) (fun hHeld => ?_)
      clear hK K
      try simp only [Act.put, List.setIfInBounds_toArray, List.set_cons_zero, List.set_cons_succ]
      have c1 : ((W0.alloc (.cells #[.int .i64 0, .int .i64 0, .int .i64 0, .int .i64 0, .int .i64 0, .int .i64 0, .int .i64 0, .int .i64 0, .int .i64 0, .int .i64 0, .slice none 0 0, .slice none 0 0, .int .i64 0, .int .i64 0, .int .i64 0, .int .i64 0, .int .i64 0, .int .i64 0, .int .i64 0, .int .i64 0, .int .i64 0, .int .i64 0, .slice none 0 0, .slice none 0 0, .int .i64 0, .int .i64 0, .int .i64 0, .int .i64 0, .int .i64 0, .int .i64 0, .int .i64 0, .int .i64 0, .int .i64 0, .int .i64 0, .slice none 0 0, .slice none 0 0] 41)).drew).heap[W0.heap.size]? = some (.cells #[.int .i64 0, .int .i64 0, .int .i64 0, .int .i64 0, .int .i64 0, .int .i64 0, .int .i64 0, .int .i64 0, .int .i64 0, .int .i64 0, .slice none 0 0, .slice none 0 0, .int .i64 0, .int .i64 0, .int .i64 0, .int .i64 0, .int .i64 0, .int .i64 0, .int .i64 0, .int .i64 0, .int .i64 0, .int .i64 0, .slice none 0 0, .slice none 0 0, .int .i64 0, .int .i64 0, .int .i64 0, .int .i64 0, .int .i64 0, .int .i64 0, .int .i64 0, .int .i64 0, .int .i64 0, .int .i64 0, .slice none 0 0, .slice none 0 0] 41) := heap_new _ _
      generalize (W0.alloc (.cells #[.int .i64 0, .int .i64 0, .int .i64 0, .int .i64 0, .int .i64 0, .int .i64 0, .int .i64 0, .int .i64 0, .int .i64 0, .int .i64 0, .slice none 0 0, .slice none 0 0, .int .i64 0, .int .i64 0, .int .i64 0, .int .i64 0, .int .i64 0, .int .i64 0, .int .i64 0, .int .i64 0, .int .i64 0, .int .i64 0, .slice none 0 0, .slice none 0 0, .int .i64 0, .int .i64 0, .int .i64 0, .int .i64 0, .int .i64 0, .int .i64 0, .int .i64 0, .int .i64 0, .int .i64 0, .int .i64 0, .slice none 0 0, .slice none 0 0] 41)).drew = w1 at *
      refine wpAnyH_ready (rs := [0, 3]) (by kernel_rfl) (by simp) ?_
      refine AllReadyH.cons (o := ?o0rb) ?hi0rb ?step0rb (AllReadyH.cons (o := ?o3rb) ?hi3rb ?step3rb AllReadyH.nil)
      case hi0rb => (simp only [List.getElem?_toArray, List.getElem?_cons_succ, List.getElem?_cons_zero]; rfl)
      case hi3rb => (simp only [List.getElem?_toArray, List.getElem?_cons_succ, List.getElem?_cons_zero]; rfl)
      case step0rb =>
        intro K hK
        go_simp
        have ln : W0.heap.size ≤ w1.heap.size := hHeld.size
        refine hK.out _ _ (grew hHeld _) (fun hHeld => ?_)
        clear hK K
        try simp only [Act.put, List.setIfInBounds_toArray, List.set_cons_zero, List.set_cons_succ]
        have n2 : (w1.alloc (.cells #[.int .i64 0, .slice none 0 0, .slice none 0 0, .slice none 0 0, .bool false, .int .i64 0, .slice none 0 0, .slice none 0 0, .slice none 0 0, .bool false, .int .i64 0, .slice none 0 0, .slice none 0 0, .slice none 0 0, .bool false] 49)).heap[w1.heap.size]? = some (.cells #[.int .i64 0, .slice none 0 0, .slice none 0 0, .slice none 0 0, .bool false, .int .i64 0, .slice none 0 0, .slice none 0 0, .slice none 0 0, .bool false, .int .i64 0, .slice none 0 0, .slice none 0 0, .slice none 0 0, .bool false] 49) := heap_new _ _
        have ncn : W0.heap.size ≠ w1.heap.size := by have := heap_lt c1; omega
        have c2 : _ := heap_below c1 (show Below w1.heap.size w1 (w1.alloc (.cells #[.int .i64 0, .slice none 0 0, .slice none 0 0, .slice none 0 0, .bool false, .int .i64 0, .slice none 0 0, .slice none 0 0, .slice none 0 0, .bool false, .int .i64 0, .slice none 0 0, .slice none 0 0, .slice none 0 0, .bool false] 49)) from grew (Below.refl _ _) _) (heap_lt c1)
        generalize w1.alloc (.cells #[.int .i64 0, .slice none 0 0, .slice none 0 0, .slice none 0 0, .bool false, .int .i64 0, .slice none 0 0, .slice none 0 0, .slice none 0 0, .bool false, .int .i64 0, .slice none 0 0, .slice none 0 0, .slice none 0 0, .bool false] 49) = w2 at *
        generalize w1.heap.size = dn at *
        refine wpAnyH_take (i := 2) (oi := ?oi2rba) (v := ?v2rba) ?hi2rba ?hs2rba ?hf2rba ?hr2rba ?hQ2rba (Or.inl ⟨?hw2rba, ?hy2rba⟩) (by assumption) ?h2rba
        case hi2rba => (simp only [List.getElem?_toArray, List.getElem?_cons_succ, List.getElem?_cons_zero]; rfl)
        case hs2rba => kernel_rfl
        case hf2rba => kernel_rfl
        case hr2rba => kernel_rfl
        case hw2rba => rfl
        case hy2rba => (intro w0 hSw; clear hSw; go_simp; first | done | with_reducible rfl)
        case hQ2rba => exact fun _ _ _ h => h
        try simp only [Act.put, List.setIfInBounds_toArray, List.set_cons_zero, List.set_cons_succ]
        refine wpAnyH_ready (rs := [3]) (by kernel_rfl) (by simp) ?_
        refine AllReadyH.cons (o := ?o3rba) ?hi3rba ?step3rba AllReadyH.nil
        case hi3rba => (simp only [List.getElem?_toArray, List.getElem?_cons_succ, List.getElem?_cons_zero]; rfl)
        intro K hK
        go_simp
        have lx : W0.heap.size ≤ w2.heap.size := hHeld.size
        refine hK.out _ _ (grew hHeld _) (fun hHeld => ?_)
        clear hK K
        try simp only [Act.put, List.setIfInBounds_toArray, List.set_cons_zero, List.set_cons_succ]
        have x3 : (w2.alloc (boxWZ)).heap[w2.heap.size]? = some (boxWZ) := heap_new _ _
        have ncx : W0.heap.size ≠ w2.heap.size := by have := heap_lt c2; omega
        have nnx : dn ≠ w2.heap.size := by have := heap_lt n2; omega
        have c3 : _ := heap_below c2 (show Below w2.heap.size w2 (w2.alloc (boxWZ)) from grew (Below.refl _ _) _) (heap_lt c2)
        have n3 : _ := heap_below n2 (show Below w2.heap.size w2 (w2.alloc (boxWZ)) from grew (Below.refl _ _) _) (heap_lt n2)
        generalize w2.alloc (boxWZ) = w3 at *
        generalize w2.heap.size = dx at *
        have hBB := hHeld
        have cc := fun i => Joins.cell_of_block x3 i
        have ff := fun i => Joins.unfrozen_of_block x3 i
        refine wpAnyH_ready (rs := [4]) (by kernel_rfl) (by simp) ?_
        refine AllReadyH.cons (o := ?o4rbax) ?hi4rbax ?step4rbax AllReadyH.nil
        case hi4rbax => (simp only [List.getElem?_toArray, List.getElem?_cons_succ, List.getElem?_cons_zero]; rfl)
        intro K hK
        go_simp
        refine hK.out _ _ (stW_below hHeld lx _ _ _ _) (fun hHeld => ?_)
        clear hK K
        try simp only [Act.put, List.setIfInBounds_toArray, List.set_cons_zero, List.set_cons_succ]
        refine wpAnyH_done (by kernel_rfl) ?_ _
        go_wp2_with fail
        go_meet
        case rel => exact ⟨dx, dn, W0.heap.size, rfl, nw_start n3 c3 x3 lx hBB, ln, lc, lx⟩
      case step3rb =>
        intro K hK
        go_simp
        have lx : W0.heap.size ≤ w1.heap.size := hHeld.size
        refine hK.out _ _ (grew hHeld _) (fun hHeld => ?_)
        clear hK K
        try simp only [Act.put, List.setIfInBounds_toArray, List.set_cons_zero, List.set_cons_succ]
        have x2 : (w1.alloc (boxWZ)).heap[w1.heap.size]? = some (boxWZ) := heap_new _ _
        have ncx : W0.heap.size ≠ w1.heap.size := by have := heap_lt c1; omega
        have c2 : _ := heap_below c1 (show Below w1.heap.size w1 (w1.alloc (boxWZ)) from grew (Below.refl _ _) _) (heap_lt c1)
        generalize w1.alloc (boxWZ) = w2 at *
        generalize w1.heap.size = dx at *
        refine wpAnyH_ready (rs := [0]) (by kernel_rfl) (by simp) ?_
        refine AllReadyH.cons (o := ?o0rbb) ?hi0rbb ?step0rbb AllReadyH.nil
        case hi0rbb => (simp only [List.getElem?_toArray, List.getElem?_cons_succ, List.getElem?_cons_zero]; rfl)
        intro K hK
        go_simp
        have ln : W0.heap.size ≤ w2.heap.size := hHeld.size
        refine hK.out _ _ (grew hHeld _) (fun hHeld => ?_)
        clear hK K
        try simp only [Act.put, List.setIfInBounds_toArray, List.set_cons_zero, List.set_cons_succ]
        have n3 : (w2.alloc (.cells #[.int .i64 0, .slice none 0 0, .slice none 0 0, .slice none 0 0, .bool false, .int .i64 0, .slice none 0 0, .slice none 0 0, .slice none 0 0, .bool false, .int .i64 0, .slice none 0 0, .slice none 0 0, .slice none 0 0, .bool false] 49)).heap[w2.heap.size]? = some (.cells #[.int .i64 0, .slice none 0 0, .slice none 0 0, .slice none 0 0, .bool false, .int .i64 0, .slice none 0 0, .slice none 0 0, .slice none 0 0, .bool false, .int .i64 0, .slice none 0 0, .slice none 0 0, .slice none 0 0, .bool false] 49) := heap_new _ _
        have ncn : W0.heap.size ≠ w2.heap.size := by have := heap_lt c2; omega
        have nxn : dx ≠ w2.heap.size := by have := heap_lt x2; omega
        have c3 : _ := heap_below c2 (show Below w2.heap.size w2 (w2.alloc (.cells #[.int .i64 0, .slice none 0 0, .slice none 0 0, .slice none 0 0, .bool false, .int .i64 0, .slice none 0 0, .slice none 0 0, .slice none 0 0, .bool false, .int .i64 0, .slice none 0 0, .slice none 0 0, .slice none 0 0, .bool false] 49)) from grew (Below.refl _ _) _) (heap_lt c2)
        have x3 : _ := heap_below x2 (show Below w2.heap.size w2 (w2.alloc (.cells #[.int .i64 0, .slice none 0 0, .slice none 0 0, .slice none 0 0, .bool false, .int .i64 0, .slice none 0 0, .slice none 0 0, .slice none 0 0, .bool false, .int .i64 0, .slice none 0 0, .slice none 0 0, .slice none 0 0, .bool false] 49)) from grew (Below.refl _ _) _) (heap_lt x2)
        generalize w2.alloc (.cells #[.int .i64 0, .slice none 0 0, .slice none 0 0, .slice none 0 0, .bool false, .int .i64 0, .slice none 0 0, .slice none 0 0, .slice none 0 0, .bool false, .int .i64 0, .slice none 0 0, .slice none 0 0, .slice none 0 0, .bool false] 49) = w3 at *
        generalize w2.heap.size = dn at *
        refine wpAnyH_take (i := 2) (oi := ?oi2rbbx) (v := ?v2rbbx) ?hi2rbbx ?hs2rbbx ?hf2rbbx ?hr2rbbx ?hQ2rbbx (Or.inl ⟨?hw2rbbx, ?hy2rbbx⟩) (by assumption) ?h2rbbx
        case hi2rbbx => (simp only [List.getElem?_toArray, List.getElem?_cons_succ, List.getElem?_cons_zero]; rfl)
        case hs2rbbx => kernel_rfl
        case hf2rbbx => kernel_rfl
        case hr2rbbx => kernel_rfl
        case hw2rbbx => rfl
        case hy2rbbx => (intro w0 hSw; clear hSw; go_simp; first | done | with_reducible rfl)
        case hQ2rbbx => exact fun _ _ _ h => h
        try simp only [Act.put, List.setIfInBounds_toArray, List.set_cons_zero, List.set_cons_succ]
        have hBB := hHeld
        have cc := fun i => Joins.cell_of_block x3 i
        have ff := fun i => Joins.unfrozen_of_block x3 i
        refine wpAnyH_ready (rs := [4]) (by kernel_rfl) (by simp) ?_
        refine AllReadyH.cons (o := ?o4rbbx) ?hi4rbbx ?step4rbbx AllReadyH.nil
        case hi4rbbx => (simp only [List.getElem?_toArray, List.getElem?_cons_succ, List.getElem?_cons_zero]; rfl)
        intro K hK
        go_simp
        refine hK.out _ _ (stW_below hHeld lx _ _ _ _) (fun hHeld => ?_)
        clear hK K
        try simp only [Act.put, List.setIfInBounds_toArray, List.set_cons_zero, List.set_cons_succ]
        refine wpAnyH_done (by kernel_rfl) ?_ _
        go_wp2_with fail
        go_meet
        case rel => exact ⟨dx, dn, W0.heap.size, rfl, nw_start n3 c3 x3 lx hBB, ln, lc, lx⟩
    case step3r =>
      intro K hK
      go_simp
      have lx : W0.heap.size ≤ W0.heap.size := Nat.le_refl _
      refine hK.out _ _ (grew hHeld _) (fun hHeld => ?_)
      clear hK K
      try simp only [Act.put, List.setIfInBounds_toArray, List.set_cons_zero, List.set_cons_succ]
      have x1 : ((W0.alloc (boxWZ)).drew).heap[W0.heap.size]? = some (boxWZ) := heap_new _ _
      generalize (W0.alloc (boxWZ)).drew = w1 at *
      refine wpAnyH_ready (rs := [0, 1]) (by kernel_rfl) (by simp) ?_
      refine AllReadyH.cons (o := ?o0rc) ?hi0rc ?step0rc (AllReadyH.cons (o := ?o1rc) ?hi1rc ?step1rc AllReadyH.nil)
      case hi0rc => (simp only [List.getElem?_toArray, List.getElem?_cons_succ, List.getElem?_cons_zero]; rfl)
      case hi1rc => (simp only [List.getElem?_toArray, List.getElem?_cons_succ, List.getElem?_cons_zero]; rfl)
      case step0rc =>
        intro K hK
        go_simp
        have ln : W0.heap.size ≤ w1.heap.size := hHeld.size
        refine hK.out _ _ (grew hHeld _) (fun hHeld => ?_)
        clear hK K
        try simp only [Act.put, List.setIfInBounds_toArray, List.set_cons_zero, List.set_cons_succ]
        have n2 : (w1.alloc (.cells #[.int .i64 0, .slice none 0 0, .slice none 0 0, .slice none 0 0, .bool false, .int .i64 0, .slice none 0 0, .slice none 0 0, .slice none 0 0, .bool false, .int .i64 0, .slice none 0 0, .slice none 0 0, .slice none 0 0, .bool false] 49)).heap[w1.heap.size]? = some (.cells #[.int .i64 0, .slice none 0 0, .slice none 0 0, .slice none 0 0, .bool false, .int .i64 0, .slice none 0 0, .slice none 0 0, .slice none 0 0, .bool false, .int .i64 0, .slice none 0 0, .slice none 0 0, .slice none 0 0, .bool false] 49) := heap_new _ _
        have nxn : W0.heap.size ≠ w1.heap.size := by have := heap_lt x1; omega
        have x2 : _ := heap_below x1 (show Below w1.heap.size w1 (w1.alloc (.cells #[.int .i64 0, .slice none 0 0, .slice none 0 0, .slice none 0 0, .bool false, .int .i64 0, .slice none 0 0, .slice none 0 0, .slice none 0 0, .bool false, .int .i64 0, .slice none 0 0, .slice none 0 0, .slice none 0 0, .bool false] 49)) from grew (Below.refl _ _) _) (heap_lt x1)
        generalize w1.alloc (.cells #[.int .i64 0, .slice none 0 0, .slice none 0 0, .slice none 0 0, .bool false, .int .i64 0, .slice none 0 0, .slice none 0 0, .slice none 0 0, .bool false, .int .i64 0, .slice none 0 0, .slice none 0 0, .slice none 0 0, .bool false] 49) = w2 at *
        generalize w1.heap.size = dn at *
        refine wpAnyH_ready (rs := [1]) (by kernel_rfl) (by simp) ?_
        refine AllReadyH.cons (o := ?o1rca) ?hi1rca ?step1rca AllReadyH.nil
        case hi1rca => (simp only [List.getElem?_toArray, List.getElem?_cons_succ, List.getElem?_cons_zero]; rfl)
        intro K hK
        go_simp
        have lc : W0.heap.size ≤ w2.heap.size := hHeld.size
        refine hK.out _ _ (grew hHeld _) (fun hHeld => ?_)
        clear hK K
        try simp only [Act.put, List.setIfInBounds_toArray, List.set_cons_zero, List.set_cons_succ]
        have c3 : (w2.alloc (.cells #[.int .i64 0, .int .i64 0, .int .i64 0, .int .i64 0, .int .i64 0, .int .i64 0, .int .i64 0, .int .i64 0, .int .i64 0, .int .i64 0, .slice none 0 0, .slice none 0 0, .int .i64 0, .int .i64 0, .int .i64 0, .int .i64 0, .int .i64 0, .int .i64 0, .int .i64 0, .int .i64 0, .int .i64 0, .int .i64 0, .slice none 0 0, .slice none 0 0, .int .i64 0, .int .i64 0, .int .i64 0, .int .i64 0, .int .i64 0, .int .i64 0, .int .i64 0, .int .i64 0, .int .i64 0, .int .i64 0, .slice none 0 0, .slice none 0 0] 41)).heap[w2.heap.size]? = some (.cells #[.int .i64 0, .int .i64 0, .int .i64 0, .int .i64 0, .int .i64 0, .int .i64 0, .int .i64 0, .int .i64 0, .int .i64 0, .int .i64 0, .slice none 0 0, .slice none 0 0, .int .i64 0, .int .i64 0, .int .i64 0, .int .i64 0, .int .i64 0, .int .i64 0, .int .i64 0, .int .i64 0, .int .i64 0, .int .i64 0, .slice none 0 0, .slice none 0 0, .int .i64 0, .int .i64 0, .int .i64 0, .int .i64 0, .int .i64 0, .int .i64 0, .int .i64 0, .int .i64 0, .int .i64 0, .int .i64 0, .slice none 0 0, .slice none 0 0] 41) := heap_new _ _
        have nxc : W0.heap.size ≠ w2.heap.size := by have := heap_lt x2; omega
        have nnc : dn ≠ w2.heap.size := by have := heap_lt n2; omega
        have x3 : _ := heap_below x2 (show Below w2.heap.size w2 (w2.alloc (.cells #[.int .i64 0, .int .i64 0, .int .i64 0, .int .i64 0, .int .i64 0, .int .i64 0, .int .i64 0, .int .i64 0, .int .i64 0, .int .i64 0, .slice none 0 0, .slice none 0 0, .int .i64 0, .int .i64 0, .int .i64 0, .int .i64 0, .int .i64 0, .int .i64 0, .int .i64 0, .int .i64 0, .int .i64 0, .int .i64 0, .slice none 0 0, .slice none 0 0, .int .i64 0, .int .i64 0, .int .i64 0, .int .i64 0, .int .i64 0, .int .i64 0, .int .i64 0, .int .i64 0, .int .i64 0, .int .i64 0, .slice none 0 0, .slice none 0 0] 41)) from grew (Below.refl _ _) _) (heap_lt x2)
        have n3 : _ := heap_below n2 (show Below w2.heap.size w2 (w2.alloc (.cells #[.int .i64 0, .int .i64 0, .int .i64 0, .int .i64 0, .int .i64 0, .int .i64 0, .int .i64 0, .int .i64 0, .int .i64 0, .int .i64 0, .slice none 0 0, .slice none 0 0, .int .i64 0, .int .i64 0, .int .i64 0, .int .i64 0, .int .i64 0, .int .i64 0, .int .i64 0, .int .i64 0, .int .i64 0, .int .i64 0, .slice none 0 0, .slice none 0 0, .int .i64 0, .int .i64 0, .int .i64 0, .int .i64 0, .int .i64 0, .int .i64 0, .int .i64 0, .int .i64 0, .int .i64 0, .int .i64 0, .slice none 0 0, .slice none 0 0] 41)) from grew (Below.refl _ _) _) (heap_lt n2)
        generalize w2.alloc (.cells #[.int .i64 0, .int .i64 0, .int .i64 0, .int .i64 0, .int .i64 0, .int .i64 0, .int .i64 0, .int .i64 0, .int .i64 0, .int .i64 0, .slice none 0 0, .slice none 0 0, .int .i64 0, .int .i64 0, .int .i64 0, .int .i64 0, .int .i64 0, .int .i64 0, .int .i64 0, .int .i64 0, .int .i64 0, .int .i64 0, .slice none 0 0, .slice none 0 0, .int .i64 0, .int .i64 0, .int .i64 0, .int .i64 0, .int .i64 0, .int .i64 0, .int .i64 0, .int .i64 0, .int .i64 0, .int .i64 0, .slice none 0 0, .slice none 0 0] 41) = w3 at *
        generalize w2.heap.size = dc at *
        refine wpAnyH_take (i := 2) (oi := ?oi2rcax) (v := ?v2rcax) ?hi2rcax ?hs2rcax ?hf2rcax ?hr2rcax ?hQ2rcax (Or.inl ⟨?hw2rcax, ?hy2rcax⟩) (by assumption) ?h2rcax
        case hi2rcax => (simp only [List.getElem?_toArray, List.getElem?_cons_succ, List.getElem?_cons_zero]; rfl)
        case hs2rcax => kernel_rfl
        case hf2rcax => kernel_rfl
        case hr2rcax => kernel_rfl
        case hw2rcax => rfl
        case hy2rcax => (intro w0 hSw; clear hSw; go_simp; first | done | with_reducible rfl)
        case hQ2rcax => exact fun _ _ _ h => h
        try simp only [Act.put, List.setIfInBounds_toArray, List.set_cons_zero, List.set_cons_succ]
        have hBB := hHeld
        have cc := fun i => Joins.cell_of_block x3 i
        have ff := fun i => Joins.unfrozen_of_block x3 i
        refine wpAnyH_ready (rs := [4]) (by kernel_rfl) (by simp) ?_
        refine AllReadyH.cons (o := ?o4rcax) ?hi4rcax ?step4rcax AllReadyH.nil
        case hi4rcax => (simp only [List.getElem?_toArray, List.getElem?_cons_succ, List.getElem?_cons_zero]; rfl)
        intro K hK
        go_simp
        refine hK.out _ _ (stW_below hHeld lx _ _ _ _) (fun hHeld => ?_)
        clear hK K
        try simp only [Act.put, List.setIfInBounds_toArray, List.set_cons_zero, List.set_cons_succ]
        refine wpAnyH_done (by kernel_rfl) ?_ _
        go_wp2_with fail
        go_meet
        case rel => exact ⟨W0.heap.size, dn, dc, rfl, nw_start n3 c3 x3 lx hBB, ln, lc, lx⟩
      case step1rc =>
        intro K hK
        go_simp
        have lc : W0.heap.size ≤ w1.heap.size := hHeld.size
        refine hK.out _ _ (grew hHeld _) (fun hHeld => ?_)
        clear hK K
        try simp only [Act.put, List.setIfInBounds_toArray, List.set_cons_zero, List.set_cons_succ]
        have c2 : (w1.alloc (.cells #[.int .i64 0, .int .i64 0, .int .i64 0, .int .i64 0, .int .i64 0, .int .i64 0, .int .i64 0, .int .i64 0, .int .i64 0, .int .i64 0, .slice none 0 0, .slice none 0 0, .int .i64 0, .int .i64 0, .int .i64 0, .int .i64 0, .int .i64 0, .int .i64 0, .int .i64 0, .int .i64 0, .int .i64 0, .int .i64 0, .slice none 0 0, .slice none 0 0, .int .i64 0, .int .i64 0, .int .i64 0, .int .i64 0, .int .i64 0, .int .i64 0, .int .i64 0, .int .i64 0, .int .i64 0, .int .i64 0, .slice none 0 0, .slice none 0 0] 41)).heap[w1.heap.size]? = some (.cells #[.int .i64 0, .int .i64 0, .int .i64 0, .int .i64 0, .int .i64 0, .int .i64 0, .int .i64 0, .int .i64 0, .int .i64 0, .int .i64 0, .slice none 0 0, .slice none 0 0, .int .i64 0, .int .i64 0, .int .i64 0, .int .i64 0, .int .i64 0, .int .i64 0, .int .i64 0, .int .i64 0, .int .i64 0, .int .i64 0, .slice none 0 0, .slice none 0 0, .int .i64 0, .int .i64 0, .int .i64 0, .int .i64 0, .int .i64 0, .int .i64 0, .int .i64 0, .int .i64 0, .int .i64 0, .int .i64 0, .slice none 0 0, .slice none 0 0] 41) := heap_new _ _
        have nxc : W0.heap.size ≠ w1.heap.size := by have := heap_lt x1; omega
        have x2 : _ := heap_below x1 (show Below w1.heap.size w1 (w1.alloc (.cells #[.int .i64 0, .int .i64 0, .int .i64 0, .int .i64 0, .int .i64 0, .int .i64 0, .int .i64 0, .int .i64 0, .int .i64 0, .int .i64 0, .slice none 0 0, .slice none 0 0, .int .i64 0, .int .i64 0, .int .i64 0, .int .i64 0, .int .i64 0, .int .i64 0, .int .i64 0, .int .i64 0, .int .i64 0, .int .i64 0, .slice none 0 0, .slice none 0 0, .int .i64 0, .int .i64 0, .int .i64 0, .int .i64 0, .int .i64 0, .int .i64 0, .int .i64 0, .int .i64 0, .int .i64 0, .int .i64 0, .slice none 0 0, .slice none 0 0] 41)) from grew (Below.refl _ _) _) (heap_lt x1)
        generalize w1.alloc (.cells #[.int .i64 0, .int .i64 0, .int .i64 0, .int .i64 0, .int .i64 0, .int .i64 0, .int .i64 0, .int .i64 0, .int .i64 0, .int .i64 0, .slice none 0 0, .slice none 0 0, .int .i64 0, .int .i64 0, .int .i64 0, .int .i64 0, .int .i64 0, .int .i64 0, .int .i64 0, .int .i64 0, .int .i64 0, .int .i64 0, .slice none 0 0, .slice none 0 0, .int .i64 0, .int .i64 0, .int .i64 0, .int .i64 0, .int .i64 0, .int .i64 0, .int .i64 0, .int .i64 0, .int .i64 0, .int .i64 0, .slice none 0 0, .slice none 0 0] 41) = w2 at *
        generalize w1.heap.size = dc at *
        refine wpAnyH_ready (rs := [0]) (by kernel_rfl) (by simp) ?_
        refine AllReadyH.cons (o := ?o0rcb) ?hi0rcb ?step0rcb AllReadyH.nil
        case hi0rcb => (simp only [List.getElem?_toArray, List.getElem?_cons_succ, List.getElem?_cons_zero]; rfl)
        intro K hK
        go_simp
        have ln : W0.heap.size ≤ w2.heap.size := hHeld.size
        refine hK.out _ _ (grew hHeld _) (fun hHeld => ?_)
        clear hK K
        try simp only [Act.put, List.setIfInBounds_toArray, List.set_cons_zero, List.set_cons_succ]
        have n3 : (w2.alloc (.cells #[.int .i64 0, .slice none 0 0, .slice none 0 0, .slice none 0 0, .bool false, .int .i64 0, .slice none 0 0, .slice none 0 0, .slice none 0 0, .bool false, .int .i64 0, .slice none 0 0, .slice none 0 0, .slice none 0 0, .bool false] 49)).heap[w2.heap.size]? = some (.cells #[.int .i64 0, .slice none 0 0, .slice none 0 0, .slice none 0 0, .bool false, .int .i64 0, .slice none 0 0, .slice none 0 0, .slice none 0 0, .bool false, .int .i64 0, .slice none 0 0, .slice none 0 0, .slice none 0 0, .bool false] 49) := heap_new _ _
        have nxn : W0.heap.size ≠ w2.heap.size := by have := heap_lt x2; omega
        have ncn : dc ≠ w2.heap.size := by have := heap_lt c2; omega
        have x3 : _ := heap_below x2 (show Below w2.heap.size w2 (w2.alloc (.cells #[.int .i64 0, .slice none 0 0, .slice none 0 0, .slice none 0 0, .bool false, .int .i64 0, .slice none 0 0, .slice none 0 0, .slice none 0 0, .bool false, .int .i64 0, .slice none 0 0, .slice none 0 0, .slice none 0 0, .bool false] 49)) from grew (Below.refl _ _) _) (heap_lt x2)
        have c3 : _ := heap_below c2 (show Below w2.heap.size w2 (w2.alloc (.cells #[.int .i64 0, .slice none 0 0, .slice none 0 0, .slice none 0 0, .bool false, .int .i64 0, .slice none 0 0, .slice none 0 0, .slice none 0 0, .bool false, .int .i64 0, .slice none 0 0, .slice none 0 0, .slice none 0 0, .bool false] 49)) from grew (Below.refl _ _) _) (heap_lt c2)
        generalize w2.alloc (.cells #[.int .i64 0, .slice none 0 0, .slice none 0 0, .slice none 0 0, .bool false, .int .i64 0, .slice none 0 0, .slice none 0 0, .slice none 0 0, .bool false, .int .i64 0, .slice none 0 0, .slice none 0 0, .slice none 0 0, .bool false] 49) = w3 at *
        generalize w2.heap.size = dn at *
        refine wpAnyH_take (i := 2) (oi := ?oi2rcbx) (v := ?v2rcbx) ?hi2rcbx ?hs2rcbx ?hf2rcbx ?hr2rcbx ?hQ2rcbx (Or.inl ⟨?hw2rcbx, ?hy2rcbx⟩) (by assumption) ?h2rcbx
        case hi2rcbx => (simp only [List.getElem?_toArray, List.getElem?_cons_succ, List.getElem?_cons_zero]; rfl)
        case hs2rcbx => kernel_rfl
        case hf2rcbx => kernel_rfl
        case hr2rcbx => kernel_rfl
        case hw2rcbx => rfl
        case hy2rcbx => (intro w0 hSw; clear hSw; go_simp; first | done | with_reducible rfl)
        case hQ2rcbx => exact fun _ _ _ h => h
        try simp only [Act.put, List.setIfInBounds_toArray, List.set_cons_zero, List.set_cons_succ]
        have hBB := hHeld
        have cc := fun i => Joins.cell_of_block x3 i
        have ff := fun i => Joins.unfrozen_of_block x3 i
        refine wpAnyH_ready (rs := [4]) (by kernel_rfl) (by simp) ?_
        refine AllReadyH.cons (o := ?o4rcbx) ?hi4rcbx ?step4rcbx AllReadyH.nil
        case hi4rcbx => (simp only [List.getElem?_toArray, List.getElem?_cons_succ, List.getElem?_cons_zero]; rfl)
        intro K hK
        go_simp
        refine hK.out _ _ (stW_below hHeld lx _ _ _ _) (fun hHeld => ?_)
        clear hK K
        try simp only [Act.put, List.setIfInBounds_toArray, List.set_cons_zero, List.set_cons_succ]
        refine wpAnyH_done (by kernel_rfl) ?_ _
        go_wp2_with fail
        go_meet
        case rel => exact ⟨W0.heap.size, dn, dc, rfl, nw_start n3 c3 x3 lx hBB, ln, lc, lx⟩
  case rest =>
    obtain ⟨b, g1, g2, rfl, hE, l1, l2, lb⟩ := hcut
    have HE : Aside (Nw1 W0 wc b g1 g2 0) := hE
    have HGW : Hid (W0.heap.size ≤ b ∧ W0.heap.size ≤ g1 ∧ W0.heap.size ≤ g2) := ⟨lb, l1, l2⟩
    have zb : ∀ i, wc.cell? ⟨b, i, none⟩ = #[Value.slice (some ⟨g1, 0, none⟩) 3 3, .int .i64 0, .slice (some ⟨g2, 0, none⟩) 3 3, .int .i64 0][i]? := fun i => by
      obtain ⟨ys, _, hS, _⟩ := hE
      exact Joins.cell_of_block hS.box i
    clear hE l1 l2 lb hmkN hmkC
    go_wp2
    clear zb
    go_loopw [10] (fun i wr => ∃ k : Nat, k ≤ 3 ∧ i = .int .i64 k ∧ Nw1 W0 wr b g1 g2 k) (fun i _ => 3 - (intOf i).toNat)
    case atStart => exact ⟨0, Nat.zero_le _, rfl, HE.out⟩
    case round =>
      clear HE
      obtain ⟨k, hk, rfl, hrelN⟩ := hrel
      by_cases hlt : k < 3
      · obtain ⟨ys, hyl, hS, hnn⟩ := hrelN
        obtain ⟨x, hx⟩ : ∃ x, ys[k]? = some x := ⟨ys[k]'(by omega), List.getElem?_eq_getElem _⟩
        have HY : Aside (ys.length = 3 ∧ ys[k]? = some x ∧ ∀ i y, i < k → ys[i]? = some y → y.n = nnew) := ⟨hyl, hx, hnn⟩
        have HS : Aside (WSt W0 wr.drew b g1 g2 (ys.flatMap Nb.cells) 0 ([cbZ, cbZ, cbZ].flatMap Cb.cells) 0 (ys.take k) []) := hS.later (Below.refl _ _).drew
        have hki : (k : Int) < 3 := by omega
        have hk0 : (0 : Int) ≤ (k : Int) := by omega
        clear hyl hS hnn hx
        go_upto_region 5 with fail
        refine wp_region_noPanic ?_
        refine region_L (fun w' => Below wr.drew.heap.size wr.drew w') 6 (by kernel_rfl) (Below.refl _ _) (fun hHeld => ?_)
        generalize wr.drew = w1 at *
        refine anyL_take (i := 0) (v := ?_) rfl (by kernel_rfl) (by kernel_rfl) (by kernel_rfl) (by kernel_rfl) (by kernel_rfl) (fun _ _ _ h => h) (Or.inl ⟨by rfl, ?_⟩) (by assumption) ?_
        rotate_left
        · (intro w0 hSw; clear hSw; go_simp; first | done | with_reducible rfl)
        try simp only [Act.put, List.setIfInBounds_toArray, List.set_cons_zero, List.set_cons_succ]
        refine anyL_take (i := 1) (v := ?_) rfl (by kernel_rfl) (by kernel_rfl) (by kernel_rfl) (by kernel_rfl) (by kernel_rfl) (fun _ _ _ h => h) (Or.inl ⟨by rfl, ?_⟩) (by assumption) ?_
        rotate_left
        · (intro w0 hSw; have zb := (show ∀ i, w0.cell? ⟨b, i, none⟩ = #[Value.slice (some ⟨g1, 0, none⟩) 3 3, .int .i64 0, .slice (some ⟨g2, 0, none⟩) 3 3, .int .i64 0][i]? from fun i => Joins.cell_of_block (heap_below HS.out.box hSw (heap_lt HS.out.box)) i); clear hSw; go_simp; first | done | with_reducible rfl)
        try simp only [Act.put, List.setIfInBounds_toArray, List.set_cons_zero, List.set_cons_succ]
        refine anyL_take (i := 2) (v := ?_) rfl (by kernel_rfl) (by kernel_rfl) (by kernel_rfl) (by kernel_rfl) (by kernel_rfl) (fun _ _ _ h => h) (Or.inl ⟨by rfl, ?_⟩) (by assumption) ?_
        rotate_left
        · (intro w0 hSw; clear hSw; go_simp; first | done | with_reducible rfl)
        try simp only [Act.put, List.setIfInBounds_toArray, List.set_cons_zero, List.set_cons_succ]
        refine anyL_one (i := 3) (by kernel_rfl) rfl (fun K hK => ?_)
        go_simp
        refine (unitNew_own _).mono ?_
        rintro e w2 ⟨g, rfl, hg0, hg, hb2⟩
        have S2 : Aside _ := HS.out.later hb2
        have G2 : Aside (w2.heap[g]? = some (.cells (unew.cells.flatMap En.cells).toArray 27)) := by rwa [List.append_nil] at hg
        have hH2 := step_below1 hHeld hb2
        refine hK.out _ _ (fun _ => hH2) (fun hNext => ?_)
        replace hNext := hNext (by kernel_rfl)
        clear hK K hb2 hg hg0 HS hHeld hH2
        try simp only [Act.put, List.setIfInBounds_toArray, List.set_cons_zero, List.set_cons_succ]
        refine anyL_take (i := 4) (v := ?_) rfl (by kernel_rfl) (by kernel_rfl) (by kernel_rfl) (by kernel_rfl) (by kernel_rfl) (fun _ _ _ h => h) (Or.inl ⟨by rfl, ?_⟩) (by assumption) ?_
        rotate_left
        · (intro w0 hSw; clear hSw; go_simp; first | done | with_reducible rfl)
        try simp only [Act.put, List.setIfInBounds_toArray, List.set_cons_zero, List.set_cons_succ]
        refine anyL_take (i := 5) (v := ?_) rfl (by kernel_rfl) (by kernel_rfl) (by kernel_rfl) (by kernel_rfl) (by kernel_rfl) (fun _ _ _ h => h) (Or.inl ⟨by rfl, ?_⟩) (by assumption) ?_
        rotate_left
        · (intro w0 hSw; clear hSw; go_simp; first | done | with_reducible rfl)
        try simp only [Act.put, List.setIfInBounds_toArray, List.set_cons_zero, List.set_cons_succ]
        have yc : ∀ i : Nat, i < 5 → ∃ v, w2.cell? ⟨g1, k * 5 + i, none⟩ = some v := fun i hi => by
          have hz := (S2.out.nrow)
          have hn := S2.out.nlen
          rw [Joins.cell_of_block hz]
          refine ⟨(ys.flatMap Nb.cells)[k * 5 + i]'(by omega), ?_⟩
          rw [List.getElem?_toArray, List.getElem?_eq_getElem]
        obtain ⟨v0, y0⟩ := yc 0 (by omega)
        obtain ⟨v1, y1⟩ := yc 1 (by omega)
        obtain ⟨v2, y2⟩ := yc 2 (by omega)
        obtain ⟨v3, y3⟩ := yc 3 (by omega)
        obtain ⟨v4, y4⟩ := yc 4 (by omega)
        rw [Nat.add_zero] at y0
        clear yc
        have fy : ∀ i, w2.frozen? ⟨g1, i, none⟩ = false := fun i => Joins.unfrozen_of_block S2.out.nrow i
        refine anyL_one (i := 6) (by kernel_rfl) rfl (fun K hK => ?_)
        go_simp
        refine hK.out _ _ (fun h => absurd h (by decide +kernel)) (fun _ => ?_)
        clear hK K y0 y1 y2 y3 y4 fy
        try simp only [Act.put, List.setIfInBounds_toArray, List.set_cons_zero, List.set_cons_succ]
        refine anyL_done (by kernel_rfl) ?_ _
        refine NoPanic.normal ?_
        try simp only [Act.put, List.setIfInBounds_toArray, List.set_cons_zero, List.set_cons_succ]
        have hu := own_ents G2.out unew rfl
        have hyT : NodeT w2 ⟨nnew, .slice (some ⟨g, 0, none⟩) 60 60, nil0, nil0⟩ := ⟨hu, ⟨SlOf.nil _ _, SlOf.nil _ _, ⟨_, _, _, rfl, Nat.le_refl _⟩, ⟨_, _, _, rfl, Nat.le_refl _⟩⟩⟩
        have HN := Nw1.step HY.out.1 HY.out.2.1 S2.out HY.out.2.2 hyT rfl
        have HN' : Aside (Nw1 W0 (st5 w2 g1 (k * 5) ⟨nnew, .slice (some ⟨g, 0, none⟩) 60 60, nil0, nil0⟩) b g1 g2 (k + 1)) := HN
        clear hyT hu HN S2 G2 HY hNext
        go_wp2
        go_roundw
        case rel => exact ⟨k + 1, by omega, by go_num, HN'.out⟩
        case measure => simp [intOf]; omega
      · have hk3 : k = 3 := by omega
        have HE : Aside (Nw2 W0 wr b g1 g2 0) := (show Nw1 W0 wr b g1 g2 3 from hk3 ▸ hrelN).all
        have hki : ¬ (k : Int) < 3 := by omega
        have zb : ∀ i, wr.cell? ⟨b, i, none⟩ = #[Value.slice (some ⟨g1, 0, none⟩) 3 3, .int .i64 0, .slice (some ⟨g2, 0, none⟩) 3 3, .int .i64 0][i]? := fun i => by
          obtain ⟨ys, _, hS, _⟩ := hrelN
          exact Joins.cell_of_block hS.box i
        clear hrelN hk hlt hk3
        go_wp2
        clear zb
        generalize wr = wq at *
        go_loopw [23] (fun i wr => ∃ k : Nat, k ≤ 3 ∧ i = .int .i64 k ∧ Nw2 W0 wr b g1 g2 k) (fun i _ => 3 - (intOf i).toNat)
        case atStart => exact ⟨0, Nat.zero_le _, rfl, HE.out⟩
        case round =>
          clear HE
          obtain ⟨k, hk, rfl, hrelN⟩ := hrel
          by_cases hlt : k < 3
          · obtain ⟨ys, ds, hyl, hdl, hS, hnn, hcc⟩ := hrelN
            obtain ⟨x, hx⟩ : ∃ x, ds[k]? = some x := ⟨ds[k]'(by omega), List.getElem?_eq_getElem _⟩
            have HY : Aside (ys.length = 3 ∧ ds.length = 3 ∧ ds[k]? = some x ∧ nodesOf ys = [nnew, nnew, nnew] ∧ ∀ i y, i < k → ds[i]? = some y → y.c = cnew) := ⟨hyl, hdl, hx, hnn, hcc⟩
            have HS : Aside (WSt W0 wr.drew b g1 g2 (ys.flatMap Nb.cells) 0 (ds.flatMap Cb.cells) 0 ys (ds.take k)) := hS.later (Below.refl _ _).drew
            have hki : (k : Int) < 3 := by omega
            have hk0 : (0 : Int) ≤ (k : Int) := by omega
            clear hyl hdl hS hnn hcc hx
            go_upto_region 10 with fail
            refine wp_region_noPanic ?_
            refine region_L (fun w' => Below wr.drew.heap.size wr.drew w') 5 (by kernel_rfl) (Below.refl _ _) (fun hHeld => ?_)
            generalize wr.drew = w1 at *
            refine anyL_take (i := 0) (v := ?_) rfl (by kernel_rfl) (by kernel_rfl) (by kernel_rfl) (by kernel_rfl) (by kernel_rfl) (fun _ _ _ h => h) (Or.inl ⟨by rfl, ?_⟩) (by assumption) ?_
            rotate_left
            · (intro w0 hSw; clear hSw; go_simp; first | done | with_reducible rfl)
            try simp only [Act.put, List.setIfInBounds_toArray, List.set_cons_zero, List.set_cons_succ]
            refine anyL_take (i := 1) (v := ?_) rfl (by kernel_rfl) (by kernel_rfl) (by kernel_rfl) (by kernel_rfl) (by kernel_rfl) (fun _ _ _ h => h) (Or.inl ⟨by rfl, ?_⟩) (by assumption) ?_
            rotate_left
            · (intro w0 hSw; have zb := (show ∀ i, w0.cell? ⟨b, i, none⟩ = #[Value.slice (some ⟨g1, 0, none⟩) 3 3, .int .i64 0, .slice (some ⟨g2, 0, none⟩) 3 3, .int .i64 0][i]? from fun i => Joins.cell_of_block (heap_below HS.out.box hSw (heap_lt HS.out.box)) i); clear hSw; go_simp; first | done | with_reducible rfl)
            try simp only [Act.put, List.setIfInBounds_toArray, List.set_cons_zero, List.set_cons_succ]
            refine anyL_take (i := 2) (v := ?_) rfl (by kernel_rfl) (by kernel_rfl) (by kernel_rfl) (by kernel_rfl) (by kernel_rfl) (fun _ _ _ h => h) (Or.inl ⟨by rfl, ?_⟩) (by assumption) ?_
            rotate_left
            · (intro w0 hSw; clear hSw; go_simp; first | done | with_reducible rfl)
            try simp only [Act.put, List.setIfInBounds_toArray, List.set_cons_zero, List.set_cons_succ]
            refine anyL_one (i := 3) (by kernel_rfl) rfl (fun K hK => ?_)
            go_simp
            refine (cl_new _).mono ?_
            rintro e w2 ⟨rfl, hb2⟩
            have S2 : Aside _ := HS.out.later hb2
            have hH2 := step_below1 hHeld hb2
            refine hK.out _ _ (fun _ => hH2) (fun hNext => ?_)
            replace hNext := hNext (by kernel_rfl)
            clear hK K hb2 HS hHeld hH2
            try simp only [Act.put, List.setIfInBounds_toArray, List.set_cons_zero, List.set_cons_succ]
            refine anyL_take (i := 4) (v := ?_) rfl (by kernel_rfl) (by kernel_rfl) (by kernel_rfl) (by kernel_rfl) (by kernel_rfl) (fun _ _ _ h => h) (Or.inl ⟨by rfl, ?_⟩) (by assumption) ?_
            rotate_left
            · (intro w0 hSw; clear hSw; go_simp; first | done | with_reducible rfl)
            try simp only [Act.put, List.setIfInBounds_toArray, List.set_cons_zero, List.set_cons_succ]
            have yc : ∀ i : Nat, i < 12 → ∃ v, w2.cell? ⟨g2, k * 12 + i, none⟩ = some v := fun i hi => by
              have hz := (S2.out.crow)
              have hn := S2.out.clen
              rw [Joins.cell_of_block hz]
              refine ⟨(ds.flatMap Cb.cells)[k * 12 + i]'(by omega), ?_⟩
              rw [List.getElem?_toArray, List.getElem?_eq_getElem]
            obtain ⟨v0, y0⟩ := yc 0 (by omega)
            obtain ⟨v1, y1⟩ := yc 1 (by omega)
            obtain ⟨v2, y2⟩ := yc 2 (by omega)
            obtain ⟨v3, y3⟩ := yc 3 (by omega)
            obtain ⟨v4, y4⟩ := yc 4 (by omega)
            obtain ⟨v5, y5⟩ := yc 5 (by omega)
            obtain ⟨v6, y6⟩ := yc 6 (by omega)
            obtain ⟨v7, y7⟩ := yc 7 (by omega)
            obtain ⟨v8, y8⟩ := yc 8 (by omega)
            obtain ⟨v9, y9⟩ := yc 9 (by omega)
            obtain ⟨v10, y10⟩ := yc 10 (by omega)
            obtain ⟨v11, y11⟩ := yc 11 (by omega)
            rw [Nat.add_zero] at y0
            clear yc
            have fy : ∀ i, w2.frozen? ⟨g2, i, none⟩ = false := fun i => Joins.unfrozen_of_block S2.out.crow i
            refine anyL_one (i := 5) (by kernel_rfl) rfl (fun K hK => ?_)
            go_simp
            refine hK.out _ _ (fun h => absurd h (by decide +kernel)) (fun _ => ?_)
            clear hK K y0 y1 y2 y3 y4 y5 y6 y7 y8 y9 y10 y11 fy
            try simp only [Act.put, List.setIfInBounds_toArray, List.set_cons_zero, List.set_cons_succ]
            refine anyL_done (by kernel_rfl) ?_ _
            refine NoPanic.normal ?_
            try simp only [Act.put, List.setIfInBounds_toArray, List.set_cons_zero, List.set_cons_succ]
            have HN := Nw2.step HY.out.1 HY.out.2.1 HY.out.2.2.1 S2.out HY.out.2.2.2.1 HY.out.2.2.2.2
            have HN' : Aside (Nw2 W0 (stC w2 g2 (k * 12) ⟨cnew, nil0, nil0⟩) b g1 g2 (k + 1)) := HN
            clear HN S2 HY hNext
            go_wp2
            go_roundw
            case rel => exact ⟨k + 1, by omega, by go_num, HN'.out⟩
            case measure => simp [intOf]; omega
          · obtain rfl : k = 3 := by omega
            obtain ⟨ys, ds, hI, hyn, hdn⟩ := hrelN.all
            have HI : Aside (WIn W0 wr b g1 g2 ys 0 ds 0) := hI
            have HZN : Hid (nodesOf ys = wnew.ns ∧ clientsOf ds = wnew.cs) := ⟨hyn, hdn⟩
            have zb : ∀ i, wr.cell? ⟨b, i, none⟩ = #[Value.slice (some ⟨g1, 0, none⟩) 3 3, .int .i64 0, .slice (some ⟨g2, 0, none⟩) 3 3, .int .i64 0][i]? := fun i => Joins.cell_of_block hI.st.box i
            have HB : Aside (Below W0.heap.size W0 wr) := hI.st.below.whole HGW.out.1 HGW.out.2.1 HGW.out.2.2
            have HY4 : Aside (wr.heap[w.heap.size]? = some boxWZ) := heap_below h0_0.out HB.out (heap_lt h0_0.out)
            have y4 : ∀ i, wr.cell? ⟨w.heap.size, i, none⟩ = #[Value.slice none 0 0, .int .i64 0, .slice none 0 0, .int .i64 0][i]? := fun i => Joins.cell_of_block HY4.out i
            have f4 : ∀ i, wr.frozen? ⟨w.heap.size, i, none⟩ = false := fun i => Joins.unfrozen_of_block HY4.out i
            clear hrelN hI hyn hdn hk hlt
            go_wp2
            have h3 := HGW.out
            have h4 := heap_lt h0_0.out
            have h5 := B0.out.size
            exact ret1_world (p := 0) Tryz.results26 rfl rfl (stW_box HY4.out (.slice (some ⟨g1, 0, none⟩) 3 3) 0 (.slice (some ⟨g2, 0, none⟩) 3 3) 0) ⟨_, _, rfl, Or.inr ⟨g1, g2, ys, ds, rfl, rfl, wrow_st HY4.out (HI.out.st.rebase B0.out) (by omega) (by omega) (by omega) (by omega) (by omega) (step_below1 B0.out HB.out) HI.out.three HI.out.three' _ _, HZN.out.1, HZN.out.2⟩, stW_below (step_below1 B0.out HB.out) (by omega) _ _ _ _⟩
end Go.Proofs.YtmoaobfmopimlafGreatDoor
namespace Go.Proofs.YtmoaobfmopimlafGreatDoor
open Go.RowKit
open scoped Classical
set_option maxHeartbeats 2000000 in
/-- The place of the first that is so; -1: there is none (slices.IndexFunc). -/
theorem idxFE (p : Int → Bool) (g : Nat) (lb : Array Value) (eg : ∀ args w, (callFunc g args).run Tryz.prog w = .ok (.enter g args) w) (v : Value) (xs : List Int) (w : World) (hv : ErSl w v xs) (hn : xs.length ≤ most)
    (hp : ∀ (W : World) (x : Int), Below w.heap.size w W → Calls Tryz.prog g (#[.int .i64 x] ++ lb) W fun e w' => e = .returned (.bool (p x)) ∧ Below w.heap.size w w') :
    Calls Tryz.prog 79 #[v, .func (.func g) #[] lb] w fun e w' => e = .returned (.int .i64 (idx p xs)) ∧ Below w.heap.size w w' := by
  have H1 : Hid (ErSl w v xs) := hv
  obtain ⟨a1, c1, rfl, _⟩ := hv
  obtain ⟨n1, hn1⟩ : ∃ n1, xs.length = n1 := ⟨_, rfl⟩
  rw [hn1] at H1 hn ⊢
  have L1 : Hid (xs.length = n1) := hn1
  replace hn : n1 ≤ 9223372036854775807 := hn
  clear hn1
  have HP : Aside _ := hp
  clear hp
  go_enter Tryz.func79, Tryz.ntmps79
  go_wp2
  go_loopg [5, 8] n1 (fun gg _ i wr => ∃ k : Nat, k ≤ n1 ∧ n1 - k ≤ gg ∧ i = .int .i64 k ∧ Aside (Below w.heap.size w wr) ∧ Hid (∀ y, y ∈ xs.take k → p y = false))
  case atStart => exact ⟨0, Nat.zero_le _, by omega, rfl, Below.refl _ w, fun y hy => by simp at hy⟩
  case round =>
    obtain ⟨k, hk, hgg, rfl, hB, hst⟩ := hrel
    by_cases hlt : k < n1
    · obtain ⟨x, hx⟩ : ∃ x, xs[k]? = some x := ⟨xs[k]'(by have := L1.out; omega), List.getElem?_eq_getElem _⟩
      obtain ⟨b, off, rfl, hE0⟩ := H1.out.at (by omega)
      have hE := hE0.later hB.out
      have c0 : wr.cell? ⟨b, off + k, none⟩ = some (.int .i64 x) := by have := hE k x hx 0 _ rfl; rwa [Nat.mul_one, Nat.add_zero] at this
      have hcall := HP.out wr x hB.out
      cases hq : p x with
      | true =>
        have HF : Hid (idx p xs = k) := idx_some hx hq hst.out
        rw [hq] at hcall
        clear hE hE0 hx hst H1 hq HP
        go_wp2_with (go_at_fn g; refine hcall.mono ?_; rintro e w' ⟨rfl, hb'⟩)
        go_ret
        exact ⟨by rw [HF.out]; rfl, hb'⟩
      | false =>
        have HN : Hid (∀ y, y ∈ xs.take (k + 1) → p y = false) := fun y hy => by
          rw [List.take_add_one, hx] at hy
          rcases List.mem_append.1 hy with hy | hy
          · exact hst.out y hy
          · simp at hy; rw [hy]; exact hq
        rw [hq] at hcall
        clear hE hE0 hx hst H1 hq HP
        go_wp2_with (go_at_fn g; refine hcall.mono ?_; rintro e w' ⟨rfl, hb'⟩)
        go_roundg (n1 - (k + 1))
        case measure => omega
        case rel => exact ⟨k + 1, by omega, by omega, by go_num, hb', HN⟩
    · have hkn : k = n1 := by omega
      subst hkn
      have HF : Hid (idx p xs = -1) := by
        have h := hst.out
        rw [List.take_of_length_le (by have := L1.out; omega)] at h
        exact idx_none h
      clear hst H1 HP
      go_wp2
      go_ret
      exact ⟨by rw [HF.out]; rfl, hB.out⟩
set_option maxHeartbeats 2000000 in
/-- The place of the first one that is this; -1: there is none (slices.Index). -/
theorem indexE (v : Value) (xs : List Int) (q : Int) (w : World) (hv : ErSl w v xs) (hn : xs.length ≤ most) :
    Calls Tryz.prog 29 #[v, .int .i64 q] w fun e w' => e = .returned (.int .i64 (idx (fun x => q == x) xs)) ∧ Below w.heap.size w w' := by
  have H1 : Hid (ErSl w v xs) := hv
  obtain ⟨a1, c1, rfl, _⟩ := hv
  obtain ⟨n1, hn1⟩ : ∃ n1, xs.length = n1 := ⟨_, rfl⟩
  rw [hn1] at H1 hn ⊢
  have L1 : Hid (xs.length = n1) := hn1
  replace hn : n1 ≤ 9223372036854775807 := hn
  clear hn1
  obtain ⟨p, hp⟩ : ∃ p : Int → Bool, Hid ((fun x => q == x) = p) := ⟨_, rfl⟩
  rw [hp.out]
  go_enter Tryz.func29, Tryz.ntmps29
  go_wp2
  go_loopg [5, 8] n1 (fun gg _ i wr => ∃ k : Nat, k ≤ n1 ∧ n1 - k ≤ gg ∧ i = .int .i64 k ∧ Aside (Below w.heap.size w wr) ∧ Hid (∀ y, y ∈ xs.take k → p y = false))
  case atStart => exact ⟨0, Nat.zero_le _, by omega, rfl, Below.refl _ w, fun y hy => by simp at hy⟩
  case round =>
    obtain ⟨k, hk, hgg, rfl, hB, hst⟩ := hrel
    by_cases hlt : k < n1
    · obtain ⟨x, hx⟩ : ∃ x, xs[k]? = some x := ⟨xs[k]'(by have := L1.out; omega), List.getElem?_eq_getElem _⟩
      obtain ⟨b, off, rfl, hE0⟩ := H1.out.at (by omega)
      have hE := hE0.later hB.out
      have c0 : wr.cell? ⟨b, off + k, none⟩ = some (.int .i64 x) := by have := hE k x hx 0 _ rfl; rwa [Nat.mul_one, Nat.add_zero] at this
      have hpx : p x = (q == x) := by rw [← hp.out]
      cases hq : (q == x) with
      | true =>
        have HF : Hid (idx p xs = k) := idx_some hx (hpx.trans hq) hst.out
        clear hE hE0 hx hst H1 hpx
        go_wp2
        go_ret
        exact ⟨by rw [HF.out]; rfl, hB.out⟩
      | false =>
        have HN : Hid (∀ y, y ∈ xs.take (k + 1) → p y = false) := fun y hy => by
          rw [List.take_add_one, hx] at hy
          rcases List.mem_append.1 hy with hy | hy
          · exact hst.out y hy
          · simp at hy; rw [hy]; exact hpx.trans hq
        clear hE hE0 hx hst H1 hpx
        go_wp2
        go_roundg (n1 - (k + 1))
        case measure => omega
        case rel => exact ⟨k + 1, by omega, by omega, by go_num, hB, HN⟩
    · have hkn : k = n1 := by omega
      subst hkn
      have HF : Hid (idx p xs = -1) := by
        have h := hst.out
        rw [List.take_of_length_le (by have := L1.out; omega)] at h
        exact idx_none h
      clear hst H1
      go_wp2
      go_ret
      exact ⟨by rw [HF.out]; rfl, hB.out⟩
set_option maxHeartbeats 1000000 in
/-- Is there one that is so (slices.ContainsFunc)? -/
theorem containsFE (p : Int → Bool) (g : Nat) (lb : Array Value) (eg : ∀ args w, (callFunc g args).run Tryz.prog w = .ok (.enter g args) w) (v : Value) (xs : List Int) (w : World) (hv : ErSl w v xs) (hn : xs.length ≤ most)
    (hp : ∀ (W : World) (x : Int), Below w.heap.size w W → Calls Tryz.prog g (#[.int .i64 x] ++ lb) W fun e w' => e = .returned (.bool (p x)) ∧ Below w.heap.size w w') :
    Calls Tryz.prog 30 #[v, .func (.func g) #[] lb] w fun e w' => e = .returned (.bool (decide (0 ≤ idx p xs))) ∧ Below w.heap.size w w' := by
  have h := idxFE p g lb eg v xs w hv hn hp
  clear hv hp
  go_enter Tryz.func30, Tryz.ntmps30
  go_wp2_with fail
  refine h.mono ?_
  rintro e w' ⟨rfl, hb'⟩
  clear h
  go_wp2
  go_ret
  exact ⟨rfl, hb'⟩
theorem t_bad (q : Int) (w : World) : Calls Tryz.prog 31 #[.int .i64 q] w fun e w' => e = .returned (.bool ((q != 0) && (q != 5))) ∧ w' = w := by
  cases h0 : (q != 0) with
  | false =>
    go_enter Tryz.func31, Tryz.ntmps31
    go_wp2
    go_ret
    exact ⟨rfl, rfl⟩
  | true =>
    cases h5 : (q != 5) with
    | false =>
      go_enter Tryz.func31, Tryz.ntmps31
      go_wp2
      go_ret
      exact ⟨rfl, rfl⟩
    | true =>
      go_enter Tryz.func31, Tryz.ntmps31
      go_wp2
      go_ret
      exact ⟨rfl, rfl⟩
theorem t_of (k c : Int) (w : World) : Calls Tryz.prog 25 #[.int .i64 k, .int .i64 c] w fun e w' => e = .returned (.agg #[.int .i64 k, .int .i64 c, .int .i64 0, .int .i64 0, .int .i64 0, .int .i64 0, .int .i64 0, .int .i64 0, .int .i64 0, .int .i64 0]) ∧ Below w.heap.size w w' := by
  go_enter Tryz.func25, Tryz.ntmps25
  go_wp2
  exact bodyPost_ret (v := .agg #[.int .i64 k, .int .i64 c, .int .i64 0, .int .i64 0, .int .i64 0, .int .i64 0, .int .i64 0, .int .i64 0, .int .i64 0, .int .i64 0]) (by simp [results, Tryz.results25, go_sem]) rfl ⟨rfl, grew (Below.refl _ _) _⟩
theorem t_put (a b c : Int) (w : World) : Calls Tryz.prog 28 #[.int .i64 a, .int .i64 b, .int .i64 c] w fun e w' => e = .returned (.agg #[.int .i64 1, .int .i64 a, .int .i64 b, .int .i64 c, .int .i64 0]) ∧ Below w.heap.size w w' := by
  go_enter Tryz.func28, Tryz.ntmps28
  go_wp2
  exact bodyPost_ret (v := .agg #[.int .i64 1, .int .i64 a, .int .i64 b, .int .i64 c, .int .i64 0]) (by simp [results, Tryz.results28, go_sem]) rfl ⟨rfl, grew (Below.refl _ _) _⟩
/-- The script of the closed fact. -/
def tl1 : List Hp := [⟨1, 0, 0, 0, 0, ⟨1, 2, 5, 3, 0⟩⟩]
def tl2 : List Hp := [⟨3, 0, 0, 0, 0, En.zero⟩, ⟨4, 0, 0, 0, 0, En.zero⟩, ⟨4, 0, 0, 0, 0, En.zero⟩, ⟨4, 0, 0, 0, 0, En.zero⟩, ⟨7, 0, 0, 0, 0, En.zero⟩]
def tl3 : List Hp := [⟨2, 0, 0, 2, 0, En.zero⟩, ⟨11, 0, 4, 0, 0, En.zero⟩, ⟨2, 0, 0, 2, 0, En.zero⟩]
def tlw : Wd := (runOf wnew (tl1 ++ tl2 ++ tl3 ++ tl2)).1
theorem toll_said : (runOf wnew (tl1 ++ tl2 ++ tl3 ++ tl2)).2 = ([0, 0, 0, 0, 0, 0, 5, 0, 0, 0, 0, 0, 0, 0], 0) := by kernel_rfl
theorem toll_tip : tlw.tip = 2 := by kernel_rfl
theorem toll_cl : (tlw.cs.map fun c => (c.n, c.rs.map fun r => (r.j, r.t, r.c))) = [(2, [(2, 3, 0)]), (0, []), (0, [])] := by kernel_rfl
end Go.Proofs.YtmoaobfmopimlafGreatDoor
namespace Go.Proofs.YtmoaobfmopimlafGreatDoor
open Go.RowKit
open scoped Classical
set_option linter.unusedSimpArgs false in
set_option maxHeartbeats 4000000 in
set_option maxRecDepth 100000 in
theorem sameNode_at (u u' : Un) (s t s' t' : List UInt8) (up up' : Bool) (a0 a1 a2 d0 d1 d2 : Option Addr) (m0 k0 m1 k1 m2 k2 n0 l0 n1 l1 n2 l2 : Nat) (w : World)
    (hU : UnitAt w (.slice a0 m0 k0) u) (hD : DiskR w (.slice a1 m1 k1) (.slice a2 m2 k2) (s, t)) (hU' : UnitAt w (.slice d0 n0 l0) u') (hD' : DiskR w (.slice d1 n1 l1) (.slice d2 n2 l2) (s', t')) (hn0 : u.cells.length ≤ topN) :
    Calls Tryz.prog 38 #[.agg #[.int .i64 u.p, .slice a0 m0 k0, .slice a1 m1 k1, .slice a2 m2 k2, .bool up], .agg #[.int .i64 u'.p, .slice d0 n0 l0, .slice d1 n1 l1, .slice d2 n2 l2, .bool up']] w fun e w' => e = .returned (.bool (decide (u = u') && (decide ((s, t) = (s', t')) && (up == up')))) ∧ Below w.heap.size w w' := by
  have hB0 : Below w.heap.size w ((w.alloc (boxNb ⟨⟨u, s, t, up⟩, .slice a0 m0 k0, .slice a1 m1 k1, .slice a2 m2 k2⟩)).alloc (boxNb ⟨⟨u', s', t', up'⟩, .slice d0 n0 l0, .slice d1 n1 l1, .slice d2 n2 l2⟩)) := grew (grew (Below.refl _ _) _) _
  have HB0 : Aside (Below w.heap.size w ((w.alloc (boxNb ⟨⟨u, s, t, up⟩, .slice a0 m0 k0, .slice a1 m1 k1, .slice a2 m2 k2⟩)).alloc (boxNb ⟨⟨u', s', t', up'⟩, .slice d0 n0 l0, .slice d1 n1 l1, .slice d2 n2 l2⟩))) := hB0
  have HX0 : Aside (((w.alloc (boxNb ⟨⟨u, s, t, up⟩, .slice a0 m0 k0, .slice a1 m1 k1, .slice a2 m2 k2⟩)).alloc (boxNb ⟨⟨u', s', t', up'⟩, .slice d0 n0 l0, .slice d1 n1 l1, .slice d2 n2 l2⟩)).heap[w.heap.size]? = some (.cells #[.int .i64 u.p, .slice a0 m0 k0, .slice a1 m1 k1, .slice a2 m2 k2, .bool up] 49)) := heap_old (heap_new _ _) _
  have HY0 : Aside (((w.alloc (boxNb ⟨⟨u, s, t, up⟩, .slice a0 m0 k0, .slice a1 m1 k1, .slice a2 m2 k2⟩)).alloc (boxNb ⟨⟨u', s', t', up'⟩, .slice d0 n0 l0, .slice d1 n1 l1, .slice d2 n2 l2⟩)).heap[w.heap.size + 1]? = some (.cells #[.int .i64 u'.p, .slice d0 n0 l0, .slice d1 n1 l1, .slice d2 n2 l2, .bool up'] 49)) := by
    have := heap_new (w.alloc (boxNb ⟨⟨u, s, t, up⟩, .slice a0 m0 k0, .slice a1 m1 k1, .slice a2 m2 k2⟩)) (boxNb ⟨⟨u', s', t', up'⟩, .slice d0 n0 l0, .slice d1 n1 l1, .slice d2 n2 l2⟩)
    rwa [World.size_alloc] at this
  have HG : Hid (∀ W, Below w.heap.size w W → DiskR W (.slice a1 m1 k1) (.slice a2 m2 k2) (s, t) ∧ DiskR W (.slice d1 n1 l1) (.slice d2 n2 l2) (s', t')) := fun W hb => ⟨hD.later hb, hD'.later hb⟩
  have ks := unitSame_any (.slice a0 m0 k0) (.slice d0 n0 l0) u u' ((w.alloc (boxNb ⟨⟨u, s, t, up⟩, .slice a0 m0 k0, .slice a1 m1 k1, .slice a2 m2 k2⟩)).alloc (boxNb ⟨⟨u', s', t', up'⟩, .slice d0 n0 l0, .slice d1 n1 l1, .slice d2 n2 l2⟩)) (hU.ents.later hB0) (hU'.ents.later hB0) hn0
  generalize decide (u = u') = b1 at *
  obtain ⟨b2, HB2E⟩ : ∃ b2, Hid (decide ((s, t) = (s', t')) = b2) := ⟨_, rfl⟩
  rw [HB2E.out]
  clear hU hU' hD hD' hn0 hB0
  go_enter Tryz.func38, Tryz.ntmps38
  go_upto_region 1 with fail
  generalize (w.alloc (boxNb ⟨⟨u, s, t, up⟩, .slice a0 m0 k0, .slice a1 m1 k1, .slice a2 m2 k2⟩)).alloc (boxNb ⟨⟨u', s', t', up'⟩, .slice d0 n0 l0, .slice d1 n1 l1, .slice d2 n2 l2⟩) = W0 at *
  have z0 : ∀ i, W0.cell? ⟨w.heap.size, i, none⟩ = #[Value.int .i64 u.p, .slice a0 m0 k0, .slice a1 m1 k1, .slice a2 m2 k2, .bool up][i]? := fun i => Joins.cell_of_block HX0.out i
  have y0 : ∀ i, W0.cell? ⟨w.heap.size + 1, i, none⟩ = #[Value.int .i64 u'.p, .slice d0 n0 l0, .slice d1 n1 l1, .slice d2 n2 l2, .bool up'][i]? := fun i => Joins.cell_of_block HY0.out i
  cases b1 with
  | false =>
    go_wp2_with fail
    refine ks.mono ?_
    rintro e w1 ⟨rfl, hb1⟩
    have HB1 : Aside (Below w.heap.size w w1) := step_below1 HB0.out hb1
    clear ks z0 y0 HX0 HY0 HB0 hb1
    go_wp2
    go_ret
    exact ⟨rfl, HB1.out⟩
  | true =>
    go_wp2_with fail
    refine ks.mono ?_
    rintro e w1 ⟨rfl, hb1⟩
    have HB1 : Aside (Below w.heap.size w w1) := step_below1 HB0.out hb1
    have HX1 : Aside (w1.heap[w.heap.size]? = some (.cells #[.int .i64 u.p, .slice a0 m0 k0, .slice a1 m1 k1, .slice a2 m2 k2, .bool up] 49)) := heap_below HX0.out hb1 (heap_lt HX0.out)
    have HY1 : Aside (w1.heap[w.heap.size + 1]? = some (.cells #[.int .i64 u'.p, .slice d0 n0 l0, .slice d1 n1 l1, .slice d2 n2 l2, .bool up'] 49)) := heap_below HY0.out hb1 (heap_lt HY0.out)
    clear ks z0 y0 HX0 HY0 HB0 hb1
    have z1 : ∀ i, w1.cell? ⟨w.heap.size, i, none⟩ = #[Value.int .i64 u.p, .slice a0 m0 k0, .slice a1 m1 k1, .slice a2 m2 k2, .bool up][i]? := fun i => Joins.cell_of_block HX1.out i
    have y1 : ∀ i, w1.cell? ⟨w.heap.size + 1, i, none⟩ = #[Value.int .i64 u'.p, .slice d0 n0 l0, .slice d1 n1 l1, .slice d2 n2 l2, .bool up'][i]? := fun i => Joins.cell_of_block HY1.out i
    have kd := diskSame_any (.slice a1 m1 k1) (.slice a2 m2 k2) (.slice d1 n1 l1) (.slice d2 n2 l2) (s, t) (s', t') w1 (HG.out w1 HB1.out).1 (HG.out w1 HB1.out).2
    rw [HB2E.out] at kd
    go_wp2_with fail
    refine kd.mono ?_
    rintro e w2 ⟨rfl, hb2⟩
    have HB2 : Aside (Below w.heap.size w w2) := step_below1 HB1.out hb2
    have HX2 : Aside (w2.heap[w.heap.size]? = some (.cells #[.int .i64 u.p, .slice a0 m0 k0, .slice a1 m1 k1, .slice a2 m2 k2, .bool up] 49)) := heap_below HX1.out hb2 (heap_lt HX1.out)
    have HY2 : Aside (w2.heap[w.heap.size + 1]? = some (.cells #[.int .i64 u'.p, .slice d0 n0 l0, .slice d1 n1 l1, .slice d2 n2 l2, .bool up'] 49)) := heap_below HY1.out hb2 (heap_lt HY1.out)
    clear kd z1 y1 HX1 HY1 HB1 hb2
    have z2 : ∀ i, w2.cell? ⟨w.heap.size, i, none⟩ = #[Value.int .i64 u.p, .slice a0 m0 k0, .slice a1 m1 k1, .slice a2 m2 k2, .bool up][i]? := fun i => Joins.cell_of_block HX2.out i
    have y2 : ∀ i, w2.cell? ⟨w.heap.size + 1, i, none⟩ = #[Value.int .i64 u'.p, .slice d0 n0 l0, .slice d1 n1 l1, .slice d2 n2 l2, .bool up'][i]? := fun i => Joins.cell_of_block HY2.out i
    cases b2 with
    | false =>
      go_wp2
      go_ret
      exact ⟨rfl, HB2.out⟩
    | true =>
      go_wp2
      go_ret
      exact ⟨rfl, HB2.out⟩
end Go.Proofs.YtmoaobfmopimlafGreatDoor
namespace Go.Proofs.YtmoaobfmopimlafGreatDoor
open Go.RowKit
open scoped Classical
theorem w_sameNode (x y : Nb) (w : World) (h : NodeT w x) (h' : NodeT w y) (hn0 : x.n.u.cells.length ≤ topN) :
    Calls Tryz.prog 38 #[x.val, y.val] w fun e w' => e = .returned (.bool (decide (x.n = y.n))) ∧ Below w.heap.size w w' := by
  obtain ⟨⟨u, s, t, up⟩, vc, vs, vw⟩ := x
  obtain ⟨⟨u', s', t', up'⟩, vc', vs', vw'⟩ := y
  obtain ⟨a0, m0, k0, e0⟩ := roomy_sl h.unit.room
  obtain ⟨a1, m1, k1, e1⟩ := roomy_sl h.disk.room1
  obtain ⟨a2, m2, k2, e2⟩ := roomy_sl h.disk.room2
  obtain ⟨d0, n0, l0, f0⟩ := roomy_sl h'.unit.room
  obtain ⟨d1, n1, l1, f1⟩ := roomy_sl h'.disk.room1
  obtain ⟨d2, n2, l2, f2⟩ := roomy_sl h'.disk.room2
  dsimp only at e0 e1 e2 f0 f1 f2
  subst e0 e1 e2 f0 f1 f2
  have := sameNode_at u u' s t s' t' up up' a0 a1 a2 d0 d1 d2 m0 k0 m1 k1 m2 k2 n0 l0 n1 l1 n2 l2 w h.unit h.disk h'.unit h'.disk hn0
  have e : decide ((⟨u, s, t, up⟩ : Nd) = ⟨u', s', t', up'⟩) = (decide (u = u') && (decide ((s, t) = (s', t')) && (up == up'))) := by
    rw [Bool.eq_iff_iff, decide_eq_true_iff]
    simp only [Nd.mk.injEq, Bool.and_eq_true, decide_eq_true_eq, Prod.mk.injEq, beq_iff_eq, and_assoc]
  dsimp only
  rw [e]
  exact this
set_option linter.unusedSimpArgs false in
set_option maxHeartbeats 4000000 in
set_option maxRecDepth 100000 in
theorem eqfN (v v' : Value) (xs ys : List Nb) (w : World) (h : SlOf Nb.cells 5 w v xs) (h' : SlOf Nb.cells 5 w v' ys) (hX : ∀ x, x ∈ xs → NodeT w x ∧ x.n.u.cells.length ≤ topN) (hY : ∀ x, x ∈ ys → NodeT w x) (hn : xs.length ≤ most) :
    Calls Tryz.prog 37 #[v, v', .func (.func 38) #[] #[]] w fun e w' => e = .returned (.bool (decide (nodesOf xs = nodesOf ys))) ∧ Below w.heap.size w w' := by
  have eg : ∀ args w, (callFunc 38 args).run Tryz.prog w = .ok (.enter 38 args) w := fun _ _ => rfl
  have H1 : Hid (SlOf Nb.cells 5 w v xs) := h
  have H2 : Hid (SlOf Nb.cells 5 w v' ys) := h'
  have HXY : Aside ((∀ x, x ∈ xs → NodeT w x ∧ x.n.u.cells.length ≤ topN) ∧ ∀ x, x ∈ ys → NodeT w x) := ⟨hX, hY⟩
  obtain ⟨a, n, c, rfl⟩ := slOf_sl h
  obtain ⟨a', n', c', rfl⟩ := slOf_sl h'
  have L1 : Hid (xs.length = n) := SlOf.len h
  have L2 : Hid (ys.length = n') := SlOf.len h'
  rw [L1.out] at hn
  replace hn : n ≤ 9223372036854775807 := hn
  obtain ⟨bb, HBB⟩ : ∃ bb, Hid (decide (nodesOf xs = nodesOf ys) = bb) := ⟨_, rfl⟩
  rw [HBB.out]
  clear h h' hX hY
  by_cases hnn : n = n'
  · subst hnn
    go_enter Tryz.func37, Tryz.ntmps37
    go_wp2
    go_loopw [17] (fun i wr => ∃ k : Nat, k ≤ n ∧ i = .int .i64 k ∧ Below w.heap.size w wr ∧ Hid ((nodesOf xs).take k = (nodesOf ys).take k)) (fun i _ => n - (intOf i).toNat)
    case atStart => exact ⟨0, Nat.zero_le _, rfl, Below.refl _ _, rfl⟩
    case round =>
      obtain ⟨k, hk, rfl, hB, hst⟩ := hrel
      by_cases hlt : k < n
      · obtain ⟨x, hx⟩ : ∃ x, xs[k]? = some x := ⟨xs[k]'(by have := L1.out; omega), List.getElem?_eq_getElem _⟩
        obtain ⟨y, hy⟩ : ∃ y, ys[k]? = some y := ⟨ys[k]'(by have := L2.out; omega), List.getElem?_eq_getElem _⟩
        obtain ⟨b, off, rfl, hE0⟩ := H1.out.at (by omega)
        obtain ⟨b', off_, rfl, hE0'⟩ := H2.out.at (by omega)
        have hTx := HXY.out.1 x (List.mem_of_getElem? hx)
        have hTy := HXY.out.2 y (List.mem_of_getElem? hy)
        have hEx : Hid ((nodesOf xs)[k]? = some x.n) := nodes_at hx
        have hEy : Hid ((nodesOf ys)[k]? = some y.n) := nodes_at hy
        obtain ⟨N, vc, vs, vw⟩ := x
        obtain ⟨M, wc, ws, ww⟩ := y
        obtain ⟨a0, m0, k0, e0⟩ := roomy_sl hTx.1.unit.room
        obtain ⟨a1, m1, k1, e1⟩ := roomy_sl hTx.1.disk.room1
        obtain ⟨a2, m2, k2, e2⟩ := roomy_sl hTx.1.disk.room2
        obtain ⟨d0, o0, l0, f0⟩ := roomy_sl hTy.unit.room
        obtain ⟨d1, o1, l1, f1⟩ := roomy_sl hTy.disk.room1
        obtain ⟨d2, o2, l2, f2⟩ := roomy_sl hTy.disk.room2
        dsimp only at e0 e1 e2 f0 f1 f2 hEx hEy
        subst e0 e1 e2 f0 f1 f2
        have hE := hE0.later hB
        have c0 : wr.cell? ⟨b, off + k * 5, none⟩ = some (.int .i64 N.u.p) := hE k _ hx 0 _ rfl
        have c1 : wr.cell? ⟨b, off + k * 5 + 1, none⟩ = some (.slice a0 m0 k0) := hE k _ hx 1 _ rfl
        have c2 : wr.cell? ⟨b, off + k * 5 + 2, none⟩ = some (.slice a1 m1 k1) := hE k _ hx 2 _ rfl
        have c3 : wr.cell? ⟨b, off + k * 5 + 3, none⟩ = some (.slice a2 m2 k2) := hE k _ hx 3 _ rfl
        have c4 : wr.cell? ⟨b, off + k * 5 + 4, none⟩ = some (.bool N.up) := hE k _ hx 4 _ rfl
        have hB1 := grew hB (boxNb ⟨N, .slice a0 m0 k0, .slice a1 m1 k1, .slice a2 m2 k2⟩)
        have HB1 : Aside (Below w.heap.size w (wr.alloc (boxNb ⟨N, .slice a0 m0 k0, .slice a1 m1 k1, .slice a2 m2 k2⟩))) := hB1
        have HZ1 : Aside ((wr.alloc (boxNb ⟨N, .slice a0 m0 k0, .slice a1 m1 k1, .slice a2 m2 k2⟩)).heap[wr.heap.size]? = some (boxNb ⟨N, .slice a0 m0 k0, .slice a1 m1 k1, .slice a2 m2 k2⟩)) := heap_new _ _
        have hE' := hE0'.later hB1
        have hki : (k : Int) < n := by omega
        have hk0 : (0 : Int) ≤ (k : Int) := by omega
        obtain ⟨sb, HSB⟩ : ∃ sb, Hid (decide (N = M) = sb) := ⟨_, rfl⟩
        have kf := fun W (hb : Below w.heap.size w W) => w_sameNode ⟨N, .slice a0 m0 k0, .slice a1 m1 k1, .slice a2 m2 k2⟩ ⟨M, .slice d0 o0 l0, .slice d1 o1 l1, .slice d2 o2 l2⟩ W (hTx.1.later hb) (hTy.later hb) hTx.2
        dsimp only at kf
        rw [HSB.out] at kf
        have KF : Aside _ := kf
        have HST : Hid _ := hst.out
        clear hE hB hB1 hE0 hE0' kf hst hTx hTy hx
        go_upto_region 6 with fail
        clear c0 c1 c2 c3 c4
        generalize wr.alloc (boxNb ⟨N, .slice a0 m0 k0, .slice a1 m1 k1, .slice a2 m2 k2⟩) = Z at *
        generalize wr.heap.size = cb at *
        have e0 : Z.cell? ⟨b', off_ + k * 5, none⟩ = some (.int .i64 M.u.p) := hE' k _ hy 0 _ rfl
        have e1 : Z.cell? ⟨b', off_ + k * 5 + 1, none⟩ = some (.slice d0 o0 l0) := hE' k _ hy 1 _ rfl
        have e2 : Z.cell? ⟨b', off_ + k * 5 + 2, none⟩ = some (.slice d1 o1 l1) := hE' k _ hy 2 _ rfl
        have e3 : Z.cell? ⟨b', off_ + k * 5 + 3, none⟩ = some (.slice d2 o2 l2) := hE' k _ hy 3 _ rfl
        have e4 : Z.cell? ⟨b', off_ + k * 5 + 4, none⟩ = some (.bool M.up) := hE' k _ hy 4 _ rfl
        have HB2 : Aside (Below w.heap.size w (Z.alloc (boxNb ⟨M, .slice d0 o0 l0, .slice d1 o1 l1, .slice d2 o2 l2⟩))) := grew HB1.out _
        have HX2 : Aside ((Z.alloc (boxNb ⟨M, .slice d0 o0 l0, .slice d1 o1 l1, .slice d2 o2 l2⟩)).heap[cb]? = some (boxNb ⟨N, .slice a0 m0 k0, .slice a1 m1 k1, .slice a2 m2 k2⟩)) := heap_old HZ1.out _
        have HY2 : Aside ((Z.alloc (boxNb ⟨M, .slice d0 o0 l0, .slice d1 o1 l1, .slice d2 o2 l2⟩)).heap[Z.heap.size]? = some (boxNb ⟨M, .slice d0 o0 l0, .slice d1 o1 l1, .slice d2 o2 l2⟩)) := heap_new _ _
        clear hE' hy
        go_upto_region 7 with fail
        clear e0 e1 e2 e3 e4 HZ1 HB1
        generalize Z.alloc (boxNb ⟨M, .slice d0 o0 l0, .slice d1 o1 l1, .slice d2 o2 l2⟩) = Z2 at *
        generalize Z.heap.size = db at *
        have kf := KF.out Z2 HB2.out
        have z1 : ∀ i, Z2.cell? ⟨cb, i, none⟩ = #[Value.int .i64 N.u.p, .slice a0 m0 k0, .slice a1 m1 k1, .slice a2 m2 k2, .bool N.up][i]? := fun i => Joins.cell_of_block HX2.out i
        have z2 : ∀ i, Z2.cell? ⟨db, i, none⟩ = #[Value.int .i64 M.u.p, .slice d0 o0 l0, .slice d1 o1 l1, .slice d2 o2 l2, .bool M.up][i]? := fun i => Joins.cell_of_block HY2.out i
        cases sb with
        | true =>
          have HN : Hid ((nodesOf xs).take (k + 1) = (nodesOf ys).take (k + 1)) := by
            rw [Hid, List.take_add_one, List.take_add_one, hEx.out, hEy.out, HST.out, of_decide_eq_true HSB.out]
          clear KF
          go_wp2_with (go_at_fn 38; refine kf.mono ?_; rintro e w3 ⟨rfl, hb3⟩)
          have HB3 : Aside (Below w.heap.size w _) := step_below1 HB2.out hb3
          go_roundw
          case rel => exact ⟨k + 1, by omega, by go_num, HB3.out, HN⟩
          case measure => simp [intOf]; omega
        | false =>
          have HR : Hid (bb = false) := by
            rw [Hid, ← HBB.out, decide_eq_false]
            intro hc
            have h1 := hEx.out
            rw [hc, hEy.out] at h1
            exact of_decide_eq_false HSB.out (Option.some.inj h1).symm
          clear KF HBB
          go_wp2_with (go_at_fn 38; refine kf.mono ?_; rintro e w3 ⟨rfl, hb3⟩)
          go_ret
          exact ⟨by rw [HR.out]; rfl, step_below1 HB2.out hb3⟩
      · have HR : Hid (bb = true) := by
          rw [Hid, ← HBB.out, decide_eq_true]
          have h := hst.out
          rwa [List.take_of_length_le (by rw [List.length_map, L1.out]; omega), List.take_of_length_le (by rw [List.length_map, L2.out]; omega)] at h
        have HB2 : Aside (Below w.heap.size w wr) := hB
        clear hst HBB hB
        go_wp2
        go_ret
        exact ⟨by rw [HR.out]; rfl, HB2.out⟩
  · have HR : Hid (bb = false) := by
      rw [Hid, ← HBB.out, decide_eq_false]
      intro hc
      have := congrArg List.length hc
      rw [List.length_map, List.length_map, L1.out, L2.out] at this
      exact hnn this
    have hnb : ((n : Int) != (n' : Int)) = true := by rw [bne_iff_ne]; omega
    clear HBB
    go_enter Tryz.func37, Tryz.ntmps37
    go_wp2
    go_ret
    exact ⟨by rw [HR.out]; rfl, Below.refl _ _⟩
end Go.Proofs.YtmoaobfmopimlafGreatDoor
namespace Go.Proofs.YtmoaobfmopimlafGreatDoor
open Go.RowKit
open scoped Classical
set_option linter.unusedSimpArgs false in
set_option maxHeartbeats 4000000 in
set_option maxRecDepth 100000 in
theorem eqfC (v v' : Value) (xs ys : List Cb) (w : World) (h : SlOf Cb.cells 12 w v xs) (h' : SlOf Cb.cells 12 w v' ys) (hX : ∀ x, x ∈ xs → ClientT w x ∧ x.c.js.length ≤ most ∧ x.c.rs.length ≤ most) (hY : ∀ x, x ∈ ys → ClientT w x) (hn : xs.length ≤ most) :
    Calls Tryz.prog 39 #[v, v', .func (.func 12) #[] #[]] w fun e w' => e = .returned (.bool (decide (clientsOf xs = clientsOf ys))) ∧ Below w.heap.size w w' := by
  have eg : ∀ args w, (callFunc 12 args).run Tryz.prog w = .ok (.enter 12 args) w := fun _ _ => rfl
  have H1 : Hid (SlOf Cb.cells 12 w v xs) := h
  have H2 : Hid (SlOf Cb.cells 12 w v' ys) := h'
  have HXY : Aside ((∀ x, x ∈ xs → ClientT w x ∧ x.c.js.length ≤ most ∧ x.c.rs.length ≤ most) ∧ ∀ x, x ∈ ys → ClientT w x) := ⟨hX, hY⟩
  obtain ⟨a, n, c, rfl⟩ := slOf_sl h
  obtain ⟨a', n', c', rfl⟩ := slOf_sl h'
  have L1 : Hid (xs.length = n) := SlOf.len h
  have L2 : Hid (ys.length = n') := SlOf.len h'
  rw [L1.out] at hn
  replace hn : n ≤ 9223372036854775807 := hn
  obtain ⟨bb, HBB⟩ : ∃ bb, Hid (decide (clientsOf xs = clientsOf ys) = bb) := ⟨_, rfl⟩
  rw [HBB.out]
  clear h h' hX hY
  by_cases hnn : n = n'
  · subst hnn
    go_enter Tryz.func39, Tryz.ntmps39
    go_wp2
    go_loopw [17] (fun i wr => ∃ k : Nat, k ≤ n ∧ i = .int .i64 k ∧ Below w.heap.size w wr ∧ Hid ((clientsOf xs).take k = (clientsOf ys).take k)) (fun i _ => n - (intOf i).toNat)
    case atStart => exact ⟨0, Nat.zero_le _, rfl, Below.refl _ _, rfl⟩
    case round =>
      obtain ⟨k, hk, rfl, hB, hst⟩ := hrel
      by_cases hlt : k < n
      · obtain ⟨x, hx⟩ : ∃ x, xs[k]? = some x := ⟨xs[k]'(by have := L1.out; omega), List.getElem?_eq_getElem _⟩
        obtain ⟨y, hy⟩ : ∃ y, ys[k]? = some y := ⟨ys[k]'(by have := L2.out; omega), List.getElem?_eq_getElem _⟩
        obtain ⟨b, off, rfl, hE0⟩ := H1.out.at (by omega)
        obtain ⟨b', off_, rfl, hE0'⟩ := H2.out.at (by omega)
        have hTx := HXY.out.1 x (List.mem_of_getElem? hx)
        have hTy := HXY.out.2 y (List.mem_of_getElem? hy)
        have hEx : Hid ((clientsOf xs)[k]? = some x.c) := clients_at hx
        have hEy : Hid ((clientsOf ys)[k]? = some y.c) := clients_at hy
        obtain ⟨N, v1, v2⟩ := x
        obtain ⟨M, u1, u2⟩ := y
        obtain ⟨a1, m1, k1, e1⟩ := slOf_sl hTx.1.1
        obtain ⟨a2, m2, k2, e2⟩ := slOf_sl hTx.1.2
        obtain ⟨d1, o1, l1, f1⟩ := slOf_sl hTy.1
        obtain ⟨d2, o2, l2, f2⟩ := slOf_sl hTy.2
        dsimp only at e1 e2 f1 f2 hEx hEy
        subst e1 e2 f1 f2
        have hE := hE0.later hB
        have c0 : wr.cell? ⟨b, off + k * 12, none⟩ = some (.int .i64 N.p) := hE k _ hx 0 _ rfl
        have c1 : wr.cell? ⟨b, off + k * 12 + 1, none⟩ = some (.int .i64 N.d) := hE k _ hx 1 _ rfl
        have c2 : wr.cell? ⟨b, off + k * 12 + 2, none⟩ = some (.int .i64 N.e.k) := hE k _ hx 2 _ rfl
        have c3 : wr.cell? ⟨b, off + k * 12 + 3, none⟩ = some (.int .i64 N.e.j) := hE k _ hx 3 _ rfl
        have c4 : wr.cell? ⟨b, off + k * 12 + 4, none⟩ = some (.int .i64 N.e.v) := hE k _ hx 4 _ rfl
        have c5 : wr.cell? ⟨b, off + k * 12 + 5, none⟩ = some (.int .i64 N.e.t) := hE k _ hx 5 _ rfl
        have c6 : wr.cell? ⟨b, off + k * 12 + 6, none⟩ = some (.int .i64 N.e.c) := hE k _ hx 6 _ rfl
        have c7 : wr.cell? ⟨b, off + k * 12 + 7, none⟩ = some (.int .i64 N.a) := hE k _ hx 7 _ rfl
        have c8 : wr.cell? ⟨b, off + k * 12 + 8, none⟩ = some (.int .i64 N.l) := hE k _ hx 8 _ rfl
        have c9 : wr.cell? ⟨b, off + k * 12 + 9, none⟩ = some (.int .i64 N.n) := hE k _ hx 9 _ rfl
        have c10 : wr.cell? ⟨b, off + k * 12 + 10, none⟩ = some (.slice a1 m1 k1) := hE k _ hx 10 _ rfl
        have c11 : wr.cell? ⟨b, off + k * 12 + 11, none⟩ = some (.slice a2 m2 k2) := hE k _ hx 11 _ rfl
        have hB1 := grew hB (boxC N (.slice a1 m1 k1) (.slice a2 m2 k2))
        have HB1 : Aside (Below w.heap.size w (wr.alloc (boxC N (.slice a1 m1 k1) (.slice a2 m2 k2)))) := hB1
        have HZ1 : Aside ((wr.alloc (boxC N (.slice a1 m1 k1) (.slice a2 m2 k2))).heap[wr.heap.size]? = some (boxC N (.slice a1 m1 k1) (.slice a2 m2 k2))) := heap_new _ _
        have hE' := hE0'.later hB1
        have hki : (k : Int) < n := by omega
        have hk0 : (0 : Int) ≤ (k : Int) := by omega
        obtain ⟨sb, HSB⟩ : ∃ sb, Hid (sameC N M = sb) := ⟨_, rfl⟩
        have kf := fun W (hb : Below w.heap.size w W) => cl_same N M (.slice a1 m1 k1) (.slice a2 m2 k2) (.slice d1 o1 l1) (.slice d2 o2 l2) W (bkAt_later hTx.1 hb) (bkAt_later hTy hb) hTx.2.1 hTx.2.2
        rw [HSB.out] at kf
        have KF : Aside _ := kf
        have HST : Hid _ := hst.out
        clear hE hB hB1 hE0 hE0' kf hst hTx hTy hx
        go_upto_region 6 with fail
        clear c0 c1 c2 c3 c4 c5 c6 c7 c8 c9 c10 c11
        generalize wr.alloc (boxC N (.slice a1 m1 k1) (.slice a2 m2 k2)) = Z at *
        generalize wr.heap.size = cb at *
        have e0 : Z.cell? ⟨b', off_ + k * 12, none⟩ = some (.int .i64 M.p) := hE' k _ hy 0 _ rfl
        have e1 : Z.cell? ⟨b', off_ + k * 12 + 1, none⟩ = some (.int .i64 M.d) := hE' k _ hy 1 _ rfl
        have e2 : Z.cell? ⟨b', off_ + k * 12 + 2, none⟩ = some (.int .i64 M.e.k) := hE' k _ hy 2 _ rfl
        have e3 : Z.cell? ⟨b', off_ + k * 12 + 3, none⟩ = some (.int .i64 M.e.j) := hE' k _ hy 3 _ rfl
        have e4 : Z.cell? ⟨b', off_ + k * 12 + 4, none⟩ = some (.int .i64 M.e.v) := hE' k _ hy 4 _ rfl
        have e5 : Z.cell? ⟨b', off_ + k * 12 + 5, none⟩ = some (.int .i64 M.e.t) := hE' k _ hy 5 _ rfl
        have e6 : Z.cell? ⟨b', off_ + k * 12 + 6, none⟩ = some (.int .i64 M.e.c) := hE' k _ hy 6 _ rfl
        have e7 : Z.cell? ⟨b', off_ + k * 12 + 7, none⟩ = some (.int .i64 M.a) := hE' k _ hy 7 _ rfl
        have e8 : Z.cell? ⟨b', off_ + k * 12 + 8, none⟩ = some (.int .i64 M.l) := hE' k _ hy 8 _ rfl
        have e9 : Z.cell? ⟨b', off_ + k * 12 + 9, none⟩ = some (.int .i64 M.n) := hE' k _ hy 9 _ rfl
        have e10 : Z.cell? ⟨b', off_ + k * 12 + 10, none⟩ = some (.slice d1 o1 l1) := hE' k _ hy 10 _ rfl
        have e11 : Z.cell? ⟨b', off_ + k * 12 + 11, none⟩ = some (.slice d2 o2 l2) := hE' k _ hy 11 _ rfl
        have HB2 : Aside (Below w.heap.size w (Z.alloc (boxC M (.slice d1 o1 l1) (.slice d2 o2 l2)))) := grew HB1.out _
        have HX2 : Aside ((Z.alloc (boxC M (.slice d1 o1 l1) (.slice d2 o2 l2))).heap[cb]? = some (boxC N (.slice a1 m1 k1) (.slice a2 m2 k2))) := heap_old HZ1.out _
        have HY2 : Aside ((Z.alloc (boxC M (.slice d1 o1 l1) (.slice d2 o2 l2))).heap[Z.heap.size]? = some (boxC M (.slice d1 o1 l1) (.slice d2 o2 l2))) := heap_new _ _
        clear hE' hy
        go_upto_region 7 with fail
        clear e0 e1 e2 e3 e4 e5 e6 e7 e8 e9 e10 e11 HZ1 HB1
        generalize Z.alloc (boxC M (.slice d1 o1 l1) (.slice d2 o2 l2)) = Z2 at *
        generalize Z.heap.size = db at *
        have kf := KF.out Z2 HB2.out
        have z1 : ∀ i, Z2.cell? ⟨cb, i, none⟩ = #[Value.int .i64 N.p, .int .i64 N.d, .int .i64 N.e.k, .int .i64 N.e.j, .int .i64 N.e.v, .int .i64 N.e.t, .int .i64 N.e.c, .int .i64 N.a, .int .i64 N.l, .int .i64 N.n, .slice a1 m1 k1, .slice a2 m2 k2][i]? := fun i => Joins.cell_of_block HX2.out i
        have z2 : ∀ i, Z2.cell? ⟨db, i, none⟩ = #[Value.int .i64 M.p, .int .i64 M.d, .int .i64 M.e.k, .int .i64 M.e.j, .int .i64 M.e.v, .int .i64 M.e.t, .int .i64 M.e.c, .int .i64 M.a, .int .i64 M.l, .int .i64 M.n, .slice d1 o1 l1, .slice d2 o2 l2][i]? := fun i => Joins.cell_of_block HY2.out i
        cases sb with
        | true =>
          have HN : Hid ((clientsOf xs).take (k + 1) = (clientsOf ys).take (k + 1)) := by
            rw [Hid, List.take_add_one, List.take_add_one, hEx.out, hEy.out, HST.out, sameC_eq HSB.out]
          clear KF
          go_wp2_with (go_at_fn 12; refine kf.mono ?_; rintro e w3 ⟨rfl, hb3⟩)
          have HB3 : Aside (Below w.heap.size w _) := step_below1 HB2.out hb3
          go_roundw
          case rel => exact ⟨k + 1, by omega, by go_num, HB3.out, HN⟩
          case measure => simp [intOf]; omega
        | false =>
          have HR : Hid (bb = false) := by
            rw [Hid, ← HBB.out, decide_eq_false]
            intro hc
            have h1 := hEx.out
            rw [hc, hEy.out] at h1
            exact absurd (show sameC N M = true by rw [show N = M from (Option.some.inj h1).symm]; exact sameC_self _) (by rw [HSB.out]; simp)
          clear KF HBB
          go_wp2_with (go_at_fn 12; refine kf.mono ?_; rintro e w3 ⟨rfl, hb3⟩)
          go_ret
          exact ⟨by rw [HR.out]; rfl, step_below1 HB2.out hb3⟩
      · have HR : Hid (bb = true) := by
          rw [Hid, ← HBB.out, decide_eq_true]
          have h := hst.out
          rwa [List.take_of_length_le (by rw [List.length_map, L1.out]; omega), List.take_of_length_le (by rw [List.length_map, L2.out]; omega)] at h
        have HB2 : Aside (Below w.heap.size w wr) := hB
        clear hst HBB hB
        go_wp2
        go_ret
        exact ⟨by rw [HR.out]; rfl, HB2.out⟩
  · have HR : Hid (bb = false) := by
      rw [Hid, ← HBB.out, decide_eq_false]
      intro hc
      have := congrArg List.length hc
      rw [List.length_map, List.length_map, L1.out, L2.out] at this
      exact hnn this
    have hnb : ((n : Int) != (n' : Int)) = true := by rw [bne_iff_ne]; omega
    clear HBB
    go_enter Tryz.func39, Tryz.ntmps39
    go_wp2
    go_ret
    exact ⟨by rw [HR.out]; rfl, Below.refl _ _⟩
end Go.Proofs.YtmoaobfmopimlafGreatDoor
namespace Go.Proofs.YtmoaobfmopimlafGreatDoor
open Go.RowKit
open scoped Classical
set_option linter.unusedSimpArgs false in
set_option maxHeartbeats 4000000 in
set_option maxRecDepth 100000 in
theorem same_at (a1 a2 d1 d2 : Option Addr) (n1 c1 n2 c2 m1 k1 m2 k2 : Nat) (tip t tip' t' : Int) (p q : Bool) (w : World)
    (kn : ∀ W, Below w.heap.size w W → Calls Tryz.prog 37 #[.slice a1 n1 c1, .slice d1 m1 k1, .func (.func 38) #[] #[]] W fun e w' => e = .returned (.bool p) ∧ Below W.heap.size W w')
    (kc : ∀ W, Below w.heap.size w W → Calls Tryz.prog 39 #[.slice a2 n2 c2, .slice d2 m2 k2, .func (.func 12) #[] #[]] W fun e w' => e = .returned (.bool q) ∧ Below W.heap.size W w') :
    Calls Tryz.prog 16 #[wval (.slice a1 n1 c1) tip (.slice a2 n2 c2) t, wval (.slice d1 m1 k1) tip' (.slice d2 m2 k2) t'] w fun e w' => e = .returned (.bool ((tip == tip') && ((t == t') && (p && q)))) ∧ Below w.heap.size w w' := by
  have HB0 : Aside (Below w.heap.size w ((w.alloc (boxW (.slice a1 n1 c1) tip (.slice a2 n2 c2) t)).alloc (boxW (.slice d1 m1 k1) tip' (.slice d2 m2 k2) t'))) := grew (grew (Below.refl _ _) _) _
  have HX0 : Aside (((w.alloc (boxW (.slice a1 n1 c1) tip (.slice a2 n2 c2) t)).alloc (boxW (.slice d1 m1 k1) tip' (.slice d2 m2 k2) t')).heap[w.heap.size]? = some (boxW (.slice a1 n1 c1) tip (.slice a2 n2 c2) t)) := heap_old (heap_new _ _) _
  have HY0 : Aside (((w.alloc (boxW (.slice a1 n1 c1) tip (.slice a2 n2 c2) t)).alloc (boxW (.slice d1 m1 k1) tip' (.slice d2 m2 k2) t')).heap[w.heap.size + 1]? = some (boxW (.slice d1 m1 k1) tip' (.slice d2 m2 k2) t')) := by
    have := heap_new (w.alloc (boxW (.slice a1 n1 c1) tip (.slice a2 n2 c2) t)) (boxW (.slice d1 m1 k1) tip' (.slice d2 m2 k2) t')
    rwa [World.size_alloc] at this
  have KN : Aside _ := kn
  have KC : Aside _ := kc
  clear kn kc
  cases hti : (tip == tip') with
  | false =>
    go_enter Tryz.func16, Tryz.ntmps16
    go_upto_region 1 with fail
    generalize (w.alloc (boxW (.slice a1 n1 c1) tip (.slice a2 n2 c2) t)).alloc (boxW (.slice d1 m1 k1) tip' (.slice d2 m2 k2) t') = W0 at *
    have z0 : ∀ i, W0.cell? ⟨w.heap.size, i, none⟩ = #[Value.slice a1 n1 c1, .int .i64 tip, .slice a2 n2 c2, .int .i64 t][i]? := fun i => Joins.cell_of_block HX0.out i
    have y0 : ∀ i, W0.cell? ⟨w.heap.size + 1, i, none⟩ = #[Value.slice d1 m1 k1, .int .i64 tip', .slice d2 m2 k2, .int .i64 t'][i]? := fun i => Joins.cell_of_block HY0.out i
    go_wp2
    go_ret
    exact ⟨rfl, HB0.out⟩
  | true =>
    cases htt : (t == t') with
    | false =>
      go_enter Tryz.func16, Tryz.ntmps16
      go_upto_region 1 with fail
      generalize (w.alloc (boxW (.slice a1 n1 c1) tip (.slice a2 n2 c2) t)).alloc (boxW (.slice d1 m1 k1) tip' (.slice d2 m2 k2) t') = W0 at *
      have z0 : ∀ i, W0.cell? ⟨w.heap.size, i, none⟩ = #[Value.slice a1 n1 c1, .int .i64 tip, .slice a2 n2 c2, .int .i64 t][i]? := fun i => Joins.cell_of_block HX0.out i
      have y0 : ∀ i, W0.cell? ⟨w.heap.size + 1, i, none⟩ = #[Value.slice d1 m1 k1, .int .i64 tip', .slice d2 m2 k2, .int .i64 t'][i]? := fun i => Joins.cell_of_block HY0.out i
      go_wp2
      go_ret
      exact ⟨rfl, HB0.out⟩
    | true =>
      go_enter Tryz.func16, Tryz.ntmps16
      go_upto_region 1 with fail
      generalize (w.alloc (boxW (.slice a1 n1 c1) tip (.slice a2 n2 c2) t)).alloc (boxW (.slice d1 m1 k1) tip' (.slice d2 m2 k2) t') = W0 at *
      have z0 : ∀ i, W0.cell? ⟨w.heap.size, i, none⟩ = #[Value.slice a1 n1 c1, .int .i64 tip, .slice a2 n2 c2, .int .i64 t][i]? := fun i => Joins.cell_of_block HX0.out i
      have y0 : ∀ i, W0.cell? ⟨w.heap.size + 1, i, none⟩ = #[Value.slice d1 m1 k1, .int .i64 tip', .slice d2 m2 k2, .int .i64 t'][i]? := fun i => Joins.cell_of_block HY0.out i
      have kn := KN.out W0 HB0.out
      go_wp2_with fail
      refine kn.mono ?_
      rintro e w1 ⟨rfl, hb1⟩
      have HB1 : Aside (Below w.heap.size w w1) := step_below1 HB0.out hb1
      have HX1 : Aside (w1.heap[w.heap.size]? = some (boxW (.slice a1 n1 c1) tip (.slice a2 n2 c2) t)) := heap_below HX0.out hb1 (heap_lt HX0.out)
      have HY1 : Aside (w1.heap[w.heap.size + 1]? = some (boxW (.slice d1 m1 k1) tip' (.slice d2 m2 k2) t')) := heap_below HY0.out hb1 (heap_lt HY0.out)
      clear kn z0 y0 HX0 HY0 HB0 hb1
      have z1 : ∀ i, w1.cell? ⟨w.heap.size, i, none⟩ = #[Value.slice a1 n1 c1, .int .i64 tip, .slice a2 n2 c2, .int .i64 t][i]? := fun i => Joins.cell_of_block HX1.out i
      have y1 : ∀ i, w1.cell? ⟨w.heap.size + 1, i, none⟩ = #[Value.slice d1 m1 k1, .int .i64 tip', .slice d2 m2 k2, .int .i64 t'][i]? := fun i => Joins.cell_of_block HY1.out i
      cases p with
      | false =>
        go_wp2
        go_ret
        exact ⟨rfl, HB1.out⟩
      | true =>
        have kc := KC.out w1 HB1.out
        go_wp2_with fail
        refine kc.mono ?_
        rintro e w2 ⟨rfl, hb2⟩
        have HB2 : Aside (Below w.heap.size w w2) := step_below1 HB1.out hb2
        clear kc z1 y1 HX1 HY1 HB1 hb2
        go_wp2
        go_ret
        exact ⟨by simp, HB2.out⟩
/-- Package world's Same. -/
theorem w_same (vn vc un uc : Value) (xs ys : List Nb) (cs ds : List Cb) (tip t tip' t' : Int) (w : World) (h : WdAt w vn vc xs cs) (h' : WdAt w un uc ys ds) (hf : WdFits xs cs) :
    Calls Tryz.prog 16 #[wval vn tip vc t, wval un tip' uc t'] w fun e w' => e = .returned (.bool (decide (wdOf xs tip cs t = wdOf ys tip' ds t'))) ∧ Below w.heap.size w w' := by
  have kn := fun W (hb : Below w.heap.size w W) => eqfN vn un xs ys W (h.rowN.later hb) (h'.rowN.later hb) (fun x hx => ⟨(h.node x hx).later hb, hf.cells x hx⟩) (fun x hx => (h'.node x hx).later hb) hf.nsl
  have kc := fun W (hb : Below w.heap.size w W) => eqfC vc uc cs ds W (h.rowC.later hb) (h'.rowC.later hb) (fun x hx => ⟨bkAt_later (h.client x hx) hb, hf.jobs x hx, hf.rung x hx⟩) (fun x hx => bkAt_later (h'.client x hx) hb) hf.csl
  obtain ⟨a1, n1, c1, rfl⟩ := slOf_sl h.rowN
  obtain ⟨a2, n2, c2, rfl⟩ := slOf_sl h.rowC
  obtain ⟨d1, m1, k1, rfl⟩ := slOf_sl h'.rowN
  obtain ⟨d2, m2, k2, rfl⟩ := slOf_sl h'.rowC
  have := same_at a1 a2 d1 d2 n1 c1 n2 c2 m1 k1 m2 k2 tip t tip' t' _ _ w kn kc
  have e : decide (wdOf xs tip cs t = wdOf ys tip' ds t') = ((tip == tip') && ((t == t') && (decide (nodesOf xs = nodesOf ys) && decide (clientsOf cs = clientsOf ds)))) := by
    rw [Bool.eq_iff_iff, decide_eq_true_iff]
    simp only [Wd.mk.injEq, Bool.and_eq_true, decide_eq_true_eq, beq_iff_eq]
    constructor
    · rintro ⟨h1, h2, h3, h4⟩; exact ⟨h2, h4, h1, h3⟩
    · rintro ⟨h1, h2, h3, h4⟩; exact ⟨h3, h1, h4, h2⟩
  rw [e]
  exact this
end Go.Proofs.YtmoaobfmopimlafGreatDoor
namespace Go.Proofs.YtmoaobfmopimlafGreatDoor
open Go.RowKit
open scoped Classical
/-- These two slices, with a tip and a time, are this world. -/
def WV (w : World) (vn vc : Value) (W : Wd) : Prop := ∃ xs cs, WdAt w vn vc xs cs ∧ WdFits xs cs ∧ nodesOf xs = W.ns ∧ clientsOf cs = W.cs
theorem WV.later {w w' : World} {vn vc : Value} {W : Wd} (h : WV w vn vc W) (hb : Below w.heap.size w w') : WV w' vn vc W := by
  obtain ⟨xs, cs, h1, h2, h3⟩ := h
  exact ⟨xs, cs, h1.later hb, h2, h3⟩
theorem wd_eq {xs : List Nb} {cs : List Cb} {W : Wd} (h1 : nodesOf xs = W.ns) (h2 : clientsOf cs = W.cs) : wdOf xs W.tip cs W.t = W := by
  show (⟨nodesOf xs, W.tip, clientsOf cs, W.t⟩ : Wd) = W
  rw [h1, h2]
/-- A world that is answered: right, or none. -/
abbrev Good (W : Wd) : Prop := W = Wd.zero ∨ RW W
theorem wd_fits {xs : List Nb} {cs : List Cb} {W : Wd} (h : Good W) (e1 : nodesOf xs = W.ns) (e2 : clientsOf cs = W.cs) : WdFits xs cs := by
  have l1 : xs.length = W.ns.length := by rw [← e1]; exact (List.length_map ..).symm
  have l2 : cs.length = W.cs.length := by rw [← e2]; exact (List.length_map ..).symm
  have hn : ∀ x, x ∈ xs → x.n ∈ W.ns := fun x hx => by rw [← e1]; exact List.mem_map_of_mem hx
  have hc : ∀ x, x ∈ cs → x.c ∈ W.cs := fun x hx => by rw [← e2]; exact List.mem_map_of_mem hx
  rcases h with rfl | hR
  · exact ⟨by rw [l1]; exact Nat.zero_le _, by rw [l2]; exact Nat.zero_le _, fun x hx => (by cases hn x hx), fun x hx => (by cases hn x hx), fun x hx => (by cases hn x hx), fun x hx => (by cases hc x hx), fun x hx => (by cases hc x hx)⟩
  · have hk : ∀ x, x ∈ xs → x.n.ck = 0 := fun x hx => by
      obtain ⟨k, h⟩ := List.getElem?_of_mem (hn x hx)
      exact hR.node k x.n h
    have hq : ∀ x, x ∈ cs → x.c.ck = 0 := fun x hx => hR.client x.c (hc x hx)
    exact ⟨by rw [l1, hR.ns3]; decide, by rw [l2, hR.cs3]; decide, fun x hx => Nat.le_trans (Nat.le_of_eq (ckN_ok (hk x hx)).2.2) (by decide), fun x hx => Nat.le_trans (ck_short (hk x hx)).1 (by decide), fun x hx => Nat.le_trans (ck_short (hk x hx)).2 (by decide), fun x hx => Nat.le_trans (ckC_short (hq x hx)).1 (by decide), fun x hx => Nat.le_trans (ckC_short (hq x hx)).2 (by decide)⟩
theorem WRow.at {X w : World} {g1 g2 : Nat} {xs : List Nb} {cs : List Cb} (h : WRow X w g1 g2 xs cs) : WdAt w (.slice (some ⟨g1, 0, none⟩) 3 3) (.slice (some ⟨g2, 0, none⟩) 3 3) xs cs :=
  ⟨by have := slOf_lit (c := 3) Nb.five h.nrow rfl; rwa [h.three] at this, by have := slOf_lit (c := 3) Cb.twelve h.crow rfl; rwa [h.three'] at this, ⟨_, _, _, rfl, Nat.le_refl _⟩, ⟨_, _, _, rfl, Nat.le_refl _⟩, fun x hx => (h.nodes x hx).1, fun x hx => (h.clients x hx).1⟩
theorem WOut.wv {X w : World} {vn vc : Value} {W : Wd} (h : WOut X w vn vc W) (hg : Good W) : WV w vn vc W := by
  rcases h with ⟨rfl, rfl, rfl⟩ | ⟨g1, g2, ys, ds, rfl, rfl, hR, e1, e2⟩
  · exact ⟨[], [], ⟨SlOf.nil _ _, SlOf.nil _ _, ⟨_, _, _, rfl, Nat.le_refl _⟩, ⟨_, _, _, rfl, Nat.le_refl _⟩, fun x hx => (by cases hx), fun x hx => (by cases hx)⟩, wd_fits (W := Wd.zero) (Or.inl rfl) rfl rfl, rfl, rfl⟩
  · exact ⟨ys, ds, hR.at, wd_fits hg e1 e2, e1, e2⟩
theorem wnew_right : RW wnew := rw_iff.1 (by kernel_rfl)
theorem doOf_good (W : Wd) (x : Hp) : Good (doOf W x).1 := by
  rw [doOf]
  by_cases h1 : W.ck = 0
  · rw [if_neg (not_not_intro h1)]
    by_cases h2 : (happened W x).2 = 0
    · rw [if_neg (not_not_intro h2)]
      exact Or.inr (happened_right (rw_iff.1 h1) x)
    · rw [if_pos h2]; exact Or.inl rfl
  · rw [if_pos h1]; exact Or.inl rfl
theorem runOf_good (W : Wd) (l : List Hp) : Good (runOf W l).1 := by
  rw [runOf]
  by_cases h1 : W.ck = 0
  · rw [if_neg (not_not_intro h1)]
    by_cases h2 : 150 < l.length
    · rw [if_pos h2]; exact Or.inl rfl
    · rw [if_neg h2]
      exact Or.inr (runL_right l (rw_iff.1 h1))
  · rw [if_pos h1]; exact Or.inl rfl
theorem k_check {w : World} {vn vc : Value} {W : Wd} (hL : Laid w) (h : WV w vn vc W) :
    Calls Tryz.prog 11 #[wval vn W.tip vc W.t] w fun e w' => e = .returned (.int .i64 W.ck) ∧ Below w.heap.size w w' := by
  obtain ⟨xs, cs, h1, hf, e1, e2⟩ := h
  have := w_check vn vc xs cs W.tip W.t w hL h1 hf
  rwa [wd_eq e1 e2] at this
/-- Answers a world and what is wrong. -/
abbrev AnsK (f : FuncId) (args : Array Value) (w : World) (r : Wd × Int) : Prop :=
  Calls Tryz.prog f args w fun e w' => ∃ vn vc, e = .returned (.tuple #[wval vn r.1.tip vc r.1.t, .int .i64 r.2]) ∧ WV w' vn vc r.1 ∧ Below w.heap.size w w'
theorem k_do {w : World} {vn vc : Value} {W : Wd} (hL : Laid w) (h : WV w vn vc W) (x : Hp) : AnsK 9 #[wval vn W.tip vc W.t, x.val] w (doOf W x) := by
  obtain ⟨xs, cs, h1, hf, e1, e2⟩ := h
  have := w_do vn vc xs cs W.tip W.t x w hL h1 hf
  rw [wd_eq e1 e2] at this
  exact this.mono fun _ _ ⟨un, uc, he, hO, hb⟩ => ⟨un, uc, he, hO.wv (doOf_good W x), hb⟩
theorem k_run {w : World} {vn vc : Value} {W : Wd} (hL : Laid w) (h : WV w vn vc W) {v : Value} {l : List Hp} (hl : HpSl w v l) :
    Calls Tryz.prog 17 #[wval vn W.tip vc W.t, v] w fun e w' => ∃ un uc sv, e = .returned (.tuple #[wval un (runOf W l).1.tip uc (runOf W l).1.t, sv, .int .i64 (runOf W l).2.2]) ∧ WV w' un uc (runOf W l).1 ∧ ErSl w' sv (runOf W l).2.1 ∧ Below w.heap.size w w' := by
  obtain ⟨xs, cs, h1, hf, e1, e2⟩ := h
  have := w_run vn vc xs cs W.tip W.t v l w hL h1 hf hl
  rw [wd_eq e1 e2] at this
  exact this.mono fun _ _ ⟨un, uc, sv, he, hO, hs, hb⟩ => ⟨un, uc, sv, he, hO.wv (runOf_good W l), hs.sl, hb⟩
theorem k_same {w : World} {vn vc un uc : Value} {A B : Wd} (h : WV w vn vc A) (h' : WV w un uc B) :
    Calls Tryz.prog 16 #[wval vn A.tip vc A.t, wval un B.tip uc B.t] w fun e w' => e = .returned (.bool (decide (A = B))) ∧ Below w.heap.size w w' := by
  obtain ⟨xs, cs, h1, hf, e1, e2⟩ := h
  obtain ⟨ys, ds, h2, _, e3, e4⟩ := h'
  have := w_same vn vc un uc xs ys cs ds A.tip A.t B.tip B.t w h1 h2 hf
  rwa [wd_eq e1 e2, wd_eq e3 e4] at this
theorem k_new (w : World) : Calls Tryz.prog 26 #[] w fun e w' => ∃ vn vc, e = .returned (wval vn 0 vc 0) ∧ WV w' vn vc wnew ∧ Below w.heap.size w w' :=
  (w_new w).mono fun _ _ ⟨un, uc, he, hO, hb⟩ => ⟨un, uc, he, hO.wv (Or.inr wnew_right), hb⟩
/-- A right world's rows. -/
structure WF (w : World) (b o b' o' : Nat) (xs : List Nb) (cs : List Cb) (W : Wd) : Prop where
  rowN : RowAt Nb.cells 5 w b o xs
  rowC : RowAt Cb.cells 12 w b' o' cs
  node : ∀ x, x ∈ xs → NodeT w x
  client : ∀ x, x ∈ cs → ClientT w x
  fits : WdFits xs cs
  ns : nodesOf xs = W.ns
  cs : clientsOf cs = W.cs
theorem WF.later {w w' : World} {b o b' o' : Nat} {xs : List Nb} {cs : List Cb} {W : Wd} (h : WF w b o b' o' xs cs W) (hb : Below w.heap.size w w') : WF w' b o b' o' xs cs W :=
  ⟨h.rowN.later hb, h.rowC.later hb, fun x hx => (h.node x hx).later hb, fun x hx => bkAt_later (h.client x hx) hb, h.fits, h.ns, h.cs⟩
theorem roomy_le {a : Option Addr} {n c : Nat} (h : Roomy (.slice a n c)) : n ≤ c := by
  obtain ⟨_, _, _, e, hle⟩ := h
  injection e with _ e1 e2
  omega
theorem WV.form {w : World} {vn vc : Value} {W : Wd} (h : WV w vn vc W) (hR : RW W) : ∃ b o c b' o' c' xs cs, vn = .slice (some ⟨b, o, none⟩) 3 c ∧ vc = .slice (some ⟨b', o', none⟩) 3 c' ∧ 3 ≤ c ∧ 3 ≤ c' ∧ WF w b o b' o' xs cs W := by
  obtain ⟨xs, cs, h1, hf, e1, e2⟩ := h
  have l1 : xs.length = 3 := by rw [← hR.ns3, ← e1]; exact (List.length_map ..).symm
  have l2 : cs.length = 3 := by rw [← hR.cs3, ← e2]; exact (List.length_map ..).symm
  have r1 := h1.roomN
  have r2 := h1.roomC
  obtain ⟨b, o, c, rfl, hE⟩ := h1.rowN.form (by omega)
  obtain ⟨b', o', c', rfl, hE'⟩ := h1.rowC.form (by omega)
  exact ⟨b, o, c, b', o', c', xs, cs, by rw [l1], by rw [l2], by have := roomy_le r1; omega, by have := roomy_le r2; omega, hE, hE', h1.node, h1.client, hf, e1, e2⟩
theorem WF.back {w : World} {b o c b' o' c' : Nat} {xs : List Nb} {cs : List Cb} {W : Wd} (h : WF w b o b' o' xs cs W) (hR : RW W) (hc : 3 ≤ c) (hc' : 3 ≤ c') : WV w (.slice (some ⟨b, o, none⟩) 3 c) (.slice (some ⟨b', o', none⟩) 3 c') W := by
  have l1 : xs.length = 3 := by rw [← hR.ns3, ← h.ns]; exact (List.length_map ..).symm
  have l2 : cs.length = 3 := by rw [← hR.cs3, ← h.cs]; exact (List.length_map ..).symm
  exact ⟨xs, cs, ⟨⟨_, c, by rw [l1], Or.inr ⟨b, o, rfl, h.rowN⟩⟩, ⟨_, c', by rw [l2], Or.inr ⟨b', o', rfl, h.rowC⟩⟩, ⟨_, _, _, rfl, hc⟩, ⟨_, _, _, rfl, hc'⟩, h.node, h.client⟩, h.fits, h.ns, h.cs⟩
/-- A node of a right world, where it lies. -/
theorem WF.nodeAt {w : World} {b o b' o' : Nat} {xs : List Nb} {cs : List Cb} {W : Wd} (h : WF w b o b' o' xs cs W) {k : Nat} {n : Nd} (hn : W.ns[k]? = some n) : ∃ x : Nb, x ∈ xs ∧ x.n = n ∧ NodeT w x ∧ ∀ i v, x.cells[i]? = some v → w.cell? ⟨b, o + k * 5 + i, none⟩ = some v := by
  rw [← h.ns] at hn
  obtain ⟨x, hx, rfl⟩ : ∃ x, xs[k]? = some x ∧ x.n = n := by
    have : (xs.map Nb.n)[k]? = some n := hn
    rw [List.getElem?_map] at this
    cases hx : xs[k]? with
    | none => rw [hx] at this; cases this
    | some x => rw [hx] at this; exact ⟨x, rfl, Option.some.inj this⟩
  exact ⟨x, List.mem_of_getElem? hx, rfl, h.node x (List.mem_of_getElem? hx), fun i v hv => h.rowN k x hx i v hv⟩
/-- A client of a right world, where it lies. -/
theorem WF.clientAt {w : World} {b o b' o' : Nat} {xs : List Nb} {cs : List Cb} {W : Wd} (h : WF w b o b' o' xs cs W) {k : Nat} {c : Cl} (hc : W.cs[k]? = some c) : ∃ x : Cb, x ∈ cs ∧ x.c = c ∧ ClientT w x ∧ ∀ i v, x.cells[i]? = some v → w.cell? ⟨b', o' + k * 12 + i, none⟩ = some v := by
  rw [← h.cs] at hc
  obtain ⟨x, hx, rfl⟩ : ∃ x, cs[k]? = some x ∧ x.c = c := by
    have : (cs.map Cb.c)[k]? = some c := hc
    rw [List.getElem?_map] at this
    cases hx : cs[k]? with
    | none => rw [hx] at this; cases this
    | some x => rw [hx] at this; exact ⟨x, rfl, Option.some.inj this⟩
  exact ⟨x, List.mem_of_getElem? hx, rfl, h.client x (List.mem_of_getElem? hx), fun i v hv => h.rowC k x hx i v hv⟩
end Go.Proofs.YtmoaobfmopimlafGreatDoor
namespace Go.Proofs.YtmoaobfmopimlafGreatDoor
open Go.RowKit
open scoped Classical
theorem tlw_right : Good tlw := runOf_good wnew _
theorem toll_first : ∃ c, tlw.cs[0]? = some c ∧ c.n = 2 ∧ c.rs = [⟨2, 3, 0⟩] := by
  have h := toll_cl
  generalize tlw.cs = l at h
  match l, h with
  | c :: r, h =>
    rw [List.map_cons] at h
    injection h with h1 _
    injection h1 with h1 h2
    refine ⟨c, rfl, h1, ?_⟩
    cases hr : c.rs with
    | nil => rw [hr] at h2; cases h2
    | cons q t =>
      rw [hr, List.map_cons] at h2
      injection h2 with h3 h4
      obtain rfl : t = [] := List.map_eq_nil_iff.1 h4
      injection h3 with e1 e2
      injection e2 with e2 e3
      cases q
      simp_all
set_option linter.unusedSimpArgs false in
set_option maxHeartbeats 8000000 in
set_option maxRecDepth 100000 in
/-- tolled holds. -/
theorem tolled_any (w : World) (hL : Laid w) : Calls Tryz.prog 10 #[] w fun e w' => e = .returned (.bool true) ∧ Below w.heap.size w w' := by
  have HL : Aside (Laid w) := hL
  clear hL
  go_enter Tryz.func10, Tryz.ntmps10
  go_wp2_with fail
  refine (t_of 3 0 _).mono ?_
  rintro e w1 ⟨rfl, hb1⟩
  have B1 : Aside (Below w.heap.size w w1) := hb1
  clear hb1
  go_wp2_with fail
  refine (t_of 4 0 _).mono ?_
  rintro e w2 ⟨rfl, hb2⟩
  have B2 : Aside (Below w.heap.size w w2) := step_below1 B1.out hb2
  clear hb2 B1
  go_wp2_with fail
  refine (t_of 4 0 _).mono ?_
  rintro e w3 ⟨rfl, hb3⟩
  have B3 : Aside (Below w.heap.size w w3) := step_below1 B2.out hb3
  clear hb3 B2
  go_wp2_with fail
  refine (t_of 4 0 _).mono ?_
  rintro e w4 ⟨rfl, hb4⟩
  have B4 : Aside (Below w.heap.size w w4) := step_below1 B3.out hb4
  clear hb4 B3
  go_wp2_with fail
  refine (t_of 7 0 _).mono ?_
  rintro e w5 ⟨rfl, hb5⟩
  have B5 : Aside (Below w.heap.size w w5) := step_below1 B4.out hb5
  clear hb5 B4
  go_upto_region 3 with fail
  have hA : Below w5.heap.size w5 (w5.alloc (.cells #[.int .i64 3, .int .i64 0, .int .i64 0, .int .i64 0, .int .i64 0, .int .i64 0, .int .i64 0, .int .i64 0, .int .i64 0, .int .i64 0, .int .i64 4, .int .i64 0, .int .i64 0, .int .i64 0, .int .i64 0, .int .i64 0, .int .i64 0, .int .i64 0, .int .i64 0, .int .i64 0, .int .i64 4, .int .i64 0, .int .i64 0, .int .i64 0, .int .i64 0, .int .i64 0, .int .i64 0, .int .i64 0, .int .i64 0, .int .i64 0, .int .i64 4, .int .i64 0, .int .i64 0, .int .i64 0, .int .i64 0, .int .i64 0, .int .i64 0, .int .i64 0, .int .i64 0, .int .i64 0, .int .i64 7, .int .i64 0, .int .i64 0, .int .i64 0, .int .i64 0, .int .i64 0, .int .i64 0, .int .i64 0, .int .i64 0, .int .i64 0] 29)) := grew (Below.refl _ _) _
  have B6 : Aside (Below w.heap.size w (w5.alloc (.cells #[.int .i64 3, .int .i64 0, .int .i64 0, .int .i64 0, .int .i64 0, .int .i64 0, .int .i64 0, .int .i64 0, .int .i64 0, .int .i64 0, .int .i64 4, .int .i64 0, .int .i64 0, .int .i64 0, .int .i64 0, .int .i64 0, .int .i64 0, .int .i64 0, .int .i64 0, .int .i64 0, .int .i64 4, .int .i64 0, .int .i64 0, .int .i64 0, .int .i64 0, .int .i64 0, .int .i64 0, .int .i64 0, .int .i64 0, .int .i64 0, .int .i64 4, .int .i64 0, .int .i64 0, .int .i64 0, .int .i64 0, .int .i64 0, .int .i64 0, .int .i64 0, .int .i64 0, .int .i64 0, .int .i64 7, .int .i64 0, .int .i64 0, .int .i64 0, .int .i64 0, .int .i64 0, .int .i64 0, .int .i64 0, .int .i64 0, .int .i64 0] 29))) := step_below1 B5.out hA
  have S6 : Aside (HpSl (w5.alloc (.cells #[.int .i64 3, .int .i64 0, .int .i64 0, .int .i64 0, .int .i64 0, .int .i64 0, .int .i64 0, .int .i64 0, .int .i64 0, .int .i64 0, .int .i64 4, .int .i64 0, .int .i64 0, .int .i64 0, .int .i64 0, .int .i64 0, .int .i64 0, .int .i64 0, .int .i64 0, .int .i64 0, .int .i64 4, .int .i64 0, .int .i64 0, .int .i64 0, .int .i64 0, .int .i64 0, .int .i64 0, .int .i64 0, .int .i64 0, .int .i64 0, .int .i64 4, .int .i64 0, .int .i64 0, .int .i64 0, .int .i64 0, .int .i64 0, .int .i64 0, .int .i64 0, .int .i64 0, .int .i64 0, .int .i64 7, .int .i64 0, .int .i64 0, .int .i64 0, .int .i64 0, .int .i64 0, .int .i64 0, .int .i64 0, .int .i64 0, .int .i64 0] 29)) (.slice (some ⟨w5.heap.size, 0, none⟩) 5 5) tl2) := slOf_lit (xs := tl2) Hp.ten (heap_new w5 (.cells #[.int .i64 3, .int .i64 0, .int .i64 0, .int .i64 0, .int .i64 0, .int .i64 0, .int .i64 0, .int .i64 0, .int .i64 0, .int .i64 0, .int .i64 4, .int .i64 0, .int .i64 0, .int .i64 0, .int .i64 0, .int .i64 0, .int .i64 0, .int .i64 0, .int .i64 0, .int .i64 0, .int .i64 4, .int .i64 0, .int .i64 0, .int .i64 0, .int .i64 0, .int .i64 0, .int .i64 0, .int .i64 0, .int .i64 0, .int .i64 0, .int .i64 4, .int .i64 0, .int .i64 0, .int .i64 0, .int .i64 0, .int .i64 0, .int .i64 0, .int .i64 0, .int .i64 0, .int .i64 0, .int .i64 7, .int .i64 0, .int .i64 0, .int .i64 0, .int .i64 0, .int .i64 0, .int .i64 0, .int .i64 0, .int .i64 0, .int .i64 0] 29)) rfl
  generalize w5.alloc (.cells #[.int .i64 3, .int .i64 0, .int .i64 0, .int .i64 0, .int .i64 0, .int .i64 0, .int .i64 0, .int .i64 0, .int .i64 0, .int .i64 0, .int .i64 4, .int .i64 0, .int .i64 0, .int .i64 0, .int .i64 0, .int .i64 0, .int .i64 0, .int .i64 0, .int .i64 0, .int .i64 0, .int .i64 4, .int .i64 0, .int .i64 0, .int .i64 0, .int .i64 0, .int .i64 0, .int .i64 0, .int .i64 0, .int .i64 0, .int .i64 0, .int .i64 4, .int .i64 0, .int .i64 0, .int .i64 0, .int .i64 0, .int .i64 0, .int .i64 0, .int .i64 0, .int .i64 0, .int .i64 0, .int .i64 7, .int .i64 0, .int .i64 0, .int .i64 0, .int .i64 0, .int .i64 0, .int .i64 0, .int .i64 0, .int .i64 0, .int .i64 0] 29) = w6 at *
  generalize w5.heap.size = s2 at *
  clear hA B5
  go_wp2_with fail
  refine (k_new _).mono ?_
  rintro e w7 ⟨vn, vc, rfl, hO, hb7⟩
  have B7 : Aside (Below w.heap.size w w7) := step_below1 B6.out hb7
  have S7 : Aside (HpSl w7 (.slice (some ⟨s2, 0, none⟩) 5 5) tl2) := S6.out.later hb7
  have O7 : Aside (WV w7 vn vc wnew) := hO
  clear hb7 B6 S6 hO
  go_wp2_with fail
  refine (t_put 2 5 3 _).mono ?_
  rintro e w8 ⟨rfl, hb8⟩
  have B8 : Aside (Below w.heap.size w w8) := step_below1 B7.out hb8
  have S8 : Aside (HpSl w8 (.slice (some ⟨s2, 0, none⟩) 5 5) tl2) := S7.out.later hb8
  have O8 : Aside (WV w8 vn vc wnew) := O7.out.later hb8
  clear hb8 B7 S7 O7
  have hA : Below w8.heap.size w8 (((w8.alloc (.cells #[.int .i64 1, .int .i64 0, .int .i64 0, .int .i64 0, .int .i64 0, .int .i64 1, .int .i64 2, .int .i64 5, .int .i64 3, .int .i64 0] 29)).alloc (.cells #[.int .i64 2, .int .i64 0, .int .i64 0, .int .i64 2, .int .i64 0, .int .i64 0, .int .i64 0, .int .i64 0, .int .i64 0, .int .i64 0, .int .i64 11, .int .i64 0, .int .i64 4, .int .i64 0, .int .i64 0, .int .i64 0, .int .i64 0, .int .i64 0, .int .i64 0, .int .i64 0, .int .i64 2, .int .i64 0, .int .i64 0, .int .i64 2, .int .i64 0, .int .i64 0, .int .i64 0, .int .i64 0, .int .i64 0, .int .i64 0] 29)).alloc (.cells #[.slice (some ⟨w8.heap.size, 0, none⟩) 1 1, .slice (some ⟨s2, 0, none⟩) 5 5, .slice (some ⟨w8.heap.size + 1, 0, none⟩) 3 3, .slice (some ⟨s2, 0, none⟩) 5 5] 57)) := grew (grew (grew (Below.refl _ _) _) _) _
  have B9 : Aside (Below w.heap.size w (((w8.alloc (.cells #[.int .i64 1, .int .i64 0, .int .i64 0, .int .i64 0, .int .i64 0, .int .i64 1, .int .i64 2, .int .i64 5, .int .i64 3, .int .i64 0] 29)).alloc (.cells #[.int .i64 2, .int .i64 0, .int .i64 0, .int .i64 2, .int .i64 0, .int .i64 0, .int .i64 0, .int .i64 0, .int .i64 0, .int .i64 0, .int .i64 11, .int .i64 0, .int .i64 4, .int .i64 0, .int .i64 0, .int .i64 0, .int .i64 0, .int .i64 0, .int .i64 0, .int .i64 0, .int .i64 2, .int .i64 0, .int .i64 0, .int .i64 2, .int .i64 0, .int .i64 0, .int .i64 0, .int .i64 0, .int .i64 0, .int .i64 0] 29)).alloc (.cells #[.slice (some ⟨w8.heap.size, 0, none⟩) 1 1, .slice (some ⟨s2, 0, none⟩) 5 5, .slice (some ⟨w8.heap.size + 1, 0, none⟩) 3 3, .slice (some ⟨s2, 0, none⟩) 5 5] 57))) := step_below1 B8.out hA
  have S9 : Aside (HpSl (((w8.alloc (.cells #[.int .i64 1, .int .i64 0, .int .i64 0, .int .i64 0, .int .i64 0, .int .i64 1, .int .i64 2, .int .i64 5, .int .i64 3, .int .i64 0] 29)).alloc (.cells #[.int .i64 2, .int .i64 0, .int .i64 0, .int .i64 2, .int .i64 0, .int .i64 0, .int .i64 0, .int .i64 0, .int .i64 0, .int .i64 0, .int .i64 11, .int .i64 0, .int .i64 4, .int .i64 0, .int .i64 0, .int .i64 0, .int .i64 0, .int .i64 0, .int .i64 0, .int .i64 0, .int .i64 2, .int .i64 0, .int .i64 0, .int .i64 2, .int .i64 0, .int .i64 0, .int .i64 0, .int .i64 0, .int .i64 0, .int .i64 0] 29)).alloc (.cells #[.slice (some ⟨w8.heap.size, 0, none⟩) 1 1, .slice (some ⟨s2, 0, none⟩) 5 5, .slice (some ⟨w8.heap.size + 1, 0, none⟩) 3 3, .slice (some ⟨s2, 0, none⟩) 5 5] 57)) (.slice (some ⟨s2, 0, none⟩) 5 5) tl2) := S8.out.later hA
  have O9 : Aside (WV (((w8.alloc (.cells #[.int .i64 1, .int .i64 0, .int .i64 0, .int .i64 0, .int .i64 0, .int .i64 1, .int .i64 2, .int .i64 5, .int .i64 3, .int .i64 0] 29)).alloc (.cells #[.int .i64 2, .int .i64 0, .int .i64 0, .int .i64 2, .int .i64 0, .int .i64 0, .int .i64 0, .int .i64 0, .int .i64 0, .int .i64 0, .int .i64 11, .int .i64 0, .int .i64 4, .int .i64 0, .int .i64 0, .int .i64 0, .int .i64 0, .int .i64 0, .int .i64 0, .int .i64 0, .int .i64 2, .int .i64 0, .int .i64 0, .int .i64 2, .int .i64 0, .int .i64 0, .int .i64 0, .int .i64 0, .int .i64 0, .int .i64 0] 29)).alloc (.cells #[.slice (some ⟨w8.heap.size, 0, none⟩) 1 1, .slice (some ⟨s2, 0, none⟩) 5 5, .slice (some ⟨w8.heap.size + 1, 0, none⟩) 3 3, .slice (some ⟨s2, 0, none⟩) 5 5] 57)) vn vc wnew) := O8.out.later hA
  have S1 : Aside (HpSl (((w8.alloc (.cells #[.int .i64 1, .int .i64 0, .int .i64 0, .int .i64 0, .int .i64 0, .int .i64 1, .int .i64 2, .int .i64 5, .int .i64 3, .int .i64 0] 29)).alloc (.cells #[.int .i64 2, .int .i64 0, .int .i64 0, .int .i64 2, .int .i64 0, .int .i64 0, .int .i64 0, .int .i64 0, .int .i64 0, .int .i64 0, .int .i64 11, .int .i64 0, .int .i64 4, .int .i64 0, .int .i64 0, .int .i64 0, .int .i64 0, .int .i64 0, .int .i64 0, .int .i64 0, .int .i64 2, .int .i64 0, .int .i64 0, .int .i64 2, .int .i64 0, .int .i64 0, .int .i64 0, .int .i64 0, .int .i64 0, .int .i64 0] 29)).alloc (.cells #[.slice (some ⟨w8.heap.size, 0, none⟩) 1 1, .slice (some ⟨s2, 0, none⟩) 5 5, .slice (some ⟨w8.heap.size + 1, 0, none⟩) 3 3, .slice (some ⟨s2, 0, none⟩) 5 5] 57)) (.slice (some ⟨w8.heap.size, 0, none⟩) 1 1) tl1) := slOf_lit (xs := tl1) Hp.ten (heap_old (heap_old (heap_new w8 (.cells #[.int .i64 1, .int .i64 0, .int .i64 0, .int .i64 0, .int .i64 0, .int .i64 1, .int .i64 2, .int .i64 5, .int .i64 3, .int .i64 0] 29)) _) _) rfl
  have S3 : Aside (HpSl (((w8.alloc (.cells #[.int .i64 1, .int .i64 0, .int .i64 0, .int .i64 0, .int .i64 0, .int .i64 1, .int .i64 2, .int .i64 5, .int .i64 3, .int .i64 0] 29)).alloc (.cells #[.int .i64 2, .int .i64 0, .int .i64 0, .int .i64 2, .int .i64 0, .int .i64 0, .int .i64 0, .int .i64 0, .int .i64 0, .int .i64 0, .int .i64 11, .int .i64 0, .int .i64 4, .int .i64 0, .int .i64 0, .int .i64 0, .int .i64 0, .int .i64 0, .int .i64 0, .int .i64 0, .int .i64 2, .int .i64 0, .int .i64 0, .int .i64 2, .int .i64 0, .int .i64 0, .int .i64 0, .int .i64 0, .int .i64 0, .int .i64 0] 29)).alloc (.cells #[.slice (some ⟨w8.heap.size, 0, none⟩) 1 1, .slice (some ⟨s2, 0, none⟩) 5 5, .slice (some ⟨w8.heap.size + 1, 0, none⟩) 3 3, .slice (some ⟨s2, 0, none⟩) 5 5] 57)) (.slice (some ⟨w8.heap.size + 1, 0, none⟩) 3 3) tl3) := by
    have h := heap_new (w8.alloc (.cells #[.int .i64 1, .int .i64 0, .int .i64 0, .int .i64 0, .int .i64 0, .int .i64 1, .int .i64 2, .int .i64 5, .int .i64 3, .int .i64 0] 29)) (.cells #[.int .i64 2, .int .i64 0, .int .i64 0, .int .i64 2, .int .i64 0, .int .i64 0, .int .i64 0, .int .i64 0, .int .i64 0, .int .i64 0, .int .i64 11, .int .i64 0, .int .i64 4, .int .i64 0, .int .i64 0, .int .i64 0, .int .i64 0, .int .i64 0, .int .i64 0, .int .i64 0, .int .i64 2, .int .i64 0, .int .i64 0, .int .i64 2, .int .i64 0, .int .i64 0, .int .i64 0, .int .i64 0, .int .i64 0, .int .i64 0] 29)
    rw [World.size_alloc] at h
    exact slOf_lit (xs := tl3) Hp.ten (heap_old h _) rfl
  have R9 : Aside ((((w8.alloc (.cells #[.int .i64 1, .int .i64 0, .int .i64 0, .int .i64 0, .int .i64 0, .int .i64 1, .int .i64 2, .int .i64 5, .int .i64 3, .int .i64 0] 29)).alloc (.cells #[.int .i64 2, .int .i64 0, .int .i64 0, .int .i64 2, .int .i64 0, .int .i64 0, .int .i64 0, .int .i64 0, .int .i64 0, .int .i64 0, .int .i64 11, .int .i64 0, .int .i64 4, .int .i64 0, .int .i64 0, .int .i64 0, .int .i64 0, .int .i64 0, .int .i64 0, .int .i64 0, .int .i64 2, .int .i64 0, .int .i64 0, .int .i64 2, .int .i64 0, .int .i64 0, .int .i64 0, .int .i64 0, .int .i64 0, .int .i64 0] 29)).alloc (.cells #[.slice (some ⟨w8.heap.size, 0, none⟩) 1 1, .slice (some ⟨s2, 0, none⟩) 5 5, .slice (some ⟨w8.heap.size + 1, 0, none⟩) 3 3, .slice (some ⟨s2, 0, none⟩) 5 5] 57)).heap[w8.heap.size + 1 + 1]? = some (.cells #[.slice (some ⟨w8.heap.size, 0, none⟩) 1 1, .slice (some ⟨s2, 0, none⟩) 5 5, .slice (some ⟨w8.heap.size + 1, 0, none⟩) 3 3, .slice (some ⟨s2, 0, none⟩) 5 5] 57)) := by
    have h := heap_new ((w8.alloc (.cells #[.int .i64 1, .int .i64 0, .int .i64 0, .int .i64 0, .int .i64 0, .int .i64 1, .int .i64 2, .int .i64 5, .int .i64 3, .int .i64 0] 29)).alloc (.cells #[.int .i64 2, .int .i64 0, .int .i64 0, .int .i64 2, .int .i64 0, .int .i64 0, .int .i64 0, .int .i64 0, .int .i64 0, .int .i64 0, .int .i64 11, .int .i64 0, .int .i64 4, .int .i64 0, .int .i64 0, .int .i64 0, .int .i64 0, .int .i64 0, .int .i64 0, .int .i64 0, .int .i64 2, .int .i64 0, .int .i64 0, .int .i64 2, .int .i64 0, .int .i64 0, .int .i64 0, .int .i64 0, .int .i64 0, .int .i64 0] 29)) (.cells #[.slice (some ⟨w8.heap.size, 0, none⟩) 1 1, .slice (some ⟨s2, 0, none⟩) 5 5, .slice (some ⟨w8.heap.size + 1, 0, none⟩) 3 3, .slice (some ⟨s2, 0, none⟩) 5 5] 57)
    rwa [World.size_alloc, World.size_alloc] at h
  have kc := concat4H (w8.heap.size + 1 + 1) _ _ _ _ tl1 tl2 tl3 tl2 (((w8.alloc (.cells #[.int .i64 1, .int .i64 0, .int .i64 0, .int .i64 0, .int .i64 0, .int .i64 1, .int .i64 2, .int .i64 5, .int .i64 3, .int .i64 0] 29)).alloc (.cells #[.int .i64 2, .int .i64 0, .int .i64 0, .int .i64 2, .int .i64 0, .int .i64 0, .int .i64 0, .int .i64 0, .int .i64 0, .int .i64 0, .int .i64 11, .int .i64 0, .int .i64 4, .int .i64 0, .int .i64 0, .int .i64 0, .int .i64 0, .int .i64 0, .int .i64 0, .int .i64 0, .int .i64 2, .int .i64 0, .int .i64 0, .int .i64 2, .int .i64 0, .int .i64 0, .int .i64 0, .int .i64 0, .int .i64 0, .int .i64 0] 29)).alloc (.cells #[.slice (some ⟨w8.heap.size, 0, none⟩) 1 1, .slice (some ⟨s2, 0, none⟩) 5 5, .slice (some ⟨w8.heap.size + 1, 0, none⟩) 3 3, .slice (some ⟨s2, 0, none⟩) 5 5] 57)) R9.out S1.out S9.out S3.out S9.out (by decide)
  go_wp2_with fail
  refine kc.mono ?_
  rintro e w10 ⟨v, rfl, hS, hb10⟩
  have B10 : Aside (Below w.heap.size w w10) := step_below1 B9.out hb10
  have O10 : Aside (WV w10 vn vc wnew) := O9.out.later hb10
  have kr := k_run (HL.out.later B10.out) O10.out hS
  rw [toll_said] at kr
  change Calls _ _ _ _ (fun e w' => ∃ un uc sv, e = .returned (.tuple #[wval un tlw.tip uc tlw.t, sv, .int .i64 0]) ∧ WV w' un uc tlw ∧ ErSl w' sv [0, 0, 0, 0, 0, 0, 5, 0, 0, 0, 0, 0, 0, 0] ∧ Below w10.heap.size w10 w') at kr
  rw [toll_tip] at kr
  obtain ⟨tt, htt⟩ : ∃ tt, tlw.t = tt := ⟨_, rfl⟩
  rw [htt] at kr
  clear kc hb10 B9 S9 O9 S1 S3 R9 hA B8 S8 O8 hS htt
  go_wp2_with fail
  refine kr.mono ?_
  rintro e w11 ⟨un, uc, sv, rfl, hO, hs, hb11⟩
  obtain ⟨b, o, c, b', o', c', xs, cs, rfl, rfl, _, _, hF⟩ := hO.form (tlw_right.resolve_left (fun h => by have := congrArg Wd.tip h; rw [toll_tip] at this; cases this))
  have B11 : Aside (Below w.heap.size w w11) := step_below1 B10.out hb11
  have HF : Aside (WF w11 b o b' o' xs cs tlw) := hF
  have HS : Aside (ErSl w11 sv [0, 0, 0, 0, 0, 0, 5, 0, 0, 0, 0, 0, 0, 0]) := hs
  clear kr hO hs hb11 hF B10 O10
  go_upto_region 4 with fail
  have hA : Below w11.heap.size w11 (w11.alloc (boxW (.slice (some ⟨b, o, none⟩) 3 c) 2 (.slice (some ⟨b', o', none⟩) 3 c') tt)) := grew (Below.refl _ _) _
  have B12 : Aside (Below w.heap.size w (w11.alloc (boxW (.slice (some ⟨b, o, none⟩) 3 c) 2 (.slice (some ⟨b', o', none⟩) 3 c') tt))) := step_below1 B11.out hA
  have F12 : Aside (WF (w11.alloc (boxW (.slice (some ⟨b, o, none⟩) 3 c) 2 (.slice (some ⟨b', o', none⟩) 3 c') tt)) b o b' o' xs cs tlw) := HF.out.later hA
  have S12 : Aside (ErSl (w11.alloc (boxW (.slice (some ⟨b, o, none⟩) 3 c) 2 (.slice (some ⟨b', o', none⟩) 3 c') tt)) sv [0, 0, 0, 0, 0, 0, 5, 0, 0, 0, 0, 0, 0, 0]) := HS.out.later hA
  have X12 : Aside ((w11.alloc (boxW (.slice (some ⟨b, o, none⟩) 3 c) 2 (.slice (some ⟨b', o', none⟩) 3 c') tt)).heap[w11.heap.size]? = some (boxW (.slice (some ⟨b, o, none⟩) 3 c) 2 (.slice (some ⟨b', o', none⟩) 3 c') tt)) := heap_new _ _
  generalize w11.alloc (boxW (.slice (some ⟨b, o, none⟩) 3 c) 2 (.slice (some ⟨b', o', none⟩) 3 c') tt) = w12 at *
  generalize w11.heap.size = bx at *
  clear hA B11 HF HS
  have ki := indexE sv [0, 0, 0, 0, 0, 0, 5, 0, 0, 0, 0, 0, 0, 0] 5 w12 S12.out (by decide)
  rw [show idx (fun x : Int => 5 == x) [0, 0, 0, 0, 0, 0, 5, 0, 0, 0, 0, 0, 0, 0] = 6 from rfl] at ki
  go_wp2_with fail
  refine ki.mono ?_
  rintro e w13 ⟨rfl, hb13⟩
  have B13 : Aside (Below w.heap.size w w13) := step_below1 B12.out hb13
  have F13 : Aside (WF w13 b o b' o' xs cs tlw) := F12.out.later hb13
  have S13 : Aside (ErSl w13 sv [0, 0, 0, 0, 0, 0, 5, 0, 0, 0, 0, 0, 0, 0]) := S12.out.later hb13
  have X13 : Aside (w13.heap[bx]? = some (boxW (.slice (some ⟨b, o, none⟩) 3 c) 2 (.slice (some ⟨b', o', none⟩) 3 c') tt)) := heap_below X12.out hb13 (heap_lt X12.out)
  clear ki hb13 B12 F12 S12 X12
  have kf := containsFE (fun q => (q != 0) && (q != 5)) 31 #[] (fun _ _ => rfl) sv [0, 0, 0, 0, 0, 0, 5, 0, 0, 0, 0, 0, 0, 0] w13 S13.out (by decide) (fun W x hb => (t_bad x W).mono fun _ _ ⟨he, hw⟩ => ⟨he, by rw [hw]; exact hb⟩)
  rw [show decide (0 ≤ idx (fun q : Int => (q != 0) && (q != 5)) [0, 0, 0, 0, 0, 0, 5, 0, 0, 0, 0, 0, 0, 0]) = false from rfl] at kf
  go_wp2_with fail
  refine kf.mono ?_
  rintro e w14 ⟨rfl, hb14⟩
  have B14 : Aside (Below w.heap.size w w14) := step_below1 B13.out hb14
  have X14 : Aside (w14.heap[bx]? = some (boxW (.slice (some ⟨b, o, none⟩) 3 c) 2 (.slice (some ⟨b', o', none⟩) 3 c') tt)) := heap_below X13.out hb14 (heap_lt X13.out)
  obtain ⟨cl, hcl, hcn, hcr⟩ := toll_first
  obtain ⟨y, _, hy, hyT, hyc⟩ := (F13.out.later hb14).clientAt hcl
  have hr := hyT.2
  rw [hy, hcr] at hr
  obtain ⟨rb, ro, rc, hv2, hE⟩ := SlOf.form (cs := Rg.cells) (k := 3) hr (by decide)
  have y9 := hyc 9 _ rfl
  have y11 := hyc 11 _ rfl
  rw [hy, hcn] at y9
  rw [hv2] at y11
  have r0 := hE 0 ⟨2, 3, 0⟩ rfl 0 _ rfl
  have r1 := hE 0 ⟨2, 3, 0⟩ rfl 1 _ rfl
  have r2 := hE 0 ⟨2, 3, 0⟩ rfl 2 _ rfl
  simp only [Nat.zero_mul, Nat.add_zero] at y9 y11 r0 r1 r2
  have zx : ∀ i, w14.cell? ⟨bx, i, none⟩ = (#[.slice (some ⟨b, o, none⟩) 3 c, .int .i64 2, .slice (some ⟨b', o', none⟩) 3 c', .int .i64 tt] : Array Value)[i]? := fun i => Joins.cell_of_block X14.out i
  clear kf hb14 B13 F13 S13 X13 hcl hcn hcr hy hyT hyc hr hv2 hE
  go_wp2
  go_ret
  exact ⟨rfl, B14.out⟩
end Go.Proofs.YtmoaobfmopimlafGreatDoor
namespace Go.Proofs.YtmoaobfmopimlafGreatDoor
open Go.RowKit
open scoped Classical
theorem at_same (k : Int) : ∃ m : Nat, m < 3 ∧ ∀ w : World, Calls Tryz.prog 15 #[.int .i64 k, .int .i64 3] w fun e w' => e = .returned (.int .i64 m) ∧ w' = w := by
  have hb := Int.tmod_lt_of_pos k (show (0 : Int) < 3 by omega)
  have hb' : -3 < k.tmod 3 := Int.lt_tmod_of_pos k (by omega)
  by_cases h : k.tmod 3 < 0
  · refine ⟨(k.tmod 3 + 3).toNat, by omega, fun w => ?_⟩
    go_enter Tryz.func15, Tryz.ntmps15
    go_wp2
    go_ret
    refine ⟨?_, rfl⟩
    exact congrArg (fun q : Int => Ending.returned (Value.int .i64 q)) (by omega)
  · refine ⟨(k.tmod 3).toNat, by omega, fun w => ?_⟩
    go_enter Tryz.func15, Tryz.ntmps15
    go_wp2
    go_ret
    refine ⟨?_, rfl⟩
    exact congrArg (fun q : Int => Ending.returned (Value.int .i64 q)) (by omega)
theorem at_three (k : Int) (w : World) : Calls Tryz.prog 15 #[.int .i64 k, .int .i64 3] w fun e w' => ∃ m : Nat, m < 3 ∧ e = .returned (.int .i64 m) ∧ w' = w := by
  obtain ⟨m, hm, h⟩ := at_same k
  exact (h w).mono fun e w' ⟨he, hw⟩ => ⟨m, hm, he, hw⟩
/-- Do, where the world is right. -/
theorem doOf_ok {W X : Wd} {x : Hp} (h : RW W) (hx : happened W x = (X, 0)) : doOf W x = (X, 0) := by
  rw [doOf, if_neg (not_not_intro (rw_iff.2 h)), hx, if_neg (by simp)]
theorem nd_at {W : Wd} (h : RW W) {m : Nat} (hm : m < 3) : W.ns[m]? = some (W.nd m) := by
  have := h.nd_at (k := (m : Int)) (by omega)
  simpa using this
set_option linter.unusedSimpArgs false in
set_option linter.unusedVariables false in
set_option maxHeartbeats 8000000 in
set_option maxRecDepth 100000 in
theorem stands_wrong (vn vc : Value) (W : Wd) (k : Int) (w : World) (hL : Laid w) (h : WV w vn vc W) (hz : W.ck ≠ 0) :
    Calls Tryz.prog 4 #[wval vn W.tip vc W.t, .int .i64 k] w fun e w' => e = .returned (.bool true) ∧ Below w.heap.size w w' := by
  have hA0 : Below w.heap.size w (w.alloc (boxW (vn) W.tip (vc) W.t)) := grew (Below.refl _ _) _
  have B_0 : Aside (Below w.heap.size w (w.alloc (boxW (vn) W.tip (vc) W.t))) := hA0
  have Q_0 : Aside ((w.alloc (boxW (vn) W.tip (vc) W.t)).heap[w.heap.size]? = some (boxW (vn) W.tip (vc) W.t)) := by
    have h := heap_new w (boxW (vn) W.tip (vc) W.t)
    exact h
  have HL : Aside (Laid w) := hL
  have hzb : (W.ck != 0) = true := by rw [bne_iff_ne]; exact hz
  have V_0 : Aside (WV (w.alloc (boxW (vn) W.tip (vc) W.t)) vn vc W) := h.later hA0
  clear hL h hz
  go_enter Tryz.func4, Tryz.ntmps4
  go_upto_region 1 with fail
  generalize (w.alloc (boxW (vn) W.tip (vc) W.t)) = w0 at *
  clear hA0
  go_wp2_with fail
  refine (tolled_any _ (HL.out.later B_0.out)).mono ?_
  rintro e w1 ⟨rfl, hb1⟩
  have Q_1 : Aside (w1.heap[w.heap.size]? = some (boxW (vn) W.tip (vc) W.t)) := heap_below Q_0.out hb1 (heap_lt Q_0.out)
  have V_1 : Aside (WV w1 vn vc W) := V_0.out.later hb1
  have B_1 : Aside (Below w.heap.size w w1) := step_below1 B_0.out hb1
  clear hb1 Q_0 V_0 B_0 
  have zQ : ∀ i, w1.cell? ⟨w.heap.size, i, none⟩ = (#[vn, .int .i64 W.tip, vc, .int .i64 W.t] : Array Value)[i]? := fun i => Joins.cell_of_block Q_1.out i
  have kc := k_check (HL.out.later B_1.out) V_1.out
  go_wp2_with fail
  refine (kc).mono ?_
  rintro e w2 ⟨rfl, hb2⟩
  have Q_2 : Aside (w2.heap[w.heap.size]? = some (boxW (vn) W.tip (vc) W.t)) := heap_below Q_1.out hb2 (heap_lt Q_1.out)
  have V_2 : Aside (WV w2 vn vc W) := V_1.out.later hb2
  have B_2 : Aside (Below w.heap.size w w2) := step_below1 B_1.out hb2
  clear hb2 Q_1 V_1 B_1 kc zQ
  go_wp2_with fail
  refine (tolled_any _ (HL.out.later B_2.out)).mono ?_
  rintro e w3 ⟨rfl, hb3⟩
  have Q_3 : Aside (w3.heap[w.heap.size]? = some (boxW (vn) W.tip (vc) W.t)) := heap_below Q_2.out hb3 (heap_lt Q_2.out)
  have V_3 : Aside (WV w3 vn vc W) := V_2.out.later hb3
  have B_3 : Aside (Below w.heap.size w w3) := step_below1 B_2.out hb3
  clear hb3 Q_2 V_2 B_2 
  go_wp2
  go_ret
  exact ⟨rfl, B_3.out⟩
set_option linter.unusedSimpArgs false in
set_option linter.unusedVariables false in
set_option maxHeartbeats 8000000 in
set_option maxRecDepth 100000 in
theorem stands_right (b o c b' o' c' : Nat) (xs : List Nb) (cs : List Cb) (W : Wd) (k : Int) (w : World) (hL : Laid w) (h : WF w b o b' o' xs cs W) (hR : RW W) (hc : 3 ≤ c) (hc' : 3 ≤ c') :
    Calls Tryz.prog 4 #[wval (.slice (some ⟨b, o, none⟩) 3 c) W.tip (.slice (some ⟨b', o', none⟩) 3 c') W.t, .int .i64 k] w fun e w' => e = .returned (.bool true) ∧ Below w.heap.size w w' := by
  have hA0 : Below w.heap.size w (w.alloc (boxW (.slice (some ⟨b, o, none⟩) 3 c) W.tip (.slice (some ⟨b', o', none⟩) 3 c') W.t)) := grew (Below.refl _ _) _
  have B_0 : Aside (Below w.heap.size w (w.alloc (boxW (.slice (some ⟨b, o, none⟩) 3 c) W.tip (.slice (some ⟨b', o', none⟩) 3 c') W.t))) := hA0
  have Q_0 : Aside ((w.alloc (boxW (.slice (some ⟨b, o, none⟩) 3 c) W.tip (.slice (some ⟨b', o', none⟩) 3 c') W.t)).heap[w.heap.size]? = some (boxW (.slice (some ⟨b, o, none⟩) 3 c) W.tip (.slice (some ⟨b', o', none⟩) 3 c') W.t)) := by
    have h := heap_new w (boxW (.slice (some ⟨b, o, none⟩) 3 c) W.tip (.slice (some ⟨b', o', none⟩) 3 c') W.t)
    exact h
  have HL : Aside (Laid w) := hL
  have HR : Hid (RW W) := hR
  have HC : Hid (3 ≤ c ∧ 3 ≤ c') := ⟨hc, hc'⟩
  have V_0 : Aside (WF (w.alloc (boxW (.slice (some ⟨b, o, none⟩) 3 c) W.tip (.slice (some ⟨b', o', none⟩) 3 c') W.t)) b o b' o' xs cs W) := h.later hA0
  clear hL h hR hc hc'
  go_enter Tryz.func4, Tryz.ntmps4
  go_upto_region 1 with fail
  generalize (w.alloc (boxW (.slice (some ⟨b, o, none⟩) 3 c) W.tip (.slice (some ⟨b', o', none⟩) 3 c') W.t)) = w0 at *
  clear hA0
  go_wp2_with fail
  refine (tolled_any _ (HL.out.later B_0.out)).mono ?_
  rintro e w1 ⟨rfl, hb1⟩
  have Q_1 : Aside (w1.heap[w.heap.size]? = some (boxW (.slice (some ⟨b, o, none⟩) 3 c) W.tip (.slice (some ⟨b', o', none⟩) 3 c') W.t)) := heap_below Q_0.out hb1 (heap_lt Q_0.out)
  have V_1 : Aside (WF w1 b o b' o' xs cs W) := V_0.out.later hb1
  have B_1 : Aside (Below w.heap.size w w1) := step_below1 B_0.out hb1
  clear hb1 Q_0 V_0 B_0 
  have zQ : ∀ i, w1.cell? ⟨w.heap.size, i, none⟩ = (#[.slice (some ⟨b, o, none⟩) 3 c, .int .i64 W.tip, .slice (some ⟨b', o', none⟩) 3 c', .int .i64 W.t] : Array Value)[i]? := fun i => Joins.cell_of_block Q_1.out i
  have kc := k_check (HL.out.later B_1.out) (V_1.out.back HR.out HC.out.1 HC.out.2)
  rw [rw_iff.2 HR.out] at kc
  go_wp2_with fail
  refine (kc).mono ?_
  rintro e w2 ⟨rfl, hb2⟩
  have Q_2 : Aside (w2.heap[w.heap.size]? = some (boxW (.slice (some ⟨b, o, none⟩) 3 c) W.tip (.slice (some ⟨b', o', none⟩) 3 c') W.t)) := heap_below Q_1.out hb2 (heap_lt Q_1.out)
  have V_2 : Aside (WF w2 b o b' o' xs cs W) := V_1.out.later hb2
  have B_2 : Aside (Below w.heap.size w w2) := step_below1 B_1.out hb2
  clear hb2 Q_1 V_1 B_1 kc zQ
  go_wp2_with fail
  refine (at_three k _).mono ?_
  rintro e wx ⟨m, hm, rfl, hwx⟩
  obtain rfl : w2 = wx := hwx.symm
  have zQ : ∀ i, w2.cell? ⟨w.heap.size, i, none⟩ = (#[.slice (some ⟨b, o, none⟩) 3 c, .int .i64 W.tip, .slice (some ⟨b', o', none⟩) 3 c', .int .i64 W.t] : Array Value)[i]? := fun i => Joins.cell_of_block Q_2.out i
  obtain ⟨x, _, hxn, _, hx⟩ := V_2.out.nodeAt (nd_at HR.out hm)
  have x4 := hx 4 _ rfl
  rw [hxn] at x4
  have hmi : (m : Int) < 3 := by omega
  have hm0 : (0 : Int) ≤ (m : Int) := by omega
  have HM : Hid (m < 3) := hm
  clear hx hxn hm
  cases hup : (W.nd m).up with
  | false =>
    rw [hup] at x4
    clear hup
    go_wp2
    go_ret
    exact ⟨rfl, B_2.out⟩
  | true =>
    rw [hup] at x4
    obtain ⟨X, hd1, hX, hxu, hd2⟩ := stands_facts HR.out (k := (m : Int)) (by omega) hup
    have HX : Hid (RW X) := hX
    have HXU : Hid ((X.nd m).up = false) := hxu
    have kd := k_do (HL.out.later B_2.out) (V_2.out.back HR.out HC.out.1 HC.out.2) (hp 12 0 m)
    rw [doOf_ok HR.out hd1] at kd
    have kd2 := fun (W' : World) un uc (hL : Laid W') (hv : WV W' un uc X) => k_do hL hv (hp 13 0 m)
    rw [doOf_ok hX hd2] at kd2
    clear hd1 hX hxu hd2 hup
    go_wp2_with fail
    refine (kd).mono ?_
    rintro e w3 ⟨un, uc, rfl, hv, hb3⟩
    have Q_3 : Aside (w3.heap[w.heap.size]? = some (boxW (.slice (some ⟨b, o, none⟩) 3 c) W.tip (.slice (some ⟨b', o', none⟩) 3 c') W.t)) := heap_below Q_2.out hb3 (heap_lt Q_2.out)
    have V_3 : Aside (WF w3 b o b' o' xs cs W) := V_2.out.later hb3
    have B_3 : Aside (Below w.heap.size w w3) := step_below1 B_2.out hb3
    clear hb3 Q_2 V_2 B_2 kd x4 zQ
    obtain ⟨g, r, q, g', r', q', ys, ds, rfl, rfl, hq, hq', hF⟩ := hv.form HX.out
    have HQ : Hid (3 ≤ q ∧ 3 ≤ q') := ⟨hq, hq'⟩
    clear hv hq hq'
    have F_3 : Aside (WF w3 g r g' r' ys ds X) := hF
    clear hF
    go_upto_region 7 with fail
    have hb4 : Below w3.heap.size w3 (w3.alloc (boxW (.slice (some ⟨g, r, none⟩) 3 q) X.tip (.slice (some ⟨g', r', none⟩) 3 q') X.t)) := grew (Below.refl _ _) _
    have Y_4 : Aside ((w3.alloc (boxW (.slice (some ⟨g, r, none⟩) 3 q) X.tip (.slice (some ⟨g', r', none⟩) 3 q') X.t)).heap[w3.heap.size]? = some (boxW (.slice (some ⟨g, r, none⟩) 3 q) X.tip (.slice (some ⟨g', r', none⟩) 3 q') X.t)) := heap_new _ _
    have Q_4 : Aside ((w3.alloc (boxW (.slice (some ⟨g, r, none⟩) 3 q) X.tip (.slice (some ⟨g', r', none⟩) 3 q') X.t)).heap[w.heap.size]? = some (boxW (.slice (some ⟨b, o, none⟩) 3 c) W.tip (.slice (some ⟨b', o', none⟩) 3 c') W.t)) := heap_below Q_3.out hb4 (heap_lt Q_3.out)
    have V_4 : Aside (WF (w3.alloc (boxW (.slice (some ⟨g, r, none⟩) 3 q) X.tip (.slice (some ⟨g', r', none⟩) 3 q') X.t)) b o b' o' xs cs W) := V_3.out.later hb4
    have F_4 : Aside (WF (w3.alloc (boxW (.slice (some ⟨g, r, none⟩) 3 q) X.tip (.slice (some ⟨g', r', none⟩) 3 q') X.t)) g r g' r' ys ds X) := F_3.out.later hb4
    have B_4 : Aside (Below w.heap.size w (w3.alloc (boxW (.slice (some ⟨g, r, none⟩) 3 q) X.tip (.slice (some ⟨g', r', none⟩) 3 q') X.t))) := step_below1 B_3.out hb4
    clear hb4 Q_3 V_3 F_3 B_3 
    generalize w3.alloc (boxW (.slice (some ⟨g, r, none⟩) 3 q) X.tip (.slice (some ⟨g', r', none⟩) 3 q') X.t) = w4 at *
    generalize w3.heap.size = bY at *
    have zY : ∀ i, w4.cell? ⟨bY, i, none⟩ = (#[.slice (some ⟨g, r, none⟩) 3 q, .int .i64 X.tip, .slice (some ⟨g', r', none⟩) 3 q', .int .i64 X.t] : Array Value)[i]? := fun i => Joins.cell_of_block Y_4.out i
    obtain ⟨x, _, hxn, _, hx⟩ := F_4.out.nodeAt (nd_at HX.out HM.out)
    have x4 := hx 4 _ rfl
    rw [hxn, HXU.out] at x4
    have kd := kd2 _ _ _ (HL.out.later B_4.out) (F_4.out.back HX.out HQ.out.1 HQ.out.2)
    clear kd2 hx hxn
    go_wp2_with fail
    refine (kd).mono ?_
    rintro e w5 ⟨un, uc, rfl, hv, hb5⟩
    have Q_5 : Aside (w5.heap[w.heap.size]? = some (boxW (.slice (some ⟨b, o, none⟩) 3 c) W.tip (.slice (some ⟨b', o', none⟩) 3 c') W.t)) := heap_below Q_4.out hb5 (heap_lt Q_4.out)
    have V_5 : Aside (WF w5 b o b' o' xs cs W) := V_4.out.later hb5
    have F_5 : Aside (WF w5 g r g' r' ys ds X) := F_4.out.later hb5
    have Y_5 : Aside (w5.heap[bY]? = some (boxW (.slice (some ⟨g, r, none⟩) 3 q) X.tip (.slice (some ⟨g', r', none⟩) 3 q') X.t)) := heap_below Y_4.out hb5 (heap_lt Y_4.out)
    have B_5 : Aside (Below w.heap.size w w5) := step_below1 B_4.out hb5
    clear hb5 Q_4 V_4 F_4 Y_4 B_4 kd x4 zY
    obtain ⟨p, s, t, p', s', t', zs, es, rfl, rfl, ht, ht', hF⟩ := hv.form HR.out
    have HT : Hid (3 ≤ t ∧ 3 ≤ t') := ⟨ht, ht'⟩
    clear hv ht ht'
    have G_5 : Aside (WF w5 p s p' s' zs es W) := hF
    clear hF
    go_upto_region 10 with fail
    have hb6 : Below w5.heap.size w5 (w5.alloc (boxW (.slice (some ⟨p, s, none⟩) 3 t) W.tip (.slice (some ⟨p', s', none⟩) 3 t') W.t)) := grew (Below.refl _ _) _
    have Z_6 : Aside ((w5.alloc (boxW (.slice (some ⟨p, s, none⟩) 3 t) W.tip (.slice (some ⟨p', s', none⟩) 3 t') W.t)).heap[w5.heap.size]? = some (boxW (.slice (some ⟨p, s, none⟩) 3 t) W.tip (.slice (some ⟨p', s', none⟩) 3 t') W.t)) := heap_new _ _
    have Q_6 : Aside ((w5.alloc (boxW (.slice (some ⟨p, s, none⟩) 3 t) W.tip (.slice (some ⟨p', s', none⟩) 3 t') W.t)).heap[w.heap.size]? = some (boxW (.slice (some ⟨b, o, none⟩) 3 c) W.tip (.slice (some ⟨b', o', none⟩) 3 c') W.t)) := heap_below Q_5.out hb6 (heap_lt Q_5.out)
    have V_6 : Aside (WF (w5.alloc (boxW (.slice (some ⟨p, s, none⟩) 3 t) W.tip (.slice (some ⟨p', s', none⟩) 3 t') W.t)) b o b' o' xs cs W) := V_5.out.later hb6
    have F_6 : Aside (WF (w5.alloc (boxW (.slice (some ⟨p, s, none⟩) 3 t) W.tip (.slice (some ⟨p', s', none⟩) 3 t') W.t)) g r g' r' ys ds X) := F_5.out.later hb6
    have Y_6 : Aside ((w5.alloc (boxW (.slice (some ⟨p, s, none⟩) 3 t) W.tip (.slice (some ⟨p', s', none⟩) 3 t') W.t)).heap[bY]? = some (boxW (.slice (some ⟨g, r, none⟩) 3 q) X.tip (.slice (some ⟨g', r', none⟩) 3 q') X.t)) := heap_below Y_5.out hb6 (heap_lt Y_5.out)
    have G_6 : Aside (WF (w5.alloc (boxW (.slice (some ⟨p, s, none⟩) 3 t) W.tip (.slice (some ⟨p', s', none⟩) 3 t') W.t)) p s p' s' zs es W) := G_5.out.later hb6
    have B_6 : Aside (Below w.heap.size w (w5.alloc (boxW (.slice (some ⟨p, s, none⟩) 3 t) W.tip (.slice (some ⟨p', s', none⟩) 3 t') W.t))) := step_below1 B_5.out hb6
    clear hb6 Q_5 V_5 F_5 Y_5 G_5 B_5 
    generalize w5.alloc (boxW (.slice (some ⟨p, s, none⟩) 3 t) W.tip (.slice (some ⟨p', s', none⟩) 3 t') W.t) = w6 at *
    generalize w5.heap.size = bZ at *
    have zZ : ∀ i, w6.cell? ⟨bZ, i, none⟩ = (#[.slice (some ⟨p, s, none⟩) 3 t, .int .i64 W.tip, .slice (some ⟨p', s', none⟩) 3 t', .int .i64 W.t] : Array Value)[i]? := fun i => Joins.cell_of_block Z_6.out i
    have zQ : ∀ i, w6.cell? ⟨w.heap.size, i, none⟩ = (#[.slice (some ⟨b, o, none⟩) 3 c, .int .i64 W.tip, .slice (some ⟨b', o', none⟩) 3 c', .int .i64 W.t] : Array Value)[i]? := fun i => Joins.cell_of_block Q_6.out i
    have ks := k_same (G_6.out.back HR.out HT.out.1 HT.out.2) (V_6.out.back HR.out HC.out.1 HC.out.2)
    rw [decide_eq_true (rfl : W = W)] at ks
    go_wp2_with fail
    refine (ks).mono ?_
    rintro e w7 ⟨rfl, hb7⟩
    have Q_7 : Aside (w7.heap[w.heap.size]? = some (boxW (.slice (some ⟨b, o, none⟩) 3 c) W.tip (.slice (some ⟨b', o', none⟩) 3 c') W.t)) := heap_below Q_6.out hb7 (heap_lt Q_6.out)
    have V_7 : Aside (WF w7 b o b' o' xs cs W) := V_6.out.later hb7
    have F_7 : Aside (WF w7 g r g' r' ys ds X) := F_6.out.later hb7
    have Y_7 : Aside (w7.heap[bY]? = some (boxW (.slice (some ⟨g, r, none⟩) 3 q) X.tip (.slice (some ⟨g', r', none⟩) 3 q') X.t)) := heap_below Y_6.out hb7 (heap_lt Y_6.out)
    have G_7 : Aside (WF w7 p s p' s' zs es W) := G_6.out.later hb7
    have Z_7 : Aside (w7.heap[bZ]? = some (boxW (.slice (some ⟨p, s, none⟩) 3 t) W.tip (.slice (some ⟨p', s', none⟩) 3 t') W.t)) := heap_below Z_6.out hb7 (heap_lt Z_6.out)
    have B_7 : Aside (Below w.heap.size w w7) := step_below1 B_6.out hb7
    clear hb7 Q_6 V_6 F_6 Y_6 G_6 Z_6 B_6 ks zZ zQ
    go_wp2
    go_ret
    exact ⟨rfl, B_7.out⟩
/-- The law, at every world. -/
theorem stands_at (vn vc : Value) (W : Wd) (k : Int) (w : World) (hL : Laid w) (h : WV w vn vc W) :
    Calls Tryz.prog 4 #[wval vn W.tip vc W.t, .int .i64 k] w fun e w' => e = .returned (.bool true) ∧ Below w.heap.size w w' := by
  by_cases hz : W.ck = 0
  · obtain ⟨b, o, c, b', o', c', xs, cs, rfl, rfl, hc, hc', hF⟩ := h.form (rw_iff.1 hz)
    exact stands_right b o c b' o' c' xs cs W k w hL hF (rw_iff.1 hz) hc hc'
  · exact stands_wrong vn vc W k w hL h hz
end Go.Proofs.YtmoaobfmopimlafGreatDoor
