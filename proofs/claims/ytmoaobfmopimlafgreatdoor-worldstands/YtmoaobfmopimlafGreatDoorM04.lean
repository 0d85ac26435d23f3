/- For the law. -/
import Derived.Test.YtmoaobfmopimlafGreatDoorM03
import Derived.Deep.Cut
set_option linter.unusedSimpArgs false
set_option linter.unusedVariables false
set_option maxHeartbeats 16000000
set_option maxRecDepth 100000
namespace Go.Proofs.YtmoaobfmopimlafGreatDoor
open Go Go.ChangeShapes Go.WideShapes Go.ChangeAt Go.RowKit
theorem set_self {α : Type} : ∀ (l : List α) (k : Nat) (x : α), l[k]? = some x → l.set k x = l
 | [], _, _, _ => rfl
 | y :: r, 0, x, h => by obtain rfl : y = x := by simpa using h
             rfl
 | y :: r, k + 1, x, h => by rw [List.set_cons_succ, set_self r k x (by simpa using h)]
theorem putN_self {w : Wd} (h : RW w) {k : Int} (hk : 0 ≤ k ∧ k ≤ 2) : w.putN k (w.nd k) = w := by
 rw [Wd.putN, set_self _ _ _ (h.nd_at hk)]
theorem putN_putN (w : Wd) (k : Int) (a b : Nd) : (w.putN k a).putN k b = w.putN k b := by
 show (⟨(w.ns.set _ a).set _ b, _, _, _⟩ : Wd) = _
 rw [List.set_set]; rfl
theorem nd_putN {w : Wd} (h : RW w) {k : Int} (hk : 0 ≤ k ∧ k ≤ 2) (n : Nd) : (w.putN k n).nd k = n := by
 have hlt := (List.getElem?_eq_some_iff.1 (h.nd_at hk)).1
 show (w.ns.set _ n).getD _ _ = n
 rw [List.getD_eq_getElem?_getD, List.getElem?_set_self hlt]; rfl
def hp (k c n : Int) : Hp := ⟨k, c, n, 0, 0, En.zero⟩
theorem hp_boot (w : Wd) (k : Int) : happened w (hp 13 0 k) = atNode w (hp 13 0 k) := rfl
theorem hp_crash (w : Wd) (k : Int) : happened w (hp 12 0 k) = atNode w (hp 12 0 k) := rfl
theorem boot_at {w : Wd} {k : Int} (hk : 0 ≤ k ∧ k ≤ 2) {n : Nd} (h : (w.nd k).boot = (n, 0)) : happened w (hp 13 0 k) = (w.putN k n, 0) := by
 rw [hp_boot, atNode, if_neg (by simpa [hp] using hk), if_pos (by simp [hp])]
 show w.onN k (w.nd k).boot = _
 rw [h, Wd.onN, if_neg (by simp)]
theorem stands_facts {w : Wd} (h : RW w) {k : Int} (hk : 0 ≤ k ∧ k ≤ 2) (hup : (w.nd k).up = true) :
  ∃ x, happened w (hp 12 0 k) = (x, 0) ∧ RW x ∧ (x.nd k).up = false ∧ happened x (hp 13 0 k) = (w, 0) := by
 obtain ⟨h1, h2, h3⟩ := crash_ok (h.nck hk) hup
 have e : happened w (hp 12 0 k) = (w.putN k ⟨(w.nd k).u, (w.nd k).s, (w.nd k).w, false⟩, 0) := by
  rw [hp_crash, atNode, if_neg (by simpa [hp] using hk), if_neg (by simp [hp])]
  show (if (w.nd k).up = false then _ else _) = _
  rw [hup, if_neg (by simp), if_neg (by simp [hp]), if_neg (by simp [hp])]
  rfl
 have S := happened_step h (x := hp 12 0 k) (by rw [e])
 rw [e] at S
 refine ⟨_, e, S.right, by rw [nd_putN h hk], ?_⟩
 have hb : ((w.putN k ⟨(w.nd k).u, (w.nd k).s, (w.nd k).w, false⟩).nd k).boot = (w.nd k, 0) := by rw [nd_putN h hk]; exact h3
 rw [boot_at hk hb, putN_putN, putN_self h hk]
theorem happened_stay {w : Wd} {x : Hp} (h0 : (happened w x).2 ≠ 0) : (happened w x).1 = w := by
 have onN : ∀ (k : Int) (r : Nd × Int), (w.onN k r).2 ≠ 0 → (w.onN k r).1 = w := fun k r h => by
  unfold Wd.onN at h ⊢
  by_cases hr : r.2 = 0
  · rw [if_neg (by simpa using hr)] at h; exact absurd rfl h
  · rw [if_pos hr]
 have onC : ∀ (k : Int) (r : Cl × Int), (w.onC k r).2 ≠ 0 → (w.onC k r).1 = w := fun k r h => by
  unfold Wd.onC at h ⊢
  by_cases hr : r.2 = 0
  · rw [if_neg (by simpa using hr)] at h; exact absurd rfl h
  · rw [if_pos hr]
 revert h0
 unfold happened
 repeat' split
 · unfold tipOf; split
  · exact fun _ => rfl
  · exact fun h => absurd rfl h
 · unfold tickOf; split
  · exact fun _ => rfl
  · exact fun h => absurd rfl h
 · unfold atNode learnAt
  repeat' split
  all_goals first | exact fun _ => rfl | exact onN _ _ | exact onC _ _ | exact fun h => absurd rfl h
 · unfold atLink goAt hearAt
  repeat' split
  all_goals first | exact fun _ => rfl | exact onN _ _ | exact onC _ _ | exact fun h => absurd rfl h
 · unfold atClient
  repeat' split
  all_goals first | exact fun _ => rfl | exact fun h => absurd rfl h
 · exact fun _ => rfl
theorem happened_right {w : Wd} (h : RW w) (x : Hp) : RW (happened w x).1 := by
 by_cases h0 : (happened w x).2 = 0
 · exact (happened_step h h0).right
 · rw [happened_stay h0]; exact h
theorem runL_right : ∀ (l : List Hp) {w : Wd}, RW w → RW (runL w l).1
 | [], _, h => h
 | x :: r, _, h => runL_right r (happened_right h x)
theorem runL_append : ∀ (a b : List Hp) (w : Wd), runL w (a ++ b) = ((runL (runL w a).1 b).1, (runL w a).2 ++ (runL (runL w a).1 b).2)
 | [], _, _ => rfl
 | x :: a, b, w => by rw [List.cons_append, runL, runL_append a b, runL]; rfl
theorem runL_snoc (l : List Hp) (w : Wd) (x : Hp) : runL w (l ++ [x]) = ((happened (runL w l).1 x).1, (runL w l).2 ++ [(happened (runL w l).1 x).2]) := by
 rw [runL_append]; rfl
structure NAt (w : World) (g o : Nat) (NC : List Value) (x : Nb) : Prop where
 blk : w.heap[g]? = some (.cells NC.toArray 49)
 place : ∀ (i : Nat) (v : Value), x.cells[i]? = some v → NC[o + i]? = some v
 rows : NodeT w x
theorem NAt.later {w w' : World} {g o : Nat} {NC : List Value} {x : Nb} (h : NAt w g o NC x) (hb : Below w.heap.size w w') : NAt w' g o NC x := ⟨heap_below h.blk hb (heap_lt h.blk), h.place, h.rows.later hb⟩
theorem NAt.cell {w : World} {g o : Nat} {NC : List Value} {x : Nb} (h : NAt w g o NC x) {i : Nat} {v : Value} (hv : x.cells[i]? = some v) : w.cell? ⟨g, o + i, none⟩ = some v := by
 rw [Joins.cell_of_block h.blk]
 simpa using h.place i v hv
theorem NAt.fz {w : World} {g o : Nat} {NC : List Value} {x : Nb} (h : NAt w g o NC x) (i : Nat) : w.frozen? ⟨g, i, none⟩ = false := Joins.unfrozen_of_block h.blk i
def st4 (w : World) (g o : Nat) (y : Nb) : World := (((w.setCell ⟨g, o, none⟩ (.int .i64 y.n.u.p)).setCell ⟨g, o + 1, none⟩ y.vc).setCell ⟨g, o + 2, none⟩ y.vs).setCell ⟨g, o + 3, none⟩ y.vw
def st3 (w : World) (g o : Nat) (y : Nb) : World := ((w.setCell ⟨g, o + 2, none⟩ y.vs).setCell ⟨g, o + 3, none⟩ y.vw).setCell ⟨g, o + 4, none⟩ (.bool y.n.up)
def st5 (w : World) (g o : Nat) (y : Nb) : World := (st4 w g o y).setCell ⟨g, o + 4, none⟩ (.bool y.n.up)
def Post (st : World → Nat → Nat → Nb → World) (w w' : World) (g o : Nat) (x : Nb) (n' : Nd) : Prop :=
 ∃ w1, Below w.heap.size w w1 ∧ ((w' = w1 ∧ n' = x.n) ∨ ∃ y, NodeT w1 y ∧ y.n = n' ∧ w' = st w1 g o y)
def Post3 (w w' : World) (g o : Nat) (x : Nb) (n' : Nd) : Prop :=
 ∃ w1, Below w.heap.size w w1 ∧ ((w' = w1 ∧ n' = x.n) ∨ ∃ y, NodeT w1 y ∧ y.n = n' ∧ y.vc = x.vc ∧ w' = st3 w1 g o y)
theorem mem_set {α : Type} {xs : List α} {k : Nat} {y x : α} (h : x ∈ xs.set k y) : x ∈ y :: xs := by
 rcases List.mem_or_eq_of_mem_set h with h | h
 · exact List.mem_cons_of_mem _ h
 · rw [h]; exact List.mem_cons_self ..
theorem nodes_set (xs : List Nb) (k : Nat) (y : Nb) : nodesOf (xs.set k y) = (nodesOf xs).set k y.n := List.map_set ..
theorem clients_set (xs : List Cb) (k : Nat) (y : Cb) : clientsOf (xs.set k y) = (clientsOf xs).set k y.c := List.map_set ..
theorem nodes_at {xs : List Nb} {k : Nat} {x : Nb} (h : xs[k]? = some x) : (nodesOf xs)[k]? = some x.n := by
 show (xs.map Nb.n)[k]? = _
 rw [List.getElem?_map, h]; rfl
theorem clients_at {xs : List Cb} {k : Nat} {x : Cb} (h : xs[k]? = some x) : (clientsOf xs)[k]? = some x.c := by
 show (xs.map Cb.c)[k]? = _
 rw [List.getElem?_map, h]; rfl
theorem WIn.nat {X w : World} {B g1 g2 : Nat} {xs : List Nb} {cs : List Cb} {tip t : Int} (h : WIn X w B g1 g2 xs tip cs t) {k : Nat} {x : Nb} (hx : xs[k]? = some x) : NAt w g1 (k * 5) (xs.flatMap Nb.cells) x :=
 ⟨h.st.nrow, fun i v hi => row_flat Nb.five xs k x hx i v hi, (h.st.nodes x (List.mem_of_getElem? hx)).1⟩
theorem WSt.with {X w : World} {B g1 g2 : Nat} {NC CC : List Value} {tip t : Int} {L : List Nb} {M : List Cb} (h : WSt X w B g1 g2 NC tip CC t L M) {y : Nb} (hy : NodeR w y) : WSt X w B g1 g2 NC tip CC t (y :: L) M :=
 h.more (fun x hx => (List.mem_cons.1 hx).elim (fun e => e ▸ hy) (h.nodes x)) h.clients
theorem lift4 {X w w' : World} {B g1 g2 : Nat} {xs : List Nb} {cs : List Cb} {tip t : Int} (h : WIn X w B g1 g2 xs tip cs t) {k : Nat} {x : Nb} (hx : xs[k]? = some x) {n' : Nd} (hp : Post st4 w w' g1 (k * 5) x n') (h60 : n'.u.cells.length = 60) (hup : n'.up = x.n.up) :
  ∃ ys, WIn X w' B g1 g2 ys tip cs t ∧ nodesOf ys = (nodesOf xs).set k n' := by
 obtain ⟨w1, hb, hc⟩ := hp
 rcases hc with ⟨rfl, rfl⟩ | ⟨y, hy, rfl, rfl⟩
 · exact ⟨xs, h.later hb, (set_self _ _ _ (nodes_at hx)).symm⟩
 · obtain ⟨s1, s2, s3⟩ := (⟨roomy_sl hy.unit.room, roomy_sl hy.disk.room1, roomy_sl hy.disk.room2⟩ : _ ∧ _ ∧ _)
  have H := (((((h.st.later hb).with ⟨hy, h60⟩).setN (k * 5 + 0) (int_nob y.n.u.p)).setN (k * 5 + 1) (slice_nob s1)).setN (k * 5 + 2) (slice_nob s2)).setN (k * 5 + 3) (slice_nob s3)
  rw [nput4 hx y hup] at H
  exact ⟨xs.set k y, ⟨H.more (fun x hx => H.nodes x (mem_set hx)) H.clients, by rw [List.length_set]; exact h.three, h.three'⟩, nodes_set xs k y⟩
theorem lift5 {X w w' : World} {B g1 g2 : Nat} {xs : List Nb} {cs : List Cb} {tip t : Int} (h : WIn X w B g1 g2 xs tip cs t) {k : Nat} {x : Nb} (hx : xs[k]? = some x) {n' : Nd} (hp : Post st5 w w' g1 (k * 5) x n') (h60 : n'.u.cells.length = 60) :
  ∃ ys, WIn X w' B g1 g2 ys tip cs t ∧ nodesOf ys = (nodesOf xs).set k n' := by
 obtain ⟨w1, hb, hc⟩ := hp
 rcases hc with ⟨rfl, rfl⟩ | ⟨y, hy, rfl, rfl⟩
 · exact ⟨xs, h.later hb, (set_self _ _ _ (nodes_at hx)).symm⟩
 · obtain ⟨s1, s2, s3⟩ := (⟨roomy_sl hy.unit.room, roomy_sl hy.disk.room1, roomy_sl hy.disk.room2⟩ : _ ∧ _ ∧ _)
  have H := ((((((h.st.later hb).with ⟨hy, h60⟩).setN (k * 5 + 0) (int_nob y.n.u.p)).setN (k * 5 + 1) (slice_nob s1)).setN (k * 5 + 2) (slice_nob s2)).setN (k * 5 + 3) (slice_nob s3)).setN (k * 5 + 4) (bool_nob y.n.up)
  rw [nput5 hx y] at H
  exact ⟨xs.set k y, ⟨H.more (fun x hx => H.nodes x (mem_set hx)) H.clients, by rw [List.length_set]; exact h.three, h.three'⟩, nodes_set xs k y⟩
theorem lift3 {X w w' : World} {B g1 g2 : Nat} {xs : List Nb} {cs : List Cb} {tip t : Int} (h : WIn X w B g1 g2 xs tip cs t) {k : Nat} {x : Nb} (hx : xs[k]? = some x) {n' : Nd} (hp : Post3 w w' g1 (k * 5) x n') (h60 : n'.u.cells.length = 60) (hu : n'.u = x.n.u) :
  ∃ ys, WIn X w' B g1 g2 ys tip cs t ∧ nodesOf ys = (nodesOf xs).set k n' := by
 obtain ⟨w1, hb, hc⟩ := hp
 rcases hc with ⟨rfl, rfl⟩ | ⟨y, hy, rfl, hv, rfl⟩
 · exact ⟨xs, h.later hb, (set_self _ _ _ (nodes_at hx)).symm⟩
 · obtain ⟨s2, s3⟩ := (⟨roomy_sl hy.disk.room1, roomy_sl hy.disk.room2⟩ : _ ∧ _)
  have H := ((((h.st.later hb).with ⟨hy, h60⟩).setN (k * 5 + 2) (slice_nob s2)).setN (k * 5 + 3) (slice_nob s3)).setN (k * 5 + 4) (bool_nob y.n.up)
  rw [nput3 hx y (by rw [hu]) hv] at H
  exact ⟨xs.set k y, ⟨H.more (fun x hx => H.nodes x (mem_set hx)) H.clients, by rw [List.length_set]; exact h.three, h.three'⟩, nodes_set xs k y⟩
theorem lift1 {X w : World} {B g1 g2 : Nat} {xs : List Nb} {cs : List Cb} {tip t : Int} (h : WIn X w B g1 g2 xs tip cs t) {k : Nat} {x : Nb} (hx : xs[k]? = some x) (b : Bool) :
  ∃ ys, WIn X (w.setCell ⟨g1, k * 5 + 4, none⟩ (.bool b)) B g1 g2 ys tip cs t ∧ nodesOf ys = (nodesOf xs).set k ⟨x.n.u, x.n.s, x.n.w, b⟩ := by
 have hy := h.st.nodes x (List.mem_of_getElem? hx)
 have H := (h.st.with (y := ⟨⟨x.n.u, x.n.s, x.n.w, b⟩, x.vc, x.vs, x.vw⟩) ⟨⟨hy.1.unit, hy.1.disk⟩, hy.2⟩).setN (k * 5 + 4) (bool_nob b)
 rw [nput1 hx b] at H
 exact ⟨_, ⟨H.more (fun x hx => H.nodes x (mem_set hx)) H.clients, by rw [List.length_set]; exact h.three, h.three'⟩, nodes_set xs k _⟩
def stC (w : World) (g o : Nat) (y : Cb) : World :=
 (((((((((((w.setCell ⟨g, o, none⟩ (.int .i64 y.c.p)).setCell ⟨g, o + 1, none⟩ (.int .i64 y.c.d)).setCell ⟨g, o + 2, none⟩ (.int .i64 y.c.e.k)).setCell ⟨g, o + 3, none⟩ (.int .i64 y.c.e.j)).setCell ⟨g, o + 4, none⟩ (.int .i64 y.c.e.v)).setCell ⟨g, o + 5, none⟩ (.int .i64 y.c.e.t)).setCell ⟨g, o + 6, none⟩ (.int .i64 y.c.e.c)).setCell ⟨g, o + 7, none⟩ (.int .i64 y.c.a)).setCell ⟨g, o + 8, none⟩ (.int .i64 y.c.l)).setCell ⟨g, o + 9, none⟩ (.int .i64 y.c.n)).setCell ⟨g, o + 10, none⟩ y.v1).setCell ⟨g, o + 11, none⟩ y.v2
theorem liftC {X w : World} {B g1 g2 : Nat} {xs : List Nb} {cs : List Cb} {tip t : Int} (h : WIn X w B g1 g2 xs tip cs t) {k : Nat} {x : Cb} (hx : cs[k]? = some x) {y : Cb} (hy : ClientR w y) :
  ∃ ds, WIn X (stC w g2 (k * 12) y) B g1 g2 xs tip ds t ∧ clientsOf ds = (clientsOf cs).set k y.c := by
 have s1 := slOf_sl hy.1.1
 have s2 := slOf_sl hy.1.2
 have h0 := h.st.more (L' := xs) (M' := y :: cs) h.st.nodes (fun z hz => (List.mem_cons.1 hz).elim (fun e => e ▸ hy) (h.st.clients z))
 have H := (((((((((((h0.setC (k * 12 + 0) (int_nob y.c.p)).setC (k * 12 + 1) (int_nob y.c.d)).setC (k * 12 + 2) (int_nob y.c.e.k)).setC (k * 12 + 3) (int_nob y.c.e.j)).setC (k * 12 + 4) (int_nob y.c.e.v)).setC (k * 12 + 5) (int_nob y.c.e.t)).setC (k * 12 + 6) (int_nob y.c.e.c)).setC (k * 12 + 7) (int_nob y.c.a)).setC (k * 12 + 8) (int_nob y.c.l)).setC (k * 12 + 9) (int_nob y.c.n)).setC (k * 12 + 10) (slice_nob s1)).setC (k * 12 + 11) (slice_nob s2)
 rw [cput12 hx y] at H
 exact ⟨cs.set k y, ⟨H.more H.nodes (fun z hz => H.clients z (mem_set hz)), h.three, by rw [List.length_set]; exact h.three'⟩, clients_set cs k y⟩
theorem bytesEqual (v1 v2 : Value) (s t : List UInt8) (w : World) (h1 : ByteSl w v1 s) (h2 : ByteSl w v2 t) :
  Calls Tryz.prog 36 #[v1, v2] w fun e w' => e = .returned (.bool (decide (s = t))) ∧ w' = w := by
 have e1 := str_of h1
 have e2 := str_of h2
 have hd : decide (s = t) = (s == t) := by by_cases h : s = t <;> simp [h]
 rw [hd]
 obtain ⟨a1, c1, rfl, _⟩ := h1
 obtain ⟨a2, c2, rfl, _⟩ := h2
 clear hd
 go_enter Tryz.func36, Tryz.ntmps36
 go_wp2
 go_ret
 exact ⟨rfl, rfl⟩
theorem sizeY : (Tryz.prog.info? 5).map (·.size) = some 1 := by kernel_rfl
structure Own1 (w w' : World) (v : Value) (xs : List UInt8) (g : Nat) : Prop where
 out : v = .slice (some ⟨g, 0, none⟩) xs.length xs.length
 new : w.heap.size ≤ g
 row : w'.heap[g]? = some (.cells (xs.flatMap bt).toArray 5)
 below : Below w.heap.size w w'
theorem Own1.sl {w w' : World} {v : Value} {xs : List UInt8} {g : Nat} (h : Own1 w w' v xs g) : ByteSl w' v xs := by
 rw [h.out]
 exact slOf_lit bt_one h.row (by simp)
theorem Own1.roomy {w w' : World} {v : Value} {xs : List UInt8} {g : Nat} (h : Own1 w w' v xs g) : Roomy v := ⟨_, _, _, h.out, Nat.le_refl _⟩
theorem copyOfY (v : Value) (xs : List UInt8) (w : World) (hv : ByteSl w v xs) (hn : xs.length ≤ 1000000) :
  Calls Tryz.prog 166 #[v] w fun e w' => ∃ u g, e = .returned u ∧ Own1 w w' u xs g := by
 obtain ⟨i0, hi, hz0, hz1, hz2⟩ := info_parts infoY
 have H1 : Hid (ByteSl w v xs) := hv
 obtain ⟨a1, c1, rfl, _⟩ := hv
 obtain ⟨cs, hcs⟩ : ∃ cs, Hid (xs.flatMap bt = cs) := ⟨_, rfl⟩
 have hone : ∀ u ∈ cs, u.oneCell' = true := by rw [← hcs.out]; exact oneY xs
 have hlen : cs.length = xs.length * 1 := by rw [← hcs.out]; exact row_len bt_one xs
 obtain ⟨n1, hn1⟩ : ∃ n1, xs.length = n1 := ⟨_, rfl⟩
 have L1 : Hid (xs.length = n1) := hn1
 rw [hn1] at H1 hn hlen ⊢
 clear hn1
 go_enter Tryz.func166, Tryz.ntmps166
 go_wp2_with (at_make; refine wpList_make_full _ rfl _ _ 45 rfl w.heap.size 5 i0 (.int .u8 0) 1 Tryz.underlying45 hi hz0 hz1 _ _ _ _ n1 rfl rfl rfl rfl (by rw [hz2]; omega) (by unfold maxLen; omega) (Nat.le_refl _) ?_)
 intro w1 hown hgrow
 obtain ⟨hl0, ho⟩ := hown
 rcases ho with ⟨h, _⟩ | ⟨g, cap, cur, hv', _, hg, _, _, hsz, htake⟩
 · cases h
 injection hv' with ha _ hc
 injection ha with ha
 injection ha with ha _ _
 subst ha hc
 have hB1 : Below w.heap.size w w1 := ⟨hgrow.os, hgrow.tape, hgrow.output, hgrow.size, fun k hk => hgrow.block k hk (fun h => by cases h)⟩
 have hcur : cur.toList.length = n1 * 1 := by simpa using hsz
 have hg' : w1.heap[w.heap.size]? = some (.cells cur.toList.toArray 5 (0, 0)) := by simpa using hg
 clear hi hz0 hz1 hz2 hl0 htake hgrow hg hsz
 have hpos : 0 < Nat.min n1 n1 → (some ⟨w.heap.size, 0, none⟩ : Option Addr) = some ⟨w.heap.size, 0, none⟩ ∧ ∃ ad, a1 = some ad ∧ ∀ j v, cs[j]? = some v → w1.cell? (ad.add j) = some v := fun h0 => by
  have h0' : 0 < n1 := by
   have : 0 < min n1 n1 := h0
   omega
  obtain ⟨b, off, rfl, hE⟩ := H1.out.at h0'
  refine ⟨rfl, _, rfl, fun j u hj => ?_⟩
  rw [Lib.add_plain]
  rw [← hcs.out] at hj
  exact rows_flat bt_one xs off (hE.later hB1) j u hj
 have hmin : cs.length = Nat.min n1 n1 * 1 := by rw [hlen]; show _ = min n1 n1 * 1; rw [Nat.min_self]
 have hfit : 0 + cs.length ≤ cur.toList.length := by rw [hcur, hlen]; omega
 have hall := splice_all (hcur.trans hlen.symm)
 obtain ⟨cl, hcl⟩ : ∃ cl, Hid (cur.toList = cl) := ⟨_, rfl⟩
 rw [hcl.out] at hg' hfit hall
 have HALL : Hid (splice cl 0 cs = cs) := hall
 clear hcur hcl hall
 go_wp2_with ((with_reducible show wpList _ _ _ (Oper.mk (some 9) _ _ _ _ _ :: _) _ _); refine wpList_copyK rfl _ _ 45 45 rfl 5 1 Tryz.underlying45 sizeY (some ⟨w.heap.size, 0, none⟩) a1 n1 n1 n1 c1 rfl rfl w.heap.size 0 cl 5 hg' cs hmin hpos hfit hone w.heap.size w hB1 (Nat.le_refl _) ?_)
 intro w2 hg2 hB2
 go_wp2
 go_ret
 rw [HALL.out] at hg2
 exact ⟨_, w.heap.size, rfl, by rw [L1.out]; rfl, Nat.le_refl _, by rw [hcs.out]; exact hg2.out, hB2⟩
theorem splice_two {cl cs ds : List Value} {n1 n2 : Nat} (h : cl.length = n1 + n2) (h1 : cs.length = n1) (h2 : ds.length = n2) : splice (splice cl 0 cs) n1 ds = cs ++ ds := by
 unfold splice
 simp only [List.take_zero, List.nil_append, Nat.zero_add]
 have e1 : (cs ++ cl.drop cs.length).take n1 = cs := by rw [← h1, List.take_left']; rfl
 have e2 : (cs ++ cl.drop cs.length).drop (n1 + ds.length) = [] := by
  apply List.drop_of_length_le
  simp
  omega
 rw [e1, e2, List.append_nil]
theorem joinY (v1 v2 : Value) (xs ys : List UInt8) (w : World) (hv1 : ByteSl w v1 xs) (hv2 : ByteSl w v2 ys) (hn : xs.length + ys.length ≤ 1000000) :
  Calls Tryz.prog 167 #[v1, v2] w fun e w' => ∃ u g, e = .returned u ∧ Own1 w w' u (xs ++ ys) g := by
 obtain ⟨i0, hi, hz0, hz1, hz2⟩ := info_parts infoY
 have H1 : Hid (ByteSl w v1 xs) := hv1
 have H2 : Hid (ByteSl w v2 ys) := hv2
 obtain ⟨a1, c1, rfl, _⟩ := hv1
 obtain ⟨a2, c2, rfl, _⟩ := hv2
 obtain ⟨cs, hcs⟩ : ∃ cs, Hid (xs.flatMap bt = cs) := ⟨_, rfl⟩
 obtain ⟨ds, hds⟩ : ∃ ds, Hid (ys.flatMap bt = ds) := ⟨_, rfl⟩
 have hone : ∀ u ∈ cs, u.oneCell' = true := by rw [← hcs.out]; exact oneY xs
 have hone2 : ∀ u ∈ ds, u.oneCell' = true := by rw [← hds.out]; exact oneY ys
 have hlen : cs.length = xs.length * 1 := by rw [← hcs.out]; exact row_len bt_one xs
 have hlen2 : ds.length = ys.length * 1 := by rw [← hds.out]; exact row_len bt_one ys
 have HA : Hid ((xs ++ ys).length = xs.length + ys.length) := List.length_append
 obtain ⟨n1, hn1⟩ : ∃ n1, xs.length = n1 := ⟨_, rfl⟩
 obtain ⟨n2, hn2⟩ : ∃ n2, ys.length = n2 := ⟨_, rfl⟩
 rw [hn1] at H1 hn hlen HA ⊢
 rw [hn2] at H2 hn hlen2 HA ⊢
 clear hn1 hn2
 have hd1 : n1 ≤ 1000000 := by omega
 have hd2 : n2 ≤ 1000000 := by omega
 have hw12 : IntKind.i64.wrap ((n1 : Int) + (n2 : Int)) = ((n1 + n2 : Nat) : Int) := by rw [IntKind.wrap_i64]; omega
 go_enter Tryz.func167, Tryz.ntmps167
 go_wp2_with (at_make; refine wpList_make_full _ rfl _ _ 45 rfl w.heap.size 5 i0 (.int .u8 0) 1 Tryz.underlying45 hi hz0 hz1 _ _ _ _ (n1 + n2) rfl rfl (by first | rfl | (simp [hw12])) (by first | rfl | (simp [hw12])) (by rw [hz2]; omega) (by unfold maxLen; omega) (Nat.le_refl _) ?_)
 intro w1 hown hgrow
 obtain ⟨hl0, ho⟩ := hown
 rcases ho with ⟨h, _⟩ | ⟨g, cap, cur, hv', _, hg, _, _, hsz, htake⟩
 · cases h
 injection hv' with ha _ hc
 injection ha with ha
 injection ha with ha _ _
 subst ha hc
 have hB1 : Below w.heap.size w w1 := ⟨hgrow.os, hgrow.tape, hgrow.output, hgrow.size, fun k hk => hgrow.block k hk (fun h => by cases h)⟩
 have hcur : cur.toList.length = (n1 + n2) * 1 := by simpa using hsz
 have hg' : w1.heap[w.heap.size]? = some (.cells cur.toList.toArray 5 (0, 0)) := by simpa using hg
 clear hi hz0 hz1 hz2 hl0 htake hgrow hg hsz
 have hpos : 0 < Nat.min n1 (n1 + n2) → (some ⟨w.heap.size, 0, none⟩ : Option Addr) = some ⟨w.heap.size, 0, none⟩ ∧ ∃ ad, a1 = some ad ∧ ∀ j v, cs[j]? = some v → w1.cell? (ad.add j) = some v := fun h0 => by
  have h0' : 0 < n1 := by
   have : 0 < min n1 (n1 + n2) := h0
   omega
  obtain ⟨b, off, rfl, hE⟩ := H1.out.at h0'
  refine ⟨rfl, _, rfl, fun j u hj => ?_⟩
  rw [Lib.add_plain]
  rw [← hcs.out] at hj
  exact rows_flat bt_one xs off (hE.later hB1) j u hj
 have hmin : cs.length = Nat.min n1 (n1 + n2) * 1 := by rw [hlen]; show _ = min n1 (n1 + n2) * 1; rw [Nat.min_eq_left (by omega)]
 have hfit : 0 + cs.length ≤ cur.toList.length := by rw [hcur, hlen]; omega
 obtain ⟨cl, hcl⟩ : ∃ cl, Hid (cur.toList = cl) := ⟨_, rfl⟩
 rw [hcl.out] at hg' hfit hcur
 clear hcl
 go_wp2_with ((with_reducible show wpList _ _ _ (Oper.mk (some 14) _ _ _ _ _ :: _) _ _); refine wpList_copyK rfl _ _ 45 45 rfl 5 1 Tryz.underlying45 sizeY (some ⟨w.heap.size, 0, none⟩) a1 (n1 + n2) (n1 + n2) n1 c1 rfl rfl w.heap.size 0 cl 5 hg' cs hmin hpos hfit hone w.heap.size w hB1 (Nat.le_refl _) ?_)
 intro w2 hg2 hB2
 have hg2' := hg2.out
 obtain ⟨ck, hck⟩ : ∃ ck, Hid (splice cl 0 cs = ck) := ⟨_, rfl⟩
 rw [hck.out] at hg2'
 clear hg2 hg' hB1 hpos
 have hckl : ck.length = n1 + n2 := by
  rw [← hck.out]
  unfold splice
  simp
  omega
 have hmin2 : ds.length = Nat.min n2 n2 * 1 := by rw [hlen2]; show _ = min n2 n2 * 1; rw [Nat.min_self]
 have hpos2 : 0 < Nat.min n2 n2 → (if n2 = 0 then some ⟨w.heap.size, 0, none⟩ else some ⟨w.heap.size, n1, none⟩ : Option Addr) = some ⟨w.heap.size, n1, none⟩ ∧ ∃ ad, a2 = some ad ∧ ∀ j v, ds[j]? = some v → w2.cell? (ad.add j) = some v := fun h0 => by
  have h0' : 0 < n2 := by
   have : 0 < min n2 n2 := h0
   omega
  obtain ⟨b, off, rfl, hE⟩ := H2.out.at h0'
  refine ⟨by rw [if_neg (by omega)], _, rfl, fun j u hj => ?_⟩
  rw [Lib.add_plain]
  rw [← hds.out] at hj
  exact rows_flat bt_one ys off (hE.later hB2) j u hj
 have hfit2 : n1 + ds.length ≤ ck.length := by rw [hckl, hlen2]; omega
 have HALL : Hid (splice ck n1 ds = cs ++ ds) := by
  rw [Hid, ← hck.out]
  exact splice_two (n2 := n2) (by rw [hcur]; omega) (by rw [hlen]; omega) (by rw [hlen2]; omega)
 clear hckl hck hcur hfit hmin
 go_wp2_with ((with_reducible show wpList _ _ _ (Oper.mk (some 20) _ _ _ _ _ :: _) _ _); refine wpList_copyK rfl _ _ 45 45 rfl 5 1 Tryz.underlying45 sizeY (if n2 = 0 then some ⟨w.heap.size, 0, none⟩ else some ⟨w.heap.size, n1, none⟩) a2 n2 n2 n2 c2 rfl rfl w.heap.size n1 ck 5 hg2' ds hmin2 hpos2 hfit2 hone2 w.heap.size w hB2 (Nat.le_refl _) ?_)
 all_goals
  intro w3 hg3 hB3
  rw [HALL.out] at hg3
  go_wp2
  go_ret
  exact ⟨_, w.heap.size, rfl, by first | (rw [HA.out]; rfl) | (rw [HA.out, show n2 = 0 by assumption]; rfl), Nat.le_refl _, by rw [List.flatMap_append, hcs.out, hds.out]; exact hg3.out, hB3⟩
theorem bytes_eq {a b : ByteArray} (h : a.data.toList = b.data.toList) : a = b := by
 rw [bytes_eta a, bytes_eta b, h]
theorem ret_pair {fn : Func} {R : Ending → World → Prop} {a : Act} {W : World} {p q : Nat} {x y : Value} (hf : fn.results = #[.tmp p, .tmp q]) (hd : a.defers = [])
  (h1 : a.tmps.getD p undef = x) (h2 : a.tmps.getD q undef = y) (hp : R (.returned (.tuple #[x, y])) W) : bodyPost Tryz.prog fn R .ret a W := by
 have h1' : a.tmps[p]?.getD undef = x := by simpa using h1
 have h2' : a.tmps[q]?.getD undef = y := by simpa using h2
 refine bodyPost_ret (v := .tuple #[x, y]) ?_ hd hp
 simp [results, hf, h1', h2', go_sem]
theorem tup_str {a b : ByteArray} {v : Value} (h : a.data.toList = b.data.toList) : Ending.returned (.tuple #[.string a, v]) = .returned (.tuple #[.string b, v]) := by rw [bytes_eq h]
theorem ext_from (l : List UInt8) (k : Nat) : (⟨l.toArray⟩ : ByteArray).extract k l.length = ⟨(l.drop k).toArray⟩ := by
 rw [bytes_eta (ByteArray.extract _ _ _), Lib.extract_data]
 simp only
 rw [List.take_of_length_le (by rw [List.length_drop]; exact Nat.le_refl _)]
theorem ret_rec {fn : Func} {R : Ending → World → Prop} {a : Act} {W : World} {b p q : Nat} {r : Rc} {y : Value} (hf : fn.results = #[.cell p 94, .tmp q]) (hd : a.defers = [])
  (h2 : a.tmps.getD p undef = .pointer (some ⟨b, 0, none⟩)) (h3 : a.tmps.getD q undef = y) (hR : W.heap[b]? = some (boxRc r)) (hp : R (.returned (.tuple #[r.val, y])) W) :
  bodyPost Tryz.prog fn R .ret a W := by
 have c0 := fun i => Joins.cell_of_block hR i
 refine bodyPost_ret (v := .tuple #[r.val, y]) ?_ hd hp
 rw [results_cell_tmp hf, h2, h3]
 simp [go_sem, c0]
def r1 : Rc := ⟨1, 7, 0, e1⟩
def r2 : Rc := ⟨2, 0, 3, En.zero⟩
theorem note_number (s : ByteArray) (w : World) (hL : Laid w) (hs : s.size ≤ 30000) :
  Calls Tryz.prog 268 #[.string s] w fun e w' => e = .returned (.tuple #[.int .i64 ((numOf s.data.toList).getD 0), .bool (numOf s.data.toList).isSome]) ∧ Below w.heap.size w w' := by
 cases h : Lib.atoiAll s.data.toList with
 | ok v =>
  have hb := Lib.atoiAll_bounds h
  have hat := Tryz.strconv_Atoi_ok s (by omega) v h
  by_cases hi : Lib.itoa v = s.data.toList
  · have hn : numOf s.data.toList = some v := by simp only [numOf, h, if_pos hi]
   rw [hn]
   go_enter Tryz.func268, Tryz.ntmps268
   go_wp2_with fail
   refine (hat _).mono ?_
   rintro e w1 ⟨rfl, hw⟩
   have hb1 : Below w.heap.size w w1 := by
    rcases hw with rfl | ⟨t, rfl⟩
    · exact Below.refl _ _
    · exact Lib.bytesWorld_below _ _ _
   clear hw
   go_wp2_with fail
   refine (Tryz.strconv_Itoa v hb.1 hb.2 _ (hL.later hb1).pow).mono ?_
   rintro e w2 ⟨rfl, hw2⟩
   have hb2 := hb1.trans ((below_itoa hw2).mono hb1.size)
   clear hw2
   go_wp2
   go_ret2
   exact ⟨rfl, hb2⟩
  · have hn : numOf s.data.toList = none := by simp only [numOf, h, if_neg hi]
   rw [hn]
   clear hn h
   have hne : (Lib.itoa v == s.toList) = false := by rw [bytes_toList]; simpa using hi
   clear hi
   go_enter Tryz.func268, Tryz.ntmps268
   go_wp2_with fail
   refine (hat _).mono ?_
   rintro e w1 ⟨rfl, hw⟩
   have hb1 : Below w.heap.size w w1 := by
    rcases hw with rfl | ⟨t, rfl⟩
    · exact Below.refl _ _
    · exact Lib.bytesWorld_below _ _ _
   clear hw
   go_wp2_with fail
   refine (Tryz.strconv_Itoa v hb.1 hb.2 _ (hL.later hb1).pow).mono ?_
   rintro e w2 ⟨rfl, hw2⟩
   have hb2 := hb1.trans ((below_itoa hw2).mono hb1.size)
   clear hw2
   go_wp2
   go_ret2
   exact ⟨rfl, hb2⟩
 | «syntax» =>
  have hn : numOf s.data.toList = none := by simp only [numOf, h]
  rw [hn]
  obtain ⟨tp, p, hv⟩ := hL.syn
  have hv0 : w.cell? ⟨6, 0, none⟩ = some (.iface tp p) := by have h0 := World.var?_cell gSyn hv 0; simpa using h0
  go_enter Tryz.func268, Tryz.ntmps268
  go_wp2_with fail
  refine (Tryz.strconv_Atoi_syntax s (by omega) h _ _ hv0 (Or.inr ⟨_, _, rfl⟩)).mono ?_
  rintro e w1 ⟨N, rfl, -, -, hb⟩
  go_wp2
  go_ret2
  exact ⟨rfl, hb⟩
 | range =>
  have hn : numOf s.data.toList = none := by simp only [numOf, h]
  rw [hn]
  obtain ⟨tp, p, hv⟩ := hL.rng
  have hv0 : w.cell? ⟨7, 0, none⟩ = some (.iface tp p) := by have h0 := World.var?_cell gRng hv 0; simpa using h0
  go_enter Tryz.func268, Tryz.ntmps268
  go_wp2_with fail
  refine (Tryz.strconv_Atoi_range s (by omega) h _ _ hv0 (Or.inr ⟨_, _, rfl⟩)).mono ?_
  rintro e w1 ⟨N, rfl, -, -, hb⟩
  go_wp2
  go_ret2
  exact ⟨rfl, hb⟩
abbrev sealBy : ByteArray := ⟨#[115, 101, 97, 108, 32]⟩
theorem litePre (l : List UInt8) (w : World) : Calls Tryz.prog 185 #[.string ⟨l.toArray⟩, .string sealBy] w fun e w' => e = .returned (.bool (sealL.isPrefixOf l)) ∧ w' = w := Tryz.stringslite_HasPrefix ⟨l.toArray⟩ sealBy w
theorem liteCut_yes (l : List UInt8) (w : World) (hp : sealL.isPrefixOf l = true) (hl : l.length ≤ 30000) :
  Calls Tryz.prog 267 #[.string ⟨l.toArray⟩, .string sealBy] w fun e w' => e = .returned (.tuple #[.string ⟨(l.drop 5).toArray⟩, .bool true]) ∧ w' = w := by
 have hpr := litePre l w
 rw [hp] at hpr
 have hlen5 : 5 ≤ l.length := by have := congrArg List.length (seal_prefix hp); rw [List.length_append] at this; have h5 : sealL.length = 5 := rfl; omega
 have hsl := ext_from l 5
 have hl5 : (5 : Int) ≤ (l.length : Int) := by omega
 generalize l.drop 5 = l5 at *
 clear hp hlen5
 go_enter Tryz.func267, Tryz.ntmps267
 go_wp2_with fail
 refine hpr.mono ?_
 rintro e w1 ⟨rfl, rfl⟩
 go_wp2
 go_ret2
 exact ⟨rfl, rfl⟩
theorem liteCut_no (l : List UInt8) (w : World) (hp : sealL.isPrefixOf l = false) :
  Calls Tryz.prog 267 #[.string ⟨l.toArray⟩, .string sealBy] w fun e w' => e = .returned (.tuple #[.string ⟨l.toArray⟩, .bool false]) ∧ w' = w := by
 have hpr := litePre l w
 rw [hp] at hpr
 clear hp
 go_enter Tryz.func267, Tryz.ntmps267
 go_wp2_with fail
 refine hpr.mono ?_
 rintro e w1 ⟨rfl, rfl⟩
 go_wp2
 go_ret2
 exact ⟨rfl, rfl⟩
theorem cutPre_yes (l : List UInt8) (w : World) (hp : sealL.isPrefixOf l = true) (hl : l.length ≤ 30000) :
  Calls Tryz.prog 233 #[.string ⟨l.toArray⟩, .string sealBy] w fun e w' => e = .returned (.tuple #[.string ⟨(l.drop 5).toArray⟩, .bool true]) ∧ w' = w := by
 have hpr := liteCut_yes l w hp hl
 clear hp hl
 go_enter Tryz.func233, Tryz.ntmps233
 go_wp2_with fail
 refine hpr.mono ?_
 rintro e w1 ⟨rfl, rfl⟩
 go_wp2
 go_ret2
 exact ⟨rfl, rfl⟩
theorem cutPre_no (l : List UInt8) (w : World) (hp : sealL.isPrefixOf l = false) :
  Calls Tryz.prog 233 #[.string ⟨l.toArray⟩, .string sealBy] w fun e w' => e = .returned (.tuple #[.string ⟨l.toArray⟩, .bool false]) ∧ w' = w := by
 have hpr := liteCut_no l w hp
 clear hp
 go_enter Tryz.func233, Tryz.ntmps233
 go_wp2_with fail
 refine hpr.mono ?_
 rintro e w1 ⟨rfl, rfl⟩
 go_wp2
 go_ret2
 exact ⟨rfl, rfl⟩
theorem notePrint_any (r : Rc) (w : World) (hL : Laid w) :
  Calls Tryz.prog 165 #[r.val] w fun e w' => e = .returned (.tuple #[.string ⟨r.ptx.toArray⟩, .int .i64 r.chk]) ∧ Below w.heap.size w w' := by
 have hB0 := grew (Below.refl w.heap.size w) (boxRc r)
 have hck := noteCheck_any r (w.alloc (boxRc r))
 have hx0 : (w.alloc (boxRc r)).heap[w.heap.size]? = some (boxRc r) := heap_new _ _
 have hL0 := hL.later hB0
 have HB0 : Aside _ := hB0
 have HL0 : Aside _ := hL0
 have HX0 : Aside _ := hx0
 clear hB0 hL0 hx0
 by_cases hz : r.chk = 0
 · have HP : Hid (r.ptx = r.txt) := by rw [Hid, Rc.ptx, if_pos hz]
  rw [HP.out, hz]
  rw [hz] at hck
  by_cases hk : r.k = 2
  · have hp := (Rc.seal hz hk).1
   have HT : Hid (r.txt = sealL ++ Lib.itoa r.p) := by rw [Hid, Rc.txt, if_pos hk]
   have hit := fun W hW => itoa_any r.p W hW (by omega) (by omega)
   have hlen := Lib.itoa_length_le r.p (by omega) (by omega)
   have hkb : (r.k == 2) = true := by rw [hk]; rfl
   generalize Lib.itoa r.p = px at *
   have hd1 : ¬ (9223372036854775807 < 5 + px.length) := by omega
   have hd3 : 5 + px.length ≤ 9223372036854775807 := by omega
   clear hz hk
   go_enter Tryz.func165, Tryz.ntmps165
   go_wp2_with fail
   refine hck.mono ?_
   rintro e w1 ⟨rfl, hb1⟩
   have hx1 := heap_below HX0.out hb1 (heap_lt HX0.out)
   have z1 := fun i => Joins.cell_of_block hx1 i
   have HB1 : Aside _ := step_below1 HB0.out hb1
   have hit1 := hit w1 (HL0.out.later hb1)
   clear hck hx1 hb1 hit HB0 HL0 HX0 hL
   go_wp2_with fail
   refine hit1.mono ?_
   rintro e w2 ⟨rfl, hb2⟩
   have HB2 : Aside _ := step_below1 HB1.out hb2
   clear hit1 hb2 HB1 z1
   go_wp2
   refine ret_pair (p := 2) (q := 3) rfl rfl rfl rfl ⟨tup_str ?_, HB2.out⟩
   rw [HT.out, data_append]
   rfl
  · obtain ⟨h1, ha, hp, he⟩ := Rc.write hz hk
   have HT : Hid (r.txt = Lib.itoa r.a ++ ([58, 32] ++ r.e.txt)) := by rw [Hid, Rc.txt, if_neg hk]
   have hit := fun W hW => itoa_any r.a W hW (by omega) (by omega)
   have htx := fun W hW => print_any r.e W hW
   rw [En.ptx, if_pos he, he] at htx
   have hlen := Lib.itoa_length_le r.a (by omega) (by omega)
   have hlen2 := txt_len r.e he
   have hkb : (r.k == 2) = false := by rw [beq_eq_false_iff_ne]; exact hk
   generalize Lib.itoa r.a = px at *
   generalize r.e.txt = tx at *
   have hd1 : ¬ (9223372036854775807 < px.length + 2) := by omega
   have hd2 : ¬ (9223372036854775807 < px.length + 2 + tx.length) := by omega
   have hd3 : px.length + 2 ≤ 9223372036854775807 := by omega
   have hd4 : px.length + 2 + tx.length ≤ 9223372036854775807 := by omega
   have hd5 : ¬ (9223372036854775807 < px.length + (2 + tx.length)) := by omega
   have hd6 : px.length + (2 + tx.length) ≤ 9223372036854775807 := by omega
   clear hz h1 hp he hk
   go_enter Tryz.func165, Tryz.ntmps165
   go_wp2_with fail
   refine hck.mono ?_
   rintro e w1 ⟨rfl, hb1⟩
   have hx1 := heap_below HX0.out hb1 (heap_lt HX0.out)
   have z1 := fun i => Joins.cell_of_block hx1 i
   have HB1 : Aside _ := step_below1 HB0.out hb1
   have HL1 : Aside _ := HL0.out.later hb1
   have HX1 : Aside _ := hx1
   clear hck hx1 hb1 HB0 HL0 HX0 hL
   go_wp2_with fail
   refine (htx _ HL1.out).mono ?_
   rintro e w2 ⟨rfl, hb2⟩
   have hx2 := heap_below HX1.out hb2 (heap_lt HX1.out)
   have HB2 : Aside _ := step_below1 HB1.out hb2
   have HL2 : Aside _ := HL1.out.later hb2
   clear z1 hb2 htx HB1 HL1 HX1
   have z1 := fun i => Joins.cell_of_block hx2 i
   clear hx2
   go_wp2_with fail
   refine (hit _ HL2.out).mono ?_
   rintro e w3 ⟨rfl, hb3⟩
   have HB3 : Aside _ := step_below1 HB2.out hb3
   clear z1 hb3 hit HB2 HL2
   go_wp2
   refine ret_pair (p := 2) (q := 3) rfl rfl rfl rfl ⟨tup_str ?_, HB3.out⟩
   rw [HT.out, data_append, data_append]
   simp
 · have HP : Hid (r.ptx = []) := by rw [Hid, Rc.ptx, if_neg hz]
  rw [HP.out]
  have hzb : (r.chk != 0) = true := by rw [bne_iff_ne]; exact hz
  generalize r.chk = d at *
  go_enter Tryz.func165, Tryz.ntmps165
  go_wp2_with fail
  refine hck.mono ?_
  rintro e w1 ⟨rfl, hb1⟩
  have HB1 : Aside _ := step_below1 HB0.out hb1
  clear hck hb1 HB0 HL0 HX0 hL
  go_wp2
  exact ret_pair (p := 2) (q := 3) rfl rfl rfl rfl ⟨rfl, HB1.out⟩
def rdSeal (l : List UInt8) : Rc × Int := match numOf l with | none => (Rc.zero, 1) | some p => (⟨2, 0, p, En.zero⟩, 0)
def rdWrite (a b : List UInt8) : Rc × Int := match numOf a with | none => (Rc.zero, 1) | some x => if ¬ (prs b).2 = 0 then (Rc.zero, (prs b).2) else (⟨1, x, 0, (prs b).1⟩, 0)
def rdRaw (l : List UInt8) : Rc × Int :=
 if sealL.isPrefixOf l = true then rdSeal (l.drop 5) else if (Lib.cut l [58, 32]).2.2 = false then (Rc.zero, 1) else rdWrite (Lib.cut l [58, 32]).1 (Lib.cut l [58, 32]).2.1
theorem read_raw (l : List UInt8) : rcRead l = if ¬ (rdRaw l).2 = 0 then (Rc.zero, (rdRaw l).2) else (rdRaw l).1.fin := by
 unfold rcRead rdRaw
 by_cases hp : sealL.isPrefixOf l = true
 · rw [if_pos hp, if_pos hp]
  unfold rdSeal
  cases numOf (l.drop 5) with
  | none => rfl
  | some p => rfl
 · rw [if_neg hp, if_neg hp]
  by_cases hc : (Lib.cut l [58, 32]).2.2 = false
  · rw [if_pos hc, if_pos hc]; rfl
  · rw [if_neg hc, if_neg hc]
   unfold rdWrite
   cases numOf (Lib.cut l [58, 32]).1 with
   | none => rfl
   | some a =>
    simp only
    by_cases he : (prs (Lib.cut l [58, 32]).2.1).2 = 0
    · have hn : ¬ ¬ (prs (Lib.cut l [58, 32]).2.1).2 = 0 := fun h => h he
     simp only [if_neg hn]
     rfl
    · simp only [if_pos he]
theorem readSeal_any (l : List UInt8) (w : World) (hL : Laid w) (hl : l.length ≤ 30000) :
  Calls Tryz.prog 234 #[.string ⟨l.toArray⟩] w fun e w' => e = .returned (.tuple #[(rdSeal l).1.val, .int .i64 (rdSeal l).2]) ∧ Below w.heap.size w w' := by
 have hnu := note_number ⟨l.toArray⟩ (w.alloc (boxRc Rc.zero)) (hL.later (grew (Below.refl _ _) _)) (by rw [Lib.size_eq]; exact hl)
 rw [show (⟨l.toArray⟩ : ByteArray).data.toList = l from rfl] at hnu
 have HX0 : Aside ((w.alloc (boxRc Rc.zero)).heap[w.heap.size]? = some (boxRc Rc.zero)) := heap_new _ _
 have HB0 : Aside (Below w.heap.size w (w.alloc (boxRc Rc.zero))) := grew (Below.refl _ _) _
 clear hL hl
 cases hn : numOf l with
 | none =>
  have HF : Hid (rdSeal l = (Rc.zero, 1)) := by rw [Hid, rdSeal, hn]
  rw [HF.out]
  rw [hn] at hnu
  clear hn HF
  go_enter Tryz.func234, Tryz.ntmps234
  go_wp2_with fail
  refine hnu.mono ?_
  rintro e w1 ⟨rfl, hb1⟩
  have y0 := heap_below HX0.out hb1 (heap_lt HX0.out)
  have HB1 : Aside _ := step_below1 HB0.out hb1
  have HX1 : Aside _ := y0
  have z0 := fun i => Joins.cell_of_block y0 i
  have f0 := fun i => Joins.unfrozen_of_block y0 i
  clear hb1 y0 HX0 HB0 hnu
  go_wp2
  exact ret_rec (p := 2) (q := 3) Tryz.results234 rfl rfl rfl (eight_stores HX1.out Rc.zero) ⟨rfl, below_eight HB1.out (Nat.le_refl _) _ _ _ _ _ _ _ _⟩
 | some p =>
  have HF : Hid (rdSeal l = (⟨2, 0, p, En.zero⟩, 0)) := by rw [Hid, rdSeal, hn]
  rw [HF.out]
  rw [hn] at hnu
  clear hn HF
  go_enter Tryz.func234, Tryz.ntmps234
  go_wp2_with fail
  refine hnu.mono ?_
  rintro e w1 ⟨rfl, hb1⟩
  have y0 := heap_below HX0.out hb1 (heap_lt HX0.out)
  have HB1 : Aside _ := step_below1 HB0.out hb1
  have HX1 : Aside _ := y0
  have z0 := fun i => Joins.cell_of_block y0 i
  have f0 := fun i => Joins.unfrozen_of_block y0 i
  clear hb1 y0 HX0 HB0 hnu
  go_wp2
  exact ret_rec (p := 2) (q := 3) Tryz.results234 rfl rfl rfl (eight_stores HX1.out ⟨2, 0, p, En.zero⟩) ⟨rfl, below_eight HB1.out (Nat.le_refl _) _ _ _ _ _ _ _ _⟩
theorem readWrite_any (l m : List UInt8) (w : World) (hL : Laid w) (hl : l.length ≤ 30000) :
  Calls Tryz.prog 236 #[.string ⟨l.toArray⟩, .string ⟨m.toArray⟩] w fun e w' => e = .returned (.tuple #[(rdWrite l m).1.val, .int .i64 (rdWrite l m).2]) ∧ Below w.heap.size w w' := by
 have hnu := note_number ⟨l.toArray⟩ (w.alloc (boxRc Rc.zero)) (hL.later (grew (Below.refl _ _) _)) (by rw [Lib.size_eq]; exact hl)
 rw [show (⟨l.toArray⟩ : ByteArray).data.toList = l from rfl] at hnu
 have hps := fun W hW => parse_any ⟨m.toArray⟩ W hW
 have HX0 : Aside ((w.alloc (boxRc Rc.zero)).heap[w.heap.size]? = some (boxRc Rc.zero)) := heap_new _ _
 have HB0 : Aside (Below w.heap.size w (w.alloc (boxRc Rc.zero))) := grew (Below.refl _ _) _
 have HL : Aside (Laid w) := hL
 clear hL hl
 cases hn : numOf l with
 | none =>
  have HF : Hid (rdWrite l m = (Rc.zero, 1)) := by rw [Hid, rdWrite, hn]
  rw [HF.out]
  rw [hn] at hnu
  clear hn HF hps
  go_enter Tryz.func236, Tryz.ntmps236
  go_wp2_with fail
  refine hnu.mono ?_
  rintro e w1 ⟨rfl, hb1⟩
  have y0 := heap_below HX0.out hb1 (heap_lt HX0.out)
  have HB1 : Aside _ := step_below1 HB0.out hb1
  have HX1 : Aside _ := y0
  have z0 := fun i => Joins.cell_of_block y0 i
  have f0 := fun i => Joins.unfrozen_of_block y0 i
  clear hb1 y0 HX0 HB0 hnu HL
  go_wp2
  exact ret_rec (p := 4) (q := 5) Tryz.results236 rfl rfl rfl (eight_stores HX1.out Rc.zero) ⟨rfl, below_eight HB1.out (Nat.le_refl _) _ _ _ _ _ _ _ _⟩
 | some x =>
  have HF : Hid (rdWrite l m = if ¬ (prs m).2 = 0 then (Rc.zero, (prs m).2) else (⟨1, x, 0, (prs m).1⟩, 0)) := by rw [Hid, rdWrite, hn]
  rw [HF.out]
  rw [hn] at hnu
  change ∀ W, Laid W → Calls _ _ _ _ fun e w' => e = .returned (.tuple #[(prs m).1.val, .int .i64 (prs m).2]) ∧ _ at hps
  generalize (prs m).1 = y at *
  generalize (prs m).2 = f at *
  obtain ⟨rr, HRR⟩ : ∃ rr, Hid ((if ¬ f = 0 then (Rc.zero, f) else ((⟨1, x, 0, y⟩ : Rc), 0)) = rr) := ⟨_, rfl⟩
  rw [HRR.out]
  clear hn HF
  go_enter Tryz.func236, Tryz.ntmps236
  go_wp2_with fail
  refine hnu.mono ?_
  rintro e w1 ⟨rfl, hb1⟩
  have y0 := heap_below HX0.out hb1 (heap_lt HX0.out)
  have HB1 : Aside _ := step_below1 HB0.out hb1
  have HX1 : Aside _ := y0
  have hL1 := HL.out.later HB1.out
  clear hb1 y0 HX0 HB0 hnu HL
  go_wp2_with fail
  refine (hps _ hL1).mono ?_
  rintro e w2 ⟨rfl, hb2⟩
  have y0 := heap_below HX1.out hb2 (heap_lt HX1.out)
  have HB2 : Aside (Below w.heap.size w (w2.alloc (boxE y.k y.j y.v y.t y.c))) := grew (step_below1 HB1.out hb2) _
  have HX2 : Aside ((w2.alloc (boxE y.k y.j y.v y.t y.c)).heap[w.heap.size]? = some (boxRc Rc.zero)) := heap_old y0 _
  have HY2 : Aside ((w2.alloc (boxE y.k y.j y.v y.t y.c)).heap[w2.heap.size]? = some (boxE y.k y.j y.v y.t y.c)) := heap_new _ _
  clear hb2 y0 HX1 HB1 hps hL1
  go_upto_region 5 with fail
  generalize w2.alloc (boxE y.k y.j y.v y.t y.c) = V at *
  generalize w2.heap.size = eb at *
  have z0 := fun i => Joins.cell_of_block HX2.out i
  have f0 := fun i => Joins.unfrozen_of_block HX2.out i
  have z1 := fun i => Joins.cell_of_block HY2.out i
  by_cases hf : f = 0
  · have hfb : (f != 0) = false := by rw [hf]; rfl
   have HF3 : Hid (rr = (⟨1, x, 0, y⟩, 0)) := by rw [Hid, ← HRR.out, if_neg (by simpa using hf)]
   clear hf HRR
   go_wp2
   exact ret_rec (p := 4) (q := 5) Tryz.results236 rfl rfl rfl (eight_stores HX2.out ⟨1, x, 0, y⟩) ⟨by rw [HF3.out]; rfl, below_eight HB2.out (Nat.le_refl _) _ _ _ _ _ _ _ _⟩
  · have hfb : (f != 0) = true := by rw [bne_iff_ne]; exact hf
   have HF3 : Hid (rr = (Rc.zero, f)) := by rw [Hid, ← HRR.out, if_pos hf]
   clear hf HRR
   go_wp2
   exact ret_rec (p := 4) (q := 5) Tryz.results236 rfl rfl rfl (eight_stores HX2.out Rc.zero) ⟨by rw [HF3.out]; rfl, below_eight HB2.out (Nat.le_refl _) _ _ _ _ _ _ _ _⟩
theorem cutColon (l : List UInt8) (w : World) (hL : Laid w) (hl : l.length ≤ 30000) :
  Calls Tryz.prog 235 #[.string ⟨l.toArray⟩, .string ⟨#[58, 32]⟩] w fun e w' => e = .returned (.tuple #[.string ⟨(Lib.cut l [58, 32]).1.toArray⟩, .string ⟨(Lib.cut l [58, 32]).2.1.toArray⟩, .bool (Lib.cut l [58, 32]).2.2]) ∧ Below w.heap.size w w' := by
 obtain ⟨m, hm⟩ := hL.most
 have h := Tryz.strings_Cut ⟨l.toArray⟩ ⟨#[58, 32]⟩ m w (by simp [Lib.size_eq]; omega) hm
 refine h.mono ?_
 rintro e w' ⟨he, q, rfl⟩
 exact ⟨he, below_drewN (Below.refl _ _) _⟩
theorem cut_fst_len (l s : List UInt8) : (Lib.cut l s).1.length ≤ l.length := by
 unfold Lib.cut
 split
 · simp only [List.length_take]; omega
 · exact Nat.le_refl _
theorem noteRead_any (l : List UInt8) (w : World) (hL : Laid w) (hl : l.length ≤ 30000) :
  Calls Tryz.prog 207 #[.string ⟨l.toArray⟩] w fun e w' => e = .returned (.tuple #[(rdRaw l).1.val, .int .i64 (rdRaw l).2]) ∧ Below w.heap.size w w' := by
 have HX0 : Aside ((w.alloc (boxRc Rc.zero)).heap[w.heap.size]? = some (boxRc Rc.zero)) := heap_new _ _
 have HB0 : Aside (Below w.heap.size w (w.alloc (boxRc Rc.zero))) := grew (Below.refl _ _) _
 have HL : Aside (Laid w) := hL
 cases hp : sealL.isPrefixOf l with
 | true =>
  have hcp := cutPre_yes l (w.alloc (boxRc Rc.zero)) hp hl
  have HF : Hid (rdRaw l = rdSeal (l.drop 5)) := by rw [Hid, rdRaw, if_pos hp]
  rw [HF.out]
  have hrs := readSeal_any (l.drop 5) (w.alloc (boxRc Rc.zero)) (hL.later HB0.out) (by rw [List.length_drop]; omega)
  generalize l.drop 5 = l5 at *
  generalize (rdSeal l5).1 = y at *
  generalize (rdSeal l5).2 = f at *
  clear hp HF hL hl HL
  go_enter Tryz.func207, Tryz.ntmps207
  go_wp2_with fail
  refine hcp.mono ?_
  rintro e w1 ⟨rfl, rfl⟩
  clear hcp
  go_wp2_with fail
  refine hrs.mono ?_
  rintro e w1 ⟨rfl, hb1⟩
  have y0 := heap_below HX0.out hb1 (heap_lt HX0.out)
  have HB1 : Aside _ := step_below1 HB0.out hb1
  have HX1 : Aside _ := y0
  have z0 := fun i => Joins.cell_of_block y0 i
  have f0 := fun i => Joins.unfrozen_of_block y0 i
  clear hb1 y0 HX0 HB0 hrs
  go_wp2
  exact ret_rec (p := 2) (q := 3) Tryz.results207 rfl rfl rfl (eight_stores HX1.out y) ⟨rfl, below_eight HB1.out (Nat.le_refl _) _ _ _ _ _ _ _ _⟩
 | false =>
  have hcp := cutPre_no l (w.alloc (boxRc Rc.zero)) hp
  have hcc := cutColon l (w.alloc (boxRc Rc.zero)) (hL.later HB0.out) hl
  have HF : Hid (rdRaw l = if (Lib.cut l [58, 32]).2.2 = false then (Rc.zero, 1) else rdWrite (Lib.cut l [58, 32]).1 (Lib.cut l [58, 32]).2.1) := by rw [Hid, rdRaw, if_neg (by rw [hp]; simp)]
  have hal := Nat.le_trans (cut_fst_len l [58, 32]) hl
  generalize (Lib.cut l [58, 32]).1 = la at *
  generalize (Lib.cut l [58, 32]).2.1 = lb at *
  generalize (Lib.cut l [58, 32]).2.2 = bb at *
  clear hp hL hl
  cases bb with
  | false =>
   rw [if_pos rfl] at HF
   rw [HF.out]
   clear hal HL HF
   go_enter Tryz.func207, Tryz.ntmps207
   go_wp2_with fail
   refine hcp.mono ?_
   rintro e w1 ⟨rfl, rfl⟩
   clear hcp
   go_wp2_with fail
   refine hcc.mono ?_
   rintro e w1 ⟨rfl, hb1⟩
   have y0 := heap_below HX0.out hb1 (heap_lt HX0.out)
   have HB1 : Aside _ := step_below1 HB0.out hb1
   have HX1 : Aside _ := y0
   have z0 := fun i => Joins.cell_of_block y0 i
   have f0 := fun i => Joins.unfrozen_of_block y0 i
   clear hb1 y0 HX0 HB0 hcc
   go_wp2
   exact ret_rec (p := 2) (q := 3) Tryz.results207 rfl rfl rfl (eight_stores HX1.out Rc.zero) ⟨rfl, below_eight HB1.out (Nat.le_refl _) _ _ _ _ _ _ _ _⟩
  | true =>
   rw [if_neg (by simp)] at HF
   rw [HF.out]
   have hrw := fun W hW => readWrite_any la lb W hW hal
   generalize (rdWrite la lb).1 = y at *
   generalize (rdWrite la lb).2 = f at *
   clear hal HF
   go_enter Tryz.func207, Tryz.ntmps207
   go_wp2_with fail
   refine hcp.mono ?_
   rintro e w1 ⟨rfl, rfl⟩
   clear hcp
   go_wp2_with fail
   refine hcc.mono ?_
   rintro e w1 ⟨rfl, hb1⟩
   have y0 := heap_below HX0.out hb1 (heap_lt HX0.out)
   have HB1 : Aside _ := step_below1 HB0.out hb1
   have HX1 : Aside _ := y0
   have hL1 := HL.out.later HB1.out
   clear hb1 y0 HX0 HB0 hcc HL
   go_wp2_with fail
   refine (hrw _ hL1).mono ?_
   rintro e w2 ⟨rfl, hb2⟩
   have y0 := heap_below HX1.out hb2 (heap_lt HX1.out)
   have HB2 : Aside _ := step_below1 HB1.out hb2
   have HX2 : Aside _ := y0
   have z0 := fun i => Joins.cell_of_block y0 i
   have f0 := fun i => Joins.unfrozen_of_block y0 i
   clear hb2 y0 HX1 HB1 hrw hL1
   go_wp2
   exact ret_rec (p := 2) (q := 3) Tryz.results207 rfl rfl rfl (eight_stores HX2.out y) ⟨rfl, below_eight HB2.out (Nat.le_refl _) _ _ _ _ _ _ _ _⟩
theorem noteParse_few (l : List UInt8) (w : World) (hL : Laid w) (hl : l.length ≤ 30000) :
  Calls Tryz.prog 181 #[.string ⟨l.toArray⟩] w fun e w' => e = .returned (.tuple #[(rcRead l).1.val, .int .i64 (rcRead l).2]) ∧ Below w.heap.size w w' := by
 have HX0 : Aside ((w.alloc (boxRc Rc.zero)).heap[w.heap.size]? = some (boxRc Rc.zero)) := heap_new _ _
 have HB0 : Aside (Below w.heap.size w (w.alloc (boxRc Rc.zero))) := grew (Below.refl _ _) _
 have hrd := noteRead_any l (w.alloc (boxRc Rc.zero)) (hL.later HB0.out) hl
 have HF : Hid (rcRead l = if ¬ (rdRaw l).2 = 0 then (Rc.zero, (rdRaw l).2) else (rdRaw l).1.fin) := read_raw l
 rw [HF.out]
 generalize (rdRaw l).1 = y at *
 generalize (rdRaw l).2 = f at *
 have hle : (l.length : Int) ≤ 30000 := by omega
 have hck := fun W => noteCheck_any y W
 have HC : Hid (y.fin = if y.chk = 0 then (y, 0) else (Rc.zero, y.chk)) := rfl
 generalize y.chk = d at *
 obtain ⟨rr, HRR⟩ : ∃ rr, Hid ((if ¬ f = 0 then (Rc.zero, f) else y.fin) = rr) := ⟨_, rfl⟩
 rw [HRR.out]
 clear hL hl HF
 go_enter Tryz.func181, Tryz.ntmps181
 go_wp2_with fail
 refine hrd.mono ?_
 rintro e w1 ⟨rfl, hb1⟩
 have y0 := heap_below HX0.out hb1 (heap_lt HX0.out)
 have HB1 : Aside (Below w.heap.size w (w1.alloc (boxRc y))) := grew (step_below1 HB0.out hb1) _
 have HX1 : Aside ((w1.alloc (boxRc y)).heap[w.heap.size]? = some (boxRc Rc.zero)) := heap_old y0 _
 have HY1 : Aside ((w1.alloc (boxRc y)).heap[w1.heap.size]? = some (boxRc y)) := heap_new _ _
 clear hb1 y0 HX0 HB0 hrd
 go_upto_region 4 with fail
 generalize w1.alloc (boxRc y) = V at *
 generalize w1.heap.size = yb at *
 have z0 := fun i => Joins.cell_of_block HX1.out i
 have f0 := fun i => Joins.unfrozen_of_block HX1.out i
 have z1 := fun i => Joins.cell_of_block HY1.out i
 by_cases hf : f = 0
 · have hfb : (f != 0) = false := by rw [hf]; rfl
  have HF3 : Hid (rr = y.fin) := by rw [Hid, ← HRR.out, if_neg (by simpa using hf)]
  clear hf HRR
  go_wp2_with fail
  refine (hck _).mono ?_
  rintro e w5 ⟨rfl, hb5⟩
  have y0 := heap_below HX1.out hb5 (heap_lt HX1.out)
  have y1 := heap_below HY1.out hb5 (heap_lt HY1.out)
  have HB5 : Aside _ := step_below1 HB1.out hb5
  have HR5 : Aside _ := y0
  clear z0 f0 z1 hb5 HX1 HY1 HB1 hck
  have z0 := fun i => Joins.cell_of_block y0 i
  have f0 := fun i => Joins.unfrozen_of_block y0 i
  have z1 := fun i => Joins.cell_of_block y1 i
  clear y0 y1
  by_cases hd : d = 0
  · subst hd
   have HF2 : Hid (y.fin = (y, 0)) := by rw [Hid, HC.out, if_pos rfl]
   clear HC
   go_wp2
   exact ret_rec (p := 2) (q := 3) Tryz.results181 rfl rfl rfl (eight_stores HR5.out y) ⟨by rw [HF3.out, HF2.out]; rfl, below_eight HB5.out (Nat.le_refl _) _ _ _ _ _ _ _ _⟩
  · have HF2 : Hid (y.fin = (Rc.zero, d)) := by rw [Hid, HC.out, if_neg hd]
   have hdb : (d != 0) = true := by rw [bne_iff_ne]; exact hd
   clear HC
   go_wp2
   exact ret_rec (p := 2) (q := 3) Tryz.results181 rfl rfl rfl (eight_stores HR5.out Rc.zero) ⟨by rw [HF3.out, HF2.out]; rfl, below_eight HB5.out (Nat.le_refl _) _ _ _ _ _ _ _ _⟩
 · have hfb : (f != 0) = true := by rw [bne_iff_ne]; exact hf
  have HF3 : Hid (rr = (Rc.zero, f)) := by rw [Hid, ← HRR.out, if_pos hf]
  clear HC hck hf HRR
  go_wp2
  exact ret_rec (p := 2) (q := 3) Tryz.results181 rfl rfl rfl (eight_stores HX1.out Rc.zero) ⟨by rw [HF3.out]; rfl, below_eight HB1.out (Nat.le_refl _) _ _ _ _ _ _ _ _⟩
theorem bytesOf_back (l : List UInt8) : Lib.bytesOf (l.map fun x => (x.toNat : Int)) = l := by
 unfold Lib.bytesOf
 rw [List.map_map]
 conv => rhs; rw [← List.map_id l]
 apply List.map_congr_left
 intro x _
 simp
theorem idx_nl (l : List UInt8) (b off c : Nat) (w : World) (h : RowAt bt 1 w b off l) :
  Calls Tryz.prog 180 #[.slice (some ⟨b, off, none⟩) l.length c, .int .u8 10] w fun e w' => e = .returned (.int .i64 (Lib.indexByte l 10)) ∧ w' = w := by
 have k := Tryz.bytes_IndexByte b off l.length c (l.map fun x => (x.toNat : Int)) 10 w (by simp) (fun i hi => by
  have := h i l[i] (List.getElem?_eq_getElem hi) 0 _ rfl
  rw [Nat.mul_one, Nat.add_zero] at this
  rw [this, List.getD_eq_getElem?_getD, List.getElem?_map, List.getElem?_eq_getElem hi]
  rfl)
 rw [bytesOf_back] at k
 exact k
theorem nl_at {l a b : List UInt8} (h : Lib.cut l [10] = (a, b, true)) : Lib.indexByte l 10 = a.length := by rw [← Lib.index_one]; exact (nl_first h).2
theorem nl_at_none {l a b : List UInt8} (h : Lib.cut l [10] = (a, b, false)) : Lib.indexByte l 10 = -1 := by rw [← Lib.index_one]; exact nl_index_no (by rw [h])
theorem elemY : Tryz.prog.underlying 45 = some (.slice (Tryz.prog.elem 45)) := by kernel_rfl
theorem oneBy (W : World) : (sizeOf (Tryz.prog.elem 45)).run Tryz.prog W = .ok 1 W := by kernel_rfl
theorem sl_rest (b off n c t : Nat) (ht : t < n) (hc : n ≤ c) (W : World) : (Instr.slice 45 (.slice (some ⟨b, off, none⟩) n c) (some (.int .i64 t)) none none).run Tryz.prog W = .ok (.slice (some ⟨b, off + t, none⟩) (n - t) (c - t)) W := by
 rw [run_slice_l (ht := elemY) (h0 := by omega) (h1 := by omega)]
 have hne : ¬ c = t := by omega
 rw [oneBy]
 simp [Result.andThen, sliced, Lib.add_plain, hne]
theorem sl_piece (b off n c t u : Nat) (ht : t < n) (hu : t + u ≤ n) (hc : n ≤ c) (W : World) : (Instr.slice 45 (.slice (some ⟨b, off, none⟩) n c) (some (.int .i64 t)) (some (.int .i64 ((t + u : Nat) : Int))) none).run Tryz.prog W = .ok (.slice (some ⟨b, off + t, none⟩) u (c - t)) W := by
 rw [run_slice_lh (ht := elemY) (h0 := by omega) (h1 := by omega) (h2 := by omega)]
 have hne : ¬ c = t := by omega
 rw [oneBy]
 have e : t + u - t = u := by omega
 simp only [Result.andThen, sliced, Int.toNat_natCast, Lib.add_plain, Nat.mul_one, if_neg hne, Option.map_some, e]
theorem read_at (b off n c : Nat) (l : List UInt8) (w : World) (hL : Laid w) (hT : RowAt bt 1 w b off l) (hn : l.length = n) (hn0 : 0 < n) (hc : n ≤ c) (hl : n ≤ 30000) :
  Calls Tryz.prog 142 #[.slice (some ⟨b, off, none⟩) n c] w fun e w' => ∃ v, e = .returned (.tuple #[v, .int .i64 (linesOf l 160).2.1, .int .i64 (linesOf l 160).2.2]) ∧ w'.ownsRow w.heap.size 94 8 v (linesOf l 160).1.length ((linesOf l 160).1.flatMap Rc.cells) ∧ Below w.heap.size w w' := by
 have HR : Hid (linesOf l 160 = dl 160 (l.length + 1) l [] 0) := rfl
 have HT : Hid (RowAt bt 1 w b off l) := hT
 have HN : Hid (l.length = n) := hn
 have HF0 : Hid (l.length < l.length + 1) := Nat.lt_succ_self _
 clear hT hn
 go_enter Tryz.func142, Tryz.ntmps142
 go_wp2
 go_loopw [5, 6] (fun v z wr => ∃ (f cnt m : Nat) (acc : List Rc) (r : List UInt8) (ao : Option Addr) (cv : Nat), z = .int .i64 cnt ∧ v = .slice ao m cv ∧ wr.ownsRow w.heap.size 94 8 (.slice ao m cv) m (acc.flatMap Rc.cells) ∧ Hid (acc.length = m) ∧
  m ≤ 160 ∧ Below w.heap.size w wr ∧ Hid (cnt + r.length = n) ∧ Hid (l.drop cnt = r ∧ r.length < f ∧ linesOf l 160 = dl 160 f r acc cnt)) (fun _ z _ => n - (intOf z).toNat)
 case atStart => exact ⟨l.length + 1, 0, 0, [], l, none, 0, rfl, rfl, World.ownsRow_nil _ _ _ _, rfl, Nat.zero_le _, Below.refl _ _, by rw [Hid, Nat.zero_add]; exact HN.out, rfl, HF0.out, HR.out⟩
 case round =>
  clear HR HF0
  obtain ⟨f, cnt, m, acc, r, ao, cv, rfl, rfl, hown, HM, hacc, hB, hr3, hst⟩ := hrel
  have hLr := hL.later hB
  by_cases hr : r = []
  · have hcn : cnt = n := by have := hr3.out; rw [hr] at this; simpa using this
   obtain ⟨f', hf'⟩ : ∃ f', f = f' + 1 := ⟨f - 1, by have := hst.out.2.1; omega⟩
   have HF : Hid (linesOf l 160 = (acc, cnt, 0)) := by rw [Hid, hst.out.2.2, hr, hf']; exact dl_nil _ _ _ _
   have hge : (n : Int) ≤ (cnt : Int) := by omega
   have HO : Aside _ := hown
   clear hst hr hown hr3 hcn
   go_wp2
   go_ret3
   exact ⟨.slice ao m cv, by rw [HF.out]; rfl, by rw [HF.out]; show wr.ownsRow _ _ _ _ acc.length _; rw [HM.out]; exact HO.out, hB⟩
  · have hcn : cnt < n := by
    have := hr3.out
    have : 0 < r.length := List.length_pos_iff.2 hr
    omega
   have hlt : (cnt : Int) < (n : Int) := by omega
   have hrow : RowAt bt 1 wr b (off + cnt) r := by
    have := (HT.out.later hB).drop cnt
    rw [hst.out.1, Nat.mul_one] at this
    exact this
   have hidx := idx_nl r b (off + cnt) (c - cnt) wr hrow
   have hsl := fun W => sl_rest b off n c cnt hcn hc W
   rw [show n - cnt = r.length by have := hr3.out; omega] at hsl
   have hrl : r.length ≤ 30000 := by have := hr3.out; omega
   rcases hcut : Lib.cut r [10] with ⟨a, z, g⟩
   cases g with
   | false =>
    obtain ⟨f', hf'⟩ : ∃ f', f = f' + 1 := ⟨f - 1, by have := hst.out.2.1; omega⟩
    have HF : Hid (linesOf l 160 = (acc, cnt, 9)) := by rw [Hid, hst.out.2.2, hf']; exact dl_torn _ _ _ _ hr hcut
    rw [nl_at_none hcut] at hidx
    have HO : Aside _ := hown
    clear hst hr hown hr3 hcut hrow
    generalize r.length = k at *
    go_wp2_with fail
    refine hidx.mono ?_
    rintro e w2 ⟨rfl, rfl⟩
    clear hidx hsl
    go_wp2
    go_ret3
    exact ⟨.slice ao m cv, by rw [HF.out]; rfl, by rw [HF.out]; show World.ownsRow _ _ _ _ _ acc.length _; rw [HM.out]; exact HO.out, hB⟩
   | true =>
    have hra := nl_back r a z hcut
    have hlen : r.length = a.length + 1 + z.length := by rw [hra]; simp; omega
    rw [nl_at hcut] at hidx
    have hal : a.length ≤ 30000 := by omega
    have hpiece := fun W => sl_piece b off n c cnt a.length hcn (by have := hr3.out; omega) hc W
    rw [Int.natCast_add] at hpiece
    have hta : r.take a.length = a := by rw [hra, List.take_left']; rfl
    have hby : ByteSl wr (.slice (some ⟨b, off + cnt, none⟩) a.length (c - cnt)) a := by
     have := hrow.take a.length
     rw [hta] at this
     exact ⟨_, _, rfl, Or.inr ⟨b, off + cnt, rfl, this⟩⟩
    have hcv := str_of hby
    have hps := fun W hW => noteParse_few a W hW hal
    obtain ⟨f', hf'⟩ : ∃ f', f = f' + 1 := ⟨f - 1, by have := hst.out.2.1; omega⟩
    subst hf'
    have hF1 : Hid ((rcRead a).2 ≠ 0 → linesOf l 160 = (acc, cnt, (rcRead a).2)) := fun h => by rw [hst.out.2.2]; exact dl_bad _ _ _ _ hr hcut h
    have hF2 : Hid ((rcRead a).2 = 0 → m = 160 → linesOf l 160 = (acc, cnt, 2)) := fun h h' => by rw [hst.out.2.2]; exact dl_many _ _ _ _ hr hcut h (by rw [HM.out]; omega)
    have hF3 : Hid ((rcRead a).2 = 0 → ¬ m = 160 → linesOf l 160 = dl 160 f' z (acc ++ [(rcRead a).1]) (cnt + a.length + 1)) := fun h h' => by rw [hst.out.2.2]; exact dl_more _ _ _ _ hr hcut h (by rw [HM.out]; omega)
    have HZ : Hid (l.drop (cnt + a.length + 1) = z ∧ z.length < f' ∧ cnt + a.length + 1 + z.length = n) := by
     refine ⟨?_, by have := hst.out.2.1; omega, by have := hr3.out; omega⟩
     rw [show cnt + a.length + 1 = cnt + (a.length + 1) by omega, ← List.drop_drop, hst.out.1, hra]
     rw [show a ++ 10 :: z = (a ++ [10]) ++ z by simp, List.drop_left']
     simp
    have HO : Aside (wr.ownsRow w.heap.size 94 8 (.slice ao m cv) m (acc.flatMap Rc.cells)) := hown
    have hsum1 : IntKind.i64.wrap ((cnt : Int) + ((a.length : Int) + 1)) = ((cnt + a.length + 1 : Nat) : Int) := by rw [IntKind.wrap_i64]; omega
    have hcb : cnt ≤ 30000 := by omega
    clear hst hr hown hr3 hcut hrow hra hlen hta hby
    generalize r.length = k at *
    generalize (rcRead a).1 = y at *
    generalize (rcRead a).2 = cd at *
    generalize a.length = al at *
    go_wp2_with fail
    refine hidx.mono ?_
    rintro e w2 ⟨rfl, rfl⟩
    clear hidx hsl
    go_wp2_with fail
    refine (hps _ hLr).mono ?_
    rintro e w3 ⟨rfl, hB3⟩
    have hB3' := hB.trans (hB3.mono hB.size)
    have HO3 : Aside (w3.ownsRow w.heap.size 94 8 (.slice ao m cv) m (acc.flatMap Rc.cells)) := ownsRow_later HO.out hB3
    clear hps hpiece hcv hB hB3 HO hLr
    by_cases hcd : cd = 0
    · subst hcd
     by_cases hm : m = 160
     · have HF : Hid (linesOf l 160 = (acc, cnt, 2)) := hF2.out rfl hm
      have hmb : ((m : Int) == 160) = true := by rw [hm]; rfl
      have HOA : Aside ((w3.alloc (boxRc y)).ownsRow w.heap.size 94 8 (.slice ao m cv) m (acc.flatMap Rc.cells)) := ownsRow_later HO3.out (grew (Below.refl _ _) _)
      clear hF1 hF2 hF3 hm
      go_wp2
      go_ret3
      exact ⟨.slice ao m cv, by rw [HF.out]; rfl, by rw [HF.out]; show World.ownsRow _ _ _ _ _ acc.length _; rw [HM.out]; exact HOA.out, grew hB3' _⟩
     · have HF : Hid (linesOf l 160 = dl 160 f' z (acc ++ [y]) (cnt + al + 1)) := hF3.out rfl hm
      have hmb : ((m : Int) == 160) = false := by rw [beq_eq_false_iff_ne]; omega
      have hm1 : m + 1 ≤ 160 := by omega
      have hes : Hid (RecSl ((w3.alloc (boxRc y)).alloc (boxRc y)) (.slice (some ⟨w3.heap.size + 1, 0, none⟩) 1 1) [y]) := by
       have := slOf_lit Rc.eight (w := (w3.alloc (boxRc y)).alloc (boxRc y)) (c := 1) (xs := [y]) (heap_new (w3.alloc (boxRc y)) (boxRc y)) rfl
       rwa [World.size_alloc] at this
      have own3 : Hid (((w3.alloc (boxRc y)).alloc (boxRc y)).ownsRow w.heap.size 94 8 (.slice ao m cv) m (acc.flatMap Rc.cells)) := (HO3.out.alloc _).alloc _
      clear hF1 hF2 hF3 hm
      go_wp2_with (at_builtin; refine appendC rfl _ _ rfl w.heap.size _ _ m _ rfl own3.out [y] rfl hes.out (by simp; omega) (by have := hB3'.size; simp only [World.size_alloc]; omega) ?_; intro v' w4 hown' hgrow)
      have hB4 : Below w.heap.size w w4 := (grew (grew hB3' _) _).grown hgrow (by have := hB3'.size; simp only [World.size_alloc]; omega) (fun q hq => by have := (HO3.out.lt q hq).1; omega)
      obtain ⟨g4, cap4, hv4⟩ := Joins.ownsRow_form hown' (by simp)
      rw [hv4] at hown'
      have hO4 : w4.ownsRow w.heap.size 94 8 (.slice (some ⟨g4, 0, none⟩) (m + 1) cap4) (m + 1) ((acc ++ [y]).flatMap Rc.cells) := by
       rw [List.flatMap_append]
       simpa using hown'
      have HM4 : Hid ((acc ++ [y]).length = m + 1) := by rw [Hid, List.length_append, HM.out]; rfl
      go_roundw
      case rel => exact ⟨f', cnt + al + 1, m + 1, acc ++ [y], z, some ⟨g4, 0, none⟩, cap4, by first | rfl | (rw [hsum1]) | (go_num), by rw [hv4]; rfl, hO4, HM4, hm1, hB4, HZ.out.2.2, ⟨HZ.out.1, HZ.out.2.1, HF.out⟩⟩
      case measure => have := HZ.out.2.2; simp [intOf]; omega
    · have HF : Hid (linesOf l 160 = (acc, cnt, cd)) := hF1.out hcd
     have hcn2 : (cd != 0) = true := by rw [bne_iff_ne]; exact hcd
     have HOA : Aside ((w3.alloc (boxRc y)).ownsRow w.heap.size 94 8 (.slice ao m cv) m (acc.flatMap Rc.cells)) := ownsRow_later HO3.out (grew (Below.refl _ _) _)
     clear hF1 hF2 hF3 hcd
     go_wp2
     go_ret3
     exact ⟨.slice ao m cv, by rw [HF.out]; rfl, by rw [HF.out]; show World.ownsRow _ _ _ _ _ acc.length _; rw [HM.out]; exact HOA.out, grew hB3' _⟩
theorem diskRead_any (v : Value) (l : List UInt8) (w : World) (hL : Laid w) (h : ByteSl w v l) (hr : Roomy v) (hl : l.length ≤ 30000) :
  Calls Tryz.prog 142 #[v] w fun e w' => ∃ u, e = .returned (.tuple #[u, .int .i64 (linesOf l 160).2.1, .int .i64 (linesOf l 160).2.2]) ∧ w'.ownsRow w.heap.size 94 8 u (linesOf l 160).1.length ((linesOf l 160).1.flatMap Rc.cells) ∧ Below w.heap.size w w' := by
 by_cases h0 : l = []
 · subst h0
  obtain ⟨a, c, rfl, _⟩ := h
  have e : linesOf [] 160 = ([], 0, 0) := dl_nil _ _ _ _
  rw [e]
  go_enter Tryz.func142, Tryz.ntmps142
  go_wp2
  go_loopw [5, 6] (fun v z wr => v = nilB ∧ z = .int .i64 0 ∧ wr = w) (fun _ _ _ => 0)
  case atStart => exact ⟨rfl, rfl, rfl⟩
  case round =>
   obtain ⟨rfl, rfl, rfl⟩ := hrel
   go_wp2
   go_ret3
   exact ⟨nilB, rfl, World.ownsRow_nil _ _ _ _, Below.refl _ _⟩
 · obtain ⟨a, n, c, rfl, hc⟩ := hr
  have hn := h.len
  have hn0 : 0 < n := by rw [← hn]; exact List.length_pos_iff.2 h0
  obtain ⟨b, off, rfl, hE⟩ := h.at hn0
  exact read_at b off n c l w hL hE hn hn0 hc (by omega)
theorem diskCheck_any (v1 v2 : Value) (d : Dk) (w : World) (hL : Laid w) (h : DiskR w v1 v2 d) (hn1 : d.1.length ≤ topLen) (hn2 : d.2.length ≤ topLen) :
  Calls Tryz.prog 112 #[.agg #[v1, v2]] w fun e w' => e = .returned (.int .i64 (ckDisk d.1 d.2)) ∧ Below w.heap.size w w' := by
 obtain ⟨s, t⟩ := d
 dsimp only at hn1 hn2 ⊢
 have hB := grew (Below.refl w.heap.size w) (boxD v1 v2)
 have hrd := fun hl => diskRead_any v1 s _ (hL.later hB) (h.safe.later hB) h.room1 hl
 obtain ⟨a1, c1, rfl, _⟩ := h.safe
 obtain ⟨a2, c2, rfl, _⟩ := h.wait
 clear h
 dsimp only at hrd ⊢
 change s.length ≤ 140737488351232 at hn1
 change t.length ≤ 140737488351232 at hn2
 by_cases hk : 30000 < s.length + t.length
 · have hr : ckDisk s t = 2 := by rw [ckDisk, if_pos (by omega)]
  rw [hr]
  clear hr hrd
  generalize s.length = n at *
  generalize t.length = m at *
  have h1 : 30000 < (n : Int) + (m : Int) := by omega
  go_enter Tryz.func112, Tryz.ntmps112
  go_wp2
  go_ret
  exact ⟨rfl, grew (Below.refl _ _) _⟩
 · have hr : ckDisk s t = (linesOf s 160).2.2 := by rw [ckDisk, if_neg (by omega)]
  have hcall := hrd (by omega)
  rw [hr]
  clear hr hrd
  generalize (linesOf s 160).2.2 = d at *
  generalize (linesOf s 160).2.1 = z at *
  generalize (linesOf s 160).1 = rs at *
  generalize s.length = n at *
  generalize t.length = m at *
  have h1 : (n : Int) + (m : Int) ≤ 30000 := by omega
  have h2 : (n : Int) ≤ 30000 := by omega
  have h3 : (m : Int) ≤ 30000 := by omega
  go_enter Tryz.func112, Tryz.ntmps112
  go_wp2_with (go_at_call 142; refine hcall.mono ?_; rintro e w1 ⟨u, rfl, _, hb1⟩)
  go_ret
  exact ⟨rfl, hB.trans (hb1.mono hB.size)⟩
theorem diskSame_any (v1 v2 u1 u2 : Value) (d x : Dk) (w : World) (h1 : DiskR w v1 v2 d) (h2 : DiskR w u1 u2 x) :
  Calls Tryz.prog 14 #[.agg #[v1, v2], .agg #[u1, u2]] w fun e w' => e = .returned (.bool (decide (d = x))) ∧ Below w.heap.size w w' := by
 obtain ⟨s, t⟩ := d
 obtain ⟨s', t'⟩ := x
 have hB := grew (grew (Below.refl w.heap.size w) (boxD v1 v2)) (boxD u1 u2)
 have e1 := bytesEqual v1 u1 s s' _ (h1.safe.later hB) (h2.safe.later hB)
 have e2 := bytesEqual v2 u2 t t' _ (h1.wait.later hB) (h2.wait.later hB)
 obtain ⟨a1, c1, rfl, _⟩ := h1.safe
 obtain ⟨a2, c2, rfl, _⟩ := h1.wait
 obtain ⟨a3, c3, rfl, _⟩ := h2.safe
 obtain ⟨a4, c4, rfl, _⟩ := h2.wait
 have hd : decide ((s, t) = (s', t')) = (decide (s = s') && decide (t = t')) := by
  by_cases g1 : s = s' <;> by_cases g2 : t = t' <;> simp [g1, g2]
 rw [hd]
 have HB : Aside _ := hB
 clear h1 h2 hd hB
 dsimp only at e1 e2 ⊢
 generalize decide (s = s') = b1 at *
 generalize decide (t = t') = b2 at *
 generalize s.length = n1 at *
 generalize t.length = n2 at *
 generalize s'.length = n3 at *
 generalize t'.length = n4 at *
 go_enter Tryz.func14, Tryz.ntmps14
 go_wp2_with fail
 refine e1.mono ?_
 rintro e w1 ⟨rfl, hw1⟩
 subst hw1
 cases b1 with
 | false =>
  clear e1 e2
  go_wp2
  go_ret
  exact ⟨rfl, HB.out⟩
 | true =>
  clear e1
  go_wp2_with fail
  refine e2.mono ?_
  rintro e w2 ⟨rfl, hw2⟩
  subst hw2
  clear e2
  go_wp2
  go_ret
  exact ⟨rfl, HB.out⟩
section
variable {P : Program}
theorem store_marked (g o : Nat) (t : TypeId) (fz : Nat × Nat) : ∀ (vs : List Value) (i : Nat) (cur : Array Value) (w : World), w.heap[g]? = some (.cells cur t fz) → cur.size ≤ fz.1 → o + i + vs.length ≤ cur.size → (∀ v ∈ vs, v.oneCell' = true) →
  (storeCells ⟨g, o, none⟩ vs i).run P w = .ok () (w.setRow g (cur.toList.take (o + i) ++ vs ++ cur.toList.drop (o + i + vs.length)).toArray)
 | [], i, cur, w, hg, _, _, _ => by
  simp only [storeCells, List.append_nil, List.length_nil, Nat.add_zero, List.take_append_drop, Array.toArray_toList]
  rw [setRow_self w g cur t fz hg]
  rfl
 | v :: rest, i, cur, w, hg, hfz, hl, h1 => by
  have hi : o + i < cur.size := by simp at hl; omega
  have hadd : (⟨g, o, none⟩ : Addr).add i = ⟨g, o + i, none⟩ := by unfold Addr.add; split <;> simp_all
  have hcell : w.cell? ⟨g, o + i, none⟩ = some cur[o + i] := by simp [World.cell?, hg, hi]
  have hfro : w.frozen? ⟨g, o + i, none⟩ = false := by
   obtain ⟨lo, hi'⟩ := fz
   simp only [World.frozen?, hg, Bool.and_eq_false_iff, decide_eq_false_iff_not]
   left
   simp only at hfz
   omega
  have hst : (store ((⟨g, o, none⟩ : Addr).add i) v).run P w = .ok () (w.setRow g (cur.setIfInBounds (o + i) v)) := by
   rw [hadd, run_store P w _ v _ (h1 v (by simp)), hcell]
   simp [hfro, setCell_eq_setRow w g (o + i) cur t fz v hg]
  have ih := store_marked g o t fz rest (i + 1) (cur.setIfInBounds (o + i) v) (w.setRow g (cur.setIfInBounds (o + i) v)) (setRow_heap w g cur _ t _ hg) (by simpa using hfz) (by simp at hl ⊢; omega) (fun x hx => h1 x (by simp [hx]))
  simp only [storeCells, Sem.run_bind, hst, Result.andThen_ok, ih, setRow_setRow]
  congr 3
  have e := list_seg_step cur.toList (o + i) v rest (by simp at hl ⊢; omega)
  simpa [Array.toList_setIfInBounds, Nat.add_assoc] using e
structure Appd (w0 w' : World) (B : Nat) (v : Value) (n : Nat) (xs : List Value) (g cap : Nat) : Prop where
 out : v = .slice (some ⟨g, 0, none⟩) n cap
 new : B ≤ g
 lt : g < w'.heap.size
 room : n ≤ cap
 cells : ∀ j u, xs[j]? = some u → w'.cell? ⟨g, j, none⟩ = some u
 below : Below B w0 w'
theorem wpList_append_marked {w : World} {ops : Array Oper} {rest : List Oper} {o : Oper} {a : Act} {Q : Exit → Act → World → Prop} (hgd : o.guard = none) (s x : Operand) (T : TypeId)
  (ho : o.op = .call { callee := .builtin .append, args := #[s, x], argTypes := #[T, T] }) (e : TypeId) (i : TypeInfo) (z : Value) (ht : P.underlying T = some (.slice e)) (hi : P.info? e = some i) (hz : i.zero = some z) (hi1 : i.size = 1) (hi2 : i.bytes = 1)
  (g n cap : Nat) (cur : Array Value) (fz : Nat × Nat) (hg : w.heap[g]? = some (.cells cur e fz)) (hfz : cur.size ≤ fz.1) (hcs : cur.size = cap) (hnc : n ≤ cap) (xs : List Value) (hxs : cur.toList.take n = xs)
  (hs : a.eval s = .slice (some ⟨g, 0, none⟩) n cap) (ad : Addr) (m c : Nat) (hx : a.eval x = .slice (some ad) m c) (news : List Value) (hl : news.length = m) (hnews : ∀ j u, news[j]? = some u → w.cell? (ad.add j) = some u) (h1 : ∀ u ∈ news, u.oneCell' = true)
  (hlen : n + m ≤ 1000000) (B : Nat) (w0 : World) (hb : Below B w0 w) (hBg : B ≤ g)
  (h : ∀ v' w' g' cap', Appd w0 w' B v' (n + m) (xs ++ news) g' cap' → wpList P ops Q rest (a.put o.dst v') w') :
  wpList P ops Q (o :: rest) a w := by
 have hgl := heap_lt hg
 have hxl : xs.length = n := by rw [← hxs, List.length_take]; simp; omega
 refine wpList_plain hgd fun K hK => ?_
 by_cases hroom : n + m ≤ cap
 · have hf := run_firstCells_some (P := P) w i.size m ad m c news (by rw [hi1, hl, Nat.mul_one]) hnews
  have hst := store_marked (P := P) g n e fz news 0 cur w hg hfz (by omega) h1
  simp only [Nat.add_zero] at hst
  rw [hi1] at hf
  have hr : (Builtin.append_ #[T, T] o.type #[.slice (some ⟨g, 0, none⟩) n cap, .slice (some ad) m c]).run P w =
    .ok (.slice (some ⟨g, 0, none⟩) (n + m) cap) (w.setRow g (cur.toList.take n ++ news ++ cur.toList.drop (n + news.length)).toArray) := by
   simp [Builtin.append_, run_underlying ht, sizeOf, typeInfo, hi, hi1, Builtin.lenOf, hroom, hf, Addr.add_lit, hst]
  unfold Oper.wp execOp
  simp only [ho, resolve, invoke, builtin, Sem.run_bind, Sem.run_pure, Result.andThen_ok, List.map_toArray, List.map_cons, List.map_nil, hs, hx, hr]
  refine hK _ _ (h _ _ g cap ⟨rfl, hBg, by simpa [World.setRow] using hgl, hroom, fun j u hj => ?_, below_setRow hb hBg _⟩)
  rw [cell_setRow_same w g j cur _ e fz hg, List.getElem?_toArray, hxs, List.getElem?_append_left]
  · exact hj
  · exact (List.getElem?_eq_some_iff.1 hj).1
 · have holds : ∀ j u, xs[j]? = some u → w.cell? ((⟨g, 0, none⟩ : Addr).add j) = some u := fun j u hj => by
   rw [Lib.add_plain, Nat.zero_add]
   rw [← hxs, List.getElem?_take] at hj
   split at hj
   · simpa [World.cell?, hg] using hj
   · cases hj
  have hr := run_append_grow (P := P) w T o.type e i z ht hi hz ⟨g, 0, none⟩ n cap xs (by rw [hi1, hxl, Nat.mul_one]) holds ad m c news (by rw [hi1, hl, Nat.mul_one]) hnews (by omega) (by omega) (by rw [hi2]; exact growslice_fits (by omega) (by omega))
  have hge := grownCap_ge w (n + m) cap e
  unfold Oper.wp execOp
  simp only [ho, resolve, invoke, builtin, Sem.run_bind, Sem.run_pure, Result.andThen_ok, List.map_toArray, List.map_cons, List.map_nil, hs, hx, hr]
  refine hK _ _ (h _ _ w.heap.size _ ⟨rfl, Nat.le_trans hBg (Nat.le_of_lt hgl), by show w.heap.size < (w.heap.push _).size; simp, hge, fun j u hj => ?_, hb.drew.alloc (Nat.le_trans hBg (Nat.le_of_lt hgl)) _⟩)
  have hw : (w.drew.alloc (.cells (xs.toArray ++ news.toArray ++ Builtin.zeroCells z.cells (grownCap w (n + m) cap e - (n + m))) e)).heap[w.heap.size]? = some (.cells (xs.toArray ++ news.toArray ++ Builtin.zeroCells z.cells (grownCap w (n + m) cap e - (n + m))) e) := heap_new w.drew _
  have hlt := (List.getElem?_eq_some_iff.1 hj).1
  rw [Joins.cell_of_block hw, Array.getElem?_append_left (by simpa using hlt)]
  simpa using hj
end
theorem ret_dk {fn : Func} {R : Ending → World → Prop} {a : Act} {W : World} {b p q : Nat} {v1 v2 y : Value} (hf : fn.results = #[.cell p 47, .tmp q]) (hd : a.defers = [])
  (h2 : a.tmps.getD p undef = .pointer (some ⟨b, 0, none⟩)) (h3 : a.tmps.getD q undef = y) (hR : W.heap[b]? = some (boxD v1 v2)) (hp : R (.returned (.tuple #[.agg #[v1, v2], y])) W) :
  bodyPost Tryz.prog fn R .ret a W := by
 have c0 := fun i => Joins.cell_of_block hR i
 refine bodyPost_ret (v := .tuple #[.agg #[v1, v2], y]) ?_ hd hp
 rw [results_cell_tmp hf, h2, h3]
 simp [go_sem, c0]
def Mk (w X : World) (v : Value) (l : List UInt8) : Prop :=
 (∃ g, v = .slice (some ⟨g, 0, none⟩) l.length l.length ∧ w.heap.size ≤ g ∧ X.heap[g]? = some (.cells (l.flatMap bt).toArray 5)) ∨ (v = nilB ∧ l = [])
theorem Mk.of {w w1 X : World} {v : Value} {l : List UInt8} {g : Nat} (h : Own1 w1 X v l g) (hs : w.heap.size ≤ w1.heap.size) : Mk w X v l := Or.inl ⟨g, h.out, Nat.le_trans hs h.new, h.row⟩
theorem Mk.none (w X : World) : Mk w X nilB [] := Or.inr ⟨rfl, rfl⟩
theorem Mk.later {w X X' : World} {v : Value} {l : List UInt8} (h : Mk w X v l) (hb : Below X.heap.size X X') : Mk w X' v l := by
 rcases h with ⟨g, h1, h2, h3⟩ | h
 · exact Or.inl ⟨g, h1, h2, heap_below h3 hb (heap_lt h3)⟩
 · exact Or.inr h
theorem Mk.sl {w X : World} {v : Value} {l : List UInt8} (h : Mk w X v l) : ByteSl X v l := by
 rcases h with ⟨g, rfl, _, h3⟩ | ⟨rfl, rfl⟩
 · exact slOf_lit bt_one h3 (by simp)
 · exact SlOf.nil _ _
theorem Mk.form {w X : World} {v : Value} {l : List UInt8} (h : Mk w X v l) : ∃ a c, v = .slice a l.length c ∧ l.length ≤ c := by
 rcases h with ⟨g, rfl, _, h3⟩ | ⟨rfl, rfl⟩
 · exact ⟨_, _, rfl, Nat.le_refl _⟩
 · exact ⟨_, _, rfl, Nat.le_refl _⟩
theorem Mk.near {w X : World} {v : Value} {l : List UInt8} (h : Mk w X v l) (W' : World) (hs : X.heap.size = W'.heap.size) (v1 v2 : Value) : Near w W' v1 v2 v := fun b hb => by
 rcases h with ⟨g, rfl, h2, h3⟩ | ⟨rfl, _⟩
 · have hlt := heap_lt h3
  obtain rfl : g = b := by simpa [Value.ownBlock] using hb
  exact Or.inl ⟨h2, by omega⟩
 · cases hb
theorem answered {w X : World} {b : Nat} {x1 x2 c1 c2 : Nat} {y1 y2 : Option Addr} (hZ : X.heap[b]? = some (boxD (.slice y1 x1 c1) (.slice y2 x2 c2))) (hwb : w.heap.size ≤ b) (hB : Below w.heap.size w X) {u1 u2 : Value} {l1 l2 : List UInt8} (h1 : Mk w X u1 l1) (h2 : Mk w X u2 l2) (v1 v2 : Value) :
  DiskR ((X.setCell ⟨b, 0, none⟩ u1).setCell ⟨b, 1, none⟩ u2) u1 u2 (l1, l2) ∧ Below w.heap.size w ((X.setCell ⟨b, 0, none⟩ u1).setCell ⟨b, 1, none⟩ u2) ∧ Near w ((X.setCell ⟨b, 0, none⟩ u1).setCell ⟨b, 1, none⟩ u2) v1 v2 u1 ∧ Near w ((X.setCell ⟨b, 0, none⟩ u1).setCell ⟨b, 1, none⟩ u2) v1 v2 u2 := by
 have s1 := h1.sl
 have s2 := h2.sl
 have n1 := h1.near ((X.setCell ⟨b, 0, none⟩ u1).setCell ⟨b, 1, none⟩ u2) (by simp) v1 v2
 have n2 := h2.near ((X.setCell ⟨b, 0, none⟩ u1).setCell ⟨b, 1, none⟩ u2) (by simp) v1 v2
 obtain ⟨a, c, rfl, hc⟩ := h1.form
 obtain ⟨a', c', rfl, hc'⟩ := h2.form
 exact ⟨⟨bytes_two hZ bt_num s1, bytes_two hZ bt_num s2, ⟨_, _, _, rfl, hc⟩, ⟨_, _, _, rfl, hc'⟩⟩, below_two hB hwb _ _, n1, n2⟩
theorem map_bt : ∀ l : List UInt8, (l.map fun b => Value.int IntKind.u8 (b.toNat : Int)) = l.flatMap bt
 | [] => rfl
 | x :: r => by
  rw [List.map_cons, List.flatMap_cons, map_bt r]
  rfl
theorem of_text (l : List UInt8) (W : World) : ∃ (cap : Nat) (cur : Array Value) (fz : Nat × Nat) (W' : World), (convert 9 45 (.string ⟨l.toArray⟩)).run Tryz.prog W = .ok (.slice (some ⟨W.heap.size, 0, none⟩) l.length cap) W' ∧
  W'.heap[W.heap.size]? = some (.cells cur 5 fz) ∧ cur.size ≤ fz.1 ∧ cur.size = cap ∧ l.length ≤ cap ∧ cur.toList.take l.length = l.flatMap bt ∧ Below W.heap.size W W' := by
 have h := run_bytes_of_string (P := Tryz.prog) W 9 45 5 ⟨l.toArray⟩ Tryz.underlying9 Tryz.underlying45 Tryz.underlying5
 have hsz : (⟨l.toArray⟩ : ByteArray).size = l.length := by rw [Lib.size_eq]
 rw [hsz] at h
 have hge := grownCap_ge W l.length 0 5
 have hsize : (bytesRow ⟨l.toArray⟩ (grownCap W l.length 0 5)).size = grownCap W l.length 0 5 := by
  unfold bytesRow
  rw [hsz]
  simp
  omega
 refine ⟨_, _, _, _, h, heap_new W.drew _, Nat.le_refl _, hsize, hge, ?_, (Below.refl _ _).drew.alloc (Nat.le_refl _) _⟩
 unfold bytesRow
 have e : (l.toArray.map fun b => Value.int IntKind.u8 (b.toNat : Int)).toList = l.flatMap bt := by
  rw [Array.toList_map]
  exact map_bt l
 rw [Array.toList_append, e, List.take_left']
 have := row_len bt_one l
 omega
abbrev PtS0 (w : World) (b : Nat) (v1 v2 : Value) : Prop := w.cell? ⟨b, 0, none⟩ = some v1 ∧ w.cell? ⟨b, 1, none⟩ = some v2
theorem ptS0_step {w w' : World} {b : Nat} {v1 v2 : Value} (h : PtS0 w b v1 v2) (hb : Below w.heap.size w w') : PtS0 w' b v1 v2 := ⟨cell_later hb h.1, cell_later hb h.2⟩
theorem ptS0_two {w : World} {b g : Nat} {v1 v2 : Value} (hne : b ≠ g) (h : PtS0 w b v1 v2) (u1 u2 : Value) : PtS0 ((w.setCell ⟨g, 0, none⟩ u1).setCell ⟨g, 1, none⟩ u2) b v1 v2 :=
 ⟨by rw [cell_other hne, cell_other hne]; exact h.1, by rw [cell_other hne, cell_other hne]; exact h.2⟩
theorem put_len (r : Rc) : r.ptx.length ≤ 300 := by
 unfold Rc.ptx
 split
 · rename_i h
  unfold Rc.txt
  by_cases hk : r.k = 2
  · rw [if_pos hk]
   have hp := (Rc.seal h hk).1
   have hlen := Lib.itoa_length_le r.p (by omega) (by omega)
   simp [sealL]
   omega
  · rw [if_neg hk]
   obtain ⟨_, ha, _, he⟩ := Rc.write h hk
   have hlen := Lib.itoa_length_le r.a (by omega) (by omega)
   have hlen2 := txt_len r.e he
   simp
   omega
 · simp
theorem put_at (a1 a2 : Option Addr) (n1 n2 c1 c2 : Nat) (s t : List UInt8) (c : Rc) (w : World) (hL : Laid w) (h : DiskR w (.slice a1 n1 c1) (.slice a2 n2 c2) (s, t)) (hs : s.length = n1) (ht : t.length = n2) (hn1 : s.length ≤ topLen) (hn2 : t.length ≤ topLen) :
  AnsR 129 (.slice a1 n1 c1) (.slice a2 n2 c2) #[.agg #[.slice a1 n1 c1, .slice a2 n2 c2], c.val] w (dput s t c) := by
 have hB := grew (grew (grew (Below.refl w.heap.size w) (boxD (.slice a1 n1 c1) (.slice a2 n2 c2))) (boxRc c)) (boxD nilB nilB)
 have hbD : (((w.alloc (boxD (.slice a1 n1 c1) (.slice a2 n2 c2))).alloc (boxRc c)).alloc (boxD nilB nilB)).heap[w.heap.size]? = some (boxD (.slice a1 n1 c1) (.slice a2 n2 c2)) := heap_old (heap_old (heap_new _ _) _) _
 have hbC : (((w.alloc (boxD (.slice a1 n1 c1) (.slice a2 n2 c2))).alloc (boxRc c)).alloc (boxD nilB nilB)).heap[w.heap.size + 1]? = some (boxRc c) := by
  have := heap_old (heap_new (w.alloc (boxD (.slice a1 n1 c1) (.slice a2 n2 c2))) (boxRc c)) (boxD nilB nilB)
  rwa [World.size_alloc] at this
 have hbZ : (((w.alloc (boxD (.slice a1 n1 c1) (.slice a2 n2 c2))).alloc (boxRc c)).alloc (boxD nilB nilB)).heap[w.heap.size + 2]? = some (boxD nilB nilB) := by
  have := heap_new ((w.alloc (boxD (.slice a1 n1 c1) (.slice a2 n2 c2))).alloc (boxRc c)) (boxD nilB nilB)
  rwa [World.size_alloc, World.size_alloc] at this
 have hck := diskCheck_any _ _ (s, t) _ (hL.later hB) (h.later hB) hn1 hn2
 have HPR : Aside (∀ W, Laid W → Calls Tryz.prog 165 #[c.val] W fun e w' => e = .returned (.tuple #[.string ⟨c.ptx.toArray⟩, .int .i64 c.chk]) ∧ Below W.heap.size W w') := fun W hW => notePrint_any c W hW
 have HB : Aside _ := hB
 have HL : Aside (Laid w) := hL
 have HH : Aside (DiskR w (.slice a1 n1 c1) (.slice a2 n2 c2) (s, t)) := h
 have HLn : Hid (s.length = n1 ∧ t.length = n2) := ⟨hs, ht⟩
 have HPT : Hid (c.chk = 0 → c.ptx = c.txt) := fun h => by rw [Rc.ptx, if_pos h]
 obtain ⟨rr, HRR⟩ : ∃ rr, Hid (dput s t c = rr) := ⟨_, rfl⟩
 rw [HRR.out]
 have HK0 : Hid (ckDisk s t ≠ 0 → rr = (([], []), ckDisk s t)) := fun h => by rw [← HRR.out, dput, if_pos h]
 have HK1 : Hid (ckDisk s t = 0 → c.chk ≠ 0 → rr = (([], []), c.chk)) := fun h h' => by rw [← HRR.out, dput, if_neg (by rw [h]; simp), putOn, if_pos h']
 have HK2 : Hid (ckDisk s t = 0 → c.chk = 0 → 30000 < s.length + t.length + c.txt.length + 1 → rr = (([], []), 2)) := fun h h' hl => by rw [← HRR.out, dput, if_neg (by rw [h]; simp), putOn, if_neg (by rw [h']; simp), if_pos hl]
 have HK3 : Hid (ckDisk s t = 0 → c.chk = 0 → ¬ 30000 < s.length + t.length + c.txt.length + 1 → rr = ((s, t ++ (c.txt ++ [10])), 0)) := fun h h' hl => by rw [← HRR.out, dput, if_neg (by rw [h]; simp), putOn, if_neg (by rw [h']; simp), if_neg hl]
 have HKL : Hid (ckDisk s t = 0 → n1 + n2 ≤ 30000) := fun h => by have := (ckDisk_zero.1 h).1; omega
 have hTL : Hid (c.ptx.length ≤ 300) := put_len c
 change Calls _ _ _ _ fun e w' => e = .returned (.int .i64 (ckDisk s t)) ∧ _ at hck
 clear hB h hs ht hL HRR
 generalize ckDisk s t = k at *
 generalize c.chk = d at *
 go_enter Tryz.func129, Tryz.ntmps129
 have d0 : ∀ i, (((w.alloc (boxD (.slice a1 n1 c1) (.slice a2 n2 c2))).alloc (boxRc c)).alloc (boxD nilB nilB)).cell? ⟨w.heap.size, i, none⟩ = #[Value.slice a1 n1 c1, .slice a2 n2 c2][i]? := fun i => Joins.cell_of_block hbD i
 go_wp2_with fail
 refine hck.mono ?_
 rintro e w1 ⟨rfl, hb1⟩
 have hB1 : Aside (Below w.heap.size w w1) := HB.out.trans (hb1.mono HB.out.size)
 have hD1 := heap_below hbD hb1 (heap_lt hbD)
 have hC1 := heap_below hbC hb1 (heap_lt hbC)
 have hZ1 := heap_below hbZ hb1 (heap_lt hbZ)
 have HZ1 : Aside (w1.heap[w.heap.size + 2]? = some (boxD nilB nilB)) := hZ1
 have HD1 : Aside (w1.heap[w.heap.size]? = some (boxD (.slice a1 n1 c1) (.slice a2 n2 c2))) := hD1
 have z1 := fun i => Joins.cell_of_block hZ1 i
 have f1 := fun i => Joins.unfrozen_of_block hZ1 i
 have r1 := fun i => Joins.cell_of_block hC1 i
 clear hck hb1 hbD hbC hbZ HB hD1 hC1 hZ1 d0
 by_cases hk : k = 0
 · subst hk
  have hpr := HPR.out w1 (HL.out.later hB1.out)
  have hn12 : n1 + n2 ≤ 30000 := HKL.out rfl
  have HF1 : Hid (d ≠ 0 → rr = (([], []), d)) := HK1.out rfl
  have HF2 : Hid (d = 0 → 30000 < s.length + t.length + c.txt.length + 1 → rr = (([], []), 2)) := HK2.out rfl
  have HF3 : Hid (d = 0 → ¬ 30000 < s.length + t.length + c.txt.length + 1 → rr = ((s, t ++ (c.txt ++ [10])), 0)) := HK3.out rfl
  clear HK0 HK1 HK2 HK3 HKL z1 f1
  go_wp2_with fail
  refine hpr.mono ?_
  rintro e w2 ⟨rfl, hb2⟩
  have hB2 : Aside (Below w.heap.size w w2) := hB1.out.trans (hb2.mono hB1.out.size)
  have hD2 := heap_below HD1.out hb2 (heap_lt HD1.out)
  have hZ2 := heap_below HZ1.out hb2 (heap_lt HZ1.out)
  have hzl := heap_lt hZ2
  have HD2 : Aside (w2.heap[w.heap.size]? = some (boxD (.slice a1 n1 c1) (.slice a2 n2 c2))) := hD2
  have HZ2 : Aside (w2.heap[w.heap.size + 2]? = some (boxD nilB nilB)) := hZ2
  have d2 := fun i => Joins.cell_of_block hD2 i
  have z2 := fun i => Joins.cell_of_block hZ2 i
  have f2 := fun i => Joins.unfrozen_of_block hZ2 i
  clear hpr hb2 r1 hB1 HD1 HZ1 HPR hD2 hZ2
  by_cases hd : d = 0
  · have HG2 : Hid (30000 < s.length + t.length + c.txt.length + 1 → rr = (([], []), 2)) := HF2.out hd
   have HG3 : Hid (¬ 30000 < s.length + t.length + c.txt.length + 1 → rr = ((s, t ++ (c.txt ++ [10])), 0)) := HF3.out hd
   clear HF2 HF3
   subst hd
   have hpt := HPT.out rfl
   have hTL' := hTL.out
   rw [hpt] at hTL'
   rw [hpt]
   clear HF1 HPT hpt hTL z2 f2 d2
   generalize c.txt = tx at *
   obtain ⟨n3, hn3⟩ : ∃ n3, tx.length = n3 := ⟨_, rfl⟩
   have HN3 : Hid (tx.length = n3) := hn3
   obtain ⟨cap, cur, fz, W3, hcv, hg3, hfz, hcs, hnc, hxs, hb3⟩ := of_text tx w2
   rw [hn3] at hcv hnc hxs hTL'
   clear hn3
   have hb4 : Below w2.heap.size w2 (W3.alloc (.cells #[.int .u8 10] 5)) := hb3.trans ((grew (Below.refl W3.heap.size W3) _).mono hb3.size)
   have hg4 : (W3.alloc (.cells #[.int .u8 10] 5)).heap[w2.heap.size]? = some (.cells cur 5 fz) := heap_old hg3 _
   have hn4 : ∀ j u, [Value.int .u8 10][j]? = some u → (W3.alloc (.cells #[.int .u8 10] 5)).cell? ((⟨W3.heap.size, 0, none⟩ : Addr).add j) = some u := fun j u hj => by
    rw [Lib.add_plain, Nat.zero_add, Joins.cell_of_block (heap_new W3 _)]
    simpa using hj
   obtain ⟨i0, hi, hz0, hz1, hz2⟩ := info_parts infoY
   have hlt1 : n3 + 1 ≤ 1000000 := by omega
   go_wp2_with (at_builtin; refine wpList_append_marked rfl _ _ 45 rfl 5 i0 (.int .u8 0) Tryz.underlying45 hi hz0 hz1 hz2 w2.heap.size n3 cap cur fz hg4 hfz hcs hnc _ hxs rfl ⟨W3.heap.size, 0, none⟩ 1 1 rfl [.int .u8 10] rfl hn4 (by simp [Value.oneCell']) hlt1 w2.heap.size w2 hb4 (Nat.le_refl _) ?_)
   intro v4 w4 g4 cap4 HA
   have HLN : Aside (ByteSl w4 (.slice (some ⟨g4, 0, none⟩) (n3 + 1) cap4) (tx ++ [10])) := by
    have hl : (tx ++ [10]).length = n3 + 1 := by rw [List.length_append, HN3.out]; rfl
    refine ⟨_, cap4, by rw [hl], Or.inr ⟨g4, 0, rfl, fun j x hj i u hi => ?_⟩⟩
    have := HA.cells (j * 1 + i) u (by
     have := row_flat bt_one (tx ++ [10]) j x hj i u hi
     rw [List.flatMap_append] at this
     exact this)
    rw [Nat.zero_add]
    exact this
   have hb24 := HA.below
   obtain rfl := HA.out
   have hB4 : Aside (Below w.heap.size w w4) := hB2.out.trans (hb24.mono hB2.out.size)
   have hD4 := heap_below HD2.out hb24 (heap_lt HD2.out)
   have hZ4 := heap_below HZ2.out hb24 (heap_lt HZ2.out)
   have HZ4 : Aside (w4.heap[w.heap.size + 2]? = some (boxD nilB nilB)) := hZ4
   have hltz := heap_lt hZ4
   have d4 := fun i => Joins.cell_of_block hD4 i
   clear hcv hg3 hfz hcs hnc hxs hb3 hb4 hg4 hn4 hi hz0 hz1 hz2 HA hb24 hB2 HD2 HZ2 hD4 hzl
   by_cases hlong : 30000 < n1 + n2 + n3 + 1
   · have HF : Hid (rr = (([], []), 2)) := HG2.out (by rw [HLn.out.1, HLn.out.2, HN3.out]; exact hlong)
    have hgt : 30000 < (n1 : Int) + (n2 : Int) + ((n3 : Int) + 1) := by omega
    have z4 := fun i => Joins.cell_of_block hZ4 i
    have f4 := fun i => Joins.unfrozen_of_block hZ4 i
    have hA := answered HZ4.out (by omega) hB4.out (Mk.none w w4) (Mk.none w w4) (.slice a1 n1 c1) (.slice a2 n2 c2)
    have HA : Aside _ := hA
    clear hA hZ4 HG2 HG3 hlong
    go_wp2
    exact ret_dk (v1 := nilB) (v2 := nilB) Tryz.results129 rfl rfl rfl (disk_stored HZ4.out _ _) ⟨nilB, nilB, by rw [HF.out]; rfl, by rw [HF.out]; exact HA.out.1, HA.out.2⟩
   · have HF : Hid (rr = ((s, t ++ (tx ++ [10])), 0)) := HG3.out (by rw [HLn.out.1, HLn.out.2, HN3.out]; exact hlong)
    have hgd : decide (30000 < (n1 : Int) + (n2 : Int) + ((n3 : Int) + 1)) = false := by rw [decide_eq_false_iff_not]; omega
    have HLE : Hid (n1 + n2 + n3 + 1 ≤ 30000) := by rw [Hid]; omega
    have hb41 : n1 ≤ 30000 := by omega
    have hb42 : n2 ≤ 30000 := by omega
    clear HG2 HG3 hZ4 hlong hn12 hlt1
    go_wp2_with fail
    refine wp_region_held_drew (S := fun w' => PtS0 w' w.heap.size (.slice a1 n1 c1) (.slice a2 n2 c2)) (by kernel_rfl) (⟨d4 0, d4 1⟩) (fun hHeld => ?_)
    refine tk 0 (v := ?_) rfl (by kernel_rfl) (by rfl) (by assumption) (fun _ _ _ h => h) ?_ ?_
    rotate_left
    · intro w0 hSw; (try dsimp only at hSw); go_simp; first | done | with_reducible rfl
    try simp only [Act.put, qa, qb, qc]
    refine tk 1 (v := ?_) rfl (by kernel_rfl) (by rfl) (by assumption) (fun _ _ _ h => h) ?_ ?_
    rotate_left
    · intro w0 hSw; (try dsimp only at hSw); go_simp; first | done | with_reducible rfl
    try simp only [Act.put, qa, qb, qc]
    refine tk 3 (v := ?_) rfl (by kernel_rfl) (by rfl) (by assumption) (fun _ _ _ h => h) ?_ ?_
    rotate_left
    · intro w0 hSw; (try dsimp only at hSw); go_simp; first | done | with_reducible rfl
    try simp only [Act.put, qa, qb, qc]
    refine tk 4 (v := ?_) rfl (by kernel_rfl) (by rfl) (by assumption) (fun _ _ _ h => h) ?_ ?_
    rotate_left
    · intro w0 hSw; (try dsimp only at hSw); go_simp; first | done | with_reducible rfl
    try simp only [Act.put, qa, qb, qc]
    refine tk 5 (v := ?_) rfl (by kernel_rfl) (by rfl) (by assumption) (fun _ _ _ h => h) ?_ ?_
    rotate_left
    · intro w0 hSw; (try dsimp only at hSw); go_simp; first | done | with_reducible rfl
    try simp only [Act.put, qa, qb, qc]
    have hX0 : Aside (Below w.heap.size w w4.drew) := hB4.out.drew
    have hZ0 : Aside (w4.drew.heap[w.heap.size + 2]? = some (boxD nilB nilB)) := HZ4.out
    have hl0 : Aside (ByteSl w4.drew (.slice (some ⟨g4, 0, none⟩) (n3 + 1) cap4) (tx ++ [10])) := HLN.out.later (Below.refl _ w4).drew
    have hs0 : Aside (ByteSl w4.drew (.slice a1 n1 c1) s) := HH.out.safe.later hX0.out
    have ht0 : Aside (ByteSl w4.drew (.slice a2 n2 c2) t) := HH.out.wait.later hX0.out
    have hz0 : w.heap.size + 2 < w4.drew.heap.size := hltz
    clear HZ4 hB4 HLN d4 HH hltz
    generalize w4.drew = X0 at *
    have hcp : ∀ X, Below X0.heap.size X0 X → Calls Tryz.prog 166 #[.slice a1 n1 c1] X fun e w' => ∃ u g, e = .returned u ∧ Own1 X w' u s g := fun X hX => copyOfY _ s X (hs0.out.later hX) (by rw [HLn.out.1]; omega)
    have hjn : ∀ X, Below X0.heap.size X0 X → Calls Tryz.prog 167 #[.slice a2 n2 c2, .slice (some ⟨g4, 0, none⟩) (n3 + 1) cap4] X fun e w' => ∃ u g, e = .returned u ∧ Own1 X w' u (t ++ (tx ++ [10])) g := fun X hX => joinY _ _ t (tx ++ [10]) X (ht0.out.later hX) (hl0.out.later hX) (by have := HLE.out; rw [List.length_append, HLn.out.2, HN3.out]; show n2 + (n3 + 1) ≤ 1000000; omega)
    have HS : Hid (w.heap.size ≤ X0.heap.size) := hX0.out.size
    clear hs0 ht0 hl0
    refine rdy 2 (by kernel_rfl) rfl (fun K hK => ?_)
    go_simp
    refine (hcp X0 (Below.refl _ _)).mono ?_
    rintro e X1 ⟨u1, g1, rfl, ho1⟩
    refine hK.out _ _ (ptS0_step hHeld ho1.below) (fun hHeld => ?_)
    clear hK K
    try simp only [Act.put, qa, qb, qc]
    refine rdy 6 (by kernel_rfl) rfl (fun K hK => ?_)
    go_simp
    refine (hjn X1 ho1.below).mono ?_
    rintro e X9 ⟨u2, g2, rfl, ho2⟩
    refine hK.out _ _ (ptS0_step hHeld ho2.below) (fun hHeld => ?_)
    clear hK K
    try simp only [Act.put, qa, qb, qc]
    have hX9 : Below X0.heap.size X0 X9 := ho1.below.trans (ho2.below.mono ho1.below.size)
    have m1 : Mk w X9 u1 s := (Mk.of ho1 HS.out).later ho2.below
    have m2 : Mk w X9 u2 (t ++ (tx ++ [10])) := Mk.of ho2 (Nat.le_trans HS.out ho1.below.size)
    clear ho1 ho2
    have hZ9 := heap_below hZ0.out hX9 hz0
    have hB9 : Aside (Below w.heap.size w X9) := hX0.out.trans (hX9.mono hX0.out.size)
    have hlt9 := heap_lt hZ9
    have HZ9 : Aside (X9.heap[w.heap.size + 2]? = some (boxD nilB nilB)) := hZ9
    have HAN : Aside _ := answered HZ9.out (by omega) hB9.out m1 m2 (.slice a1 n1 c1) (.slice a2 n2 c2)
    have z9 := fun i => Joins.cell_of_block hZ9 i
    have f9 := fun i => Joins.unfrozen_of_block hZ9 i
    obtain ⟨b1, q1, rfl, _⟩ := m1.form
    obtain ⟨b2, q2, rfl, _⟩ := m2.form
    obtain ⟨x1, hx1⟩ : ∃ x1 : Nat, s.length = x1 := ⟨_, rfl⟩
    obtain ⟨x2, hx2⟩ : ∃ x2 : Nat, (t ++ (tx ++ [10])).length = x2 := ⟨_, rfl⟩
    rw [hx1, hx2] at HAN
    rw [hx1, hx2]
    clear hx1 hx2 m1 m2 hX9 hZ9 hcp hjn
    refine tk 7 (v := ?_) rfl (by kernel_rfl) (by rfl) (by assumption) (fun _ _ _ h => h) ?_ ?_
    rotate_left
    · intro w0 hSw; (try dsimp only at hSw); go_simp; first | done | with_reducible rfl
    try simp only [Act.put, qa, qb, qc]
    refine rdy 8 (by kernel_rfl) rfl (fun K hK => ?_)
    go_simp
    refine hK.out _ _ (ptS0_two (by omega) hHeld _ _) (fun hHeld => ?_)
    clear hK K
    try simp only [Act.put, qa, qb, qc]
    refine tk 9 (v := ?_) rfl (by kernel_rfl) (by rfl) (by assumption) (fun _ _ _ h => h) ?_ ?_
    rotate_left
    · intro w0 hSw; (try dsimp only at hSw); go_simp; first | done | with_reducible rfl
    try simp only [Act.put, qa, qb, qc]
    refine wpAnyH_done (by kernel_rfl) ?_ _
    go_wp2
    exact ret_dk (v1 := .slice b1 x1 q1) (v2 := .slice b2 x2 q2) Tryz.results129 rfl rfl rfl (disk_stored HZ9.out _ _) ⟨_, _, by rw [HF.out]; rfl, by rw [HF.out]; exact HAN.out.1, HAN.out.2⟩
  · have HF : Hid (rr = (([], []), d)) := HF1.out hd
   have hdb : (d != 0) = true := by rw [bne_iff_ne]; exact hd
   have HA : Aside _ := answered HZ2.out (by omega) hB2.out (Mk.none w w2) (Mk.none w w2) (.slice a1 n1 c1) (.slice a2 n2 c2)
   clear HF1 HF2 HF3 HPT hd d2
   go_wp2
   exact ret_dk (v1 := nilB) (v2 := nilB) Tryz.results129 rfl rfl rfl (disk_stored HZ2.out _ _) ⟨nilB, nilB, by rw [HF.out]; rfl, by rw [HF.out]; exact HA.out.1, HA.out.2⟩
 · have HF : Hid (rr = (([], []), k)) := HK0.out hk
  have hkb : (k != 0) = true := by rw [bne_iff_ne]; exact hk
  have hlt1 := heap_lt HZ1.out
  have HA : Aside _ := answered HZ1.out (by omega) hB1.out (Mk.none w w1) (Mk.none w w1) (.slice a1 n1 c1) (.slice a2 n2 c2)
  clear HK0 HK1 HK2 HK3 HKL hk r1
  go_wp2
  exact ret_dk (v1 := nilB) (v2 := nilB) Tryz.results129 rfl rfl rfl (disk_stored HZ1.out _ _) ⟨nilB, nilB, by rw [HF.out]; rfl, by rw [HF.out]; exact HA.out.1, HA.out.2⟩
theorem diskPut_any (v1 v2 : Value) (d : Dk) (c : Rc) (W : World) (hL : Laid W) (h : DiskR W v1 v2 d) (hn1 : d.1.length ≤ topLen) (hn2 : d.2.length ≤ topLen) : AnsR 129 v1 v2 #[.agg #[v1, v2], c.val] W (dput d.1 d.2 c) := by
 obtain ⟨s, t⟩ := d
 have h' := h
 obtain ⟨a1, c1, rfl, _⟩ := h.safe
 obtain ⟨a2, c2, rfl, _⟩ := h.wait
 exact put_at a1 a2 _ _ c1 c2 s t c W hL h' rfl rfl hn1 hn2
theorem ret_dk3 {fn : Func} {R : Ending → World → Prop} {a : Act} {W : World} {b p q r : Nat} {v1 v2 x y : Value} (hf : fn.results = #[.cell p 47, .tmp q, .tmp r]) (hd : a.defers = [])
  (h2 : a.tmps.getD p undef = .pointer (some ⟨b, 0, none⟩)) (h3 : a.tmps.getD q undef = x) (h4 : a.tmps.getD r undef = y) (hR : W.heap[b]? = some (boxD v1 v2)) (hp : R (.returned (.tuple #[.agg #[v1, v2], x, y])) W) :
  bodyPost Tryz.prog fn R .ret a W := by
 have c0 := fun i => Joins.cell_of_block hR i
 have h2' : a.tmps[p]?.getD undef = .pointer (some ⟨b, 0, none⟩) := by simpa using h2
 have h3' : a.tmps[q]?.getD undef = x := by simpa using h3
 have h4' : a.tmps[r]?.getD undef = y := by simpa using h4
 refine bodyPost_ret (v := .tuple #[.agg #[v1, v2], x, y]) ?_ hd hp
 simp [results, hf, h2', h3', h4', go_sem, c0]
abbrev AnsV (v1 v2 : Value) (w : World) (r : Dk × List Rc × Int) : Prop :=
 Calls Tryz.prog 143 #[.agg #[v1, v2]] w fun e w' => ∃ u1 u2 u3, e = .returned (.tuple #[.agg #[u1, u2], u3, .int .i64 r.2.2]) ∧ DiskR w' u1 u2 r.1 ∧ RecSl w' u3 r.2.1 ∧ Below w.heap.size w w' ∧ Roomy u3
theorem recs_two {W : World} {b : Nat} {u1 u2 v : Value} {l : List Rc} (h : RecSl W v l) (hb : W.heap[b]? = some (boxD nilB nilB)) (hu1 : ∃ a n c, u1 = .slice a n c) (hu2 : ∃ a n c, u2 = .slice a n c) : RecSl ((W.setCell ⟨b, 0, none⟩ u1).setCell ⟨b, 1, none⟩ u2) v l := by
 obtain ⟨a, n, c, rfl⟩ := hu1
 obtain ⟨a', n', c', rfl⟩ := hu2
 exact bytes_two hb rc_num h
theorem recover_at (a1 a2 : Option Addr) (n1 n2 c1 c2 : Nat) (s t : List UInt8) (w : World) (hL : Laid w) (h : DiskR w (.slice a1 n1 c1) (.slice a2 n2 c2) (s, t)) (hs : s.length = n1) (ht : t.length = n2) (hn1 : s.length ≤ topLen) (hn2 : t.length ≤ topLen) :
  AnsV (.slice a1 n1 c1) (.slice a2 n2 c2) w (drecover s t) := by
 have hB := grew (grew (Below.refl w.heap.size w) (boxD (.slice a1 n1 c1) (.slice a2 n2 c2))) (boxD nilB nilB)
 have hbD : ((w.alloc (boxD (.slice a1 n1 c1) (.slice a2 n2 c2))).alloc (boxD nilB nilB)).heap[w.heap.size]? = some (boxD (.slice a1 n1 c1) (.slice a2 n2 c2)) := heap_old (heap_new _ _) _
 have hbZ : ((w.alloc (boxD (.slice a1 n1 c1) (.slice a2 n2 c2))).alloc (boxD nilB nilB)).heap[w.heap.size + 1]? = some (boxD nilB nilB) := by
  have := heap_new (w.alloc (boxD (.slice a1 n1 c1) (.slice a2 n2 c2))) (boxD nilB nilB)
  rwa [World.size_alloc] at this
 have hck := diskCheck_any _ _ (s, t) _ (hL.later hB) (h.later hB) hn1 hn2
 have HB : Aside _ := hB
 have HL : Aside (Laid w) := hL
 have HH : Aside (DiskR w (.slice a1 n1 c1) (.slice a2 n2 c2) (s, t)) := h
 have HLn : Hid (s.length = n1 ∧ t.length = n2) := ⟨hs, ht⟩
 obtain ⟨rr, HRR⟩ : ∃ rr, Hid (drecover s t = rr) := ⟨_, rfl⟩
 rw [HRR.out]
 have HK0 : Hid (ckDisk s t ≠ 0 → rr = (([], []), [], ckDisk s t)) := fun h => by rw [← HRR.out, drecover, if_pos h]
 have HK1 : Hid (ckDisk s t = 0 → rr = ((((s ++ t).take (linesOf (s ++ t) 160).2.1), []), (linesOf (s ++ t) 160).1, 0) ∧ (linesOf (s ++ t) 160).2.1 ≤ (s ++ t).length) := fun h => by
  obtain ⟨e1, e2, e3⟩ := lines_both (t := t) (ckDisk_zero.1 h).2
  refine ⟨?_, e3⟩
  rw [← HRR.out, drecover, if_neg (by rw [h]; simp), e1, e2]
  rfl
 have HKL : Hid (ckDisk s t = 0 → n1 + n2 ≤ 30000) := fun h => by have := (ckDisk_zero.1 h).1; omega
 change Calls _ _ _ _ fun e w' => e = .returned (.int .i64 (ckDisk s t)) ∧ _ at hck
 clear hB h hs ht hL HRR hn1 hn2
 generalize ckDisk s t = k at *
 go_enter Tryz.func143, Tryz.ntmps143
 have d0 : ∀ i, ((w.alloc (boxD (.slice a1 n1 c1) (.slice a2 n2 c2))).alloc (boxD nilB nilB)).cell? ⟨w.heap.size, i, none⟩ = #[Value.slice a1 n1 c1, .slice a2 n2 c2][i]? := fun i => Joins.cell_of_block hbD i
 go_wp2_with fail
 refine hck.mono ?_
 rintro e w1 ⟨rfl, hb1⟩
 have hB1 : Aside (Below w.heap.size w w1) := HB.out.trans (hb1.mono HB.out.size)
 have hD1 := heap_below hbD hb1 (heap_lt hbD)
 have hZ1 := heap_below hbZ hb1 (heap_lt hbZ)
 have hlz1 := heap_lt hZ1
 have HZ1 : Aside (w1.heap[w.heap.size + 1]? = some (boxD nilB nilB)) := hZ1
 have HD1 : Aside (w1.heap[w.heap.size]? = some (boxD (.slice a1 n1 c1) (.slice a2 n2 c2))) := hD1
 have d1 := fun i => Joins.cell_of_block hD1 i
 have z1 := fun i => Joins.cell_of_block hZ1 i
 have f1 := fun i => Joins.unfrozen_of_block hZ1 i
 clear hck hb1 hbD hbZ HB hD1 hZ1 d0
 by_cases hk : k = 0
 · have HF0 : Hid (rr = ((((s ++ t).take (linesOf (s ++ t) 160).2.1), []), (linesOf (s ++ t) 160).1, 0) ∧ (linesOf (s ++ t) 160).2.1 ≤ (s ++ t).length) := HK1.out hk
  have hn12 : n1 + n2 ≤ 30000 := HKL.out hk
  have hkb : (k != 0) = false := by rw [hk]; rfl
  have hjn := joinY _ _ s t w1 (HH.out.safe.later hB1.out) (HH.out.wait.later hB1.out) (by rw [HLn.out.1, HLn.out.2]; omega)
  have HLE : Hid ((s ++ t).length ≤ 30000) := by rw [Hid, List.length_append, HLn.out.1, HLn.out.2]; exact hn12
  clear HK0 HK1 HKL z1 f1 hn12 hk
  go_wp2_with fail
  refine hjn.mono ?_
  rintro e w2 ⟨u, g, rfl, ho⟩
  have hb2 := ho.below
  have hB2 : Aside (Below w.heap.size w w2) := hB1.out.trans (hb2.mono hB1.out.size)
  have HZ2 : Aside _ := heap_below HZ1.out hb2 hlz1
  have hsl : ByteSl w2 u (s ++ t) := ho.sl
  have hrd := diskRead_any u (s ++ t) w2 (HL.out.later hB2.out) hsl ho.roomy HLE.out
  have hou := ho.out
  have HSL : Aside (ByteSl w2 u (s ++ t)) := hsl
  clear hjn hb2 HZ1 HD1 hB1 d1 hsl hlz1 ho
  subst hou
  generalize (linesOf (s ++ t) 160).2.2 = x3 at *
  generalize (linesOf (s ++ t) 160).2.1 = kp at *
  generalize (linesOf (s ++ t) 160).1 = rs at *
  obtain ⟨N, hN⟩ : ∃ N : Nat, (s ++ t).length = N := ⟨_, rfl⟩
  rw [hN] at hrd HSL HF0 HLE ⊢
  clear hN
  go_wp2_with fail
  refine hrd.mono ?_
  rintro e w3 ⟨ur, rfl, hor, hb3⟩
  have hB3 : Below w.heap.size w w3 := hB2.out.trans (hb3.mono hB2.out.size)
  have hZ3 := heap_below HZ2.out hb3 (heap_lt HZ2.out)
  have hlz3 := heap_lt hZ3
  have hkN : kp ≤ N := HF0.out.2
  have hcp := copyOfY (.slice (some ⟨g, 0, none⟩) kp N) ((s ++ t).take kp) w3 ((HSL.out.later hb3).upto kp hkN) (by rw [List.length_take]; have := HLE.out; omega)
  have HRS : Aside (RecSl w3 ur rs) := slOf_of_owns Rc.eight hor
  have HRM : Aside (Roomy ur) := owns_roomy hor
  have HB3 : Aside _ := hB3
  have HZ3 : Aside (w3.heap[w.heap.size + 1]? = some (boxD nilB nilB)) := hZ3
  have hk0 : (0 : Int) ≤ (kp : Int) := by omega
  have hkc : (kp : Int) ≤ (N : Int) := by omega
  clear hrd hor hB3 hZ3 hb3 HSL HZ2 hB2
  go_wp2_with fail
  refine hcp.mono ?_
  rintro e w4 ⟨u4, g4, rfl, ho4⟩
  have hb4 := ho4.below
  have hB4 : Below w.heap.size w w4 := HB3.out.trans (hb4.mono HB3.out.size)
  have hZ4 := heap_below HZ3.out hb4 hlz3
  have m4 : Mk w w4 u4 ((s ++ t).take kp) := Mk.of ho4 HB3.out.size
  have HA : Aside _ := answered hZ4 (by omega) hB4 m4 (Mk.none w w4) (.slice a1 n1 c1) (.slice a2 n2 c2)
  have hf4 := m4.form
  have HR4 : Aside _ := recs_two (u1 := u4) (u2 := nilB) (HRS.out.later hb4) hZ4 (by obtain ⟨a, c, e, _⟩ := hf4; exact ⟨_, _, _, e⟩) ⟨_, _, _, rfl⟩
  have HZ4 : Aside (w4.heap[w.heap.size + 1]? = some (boxD nilB nilB)) := hZ4
  have z4 := fun i => Joins.cell_of_block hZ4 i
  have f4 := fun i => Joins.unfrozen_of_block hZ4 i
  obtain ⟨b4, q4, hu4, _⟩ := hf4
  clear hcp ho4 hb4 HRS hZ4 hB4 m4 HZ3 HB3
  subst hu4
  obtain ⟨x4, hx4⟩ : ∃ x4 : Nat, ((s ++ t).take kp).length = x4 := ⟨_, rfl⟩
  rw [hx4] at HA HR4 ⊢
  clear hx4
  go_wp2
  exact ret_dk3 (v1 := .slice b4 x4 q4) (v2 := nilB) Tryz.results143 rfl rfl rfl rfl (disk_stored HZ4.out _ _) ⟨_, _, _, by rw [HF0.out.1]; rfl, by rw [HF0.out.1]; exact HA.out.1, by rw [HF0.out.1]; exact HR4.out, HA.out.2.1, HRM.out⟩
 · have HF : Hid (rr = (([], []), [], k)) := HK0.out hk
  have hkb : (k != 0) = true := by rw [bne_iff_ne]; exact hk
  have HA : Aside _ := answered HZ1.out (by omega) hB1.out (Mk.none w w1) (Mk.none w w1) (.slice a1 n1 c1) (.slice a2 n2 c2)
  clear HK0 HK1 HKL hk d1
  go_wp2
  exact ret_dk3 (v1 := nilB) (v2 := nilB) Tryz.results143 rfl rfl rfl rfl (disk_stored HZ1.out _ _) ⟨nilB, nilB, nilB, by rw [HF.out]; rfl, by rw [HF.out]; exact HA.out.1, by rw [HF.out]; exact SlOf.nil _ _, HA.out.2.1, ⟨_, _, _, rfl, Nat.le_refl _⟩⟩
theorem diskRecover_any (v1 v2 : Value) (d : Dk) (W : World) (hL : Laid W) (h : DiskR W v1 v2 d) (hn1 : d.1.length ≤ topLen) (hn2 : d.2.length ≤ topLen) : AnsV v1 v2 W (drecover d.1 d.2) := by
 obtain ⟨s, t⟩ := d
 have h' := h
 obtain ⟨a1, c1, rfl, _⟩ := h.safe
 obtain ⟨a2, c2, rfl, _⟩ := h.wait
 exact recover_at a1 a2 _ _ c1 c2 s t W hL h' rfl rfl hn1 hn2
structure UBox (w W : World) (b g : Nat) (u : Un) : Prop where
 box : W.heap[b]? = some (boxU u.p (.slice (some ⟨g, 0, none⟩) 60 60))
 row : W.heap[g]? = some (.cells (u.cells.flatMap En.cells ++ []).toArray 27)
 len : u.cells.length = 60
 far : b ≠ g
 base : w.heap.size ≤ b
 baseg : w.heap.size ≤ g
 below : Below w.heap.size w W
theorem UBox.later {w W W' : World} {b g : Nat} {u : Un} (h : UBox w W b g u) (hb : Below W.heap.size W W') : UBox w W' b g u :=
 ⟨heap_below h.box hb (heap_lt h.box), heap_below h.row hb (heap_lt h.row), h.len, h.far, h.base, h.baseg, step_below1 h.below hb⟩
theorem UBox.unit {w W : World} {b g : Nat} {u : Un} (h : UBox w W b g u) : UnitAt W (.slice (some ⟨g, 0, none⟩) 60 60) u :=
 ⟨ents_front h.len h.row, ⟨_, _, _, rfl, Nat.le_refl _⟩⟩
theorem UBox.seal {w W : World} {b g : Nat} {u : Un} (h : UBox w W b g u) (p : Int) : UBox w (W.setCell ⟨b, 0, none⟩ (.int .i64 p)) b g ⟨p, u.cells⟩ :=
 ⟨by rw [Joins.block_setCell h.box]; rfl, (Below.heap_setCell _ _ _ _ (by show g ≠ b; exact h.far.symm)).trans h.row, h.len, h.far, h.base, h.baseg, h.below.setCell (p := ⟨b, 0, none⟩) h.base _⟩
theorem UBox.write {w W : World} {b g : Nat} {u : Un} (h : UBox w W b g u) {k : Nat} (hk : k < 60) (e : En) :
  UBox w (((((W.setCell ⟨g, k * 5, none⟩ (.int .i64 e.k)).setCell ⟨g, k * 5 + 1, none⟩ (.int .i64 e.j)).setCell ⟨g, k * 5 + 2, none⟩ (.int .i64 e.v)).setCell ⟨g, k * 5 + 3, none⟩ (.int .i64 e.t)).setCell ⟨g, k * 5 + 4, none⟩ (.int .i64 e.c)) b g ⟨u.p, u.cells.set k e⟩ :=
 ⟨(other_fiveE h.far (k * 5) _ _ _ _ _).trans h.box, stored_five h.row (by rw [h.len]; exact hk) e, by rw [List.length_set]; exact h.len, h.far, h.base, h.baseg, below_fiveE h.below h.baseg (k * 5) _ _ _ _ _⟩
theorem UBox.cells {w W : World} {b g : Nat} {u : Un} (h : UBox w W b g u) {k : Nat} {x : En} (hx : u.cells[k]? = some x) {i : Nat} {v : Value} (hv : x.cells[i]? = some v) : W.cell? ⟨g, k * 5 + i, none⟩ = some v := by
 have hf := row_flat En.five u.cells k x hx i v hv
 have hlt := (List.getElem?_eq_some_iff.1 hf).1
 rw [Joins.cell_of_block h.row, List.getElem?_toArray, List.getElem?_append_left hlt]
 exact hf
theorem useal_any (w W : World) (b g : Nat) (u : Un) (ep : Int) (h : UBox w W b g u) :
  Calls Tryz.prog 194 #[.pointer (some ⟨b, 0, none⟩), .int .i64 ep] W fun e w' => e = .returned (.int .i64 (if ep ≤ u.p then 8 else 0)) ∧ UBox w w' b g (if ep ≤ u.p then u else ⟨ep, u.cells⟩) := by
 have z0 := fun i => Joins.cell_of_block h.box i
 have f0 := fun i => Joins.unfrozen_of_block h.box i
 have H : Aside (UBox w W b g u) := h
 clear h
 by_cases hp : ep ≤ u.p
 · rw [if_pos hp, if_pos hp]
  go_enter Tryz.func194, Tryz.ntmps194
  go_wp2
  go_ret
  exact ⟨rfl, H.out⟩
 · rw [if_neg hp, if_neg hp]
  have hp2 : u.p < ep := by omega
  go_enter Tryz.func194, Tryz.ntmps194
  go_wp2
  go_ret
  exact ⟨rfl, H.out.seal ep⟩
abbrev WtS (W w : World) (b g k : Nat) (x : En) : Prop :=
 Below W.heap.size W w ∧ w.cell? ⟨b, 1, none⟩ = some (.slice (some ⟨g, 0, none⟩) 60 60) ∧ w.cell? ⟨g, k * 5, none⟩ = some (.int .i64 x.k) ∧ w.cell? ⟨g, k * 5 + 1, none⟩ = some (.int .i64 x.j) ∧ w.cell? ⟨g, k * 5 + 2, none⟩ = some (.int .i64 x.v) ∧ w.cell? ⟨g, k * 5 + 3, none⟩ = some (.int .i64 x.t) ∧ w.cell? ⟨g, k * 5 + 4, none⟩ = some (.int .i64 x.c)
theorem wtS_step {W w w' : World} {b g k : Nat} {x : En} (h : WtS W w b g k x) (hb : Below w.heap.size w w') : WtS W w' b g k x :=
 ⟨h.1.trans (hb.mono h.1.size), cell_later hb h.2.1, cell_later hb h.2.2.1, cell_later hb h.2.2.2.1, cell_later hb h.2.2.2.2.1, cell_later hb h.2.2.2.2.2.1, cell_later hb h.2.2.2.2.2.2⟩
theorem uwrite_twice (w W : World) (b g : Nat) (u : Un) (k : Nat) (x e : En) (h : UBox w W b g u) (hk : k < 60) (hx : u.cells[k]? = some x) (hib : x.isB = false) :
  Calls Tryz.prog 195 #[.pointer (some ⟨b, 0, none⟩), .int .i64 (k : Int), e.val] W fun r w' => r = .returned (.int .i64 6) ∧ UBox w w' b g u := by
 have H1 := h.later (grew (Below.refl W.heap.size W) (boxE e.k e.j e.v e.t e.c))
 have hS0 : WtS (W.alloc (boxE e.k e.j e.v e.t e.c)) (W.alloc (boxE e.k e.j e.v e.t e.c)) b g k x := ⟨Below.refl _ _, Joins.cell_of_block H1.box 1, H1.cells hx (i := 0) rfl, H1.cells hx (i := 1) rfl, H1.cells hx (i := 2) rfl, H1.cells hx (i := 3) rfl, H1.cells hx (i := 4) rfl⟩
 have hne : ∀ W, (binOp .neq 27 (ev x.k x.j x.v x.t x.c) (ev 4 0 0 0 0)).run Tryz.prog W = .ok (.bool (!x.isB)) W := fun W => by
  rw [neq_entry x.k x.j x.v x.t x.c 4 0 0 0 0 W, En.isB, Bool.not_not]
 rw [hib] at hne
 have H : Aside (UBox w (W.alloc (boxE e.k e.j e.v e.t e.c)) b g u) := H1
 have HS0 : Aside _ := hS0
 have hki : (k : Int) < 60 := by omega
 have hk0 : (0 : Int) ≤ (k : Int) := by omega
 clear h hx hib H1 hS0
 go_enter Tryz.func195, Tryz.ntmps195
 go_upto_region 1 with fail
 generalize W.alloc (boxE e.k e.j e.v e.t e.c) = W1 at *
 generalize W.heap.size = be at *
 have hS0 := HS0.out
 have hbd : Below W1.heap.size W1 W1.drew := (Below.refl _ _).drew
 go_region_held3 (fun w' => WtS W1 w' b g k x) (exact wtS_step (by assumption) (by assumption)) (first | (go_at_call 111; refine (ublank_any _).mono ?_; rintro r w' ⟨rfl, hb'⟩))
 all_goals
  rename_i hS
  have HB : Aside _ := H.out.later hS.1
  clear hS hS0 hbd HS0 H hne
  go_wp2
  go_ret
  exact ⟨rfl, HB.out⟩
theorem uwrite_some (w W : World) (b g : Nat) (u : Un) (k : Nat) (x e : En) (h : UBox w W b g u) (hk : k < 60) (hx : u.cells[k]? = some x) (hib : x.isB = true) :
  Calls Tryz.prog 195 #[.pointer (some ⟨b, 0, none⟩), .int .i64 (k : Int), e.val] W fun r w' => r = .returned (.int .i64 0) ∧ UBox w w' b g ⟨u.p, u.cells.set k e⟩ := by
 have H1 := h.later (grew (Below.refl W.heap.size W) (boxE e.k e.j e.v e.t e.c))
 have hS0 : WtS (W.alloc (boxE e.k e.j e.v e.t e.c)) (W.alloc (boxE e.k e.j e.v e.t e.c)) b g k x := ⟨Below.refl _ _, Joins.cell_of_block H1.box 1, H1.cells hx (i := 0) rfl, H1.cells hx (i := 1) rfl, H1.cells hx (i := 2) rfl, H1.cells hx (i := 3) rfl, H1.cells hx (i := 4) rfl⟩
 have hne : ∀ W, (binOp .neq 27 (ev x.k x.j x.v x.t x.c) (ev 4 0 0 0 0)).run Tryz.prog W = .ok (.bool (!x.isB)) W := fun W => by
  rw [neq_entry x.k x.j x.v x.t x.c 4 0 0 0 0 W, En.isB, Bool.not_not]
 rw [hib] at hne
 have HX0 : Aside ((W.alloc (boxE e.k e.j e.v e.t e.c)).heap[W.heap.size]? = some (boxE e.k e.j e.v e.t e.c)) := heap_new _ _
 have H : Aside (UBox w (W.alloc (boxE e.k e.j e.v e.t e.c)) b g u) := H1
 have HS0 : Aside _ := hS0
 have hki : (k : Int) < 60 := by omega
 have hk0 : (0 : Int) ≤ (k : Int) := by omega
 clear h hx hib H1 hS0
 go_enter Tryz.func195, Tryz.ntmps195
 go_upto_region 1 with fail
 generalize W.alloc (boxE e.k e.j e.v e.t e.c) = W1 at *
 generalize W.heap.size = be at *
 have hS0 := HS0.out
 have hbd : Below W1.heap.size W1 W1.drew := (Below.refl _ _).drew
 go_region_held3 (fun w' => WtS W1 w' b g k x) (exact wtS_step (by assumption) (by assumption)) (first | (go_at_call 111; refine (ublank_any _).mono ?_; rintro r w' ⟨rfl, hb'⟩))
 all_goals
  rename_i hS
  obtain ⟨V, hVe, hSV⟩ := name_world (P := fun W => WtS W1 W b g k x) hS
  subst hVe
  have HB : Aside _ := H.out.later hSV.1
  have HXV : Aside _ := heap_below HX0.out hSV.1 (heap_lt HX0.out)
  obtain ⟨_, k1, g0, g1, g2, g3, g4⟩ := hSV
  clear hS hS0 hbd HS0 H hne HX0
  have fg := fun i => Joins.unfrozen_of_block HB.out.row i
  have z1 := fun i => Joins.cell_of_block HXV.out i
  go_upto_region 3 with fail
  go_region
  go_wp2
  go_ret
  exact ⟨rfl, (HB.out.write hk e).later (Below.refl _ _).drew⟩
theorem utake_any (w W : World) (b g : Nat) (u : Un) (r : Rc) (h : UBox w W b g u) :
  Calls Tryz.prog 164 #[.pointer (some ⟨b, 0, none⟩), r.val] W fun e w' => e = .returned (.int .i64 (utake u r).2) ∧ UBox w w' b g (utake u r).1 := by
 have hB0 := grew (Below.refl W.heap.size W) (boxRc r)
 have HX0 : Aside ((W.alloc (boxRc r)).heap[W.heap.size]? = some (boxRc r)) := heap_new _ _
 have H0 : Aside (UBox w (W.alloc (boxRc r)) b g u) := h.later hB0
 have hck := noteCheck_any r (W.alloc (boxRc r))
 clear h hB0
 by_cases h1 : r.chk = 0
 · rw [h1] at hck
  by_cases hk : r.k = 2
  · have hkb : (r.k == 2) = true := by rw [hk]; rfl
   obtain ⟨d, U, hr, hs⟩ : ∃ d U, Hid (utake u r = (U, d)) ∧ ∀ W', UBox w W' b g u → Calls Tryz.prog 194 #[.pointer (some ⟨b, 0, none⟩), .int .i64 r.p] W' fun e w' => e = .returned (.int .i64 d) ∧ UBox w w' b g U := by
    by_cases hp : r.p ≤ u.p
    · refine ⟨8, u, ?_, fun W' hh => ?_⟩
     · rw [Hid, utake, if_neg (by simpa using h1), uwrite, if_pos hk, if_pos hp, if_pos (by simp)]
     · have := useal_any w W' b g u r.p hh
      rw [if_pos hp, if_pos hp] at this
      exact this
    · refine ⟨0, ⟨r.p, u.cells⟩, ?_, fun W' hh => ?_⟩
     · rw [Hid, utake, if_neg (by simpa using h1), uwrite, if_pos hk, if_neg hp, if_neg (by simp)]
     · have := useal_any w W' b g u r.p hh
      rw [if_neg hp, if_neg hp] at this
      exact this
   clear h1 hk
   go_enter Tryz.func164, Tryz.ntmps164
   go_wp2_with fail
   refine hck.mono ?_
   rintro e w1 ⟨rfl, hb1⟩
   have H1 : Aside _ := H0.out.later hb1
   have HX1 : Aside _ := heap_below HX0.out hb1 (heap_lt HX0.out)
   have z1 := fun i => Joins.cell_of_block HX1.out i
   have hs1 := hs w1 H1.out
   clear hck hb1 H0 HX0 hs
   go_wp2_with fail
   refine hs1.mono ?_
   rintro e w2 ⟨rfl, H2⟩
   have HH2 : Aside _ := H2
   clear hs1 H2
   go_wp2
   go_ret
   exact ⟨by rw [hr.out]; rfl, by rw [hr.out]; exact HH2.out⟩
  · have hkb : (r.k == 2) = false := by rw [beq_eq_false_iff_ne]; exact hk
   obtain ⟨g1, g2, g3, g4⟩ := Rc.write h1 hk
   obtain ⟨k, hk'⟩ : ∃ k : Nat, r.a = k := ⟨r.a.toNat, by omega⟩
   have hkl : k < 60 := by omega
   obtain ⟨x, hx⟩ : ∃ x, u.cells[k]? = some x := ⟨u.cells[k]'(by have := H0.out.len; omega), List.getElem?_eq_getElem _⟩
   have hg : u.cells.getD k blankE = x := by rw [List.getD_eq_getElem?_getD, hx]; rfl
   obtain ⟨d, U, hr, hs⟩ : ∃ d U, Hid (utake u r = (U, d)) ∧ ∀ W', UBox w W' b g u → Calls Tryz.prog 195 #[.pointer (some ⟨b, 0, none⟩), .int .i64 r.a, r.e.val] W' fun e w' => e = .returned (.int .i64 d) ∧ UBox w w' b g U := by
    cases hb : x.isB with
    | false =>
     refine ⟨6, u, ?_, fun W' hh => ?_⟩
     · rw [Hid, utake, if_neg (by simpa using h1), uwrite, if_neg hk, hk', Int.toNat_natCast, hg, if_pos hb, if_pos (by simp)]
     · rw [hk']; exact uwrite_twice w W' b g u k x r.e hh hkl hx hb
    | true =>
     refine ⟨0, ⟨u.p, u.cells.set k r.e⟩, ?_, fun W' hh => ?_⟩
     · rw [Hid, utake, if_neg (by simpa using h1), uwrite, if_neg hk, hk', Int.toNat_natCast, hg, if_neg (c := x.isB = false) (by simp [hb]), if_neg (by simp)]
     · rw [hk']; exact uwrite_some w W' b g u k x r.e hh hkl hx hb
   clear h1 hk g1 g2 g3 g4 hk' hkl hx hg
   go_enter Tryz.func164, Tryz.ntmps164
   go_wp2_with fail
   refine hck.mono ?_
   rintro e w1 ⟨rfl, hb1⟩
   have H1 : Aside _ := H0.out.later hb1
   have HX1 : Aside _ := heap_below HX0.out hb1 (heap_lt HX0.out)
   have z1 := fun i => Joins.cell_of_block HX1.out i
   have hs1 := hs w1 H1.out
   clear hck hb1 H0 HX0 hs
   go_wp2_with fail
   refine hs1.mono ?_
   rintro e w2 ⟨rfl, H2⟩
   have HH2 : Aside _ := H2
   clear hs1 H2
   go_wp2
   go_ret
   exact ⟨by rw [hr.out]; rfl, by rw [hr.out]; exact HH2.out⟩
 · have hr : Hid (utake u r = (u, r.chk)) := by rw [Hid, utake, if_pos h1]
  have hzb : (r.chk != 0) = true := by rw [bne_iff_ne]; exact h1
  rw [hr.out]
  clear h1 hr
  generalize r.chk = d at *
  go_enter Tryz.func164, Tryz.ntmps164
  go_wp2_with fail
  refine hck.mono ?_
  rintro e w1 ⟨rfl, hb1⟩
  have H1 : Aside _ := H0.out.later hb1
  clear hck hb1 H0 HX0
  go_wp2
  go_ret
  exact ⟨rfl, H1.out⟩
theorem drop_rc {rs : List Rc} {k : Nat} {x : Rc} (h : rs[k]? = some x) : rs.drop k = x :: rs.drop (k + 1) := by
 have hlt := (List.getElem?_eq_some_iff.1 h).1
 rw [List.drop_eq_getElem_cons hlt, (List.getElem?_eq_some_iff.1 h).2]
section
variable {P : Program}
theorem wpList_copyO {w : World} {ops : Array Oper} {rest : List Oper} {o : Oper} {a : Act} {Q : Exit → Act → World → Prop} (hgd : o.guard = none) (d s : Operand) (dT sT : TypeId)
  (ho : o.op = .call { callee := .builtin .copy, args := #[d, s], argTypes := #[dT, sT] }) (elem : TypeId) (k : Nat) (hu : P.underlying dT = some (.slice elem)) (hsz : (P.info? elem).map (·.size) = some k)
  (ad : Addr) (n dCap sCap : Nat) (g : Nat) (hd : a.eval d = .slice (some ⟨g, 0, none⟩) n dCap) (hs : a.eval s = .slice (some ad) n sCap)
  (cur : List Value) (t : TypeId) (hg : w.heap[g]? = some (.cells cur.toArray t (0, 0))) (cs : List Value) (hn : cs.length = n * k) (hl : cur.length = cs.length)
  (hsrc : ∀ j v, cs[j]? = some v → w.cell? (ad.add j) = some v) (h1 : ∀ v ∈ cs, v.oneCell' = true)
  (h : ∀ w', Hid (w'.heap[g]? = some (.cells cs.toArray t (0, 0))) → Hid (∀ i, i ≠ g → w'.heap[i]? = w.heap[i]?) → (∀ (B : Nat) (w0 : World), Below B w0 w → B ≤ g → Below B w0 w') → wpList P ops Q rest (a.put o.dst (goInt n)) w') :
  wpList P ops Q (o :: rest) a w := by
 refine wpList_plain hgd fun K hK => ?_
 have hmin : Nat.min n n = n := Nat.min_self n
 have hrun := copy_cells (P := P) w dT sT o.type elem g 0 n dCap ad n sCap cur t k cs hu hsz hg (by rw [hmin]; exact hn) hsrc (by omega) h1
 rw [hmin, splice_all hl] at hrun
 unfold Oper.wp
 simp [execOp, ho, resolve, invoke, builtin, hd, hs, hrun, Result.andThen]
 exact hK _ _ (h _ (show _ = _ from setRow_heap w g _ _ t _ hg) (fun i hi => setRow_other w g i _ hi) (fun B w0 hb hB => below_setRow hb hB _))
end
theorem step_make60 {ops : Array Oper} {o : Oper} {a : Act} {w : World} {K : Act → World → Prop} {Q : Exit → Act → World → Prop} {E : Prop} (hgd : o.guard = none) (l c : Operand) (hop : o.op = Op.makeSlice 42 l c) (hl : a.eval l = .int .i64 60) (hc : a.eval c = .int .i64 60)
  (h : ∀ w', w'.heap[w.heap.size]? = some (.cells ((List.replicate 60 En.zero).flatMap En.cells).toArray 27) → Below w.heap.size w w' → K (a.put o.dst (.slice (some ⟨w.heap.size, 0, none⟩) 60 60)) w') :
  if Region.wanted o (yielded ops a.tmps) = true then Oper.wp Tryz.prog o a w K Q else E := by
 have hw : Region.wanted o (yielded ops a.tmps) = true := by simp [Region.wanted, hgd]
 rw [if_pos hw]
 obtain ⟨i0, hi, hz0, hz1, hz2⟩ := info_parts infoE
 obtain ⟨w', hrun, hown, hgrow⟩ := run_make_full (P := Tryz.prog) w w.heap.size 42 27 i0 (ev 0 0 0 0 0) 5 Tryz.underlying42 hi hz0 hz1 .i64 .i64 60 (by rw [hz2]; omega) (by unfold maxLen; omega) (Nat.le_refl _)
 have hg' : w'.heap[w.heap.size]? = some (.cells ((List.replicate 60 En.zero).flatMap En.cells).toArray 27) := by
  rcases hown.2 with ⟨h, _⟩ | ⟨g, cap, cur, hv', _, hg, _, _, hsz, htake⟩
  · cases h
  injection hv' with ha _ hc
  injection ha with ha
  injection ha with ha _ _
  subst ha hc
  have h2 : cur.toList = (List.replicate 60 En.zero).flatMap En.cells := by
   rw [← made60]
   rw [List.take_of_length_le (by rw [Array.length_toList, hsz]; omega)] at htake
   exact htake
  rw [← h2]
  simpa using hg
 have hB : Below w.heap.size w w' := ⟨hgrow.os, hgrow.tape, hgrow.output, hgrow.size, fun k hk => hgrow.block k hk (fun h => by cases h)⟩
 have hrun' : (Instr.makeSlice 42 (.int .i64 60) (.int .i64 60)).run Tryz.prog w = .ok (.slice (some ⟨w.heap.size, 0, none⟩) 60 60) w' := hrun
 unfold Oper.wp
 simp [execOp, hop, hl, hc, hrun', Result.andThen]
 exact h _ hg' hB
abbrev NxS (W w : World) (b : Nat) (p : Int) (s : Value) : Prop := Below W.heap.size W w ∧ w.cell? ⟨b, 0, none⟩ = some (.int .i64 p) ∧ w.cell? ⟨b, 1, none⟩ = some s
theorem nxS_step {W w w' : World} {b : Nat} {p : Int} {s : Value} (h : NxS W w b p s) (hb : Below w.heap.size w w') : NxS W w' b p s := ⟨h.1.trans (hb.mono h.1.size), cell_later hb h.2.1, cell_later hb h.2.2⟩
theorem nxS_two {W w : World} {b : Nat} {p : Int} {s : Value} (h : NxS W w b p s) {g : Nat} (hW : W.heap.size ≤ g) (hg : b ≠ g) (u1 u2 : Value) : NxS W ((w.setCell ⟨g, 0, none⟩ u1).setCell ⟨g, 1, none⟩ u2) b p s :=
 ⟨below_two2 h.1 hW u1 u2, by rw [World.cell?_setCell_far _ _ _ _ (by exact hg.symm), World.cell?_setCell_far _ _ _ _ (by exact hg.symm)]; exact h.2.1, by rw [World.cell?_setCell_far _ _ _ _ (by exact hg.symm), World.cell?_setCell_far _ _ _ _ (by exact hg.symm)]; exact h.2.2⟩
structure Made (X w : World) (b g : Nat) (p : Int) : Prop where
 box : w.heap[b]? = some (boxU p (.slice (some ⟨g, 0, none⟩) 60 60))
 row : w.heap[g]? = some (.cells ((List.replicate 60 En.zero).flatMap En.cells).toArray 27)
 far : b ≠ g
 base : X.heap.size ≤ b
 baseg : X.heap.size ≤ g
 below : Below X.heap.size X w
theorem made_gb {X w1 : World} {p : Int} {g : Nat} (hXg : X.heap.size ≤ g) (hB : Below X.heap.size X w1) (hg : w1.heap[g]? = some (.cells ((List.replicate 60 En.zero).flatMap En.cells).toArray 27)) :
  Made X (w1.alloc (boxU p (.slice (some ⟨g, 0, none⟩) 60 60))) w1.heap.size g p := by
 have hlt := heap_lt hg
 exact ⟨heap_new w1 _, heap_old hg _, by omega, by omega, hXg, grew hB _⟩
theorem made_bg {X X1 w1 : World} {p : Int} {b g : Nat} (hX : X1.heap[b]? = some (boxU 0 (.slice none 0 0))) (hXb : X.heap.size ≤ b) (hB : Below X.heap.size X X1) (hgs : X1.heap.size = g) (hg : w1.heap[X1.heap.size]? = some (.cells ((List.replicate 60 En.zero).flatMap En.cells).toArray 27)) (hb : Below X1.heap.size X1 w1) :
  Made X ((w1.setCell ⟨b, 0, none⟩ (.int .i64 p)).setCell ⟨b, 1, none⟩ (.slice (some ⟨g, 0, none⟩) 60 60)) b g p := by
 subst hgs
 have hlt := heap_lt hX
 refine ⟨unit_stored (heap_below hX hb hlt) _ _, ?_, by omega, hXb, by omega, below_two2 (step_below1 hB hb) hXb _ _⟩
 rw [Below.heap_setCell _ _ _ _ (by show X1.heap.size ≠ b; omega), Below.heap_setCell _ _ _ _ (by show X1.heap.size ≠ b; omega)]
 exact hg
theorem unit_keepG {W : World} {g' : Nat} {u : Un} (h : UnitAt W (.slice (some ⟨g', 0, none⟩) 60 60) u) {g : Nat} (hg : g' ≠ g) (i : Nat) (x : Value) : UnitAt (W.setCell ⟨g, i, none⟩ x) (.slice (some ⟨g', 0, none⟩) 60 60) u := by
 refine ⟨?_, h.room⟩
 obtain ⟨a, c, hv, hc⟩ := h.ents
 refine ⟨a, c, hv, ?_⟩
 rcases hc with hc | ⟨b, off, ha, hE⟩
 · exact Or.inl hc
 · refine Or.inr ⟨b, off, ha, fun j e hj i' y hi => ?_⟩
  have hne : b ≠ g := by
   rw [ha] at hv
   injection hv with h1 _ _
   injection h1 with h1
   injection h1 with h1 _ _
   omega
  rw [World.cell?_setCell_far _ _ _ _ (by exact hne.symm)]
  exact hE j e hj i' y hi
theorem own_of {g q n : Nat} (h : (Value.slice (some ⟨g, 0, none⟩) 60 60).ownBlock = some q) (hn : n ≤ g) : n ≤ q := by
 obtain rfl : g = q := by simpa [Value.ownBlock] using h
 exact hn
abbrev AnsO (f : Nat) (args : Array Value) (w : World) (r : Un × Int) : Prop :=
 Calls Tryz.prog f args w fun e w' => ∃ v', e = .returned (.tuple #[.agg #[.int .i64 r.1.p, v'], .int .i64 r.2]) ∧ UnitAt w' v' r.1 ∧ Below w.heap.size w w' ∧ (∀ g, v'.ownBlock = some g → w.heap.size ≤ g)
theorem unext_badU (a : Option Addr) (n c : Nat) (p : Int) (es : List En) (r : Rc) (w : World) (h : EntSl w (.slice a n c) es) (d : Int) (hd : Un.ck ⟨p, es⟩ = d) (hz : (d != 0) = true) :
  AnsO 128 #[.agg #[.int .i64 p, .slice a n c], r.val] w (Un.zero, d) := by
 have HB0 : Aside (Below w.heap.size w (((w.alloc (boxU p (.slice a n c))).alloc (boxRc r)).alloc (boxU 0 (.slice none 0 0)))) := grew (grew (grew (Below.refl _ _) _) _) _
 have HZ0 : Aside ((((w.alloc (boxU p (.slice a n c))).alloc (boxRc r)).alloc (boxU 0 (.slice none 0 0))).heap[w.heap.size + 1 + 1]? = some (boxU 0 (.slice none 0 0))) := by
  have := heap_new ((w.alloc (boxU p (.slice a n c))).alloc (boxRc r)) (boxU 0 (.slice none 0 0))
  rwa [World.size_alloc, World.size_alloc] at this
 have hck := unitCheck_any (.slice a n c) ⟨p, es⟩ (((w.alloc (boxU p (.slice a n c))).alloc (boxRc r)).alloc (boxU 0 (.slice none 0 0))) (h.later HB0.out)
 rw [hd] at hck
 clear hd h
 go_enter Tryz.func128, Tryz.ntmps128
 go_wp2_with fail
 refine hck.mono ?_
 rintro e w1 ⟨rfl, hb1⟩
 have HZ1 : Aside _ := heap_below HZ0.out hb1 (heap_lt HZ0.out)
 have HB1 : Aside _ := step_below1 HB0.out hb1
 clear hb1 HZ0 HB0 hck
 have z2 := fun i => Joins.cell_of_block HZ1.out i
 have f2 := fun i => Joins.unfrozen_of_block HZ1.out i
 go_wp2
 exact ret_unit (p := 4) (q := 5) Tryz.results128 rfl rfl rfl (unit_stored HZ1.out _ _) ⟨_, rfl, unit_nil _, below_two2 HB1.out (by omega) _ _, fun g hg => by cases hg⟩
theorem unext_good (a : Option Addr) (c : Nat) (p : Int) (es : List En) (r : Rc) (w : World) (h : EntSl w (.slice a 60 c) es) (hl : es.length = 60) (hd : Un.ck ⟨p, es⟩ = 0) :
  AnsO 128 #[.agg #[.int .i64 p, .slice a 60 c], r.val] w (unext ⟨p, es⟩ r) := by
 have HB0 : Aside (Below w.heap.size w (((w.alloc (boxU p (.slice a 60 c))).alloc (boxRc r)).alloc (boxU 0 (.slice none 0 0)))) := grew (grew (grew (Below.refl _ _) _) _) _
 have HX0 : Aside ((((w.alloc (boxU p (.slice a 60 c))).alloc (boxRc r)).alloc (boxU 0 (.slice none 0 0))).heap[w.heap.size]? = some (boxU p (.slice a 60 c))) := heap_old (heap_old (heap_new _ _) _) _
 have HY0 : Aside ((((w.alloc (boxU p (.slice a 60 c))).alloc (boxRc r)).alloc (boxU 0 (.slice none 0 0))).heap[w.heap.size + 1]? = some (boxRc r)) := by
  have := heap_new (w.alloc (boxU p (.slice a 60 c))) (boxRc r)
  rw [World.size_alloc] at this
  exact heap_old this _
 have HZ0 : Aside ((((w.alloc (boxU p (.slice a 60 c))).alloc (boxRc r)).alloc (boxU 0 (.slice none 0 0))).heap[w.heap.size + 1 + 1]? = some (boxU 0 (.slice none 0 0))) := by
  have := heap_new ((w.alloc (boxU p (.slice a 60 c))).alloc (boxRc r)) (boxU 0 (.slice none 0 0))
  rwa [World.size_alloc, World.size_alloc] at this
 have hck := unitCheck_any (.slice a 60 c) ⟨p, es⟩ (((w.alloc (boxU p (.slice a 60 c))).alloc (boxRc r)).alloc (boxU 0 (.slice none 0 0))) (h.later HB0.out)
 rw [hd] at hck
 obtain ⟨ab, off, rfl, hE0⟩ := SlOf.at (cs := En.cells) (k := 5) h (by omega)
 have H : Aside (∀ W, Below w.heap.size w W → RowAt En.cells 5 W ab off es) := fun W hb => hE0.later hb
 have HL : Aside (es.length = 60) := hl
 have HD : Aside (Un.ck ⟨p, es⟩ = 0) := hd
 obtain ⟨⟨U, d⟩, hq⟩ : ∃ q, utake ⟨p, es⟩ r = q := ⟨_, rfl⟩
 have htk := fun X W' b g (hh : UBox X W' b g ⟨p, es⟩) => utake_any X W' b g ⟨p, es⟩ r hh
 simp only [hq] at htk
 have HTK : Aside (∀ X W' b g, UBox X W' b g ⟨p, es⟩ → _) := htk
 have hcase : (d = 0 ∧ unext ⟨p, es⟩ r = (U, 0)) ∨ (d ≠ 0 ∧ unext ⟨p, es⟩ r = (Un.zero, d)) := by
  have he := utake_err ⟨p, es⟩ r hd
  rw [hq] at he
  change d = _ at he
  by_cases h0 : d = 0
  · have ho := utake_ok (r := r) hd (by rw [hq]; exact h0)
   rw [hq] at ho
   exact Or.inl ⟨h0, by rw [← ho, h0]⟩
  · have hb := unext_bad (r := r) hd (by rw [← he]; exact h0)
   exact Or.inr ⟨h0, Prod.ext hb he.symm⟩
 obtain ⟨rr, HRR⟩ : ∃ rr, Hid (unext ⟨p, es⟩ r = rr) := ⟨_, rfl⟩
 rw [HRR.out] at hcase ⊢
 have HC : Hid ((d = 0 ∧ rr = (U, 0)) ∨ (d ≠ 0 ∧ rr = (Un.zero, d))) := hcase
 obtain ⟨cs, hcs⟩ : ∃ cs, Hid (es.flatMap En.cells = cs) := ⟨_, rfl⟩
 have hone : ∀ u ∈ cs, u.oneCell' = true := by rw [← hcs.out]; exact oneE es
 have hlen : cs.length = 60 * 5 := by rw [← hcs.out, row_len En.five es, hl]
 have hlen2 : ((List.replicate 60 En.zero).flatMap En.cells).length = cs.length := by rw [hlen, row_len En.five, List.length_replicate]
 obtain ⟨ZL, HZL⟩ : ∃ ZL, Hid ((List.replicate 60 En.zero).flatMap En.cells = ZL) := ⟨_, rfl⟩
 rw [HZL.out] at hlen2
 clear hd h hl hq hE0 hcase HRR htk
 go_enter Tryz.func128, Tryz.ntmps128
 go_wp2_with fail
 refine hck.mono ?_
 rintro e w1 ⟨rfl, hb1⟩
 have HX1 : Aside _ := heap_below HX0.out hb1 (heap_lt HX0.out)
 have HY1 : Aside _ := heap_below HY0.out hb1 (heap_lt HY0.out)
 have HZ1 : Aside _ := heap_below HZ0.out hb1 (heap_lt HZ0.out)
 have HB1 : Aside _ := step_below1 HB0.out hb1
 clear hb1 HX0 HY0 HZ0 HB0 hck
 have hltz := heap_lt HZ1.out
 go_upto_region 4 with fail
 refine wp_region_held_drew (S := fun w' => NxS w1 w' w.heap.size p (.slice (some ⟨ab, off, none⟩) 60 c)) (by kernel_rfl) (⟨(Below.refl _ _).drew, Joins.cell_of_block HX1.out 0, Joins.cell_of_block HX1.out 1⟩) (fun hHeld => ?_)
 refine tk 0 (v := ?_) rfl (by kernel_rfl) (by rfl) (by assumption) (fun _ _ _ h => h) ?_ ?_
 rotate_left
 · intro w0 hSw; (try dsimp only at hSw); go_simp; first | done | with_reducible rfl
 try simp only [Act.put, qa, qb, qc]
 refine tk 1 (v := ?_) rfl (by kernel_rfl) (by rfl) (by assumption) (fun _ _ _ h => h) ?_ ?_
 rotate_left
 · intro w0 hSw; (try dsimp only at hSw); go_simp; first | done | with_reducible rfl
 try simp only [Act.put, qa, qb, qc]
 refine tk 2 (v := ?_) rfl (by kernel_rfl) (by rfl) (by assumption) (fun _ _ _ h => h) ?_ ?_
 rotate_left
 · intro w0 hSw; (try dsimp only at hSw); go_simp; first | done | with_reducible rfl
 try simp only [Act.put, qa, qb, qc]
 refine tk 3 (v := ?_) rfl (by kernel_rfl) (by rfl) (by assumption) (fun _ _ _ h => h) ?_ ?_
 rotate_left
 · intro w0 hSw; (try dsimp only at hSw); go_simp; first | done | with_reducible rfl
 try simp only [Act.put, qa, qb, qc]
 refine tk 4 (v := ?_) rfl (by kernel_rfl) (by rfl) (by assumption) (fun _ _ _ h => h) ?_ ?_
 rotate_left
 · intro w0 hSw; (try dsimp only at hSw); go_simp; first | done | with_reducible rfl
 try simp only [Act.put, qa, qb, qc]
 refine wpAnyH_ready (rs := [5, 7]) (by kernel_rfl) (by simp) ?_
 refine AllReadyH.cons (o := ?o5p) ?hi5p ?step5p (AllReadyH.cons (o := ?o7p) ?hi7p ?step7p AllReadyH.nil)
 case hi5p => (simp only [List.getElem?_toArray, List.getElem?_cons_succ, List.getElem?_cons_zero]; rfl)
 case hi7p => (simp only [List.getElem?_toArray, List.getElem?_cons_succ, List.getElem?_cons_zero]; rfl)
 case step5p =>
  intro K hK
  refine step_make60 rfl _ _ rfl rfl rfl ?_
  intro w2 hg2 hb2
  refine hK.out _ _ (nxS_step hHeld hb2) (fun hH2 => ?_)
  clear hK K
  try simp only [Act.put, qa, qb, qc]
  refine tk 6 (v := ?_) rfl (by kernel_rfl) (by rfl) (by assumption) (fun _ _ _ h => h) ?_ ?_
  rotate_left
  · intro w0 hSw; (try dsimp only at hSw); go_simp; first | done | with_reducible rfl
  try simp only [Act.put, qa, qb, qc]
  refine rdy 7 (by kernel_rfl) rfl (fun K hK => ?_)
  go_simp
  refine hK.out _ _ (nxS_step hH2 (grew (Below.refl _ _) _)) (fun hHeld => ?_)
  clear hK K
  try simp only [Act.put, qa, qb, qc]
  refine rdy 8 (by kernel_rfl) rfl (fun K hK => ?_)
  go_simp
  refine hK.out _ _ (nxS_step hH2 (grew (Below.refl _ _) _)) (fun hHeld => ?_)
  clear hK K
  try simp only [Act.put, qa, qb, qc]
  refine wpAnyH_done (by kernel_rfl) ?_ _
  have hM := made_gb (X := w1) (p := p) (g := w1.heap.size) (Nat.le_refl _) hH2.1 hg2
  clear hHeld hH2 hg2 hb2
  generalize w2.alloc (boxU p (.slice (some ⟨w1.heap.size, 0, none⟩) 60 60)) = V at hM ⊢
  generalize w2.heap.size = b at hM ⊢
  generalize w1.heap.size = g at hM ⊢
  have HXV : Aside _ := heap_below HX1.out hM.below (heap_lt HX1.out)
  have HBV : Aside (Below w.heap.size w V) := HB1.out.trans (hM.below.mono HB1.out.size)
  have HM : Aside (Made w1 V b g p) := hM
  have hrow := HM.out.row
  rw [HZL.out] at hrow
  have hsrc : ∀ j v, cs[j]? = some v → V.cell? ((⟨ab, off, none⟩ : Addr).add j) = some v := fun j v hj => by
   rw [Lib.add_plain]
   rw [← hcs.out] at hj
   exact rows_flat En.five es off (H.out V HBV.out) j v hj
  have c5 := fun i => Joins.cell_of_block HM.out.box i
  have c0 := fun i => Joins.cell_of_block HXV.out i
  clear hM
  go_wp2_with ((with_reducible show wpList _ _ _ (Oper.mk (some 26) _ _ _ _ _ :: _) _ _); refine wpList_copyO rfl _ _ 42 42 rfl 27 5 Tryz.underlying42 sizeE ⟨ab, off, none⟩ 60 60 c g rfl rfl ZL 27 hrow cs hlen hlen2 hsrc hone ?_)
  intro w5 hg5 ho5 hB5
  have HB5 := hB5 _ _ HM.out.below HM.out.baseg
  have HU : Aside (UBox w1 w5 b g ⟨p, es⟩) := ⟨(ho5.out b HM.out.far).trans HM.out.box, by rw [List.append_nil, hcs.out]; exact hg5.out, HL.out, HM.out.far, HM.out.base, HM.out.baseg, HB5⟩
  have HY5 : Aside _ := heap_below HY1.out HB5 (heap_lt HY1.out)
  have z1 := fun i => Joins.cell_of_block HY5.out i
  have hcall := HTK.out _ _ _ _ HU.out
  clear hsrc c5 c0 hrow hg5 ho5 hB5 HB5 HBV HXV HM HX1 HY1 hone hlen hlen2
  go_wp2_with fail
  refine hcall.mono ?_
  rintro e w6 ⟨rfl, hU6⟩
  have HU6 : Aside (UBox w1 w6 b g U) := hU6
  have HZ6 : Aside _ := heap_below HZ1.out hU6.below (heap_lt HZ1.out)
  have HB6 : Aside (Below w.heap.size w w6) := HB1.out.trans (hU6.below.mono HB1.out.size)
  have z2 := fun i => Joins.cell_of_block HZ6.out i
  have f2 := fun i => Joins.unfrozen_of_block HZ6.out i
  have z5 := fun i => Joins.cell_of_block HU6.out.box i
  clear hU6 hcall HU HY5 z1 HTK
  rcases HC.out with ⟨h0, h1⟩ | ⟨h0, h1⟩
  · have hzb : (d != 0) = false := by rw [h0]; rfl
   clear HC h0
   subst h1
   go_wp2
   have hlt6 := heap_lt HZ1.out
   have hgb := HU6.out.baseg
   have hne : g ≠ w.heap.size + 1 + 1 := by omega
   have hkeep := unit_keepG (unit_keepG HU6.out.unit (g := w.heap.size + 1 + 1) hne 0 (.int .i64 U.p)) (g := w.heap.size + 1 + 1) hne 1 (.slice (some ⟨g, 0, none⟩) 60 60)
   exact ret_unit (p := 4) (q := 5) Tryz.results128 rfl rfl rfl (unit_stored HZ6.out _ _) ⟨_, rfl, hkeep, below_two2 HB6.out (by omega) _ _, fun q hq => own_of hq (by omega)⟩
  · have hzb : (d != 0) = true := by rw [bne_iff_ne]; exact h0
   clear HC h0
   subst h1
   clear z5
   go_wp2
   exact ret_unit (p := 4) (q := 5) Tryz.results128 rfl rfl rfl (unit_stored HZ6.out _ _) ⟨_, rfl, unit_nil _, below_two2 HB6.out (by omega) _ _, fun q hq => by cases hq⟩
 case step7p =>
  intro K hK
  go_simp
  refine hK.out _ _ (nxS_step hHeld (grew (Below.refl _ _) _)) (fun hHeld => ?_)
  clear hK K
  try simp only [Act.put, qa, qb, qc]
  refine rdy 5 (by kernel_rfl) rfl (fun K hK => ?_)
  refine step_make60 rfl _ _ rfl rfl rfl ?_
  intro w2 hg2 hb2
  refine hK.out _ _ (nxS_step hHeld hb2) (fun hH2 => ?_)
  clear hK K
  try simp only [Act.put, qa, qb, qc]
  refine tk 6 (v := ?_) rfl (by kernel_rfl) (by rfl) (by assumption) (fun _ _ _ h => h) ?_ ?_
  rotate_left
  · intro w0 hSw; (try dsimp only at hSw); go_simp; first | done | with_reducible rfl
  try simp only [Act.put, qa, qb, qc]
  have hx1 : (w1.alloc (boxU 0 (.slice none 0 0))).drew.heap[w1.heap.size]? = some (boxU 0 (.slice none 0 0)) := heap_new w1 _
  have hs1 : (w1.alloc (boxU 0 (.slice none 0 0))).drew.heap.size = w1.heap.size + 1 := World.size_alloc _ _
  have hM := made_bg (X := w1) (p := p) hx1 (Nat.le_refl _) (grew (Below.refl _ _) _).drew hs1 hg2 hb2
  have hx2 := heap_below hx1 hb2 (heap_lt hx1)
  have c7 := fun i => Joins.cell_of_block hx2 i
  have f7 := fun i => Joins.unfrozen_of_block hx2 i
  refine rdy 8 (by kernel_rfl) rfl (fun K hK => ?_)
  go_simp
  refine hK.out _ _ (nxS_two hH2 (Nat.le_refl _) (by omega) _ _) (fun hHeld => ?_)
  clear hK K
  try simp only [Act.put, qa, qb, qc]
  refine wpAnyH_done (by kernel_rfl) ?_ _
  clear hHeld hH2 hg2 hb2 hx1 hs1 hx2 c7 f7
  generalize (w2.setCell ⟨w1.heap.size, 0, none⟩ (.int .i64 p)).setCell ⟨w1.heap.size, 1, none⟩ (.slice (some ⟨w1.heap.size + 1, 0, none⟩) 60 60) = V at hM ⊢
  generalize w1.heap.size + 1 = g at hM ⊢
  generalize w1.heap.size = b at hM ⊢
  have HXV : Aside _ := heap_below HX1.out hM.below (heap_lt HX1.out)
  have HBV : Aside (Below w.heap.size w V) := HB1.out.trans (hM.below.mono HB1.out.size)
  have HM : Aside (Made w1 V b g p) := hM
  have hrow := HM.out.row
  rw [HZL.out] at hrow
  have hsrc : ∀ j v, cs[j]? = some v → V.cell? ((⟨ab, off, none⟩ : Addr).add j) = some v := fun j v hj => by
   rw [Lib.add_plain]
   rw [← hcs.out] at hj
   exact rows_flat En.five es off (H.out V HBV.out) j v hj
  have c5 := fun i => Joins.cell_of_block HM.out.box i
  have c0 := fun i => Joins.cell_of_block HXV.out i
  clear hM
  go_wp2_with ((with_reducible show wpList _ _ _ (Oper.mk (some 26) _ _ _ _ _ :: _) _ _); refine wpList_copyO rfl _ _ 42 42 rfl 27 5 Tryz.underlying42 sizeE ⟨ab, off, none⟩ 60 60 c g rfl rfl ZL 27 hrow cs hlen hlen2 hsrc hone ?_)
  intro w5 hg5 ho5 hB5
  have HB5 := hB5 _ _ HM.out.below HM.out.baseg
  have HU : Aside (UBox w1 w5 b g ⟨p, es⟩) := ⟨(ho5.out b HM.out.far).trans HM.out.box, by rw [List.append_nil, hcs.out]; exact hg5.out, HL.out, HM.out.far, HM.out.base, HM.out.baseg, HB5⟩
  have HY5 : Aside _ := heap_below HY1.out HB5 (heap_lt HY1.out)
  have z1 := fun i => Joins.cell_of_block HY5.out i
  have hcall := HTK.out _ _ _ _ HU.out
  clear hsrc c5 c0 hrow hg5 ho5 hB5 HB5 HBV HXV HM HX1 HY1 hone hlen hlen2
  go_wp2_with fail
  refine hcall.mono ?_
  rintro e w6 ⟨rfl, hU6⟩
  have HU6 : Aside (UBox w1 w6 b g U) := hU6
  have HZ6 : Aside _ := heap_below HZ1.out hU6.below (heap_lt HZ1.out)
  have HB6 : Aside (Below w.heap.size w w6) := HB1.out.trans (hU6.below.mono HB1.out.size)
  have z2 := fun i => Joins.cell_of_block HZ6.out i
  have f2 := fun i => Joins.unfrozen_of_block HZ6.out i
  have z5 := fun i => Joins.cell_of_block HU6.out.box i
  clear hU6 hcall HU HY5 z1 HTK
  rcases HC.out with ⟨h0, h1⟩ | ⟨h0, h1⟩
  · have hzb : (d != 0) = false := by rw [h0]; rfl
   clear HC h0
   subst h1
   go_wp2
   have hlt6 := heap_lt HZ1.out
   have hgb := HU6.out.baseg
   have hne : g ≠ w.heap.size + 1 + 1 := by omega
   have hkeep := unit_keepG (unit_keepG HU6.out.unit (g := w.heap.size + 1 + 1) hne 0 (.int .i64 U.p)) (g := w.heap.size + 1 + 1) hne 1 (.slice (some ⟨g, 0, none⟩) 60 60)
   exact ret_unit (p := 4) (q := 5) Tryz.results128 rfl rfl rfl (unit_stored HZ6.out _ _) ⟨_, rfl, hkeep, below_two2 HB6.out (by omega) _ _, fun q hq => own_of hq (by omega)⟩
  · have hzb : (d != 0) = true := by rw [bne_iff_ne]; exact h0
   clear HC h0
   subst h1
   clear z5
   go_wp2
   exact ret_unit (p := 4) (q := 5) Tryz.results128 rfl rfl rfl (unit_stored HZ6.out _ _) ⟨_, rfl, unit_nil _, below_two2 HB6.out (by omega) _ _, fun q hq => by cases hq⟩
theorem unitNext_any (v : Value) (u : Un) (r : Rc) (w : World) (h : UnitAt w v u) : AnsO 128 #[.agg #[.int .i64 u.p, v], r.val] w (unext u r) := by
 obtain ⟨p, es⟩ := u
 obtain ⟨hE, hR⟩ := h
 obtain ⟨a, n, c, rfl, hnc⟩ := hR
 have hE' : EntSl w (.slice a n c) es := hE
 have hln := SlOf.len (cs := En.cells) (k := 5) hE'
 show AnsO 128 #[.agg #[.int .i64 p, .slice a n c], r.val] w (unext ⟨p, es⟩ r)
 by_cases h1 : Un.ck ⟨p, es⟩ = 0
 · have hl := (Un.ck_zero.1 h1).2.1
  change es.length = 60 at hl
  obtain rfl : n = 60 := by omega
  exact unext_good a c p es r w hE' hl h1
 · rw [unext, if_pos h1]
  exact unext_badU a n c p es r w hE' (Un.ck ⟨p, es⟩) rfl (by rw [bne_iff_ne]; exact h1)
def RpAt (X wr : World) (b g : Nat) (rs : List Rc) (k : Nat) : Prop :=
 ∃ u, UBox X wr b g u ∧ u.ck = 0 ∧ Hid (ufold unew rs = ufold u (rs.drop k))
theorem unitReplay_few (a : Option Addr) (n c : Nat) (rs : List Rc) (w : World) (h : RecSl w (.slice a n c) rs) (hn : (n : Int) ≤ 160) :
  AnsO 144 #[.slice a n c] w (ufold unew rs) := by
 have H : Aside (RecSl w (.slice a n c) rs) := h
 have HL : Aside (rs.length = n) := h.len
 have HB0 : Aside (Below w.heap.size w (w.alloc (boxU 0 (.slice none 0 0)))) := grew (Below.refl _ _) _
 have HX0 : Aside ((w.alloc (boxU 0 (.slice none 0 0))).heap[w.heap.size]? = some (boxU 0 (.slice none 0 0))) := heap_new _ _
 clear h
 go_enter Tryz.func144, Tryz.ntmps144
 go_upto_region 3 with fail
 generalize w.alloc (boxU 0 (.slice none 0 0)) = X at *
 go_wp2_with fail
 refine (unitNew_own _).mono ?_
 rintro e w1 ⟨g, rfl, hgX, hg, hb1⟩
 have hgl := heap_lt hg
 have HS : Aside (RpAt X (w1.alloc (boxU 1 (.slice (some ⟨g, 0, none⟩) 60 60))) w1.heap.size g rs 0) := ⟨unew, ⟨heap_new _ _, heap_old hg _, List.length_replicate .., by omega, hb1.size, hgX, grew hb1 _⟩, unew_ck, rfl⟩
 clear hb1 hg hgl hgX
 go_wp2
 generalize w1.heap.size = b at *
 go_loopw [15] (fun i wr => ∃ k : Nat, k ≤ n ∧ i = .int .i64 k ∧ RpAt X wr b g rs k) (fun i _ => n - (intOf i).toNat)
 case atStart => exact ⟨0, Nat.zero_le _, rfl, HS.out⟩
 case round =>
  clear HS
  obtain ⟨k, hk, rfl, u, hU, hck, hst⟩ := hrel
  have HU : Aside (UBox X wr b g u) := hU
  have HB : Aside (Below w.heap.size w wr) := HB0.out.trans (hU.below.mono HB0.out.size)
  have HR : Aside _ := heap_below HX0.out hU.below (heap_lt HX0.out)
  clear hU
  by_cases hlt : k < n
  · obtain ⟨x, hx⟩ : ∃ x, rs[k]? = some x := ⟨rs[k]'(by have := HL.out; omega), List.getElem?_eq_getElem _⟩
   obtain ⟨bb, off, rfl, hE0⟩ := H.out.at (by omega)
   have hE := hE0.later HB.out
   have q0 : wr.cell? ⟨bb, off + k * 8, none⟩ = some (.int .i64 x.k) := hE k x hx 0 _ rfl
   have q1 : wr.cell? ⟨bb, off + k * 8 + 1, none⟩ = some (.int .i64 x.a) := hE k x hx 1 _ rfl
   have q2 : wr.cell? ⟨bb, off + k * 8 + 2, none⟩ = some (.int .i64 x.p) := hE k x hx 2 _ rfl
   have q3 : wr.cell? ⟨bb, off + k * 8 + 3, none⟩ = some (.int .i64 x.e.k) := hE k x hx 3 _ rfl
   have q4 : wr.cell? ⟨bb, off + k * 8 + 4, none⟩ = some (.int .i64 x.e.j) := hE k x hx 4 _ rfl
   have q5 : wr.cell? ⟨bb, off + k * 8 + 5, none⟩ = some (.int .i64 x.e.v) := hE k x hx 5 _ rfl
   have q6 : wr.cell? ⟨bb, off + k * 8 + 6, none⟩ = some (.int .i64 x.e.t) := hE k x hx 6 _ rfl
   have q7 : wr.cell? ⟨bb, off + k * 8 + 7, none⟩ = some (.int .i64 x.e.c) := hE k x hx 7 _ rfl
   have hd : Hid (ufold unew rs = if (unext u x).2 ≠ 0 then (Un.zero, (unext u x).2) else ufold (unext u x).1 (rs.drop (k + 1))) := by
    rw [Hid, hst.out, drop_rc hx, ufold]
   have hnx := utake_any X (wr.alloc (boxRc x)) b g u x (HU.out.later (grew (Below.refl _ _) _))
   obtain ⟨⟨u2, f⟩, hun⟩ : ∃ q, utake u x = q := ⟨_, rfl⟩
   have hcase : (f = 0 ∧ u2.ck = 0 ∧ ufold unew rs = ufold u2 (rs.drop (k + 1))) ∨ (f ≠ 0 ∧ ufold unew rs = (Un.zero, f)) := by
    have he := utake_err u x hck
    rw [hun] at he
    change f = _ at he
    by_cases h0 : f = 0
    · have ho := utake_ok (r := x) hck (by rw [hun]; exact h0)
     rw [hun] at ho
     have h2 : (unext u x).2 = 0 := by rw [← he]; exact h0
     have h3 := unext_ck h2
     rw [← ho] at h3
     refine Or.inl ⟨h0, h3, ?_⟩
     rw [hd.out, if_neg (by simpa using h2), ← ho]
    · refine Or.inr ⟨h0, ?_⟩
     rw [hd.out, ← he, if_pos h0]
   rw [hun] at hnx
   change Calls _ _ _ _ fun e w' => e = .returned (.int .i64 f) ∧ UBox X w' b g u2 at hnx
   have HC : Hid _ := hcase
   clear hE hE0 hst hx hck hd hun hcase HU HB HR
   go_wp2_with fail
   refine hnx.mono ?_
   rintro e w2 ⟨rfl, hU2⟩
   have HU2 : Aside (UBox X w2 b g u2) := hU2
   have HB2 : Aside (Below w.heap.size w w2) := HB0.out.trans (hU2.below.mono HB0.out.size)
   have HR2 : Aside _ := heap_below HX0.out hU2.below (heap_lt HX0.out)
   have z1 := fun i => Joins.cell_of_block HR2.out i
   have f1 := fun i => Joins.unfrozen_of_block HR2.out i
   clear hU2 hnx q0 q1 q2 q3 q4 q5 q6 q7
   rcases HC.out with ⟨h0, h1, h2⟩ | ⟨h0, h1⟩
   · have hfb : (f != 0) = false := by rw [h0]; rfl
    have HE : Aside (RpAt X w2 b g rs (k + 1)) := ⟨u2, HU2.out, h1, h2⟩
    clear HC h0 h1 h2 z1 f1
    go_wp2
    go_roundw
    case rel => exact ⟨k + 1, by omega, by go_num, HE.out⟩
    case measure => simp [intOf]; omega
   · have hfb : (f != 0) = true := by rw [bne_iff_ne]; exact h0
    have HN : Hid (ufold unew rs = (Un.zero, f)) := h1
    clear HC h0 h1
    go_wp2
    exact ret_unit (p := 2) (q := 3) Tryz.results144 rfl rfl rfl (unit_stored HR2.out _ _) ⟨.slice none 0 0, by rw [HN.out]; rfl, by rw [HN.out]; exact unit_nil _, below_two2 HB2.out (Nat.le_refl _) _ _, fun q hq => by cases hq⟩
  · obtain rfl : k = n := by omega
   have HN : Hid (ufold unew rs = (u, 0)) := by
    rw [Hid, hst.out, List.drop_eq_nil_of_le (by have := HL.out; omega)]; rfl
   have z0 := fun i => Joins.cell_of_block HU.out.box i
   have z1 := fun i => Joins.cell_of_block HR.out i
   have f1 := fun i => Joins.unfrozen_of_block HR.out i
   clear hst hck
   go_wp2
   have hlt0 := heap_lt HX0.out
   have hgb := HU.out.baseg
   have hne : g ≠ w.heap.size := by omega
   have hkeep := unit_keepG (unit_keepG HU.out.unit (g := w.heap.size) hne 0 (.int .i64 u.p)) (g := w.heap.size) hne 1 (.slice (some ⟨g, 0, none⟩) 60 60)
   exact ret_unit (p := 2) (q := 3) Tryz.results144 rfl rfl rfl (unit_stored HR.out _ _) ⟨.slice (some ⟨g, 0, none⟩) 60 60, by rw [HN.out]; rfl, by rw [HN.out]; exact hkeep, below_two2 HB.out (Nat.le_refl _) _ _, fun q hq => own_of hq (by omega)⟩
theorem unitReplay_many (a : Option Addr) (n c : Nat) (w : World) (hn : 160 < (n : Int)) :
  AnsO 144 #[.slice a n c] w (Un.zero, 2) := by
 go_enter Tryz.func144, Tryz.ntmps144
 go_wp2
 exact ret_unit (p := 2) (q := 3) Tryz.results144 rfl rfl rfl (heap_new _ _) ⟨_, rfl, unit_nil _, grew (Below.refl _ _) _, fun q hq => by cases hq⟩
theorem unitReplay_any (v : Value) (rs : List Rc) (w : World) (h : RecSl w v rs) : AnsO 144 #[v] w (unitOf rs) := by
 have h' := h
 obtain ⟨a, c, rfl, _⟩ := h
 by_cases hn : 160 < rs.length
 · rw [unitOf, if_pos hn]
  exact unitReplay_many a _ c w (by omega)
 · rw [unitOf, if_neg hn]
  exact unitReplay_few a _ c rs w h' (by omega)
end Go.Proofs.YtmoaobfmopimlafGreatDoor
