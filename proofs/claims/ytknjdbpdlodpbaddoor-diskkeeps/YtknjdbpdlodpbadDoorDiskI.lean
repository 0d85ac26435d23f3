/- What DiskKeeps writes: the walk of its closure, given package disk's contracts. -/
import Derived.Test.YtknjdbpdlodpbadDoorDiskG
import Derived.Deep.AppendLies
import Derived.Deep.RegionHeld3
namespace Go.Proofs.YtknjdbpdlodpbadDoor
open Go.RowKit

theorem put_ways {S T : List UInt8} (c : Rc) (h0 : ckDisk S T = 0) : (dput S T c).2 ≠ 0 ∨ (c.chk = 0 ∧ dput S T c = ((S, T ++ (c.txt ++ [10])), 0) ∧ ckDisk S (T ++ (c.txt ++ [10])) = 0) := by
  obtain ⟨h1, h2⟩ := ckDisk_zero.1 h0
  unfold dput
  rw [if_neg (by rw [h0]; simp)]
  unfold putOn
  by_cases hc : c.chk = 0
  · rw [if_neg (by simpa using hc)]
    by_cases hl : 30000 < S.length + T.length + c.txt.length + 1
    · rw [if_pos hl]; exact Or.inl (by decide)
    · rw [if_neg hl]
      exact Or.inr ⟨hc, rfl, ckDisk_zero.2 ⟨by simp; omega, h2⟩⟩
  · rw [if_pos hc]; exact Or.inl hc

theorem rtxt_snoc (out : List Rc) (c : Rc) : rtxt (out ++ [c]) = rtxt out ++ (c.txt ++ [10]) := by simp [rtxt]

/-- All blocks but one stand. -/
structure Rest (W W' : World) (D : Nat) : Prop where
  size : W.heap.size ≤ W'.heap.size
  block : ∀ i, i < W.heap.size → i ≠ D → W'.heap[i]? = W.heap[i]?

theorem Rest.refl (W : World) (D : Nat) : Rest W W D := ⟨Nat.le_refl _, fun _ _ _ => rfl⟩
theorem Rest.later {W W' W'' : World} {D : Nat} (h : Rest W W' D) (hb : Below W'.heap.size W' W'') : Rest W W'' D :=
  ⟨Nat.le_trans h.size hb.size, fun i hi hn => (hb.block i (Nat.lt_of_lt_of_le hi h.size)).trans (h.block i hi hn)⟩
theorem Rest.grown {W W' W'' : World} {D : Nat} {row : Option Nat} (h : Rest W W' D) (hg : W'.grownBy W'' row) (hr : ∀ g, row = some g → W.heap.size ≤ g) : Rest W W'' D :=
  ⟨Nat.le_trans h.size hg.size, fun i hi hn => (hg.block i (Nat.lt_of_lt_of_le hi h.size) (fun e => by have := hr i e.symm; omega)).trans (h.block i hi hn)⟩
theorem Rest.two {W W' : World} {D : Nat} (h : Rest W W' D) (u1 u2 : Value) : Rest W ((W'.setCell ⟨D, 0, none⟩ u1).setCell ⟨D, 1, none⟩ u2) D :=
  ⟨by simpa using h.size, fun i hi hn => by
    rw [Below.heap_setCell _ _ _ _ (by show i ≠ D; exact hn), Below.heap_setCell _ _ _ _ (by show i ≠ D; exact hn)]; exact h.block i hi hn⟩

theorem SlOf.same {α : Type} {cs : α → List Value} {k : Nat} {w w' : World} {a : Option Addr} {n c : Nat} {xs : List α} (h : SlOf cs k w (.slice a n c) xs) (hs : n ≠ 0 → ∀ b, (Value.slice a n c).ownBlock = some b → w'.heap[b]? = w.heap[b]?) : SlOf cs k w' (.slice a n c) xs := by
  obtain ⟨a', c', e, hc⟩ := h
  injection e with e1 e2 e3
  subst e1 e2 e3
  refine ⟨a, c, rfl, ?_⟩
  by_cases h0 : xs.length = 0
  · exact Or.inl h0
  · rcases hc with hc | ⟨b, off, rfl, hE⟩
    · exact absurd hc h0
    · refine Or.inr ⟨b, off, rfl, fun j x hj i v hi => ?_⟩
      rw [World.cell?_of_block (hs h0 b rfl)]
      exact hE j x hj i v hi

theorem SlOf.block {α : Type} {cs : α → List Value} {k : Nat} (hk : ∀ x, (cs x).length = k) (h0 : 0 < k) {w : World} {a : Option Addr} {n c : Nat} {xs : List α} (h : SlOf cs k w (.slice a n c) xs) (hn : n ≠ 0) {b : Nat} (hb : (Value.slice a n c).ownBlock = some b) : b < w.heap.size ∧ ∃ (o : Nat) (u : Value), w.cell? ⟨b, o, none⟩ = some u ∧ ∃ (x : α) (i : Nat), (cs x)[i]? = some u := by
  obtain ⟨a', c', e, hc⟩ := h
  injection e with e1 e2 e3
  subst e1 e2 e3
  rcases hc with hc | ⟨b', off, rfl, hE⟩
  · exact absurd hc hn
  · obtain rfl : b' = b := Option.some.inj hb
    obtain ⟨x, hx⟩ : ∃ x, xs[0]? = some x := ⟨xs[0]'(by omega), List.getElem?_eq_getElem _⟩
    obtain ⟨u, hu⟩ : ∃ u, (cs x)[0]? = some u := ⟨(cs x)[0]'(by rw [hk]; exact h0), List.getElem?_eq_getElem _⟩
    have hcell := hE 0 x hx 0 u hu
    exact ⟨World.block_lt_of_cell? _ _ hcell, _, u, hcell, x, 0, hu⟩

/-- A row of numbers is not in the disk's box: it stands where all but that stands. -/
theorem SlOf.rest {α : Type} {cs : α → List Value} {k : Nat} (hk : ∀ x, (cs x).length = k) (h0 : 0 < k) (hcs : ∀ (x : α) (i : Nat) (v : Value), (cs x)[i]? = some v → Value.isNum v = true) {W W' : World} {a : Option Addr} {n c : Nat} {xs : List α} (h : SlOf cs k W (.slice a n c) xs) {D : Nat} {a1 a2 : Option Addr} {n1 n2 c1 c2 : Nat} (hD : W.heap[D]? = some (boxD (.slice a1 n1 c1) (.slice a2 n2 c2))) (hr : Rest W W' D) : SlOf cs k W' (.slice a n c) xs :=
  h.same fun hn b hb => by
    obtain ⟨hlt, o, u, hcell, x, i, hu⟩ := h.block hk h0 hn hb
    refine hr.block b hlt fun e => ?_
    rw [e, Joins.cell_of_block hD] at hcell
    have h1 := hcs x i u hu
    have h2 := slices_num u (Array.mem_toList_iff.2 (Array.mem_of_getElem? hcell))
    rw [h1] at h2; cases h2

/-- Where the closure's round stands. -/
structure Wst (w W wr : World) (D : Nat) (l : Value) (m : Nat) (out : List Rc) (S T : List UInt8) (b1 b2 : Option Addr) (m1 m2 q1 q2 : Nat) : Prop where
  row : wr.ownsRow W.heap.size 30 8 l m (out.flatMap Rc.cells)
  len : out.length = m
  good : ∀ c, c ∈ out → c.chk = 0
  box : BoxR w wr D b1 b2 m1 m2 q1 q2 (S, T ++ rtxt out)
  ck : ckDisk S (T ++ rtxt out) = 0
  rest : Rest W wr D
  far1 : ∀ g, l.ownBlock = some g → (Value.slice b1 m1 q1).ownBlock ≠ some g
  far2 : ∀ g, l.ownBlock = some g → (Value.slice b2 m2 q2).ownBlock ≠ some g
  in1 : ∀ g, (Value.slice b1 m1 q1).ownBlock = some g → g < wr.heap.size
  in2 : ∀ g, (Value.slice b2 m2 q2).ownBlock = some g → g < wr.heap.size
  dlt : D < W.heap.size

theorem Wst.later {w W wr wr' : World} {D : Nat} {l : Value} {m : Nat} {out : List Rc} {S T : List UInt8} {b1 b2 : Option Addr} {m1 m2 q1 q2 : Nat} (h : Wst w W wr D l m out S T b1 b2 m1 m2 q1 q2) (hb : Below wr.heap.size wr wr') : Wst w W wr' D l m out S T b1 b2 m1 m2 q1 q2 :=
  ⟨ownsRow_later h.row hb, h.len, h.good, h.box.later hb, h.ck, h.rest.later hb, h.far1, h.far2, fun g hg => Nat.lt_of_lt_of_le (h.in1 g hg) hb.size, fun g hg => Nat.lt_of_lt_of_le (h.in2 g hg) hb.size, h.dlt⟩

/-- One more is written: behind the append and the store. -/
theorem Wst.next {w W X X' : World} {D : Nat} {l : Value} {m : Nat} {out : List Rc} {S T : List UInt8} {b1 b2 : Option Addr} {m1 m2 q1 q2 : Nat} (hL : Laid w) (h : Wst w W X D l m out S T b1 b2 m1 m2 q1 q2) {c : Rc} (hc : c.chk = 0) (hck : ckDisk S (T ++ rtxt out ++ (c.txt ++ [10])) = 0)
    {e1 e2 : Option Addr} {j1 j2 s1 s2 : Nat} (hd : DiskR X (.slice e1 j1 s1) (.slice e2 j2 s2) (S, T ++ rtxt out ++ (c.txt ++ [10]))) (hf1 : ∀ g, l.ownBlock = some g → (Value.slice e1 j1 s1).ownBlock ≠ some g) (hf2 : ∀ g, l.ownBlock = some g → (Value.slice e2 j2 s2).ownBlock ≠ some g) (hi1 : ∀ g, (Value.slice e1 j1 s1).ownBlock = some g → g < X.heap.size) (hi2 : ∀ g, (Value.slice e2 j2 s2).ownBlock = some g → g < X.heap.size)
    {g cap : Nat} (hown : X'.ownsRow W.heap.size 30 8 (.slice (some ⟨g, 0, none⟩) (m + 1) cap) (m + 1) (out.flatMap Rc.cells ++ c.cells)) (hgr : X.grownBy X' l.ownBlock) (hg : l.ownBlock = some g ∨ g = X.heap.size) :
    Wst w W ((X'.setCell ⟨D, 0, none⟩ (.slice e1 j1 s1)).setCell ⟨D, 1, none⟩ (.slice e2 j2 s2)) D (.slice (some ⟨g, 0, none⟩) (m + 1) cap) (m + 1) (out ++ [c]) S T e1 e2 j1 j2 s1 s2 := by
  have hlo : ∀ g', l.ownBlock = some g' → W.heap.size ≤ g' ∧ g' < X.heap.size := fun g' hg' => h.row.lt g' hg'
  have hgW : W.heap.size ≤ g := by
    rcases hg with hg | hg
    · exact (hlo g hg).1
    · rw [hg]; exact h.rest.size
  have hDX : X'.heap[D]? = X.heap[D]? := hgr.block D (heap_lt h.box.box) (fun e => by have := (hlo D e.symm).1; have := h.dlt; omega)
  have keep : ∀ (a : Option Addr) (n cc : Nat) (xs : List UInt8), ByteSl X (.slice a n cc) xs → (∀ g, l.ownBlock = some g → (Value.slice a n cc).ownBlock ≠ some g) → ByteSl X' (.slice a n cc) xs := fun a n cc xs hs hf => hs.same fun hn b hb => hgr.block b (hs.block bt_one (by decide) hn hb).1 (fun e => hf b e.symm hb)
  have hbelow : Below w.heap.size w X' := h.box.below.grown hgr h.box.below.size (fun z hz => by have := (hlo z hz).1; have := h.dlt; have := h.box.base; omega)
  have B' : BoxR w X' D b1 b2 m1 m2 q1 q2 (S, T ++ rtxt out) := ⟨hDX.trans h.box.box, ⟨keep _ _ _ _ h.box.disk.safe h.far1, keep _ _ _ _ h.box.disk.wait h.far2, h.box.disk.room1, h.box.disk.room2⟩, hbelow, h.box.base, hL.later hbelow⟩
  have D' : DiskR X' (.slice e1 j1 s1) (.slice e2 j2 s2) (S, T ++ rtxt (out ++ [c])) := by
    rw [rtxt_snoc, ← List.append_assoc]
    exact ⟨keep _ _ _ _ hd.safe hf1, keep _ _ _ _ hd.wait hf2, hd.room1, hd.room2⟩
  have hgD : g ≠ D := by have := h.dlt; omega
  refine ⟨?_, by rw [List.length_append, h.len]; rfl, fun z hz => ?_, B'.store hL D', ?_, (h.rest.grown hgr fun g' hg' => (hlo g' hg').1).two _ _, ?_, ?_, ?_, ?_, h.dlt⟩
  · have e : (out ++ [c]).flatMap Rc.cells = out.flatMap Rc.cells ++ c.cells := by simp
    rw [e]
    refine ⟨hown.1, ?_⟩
    rcases hown.2 with ⟨h1, _⟩ | ⟨g', cap', cur, h1, h2, h3, h4⟩
    · cases h1
    · refine Or.inr ⟨g', cap', cur, h1, h2, ?_, h4⟩
      injection h1 with h1
      injection h1 with h1
      injection h1 with h1
      subst h1
      rw [Below.heap_setCell _ _ _ _ (by show g ≠ D; exact hgD), Below.heap_setCell _ _ _ _ (by show g ≠ D; exact hgD)]
      exact h3
  · rcases List.mem_append.1 hz with hz | hz
    · exact h.good z hz
    · obtain rfl : z = c := by simpa using hz
      exact hc
  · rw [rtxt_snoc, ← List.append_assoc]; exact hck
  · intro g' hg'
    obtain rfl : g = g' := Option.some.inj hg'
    rcases hg with hg | hg
    · exact hf1 g hg
    · intro e
      have := hi1 g e
      omega
  · intro g' hg'
    obtain rfl : g = g' := Option.some.inj hg'
    rcases hg with hg | hg
    · exact hf2 g hg
    · intro e
      have := hi2 g e
      omega
  · intro g' hg'
    have := hi1 g' hg'
    have := hgr.size
    simp
    omega
  · intro g' hg'
    have := hi2 g' hg'
    have := hgr.size
    simp
    omega

/-- What the round's last region reads. -/
abbrev S7 (W : World) (b g : Nat) (v1 v2 : Value) (r : Rc) : Prop := W.cell? ⟨b, 0, none⟩ = some v1 ∧ W.cell? ⟨b, 1, none⟩ = some v2 ∧ W.cell? ⟨g, 0, none⟩ = some (.int .i64 r.k) ∧ W.cell? ⟨g, 1, none⟩ = some (.int .i64 r.a) ∧ W.cell? ⟨g, 2, none⟩ = some (.int .i64 r.p) ∧ W.cell? ⟨g, 3, none⟩ = some (.int .i64 r.e.k) ∧ W.cell? ⟨g, 4, none⟩ = some (.int .i64 r.e.j) ∧ W.cell? ⟨g, 5, none⟩ = some (.int .i64 r.e.v) ∧ W.cell? ⟨g, 6, none⟩ = some (.int .i64 r.e.t) ∧ W.cell? ⟨g, 7, none⟩ = some (.int .i64 r.e.c)

theorem s7_of {W : World} {b g : Nat} {v1 v2 : Value} {r : Rc} (hb : W.heap[b]? = some (boxD v1 v2)) (hg : W.heap[g]? = some (boxRc r)) : S7 W b g v1 v2 r :=
  ⟨Joins.cell_of_block hb 0, Joins.cell_of_block hb 1, Joins.cell_of_block hg 0, Joins.cell_of_block hg 1, Joins.cell_of_block hg 2, Joins.cell_of_block hg 3, Joins.cell_of_block hg 4, Joins.cell_of_block hg 5, Joins.cell_of_block hg 6, Joins.cell_of_block hg 7⟩

theorem s7_same {W W' : World} {b g : Nat} {v1 v2 : Value} {r : Rc} (h : S7 W b g v1 v2 r) (hb : W'.heap[b]? = W.heap[b]?) (hg : W'.heap[g]? = W.heap[g]?) : S7 W' b g v1 v2 r := by
  have e1 : ∀ i, W'.cell? ⟨b, i, none⟩ = W.cell? ⟨b, i, none⟩ := fun i => World.cell?_of_block hb
  have e2 : ∀ i, W'.cell? ⟨g, i, none⟩ = W.cell? ⟨g, i, none⟩ := fun i => World.cell?_of_block hg
  unfold S7
  rw [e1, e1, e2, e2, e2, e2, e2, e2, e2, e2]
  exact h

theorem heap_two {W : World} {D i : Nat} (h : i ≠ D) (u1 u2 : Value) : ((W.setCell ⟨D, 0, none⟩ u1).setCell ⟨D, 1, none⟩ u2).heap[i]? = W.heap[i]? := by
  rw [Below.heap_setCell _ _ _ _ (by show i ≠ D; exact h), Below.heap_setCell _ _ _ _ (by show i ≠ D; exact h)]

set_option linter.unusedSimpArgs false in
set_option maxHeartbeats 4000000 in
set_option maxRecDepth 100000 in
theorem write_at (hK : Disks) (w W : World) (hL : Laid w) (D : Nat) (a1 a2 : Option Addr) (n1 n2 c1 c2 : Nat) (S T : List UInt8) (h : BoxR w W D a1 a2 n1 n2 c1 c2 (S, T)) (hc : ckDisk S T = 0) (a : Option Addr) (n c : Nat) (cs : List Rc) (hv : RecSl W (.slice a n c) cs) (hroom : n ≤ c) (hi1 : ∀ g, (Value.slice a1 n1 c1).ownBlock = some g → g < W.heap.size) (hi2 : ∀ g, (Value.slice a2 n2 c2).ownBlock = some g → g < W.heap.size) :
    Calls Tryd.prog 5 #[.slice a n c, .pointer (some ⟨D, 0, none⟩)] W fun e w' => ∃ u m out b1 b2 m1 m2 q1 q2, e = .returned u ∧ m ≤ 20 ∧ Wst w W w' D u m out S T b1 b2 m1 m2 q1 q2 := by
  have HK : Aside Disks := hK
  have HL : Aside (Laid w) := hL
  have HV : Aside (RecSl W (.slice a n c) cs) := hv
  have HBx : Aside _ := h.box
  have HW0 : Aside (Wst w W W D nilB 0 [] S T a1 a2 n1 n2 c1 c2) := ⟨World.ownsRow_nil _ _ _ _, rfl, fun c hc => (by cases hc), by rw [show rtxt [] = [] from rfl, List.append_nil]; exact h, by rw [show rtxt [] = [] from rfl, List.append_nil]; exact hc, Rest.refl _ _, fun g hg => (by cases hg), fun g hg => (by cases hg), hi1, hi2, heap_lt h.box⟩
  obtain ⟨n0, hn0⟩ : ∃ n0 : Nat, min n 20 = n0 := ⟨_, rfl⟩
  have hmin : min (n : Int) 20 = (n0 : Int) := by omega
  have h20 : n0 ≤ 20 := by omega
  have hn0n : n0 ≤ n := by omega
  have hn0c : (n0 : Int) ≤ (c : Int) := by omega
  have hn00 : (0 : Int) ≤ (n0 : Int) := by omega
  have HC : Aside (RecSl W (.slice a n0 c) (cs.take n0)) := hv.upto n0 hn0n
  clear hK hL hv h hc hn0 HV hi1 hi2
  go_enter Tryd.func5, Tryd.ntmps5
  go_wp2
  go_loopw [4, 15] (fun l i wr => ∃ (k m : Nat) (out : List Rc) (b1 b2 : Option Addr) (m1 m2 q1 q2 : Nat), k ≤ n0 ∧ i = .int .i64 k ∧ m ≤ k ∧ Aside (Wst w W wr D l m out S T b1 b2 m1 m2 q1 q2)) (fun _ i _ => n0 - (intOf i).toNat)
  case atStart => exact ⟨0, 0, [], a1, a2, n1, n2, c1, c2, Nat.zero_le _, rfl, Nat.le_refl _, HW0⟩
  case round =>
    obtain ⟨k, m, out, b1, b2, m1, m2, q1, q2, hk, rfl, hmk, HS⟩ := hrel
    obtain ⟨ao, co, rfl⟩ : ∃ ao co, u4 = .slice ao m co := by
      rcases HS.out.row.2 with ⟨h1, h2⟩ | ⟨g, cap, cur, h1, _⟩
      · exact ⟨none, 0, by rw [h1, h2]⟩
      · exact ⟨_, cap, h1⟩
    by_cases hlt : k < n0
    · have hcl : (cs.take n0).length = n0 := HC.out.len
      obtain ⟨x, hx⟩ : ∃ x, (cs.take n0)[k]? = some x := ⟨(cs.take n0)[k]'(by omega), List.getElem?_eq_getElem _⟩
      have hC := SlOf.rest Rc.eight (by decide) rc_num HC.out HBx.out HS.out.rest
      obtain ⟨b, off, rfl, hE⟩ := hC.at (by omega)
      have d0 : wr.cell? ⟨b, off + k * 8, none⟩ = some (.int .i64 x.k) := hE k x hx 0 _ rfl
      have d1 : wr.cell? ⟨b, off + k * 8 + 1, none⟩ = some (.int .i64 x.a) := hE k x hx 1 _ rfl
      have d2 : wr.cell? ⟨b, off + k * 8 + 2, none⟩ = some (.int .i64 x.p) := hE k x hx 2 _ rfl
      have d3 : wr.cell? ⟨b, off + k * 8 + 3, none⟩ = some (.int .i64 x.e.k) := hE k x hx 3 _ rfl
      have d4 : wr.cell? ⟨b, off + k * 8 + 4, none⟩ = some (.int .i64 x.e.j) := hE k x hx 4 _ rfl
      have d5 : wr.cell? ⟨b, off + k * 8 + 5, none⟩ = some (.int .i64 x.e.v) := hE k x hx 5 _ rfl
      have d6 : wr.cell? ⟨b, off + k * 8 + 6, none⟩ = some (.int .i64 x.e.t) := hE k x hx 6 _ rfl
      have d7 : wr.cell? ⟨b, off + k * 8 + 7, none⟩ = some (.int .i64 x.e.c) := hE k x hx 7 _ rfl
      have hX1 := HS.out.later (grew (Below.refl wr.heap.size wr) (boxRc x))
      have zD : ∀ i, (wr.alloc (boxRc x)).cell? ⟨D, i, none⟩ = #[Value.slice b1 m1 q1, .slice b2 m2 q2][i]? := fun i => Joins.cell_of_block hX1.box.box i
      have hck := ckDisk_zero.1 HS.out.ck
      have kp := HK.out.put _ _ (S, T ++ rtxt out) x _ hX1.box.laid hX1.box.disk (by show S.length ≤ topLen; unfold topLen; omega) (by show (T ++ rtxt out).length ≤ topLen; unfold topLen; omega)
      have hDlt : D < wr.heap.size := heap_lt HS.out.box.box
      clear hcl hx hE hC hck
      dsimp only at kp
      go_wp2_with fail
      refine kp.mono ?_
      rintro e w1 ⟨u1, u2, rfl, hd, hb, near1, near2⟩
      have HS1 := hX1.later hb
      have hc1 : w1.heap[wr.heap.size]? = some (boxRc x) := heap_below (heap_new _ _) hb (by simp)
      obtain ⟨e1, s1, e2, s2, rfl, rfl⟩ := hd.forms
      rcases put_ways x HS.out.ck with hbad | ⟨hgood, hput, hck'⟩
      · obtain ⟨er, her⟩ : ∃ er, (dput S (T ++ rtxt out) x).2 = er := ⟨_, rfl⟩
        rw [her] at hbad ⊢
        have heb : (er == 0) = false := by rw [beq_eq_false_iff_ne]; exact hbad
        generalize (dput S (T ++ rtxt out) x).1.1.length = j1 at *
        generalize (dput S (T ++ rtxt out) x).1.2.length = j2 at *
        have HSf : Aside (Wst w W (w1.alloc (boxD (.slice e1 j1 s1) (.slice e2 j2 s2))) D (.slice ao m co) m out S T b1 b2 m1 m2 q1 q2) := HS1.later (grew (Below.refl _ _) _)
        clear kp hd hb near1 near2 HS1 hX1 zD hc1 her hbad HS d0 d1 d2 d3 d4 d5 d6 d7
        go_wp2
        go_roundw
        case rel => exact ⟨k + 1, m, out, b1, b2, m1, m2, q1, q2, by omega, by go_num, by omega, HSf⟩
        case measure => simp [intOf]; omega
      · rw [hput] at hd ⊢
        dsimp only at hd ⊢
        obtain ⟨j1, hj1⟩ : ∃ j1, S.length = j1 := ⟨_, rfl⟩
        obtain ⟨j2, hj2⟩ : ∃ j2, (T ++ rtxt out ++ (x.txt ++ [10])).length = j2 := ⟨_, rfl⟩
        rw [hj1, hj2] at hd ⊢
        have hgl : ∀ g, (Value.slice ao m co).ownBlock = some g → g < wr.heap.size := fun g hg => (HS.out.row.lt g hg).2
        have far : ∀ (ee : Option Addr) (jj ss : Nat), Near (wr.alloc (boxRc x)) w1 (.slice b1 m1 q1) (.slice b2 m2 q2) (.slice ee jj ss) → (∀ g, (Value.slice ao m co).ownBlock = some g → (Value.slice ee jj ss).ownBlock ≠ some g) ∧ (∀ g, (Value.slice ee jj ss).ownBlock = some g → g < w1.heap.size) := fun ee jj ss hn => by
          refine ⟨fun g hg e => ?_, fun g e => ?_⟩
          · rcases hn g e with h | h | h
            · have := hgl g hg; simp at h; omega
            · exact HS.out.far1 g hg h
            · exact HS.out.far2 g hg h
          · rcases hn g e with h | h | h
            · exact h.2
            · exact HS1.in1 g h
            · exact HS1.in2 g h
        have g1 := far e1 j1 s1 (by intro b hb; exact near1 b (by cases e1 with | none => cases hb | some a => exact hb))
        have g2 := far e2 j2 s2 (by intro b hb; exact near2 b (by cases e2 with | none => cases hb | some a => exact hb))
        have hX2 := HS1.later (grew (Below.refl w1.heap.size w1) (boxD (.slice e1 j1 s1) (.slice e2 j2 s2)))
        have hD2 := hd.later (grew (Below.refl w1.heap.size w1) (boxD (.slice e1 j1 s1) (.slice e2 j2 s2)))
        have hbX : (w1.alloc (boxD (.slice e1 j1 s1) (.slice e2 j2 s2))).heap[w1.heap.size]? = some (boxD (.slice e1 j1 s1) (.slice e2 j2 s2)) := heap_new _ _
        have hcX : (w1.alloc (boxD (.slice e1 j1 s1) (.slice e2 j2 s2))).heap[wr.heap.size]? = some (boxRc x) := heap_old hc1 _
        have hS0 := s7_of hbX hcX
        have hwr1 : wr.heap.size < w1.heap.size := heap_lt hc1
        clear kp hb near1 near2 HS1 hX1 zD hc1 HS d0 d1 d2 d3 d4 d5 d6 d7 far hput hd hj1 hj2
        go_wp2_with fail
        generalize hX2e : w1.alloc (boxD (.slice e1 j1 s1) (.slice e2 j2 s2)) = X2 at *
        have hX2s : w1.heap.size < X2.heap.size := heap_lt hbX
        have hXd := hX2.later (Below.refl _ X2).drew
        have hDd := hD2.later (Below.refl _ X2).drew
        have hbXd : X2.drew.heap[w1.heap.size]? = some (boxD (.slice e1 j1 s1) (.slice e2 j2 s2)) := hbX
        have hcXd : X2.drew.heap[wr.heap.size]? = some (boxRc x) := hcX
        have hXs : w1.heap.size < X2.drew.heap.size := hX2s
        clear hX2 hD2 hbX hcX hX2e hX2s
        refine wp_region_held_drew (S := fun w' => S7 w' w1.heap.size wr.heap.size (.slice e1 j1 s1) (.slice e2 j2 s2) x) (by kernel_rfl) (hS0) (fun hHeld => ?_)
        clear hS0
        refine wpAnyH_take (i := 0) (oi := ?oi0) (v := ?v0) ?hi0 ?hs0 ?hf0 ?hr0 ?hQ0 (Or.inl ⟨?hw0, ?hy0⟩) (by assumption) ?h0
        case hi0 => (simp only [List.getElem?_toArray, List.getElem?_cons_succ, List.getElem?_cons_zero]; rfl)
        case hs0 => kernel_rfl
        case hf0 => kernel_rfl
        case hr0 => kernel_rfl
        case hw0 => rfl
        case hy0 => (intro w0 hSw; (try dsimp only at hSw); go_simp; first | done | with_reducible rfl)
        case hQ0 => exact fun _ _ _ h => h
        try simp only [Act.put, List.setIfInBounds_toArray, List.set_cons_zero, List.set_cons_succ]
        refine wpAnyH_take (i := 1) (oi := ?oi1) (v := ?v1) ?hi1 ?hs1 ?hf1 ?hr1 ?hQ1 (Or.inl ⟨?hw1, ?hy1⟩) (by assumption) ?h1
        case hi1 => (simp only [List.getElem?_toArray, List.getElem?_cons_succ, List.getElem?_cons_zero]; rfl)
        case hs1 => kernel_rfl
        case hf1 => kernel_rfl
        case hr1 => kernel_rfl
        case hw1 => rfl
        case hy1 => (intro w0 hSw; (try dsimp only at hSw); go_simp; first | done | with_reducible rfl)
        case hQ1 => exact fun _ _ _ h => h
        try simp only [Act.put, List.setIfInBounds_toArray, List.set_cons_zero, List.set_cons_succ]
        refine wpAnyH_take (i := 2) (oi := ?oi2) (v := ?v2) ?hi2 ?hs2 ?hf2 ?hr2 ?hQ2 (Or.inl ⟨?hw2, ?hy2⟩) (by assumption) ?h2
        case hi2 => (simp only [List.getElem?_toArray, List.getElem?_cons_succ, List.getElem?_cons_zero]; rfl)
        case hs2 => kernel_rfl
        case hf2 => kernel_rfl
        case hr2 => kernel_rfl
        case hw2 => rfl
        case hy2 => (intro w0 hSw; (try dsimp only at hSw); go_simp; first | done | with_reducible rfl)
        case hQ2 => exact fun _ _ _ h => h
        try simp only [Act.put, List.setIfInBounds_toArray, List.set_cons_zero, List.set_cons_succ]
        generalize X2.drew = X at *
        have hq := grew (Below.refl X.heap.size X) (boxRc x)
        have hX3 := hXd.later hq
        have hD3 := hDd.later hq
        refine wpAnyH_ready (rs := [3]) (by kernel_rfl) (by simp) ?_
        refine AllReadyH.cons (o := ?o3) ?hi3 ?step3 AllReadyH.nil
        case hi3 => (simp only [List.getElem?_toArray, List.getElem?_cons_succ, List.getElem?_cons_zero]; rfl)
        intro K hK
        go_simp
        refine hK.out _ _ (s7_of (heap_old hbXd _) (heap_old hcXd _)) (fun hHeld => ?_)
        clear hK K
        try simp only [Act.put, List.setIfInBounds_toArray, List.set_cons_zero, List.set_cons_succ]
        have hN3 : ∀ j u, x.cells[j]? = some u → (X.alloc (boxRc x)).cell? ((⟨X.heap.size, 0, none⟩ : Addr).add j) = some u := fun j u hj => by
          rw [Lib.add_plain, Nat.zero_add, World.cell?_alloc_at _ _ _ _ rfl]
          simpa [Rc.cells] using hj
        obtain ⟨i0, hi, hz0, hz1, hz2⟩ := info_parts infoC
        refine wpAnyH_ready (rs := [4]) (by kernel_rfl) (by simp) ?_
        refine AllReadyH.cons (o := ?o4) ?hi4 ?step4 AllReadyH.nil
        case hi4 => (simp only [List.getElem?_toArray, List.getElem?_cons_succ, List.getElem?_cons_zero]; rfl)
        intro K hK
        refine step_append_lies _ rfl (.tmp 28) (.tmp 30) 22 rfl W.heap.size 30 i0 Rc.zero.val 8 64 Tryd.underlying22 hi hz0 hz1 hz2 rfl (by decide) (.slice ao m co) m _ (by simp [Act.eval]) hX3.row ⟨X.heap.size, 0, none⟩ 1 1 x.cells (by simp [Act.eval]) rfl hN3 (fun u hu => oneC [x] u (by simpa using hu)) (by decide) (by unfold maxLen; omega) (by omega) hX3.rest.size (X.alloc (boxRc x)).heap.size rfl ?_
        intro g cap X4 hown hgr hg hglt
        have hb4 : ∀ i, i < (X.alloc (boxRc x)).heap.size → (∀ g', (Value.slice ao m co).ownBlock = some g' → i ≠ g') → X4.heap[i]? = (X.alloc (boxRc x)).heap[i]? := fun i hi hne => hgr.block i hi (fun e => hne i e.symm rfl)
        have hbb4 : X4.heap[w1.heap.size]? = (X.alloc (boxRc x)).heap[w1.heap.size]? := hb4 _ (by simp; omega) (fun g' hg' => by have := hgl g' hg'; omega)
        have hcc4 : X4.heap[wr.heap.size]? = (X.alloc (boxRc x)).heap[wr.heap.size]? := hb4 _ (by simp; omega) (fun g' hg' => by have := hgl g' hg'; omega)
        have hDD4 : X4.heap[D]? = some (boxD (.slice b1 m1 q1) (.slice b2 m2 q2)) := (hb4 D (by simp; omega) (fun g' hg' e => by have := (hX3.row.lt g' hg').1; have := hX3.dlt; omega)).trans hX3.box.box
        refine hK.out _ _ (s7_same hHeld hbb4 hcc4) (fun hHeld => ?_)
        have zD4 : ∀ i, X4.cell? ⟨D, i, none⟩ = #[Value.slice b1 m1 q1, .slice b2 m2 q2][i]? := fun i => Joins.cell_of_block hDD4 i
        have fD4 : ∀ i, X4.frozen? ⟨D, i, none⟩ = false := fun i => Joins.unfrozen_of_block hDD4 i
        have g1' : ∀ g, (Value.slice e1 j1 s1).ownBlock = some g → g < (X.alloc (boxRc x)).heap.size := fun g hg => by have := g1.2 g hg; simp; omega
        have g2' : ∀ g, (Value.slice e2 j2 s2).ownBlock = some g → g < (X.alloc (boxRc x)).heap.size := fun g hg => by have := g2.2 g hg; simp; omega
        have HSf := Wst.next HL.out hX3 hgood hck' hD3 g1.1 g2.1 g1' g2' hown hgr hg
        clear hK K hown hgr hg hglt hb4 hbb4 hcc4 hX3 hD3 hXd hDd hN3 hi hz0 hz1 hz2 g1' g2' hq hbXd hcXd
        try simp only [Act.put, List.setIfInBounds_toArray, List.set_cons_zero, List.set_cons_succ]
        refine wpAnyH_ready (rs := [5]) (by kernel_rfl) (by simp) ?_
        refine AllReadyH.cons (o := ?o5) ?hi5 ?step5 AllReadyH.nil
        case hi5 => (simp only [List.getElem?_toArray, List.getElem?_cons_succ, List.getElem?_cons_zero]; rfl)
        intro K hK
        go_simp
        refine hK.out _ _ (s7_same hHeld (heap_two (by omega) _ _) (heap_two (by omega) _ _)) (fun hHeld => ?_)
        clear hK K
        try simp only [Act.put, List.setIfInBounds_toArray, List.set_cons_zero, List.set_cons_succ]
        have HSg : Aside _ := HSf
        clear HSf zD4 fD4 hDD4
        refine wpAnyH_take (i := 6) (oi := ?oi6) (v := ?v6) ?hi6 ?hs6 ?hf6 ?hr6 ?hQ6 (Or.inl ⟨?hw6, ?hy6⟩) (by assumption) ?h6
        case hi6 => (simp only [List.getElem?_toArray, List.getElem?_cons_succ, List.getElem?_cons_zero]; rfl)
        case hs6 => kernel_rfl
        case hf6 => kernel_rfl
        case hr6 => kernel_rfl
        case hw6 => rfl
        case hy6 => (intro w0 hSw; (try dsimp only at hSw); go_simp; first | done | with_reducible rfl)
        case hQ6 => exact fun _ _ _ h => h
        try simp only [Act.put, List.setIfInBounds_toArray, List.set_cons_zero, List.set_cons_succ]
        refine wpAnyH_done (by kernel_rfl) ?_ _
        clear hHeld
        go_wp2
        go_roundw
        case rel => exact ⟨k + 1, m + 1, out ++ [x], e1, e2, j1, j2, s1, s2, by omega, by go_num, by omega, HSg⟩
        case measure => simp [intOf]; omega
    · have HSf : Aside _ := HS.out
      clear HS HC HBx HK
      go_wp2
      go_ret
      exact ⟨_, m, out, b1, b2, m1, m2, q1, q2, rfl, by omega, HSf.out⟩

end Go.Proofs.YtknjdbpdlodpbadDoor
