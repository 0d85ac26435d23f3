/- Disks in memory. What the laws on disks ask of package disk; the closed fact 'filed'. The closed fact 'filed', given package disk's contracts. -/
import Derived.Test.YtnmapehbcccbhadDoorDiskA
import Derived.Test.YtnmapehbcccbhadDoorSlStr
import Derived.Test.YtnmapehbcccbhadDoorSlRec
namespace Go.Proofs.YtnmapehbcccbhadDoor
open Go.RowKit

abbrev nilB : Value := .slice none 0 0

abbrev boxD (v1 v2 : Value) : Obj := .cells #[v1, v2] 26

/-- A disk's two slices. -/
structure DiskAt (w : World) (v1 v2 : Value) (d : Dk) : Prop where
  safe : ByteSl w v1 d.1
  wait : ByteSl w v2 d.2

theorem DiskAt.later {w w' : World} {v1 v2 : Value} {d : Dk} (h : DiskAt w v1 v2 d) (hb : Below w.heap.size w w') : DiskAt w' v1 v2 d := ⟨h.safe.later hb, h.wait.later hb⟩

def Value.isNum : Value → Bool
  | .int _ _ => true
  | _ => false

/-- A row of numbers stays as it is where a block is written in which there is none. -/
theorem SlOf.apart {α : Type} {cs : α → List Value} {k : Nat} (hcs : ∀ (x : α) (i : Nat) (v : Value), (cs x)[i]? = some v → Value.isNum v = true) {w : World} {v : Value} {xs : List α} (h : SlOf cs k w v xs) {B : Nat} {A : Array Value} {T : TypeId}
    (hB : w.heap[B]? = some (.cells A T)) (hA : ∀ u, u ∈ A.toList → Value.isNum u = false) (i : Nat) (u : Value) : SlOf cs k (w.setCell ⟨B, i, none⟩ u) v xs := by
  obtain ⟨a, c, rfl, hc⟩ := h
  refine ⟨a, c, rfl, ?_⟩
  rcases hc with hc | ⟨b, off, rfl, hE⟩
  · exact Or.inl hc
  · refine Or.inr ⟨b, off, rfl, fun j x hj i' v' hi' => ?_⟩
    have hcell := hE j x hj i' v' hi'
    have hne : b ≠ B := fun e => by
      rw [e, Joins.cell_of_block hB] at hcell
      have h1 := hcs x i' v' hi'
      have h2 := hA v' (Array.mem_toList_iff.2 (Array.mem_of_getElem? hcell))
      rw [h1] at h2; cases h2
    have hh : (w.setCell ⟨B, i, none⟩ u).heap[b]? = w.heap[b]? := Below.heap_setCell _ _ _ _ (by show b ≠ B; exact hne)
    have : (w.setCell ⟨B, i, none⟩ u).cell? ⟨b, off + j * k + i', none⟩ = w.cell? ⟨b, off + j * k + i', none⟩ := by simp only [World.cell?, hh]
    rw [this]; exact hcell

theorem bt_num (x : UInt8) (i : Nat) (v : Value) (h : (bt x)[i]? = some v) : Value.isNum v = true := by
  have := List.mem_of_getElem? h
  simp [bt] at this
  subst this; rfl

theorem slices_num {a1 a2 : Option Addr} {n1 n2 c1 c2 : Nat} : ∀ u, u ∈ (#[Value.slice a1 n1 c1, .slice a2 n2 c2] : Array Value).toList → Value.isNum u = false := fun u hu => by
  simp at hu
  rcases hu with rfl | rfl <;> rfl

theorem disk_nil (w : World) : DiskAt w nilB nilB ([], []) := ⟨SlOf.nil _ _, SlOf.nil _ _⟩

/-- Two stores into a disk's box. -/
theorem disk_stored {W : World} {b : Nat} {v1 v2 : Value} (h : W.heap[b]? = some (boxD v1 v2)) (u1 u2 : Value) : ((W.setCell ⟨b, 0, none⟩ u1).setCell ⟨b, 1, none⟩ u2).heap[b]? = some (boxD u1 u2) := by
  have h0 : (W.setCell ⟨b, 0, none⟩ u1).heap[b]? = some (boxD u1 v2) := by rw [Joins.block_setCell h]; rfl
  rw [Joins.block_setCell h0]; rfl

theorem below_two {B : Nat} {a W : World} {b : Nat} (h : Below B a W) (hb : B ≤ b) (u1 u2 : Value) : Below B a ((W.setCell ⟨b, 0, none⟩ u1).setCell ⟨b, 1, none⟩ u2) :=
  (h.setCell (p := ⟨b, 0, none⟩) hb _).setCell (p := ⟨b, 1, none⟩) hb _

/-- A row of bytes beside a disk's box. -/
theorem bytes_two {W : World} {b : Nat} {a1 a2 e1 e2 : Option Addr} {n1 n2 c1 c2 m1 m2 d1 d2 : Nat} (hb : W.heap[b]? = some (boxD (.slice a1 n1 c1) (.slice a2 n2 c2))) {α : Type} {cs : α → List Value} {k : Nat} (hcs : ∀ (x : α) (i : Nat) (v : Value), (cs x)[i]? = some v → Value.isNum v = true) {v : Value} {l : List α} (h : SlOf cs k W v l) :
    SlOf cs k ((W.setCell ⟨b, 0, none⟩ (.slice e1 m1 d1)).setCell ⟨b, 1, none⟩ (.slice e2 m2 d2)) v l := by
  have h0 : (W.setCell ⟨b, 0, none⟩ (.slice e1 m1 d1)).heap[b]? = some (boxD (.slice e1 m1 d1) (.slice a2 n2 c2)) := by rw [Joins.block_setCell hb]; rfl
  exact (h.apart hcs hb slices_num 0 _).apart hcs h0 slices_num 1 _

theorem rc_num (x : Rc) (i : Nat) (v : Value) (h : (Rc.cells x)[i]? = some v) : Value.isNum v = true := by
  have := List.mem_of_getElem? h
  simp only [Rc.cells, List.mem_cons, List.not_mem_nil, or_false] at this
  rcases this with rfl | rfl | rfl | rfl | rfl | rfl | rfl | rfl <;> rfl

theorem cell_other {w : World} {b g : Nat} (hne : g ≠ b) (i j : Nat) (v : Value) : (w.setCell ⟨b, i, none⟩ v).cell? ⟨g, j, none⟩ = w.cell? ⟨g, j, none⟩ := by
  have hh : (w.setCell ⟨b, i, none⟩ v).heap[g]? = w.heap[g]? := Below.heap_setCell _ _ _ _ (by show g ≠ b; exact hne)
  simp only [World.cell?, hh]

/-- The beginning of a slice. -/
theorem SlOf.upto {α : Type} {cs : α → List Value} {k : Nat} {w : World} {a : Option Addr} {n c : Nat} {xs : List α} (h : SlOf cs k w (.slice a n c) xs) (m : Nat) (hm : m ≤ n) : SlOf cs k w (.slice a m c) (xs.take m) := by
  obtain ⟨a', c', e, hc⟩ := h
  injection e with e1 e2 e3
  subst e1 e2 e3
  refine ⟨a, c, by rw [List.length_take, Nat.min_eq_left hm], ?_⟩
  rcases hc with hc | ⟨b, off, ha, hE⟩
  · exact Or.inl (by rw [List.length_take]; omega)
  · exact Or.inr ⟨b, off, ha, hE.take m⟩

/-- A disk's two slices, with their room. -/
structure DiskR (w : World) (v1 v2 : Value) (d : Dk) : Prop where
  safe : ByteSl w v1 d.1
  wait : ByteSl w v2 d.2
  room1 : Roomy v1
  room2 : Roomy v2

theorem DiskR.later {w w' : World} {v1 v2 : Value} {d : Dk} (h : DiskR w v1 v2 d) (hb : Below w.heap.size w w') : DiskR w' v1 v2 d := ⟨h.safe.later hb, h.wait.later hb, h.room1, h.room2⟩

end Go.Proofs.YtnmapehbcccbhadDoor
namespace Go.Proofs.YtnmapehbcccbhadDoor
open Go.RowKit

theorem dk_nil_lines (most : Nat) : linesOf [] most = ([], 0, 0) := dl_nil most 0 [] 0

def c2 : Rc := ⟨2, 0, 2, En.zero⟩
def c3 : Rc := ⟨2, 0, 3, En.zero⟩
def L2 : List UInt8 := [115, 101, 97, 108, 32, 50, 10]
def L3 : List UInt8 := [115, 101, 97, 108, 32, 51, 10]
theorem c2_chk : c2.chk = 0 := by decide
theorem c3_chk : c3.chk = 0 := by decide
theorem c2_txt : c2.txt ++ [10] = L2 := by kernel_rfl
theorem c3_txt : c3.txt ++ [10] = L3 := by kernel_rfl
theorem c2_rows : rtxt [c2] = L2 := by rw [rtxt, List.flatMap_cons, List.flatMap_nil, List.append_nil, c2_txt]
theorem c3_rows : rtxt [c3] = L3 := by rw [rtxt, List.flatMap_cons, List.flatMap_nil, List.append_nil, c3_txt]

theorem L2_lines (most : Nat) (h : 1 ≤ most) : linesOf L2 most = ([c2], 7, 0) := by
  have := lines_all (rs := [c2]) (fun c hc => by simp at hc; rw [hc]; exact c2_chk) (most := most) h
  rw [c2_rows] at this
  exact this

theorem f1 : dput [] [] c2 = (([], L2), 0) := by
  have h0 : ckDisk [] [] = 0 := ckDisk_zero.2 ⟨by simp, by rw [dk_nil_lines]⟩
  have hl : c2.txt.length + 1 = 7 := by have := congrArg List.length c2_txt; rw [List.length_append] at this; exact this
  rw [dput, if_neg (by simp [h0]), putOn, if_neg (by simp [c2_chk]), if_neg (by simp; omega), c2_txt]
  rfl

theorem f2 : dsync [] L2 = ((L2, []), 0) := by
  have h0 : ckDisk [] L2 = 0 := ckDisk_zero.2 ⟨by decide, by rw [dk_nil_lines]⟩
  have h1 : ckDisk ([] ++ L2) [] = 0 := ckDisk_zero.2 ⟨by decide, by rw [List.nil_append, L2_lines _ (by decide)]⟩
  rw [dsync, if_neg (by simp [h0]), synced, if_neg (by rw [h1]; simp), List.nil_append]

theorem f3 : dput L2 [] c3 = ((L2, L3), 0) := by
  have h0 : ckDisk L2 [] = 0 := ckDisk_zero.2 ⟨by decide, by rw [L2_lines _ (by decide)]⟩
  have hl : c3.txt.length + 1 = 7 := by have := congrArg List.length c3_txt; rw [List.length_append] at this; exact this
  have hl2 : L2.length = 7 := rfl
  rw [dput, if_neg (by simp [h0]), putOn, if_neg (by simp [c3_chk]), if_neg (by rw [hl2]; simp; omega), c3_txt]
  rfl

theorem f4 : dcrash L2 L3 4 = ((L2, [115, 101, 97, 108]), 0) := by
  have h0 : ckDisk L2 L3 = 0 := ckDisk_zero.2 ⟨by decide, by rw [L2_lines _ (by decide)]⟩
  rw [dcrash, if_neg (by simp [h0]), if_neg (by decide)]
  rfl

theorem f5 : drecover L2 [115, 101, 97, 108] = ((L2, []), [c2], 0) := by
  have h0 : ckDisk L2 [115, 101, 97, 108] = 0 := ckDisk_zero.2 ⟨by decide, by rw [L2_lines _ (by decide)]⟩
  obtain ⟨b, hb⟩ := nl_cut (l := [115, 101, 97, 108]) (by decide)
  have h1 : ∀ most, linesOf [115, 101, 97, 108] most = ([], 0, 9) := fun most => dl_torn most _ [] 0 (by simp) hb
  rw [drecover, if_neg (by simp [h0]), recovered, L2_lines _ (by decide), h1]
  rfl

abbrev topLen : Nat := 140737488351232

/-- A slice in a new block, or in one of these two's. -/
def Near (W W' : World) (v1 v2 u : Value) : Prop := ∀ b, u.ownBlock = some b → (W.heap.size ≤ b ∧ b < W'.heap.size) ∨ v1.ownBlock = some b ∨ v2.ownBlock = some b

/-- Answers a disk and what is wrong. -/
abbrev AnsR (f : Nat) (v1 v2 : Value) (args : Array Value) (w : World) (r : Dk × Int) : Prop :=
  Calls Tryd.prog f args w fun e w' => ∃ u1 u2, e = .returned (.tuple #[.agg #[u1, u2], .int .i64 r.2]) ∧ DiskR w' u1 u2 r.1 ∧ Below w.heap.size w w' ∧ Near w w' v1 v2 u1 ∧ Near w w' v1 v2 u2

/-- Package disk. -/
structure Disks : Prop where
  check : ∀ (v1 v2 : Value) (d : Dk) (W : World), Laid W → DiskR W v1 v2 d → d.1.length ≤ topLen → d.2.length ≤ topLen →
    Calls Tryd.prog 21 #[.agg #[v1, v2]] W fun e w' => e = .returned (.int .i64 (ckDisk d.1 d.2)) ∧ Below W.heap.size W w'
  same : ∀ (v1 v2 u1 u2 : Value) (d x : Dk) (W : World), DiskR W v1 v2 d → DiskR W u1 u2 x → d.1.length ≤ topLen → d.2.length ≤ topLen → x.1.length ≤ topLen → x.2.length ≤ topLen →
    Calls Tryd.prog 14 #[.agg #[v1, v2], .agg #[u1, u2]] W fun e w' => e = .returned (.bool (decide (d = x))) ∧ Below W.heap.size W w'
  put : ∀ (v1 v2 : Value) (d : Dk) (c : Rc) (W : World), Laid W → DiskR W v1 v2 d → d.1.length ≤ topLen → d.2.length ≤ topLen → AnsR 7 v1 v2 #[.agg #[v1, v2], c.val] W (dput d.1 d.2 c)
  sync : ∀ (v1 v2 : Value) (d : Dk) (W : World), Laid W → DiskR W v1 v2 d → d.1.length ≤ topLen → d.2.length ≤ topLen → AnsR 8 v1 v2 #[.agg #[v1, v2]] W (dsync d.1 d.2)
  crash : ∀ (v1 v2 : Value) (d : Dk) (n : Int) (W : World), Laid W → DiskR W v1 v2 d → d.1.length ≤ topLen → d.2.length ≤ topLen → AnsR 9 v1 v2 #[.agg #[v1, v2], .int .i64 n] W (dcrash d.1 d.2 n)
  recover : ∀ (v1 v2 : Value) (d : Dk) (W : World), Laid W → DiskR W v1 v2 d → d.1.length ≤ topLen → d.2.length ≤ topLen →
    Calls Tryd.prog 11 #[.agg #[v1, v2]] W fun e w' => ∃ u1 u2 u3, e = .returned (.tuple #[.agg #[u1, u2], u3, .int .i64 (drecover d.1 d.2).2.2]) ∧ DiskR w' u1 u2 (drecover d.1 d.2).1 ∧ RecSl w' u3 (drecover d.1 d.2).2.1 ∧ Below W.heap.size W w'

end Go.Proofs.YtnmapehbcccbhadDoor
namespace Go.Proofs.YtnmapehbcccbhadDoor
open Go.RowKit

/-- A disk in its box. -/
structure BoxR (w W : World) (B : Nat) (a1 a2 : Option Addr) (n1 n2 c1 c2 : Nat) (d : Dk) : Prop where
  box : W.heap[B]? = some (boxD (.slice a1 n1 c1) (.slice a2 n2 c2))
  disk : DiskR W (.slice a1 n1 c1) (.slice a2 n2 c2) d
  below : Below w.heap.size w W
  base : w.heap.size ≤ B
  laid : Laid W

theorem BoxR.later {w W W' : World} {B : Nat} {a1 a2 : Option Addr} {n1 n2 c1 c2 : Nat} {d : Dk} (h : BoxR w W B a1 a2 n1 n2 c1 c2 d) (hb : Below W.heap.size W W') : BoxR w W' B a1 a2 n1 n2 c1 c2 d :=
  ⟨heap_below h.box hb (heap_lt h.box), h.disk.later hb, h.below.trans (hb.mono h.below.size), h.base, h.laid.later hb⟩

theorem DiskR.forms {W : World} {v1 v2 : Value} {d : Dk} (h : DiskR W v1 v2 d) : ∃ a1 c1 a2 c2, v1 = .slice a1 d.1.length c1 ∧ v2 = .slice a2 d.2.length c2 := by
  obtain ⟨a1, c1, e1, _⟩ := h.safe
  obtain ⟨a2, c2, e2, _⟩ := h.wait
  exact ⟨a1, c1, a2, c2, e1, e2⟩

/-- What is asked of a world stays where a block of the call's own is written. -/
theorem laid_two {w W : World} {B : Nat} (hL : Laid w) (hb : Below w.heap.size w W) (h : w.heap.size ≤ B) (u1 u2 : Value) : Laid ((W.setCell ⟨B, 0, none⟩ u1).setCell ⟨B, 1, none⟩ u2) := hL.later (below_two hb h u1 u2)

/-- d = x. -/
theorem BoxR.store {w W : World} {B : Nat} {a1 a2 : Option Addr} {n1 n2 c1 c2 : Nat} {d : Dk} (hL : Laid w) (h : BoxR w W B a1 a2 n1 n2 c1 c2 d) {e1 e2 : Option Addr} {m1 m2 q1 q2 : Nat} {x : Dk} (hx : DiskR W (.slice e1 m1 q1) (.slice e2 m2 q2) x) :
    BoxR w ((W.setCell ⟨B, 0, none⟩ (.slice e1 m1 q1)).setCell ⟨B, 1, none⟩ (.slice e2 m2 q2)) B e1 e2 m1 m2 q1 q2 x :=
  ⟨disk_stored h.box _ _, ⟨bytes_two h.box bt_num hx.safe, bytes_two h.box bt_num hx.wait, hx.room1, hx.room2⟩, below_two h.below h.base _ _, h.base, laid_two hL h.below h.base _ _⟩

theorem BoxR.new {w W : World} {a1 a2 : Option Addr} {n1 n2 c1 c2 : Nat} {d : Dk} (hL : Laid w) (hb : Below w.heap.size w W) (hx : DiskR W (.slice a1 n1 c1) (.slice a2 n2 c2) d) : BoxR w (W.alloc (boxD (.slice a1 n1 c1) (.slice a2 n2 c2))) W.heap.size a1 a2 n1 n2 c1 c2 d :=
  ⟨heap_new _ _, hx.later (grew (Below.refl _ _) _), grew hb _, hb.size, hL.later (grew hb _)⟩

theorem nilR (w : World) : DiskR w nilB nilB ([], []) := ⟨SlOf.nil _ _, SlOf.nil _ _, ⟨_, _, _, rfl, Nat.le_refl _⟩, ⟨_, _, _, rfl, Nat.le_refl _⟩⟩

set_option linter.unusedSimpArgs false in
set_option maxHeartbeats 4000000 in
set_option maxRecDepth 100000 in
theorem filed_any (hK : Disks) (w : World) (hL : Laid w) :
    Calls Tryd.prog 5 #[] w fun e w' => e = .returned (.bool true) ∧ Below w.heap.size w w' := by
  have k1 := hK.put nilB nilB ([], []) c2 w hL (nilR w) (by decide) (by decide)
  rw [f1] at k1
  have k2 := fun v1 v2 W hW h => hK.sync v1 v2 ([], L2) W hW h (by decide) (by decide)
  rw [f2] at k2
  have k3 := fun v1 v2 W hW h => hK.put v1 v2 (L2, []) c3 W hW h (by decide) (by decide)
  rw [f3] at k3
  have k4 := fun v1 v2 W hW h => hK.crash v1 v2 (L2, L3) 4 W hW h (by decide) (by decide)
  rw [f4] at k4
  have k5 := fun v1 v2 W hW h => hK.recover v1 v2 (L2, [115, 101, 97, 108]) W hW h (by decide) (by decide)
  rw [f5] at k5
  have HL : Aside (Laid w) := hL
  clear hK hL
  go_enter Tryd.func5, Tryd.ntmps5
  go_wp2_with fail
  refine k1.mono ?_
  rintro e w1 ⟨u1, u2, rfl, hd, hb, _⟩
  obtain ⟨a1, q1, a2, q2, rfl, rfl⟩ := hd.forms
  have HB := BoxR.new HL.out hb hd
  dsimp only at HB ⊢
  obtain ⟨n1, hn1⟩ : ∃ n1 : Nat, ([] : List UInt8).length = n1 := ⟨_, rfl⟩
  obtain ⟨n2, hn2⟩ : ∃ n2 : Nat, L2.length = n2 := ⟨_, rfl⟩
  rw [hn1, hn2] at HB ⊢
  have z : ∀ i, (w1.alloc (boxD (.slice a1 n1 q1) (.slice a2 n2 q2))).cell? ⟨w1.heap.size, i, none⟩ = #[Value.slice a1 n1 q1, .slice a2 n2 q2][i]? := fun i => Joins.cell_of_block HB.box i
  clear k1 hb hd hn1 hn2
  go_wp2_with fail
  refine (k2 _ _ _ HB.laid HB.disk).mono ?_
  rintro e x0 ⟨u1, u2, rfl, hd, hb, _⟩
  obtain ⟨a01, q01, a02, q02, rfl, rfl⟩ := hd.forms
  have HX := HB.later hb
  have z0 : ∀ i, x0.cell? ⟨w1.heap.size, i, none⟩ = #[Value.slice a1 n1 q1, .slice a2 n2 q2][i]? := fun i => Joins.cell_of_block HX.box i
  have f0 : ∀ i, x0.frozen? ⟨w1.heap.size, i, none⟩ = false := fun i => Joins.unfrozen_of_block HX.box i
  dsimp only at hd ⊢
  obtain ⟨n01, hm1⟩ : ∃ m1 : Nat, (L2 : List UInt8).length = m1 := ⟨_, rfl⟩
  obtain ⟨n02, hm2⟩ : ∃ m2 : Nat, ([] : List UInt8).length = m2 := ⟨_, rfl⟩
  rw [hm1, hm2] at hd ⊢
  have H0 := HX.store HL.out hd
  clear k2 HX hb hd hm1 hm2 z HB
  go_wp2_with fail
  refine (k3 _ _ _ H0.laid H0.disk).mono ?_
  rintro e x1 ⟨u1, u2, rfl, hd, hb, _⟩
  obtain ⟨a11, q11, a12, q12, rfl, rfl⟩ := hd.forms
  have HX := H0.later hb
  have z1 : ∀ i, x1.cell? ⟨w1.heap.size, i, none⟩ = #[Value.slice a01 n01 q01, .slice a02 n02 q02][i]? := fun i => Joins.cell_of_block HX.box i
  have f1 : ∀ i, x1.frozen? ⟨w1.heap.size, i, none⟩ = false := fun i => Joins.unfrozen_of_block HX.box i
  dsimp only at hd ⊢
  obtain ⟨n11, hm1⟩ : ∃ m1 : Nat, (L2 : List UInt8).length = m1 := ⟨_, rfl⟩
  obtain ⟨n12, hm2⟩ : ∃ m2 : Nat, (L3 : List UInt8).length = m2 := ⟨_, rfl⟩
  rw [hm1, hm2] at hd ⊢
  have H1 := HX.store HL.out hd
  clear k3 HX hb hd hm1 hm2 z0 f0 H0
  go_wp2_with fail
  refine (k4 _ _ _ H1.laid H1.disk).mono ?_
  rintro e x2 ⟨u1, u2, rfl, hd, hb, _⟩
  obtain ⟨a21, q21, a22, q22, rfl, rfl⟩ := hd.forms
  have HX := H1.later hb
  have z2 : ∀ i, x2.cell? ⟨w1.heap.size, i, none⟩ = #[Value.slice a11 n11 q11, .slice a12 n12 q12][i]? := fun i => Joins.cell_of_block HX.box i
  have f2 : ∀ i, x2.frozen? ⟨w1.heap.size, i, none⟩ = false := fun i => Joins.unfrozen_of_block HX.box i
  dsimp only at hd ⊢
  obtain ⟨n21, hm1⟩ : ∃ m1 : Nat, (L2 : List UInt8).length = m1 := ⟨_, rfl⟩
  obtain ⟨n22, hm2⟩ : ∃ m2 : Nat, ([115, 101, 97, 108] : List UInt8).length = m2 := ⟨_, rfl⟩
  rw [hm1, hm2] at hd ⊢
  have H2 := HX.store HL.out hd
  clear k4 HX hb hd hm1 hm2 z1 f1 H1
  go_wp2_with fail
  refine (k5 _ _ _ H2.laid H2.disk).mono ?_
  rintro e x3 ⟨u1, u2, u3, rfl, hd, hr, hb⟩
  obtain ⟨a31, q31, a32, q32, rfl, rfl⟩ := hd.forms
  have HX := H2.later hb
  have z3 : ∀ i, x3.cell? ⟨w1.heap.size, i, none⟩ = #[Value.slice a21 n21 q21, .slice a22 n22 q22][i]? := fun i => Joins.cell_of_block HX.box i
  have f3 : ∀ i, x3.frozen? ⟨w1.heap.size, i, none⟩ = false := fun i => Joins.unfrozen_of_block HX.box i
  dsimp only at hd ⊢
  obtain ⟨n31, hm1⟩ : ∃ m1 : Nat, (L2 : List UInt8).length = m1 := ⟨_, rfl⟩
  obtain ⟨n32, hm2⟩ : ∃ m2 : Nat, ([] : List UInt8).length = m2 := ⟨_, rfl⟩
  rw [hm1, hm2] at hd ⊢
  have H3 := HX.store HL.out hd
  have hL2 : Hid (L2.length = n31) := hm1
  have hnil : n32 = 0 := hm2.symm
  obtain ⟨g, off, cc, rfl, hrow⟩ := hr.form (by decide)
  have HR : Aside (RowAt Rc.cells 8 x3 g off [c2]) := hrow
  have hl1 : ([c2] : List Rc).length = 1 := rfl
  rw [hl1]
  subst hnil
  have c0 := H3.box
  have hs := str_of H3.disk.safe
  have y3 : ∀ i, ((x3.setCell ⟨w1.heap.size, 0, none⟩ (.slice a31 n31 q31)).setCell ⟨w1.heap.size, 1, none⟩ (.slice a32 0 q32)).cell? ⟨w1.heap.size, i, none⟩ = #[Value.slice a31 n31 q31, .slice a32 0 q32][i]? := fun i => Joins.cell_of_block H3.box i
  have hrr : RecSl ((x3.setCell ⟨w1.heap.size, 0, none⟩ (.slice a31 n31 q31)).setCell ⟨w1.heap.size, 1, none⟩ (.slice a32 0 q32)) (.slice (some ⟨g, off, none⟩) 1 cc) [c2] := bytes_two HX.box rc_num hr
  obtain ⟨g', off', e', hrow'⟩ := hrr.at (by decide)
  injection e' with e'
  injection e' with e1 e2 _
  subst e1 e2
  have ce : ((x3.setCell ⟨w1.heap.size, 0, none⟩ (.slice a31 n31 q31)).setCell ⟨w1.heap.size, 1, none⟩ (.slice a32 0 q32)).cell? ⟨g, off + 2, none⟩ = some (.int .i64 2) := by
    have := hrow' 0 c2 rfl 2 _ rfl
    rwa [Nat.zero_mul, Nat.add_zero] at this
  have HE : Aside (Below w.heap.size w ((x3.setCell ⟨w1.heap.size, 0, none⟩ (.slice a31 n31 q31)).setCell ⟨w1.heap.size, 1, none⟩ (.slice a32 0 q32))) := H3.below
  dsimp only at hs
  rw [show (⟨L2.toArray⟩ : ByteArray) = ⟨#[115, 101, 97, 108, 32, 50, 10]⟩ from rfl] at hs
  clear k5 hb hd hm1 hm2 hr hrow HR hrr hrow' z2 f2 H2 HX c0 H3
  go_wp2
  go_ret
  exact ⟨rfl, HE.out⟩

end Go.Proofs.YtnmapehbcccbhadDoor
