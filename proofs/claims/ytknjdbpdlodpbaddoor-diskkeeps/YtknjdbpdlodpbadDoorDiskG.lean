/- The closed fact 'filed', given package disk's contracts. -/
import Derived.Test.YtknjdbpdlodpbadDoorDiskF
namespace Go.Proofs.YtknjdbpdlodpbadDoor
open Go.RowKit

/-- A disk in its box. -/
structure BoxR (w W : World) (B : Nat) (a1 a2 : Option Addr) (n1 n2 c1 c2 : Nat) (d : Dk) : Prop where
  box : W.heap[B]? = some (boxD (.slice a1 n1 c1) (.slice a2 n2 c2))
  disk : DiskR W (.slice a1 n1 c1) (.slice a2 n2 c2) d
  below : Below w.heap.size w W
  base : w.heap.size ≤ B
  laid : Laid W

theorem BoxR.later {w W W' : World} {B : Nat} {a1 a2 : Option Addr} {n1 n2 c1 c2 : Nat} {d : Dk} (h : BoxR w W B a1 a2 n1 n2 c1 c2 d) (hb : Below W.heap.size W W') : BoxR w W' B a1 a2 n1 n2 c1 c2 d :=
  ⟨heap_below h.box hb (heap_lt h.box), h.disk.later hb, h.below.trans (hb.mono h.below.size), h.base, h.laid.later hb⟩

theorem DiskR.forms {W : World} {v1 v2 : Value} {d : Dk} (h : DiskR W v1 v2 d) : ∃ a1 c1 a2 c2, v1 = .slice a1 d.1.length c1 ∧ v2 = .slice a2 d.2.length c2 := by
  obtain ⟨a1, c1, e1, _⟩ := h.safe
  obtain ⟨a2, c2, e2, _⟩ := h.wait
  exact ⟨a1, c1, a2, c2, e1, e2⟩

/-- What is asked of a world stays where a block of the call's own is written. -/
theorem laid_two {w W : World} {B : Nat} (hL : Laid w) (hb : Below w.heap.size w W) (h : w.heap.size ≤ B) (u1 u2 : Value) : Laid ((W.setCell ⟨B, 0, none⟩ u1).setCell ⟨B, 1, none⟩ u2) := hL.later (below_two hb h u1 u2)

/-- d = x. -/
theorem BoxR.store {w W : World} {B : Nat} {a1 a2 : Option Addr} {n1 n2 c1 c2 : Nat} {d : Dk} (hL : Laid w) (h : BoxR w W B a1 a2 n1 n2 c1 c2 d) {e1 e2 : Option Addr} {m1 m2 q1 q2 : Nat} {x : Dk} (hx : DiskR W (.slice e1 m1 q1) (.slice e2 m2 q2) x) :
    BoxR w ((W.setCell ⟨B, 0, none⟩ (.slice e1 m1 q1)).setCell ⟨B, 1, none⟩ (.slice e2 m2 q2)) B e1 e2 m1 m2 q1 q2 x :=
  ⟨disk_stored h.box _ _, ⟨bytes_two h.box bt_num hx.safe, bytes_two h.box bt_num hx.wait, hx.room1, hx.room2⟩, below_two h.below h.base _ _, h.base, laid_two hL h.below h.base _ _⟩

theorem BoxR.new {w W : World} {a1 a2 : Option Addr} {n1 n2 c1 c2 : Nat} {d : Dk} (hL : Laid w) (hb : Below w.heap.size w W) (hx : DiskR W (.slice a1 n1 c1) (.slice a2 n2 c2) d) : BoxR w (W.alloc (boxD (.slice a1 n1 c1) (.slice a2 n2 c2))) W.heap.size a1 a2 n1 n2 c1 c2 d :=
  ⟨heap_new _ _, hx.later (grew (Below.refl _ _) _), grew hb _, hb.size, hL.later (grew hb _)⟩

theorem nilR (w : World) : DiskR w nilB nilB ([], []) := ⟨SlOf.nil _ _, SlOf.nil _ _, ⟨_, _, _, rfl, Nat.le_refl _⟩, ⟨_, _, _, rfl, Nat.le_refl _⟩⟩

set_option linter.unusedSimpArgs false in
set_option maxHeartbeats 4000000 in
set_option maxRecDepth 100000 in
theorem filed_any (hK : Disks) (w : World) (hL : Laid w) :
    Calls Tryd.prog 4 #[] w fun e w' => e = .returned (.bool true) ∧ Below w.heap.size w w' := by
  have k1 := hK.put nilB nilB ([], []) c2 w hL (nilR w) (by decide) (by decide)
  rw [f1] at k1
  have k2 := fun v1 v2 W hW h => hK.sync v1 v2 ([], L2) W hW h (by decide) (by decide)
  rw [f2] at k2
  have k3 := fun v1 v2 W hW h => hK.put v1 v2 (L2, []) c3 W hW h (by decide) (by decide)
  rw [f3] at k3
  have k4 := fun v1 v2 W hW h => hK.crash v1 v2 (L2, L3) 4 W hW h (by decide) (by decide)
  rw [f4] at k4
  have k5 := fun v1 v2 W hW h => hK.recover v1 v2 (L2, [115, 101, 97, 108]) W hW h (by decide) (by decide)
  rw [f5] at k5
  have HL : Aside (Laid w) := hL
  clear hK hL
  go_enter Tryd.func4, Tryd.ntmps4
  go_wp2_with fail
  refine k1.mono ?_
  rintro e w1 ⟨u1, u2, rfl, hd, hb, _⟩
  obtain ⟨a1, q1, a2, q2, rfl, rfl⟩ := hd.forms
  have HB := BoxR.new HL.out hb hd
  dsimp only at HB ⊢
  obtain ⟨n1, hn1⟩ : ∃ n1 : Nat, ([] : List UInt8).length = n1 := ⟨_, rfl⟩
  obtain ⟨n2, hn2⟩ : ∃ n2 : Nat, L2.length = n2 := ⟨_, rfl⟩
  rw [hn1, hn2] at HB ⊢
  have z : ∀ i, (w1.alloc (boxD (.slice a1 n1 q1) (.slice a2 n2 q2))).cell? ⟨w1.heap.size, i, none⟩ = #[Value.slice a1 n1 q1, .slice a2 n2 q2][i]? := fun i => Joins.cell_of_block HB.box i
  clear k1 hb hd hn1 hn2
  go_wp2_with fail
  refine (k2 _ _ _ HB.laid HB.disk).mono ?_
  rintro e x0 ⟨u1, u2, rfl, hd, hb, _⟩
  obtain ⟨a01, q01, a02, q02, rfl, rfl⟩ := hd.forms
  have HX := HB.later hb
  have z0 : ∀ i, x0.cell? ⟨w1.heap.size, i, none⟩ = #[Value.slice a1 n1 q1, .slice a2 n2 q2][i]? := fun i => Joins.cell_of_block HX.box i
  have f0 : ∀ i, x0.frozen? ⟨w1.heap.size, i, none⟩ = false := fun i => Joins.unfrozen_of_block HX.box i
  dsimp only at hd ⊢
  obtain ⟨n01, hm1⟩ : ∃ m1 : Nat, (L2 : List UInt8).length = m1 := ⟨_, rfl⟩
  obtain ⟨n02, hm2⟩ : ∃ m2 : Nat, ([] : List UInt8).length = m2 := ⟨_, rfl⟩
  rw [hm1, hm2] at hd ⊢
  have H0 := HX.store HL.out hd
  clear k2 HX hb hd hm1 hm2 z HB
  go_wp2_with fail
  refine (k3 _ _ _ H0.laid H0.disk).mono ?_
  rintro e x1 ⟨u1, u2, rfl, hd, hb, _⟩
  obtain ⟨a11, q11, a12, q12, rfl, rfl⟩ := hd.forms
  have HX := H0.later hb
  have z1 : ∀ i, x1.cell? ⟨w1.heap.size, i, none⟩ = #[Value.slice a01 n01 q01, .slice a02 n02 q02][i]? := fun i => Joins.cell_of_block HX.box i
  have f1 : ∀ i, x1.frozen? ⟨w1.heap.size, i, none⟩ = false := fun i => Joins.unfrozen_of_block HX.box i
  dsimp only at hd ⊢
  obtain ⟨n11, hm1⟩ : ∃ m1 : Nat, (L2 : List UInt8).length = m1 := ⟨_, rfl⟩
  obtain ⟨n12, hm2⟩ : ∃ m2 : Nat, (L3 : List UInt8).length = m2 := ⟨_, rfl⟩
  rw [hm1, hm2] at hd ⊢
  have H1 := HX.store HL.out hd
  clear k3 HX hb hd hm1 hm2 z0 f0 H0
  go_wp2_with fail
  refine (k4 _ _ _ H1.laid H1.disk).mono ?_
  rintro e x2 ⟨u1, u2, rfl, hd, hb, _⟩
  obtain ⟨a21, q21, a22, q22, rfl, rfl⟩ := hd.forms
  have HX := H1.later hb
  have z2 : ∀ i, x2.cell? ⟨w1.heap.size, i, none⟩ = #[Value.slice a11 n11 q11, .slice a12 n12 q12][i]? := fun i => Joins.cell_of_block HX.box i
  have f2 : ∀ i, x2.frozen? ⟨w1.heap.size, i, none⟩ = false := fun i => Joins.unfrozen_of_block HX.box i
  dsimp only at hd ⊢
  obtain ⟨n21, hm1⟩ : ∃ m1 : Nat, (L2 : List UInt8).length = m1 := ⟨_, rfl⟩
  obtain ⟨n22, hm2⟩ : ∃ m2 : Nat, ([115, 101, 97, 108] : List UInt8).length = m2 := ⟨_, rfl⟩
  rw [hm1, hm2] at hd ⊢
  have H2 := HX.store HL.out hd
  clear k4 HX hb hd hm1 hm2 z1 f1 H1
  go_wp2_with fail
  refine (k5 _ _ _ H2.laid H2.disk).mono ?_
  rintro e x3 ⟨u1, u2, u3, rfl, hd, hr, hb⟩
  obtain ⟨a31, q31, a32, q32, rfl, rfl⟩ := hd.forms
  have HX := H2.later hb
  have z3 : ∀ i, x3.cell? ⟨w1.heap.size, i, none⟩ = #[Value.slice a21 n21 q21, .slice a22 n22 q22][i]? := fun i => Joins.cell_of_block HX.box i
  have f3 : ∀ i, x3.frozen? ⟨w1.heap.size, i, none⟩ = false := fun i => Joins.unfrozen_of_block HX.box i
  dsimp only at hd ⊢
  obtain ⟨n31, hm1⟩ : ∃ m1 : Nat, (L2 : List UInt8).length = m1 := ⟨_, rfl⟩
  obtain ⟨n32, hm2⟩ : ∃ m2 : Nat, ([] : List UInt8).length = m2 := ⟨_, rfl⟩
  rw [hm1, hm2] at hd ⊢
  have H3 := HX.store HL.out hd
  have hL2 : Hid (L2.length = n31) := hm1
  have hnil : n32 = 0 := hm2.symm
  obtain ⟨g, off, cc, rfl, hrow⟩ := hr.form (by decide)
  have HR : Aside (RowAt Rc.cells 8 x3 g off [c2]) := hrow
  have hl1 : ([c2] : List Rc).length = 1 := rfl
  rw [hl1]
  subst hnil
  have c0 := H3.box
  have hs := str_of H3.disk.safe
  have y3 : ∀ i, ((x3.setCell ⟨w1.heap.size, 0, none⟩ (.slice a31 n31 q31)).setCell ⟨w1.heap.size, 1, none⟩ (.slice a32 0 q32)).cell? ⟨w1.heap.size, i, none⟩ = #[Value.slice a31 n31 q31, .slice a32 0 q32][i]? := fun i => Joins.cell_of_block H3.box i
  have hrr : RecSl ((x3.setCell ⟨w1.heap.size, 0, none⟩ (.slice a31 n31 q31)).setCell ⟨w1.heap.size, 1, none⟩ (.slice a32 0 q32)) (.slice (some ⟨g, off, none⟩) 1 cc) [c2] := bytes_two HX.box rc_num hr
  obtain ⟨g', off', e', hrow'⟩ := hrr.at (by decide)
  injection e' with e'
  injection e' with e1 e2 _
  subst e1 e2
  have ce : ((x3.setCell ⟨w1.heap.size, 0, none⟩ (.slice a31 n31 q31)).setCell ⟨w1.heap.size, 1, none⟩ (.slice a32 0 q32)).cell? ⟨g, off + 2, none⟩ = some (.int .i64 2) := by
    have := hrow' 0 c2 rfl 2 _ rfl
    rwa [Nat.zero_mul, Nat.add_zero] at this
  have HE : Aside (Below w.heap.size w ((x3.setCell ⟨w1.heap.size, 0, none⟩ (.slice a31 n31 q31)).setCell ⟨w1.heap.size, 1, none⟩ (.slice a32 0 q32))) := H3.below
  dsimp only at hs
  rw [show (⟨L2.toArray⟩ : ByteArray) = ⟨#[115, 101, 97, 108, 32, 50, 10]⟩ from rfl] at hs
  clear k5 hb hd hm1 hm2 hr hrow HR hrr hrow' z2 f2 H2 HX c0 H3
  go_wp2
  go_ret
  exact ⟨rfl, HE.out⟩

end Go.Proofs.YtknjdbpdlodpbadDoor
