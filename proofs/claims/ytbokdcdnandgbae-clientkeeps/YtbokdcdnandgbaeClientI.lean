/- What the laws on clients hold; the closed fact heard. -/
import Derived.Test.YtbokdcdnandgbaeClientZf
namespace Go.Proofs.Ytbokdcdnandgbae
open Go.RowKit

/-- Blocks that stand, books in memory. -/
structure HeldC (w W : World) (bs : List (Nat × Obj)) (cs : List (Value × Value × Cl)) : Prop where
  below : Below w.heap.size w W
  box : ∀ p, p ∈ bs → W.heap[p.1]? = some p.2
  bk : ∀ p, p ∈ cs → BkAt W p.1 p.2.1 p.2.2

theorem HeldC.later {w W W' : World} {bs : List (Nat × Obj)} {cs : List (Value × Value × Cl)} (h : HeldC w W bs cs) (hb : Below W.heap.size W W') : HeldC w W' bs cs :=
  ⟨h.below.trans (hb.mono h.below.size), fun p hp => heap_below (h.box p hp) hb (heap_lt (h.box p hp)), fun p hp => bkAt_later (h.bk p hp) hb⟩
theorem HeldC.boxed {w W : World} {bs : List (Nat × Obj)} {cs : List (Value × Value × Cl)} (h : HeldC w W bs cs) (o : Obj) : HeldC w (W.alloc o) ((W.heap.size, o) :: bs) cs := by
  have h' := h.later (grew (Below.refl _ _) o)
  refine ⟨h'.below, fun p hp => ?_, h'.bk⟩
  rcases List.mem_cons.1 hp with rfl | hp
  · exact heap_new _ _
  · exact h'.box p hp
theorem HeldC.book {w W : World} {bs : List (Nat × Obj)} {cs : List (Value × Value × Cl)} (h : HeldC w W bs cs) {u v : Value} {c : Cl} (hc : BkAt W u v c) : HeldC w W bs ((u, v, c) :: cs) :=
  ⟨h.below, h.box, fun p hp => by rcases List.mem_cons.1 hp with rfl | hp; exact hc; exact h.bk p hp⟩
theorem HeldC.at {w W : World} {bs : List (Nat × Obj)} {cs : List (Value × Value × Cl)} (h : HeldC w W bs cs) {B : Nat} {o : Obj} (hm : (B, o) ∈ bs) : W.heap[B]? = some o := h.box _ hm
theorem HeldC.books {w W : World} {bs : List (Nat × Obj)} {cs : List (Value × Value × Cl)} (h : HeldC w W bs cs) {u v : Value} {c : Cl} (hm : (u, v, c) ∈ cs) : BkAt W u v c := h.bk _ hm
/-- All that is held, by a letter. -/
theorem heldC_letter {w W : World} {bs : List (Nat × Obj)} {cs : List (Value × Value × Cl)} (h : HeldC w W bs cs) : ∃ P : World → Prop, P W ∧ (∀ W W', P W → Below W.heap.size W W' → P W') ∧ ∀ W, P W → HeldC w W bs cs :=
  ⟨fun W => HeldC w W bs cs, h, fun _ _ h hb => h.later hb, fun _ h => h⟩

theorem put_low (a b c : Int) (w : World) : Calls Try.prog 41 #[.int .i64 a, .int .i64 b, .int .i64 c] w fun e w' => e = .returned (ev 1 a b c 0) ∧ Below w.heap.size w w' :=
  (put_any a b c w).mono fun _ _ ⟨he, hw⟩ => ⟨he, by rw [hw]; exact grew (Below.refl _ _) _⟩

/-- Where a client has no book. -/
theorem ansT_nil {f : FuncId} {args : Array Value} {w : World} {r : Cl × Int} {c : Cl} {n : Int} (h : AnsT f args w r) (hr : r = (c, n)) (hj : c.js = []) (hq : c.rs = []) :
    Calls Try.prog f args w fun e w' => ∃ s1 o1 t1 p1, e = .returned (.tuple #[c.val (.slice s1 0 o1) (.slice t1 0 p1), .int .i64 n]) ∧ Below w.heap.size w w' := by
  subst hr
  refine h.mono fun e w' ⟨u1, u2, he, hT, hb⟩ => ?_
  obtain ⟨s1, o1, t1, p1, rfl, rfl⟩ := bk_slices hT.1.1 hT.1.2
  rw [hj, hq] at he
  exact ⟨s1, o1, t1, p1, he, hb⟩
theorem bkAt_nil (w : World) {c : Cl} (hj : c.js = []) (hq : c.rs = []) (s1 : Option Addr) (o1 : Nat) (t1 : Option Addr) (p1 : Nat) : BkAt w (.slice s1 0 o1) (.slice t1 0 p1) c := ⟨by rw [hj]; exact SlOf.nil _ _, by rw [hq]; exact SlOf.nil _ _⟩

/-- Along the units. -/
def hk : Nat → Cl
  | 0 => (⟨1, 2, ⟨1, 2, 5, 10, 0⟩, 7, 0, 0, [], []⟩ : Cl)
  | 1 => (⟨1, 2, ⟨1, 2, 5, 10, 0⟩, 7, 1, 0, [], []⟩ : Cl)
  | 2 => (⟨1, 2, ⟨1, 2, 5, 10, 0⟩, 7, 2, 0, [], []⟩ : Cl)
  | _ => (⟨1, 0, ⟨0, 0, 0, 0, 0⟩, 0, 0, 0, [], []⟩ : Cl)
theorem hk_hear : ∀ k, k < 3 → hearOf (hk k) (⟨1, 2, 5, 10, 0⟩ : En) = (hk (k + 1), 0)
  | 0, _ => by kernel_rfl
  | 1, _ => by kernel_rfl
  | 2, _ => by kernel_rfl
  | k + 3, h => absurd h (by omega)
theorem hk_nil (k : Nat) : (hk k).js = [] ∧ (hk k).rs = [] := by
  match k with
  | 0 => exact ⟨rfl, rfl⟩
  | 1 => exact ⟨rfl, rfl⟩
  | 2 => exact ⟨rfl, rfl⟩
  | k + 3 => exact ⟨rfl, rfl⟩

set_option linter.unusedSimpArgs false in
set_option maxHeartbeats 8000000 in
set_option maxRecDepth 100000 in
/-- The closed fact heard. -/
theorem lc_heard (w : World) : Calls Try.prog 22 #[] w fun e w' => e = .returned (.bool true) ∧ Below w.heap.size w w' := by
  have kwant : Aside (∀ W, Calls Try.prog 15 #[(⟨1, 0, ⟨0, 0, 0, 0, 0⟩, 0, 0, 0, [], []⟩ : Cl).val nil0 nil0, (⟨1, 2, 5, 10, 0⟩ : En).val] W fun e w' => ∃ s1 o1 t1 p1, e = .returned (.tuple #[(⟨1, 1, ⟨1, 2, 5, 10, 0⟩, 0, 0, 0, [], []⟩ : Cl).val (.slice s1 0 o1) (.slice t1 0 p1), .int .i64 0]) ∧ Below W.heap.size W w') :=
    fun W => ansT_nil (cl_want _ _ _ _ W (bkAt_nil W rfl rfl none 0 none 0)) (by kernel_rfl) rfl rfl
  have kplace : Aside (∀ W s1 o1 t1 p1, Calls Try.prog 17 #[(⟨1, 1, ⟨1, 2, 5, 10, 0⟩, 0, 0, 0, [], []⟩ : Cl).val (.slice s1 0 o1) (.slice t1 0 p1), .int .i64 7] W fun e w' => ∃ s1 o1 t1 p1, e = .returned (.tuple #[(⟨1, 2, ⟨1, 2, 5, 10, 0⟩, 7, 0, 0, [], []⟩ : Cl).val (.slice s1 0 o1) (.slice t1 0 p1), .int .i64 0]) ∧ Below W.heap.size W w') :=
    fun W s1 o1 t1 p1 => ansT_nil (cl_place _ _ _ _ W (bkAt_nil W rfl rfl s1 o1 t1 p1)) (by kernel_rfl) rfl rfl
  have kjunk : Aside (∀ W s1 o1 t1 p1, Calls Try.prog 28 #[(⟨1, 2, ⟨1, 2, 5, 10, 0⟩, 7, 0, 0, [], []⟩ : Cl).val (.slice s1 0 o1) (.slice t1 0 p1), En.zero.val] W fun e w' => ∃ s1 o1 t1 p1, e = .returned (.tuple #[(⟨1, 1, ⟨1, 2, 5, 10, 0⟩, 0, 0, 0, [], []⟩ : Cl).val (.slice s1 0 o1) (.slice t1 0 p1), .int .i64 0]) ∧ Below W.heap.size W w') :=
    fun W s1 o1 t1 p1 => ansT_nil (cl_heard _ _ _ _ W (bkAt_nil W rfl rfl s1 o1 t1 p1)) (by kernel_rfl) rfl rfl
  have khear : Aside (∀ k, k < 3 → ∀ W s1 o1 t1 p1, Calls Try.prog 28 #[(hk k).val (.slice s1 0 o1) (.slice t1 0 p1), (⟨1, 2, 5, 10, 0⟩ : En).val] W fun e w' => ∃ s1 o1 t1 p1, e = .returned (.tuple #[(hk (k + 1)).val (.slice s1 0 o1) (.slice t1 0 p1), .int .i64 0]) ∧ Below W.heap.size W w') :=
    fun k hk' W s1 o1 t1 p1 => ansT_nil (cl_heard _ _ _ _ W (bkAt_nil W (hk_nil k).1 (hk_nil k).2 s1 o1 t1 p1)) (hk_hear k hk') (hk_nil _).1 (hk_nil _).2
  have kfill : Aside (∀ W, Calls Try.prog 18 #[(⟨1, 0, ⟨0, 0, 0, 0, 0⟩, 0, 0, 0, [], []⟩ : Cl).val nil0 nil0, .int .i64 3] W fun e w' => ∃ s1 o1 t1 p1, e = .returned (.tuple #[(⟨1, 2, ⟨0, 0, 0, 0, 0⟩, 3, 0, 0, [], []⟩ : Cl).val (.slice s1 0 o1) (.slice t1 0 p1), .int .i64 0]) ∧ Below W.heap.size W w') :=
    fun W => ansT_nil (cl_fill _ _ _ _ W (bkAt_nil W rfl rfl none 0 none 0)) (by kernel_rfl) rfl rfl
  have kx : Aside (∀ W s1 o1 t1 p1, Calls Try.prog 28 #[(⟨1, 2, ⟨0, 0, 0, 0, 0⟩, 3, 0, 0, [], []⟩ : Cl).val (.slice s1 0 o1) (.slice t1 0 p1), (⟨1, 2, 5, 10, 0⟩ : En).val] W fun e w' => ∃ s1 o1 t1 p1, e = .returned (.tuple #[(⟨1, 2, ⟨1, 2, 5, 10, 0⟩, 3, 1, 0, [], []⟩ : Cl).val (.slice s1 0 o1) (.slice t1 0 p1), .int .i64 0]) ∧ Below W.heap.size W w') :=
    fun W s1 o1 t1 p1 => ansT_nil (cl_heard _ _ _ _ W (bkAt_nil W rfl rfl s1 o1 t1 p1)) (by kernel_rfl) rfl rfl
  have kck : Aside (∀ W s1 o1 t1 p1, Calls Try.prog 23 #[(⟨1, 2, ⟨1, 2, 5, 10, 0⟩, 3, 1, 0, [], []⟩ : Cl).val (.slice s1 0 o1) (.slice t1 0 p1)] W fun e w' => e = .returned (.int .i64 0) ∧ Below W.heap.size W w') :=
    fun W s1 o1 t1 p1 => by
      have := cl_check (⟨1, 2, ⟨1, 2, 5, 10, 0⟩, 3, 1, 0, [], []⟩ : Cl) _ _ W (bkAt_nil W rfl rfl s1 o1 t1 p1)
      rw [show (⟨1, 2, ⟨1, 2, 5, 10, 0⟩, 3, 1, 0, [], []⟩ : Cl).ck = 0 by kernel_rfl] at this
      exact this
  go_enter Try.func22, Try.ntmps22
  have HB0 : Aside (Below w.heap.size w w) := Below.refl _ _
  go_wp2_with fail
  refine (cl_new _).mono ?_
  rintro e w1 ⟨rfl, hb1⟩
  have HB1 : Aside (Below w.heap.size w w1) := hb1
  clear hb1  
  go_wp2_with fail
  refine (put_low 2 5 10 _).mono ?_
  rintro e w2 ⟨rfl, hb2⟩
  have HB2 : Aside (Below w.heap.size w w2) := step_below HB1.out hb2
  clear hb2 HB1  
  go_wp2_with fail
  refine (kwant.out _).mono ?_
  rintro e w3 ⟨s3, o3, t3, p3, rfl, hb3⟩
  have HB3 : Aside (Below w.heap.size w w3) := step_below HB2.out hb3
  clear hb3 HB2  
  go_upto_region 2 with fail
  have HC4 : Aside ((w3.alloc (.cells #[.int .i64 1, .int .i64 1, .int .i64 1, .int .i64 2, .int .i64 5, .int .i64 10, .int .i64 0, .int .i64 0, .int .i64 0, .int .i64 0, .slice s3 0 o3, .slice t3 0 p3] 47)).heap[w3.heap.size]? = some (boxC (⟨1, 1, ⟨1, 2, 5, 10, 0⟩, 0, 0, 0, [], []⟩ : Cl) (.slice s3 0 o3) (.slice t3 0 p3))) := heap_new _ _
  have HB4 : Aside (Below w.heap.size w (w3.alloc (.cells #[.int .i64 1, .int .i64 1, .int .i64 1, .int .i64 2, .int .i64 5, .int .i64 10, .int .i64 0, .int .i64 0, .int .i64 0, .int .i64 0, .slice s3 0 o3, .slice t3 0 p3] 47))) := grew HB3.out _
  have lb1 : w.heap.size ≤ w3.heap.size := HB3.out.size
  clear HB3 
  generalize (w3.alloc (.cells #[.int .i64 1, .int .i64 1, .int .i64 1, .int .i64 2, .int .i64 5, .int .i64 10, .int .i64 0, .int .i64 0, .int .i64 0, .int .i64 0, .slice s3 0 o3, .slice t3 0 p3] 47)) = w4 at *
  generalize w3.heap.size = b1 at *
  clear kwant HB0
  have z : ∀ i, w4.cell? ⟨b1, i, none⟩ = #[Value.int .i64 1, .int .i64 1, .int .i64 1, .int .i64 2, .int .i64 5, .int .i64 10, .int .i64 0, .int .i64 0, .int .i64 0, .int .i64 0, .slice s3 0 o3, .slice t3 0 p3][i]? := fun i => Joins.cell_of_block HC4.out i
  go_wp2_with fail
  refine (kplace.out _ _ _ _ _).mono ?_
  rintro e w5 ⟨s5, o5, t5, p5, rfl, hb5⟩
  have HC5 : Aside _ := heap_below HC4.out hb5 (heap_lt HC4.out)
  have HB5 : Aside (Below w.heap.size w w5) := step_below HB4.out hb5
  clear hb5 HB4 HC4 z
  clear kplace
  have z : ∀ i, w5.cell? ⟨b1, i, none⟩ = #[Value.int .i64 1, .int .i64 1, .int .i64 1, .int .i64 2, .int .i64 5, .int .i64 10, .int .i64 0, .int .i64 0, .int .i64 0, .int .i64 0, .slice s3 0 o3, .slice t3 0 p3][i]? := fun i => Joins.cell_of_block HC5.out i
  have fz : ∀ i, w5.frozen? ⟨b1, i, none⟩ = false := fun i => Joins.unfrozen_of_block HC5.out i
  go_upto_region 3 with fail
  clear z fz
  have HC6 : Aside (((((((((((((w5.setCell ⟨b1, 0, none⟩ (.int .i64 1)).setCell ⟨b1, 1, none⟩ (.int .i64 2)).setCell ⟨b1, 2, none⟩ (.int .i64 1)).setCell ⟨b1, 3, none⟩ (.int .i64 2)).setCell ⟨b1, 4, none⟩ (.int .i64 5)).setCell ⟨b1, 5, none⟩ (.int .i64 10)).setCell ⟨b1, 6, none⟩ (.int .i64 0)).setCell ⟨b1, 7, none⟩ (.int .i64 7)).setCell ⟨b1, 8, none⟩ (.int .i64 0)).setCell ⟨b1, 9, none⟩ (.int .i64 0)).setCell ⟨b1, 10, none⟩ (.slice s5 0 o5)).setCell ⟨b1, 11, none⟩ (.slice t5 0 p5)).heap[b1]? = some (boxC (⟨1, 2, ⟨1, 2, 5, 10, 0⟩, 7, 0, 0, [], []⟩ : Cl) (.slice s5 0 o5) (.slice t5 0 p5))) := st12_box HC5.out (⟨1, 2, ⟨1, 2, 5, 10, 0⟩, 7, 0, 0, [], []⟩ : Cl) (.slice s5 0 o5) (.slice t5 0 p5)
  have HB6 : Aside (Below w.heap.size w ((((((((((((w5.setCell ⟨b1, 0, none⟩ (.int .i64 1)).setCell ⟨b1, 1, none⟩ (.int .i64 2)).setCell ⟨b1, 2, none⟩ (.int .i64 1)).setCell ⟨b1, 3, none⟩ (.int .i64 2)).setCell ⟨b1, 4, none⟩ (.int .i64 5)).setCell ⟨b1, 5, none⟩ (.int .i64 10)).setCell ⟨b1, 6, none⟩ (.int .i64 0)).setCell ⟨b1, 7, none⟩ (.int .i64 7)).setCell ⟨b1, 8, none⟩ (.int .i64 0)).setCell ⟨b1, 9, none⟩ (.int .i64 0)).setCell ⟨b1, 10, none⟩ (.slice s5 0 o5)).setCell ⟨b1, 11, none⟩ (.slice t5 0 p5))) := st12_below HB5.out lb1 (⟨1, 2, ⟨1, 2, 5, 10, 0⟩, 7, 0, 0, [], []⟩ : Cl) (.slice s5 0 o5) (.slice t5 0 p5)
  clear HB5 HC5 
  generalize ((((((((((((w5.setCell ⟨b1, 0, none⟩ (.int .i64 1)).setCell ⟨b1, 1, none⟩ (.int .i64 2)).setCell ⟨b1, 2, none⟩ (.int .i64 1)).setCell ⟨b1, 3, none⟩ (.int .i64 2)).setCell ⟨b1, 4, none⟩ (.int .i64 5)).setCell ⟨b1, 5, none⟩ (.int .i64 10)).setCell ⟨b1, 6, none⟩ (.int .i64 0)).setCell ⟨b1, 7, none⟩ (.int .i64 7)).setCell ⟨b1, 8, none⟩ (.int .i64 0)).setCell ⟨b1, 9, none⟩ (.int .i64 0)).setCell ⟨b1, 10, none⟩ (.slice s5 0 o5)).setCell ⟨b1, 11, none⟩ (.slice t5 0 p5)) = w6 at *
  have z : ∀ i, w6.cell? ⟨b1, i, none⟩ = #[Value.int .i64 1, .int .i64 2, .int .i64 1, .int .i64 2, .int .i64 5, .int .i64 10, .int .i64 0, .int .i64 7, .int .i64 0, .int .i64 0, .slice s5 0 o5, .slice t5 0 p5][i]? := fun i => Joins.cell_of_block HC6.out i
  go_wp2_with fail
  refine (kjunk.out _ _ _ _ _).mono ?_
  rintro e w7 ⟨s7, o7, t7, p7, rfl, hb7⟩
  have HC7 : Aside _ := heap_below HC6.out hb7 (heap_lt HC6.out)
  have HB7 : Aside (Below w.heap.size w w7) := step_below HB6.out hb7
  clear hb7 HB6 HC6 z
  clear kjunk
  go_upto_region 4 with fail
  have HD8 : Aside ((w7.alloc (.cells #[.int .i64 1, .int .i64 1, .int .i64 1, .int .i64 2, .int .i64 5, .int .i64 10, .int .i64 0, .int .i64 0, .int .i64 0, .int .i64 0, .slice s7 0 o7, .slice t7 0 p7] 47)).heap[w7.heap.size]? = some (boxC (⟨1, 1, ⟨1, 2, 5, 10, 0⟩, 0, 0, 0, [], []⟩ : Cl) (.slice s7 0 o7) (.slice t7 0 p7))) := heap_new _ _
  have HC8 : Aside ((w7.alloc (.cells #[.int .i64 1, .int .i64 1, .int .i64 1, .int .i64 2, .int .i64 5, .int .i64 10, .int .i64 0, .int .i64 0, .int .i64 0, .int .i64 0, .slice s7 0 o7, .slice t7 0 p7] 47)).heap[_]? = some _) := heap_old HC7.out _
  have HB8 : Aside (Below w.heap.size w (w7.alloc (.cells #[.int .i64 1, .int .i64 1, .int .i64 1, .int .i64 2, .int .i64 5, .int .i64 10, .int .i64 0, .int .i64 0, .int .i64 0, .int .i64 0, .slice s7 0 o7, .slice t7 0 p7] 47))) := grew HB7.out _
  have lb4 : w.heap.size ≤ w7.heap.size := HB7.out.size
  have neb4b1 : w7.heap.size ≠ b1 := by have := heap_lt HC7.out; omega
  clear HB7 HC7
  generalize (w7.alloc (.cells #[.int .i64 1, .int .i64 1, .int .i64 1, .int .i64 2, .int .i64 5, .int .i64 10, .int .i64 0, .int .i64 0, .int .i64 0, .int .i64 0, .slice s7 0 o7, .slice t7 0 p7] 47)) = w8 at *
  generalize w7.heap.size = b4 at *
  go_wp2_with fail
  go_loopw [27] (fun i wr => ∃ (k : Nat) (s1 : Option Addr) (o1 : Nat) (t1 : Option Addr) (p1 : Nat), k ≤ 3 ∧ i = .int .i64 k ∧ Hid (wr.heap[b1]? = some (boxC (hk k) (.slice s1 0 o1) (.slice t1 0 p1))) ∧ Hid (wr.heap[b4]? = some (boxC (⟨1, 1, ⟨1, 2, 5, 10, 0⟩, 0, 0, 0, [], []⟩ : Cl) (.slice s7 0 o7) (.slice t7 0 p7))) ∧ Hid (Below w.heap.size w wr)) (fun i _ => 3 - (intOf i).toNat)
  case atStart => exact ⟨0, _, _, _, _, by omega, rfl, HC8.out, HD8.out, HB8.out⟩
  case round =>
    clear HC8 HD8 HB8
    obtain ⟨k, s1, o1, t1, p1, hk3, rfl, HC9, HD9, HB9⟩ := hrel
    by_cases hlt : k < 3
    · obtain ⟨c, hc⟩ : ∃ c, Hid (hk k = c) := ⟨_, rfl⟩
      obtain ⟨cx, hcx⟩ : ∃ c, Hid (hk (k + 1) = c) := ⟨_, rfl⟩
      have kh := khear.out k hlt
      rw [hc.out, hcx.out] at kh
      have KH : Aside _ := kh
      rw [hc.out] at HC9
      have ne_b4_b1 := neb4b1
      clear kh khear kfill kx kck neb4b1
      go_upto_region 7 with fail
      have H0 : HeldC w wr [(b1, boxC c (.slice s1 0 o1) (.slice t1 0 p1)), (b4, boxC (⟨1, 1, ⟨1, 2, 5, 10, 0⟩, 0, 0, 0, [], []⟩ : Cl) (.slice s7 0 o7) (.slice t7 0 p7))] [] := ⟨HB9.out, fun p hp => by
        simp only [List.mem_cons, List.not_mem_nil, or_false] at hp
        rcases hp with rfl | rfl
        · exact HC9.out
        · exact HD9.out
        , fun p hp => by cases hp⟩
      obtain ⟨P, hP0, hPs, hPH⟩ := heldC_letter H0
      have PS : Aside _ := hPs
      have PH : Aside _ := hPH
      have hS0 : P wr.drew := hPs _ _ hP0 (Below.refl _ _).drew
      clear H0 hP0 hPs hPH HB9 HC9 HD9
      refine wp_region_noPanic ?_
      refine region_L (P) 6 (by kernel_rfl) (hS0) (fun hHeld => ?_)
      clear hS0
      generalize wr.drew = X at *
      refine anyL_take (i := 0) (v := ?_) rfl (by kernel_rfl) (by kernel_rfl) (by kernel_rfl) (by kernel_rfl) (by kernel_rfl) (fun _ _ _ h => h) (Or.inl ⟨by rfl, ?_⟩) (by assumption) ?_
      rotate_left
      · (intro w0 hSw; have z := (show ∀ i, w0.cell? ⟨b1, i, none⟩ = #[Value.int .i64 c.p, .int .i64 c.d, .int .i64 c.e.k, .int .i64 c.e.j, .int .i64 c.e.v, .int .i64 c.e.t, .int .i64 c.e.c, .int .i64 c.a, .int .i64 c.l, .int .i64 c.n, .slice s1 0 o1, .slice t1 0 p1][i]? from fun i => Joins.cell_of_block ((PH.out w0 hSw).at (B := b1) (o := boxC c (.slice s1 0 o1) (.slice t1 0 p1)) (by simp)) i); clear hSw; go_simp; first | done | with_reducible rfl)
      try simp only [Act.put, List.setIfInBounds_toArray, List.set_cons_zero, List.set_cons_succ]
      refine anyL_one (i := 1) (by kernel_rfl) rfl (fun K hK => ?_)
      go_simp
      refine (put_low 2 5 10 _).mono ?_
      rintro e w10 ⟨rfl, hb10⟩
      refine hK.out _ _ (fun _ => PS.out _ _ hHeld hb10) (fun hNext => ?_)
      replace hNext := hNext (by kernel_rfl)
      clear hK K hHeld hb10
      try simp only [Act.put, List.setIfInBounds_toArray, List.set_cons_zero, List.set_cons_succ]
      refine anyL_one (i := 2) (by kernel_rfl) rfl (fun K hK => ?_)
      go_simp
      refine (KH.out _ _ _ _ _).mono ?_
      rintro e w11 ⟨s2, o2, t2, p2, rfl, hb11⟩
      refine hK.out _ _ (fun _ => PS.out _ _ hNext hb11) (fun hNext => ?_)
      replace hNext := hNext (by kernel_rfl)
      clear hK K hb11
      try simp only [Act.put, List.setIfInBounds_toArray, List.set_cons_zero, List.set_cons_succ]
      refine anyL_take (i := 3) (v := ?_) rfl (by kernel_rfl) (by kernel_rfl) (by kernel_rfl) (by kernel_rfl) (by kernel_rfl) (fun _ _ _ h => h) (Or.inl ⟨by rfl, ?_⟩) (by assumption) ?_
      rotate_left
      · (intro w0 hSw; (try dsimp only at hSw); go_simp; first | done | with_reducible rfl)
      try simp only [Act.put, List.setIfInBounds_toArray, List.set_cons_zero, List.set_cons_succ]
      refine anyL_take (i := 4) (v := ?_) rfl (by kernel_rfl) (by kernel_rfl) (by kernel_rfl) (by kernel_rfl) (by kernel_rfl) (fun _ _ _ h => h) (Or.inl ⟨by rfl, ?_⟩) (by assumption) ?_
      rotate_left
      · (intro w0 hSw; (try dsimp only at hSw); go_simp; first | done | with_reducible rfl)
      try simp only [Act.put, List.setIfInBounds_toArray, List.set_cons_zero, List.set_cons_succ]
      refine anyL_free (i := 5) (v := ?_) rfl (by kernel_rfl) (by kernel_rfl) (by kernel_rfl) (by kernel_rfl) (fun _ _ _ h => h) (Or.inl ⟨by rfl, ?_⟩) (by assumption) ?_
      rotate_left
      · (intro w0 _; go_simp; first | done | with_reducible rfl)
      try simp only [Act.put, List.setIfInBounds_toArray, List.set_cons_zero, List.set_cons_succ]
      have H2 := PH.out _ hNext
      have HC11 : Aside _ := H2.at (B := b1) (o := boxC c (.slice s1 0 o1) (.slice t1 0 p1)) (by simp)
      have HD11 : Aside _ := H2.at (B := b4) (o := boxC (⟨1, 1, ⟨1, 2, 5, 10, 0⟩, 0, 0, 0, [], []⟩ : Cl) (.slice s7 0 o7) (.slice t7 0 p7)) (by simp)
      have HB11 : Aside _ := H2.below
      have z : ∀ i, w11.cell? ⟨b1, i, none⟩ = #[Value.int .i64 c.p, .int .i64 c.d, .int .i64 c.e.k, .int .i64 c.e.j, .int .i64 c.e.v, .int .i64 c.e.t, .int .i64 c.e.c, .int .i64 c.a, .int .i64 c.l, .int .i64 c.n, .slice s1 0 o1, .slice t1 0 p1][i]? := fun i => Joins.cell_of_block HC11.out i
      have fz : ∀ i, w11.frozen? ⟨b1, i, none⟩ = false := fun i => Joins.unfrozen_of_block HC11.out i
      refine anyL_one (i := 6) (by kernel_rfl) rfl (fun K hK => ?_)
      go_simp
      refine hK.out _ _ (fun h => absurd h (by decide +kernel)) (fun _ => ?_)
      clear hK K
      try simp only [Act.put, List.setIfInBounds_toArray, List.set_cons_zero, List.set_cons_succ]
      refine anyL_one (i := 7) (by kernel_rfl) rfl (fun K hK => ?_)
      go_simp
      refine hK.out _ _ (fun h => absurd h (by decide +kernel)) (fun _ => ?_)
      clear hK K
      try simp only [Act.put, List.setIfInBounds_toArray, List.set_cons_zero, List.set_cons_succ]
      refine anyL_done (by kernel_rfl) ?_ _
      refine NoPanic.normal ?_
      try simp only [Act.put, List.setIfInBounds_toArray, List.set_cons_zero, List.set_cons_succ]
      clear z fz hNext H2 PS PH KH
      have HC12 : Aside (((((((((((((w11.setCell ⟨b1, 0, none⟩ (.int .i64 cx.p)).setCell ⟨b1, 1, none⟩ (.int .i64 cx.d)).setCell ⟨b1, 2, none⟩ (.int .i64 cx.e.k)).setCell ⟨b1, 3, none⟩ (.int .i64 cx.e.j)).setCell ⟨b1, 4, none⟩ (.int .i64 cx.e.v)).setCell ⟨b1, 5, none⟩ (.int .i64 cx.e.t)).setCell ⟨b1, 6, none⟩ (.int .i64 cx.e.c)).setCell ⟨b1, 7, none⟩ (.int .i64 cx.a)).setCell ⟨b1, 8, none⟩ (.int .i64 cx.l)).setCell ⟨b1, 9, none⟩ (.int .i64 cx.n)).setCell ⟨b1, 10, none⟩ (.slice s2 0 o2)).setCell ⟨b1, 11, none⟩ (.slice t2 0 p2)).heap[b1]? = some (boxC cx (.slice s2 0 o2) (.slice t2 0 p2))) := st12_box HC11.out cx (.slice s2 0 o2) (.slice t2 0 p2)
      have HD12 : Aside (((((((((((((w11.setCell ⟨b1, 0, none⟩ (.int .i64 cx.p)).setCell ⟨b1, 1, none⟩ (.int .i64 cx.d)).setCell ⟨b1, 2, none⟩ (.int .i64 cx.e.k)).setCell ⟨b1, 3, none⟩ (.int .i64 cx.e.j)).setCell ⟨b1, 4, none⟩ (.int .i64 cx.e.v)).setCell ⟨b1, 5, none⟩ (.int .i64 cx.e.t)).setCell ⟨b1, 6, none⟩ (.int .i64 cx.e.c)).setCell ⟨b1, 7, none⟩ (.int .i64 cx.a)).setCell ⟨b1, 8, none⟩ (.int .i64 cx.l)).setCell ⟨b1, 9, none⟩ (.int .i64 cx.n)).setCell ⟨b1, 10, none⟩ (.slice s2 0 o2)).setCell ⟨b1, 11, none⟩ (.slice t2 0 p2)).heap[b4]? = some _) := (by
        rw [Below.heap_setCell _ _ _ _ (by exact ne_b4_b1), Below.heap_setCell _ _ _ _ (by exact ne_b4_b1), Below.heap_setCell _ _ _ _ (by exact ne_b4_b1), Below.heap_setCell _ _ _ _ (by exact ne_b4_b1), Below.heap_setCell _ _ _ _ (by exact ne_b4_b1), Below.heap_setCell _ _ _ _ (by exact ne_b4_b1), Below.heap_setCell _ _ _ _ (by exact ne_b4_b1), Below.heap_setCell _ _ _ _ (by exact ne_b4_b1), Below.heap_setCell _ _ _ _ (by exact ne_b4_b1), Below.heap_setCell _ _ _ _ (by exact ne_b4_b1), Below.heap_setCell _ _ _ _ (by exact ne_b4_b1), Below.heap_setCell _ _ _ _ (by exact ne_b4_b1)]
        exact HD11.out)
      have HB12 : Aside (Below w.heap.size w ((((((((((((w11.setCell ⟨b1, 0, none⟩ (.int .i64 cx.p)).setCell ⟨b1, 1, none⟩ (.int .i64 cx.d)).setCell ⟨b1, 2, none⟩ (.int .i64 cx.e.k)).setCell ⟨b1, 3, none⟩ (.int .i64 cx.e.j)).setCell ⟨b1, 4, none⟩ (.int .i64 cx.e.v)).setCell ⟨b1, 5, none⟩ (.int .i64 cx.e.t)).setCell ⟨b1, 6, none⟩ (.int .i64 cx.e.c)).setCell ⟨b1, 7, none⟩ (.int .i64 cx.a)).setCell ⟨b1, 8, none⟩ (.int .i64 cx.l)).setCell ⟨b1, 9, none⟩ (.int .i64 cx.n)).setCell ⟨b1, 10, none⟩ (.slice s2 0 o2)).setCell ⟨b1, 11, none⟩ (.slice t2 0 p2))) := st12_below HB11.out lb1 cx (.slice s2 0 o2) (.slice t2 0 p2)
      clear HB11 HC11 HD11
      generalize ((((((((((((w11.setCell ⟨b1, 0, none⟩ (.int .i64 cx.p)).setCell ⟨b1, 1, none⟩ (.int .i64 cx.d)).setCell ⟨b1, 2, none⟩ (.int .i64 cx.e.k)).setCell ⟨b1, 3, none⟩ (.int .i64 cx.e.j)).setCell ⟨b1, 4, none⟩ (.int .i64 cx.e.v)).setCell ⟨b1, 5, none⟩ (.int .i64 cx.e.t)).setCell ⟨b1, 6, none⟩ (.int .i64 cx.e.c)).setCell ⟨b1, 7, none⟩ (.int .i64 cx.a)).setCell ⟨b1, 8, none⟩ (.int .i64 cx.l)).setCell ⟨b1, 9, none⟩ (.int .i64 cx.n)).setCell ⟨b1, 10, none⟩ (.slice s2 0 o2)).setCell ⟨b1, 11, none⟩ (.slice t2 0 p2)) = w12 at *
      go_wp2
      go_roundw
      case rel => exact ⟨k + 1, s2, o2, t2, p2, by omega, by go_num, by rw [hcx.out]; exact HC12.out, HD12.out, HB12.out⟩
      case measure => simp [intOf]; omega
    · obtain rfl : k = 3 := by omega
      have HC10 : Aside (wr.heap[b1]? = some (boxC (⟨1, 0, ⟨0, 0, 0, 0, 0⟩, 0, 0, 0, [], []⟩ : Cl) (.slice s1 0 o1) (.slice t1 0 p1))) := HC9.out
      have HD10 : Aside _ := HD9.out
      have HB10 : Aside _ := HB9.out
      have ne_b4_b1 := neb4b1
      clear HC9 HD9 HB9 khear neb4b1
      go_wp2_with fail
      refine (cl_new _).mono ?_
      rintro e w11 ⟨rfl, hb11⟩
      have HC11 : Aside _ := heap_below HC10.out hb11 (heap_lt HC10.out)
      have HD11 : Aside _ := heap_below HD10.out hb11 (heap_lt HD10.out)
      have HB11 : Aside (Below w.heap.size w w11) := step_below HB10.out hb11
      clear hb11 HB10 HC10 HD10 
      go_wp2_with fail
      refine (kfill.out _).mono ?_
      rintro e w12 ⟨s12, o12, t12, p12, rfl, hb12⟩
      have HC12 : Aside _ := heap_below HC11.out hb12 (heap_lt HC11.out)
      have HD12 : Aside _ := heap_below HD11.out hb12 (heap_lt HD11.out)
      have HB12 : Aside (Below w.heap.size w w12) := step_below HB11.out hb12
      clear hb12 HB11 HC11 HD11 
      go_upto_region 12 with fail
      have HX13 : Aside ((w12.alloc (.cells #[.int .i64 1, .int .i64 2, .int .i64 0, .int .i64 0, .int .i64 0, .int .i64 0, .int .i64 0, .int .i64 3, .int .i64 0, .int .i64 0, .slice s12 0 o12, .slice t12 0 p12] 47)).heap[w12.heap.size]? = some (boxC (⟨1, 2, ⟨0, 0, 0, 0, 0⟩, 3, 0, 0, [], []⟩ : Cl) (.slice s12 0 o12) (.slice t12 0 p12))) := heap_new _ _
      have HC13 : Aside ((w12.alloc (.cells #[.int .i64 1, .int .i64 2, .int .i64 0, .int .i64 0, .int .i64 0, .int .i64 0, .int .i64 0, .int .i64 3, .int .i64 0, .int .i64 0, .slice s12 0 o12, .slice t12 0 p12] 47)).heap[_]? = some _) := heap_old HC12.out _
      have HD13 : Aside ((w12.alloc (.cells #[.int .i64 1, .int .i64 2, .int .i64 0, .int .i64 0, .int .i64 0, .int .i64 0, .int .i64 0, .int .i64 3, .int .i64 0, .int .i64 0, .slice s12 0 o12, .slice t12 0 p12] 47)).heap[_]? = some _) := heap_old HD12.out _
      have HB13 : Aside (Below w.heap.size w (w12.alloc (.cells #[.int .i64 1, .int .i64 2, .int .i64 0, .int .i64 0, .int .i64 0, .int .i64 0, .int .i64 0, .int .i64 3, .int .i64 0, .int .i64 0, .slice s12 0 o12, .slice t12 0 p12] 47))) := grew HB12.out _
      have lb7 : w.heap.size ≤ w12.heap.size := HB12.out.size
      have neb7b1 : w12.heap.size ≠ b1 := by have := heap_lt HC12.out; omega
      have neb7b4 : w12.heap.size ≠ b4 := by have := heap_lt HD12.out; omega
      clear HB12 HC12 HD12
      generalize (w12.alloc (.cells #[.int .i64 1, .int .i64 2, .int .i64 0, .int .i64 0, .int .i64 0, .int .i64 0, .int .i64 0, .int .i64 3, .int .i64 0, .int .i64 0, .slice s12 0 o12, .slice t12 0 p12] 47)) = w13 at *
      generalize w12.heap.size = b7 at *
      have ne_b4_b7 : b4 ≠ b7 := fun e => neb7b4 e.symm
      have ne_b1_b7 : b1 ≠ b7 := fun e => neb7b1 e.symm
      clear kfill neb7b4 neb7b1
      have H0 : HeldC w w13 [(b7, boxC (⟨1, 2, ⟨0, 0, 0, 0, 0⟩, 3, 0, 0, [], []⟩ : Cl) (.slice s12 0 o12) (.slice t12 0 p12)), (b1, boxC (⟨1, 0, ⟨0, 0, 0, 0, 0⟩, 0, 0, 0, [], []⟩ : Cl) (.slice s1 0 o1) (.slice t1 0 p1)), (b4, boxC (⟨1, 1, ⟨1, 2, 5, 10, 0⟩, 0, 0, 0, [], []⟩ : Cl) (.slice s7 0 o7) (.slice t7 0 p7))] [] := ⟨HB13.out, fun p hp => by
        simp only [List.mem_cons, List.not_mem_nil, or_false] at hp
        rcases hp with rfl | rfl | rfl
        · exact HX13.out
        · exact HC13.out
        · exact HD13.out
        , fun p hp => by cases hp⟩
      obtain ⟨P, hP0, hPs, hPH⟩ := heldC_letter H0
      have PS : Aside _ := hPs
      have PH : Aside _ := hPH
      have hS0 : P w13.drew := hPs _ _ hP0 (Below.refl _ _).drew
      clear H0 hP0 hPs hPH HB13 HX13 HC13 HD13
      refine wp_region_noPanic ?_
      refine region_L (P) 6 (by kernel_rfl) (hS0) (fun hHeld => ?_)
      clear hS0
      generalize w13.drew = X at *
      refine anyL_take (i := 0) (v := ?_) rfl (by kernel_rfl) (by kernel_rfl) (by kernel_rfl) (by kernel_rfl) (by kernel_rfl) (fun _ _ _ h => h) (Or.inl ⟨by rfl, ?_⟩) (by assumption) ?_
      rotate_left
      · (intro w0 hSw; have z := (show ∀ i, w0.cell? ⟨b7, i, none⟩ = #[Value.int .i64 1, .int .i64 2, .int .i64 0, .int .i64 0, .int .i64 0, .int .i64 0, .int .i64 0, .int .i64 3, .int .i64 0, .int .i64 0, .slice s12 0 o12, .slice t12 0 p12][i]? from fun i => Joins.cell_of_block ((PH.out w0 hSw).at (B := b7) (o := boxC (⟨1, 2, ⟨0, 0, 0, 0, 0⟩, 3, 0, 0, [], []⟩ : Cl) (.slice s12 0 o12) (.slice t12 0 p12)) (by simp)) i); clear hSw; go_simp; first | done | with_reducible rfl)
      try simp only [Act.put, List.setIfInBounds_toArray, List.set_cons_zero, List.set_cons_succ]
      refine anyL_one (i := 1) (by kernel_rfl) rfl (fun K hK => ?_)
      go_simp
      refine (put_low 2 5 10 _).mono ?_
      rintro e w14 ⟨rfl, hb14⟩
      refine hK.out _ _ (fun _ => PS.out _ _ hHeld hb14) (fun hNext => ?_)
      replace hNext := hNext (by kernel_rfl)
      clear hK K hHeld hb14
      try simp only [Act.put, List.setIfInBounds_toArray, List.set_cons_zero, List.set_cons_succ]
      refine anyL_one (i := 2) (by kernel_rfl) rfl (fun K hK => ?_)
      go_simp
      refine (kx.out _ _ _ _ _).mono ?_
      rintro e w15 ⟨s15, o15, t15, p15, rfl, hb15⟩
      refine hK.out _ _ (fun _ => PS.out _ _ hNext hb15) (fun hNext => ?_)
      replace hNext := hNext (by kernel_rfl)
      clear hK K hb15
      try simp only [Act.put, List.setIfInBounds_toArray, List.set_cons_zero, List.set_cons_succ]
      refine anyL_take (i := 3) (v := ?_) rfl (by kernel_rfl) (by kernel_rfl) (by kernel_rfl) (by kernel_rfl) (by kernel_rfl) (fun _ _ _ h => h) (Or.inl ⟨by rfl, ?_⟩) (by assumption) ?_
      rotate_left
      · (intro w0 hSw; (try dsimp only at hSw); go_simp; first | done | with_reducible rfl)
      try simp only [Act.put, List.setIfInBounds_toArray, List.set_cons_zero, List.set_cons_succ]
      refine anyL_take (i := 4) (v := ?_) rfl (by kernel_rfl) (by kernel_rfl) (by kernel_rfl) (by kernel_rfl) (by kernel_rfl) (fun _ _ _ h => h) (Or.inl ⟨by rfl, ?_⟩) (by assumption) ?_
      rotate_left
      · (intro w0 hSw; (try dsimp only at hSw); go_simp; first | done | with_reducible rfl)
      try simp only [Act.put, List.setIfInBounds_toArray, List.set_cons_zero, List.set_cons_succ]
      refine anyL_free (i := 5) (v := ?_) rfl (by kernel_rfl) (by kernel_rfl) (by kernel_rfl) (by kernel_rfl) (fun _ _ _ h => h) (Or.inl ⟨by rfl, ?_⟩) (by assumption) ?_
      rotate_left
      · (intro w0 _; go_simp; first | done | with_reducible rfl)
      try simp only [Act.put, List.setIfInBounds_toArray, List.set_cons_zero, List.set_cons_succ]
      have H2 := PH.out _ hNext
      have HX15 : Aside _ := H2.at (B := b7) (o := boxC (⟨1, 2, ⟨0, 0, 0, 0, 0⟩, 3, 0, 0, [], []⟩ : Cl) (.slice s12 0 o12) (.slice t12 0 p12)) (by simp)
      have HC15 : Aside _ := H2.at (B := b1) (o := boxC (⟨1, 0, ⟨0, 0, 0, 0, 0⟩, 0, 0, 0, [], []⟩ : Cl) (.slice s1 0 o1) (.slice t1 0 p1)) (by simp)
      have HD15 : Aside _ := H2.at (B := b4) (o := boxC (⟨1, 1, ⟨1, 2, 5, 10, 0⟩, 0, 0, 0, [], []⟩ : Cl) (.slice s7 0 o7) (.slice t7 0 p7)) (by simp)
      have HB15 : Aside _ := H2.below
      have z : ∀ i, w15.cell? ⟨b7, i, none⟩ = #[Value.int .i64 1, .int .i64 2, .int .i64 0, .int .i64 0, .int .i64 0, .int .i64 0, .int .i64 0, .int .i64 3, .int .i64 0, .int .i64 0, .slice s12 0 o12, .slice t12 0 p12][i]? := fun i => Joins.cell_of_block HX15.out i
      have fz : ∀ i, w15.frozen? ⟨b7, i, none⟩ = false := fun i => Joins.unfrozen_of_block HX15.out i
      refine anyL_one (i := 6) (by kernel_rfl) rfl (fun K hK => ?_)
      go_simp
      refine hK.out _ _ (fun h => absurd h (by decide +kernel)) (fun _ => ?_)
      clear hK K
      try simp only [Act.put, List.setIfInBounds_toArray, List.set_cons_zero, List.set_cons_succ]
      refine anyL_one (i := 7) (by kernel_rfl) rfl (fun K hK => ?_)
      go_simp
      refine hK.out _ _ (fun h => absurd h (by decide +kernel)) (fun _ => ?_)
      clear hK K
      try simp only [Act.put, List.setIfInBounds_toArray, List.set_cons_zero, List.set_cons_succ]
      refine anyL_done (by kernel_rfl) ?_ _
      refine NoPanic.normal ?_
      try simp only [Act.put, List.setIfInBounds_toArray, List.set_cons_zero, List.set_cons_succ]
      clear z fz hNext H2 PS PH kx
      have HX16 : Aside (((((((((((((w15.setCell ⟨b7, 0, none⟩ (.int .i64 1)).setCell ⟨b7, 1, none⟩ (.int .i64 2)).setCell ⟨b7, 2, none⟩ (.int .i64 1)).setCell ⟨b7, 3, none⟩ (.int .i64 2)).setCell ⟨b7, 4, none⟩ (.int .i64 5)).setCell ⟨b7, 5, none⟩ (.int .i64 10)).setCell ⟨b7, 6, none⟩ (.int .i64 0)).setCell ⟨b7, 7, none⟩ (.int .i64 3)).setCell ⟨b7, 8, none⟩ (.int .i64 1)).setCell ⟨b7, 9, none⟩ (.int .i64 0)).setCell ⟨b7, 10, none⟩ (.slice s15 0 o15)).setCell ⟨b7, 11, none⟩ (.slice t15 0 p15)).heap[b7]? = some (boxC (⟨1, 2, ⟨1, 2, 5, 10, 0⟩, 3, 1, 0, [], []⟩ : Cl) (.slice s15 0 o15) (.slice t15 0 p15))) := st12_box HX15.out (⟨1, 2, ⟨1, 2, 5, 10, 0⟩, 3, 1, 0, [], []⟩ : Cl) (.slice s15 0 o15) (.slice t15 0 p15)
      have HC16 : Aside (((((((((((((w15.setCell ⟨b7, 0, none⟩ (.int .i64 1)).setCell ⟨b7, 1, none⟩ (.int .i64 2)).setCell ⟨b7, 2, none⟩ (.int .i64 1)).setCell ⟨b7, 3, none⟩ (.int .i64 2)).setCell ⟨b7, 4, none⟩ (.int .i64 5)).setCell ⟨b7, 5, none⟩ (.int .i64 10)).setCell ⟨b7, 6, none⟩ (.int .i64 0)).setCell ⟨b7, 7, none⟩ (.int .i64 3)).setCell ⟨b7, 8, none⟩ (.int .i64 1)).setCell ⟨b7, 9, none⟩ (.int .i64 0)).setCell ⟨b7, 10, none⟩ (.slice s15 0 o15)).setCell ⟨b7, 11, none⟩ (.slice t15 0 p15)).heap[b1]? = some _) := (by
        rw [Below.heap_setCell _ _ _ _ (by exact ne_b1_b7), Below.heap_setCell _ _ _ _ (by exact ne_b1_b7), Below.heap_setCell _ _ _ _ (by exact ne_b1_b7), Below.heap_setCell _ _ _ _ (by exact ne_b1_b7), Below.heap_setCell _ _ _ _ (by exact ne_b1_b7), Below.heap_setCell _ _ _ _ (by exact ne_b1_b7), Below.heap_setCell _ _ _ _ (by exact ne_b1_b7), Below.heap_setCell _ _ _ _ (by exact ne_b1_b7), Below.heap_setCell _ _ _ _ (by exact ne_b1_b7), Below.heap_setCell _ _ _ _ (by exact ne_b1_b7), Below.heap_setCell _ _ _ _ (by exact ne_b1_b7), Below.heap_setCell _ _ _ _ (by exact ne_b1_b7)]
        exact HC15.out)
      have HD16 : Aside (((((((((((((w15.setCell ⟨b7, 0, none⟩ (.int .i64 1)).setCell ⟨b7, 1, none⟩ (.int .i64 2)).setCell ⟨b7, 2, none⟩ (.int .i64 1)).setCell ⟨b7, 3, none⟩ (.int .i64 2)).setCell ⟨b7, 4, none⟩ (.int .i64 5)).setCell ⟨b7, 5, none⟩ (.int .i64 10)).setCell ⟨b7, 6, none⟩ (.int .i64 0)).setCell ⟨b7, 7, none⟩ (.int .i64 3)).setCell ⟨b7, 8, none⟩ (.int .i64 1)).setCell ⟨b7, 9, none⟩ (.int .i64 0)).setCell ⟨b7, 10, none⟩ (.slice s15 0 o15)).setCell ⟨b7, 11, none⟩ (.slice t15 0 p15)).heap[b4]? = some _) := (by
        rw [Below.heap_setCell _ _ _ _ (by exact ne_b4_b7), Below.heap_setCell _ _ _ _ (by exact ne_b4_b7), Below.heap_setCell _ _ _ _ (by exact ne_b4_b7), Below.heap_setCell _ _ _ _ (by exact ne_b4_b7), Below.heap_setCell _ _ _ _ (by exact ne_b4_b7), Below.heap_setCell _ _ _ _ (by exact ne_b4_b7), Below.heap_setCell _ _ _ _ (by exact ne_b4_b7), Below.heap_setCell _ _ _ _ (by exact ne_b4_b7), Below.heap_setCell _ _ _ _ (by exact ne_b4_b7), Below.heap_setCell _ _ _ _ (by exact ne_b4_b7), Below.heap_setCell _ _ _ _ (by exact ne_b4_b7), Below.heap_setCell _ _ _ _ (by exact ne_b4_b7)]
        exact HD15.out)
      have HB16 : Aside (Below w.heap.size w ((((((((((((w15.setCell ⟨b7, 0, none⟩ (.int .i64 1)).setCell ⟨b7, 1, none⟩ (.int .i64 2)).setCell ⟨b7, 2, none⟩ (.int .i64 1)).setCell ⟨b7, 3, none⟩ (.int .i64 2)).setCell ⟨b7, 4, none⟩ (.int .i64 5)).setCell ⟨b7, 5, none⟩ (.int .i64 10)).setCell ⟨b7, 6, none⟩ (.int .i64 0)).setCell ⟨b7, 7, none⟩ (.int .i64 3)).setCell ⟨b7, 8, none⟩ (.int .i64 1)).setCell ⟨b7, 9, none⟩ (.int .i64 0)).setCell ⟨b7, 10, none⟩ (.slice s15 0 o15)).setCell ⟨b7, 11, none⟩ (.slice t15 0 p15))) := st12_below HB15.out lb7 (⟨1, 2, ⟨1, 2, 5, 10, 0⟩, 3, 1, 0, [], []⟩ : Cl) (.slice s15 0 o15) (.slice t15 0 p15)
      clear HB15 HX15 HC15 HD15
      generalize ((((((((((((w15.setCell ⟨b7, 0, none⟩ (.int .i64 1)).setCell ⟨b7, 1, none⟩ (.int .i64 2)).setCell ⟨b7, 2, none⟩ (.int .i64 1)).setCell ⟨b7, 3, none⟩ (.int .i64 2)).setCell ⟨b7, 4, none⟩ (.int .i64 5)).setCell ⟨b7, 5, none⟩ (.int .i64 10)).setCell ⟨b7, 6, none⟩ (.int .i64 0)).setCell ⟨b7, 7, none⟩ (.int .i64 3)).setCell ⟨b7, 8, none⟩ (.int .i64 1)).setCell ⟨b7, 9, none⟩ (.int .i64 0)).setCell ⟨b7, 10, none⟩ (.slice s15 0 o15)).setCell ⟨b7, 11, none⟩ (.slice t15 0 p15)) = w16 at *
      have H0 : HeldC w w16 [(b7, boxC (⟨1, 2, ⟨1, 2, 5, 10, 0⟩, 3, 1, 0, [], []⟩ : Cl) (.slice s15 0 o15) (.slice t15 0 p15)), (b1, boxC (⟨1, 0, ⟨0, 0, 0, 0, 0⟩, 0, 0, 0, [], []⟩ : Cl) (.slice s1 0 o1) (.slice t1 0 p1)), (b4, boxC (⟨1, 1, ⟨1, 2, 5, 10, 0⟩, 0, 0, 0, [], []⟩ : Cl) (.slice s7 0 o7) (.slice t7 0 p7))] [] := ⟨HB16.out, fun p hp => by
        simp only [List.mem_cons, List.not_mem_nil, or_false] at hp
        rcases hp with rfl | rfl | rfl
        · exact HX16.out
        · exact HC16.out
        · exact HD16.out
        , fun p hp => by cases hp⟩
      obtain ⟨P, hP0, hPs, hPH⟩ := heldC_letter H0
      have PS : Aside _ := hPs
      have PH : Aside _ := hPH
      have hS0 : P w16.drew := hPs _ _ hP0 (Below.refl _ _).drew
      have hq : ∀ W, (binOp .eql 24 (ev 1 2 5 10 0) (ev 1 2 5 10 0)).run Try.prog W = .ok (.bool true) W := fun W => by rw [eql_entry]; rfl
      clear H0 hP0 hPs hPH HB16 HX16 HC16 HD16
      go_upto_region 13 with fail
      refine wp_region_held_drew (S := P) (by kernel_rfl) (hS0) (fun hHeld => ?_)
      clear hS0
      generalize w16.drew = X at *
      refine wpAnyH_take (i := 0) (oi := ?oi0) (v := ?v0) ?hi0 ?hs0 ?hf0 ?hr0 ?hQ0 (Or.inl ⟨?hw0, ?hy0⟩) (by assumption) ?h0
      case hi0 => (simp only [List.getElem?_toArray, List.getElem?_cons_succ, List.getElem?_cons_zero]; rfl)
      case hs0 => kernel_rfl
      case hf0 => kernel_rfl
      case hr0 => kernel_rfl
      case hw0 => rfl
      case hy0 => (intro w0 hSw; (try dsimp only at hSw); go_simp; first | done | with_reducible rfl)
      case hQ0 => exact fun _ _ _ h => h
      try simp only [Act.put, List.setIfInBounds_toArray, List.set_cons_zero, List.set_cons_succ]
      refine wpAnyH_take (i := 1) (oi := ?oi1) (v := ?v1) ?hi1 ?hs1 ?hf1 ?hr1 ?hQ1 (Or.inl ⟨?hw1, ?hy1⟩) (by assumption) ?h1
      case hi1 => (simp only [List.getElem?_toArray, List.getElem?_cons_succ, List.getElem?_cons_zero]; rfl)
      case hs1 => kernel_rfl
      case hf1 => kernel_rfl
      case hr1 => kernel_rfl
      case hw1 => rfl
      case hy1 => (intro w0 hSw; (try dsimp only at hSw); go_simp; first | done | with_reducible rfl)
      case hQ1 => exact fun _ _ _ h => h
      try simp only [Act.put, List.setIfInBounds_toArray, List.set_cons_zero, List.set_cons_succ]
      refine wpAnyH_take (i := 2) (oi := ?oi2) (v := ?v2) ?hi2 ?hs2 ?hf2 ?hr2 ?hQ2 (Or.inl ⟨?hw2, ?hy2⟩) (by assumption) ?h2
      case hi2 => (simp only [List.getElem?_toArray, List.getElem?_cons_succ, List.getElem?_cons_zero]; rfl)
      case hs2 => kernel_rfl
      case hf2 => kernel_rfl
      case hr2 => kernel_rfl
      case hw2 => rfl
      case hy2 => (intro w0 hSw; (try dsimp only at hSw); go_simp; first | done | with_reducible rfl)
      case hQ2 => exact fun _ _ _ h => h
      try simp only [Act.put, List.setIfInBounds_toArray, List.set_cons_zero, List.set_cons_succ]
      refine wpAnyH_take (i := 3) (oi := ?oi3) (v := ?v3) ?hi3 ?hs3 ?hf3 ?hr3 ?hQ3 (Or.inl ⟨?hw3, ?hy3⟩) (by assumption) ?h3
      case hi3 => (simp only [List.getElem?_toArray, List.getElem?_cons_succ, List.getElem?_cons_zero]; rfl)
      case hs3 => kernel_rfl
      case hf3 => kernel_rfl
      case hr3 => kernel_rfl
      case hw3 => rfl
      case hy3 => (intro w0 hSw; (try dsimp only at hSw); go_simp; first | done | with_reducible rfl)
      case hQ3 => exact fun _ _ _ h => h
      try simp only [Act.put, List.setIfInBounds_toArray, List.set_cons_zero, List.set_cons_succ]
      refine wpAnyH_take (i := 4) (oi := ?oi4) (v := ?v4) ?hi4 ?hs4 ?hf4 ?hr4 ?hQ4 (Or.inl ⟨?hw4, ?hy4⟩) (by assumption) ?h4
      case hi4 => (simp only [List.getElem?_toArray, List.getElem?_cons_succ, List.getElem?_cons_zero]; rfl)
      case hs4 => kernel_rfl
      case hf4 => kernel_rfl
      case hr4 => kernel_rfl
      case hw4 => rfl
      case hy4 => (intro w0 hSw; (try dsimp only at hSw); go_simp; first | done | with_reducible rfl)
      case hQ4 => exact fun _ _ _ h => h
      try simp only [Act.put, List.setIfInBounds_toArray, List.set_cons_zero, List.set_cons_succ]
      refine wpAnyH_take (i := 5) (oi := ?oi5) (v := ?v5) ?hi5 ?hs5 ?hf5 ?hr5 ?hQ5 (Or.inl ⟨?hw5, ?hy5⟩) (by assumption) ?h5
      case hi5 => (simp only [List.getElem?_toArray, List.getElem?_cons_succ, List.getElem?_cons_zero]; rfl)
      case hs5 => kernel_rfl
      case hf5 => kernel_rfl
      case hr5 => kernel_rfl
      case hw5 => rfl
      case hy5 => (intro w0 hSw; (try dsimp only at hSw); go_simp; first | done | with_reducible rfl)
      case hQ5 => exact fun _ _ _ h => h
      try simp only [Act.put, List.setIfInBounds_toArray, List.set_cons_zero, List.set_cons_succ]
      refine wpAnyH_take (i := 6) (oi := ?oi6) (v := ?v6) ?hi6 ?hs6 ?hf6 ?hr6 ?hQ6 (Or.inl ⟨?hw6, ?hy6⟩) (by assumption) ?h6
      case hi6 => (simp only [List.getElem?_toArray, List.getElem?_cons_succ, List.getElem?_cons_zero]; rfl)
      case hs6 => kernel_rfl
      case hf6 => kernel_rfl
      case hr6 => kernel_rfl
      case hw6 => rfl
      case hy6 => (intro w0 hSw; (try dsimp only at hSw); go_simp; first | done | with_reducible rfl)
      case hQ6 => exact fun _ _ _ h => h
      try simp only [Act.put, List.setIfInBounds_toArray, List.set_cons_zero, List.set_cons_succ]
      refine wpAnyH_take (i := 7) (oi := ?oi7) (v := ?v7) ?hi7 ?hs7 ?hf7 ?hr7 ?hQ7 (Or.inl ⟨?hw7, ?hy7⟩) (by assumption) ?h7
      case hi7 => (simp only [List.getElem?_toArray, List.getElem?_cons_succ, List.getElem?_cons_zero]; rfl)
      case hs7 => kernel_rfl
      case hf7 => kernel_rfl
      case hr7 => kernel_rfl
      case hw7 => rfl
      case hy7 => (intro w0 hSw; (try dsimp only at hSw); go_simp; first | done | with_reducible rfl)
      case hQ7 => exact fun _ _ _ h => h
      try simp only [Act.put, List.setIfInBounds_toArray, List.set_cons_zero, List.set_cons_succ]
      refine wpAnyH_take (i := 8) (oi := ?oi8) (v := ?v8) ?hi8 ?hs8 ?hf8 ?hr8 ?hQ8 (Or.inl ⟨?hw8, ?hy8⟩) (by assumption) ?h8
      case hi8 => (simp only [List.getElem?_toArray, List.getElem?_cons_succ, List.getElem?_cons_zero]; rfl)
      case hs8 => kernel_rfl
      case hf8 => kernel_rfl
      case hr8 => kernel_rfl
      case hw8 => rfl
      case hy8 => (intro w0 hSw; (try dsimp only at hSw); go_simp; first | done | with_reducible rfl)
      case hQ8 => exact fun _ _ _ h => h
      try simp only [Act.put, List.setIfInBounds_toArray, List.set_cons_zero, List.set_cons_succ]
      refine wpAnyH_take (i := 9) (oi := ?oi9) (v := ?v9) ?hi9 ?hs9 ?hf9 ?hr9 ?hQ9 (Or.inl ⟨?hw9, ?hy9⟩) (by assumption) ?h9
      case hi9 => (simp only [List.getElem?_toArray, List.getElem?_cons_succ, List.getElem?_cons_zero]; rfl)
      case hs9 => kernel_rfl
      case hf9 => kernel_rfl
      case hr9 => kernel_rfl
      case hw9 => rfl
      case hy9 => (intro w0 hSw; (try dsimp only at hSw); go_simp; first | done | with_reducible rfl)
      case hQ9 => exact fun _ _ _ h => h
      try simp only [Act.put, List.setIfInBounds_toArray, List.set_cons_zero, List.set_cons_succ]
      refine wpAnyH_take (i := 10) (oi := ?oi10) (v := ?v10) ?hi10 ?hs10 ?hf10 ?hr10 ?hQ10 (Or.inl ⟨?hw10, ?hy10⟩) (by assumption) ?h10
      case hi10 => (simp only [List.getElem?_toArray, List.getElem?_cons_succ, List.getElem?_cons_zero]; rfl)
      case hs10 => kernel_rfl
      case hf10 => kernel_rfl
      case hr10 => kernel_rfl
      case hw10 => rfl
      case hy10 => (intro w0 hSw; (try dsimp only at hSw); go_simp; first | done | with_reducible rfl)
      case hQ10 => exact fun _ _ _ h => h
      try simp only [Act.put, List.setIfInBounds_toArray, List.set_cons_zero, List.set_cons_succ]
      refine wpAnyH_take (i := 11) (oi := ?oi11) (v := ?v11) ?hi11 ?hs11 ?hf11 ?hr11 ?hQ11 (Or.inl ⟨?hw11, ?hy11⟩) (by assumption) ?h11
      case hi11 => (simp only [List.getElem?_toArray, List.getElem?_cons_succ, List.getElem?_cons_zero]; rfl)
      case hs11 => kernel_rfl
      case hf11 => kernel_rfl
      case hr11 => kernel_rfl
      case hw11 => rfl
      case hy11 => (intro w0 hSw; (try dsimp only at hSw); go_simp; first | done | with_reducible rfl)
      case hQ11 => exact fun _ _ _ h => h
      try simp only [Act.put, List.setIfInBounds_toArray, List.set_cons_zero, List.set_cons_succ]
      refine wpAnyH_take (i := 12) (oi := ?oi12) (v := ?v12) ?hi12 ?hs12 ?hf12 ?hr12 ?hQ12 (Or.inl ⟨?hw12, ?hy12⟩) (by assumption) ?h12
      case hi12 => (simp only [List.getElem?_toArray, List.getElem?_cons_succ, List.getElem?_cons_zero]; rfl)
      case hs12 => kernel_rfl
      case hf12 => kernel_rfl
      case hr12 => kernel_rfl
      case hw12 => rfl
      case hy12 => (intro w0 hSw; (try dsimp only at hSw); go_simp; first | done | with_reducible rfl)
      case hQ12 => exact fun _ _ _ h => h
      try simp only [Act.put, List.setIfInBounds_toArray, List.set_cons_zero, List.set_cons_succ]
      refine wpAnyH_take (i := 13) (oi := ?oi13) (v := ?v13) ?hi13 ?hs13 ?hf13 ?hr13 ?hQ13 (Or.inl ⟨?hw13, ?hy13⟩) (by assumption) ?h13
      case hi13 => (simp only [List.getElem?_toArray, List.getElem?_cons_succ, List.getElem?_cons_zero]; rfl)
      case hs13 => kernel_rfl
      case hf13 => kernel_rfl
      case hr13 => kernel_rfl
      case hw13 => rfl
      case hy13 => (intro w0 hSw; (try dsimp only at hSw); go_simp; first | done | with_reducible rfl)
      case hQ13 => exact fun _ _ _ h => h
      try simp only [Act.put, List.setIfInBounds_toArray, List.set_cons_zero, List.set_cons_succ]
      refine wpAnyH_take (i := 14) (oi := ?oi14) (v := ?v14) ?hi14 ?hs14 ?hf14 ?hr14 ?hQ14 (Or.inl ⟨?hw14, ?hy14⟩) (by assumption) ?h14
      case hi14 => (simp only [List.getElem?_toArray, List.getElem?_cons_succ, List.getElem?_cons_zero]; rfl)
      case hs14 => kernel_rfl
      case hf14 => kernel_rfl
      case hr14 => kernel_rfl
      case hw14 => rfl
      case hy14 => (intro w0 hSw; (try dsimp only at hSw); go_simp; first | done | with_reducible rfl)
      case hQ14 => exact fun _ _ _ h => h
      try simp only [Act.put, List.setIfInBounds_toArray, List.set_cons_zero, List.set_cons_succ]
      refine wpAnyH_take (i := 15) (oi := ?oi15) (v := ?v15) ?hi15 ?hs15 ?hf15 ?hr15 ?hQ15 (Or.inl ⟨?hw15, ?hy15⟩) (by assumption) ?h15
      case hi15 => (simp only [List.getElem?_toArray, List.getElem?_cons_succ, List.getElem?_cons_zero]; rfl)
      case hs15 => kernel_rfl
      case hf15 => kernel_rfl
      case hr15 => kernel_rfl
      case hw15 => rfl
      case hy15 => (intro w0 hSw; (try dsimp only at hSw); go_simp; first | done | with_reducible rfl)
      case hQ15 => exact fun _ _ _ h => h
      try simp only [Act.put, List.setIfInBounds_toArray, List.set_cons_zero, List.set_cons_succ]
      refine wpAnyH_take (i := 16) (oi := ?oi16) (v := ?v16) ?hi16 ?hs16 ?hf16 ?hr16 ?hQ16 (Or.inl ⟨?hw16, ?hy16⟩) (by assumption) ?h16
      case hi16 => (simp only [List.getElem?_toArray, List.getElem?_cons_succ, List.getElem?_cons_zero]; rfl)
      case hs16 => kernel_rfl
      case hf16 => kernel_rfl
      case hr16 => kernel_rfl
      case hw16 => rfl
      case hy16 => (intro w0 hSw; (try dsimp only at hSw); go_simp; first | done | with_reducible rfl)
      case hQ16 => exact fun _ _ _ h => h
      try simp only [Act.put, List.setIfInBounds_toArray, List.set_cons_zero, List.set_cons_succ]
      refine wpAnyH_take (i := 17) (oi := ?oi17) (v := ?v17) ?hi17 ?hs17 ?hf17 ?hr17 ?hQ17 (Or.inl ⟨?hw17, ?hy17⟩) (by assumption) ?h17
      case hi17 => (simp only [List.getElem?_toArray, List.getElem?_cons_succ, List.getElem?_cons_zero]; rfl)
      case hs17 => kernel_rfl
      case hf17 => kernel_rfl
      case hr17 => kernel_rfl
      case hw17 => rfl
      case hy17 => (intro w0 hSw; (try dsimp only at hSw); go_simp; first | done | with_reducible rfl)
      case hQ17 => exact fun _ _ _ h => h
      try simp only [Act.put, List.setIfInBounds_toArray, List.set_cons_zero, List.set_cons_succ]
      refine wpAnyH_take (i := 18) (oi := ?oi18) (v := ?v18) ?hi18 ?hs18 ?hf18 ?hr18 ?hQ18 (Or.inl ⟨?hw18, ?hy18⟩) (by assumption) ?h18
      case hi18 => (simp only [List.getElem?_toArray, List.getElem?_cons_succ, List.getElem?_cons_zero]; rfl)
      case hs18 => kernel_rfl
      case hf18 => kernel_rfl
      case hr18 => kernel_rfl
      case hw18 => rfl
      case hy18 => (intro w0 hSw; (try dsimp only at hSw); go_simp; first | done | with_reducible rfl)
      case hQ18 => exact fun _ _ _ h => h
      try simp only [Act.put, List.setIfInBounds_toArray, List.set_cons_zero, List.set_cons_succ]
      refine wpAnyH_take (i := 19) (oi := ?oi19) (v := ?v19) ?hi19 ?hs19 ?hf19 ?hr19 ?hQ19 (Or.inl ⟨?hw19, ?hy19⟩) (by assumption) ?h19
      case hi19 => (simp only [List.getElem?_toArray, List.getElem?_cons_succ, List.getElem?_cons_zero]; rfl)
      case hs19 => kernel_rfl
      case hf19 => kernel_rfl
      case hr19 => kernel_rfl
      case hw19 => rfl
      case hy19 => (intro w0 hSw; (try dsimp only at hSw); go_simp; first | done | with_reducible rfl)
      case hQ19 => exact fun _ _ _ h => h
      try simp only [Act.put, List.setIfInBounds_toArray, List.set_cons_zero, List.set_cons_succ]
      refine wpAnyH_take (i := 20) (oi := ?oi20) (v := ?v20) ?hi20 ?hs20 ?hf20 ?hr20 ?hQ20 (Or.inl ⟨?hw20, ?hy20⟩) (by assumption) ?h20
      case hi20 => (simp only [List.getElem?_toArray, List.getElem?_cons_succ, List.getElem?_cons_zero]; rfl)
      case hs20 => kernel_rfl
      case hf20 => kernel_rfl
      case hr20 => kernel_rfl
      case hw20 => rfl
      case hy20 => (intro w0 hSw; have z := (show ∀ i, w0.cell? ⟨b4, i, none⟩ = #[Value.int .i64 1, .int .i64 1, .int .i64 1, .int .i64 2, .int .i64 5, .int .i64 10, .int .i64 0, .int .i64 0, .int .i64 0, .int .i64 0, .slice s7 0 o7, .slice t7 0 p7][i]? from fun i => Joins.cell_of_block ((PH.out w0 hSw).at (B := b4) (o := boxC (⟨1, 1, ⟨1, 2, 5, 10, 0⟩, 0, 0, 0, [], []⟩ : Cl) (.slice s7 0 o7) (.slice t7 0 p7)) (by simp)) i); clear hSw; go_simp; first | done | with_reducible rfl)
      case hQ20 => exact fun _ _ _ h => h
      try simp only [Act.put, List.setIfInBounds_toArray, List.set_cons_zero, List.set_cons_succ]
      refine wpAnyH_take (i := 21) (oi := ?oi21) (v := ?v21) ?hi21 ?hs21 ?hf21 ?hr21 ?hQ21 (Or.inl ⟨?hw21, ?hy21⟩) (by assumption) ?h21
      case hi21 => (simp only [List.getElem?_toArray, List.getElem?_cons_succ, List.getElem?_cons_zero]; rfl)
      case hs21 => kernel_rfl
      case hf21 => kernel_rfl
      case hr21 => kernel_rfl
      case hw21 => rfl
      case hy21 => (intro w0 hSw; (try dsimp only at hSw); go_simp; first | done | with_reducible rfl)
      case hQ21 => exact fun _ _ _ h => h
      try simp only [Act.put, List.setIfInBounds_toArray, List.set_cons_zero, List.set_cons_succ]
      refine wpAnyH_take (i := 22) (oi := ?oi22) (v := ?v22) ?hi22 ?hs22 ?hf22 ?hr22 ?hQ22 (Or.inl ⟨?hw22, ?hy22⟩) (by assumption) ?h22
      case hi22 => (simp only [List.getElem?_toArray, List.getElem?_cons_succ, List.getElem?_cons_zero]; rfl)
      case hs22 => kernel_rfl
      case hf22 => kernel_rfl
      case hr22 => kernel_rfl
      case hw22 => rfl
      case hy22 => (intro w0 hSw; (try dsimp only at hSw); go_simp; first | done | with_reducible rfl)
      case hQ22 => exact fun _ _ _ h => h
      try simp only [Act.put, List.setIfInBounds_toArray, List.set_cons_zero, List.set_cons_succ]
      refine wpAnyH_take (i := 23) (oi := ?oi23) (v := ?v23) ?hi23 ?hs23 ?hf23 ?hr23 ?hQ23 (Or.inl ⟨?hw23, ?hy23⟩) (by assumption) ?h23
      case hi23 => (simp only [List.getElem?_toArray, List.getElem?_cons_succ, List.getElem?_cons_zero]; rfl)
      case hs23 => kernel_rfl
      case hf23 => kernel_rfl
      case hr23 => kernel_rfl
      case hw23 => rfl
      case hy23 => (intro w0 hSw; (try dsimp only at hSw); go_simp; first | done | with_reducible rfl)
      case hQ23 => exact fun _ _ _ h => h
      try simp only [Act.put, List.setIfInBounds_toArray, List.set_cons_zero, List.set_cons_succ]
      refine wpAnyH_take (i := 24) (oi := ?oi24) (v := ?v24) ?hi24 ?hs24 ?hf24 ?hr24 ?hQ24 (Or.inl ⟨?hw24, ?hy24⟩) (by assumption) ?h24
      case hi24 => (simp only [List.getElem?_toArray, List.getElem?_cons_succ, List.getElem?_cons_zero]; rfl)
      case hs24 => kernel_rfl
      case hf24 => kernel_rfl
      case hr24 => kernel_rfl
      case hw24 => rfl
      case hy24 => (intro w0 hSw; (try dsimp only at hSw); go_simp; first | done | with_reducible rfl)
      case hQ24 => exact fun _ _ _ h => h
      try simp only [Act.put, List.setIfInBounds_toArray, List.set_cons_zero, List.set_cons_succ]
      refine wpAnyH_take (i := 25) (oi := ?oi25) (v := ?v25) ?hi25 ?hs25 ?hf25 ?hr25 ?hQ25 (Or.inl ⟨?hw25, ?hy25⟩) (by assumption) ?h25
      case hi25 => (simp only [List.getElem?_toArray, List.getElem?_cons_succ, List.getElem?_cons_zero]; rfl)
      case hs25 => kernel_rfl
      case hf25 => kernel_rfl
      case hr25 => kernel_rfl
      case hw25 => rfl
      case hy25 => (intro w0 hSw; have z := (show ∀ i, w0.cell? ⟨b4, i, none⟩ = #[Value.int .i64 1, .int .i64 1, .int .i64 1, .int .i64 2, .int .i64 5, .int .i64 10, .int .i64 0, .int .i64 0, .int .i64 0, .int .i64 0, .slice s7 0 o7, .slice t7 0 p7][i]? from fun i => Joins.cell_of_block ((PH.out w0 hSw).at (B := b4) (o := boxC (⟨1, 1, ⟨1, 2, 5, 10, 0⟩, 0, 0, 0, [], []⟩ : Cl) (.slice s7 0 o7) (.slice t7 0 p7)) (by simp)) i); clear hSw; go_simp; first | done | with_reducible rfl)
      case hQ25 => exact fun _ _ _ h => h
      try simp only [Act.put, List.setIfInBounds_toArray, List.set_cons_zero, List.set_cons_succ]
      refine wpAnyH_ready (rs := [26]) (by kernel_rfl) (by simp) ?_
      refine AllReadyH.cons (o := ?o26) ?hi26 ?step26 AllReadyH.nil
      case hi26 => (simp only [List.getElem?_toArray, List.getElem?_cons_succ, List.getElem?_cons_zero]; rfl)
      intro K hK
      go_simp
      refine (put_low 2 5 10 _).mono ?_
      rintro e wq ⟨rfl, hbq⟩
      refine hK.out _ _ (PS.out _ _ hHeld hbq) (fun hHeld => ?_)
      clear hK K
      try simp only [Act.put, List.setIfInBounds_toArray, List.set_cons_zero, List.set_cons_succ]
      clear hbq
      refine wpAnyH_take (i := 27) (oi := ?oi27) (v := ?v27) ?hi27 ?hs27 ?hf27 ?hr27 ?hQ27 (Or.inl ⟨?hw27, ?hy27⟩) (by assumption) ?h27
      case hi27 => (simp only [List.getElem?_toArray, List.getElem?_cons_succ, List.getElem?_cons_zero]; rfl)
      case hs27 => kernel_rfl
      case hf27 => kernel_rfl
      case hr27 => kernel_rfl
      case hw27 => rfl
      case hy27 => (intro w0 hSw; (try dsimp only at hSw); go_simp; first | done | with_reducible rfl)
      case hQ27 => exact fun _ _ _ h => h
      try simp only [Act.put, List.setIfInBounds_toArray, List.set_cons_zero, List.set_cons_succ]
      refine wpAnyH_take (i := 28) (oi := ?oi28) (v := ?v28) ?hi28 ?hs28 ?hf28 ?hr28 ?hQ28 (Or.inl ⟨?hw28, ?hy28⟩) (by assumption) ?h28
      case hi28 => (simp only [List.getElem?_toArray, List.getElem?_cons_succ, List.getElem?_cons_zero]; rfl)
      case hs28 => kernel_rfl
      case hf28 => kernel_rfl
      case hr28 => kernel_rfl
      case hw28 => rfl
      case hy28 => (intro w0 hSw; (try dsimp only at hSw); go_simp; first | done | with_reducible rfl)
      case hQ28 => exact fun _ _ _ h => h
      try simp only [Act.put, List.setIfInBounds_toArray, List.set_cons_zero, List.set_cons_succ]
      refine wpAnyH_take (i := 29) (oi := ?oi29) (v := ?v29) ?hi29 ?hs29 ?hf29 ?hr29 ?hQ29 (Or.inl ⟨?hw29, ?hy29⟩) (by assumption) ?h29
      case hi29 => (simp only [List.getElem?_toArray, List.getElem?_cons_succ, List.getElem?_cons_zero]; rfl)
      case hs29 => kernel_rfl
      case hf29 => kernel_rfl
      case hr29 => kernel_rfl
      case hw29 => rfl
      case hy29 => (intro w0 hSw; (try dsimp only at hSw); go_simp; first | done | with_reducible rfl)
      case hQ29 => exact fun _ _ _ h => h
      try simp only [Act.put, List.setIfInBounds_toArray, List.set_cons_zero, List.set_cons_succ]
      refine wpAnyH_take (i := 30) (oi := ?oi30) (v := ?v30) ?hi30 ?hs30 ?hf30 ?hr30 ?hQ30 (Or.inl ⟨?hw30, ?hy30⟩) (by assumption) ?h30
      case hi30 => (simp only [List.getElem?_toArray, List.getElem?_cons_succ, List.getElem?_cons_zero]; rfl)
      case hs30 => kernel_rfl
      case hf30 => kernel_rfl
      case hr30 => kernel_rfl
      case hw30 => rfl
      case hy30 => (intro w0 hSw; (try dsimp only at hSw); go_simp; first | done | with_reducible rfl)
      case hQ30 => exact fun _ _ _ h => h
      try simp only [Act.put, List.setIfInBounds_toArray, List.set_cons_zero, List.set_cons_succ]
      refine wpAnyH_take (i := 31) (oi := ?oi31) (v := ?v31) ?hi31 ?hs31 ?hf31 ?hr31 ?hQ31 (Or.inl ⟨?hw31, ?hy31⟩) (by assumption) ?h31
      case hi31 => (simp only [List.getElem?_toArray, List.getElem?_cons_succ, List.getElem?_cons_zero]; rfl)
      case hs31 => kernel_rfl
      case hf31 => kernel_rfl
      case hr31 => kernel_rfl
      case hw31 => rfl
      case hy31 => (intro w0 hSw; have z := (show ∀ i, w0.cell? ⟨b1, i, none⟩ = #[Value.int .i64 1, .int .i64 0, .int .i64 0, .int .i64 0, .int .i64 0, .int .i64 0, .int .i64 0, .int .i64 0, .int .i64 0, .int .i64 0, .slice s1 0 o1, .slice t1 0 p1][i]? from fun i => Joins.cell_of_block ((PH.out w0 hSw).at (B := b1) (o := boxC (⟨1, 0, ⟨0, 0, 0, 0, 0⟩, 0, 0, 0, [], []⟩ : Cl) (.slice s1 0 o1) (.slice t1 0 p1)) (by simp)) i); clear hSw; go_simp; first | done | with_reducible rfl)
      case hQ31 => exact fun _ _ _ h => h
      try simp only [Act.put, List.setIfInBounds_toArray, List.set_cons_zero, List.set_cons_succ]
      refine wpAnyH_take (i := 32) (oi := ?oi32) (v := ?v32) ?hi32 ?hs32 ?hf32 ?hr32 ?hQ32 (Or.inl ⟨?hw32, ?hy32⟩) (by assumption) ?h32
      case hi32 => (simp only [List.getElem?_toArray, List.getElem?_cons_succ, List.getElem?_cons_zero]; rfl)
      case hs32 => kernel_rfl
      case hf32 => kernel_rfl
      case hr32 => kernel_rfl
      case hw32 => rfl
      case hy32 => (intro w0 hSw; (try dsimp only at hSw); go_simp; first | done | with_reducible rfl)
      case hQ32 => exact fun _ _ _ h => h
      try simp only [Act.put, List.setIfInBounds_toArray, List.set_cons_zero, List.set_cons_succ]
      refine wpAnyH_take (i := 33) (oi := ?oi33) (v := ?v33) ?hi33 ?hs33 ?hf33 ?hr33 ?hQ33 (Or.inl ⟨?hw33, ?hy33⟩) (by assumption) ?h33
      case hi33 => (simp only [List.getElem?_toArray, List.getElem?_cons_succ, List.getElem?_cons_zero]; rfl)
      case hs33 => kernel_rfl
      case hf33 => kernel_rfl
      case hr33 => kernel_rfl
      case hw33 => rfl
      case hy33 => (intro w0 hSw; (try dsimp only at hSw); go_simp; first | done | with_reducible rfl)
      case hQ33 => exact fun _ _ _ h => h
      try simp only [Act.put, List.setIfInBounds_toArray, List.set_cons_zero, List.set_cons_succ]
      refine wpAnyH_take (i := 34) (oi := ?oi34) (v := ?v34) ?hi34 ?hs34 ?hf34 ?hr34 ?hQ34 (Or.inl ⟨?hw34, ?hy34⟩) (by assumption) ?h34
      case hi34 => (simp only [List.getElem?_toArray, List.getElem?_cons_succ, List.getElem?_cons_zero]; rfl)
      case hs34 => kernel_rfl
      case hf34 => kernel_rfl
      case hr34 => kernel_rfl
      case hw34 => rfl
      case hy34 => (intro w0 hSw; (try dsimp only at hSw); go_simp; first | done | with_reducible rfl)
      case hQ34 => exact fun _ _ _ h => h
      try simp only [Act.put, List.setIfInBounds_toArray, List.set_cons_zero, List.set_cons_succ]
      refine wpAnyH_take (i := 35) (oi := ?oi35) (v := ?v35) ?hi35 ?hs35 ?hf35 ?hr35 ?hQ35 (Or.inl ⟨?hw35, ?hy35⟩) (by assumption) ?h35
      case hi35 => (simp only [List.getElem?_toArray, List.getElem?_cons_succ, List.getElem?_cons_zero]; rfl)
      case hs35 => kernel_rfl
      case hf35 => kernel_rfl
      case hr35 => kernel_rfl
      case hw35 => rfl
      case hy35 => (intro w0 hSw; (try dsimp only at hSw); go_simp; first | done | with_reducible rfl)
      case hQ35 => exact fun _ _ _ h => h
      try simp only [Act.put, List.setIfInBounds_toArray, List.set_cons_zero, List.set_cons_succ]
      refine wpAnyH_take (i := 36) (oi := ?oi36) (v := ?v36) ?hi36 ?hs36 ?hf36 ?hr36 ?hQ36 (Or.inl ⟨?hw36, ?hy36⟩) (by assumption) ?h36
      case hi36 => (simp only [List.getElem?_toArray, List.getElem?_cons_succ, List.getElem?_cons_zero]; rfl)
      case hs36 => kernel_rfl
      case hf36 => kernel_rfl
      case hr36 => kernel_rfl
      case hw36 => rfl
      case hy36 => (intro w0 hSw; have z := (show ∀ i, w0.cell? ⟨b7, i, none⟩ = #[Value.int .i64 1, .int .i64 2, .int .i64 1, .int .i64 2, .int .i64 5, .int .i64 10, .int .i64 0, .int .i64 3, .int .i64 1, .int .i64 0, .slice s15 0 o15, .slice t15 0 p15][i]? from fun i => Joins.cell_of_block ((PH.out w0 hSw).at (B := b7) (o := boxC (⟨1, 2, ⟨1, 2, 5, 10, 0⟩, 3, 1, 0, [], []⟩ : Cl) (.slice s15 0 o15) (.slice t15 0 p15)) (by simp)) i); clear hSw; go_simp; first | done | with_reducible rfl)
      case hQ36 => exact fun _ _ _ h => h
      try simp only [Act.put, List.setIfInBounds_toArray, List.set_cons_zero, List.set_cons_succ]
      refine wpAnyH_take (i := 37) (oi := ?oi37) (v := ?v37) ?hi37 ?hs37 ?hf37 ?hr37 ?hQ37 (Or.inl ⟨?hw37, ?hy37⟩) (by assumption) ?h37
      case hi37 => (simp only [List.getElem?_toArray, List.getElem?_cons_succ, List.getElem?_cons_zero]; rfl)
      case hs37 => kernel_rfl
      case hf37 => kernel_rfl
      case hr37 => kernel_rfl
      case hw37 => rfl
      case hy37 => (intro w0 hSw; (try dsimp only at hSw); go_simp; first | done | with_reducible rfl)
      case hQ37 => exact fun _ _ _ h => h
      try simp only [Act.put, List.setIfInBounds_toArray, List.set_cons_zero, List.set_cons_succ]
      refine wpAnyH_take (i := 38) (oi := ?oi38) (v := ?v38) ?hi38 ?hs38 ?hf38 ?hr38 ?hQ38 (Or.inl ⟨?hw38, ?hy38⟩) (by assumption) ?h38
      case hi38 => (simp only [List.getElem?_toArray, List.getElem?_cons_succ, List.getElem?_cons_zero]; rfl)
      case hs38 => kernel_rfl
      case hf38 => kernel_rfl
      case hr38 => kernel_rfl
      case hw38 => rfl
      case hy38 => (intro w0 hSw; (try dsimp only at hSw); go_simp; first | done | with_reducible rfl)
      case hQ38 => exact fun _ _ _ h => h
      try simp only [Act.put, List.setIfInBounds_toArray, List.set_cons_zero, List.set_cons_succ]
      refine wpAnyH_take (i := 39) (oi := ?oi39) (v := ?v39) ?hi39 ?hs39 ?hf39 ?hr39 ?hQ39 (Or.inl ⟨?hw39, ?hy39⟩) (by assumption) ?h39
      case hi39 => (simp only [List.getElem?_toArray, List.getElem?_cons_succ, List.getElem?_cons_zero]; rfl)
      case hs39 => kernel_rfl
      case hf39 => kernel_rfl
      case hr39 => kernel_rfl
      case hw39 => rfl
      case hy39 => (intro w0 hSw; (try dsimp only at hSw); go_simp; first | done | with_reducible rfl)
      case hQ39 => exact fun _ _ _ h => h
      try simp only [Act.put, List.setIfInBounds_toArray, List.set_cons_zero, List.set_cons_succ]
      refine wpAnyH_take (i := 40) (oi := ?oi40) (v := ?v40) ?hi40 ?hs40 ?hf40 ?hr40 ?hQ40 (Or.inl ⟨?hw40, ?hy40⟩) (by assumption) ?h40
      case hi40 => (simp only [List.getElem?_toArray, List.getElem?_cons_succ, List.getElem?_cons_zero]; rfl)
      case hs40 => kernel_rfl
      case hf40 => kernel_rfl
      case hr40 => kernel_rfl
      case hw40 => rfl
      case hy40 => (intro w0 hSw; (try dsimp only at hSw); go_simp; first | done | with_reducible rfl)
      case hQ40 => exact fun _ _ _ h => h
      try simp only [Act.put, List.setIfInBounds_toArray, List.set_cons_zero, List.set_cons_succ]
      refine wpAnyH_take (i := 41) (oi := ?oi41) (v := ?v41) ?hi41 ?hs41 ?hf41 ?hr41 ?hQ41 (Or.inl ⟨?hw41, ?hy41⟩) (by assumption) ?h41
      case hi41 => (simp only [List.getElem?_toArray, List.getElem?_cons_succ, List.getElem?_cons_zero]; rfl)
      case hs41 => kernel_rfl
      case hf41 => kernel_rfl
      case hr41 => kernel_rfl
      case hw41 => rfl
      case hy41 => (intro w0 hSw; have z := (show ∀ i, w0.cell? ⟨b7, i, none⟩ = #[Value.int .i64 1, .int .i64 2, .int .i64 1, .int .i64 2, .int .i64 5, .int .i64 10, .int .i64 0, .int .i64 3, .int .i64 1, .int .i64 0, .slice s15 0 o15, .slice t15 0 p15][i]? from fun i => Joins.cell_of_block ((PH.out w0 hSw).at (B := b7) (o := boxC (⟨1, 2, ⟨1, 2, 5, 10, 0⟩, 3, 1, 0, [], []⟩ : Cl) (.slice s15 0 o15) (.slice t15 0 p15)) (by simp)) i); clear hSw; go_simp; first | done | with_reducible rfl)
      case hQ41 => exact fun _ _ _ h => h
      try simp only [Act.put, List.setIfInBounds_toArray, List.set_cons_zero, List.set_cons_succ]
      refine wpAnyH_take (i := 42) (oi := ?oi42) (v := ?v42) ?hi42 ?hs42 ?hf42 ?hr42 ?hQ42 (Or.inl ⟨?hw42, ?hy42⟩) (by assumption) ?h42
      case hi42 => (simp only [List.getElem?_toArray, List.getElem?_cons_succ, List.getElem?_cons_zero]; rfl)
      case hs42 => kernel_rfl
      case hf42 => kernel_rfl
      case hr42 => kernel_rfl
      case hw42 => rfl
      case hy42 => (intro w0 hSw; (try dsimp only at hSw); go_simp; first | done | with_reducible rfl)
      case hQ42 => exact fun _ _ _ h => h
      try simp only [Act.put, List.setIfInBounds_toArray, List.set_cons_zero, List.set_cons_succ]
      refine wpAnyH_take (i := 43) (oi := ?oi43) (v := ?v43) ?hi43 ?hs43 ?hf43 ?hr43 ?hQ43 (Or.inl ⟨?hw43, ?hy43⟩) (by assumption) ?h43
      case hi43 => (simp only [List.getElem?_toArray, List.getElem?_cons_succ, List.getElem?_cons_zero]; rfl)
      case hs43 => kernel_rfl
      case hf43 => kernel_rfl
      case hr43 => kernel_rfl
      case hw43 => rfl
      case hy43 => (intro w0 hSw; (try dsimp only at hSw); go_simp; first | done | with_reducible rfl)
      case hQ43 => exact fun _ _ _ h => h
      try simp only [Act.put, List.setIfInBounds_toArray, List.set_cons_zero, List.set_cons_succ]
      refine wpAnyH_take (i := 44) (oi := ?oi44) (v := ?v44) ?hi44 ?hs44 ?hf44 ?hr44 ?hQ44 (Or.inl ⟨?hw44, ?hy44⟩) (by assumption) ?h44
      case hi44 => (simp only [List.getElem?_toArray, List.getElem?_cons_succ, List.getElem?_cons_zero]; rfl)
      case hs44 => kernel_rfl
      case hf44 => kernel_rfl
      case hr44 => kernel_rfl
      case hw44 => rfl
      case hy44 => (intro w0 hSw; (try dsimp only at hSw); go_simp; first | done | with_reducible rfl)
      case hQ44 => exact fun _ _ _ h => h
      try simp only [Act.put, List.setIfInBounds_toArray, List.set_cons_zero, List.set_cons_succ]
      refine wpAnyH_take (i := 45) (oi := ?oi45) (v := ?v45) ?hi45 ?hs45 ?hf45 ?hr45 ?hQ45 (Or.inl ⟨?hw45, ?hy45⟩) (by assumption) ?h45
      case hi45 => (simp only [List.getElem?_toArray, List.getElem?_cons_succ, List.getElem?_cons_zero]; rfl)
      case hs45 => kernel_rfl
      case hf45 => kernel_rfl
      case hr45 => kernel_rfl
      case hw45 => rfl
      case hy45 => (intro w0 hSw; (try dsimp only at hSw); go_simp; first | done | with_reducible rfl)
      case hQ45 => exact fun _ _ _ h => h
      try simp only [Act.put, List.setIfInBounds_toArray, List.set_cons_zero, List.set_cons_succ]
      refine wpAnyH_take (i := 46) (oi := ?oi46) (v := ?v46) ?hi46 ?hs46 ?hf46 ?hr46 ?hQ46 (Or.inl ⟨?hw46, ?hy46⟩) (by assumption) ?h46
      case hi46 => (simp only [List.getElem?_toArray, List.getElem?_cons_succ, List.getElem?_cons_zero]; rfl)
      case hs46 => kernel_rfl
      case hf46 => kernel_rfl
      case hr46 => kernel_rfl
      case hw46 => rfl
      case hy46 => (intro w0 hSw; have z := (show ∀ i, w0.cell? ⟨b7, i, none⟩ = #[Value.int .i64 1, .int .i64 2, .int .i64 1, .int .i64 2, .int .i64 5, .int .i64 10, .int .i64 0, .int .i64 3, .int .i64 1, .int .i64 0, .slice s15 0 o15, .slice t15 0 p15][i]? from fun i => Joins.cell_of_block ((PH.out w0 hSw).at (B := b7) (o := boxC (⟨1, 2, ⟨1, 2, 5, 10, 0⟩, 3, 1, 0, [], []⟩ : Cl) (.slice s15 0 o15) (.slice t15 0 p15)) (by simp)) i); clear hSw; go_simp; first | done | with_reducible rfl)
      case hQ46 => exact fun _ _ _ h => h
      try simp only [Act.put, List.setIfInBounds_toArray, List.set_cons_zero, List.set_cons_succ]
      refine wpAnyH_ready (rs := [47]) (by kernel_rfl) (by simp) ?_
      refine AllReadyH.cons (o := ?o47) ?hi47 ?step47 AllReadyH.nil
      case hi47 => (simp only [List.getElem?_toArray, List.getElem?_cons_succ, List.getElem?_cons_zero]; rfl)
      intro K hK
      go_simp
      refine (put_low 2 5 10 _).mono ?_
      rintro e wq ⟨rfl, hbq⟩
      refine hK.out _ _ (PS.out _ _ hHeld hbq) (fun hHeld => ?_)
      clear hK K
      try simp only [Act.put, List.setIfInBounds_toArray, List.set_cons_zero, List.set_cons_succ]
      clear hbq
      refine wpAnyH_take (i := 48) (oi := ?oi48) (v := ?v48) ?hi48 ?hs48 ?hf48 ?hr48 ?hQ48 (Or.inl ⟨?hw48, ?hy48⟩) (by assumption) ?h48
      case hi48 => (simp only [List.getElem?_toArray, List.getElem?_cons_succ, List.getElem?_cons_zero]; rfl)
      case hs48 => kernel_rfl
      case hf48 => kernel_rfl
      case hr48 => kernel_rfl
      case hw48 => rfl
      case hy48 => (intro w0 hSw; (try dsimp only at hSw); go_simp; first | done | with_reducible rfl)
      case hQ48 => exact fun _ _ _ h => h
      try simp only [Act.put, List.setIfInBounds_toArray, List.set_cons_zero, List.set_cons_succ]
      refine wpAnyH_take (i := 49) (oi := ?oi49) (v := ?v49) ?hi49 ?hs49 ?hf49 ?hr49 ?hQ49 (Or.inl ⟨?hw49, ?hy49⟩) (by assumption) ?h49
      case hi49 => (simp only [List.getElem?_toArray, List.getElem?_cons_succ, List.getElem?_cons_zero]; rfl)
      case hs49 => kernel_rfl
      case hf49 => kernel_rfl
      case hr49 => kernel_rfl
      case hw49 => rfl
      case hy49 => (intro w0 hSw; (try dsimp only at hSw); go_simp; first | done | with_reducible rfl)
      case hQ49 => exact fun _ _ _ h => h
      try simp only [Act.put, List.setIfInBounds_toArray, List.set_cons_zero, List.set_cons_succ]
      refine wpAnyH_take (i := 50) (oi := ?oi50) (v := ?v50) ?hi50 ?hs50 ?hf50 ?hr50 ?hQ50 (Or.inl ⟨?hw50, ?hy50⟩) (by assumption) ?h50
      case hi50 => (simp only [List.getElem?_toArray, List.getElem?_cons_succ, List.getElem?_cons_zero]; rfl)
      case hs50 => kernel_rfl
      case hf50 => kernel_rfl
      case hr50 => kernel_rfl
      case hw50 => rfl
      case hy50 => (intro w0 hSw; (try dsimp only at hSw); go_simp; first | done | with_reducible rfl)
      case hQ50 => exact fun _ _ _ h => h
      try simp only [Act.put, List.setIfInBounds_toArray, List.set_cons_zero, List.set_cons_succ]
      refine wpAnyH_take (i := 51) (oi := ?oi51) (v := ?v51) ?hi51 ?hs51 ?hf51 ?hr51 ?hQ51 (Or.inl ⟨?hw51, ?hy51⟩) (by assumption) ?h51
      case hi51 => (simp only [List.getElem?_toArray, List.getElem?_cons_succ, List.getElem?_cons_zero]; rfl)
      case hs51 => kernel_rfl
      case hf51 => kernel_rfl
      case hr51 => kernel_rfl
      case hw51 => rfl
      case hy51 => (intro w0 hSw; have z := (show ∀ i, w0.cell? ⟨b7, i, none⟩ = #[Value.int .i64 1, .int .i64 2, .int .i64 1, .int .i64 2, .int .i64 5, .int .i64 10, .int .i64 0, .int .i64 3, .int .i64 1, .int .i64 0, .slice s15 0 o15, .slice t15 0 p15][i]? from fun i => Joins.cell_of_block ((PH.out w0 hSw).at (B := b7) (o := boxC (⟨1, 2, ⟨1, 2, 5, 10, 0⟩, 3, 1, 0, [], []⟩ : Cl) (.slice s15 0 o15) (.slice t15 0 p15)) (by simp)) i); clear hSw; go_simp; first | done | with_reducible rfl)
      case hQ51 => exact fun _ _ _ h => h
      try simp only [Act.put, List.setIfInBounds_toArray, List.set_cons_zero, List.set_cons_succ]
      refine wpAnyH_ready (rs := [52]) (by kernel_rfl) (by simp) ?_
      refine AllReadyH.cons (o := ?o52) ?hi52 ?step52 AllReadyH.nil
      case hi52 => (simp only [List.getElem?_toArray, List.getElem?_cons_succ, List.getElem?_cons_zero]; rfl)
      intro K hK
      go_simp
      refine (kck.out _ _ _ _ _).mono ?_
      rintro e wq ⟨rfl, hbq⟩
      refine hK.out _ _ (PS.out _ _ hHeld hbq) (fun hHeld => ?_)
      clear hK K
      try simp only [Act.put, List.setIfInBounds_toArray, List.set_cons_zero, List.set_cons_succ]
      clear hbq
      refine wpAnyH_take (i := 53) (oi := ?oi53) (v := ?v53) ?hi53 ?hs53 ?hf53 ?hr53 ?hQ53 (Or.inl ⟨?hw53, ?hy53⟩) (by assumption) ?h53
      case hi53 => (simp only [List.getElem?_toArray, List.getElem?_cons_succ, List.getElem?_cons_zero]; rfl)
      case hs53 => kernel_rfl
      case hf53 => kernel_rfl
      case hr53 => kernel_rfl
      case hw53 => rfl
      case hy53 => (intro w0 hSw; (try dsimp only at hSw); go_simp; first | done | with_reducible rfl)
      case hQ53 => exact fun _ _ _ h => h
      try simp only [Act.put, List.setIfInBounds_toArray, List.set_cons_zero, List.set_cons_succ]
      refine wpAnyH_take (i := 54) (oi := ?oi54) (v := ?v54) ?hi54 ?hs54 ?hf54 ?hr54 ?hQ54 (Or.inl ⟨?hw54, ?hy54⟩) (by assumption) ?h54
      case hi54 => (simp only [List.getElem?_toArray, List.getElem?_cons_succ, List.getElem?_cons_zero]; rfl)
      case hs54 => kernel_rfl
      case hf54 => kernel_rfl
      case hr54 => kernel_rfl
      case hw54 => rfl
      case hy54 => (intro w0 hSw; (try dsimp only at hSw); go_simp; first | done | with_reducible rfl)
      case hQ54 => exact fun _ _ _ h => h
      try simp only [Act.put, List.setIfInBounds_toArray, List.set_cons_zero, List.set_cons_succ]
      refine wpAnyH_take (i := 55) (oi := ?oi55) (v := ?v55) ?hi55 ?hs55 ?hf55 ?hr55 ?hQ55 (Or.inl ⟨?hw55, ?hy55⟩) (by assumption) ?h55
      case hi55 => (simp only [List.getElem?_toArray, List.getElem?_cons_succ, List.getElem?_cons_zero]; rfl)
      case hs55 => kernel_rfl
      case hf55 => kernel_rfl
      case hr55 => kernel_rfl
      case hw55 => rfl
      case hy55 => (intro w0 hSw; (try dsimp only at hSw); go_simp; first | done | with_reducible rfl)
      case hQ55 => exact fun _ _ _ h => h
      try simp only [Act.put, List.setIfInBounds_toArray, List.set_cons_zero, List.set_cons_succ]
      refine wpAnyH_done (by kernel_rfl) ?_ _
      have HB17 := (PH.out _ hHeld).below
      clear hHeld PS PH
      go_wp2
      go_ret
      exact ⟨rfl, HB17⟩

end Go.Proofs.Ytbokdcdnandgbae
