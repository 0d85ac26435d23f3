/- The walk of NoteSays, given package note's contracts. -/
import Derived.Test.YtijcohldgjcjgacDoorNoteF
namespace Go.Proofs.YtijcohldgjcjgacDoor
open Go.RowKit

/-- What lies in memory on the way: a record in its box, and all that was there before. -/
structure KeptR (w : World) (r : Rc) (b : Nat) (W : World) : Prop where
  below : Below w.heap.size w W
  hx : W.heap[b]? = some (boxRc r)

theorem KeptR.later {w W W' : World} {r : Rc} {b : Nat} (h : KeptR w r b W) (hb : Below W.heap.size W W') : KeptR w r b W' := ⟨h.below.trans (hb.mono h.below.size), heap_below h.hx hb (heap_lt h.hx)⟩
theorem KeptR.alloc {w W : World} {r : Rc} {b : Nat} (h : KeptR w r b W) (o : Obj) : KeptR w r b (W.alloc o) := ⟨grew h.below _, heap_old h.hx _⟩
theorem KeptR.cx {w W : World} {r : Rc} {b : Nat} (h : KeptR w r b W) (i : Nat) : W.cell? ⟨b, i, none⟩ = #[Value.int .i64 r.k, .int .i64 r.a, .int .i64 r.p, .int .i64 r.e.k, .int .i64 r.e.j, .int .i64 r.e.v, .int .i64 r.e.t, .int .i64 r.e.c][i]? := Joins.cell_of_block h.hx i
theorem KeptR.lt {w W : World} {r : Rc} {b : Nat} (h : KeptR w r b W) : b < W.heap.size := heap_lt h.hx
theorem keptR_first (w : World) (r : Rc) : KeptR w r w.heap.size (w.alloc (boxRc r)) := ⟨grew (Below.refl _ _) _, heap_new _ _⟩
theorem keptR_new {w W : World} (h : Below w.heap.size w W) (r : Rc) : KeptR w r W.heap.size (W.alloc (boxRc r)) := ⟨grew h _, heap_new _ _⟩

set_option maxHeartbeats 2000000 in
theorem noteSays_long (hK : Notes) (r : Rc) (s : ByteArray) (w : World) (hL : Laid w) (hs : 30000 < (s.size : Int)) :
    Calls Tryd.prog 3 #[r.val, .string s] w fun e w' => e = .returned (.bool true) ∧ Below w.heap.size w w' := by
  have hpa := fun W hW => hK.parse s W hW
  rw [show rcPrs s.data.toList = (Rc.zero, 2) from if_pos (by rw [← Lib.size_eq]; omega)] at hpa
  have heq : ∀ W, (binOp .eql 25 (.agg #[.int .i64 0, .int .i64 0, .int .i64 0, .int .i64 0, .int .i64 0, .int .i64 0, .int .i64 0, .int .i64 0]) (.agg #[.int .i64 0, .int .i64 0, .int .i64 0, .int .i64 0, .int .i64 0, .int .i64 0, .int .i64 0, .int .i64 0])).run Tryd.prog W = .ok (.bool true) W := fun W => (eqlR Rc.zero Rc.zero W).trans (by rw [same_self])
  have hpr := fun W hW => hK.print r W hW
  have htx := fun W hW => ref_recText r W hW
  have hck := fun W hW => hK.check r W hW
  have hnt := fun W hW => noted_any hK W hW
  generalize r.ptx = px at *
  generalize r.chk = d at *
  clear hK
  have K0 := keptR_first w r
  go_enter Tryd.func3, Tryd.ntmps3
  go_wp2_with fail
  refine (hpr _ (hL.later K0.below)).mono ?_
  rintro e w1 ⟨rfl, hb1⟩
  have K1 := K0.later hb1
  clear hb1 K0 hpr
  go_wp2_with fail
  refine (hpa _ (hL.later K1.below)).mono ?_
  rintro e w2 ⟨rfl, hb2⟩
  have K2 := K1.later hb2
  have Y2 := keptR_new K2.below Rc.zero
  have K2' := K2.alloc (boxRc Rc.zero)
  have c2 := K2.cx
  have lt2 := K2.lt
  clear hb2 K1 hpa
  go_wp2_with fail
  clear c2
  refine (htx _ (hL.later K2'.below)).mono ?_
  rintro e w3 ⟨rfl, hb3⟩
  have K3 := K2'.later hb3
  have Y3 := Y2.later hb3
  clear hb3 K2 K2' Y2 htx
  go_wp2_with fail
  refine (hnt _ (hL.later K3.below)).mono ?_
  rintro e w4 ⟨rfl, hb4⟩
  have K4 := K3.later hb4
  have Y4 := Y3.later hb4
  have c4 := K4.cx
  clear hb4 K3 Y3 hnt
  go_wp2_with fail
  clear c4
  refine (hck _ (hL.later K4.below)).mono ?_
  rintro e w5 ⟨rfl, hb5⟩
  have K5 := K4.later hb5
  have Y5 := Y4.later hb5
  have c5 : ∀ i, w5.cell? ⟨w2.heap.size, i, none⟩ = #[Value.int .i64 0, .int .i64 0, .int .i64 0, .int .i64 0, .int .i64 0, .int .i64 0, .int .i64 0, .int .i64 0][i]? := Y5.cx
  have HB : Aside (Below w.heap.size w w5) := K5.below
  clear hb5 K4 Y4 hck K5 Y5 hL
  go_wp2
  go_ret
  exact ⟨rfl, HB.out⟩

set_option maxHeartbeats 2000000 in
theorem noteSays_short (hK : Notes) (r : Rc) (l : List UInt8) (w : World) (hL : Laid w) (hl : l.length ≤ 30000) :
    Calls Tryd.prog 3 #[r.val, .string ⟨l.toArray⟩] w fun e w' => e = .returned (.bool true) ∧ Below w.heap.size w w' := by
  have hpa : ∀ W, Laid W → Calls Tryd.prog 6 #[.string ⟨l.toArray⟩] W fun e w' => e = .returned (.tuple #[(rcRead l).1.val, .int .i64 (rcRead l).2]) ∧ Below W.heap.size W w' := fun W hW => by
    have := hK.parse ⟨l.toArray⟩ W hW
    rw [show rcPrs (⟨l.toArray⟩ : ByteArray).data.toList = rcRead l from if_neg (by show ¬ (30000 < l.length); omega)] at this
    exact this
  have hrr := fun W hW => ref_recRead l W hW hl
  have hls : (l.length : Int) ≤ 30000 := by omega
  have hpr := fun W hW => hK.print r W hW
  have htx := fun W hW => ref_recText r W hW
  have hck := fun W hW => hK.check r W hW
  have hnt := fun W hW => noted_any hK W hW
  generalize r.ptx = px at *
  generalize r.chk = d at *
  generalize (rcRead l).1 = y at *
  generalize (rcRead l).2 = f at *
  have heq : ∀ W, (binOp .eql 25 y.val y.val).run Tryd.prog W = .ok (.bool true) W := fun W => (eqlR y y W).trans (by rw [same_self])
  clear hK
  have K0 := keptR_first w r
  go_enter Tryd.func3, Tryd.ntmps3
  go_wp2_with fail
  refine (hpr _ (hL.later K0.below)).mono ?_
  rintro e w1 ⟨rfl, hb1⟩
  have K1 := K0.later hb1
  clear hb1 K0 hpr
  go_wp2_with fail
  refine (hpa _ (hL.later K1.below)).mono ?_
  rintro e w2 ⟨rfl, hb2⟩
  have K2 := K1.later hb2
  have Y2 := keptR_new K2.below y
  have K2' := K2.alloc (boxRc y)
  have c2 := K2.cx
  have lt2 := K2.lt
  clear hb2 K1 hpa
  go_wp2_with fail
  clear c2
  refine (htx _ (hL.later K2'.below)).mono ?_
  rintro e w3 ⟨rfl, hb3⟩
  have K3 := K2'.later hb3
  have Y3 := Y2.later hb3
  clear hb3 K2 K2' Y2 htx
  go_wp2_with fail
  refine (hnt _ (hL.later K3.below)).mono ?_
  rintro e w4 ⟨rfl, hb4⟩
  have K4 := K3.later hb4
  have Y4 := Y3.later hb4
  have c4 := K4.cx
  clear hb4 K3 Y3 hnt
  go_wp2_with fail
  clear c4
  refine (hck _ (hL.later K4.below)).mono ?_
  rintro e w5 ⟨rfl, hb5⟩
  have K5 := K4.later hb5
  have Y5 := Y4.later hb5
  clear hb5 K4 Y4 hck
  go_wp2_with fail
  refine (hrr _ (hL.later K5.below)).mono ?_
  rintro e w6 ⟨rfl, hb6⟩
  have K6 := K5.later hb6
  have Y6 := Y5.later hb6
  have c6 := Y6.cx
  have lt6 := Y6.lt
  have HB : Aside (Below w.heap.size w (w6.alloc (boxRc y))) := grew K6.below _
  clear hb6 K5 Y5 hrr K6 Y6 hL
  generalize w2.heap.size = yb at *
  go_wp2
  go_ret
  exact ⟨rfl, HB.out⟩

theorem noteSays_any (hK : Notes) (r : Rc) (s : ByteArray) (w : World) (hL : Laid w) :
    Calls Tryd.prog 3 #[r.val, .string s] w fun e w' => e = .returned (.bool true) ∧ Below w.heap.size w w' := by
  by_cases hs : 30000 < (s.size : Int)
  · exact noteSays_long hK r s w hL hs
  · have := noteSays_short hK r s.data.toList w hL (by rw [← Lib.size_eq]; omega)
    rw [← bytes_eta s] at this
    exact this

end Go.Proofs.YtijcohldgjcjgacDoor
