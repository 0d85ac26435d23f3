/- The walk of ChainAlong, whole. -/
import Derived.Test.YtaialgacaomaeaeChainR
namespace Go.Proofs.Ytaialgacaomaeae
open Go.RowKit
open scoped Classical

set_option maxHeartbeats 4000000 in
set_option maxRecDepth 100000 in
theorem along_bad (hC : Chains) (hN : UnitN) (v : Value) (xs : List Ub) (pl : Int) (x : En) (w : World) (h : ChAt w v xs) (hf : Fits xs) (d : Int) (hd : ckChain (unitsOf xs) = d) (hz : (d != 0) = true) :
    Calls Try.prog 3 #[v, .int .i64 pl, x.val] w fun e w' => e = .returned (.bool true) ∧ Below w.heap.size w w' := by
  have k5 := fun W => linked_any hC hN W
  have k7 := fun W (hb : Below w.heap.size w W) => hC.check _ xs W (h.later hb) hf
  rw [hd] at k7
  have HB0 : Aside (Below w.heap.size w (w.alloc (boxE x.k x.j x.v x.t x.c))) := grew (Below.refl _ _) _
  obtain ⟨av, nv', cv, rfl, _⟩ := id h.room
  clear hC hN h hf hd
  go_enter Try.func3, Try.ntmps3
  go_wp2_with fail
  refine (at_place pl _).mono ?_
  rintro e w0 ⟨aa, haa, rfl, rfl⟩
  go_wp2_with fail
  refine (k5 _).mono ?_
  rintro e w1 ⟨rfl, hb1⟩
  have hB1 := step_below1 HB0.out hb1
  have k7' := k7 _ hB1
  have HB1 : Aside _ := hB1
  clear hb1 hB1 HB0 k7
  go_wp2_with fail
  refine k7'.mono ?_
  rintro e w2 ⟨rfl, hb2⟩
  have HB2 : Aside (Below w.heap.size w w2) := step_below1 HB1.out hb2
  clear hb2 HB1 k7'
  go_wp2_with fail
  refine (k5 _).mono ?_
  rintro e w3 ⟨rfl, hb3⟩
  have HB3 : Aside (Below w.heap.size w w3) := step_below1 HB2.out hb3
  clear hb3 HB2 k5
  go_wp2
  go_ret
  exact ⟨rfl, HB3.out⟩

/-- ChainAlong, at every input. -/
theorem chainAlong_any (hC : Chains) (hN : UnitN) (v : Value) (xs : List Ub) (pl : Int) (x : En) (w : World) (h : ChAt w v xs) (hf : Fits xs) :
    Calls Try.prog 3 #[v, .int .i64 pl, x.val] w fun e w' => e = .returned (.bool true) ∧ Below w.heap.size w w' := by
  by_cases hd : ckChain (unitsOf xs) = 0
  · obtain ⟨U0, U1, U2, a0, c0, a1, c1, a2, c2, b, off, c, _, rfl, _, _, _⟩ := right_three h hd
    exact along_good hC hN b off c xs pl x w h hd
  · exact along_bad hC hN v xs pl x w h hf _ rfl (by rw [bne_iff_ne]; exact hd)

end Go.Proofs.Ytaialgacaomaeae
