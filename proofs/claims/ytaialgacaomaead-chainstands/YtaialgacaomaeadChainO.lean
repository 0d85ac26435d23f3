/- The walk of ChainStands, whole. -/
import Derived.Test.YtaialgacaomaeadChainN
namespace Go.Proofs.Ytaialgacaomaead
open Go.RowKit
open scoped Classical

set_option maxHeartbeats 4000000 in
set_option maxRecDepth 100000 in
theorem stands_bad (hC : Chains) (hN : UnitN) (v : Value) (xs : List Ub) (k a ep : Int) (x : En) (w : World) (h : ChAt w v xs) (hf : Fits xs) (r : Rc) (s : En) (f : Int) (hl : linkOf (unitsOf xs) k a x ep = (r, s, f)) (hz : (f != 0) = true) :
    Calls Try.prog 6 #[v, .int .i64 k, .int .i64 a, x.val, .int .i64 ep] w fun e w' => e = .returned (.bool true) ∧ Below w.heap.size w w' := by
  have k1 := hC.link v xs k a ep x _ (h.later (grew (Below.refl w.heap.size w) (boxE x.k x.j x.v x.t x.c))) hf
  rw [hl] at k1
  replace k1 : Calls Try.prog 20 #[v, .int .i64 k, .int .i64 a, x.val, .int .i64 ep] (w.alloc (boxE x.k x.j x.v x.t x.c)) fun e w' => e = .returned (.tuple #[r.val, s.val, .int .i64 f]) ∧ Below (w.alloc (boxE x.k x.j x.v x.t x.c)).heap.size (w.alloc (boxE x.k x.j x.v x.t x.c)) w' := k1
  have k5 := fun W => linked_any hC hN W
  have HB0 : Aside (Below w.heap.size w (w.alloc (boxE x.k x.j x.v x.t x.c))) := grew (Below.refl _ _) _
  obtain ⟨av, nv', cv, rfl, _⟩ := id h.room
  clear hC hN h hf hl
  go_enter Try.func6, Try.ntmps6
  go_wp2_with fail
  refine k1.mono ?_
  rintro e w1 ⟨rfl, hb⟩
  have HB1 : Aside (Below w.heap.size w ((w1.alloc (boxRc r)).alloc (boxE s.k s.j s.v s.t s.c))) := step_below1 HB0.out (grew (grew hb (boxRc r)) (boxE s.k s.j s.v s.t s.c))
  clear k1 hb HB0
  go_upto_region 2 with fail
  generalize (w1.alloc (boxRc r)).alloc (boxE s.k s.j s.v s.t s.c) = Y1 at *
  go_wp2_with fail
  refine (k5 _).mono ?_
  rintro e w2 ⟨rfl, hb⟩
  have HB2 : Aside (Below w.heap.size w w2) := step_below1 HB1.out hb
  clear hb HB1
  go_wp2_with fail
  refine (k5 _).mono ?_
  rintro e w3 ⟨rfl, hb⟩
  have HB3 : Aside (Below w.heap.size w w3) := step_below1 HB2.out hb
  clear hb HB2 k5
  go_wp2
  go_ret
  exact ⟨rfl, HB3.out⟩

/-- ChainStands, at every input. -/
theorem chainStands_any (hC : Chains) (hN : UnitN) (v : Value) (xs : List Ub) (k a ep : Int) (x : En) (w : World) (h : ChAt w v xs) (hf : Fits xs) :
    Calls Try.prog 6 #[v, .int .i64 k, .int .i64 a, x.val, .int .i64 ep] w fun e w' => e = .returned (.bool true) ∧ Below w.heap.size w w' := by
  obtain ⟨⟨r, s, f⟩, hl⟩ : ∃ q, linkOf (unitsOf xs) k a x ep = q := ⟨_, rfl⟩
  by_cases hz : f = 0
  · subst hz
    obtain ⟨kk, aa, u, rfl, rfl, hkk, haa, hu, huc, hck, hw⟩ := st_facts hl
    have hall : ∀ z, z ∈ xs → z.u.cells.length = 60 := fun z hz => by
      obtain ⟨i, hi, e⟩ := List.mem_iff_getElem.1 hz
      have h3 := ckChain_len hck
      rw [List.length_map] at h3
      obtain ⟨u', hu', hc'⟩ := chain_unit hck (k := i) (by omega)
      rw [List.getElem?_map, List.getElem?_eq_getElem hi, e] at hu'
      have e2 : z.u = u' := Option.some.inj hu'
      rw [e2]
      exact (Un.ck_zero.1 hc').2.1
    obtain ⟨U0, U1, U2, a0, c0, a1, c1, a2, c2, b, off, c, _, rfl, _, _, _⟩ := right_three h hck
    rcases hw with ⟨rfl, hs, _⟩ | ⟨rfl, rfl, _, _, hnx, hck2, hrd⟩
    · exact stands_none hC hN b off c kk aa xs ep x s u w h hf hck hkk haa hl hu hs
    · exact stands_some hC hN b off c kk aa xs ep s u w h hf hall hkk haa hl hu hnx hck2 hrd
  · exact stands_bad hC hN v xs k a ep x w h hf r s f hl (by rw [bne_iff_ne]; exact hz)

end Go.Proofs.Ytaialgacaomaead
