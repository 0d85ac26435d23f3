/- What the laws on chains ask of packages chain and unit; the closed facts of 'linked'. -/
import Derived.Test.YtaialgacaomaeadChainF
import Derived.Test.YtaialgacaomaeadUnitG
namespace Go.Proofs.Ytaialgacaomaead
open Go.RowKit
open scoped Classical

/-- No slice is longer than what a number holds. -/
def Fits (xs : List Ub) : Prop := xs.length ≤ topN ∧ ∀ x, x ∈ xs → x.u.cells.length ≤ topN

/-- Answers a unit and what is wrong; its places lie in a new block, or where the given unit's lie. -/
abbrev AnsN (f : Nat) (v : Value) (args : Array Value) (w : World) (r : Un × Int) : Prop :=
  Calls Try.prog f args w fun e w' => ∃ v', e = .returned (.tuple #[.agg #[.int .i64 r.1.p, v'], .int .i64 r.2]) ∧ UnitAt w' v' r.1 ∧ Below w.heap.size w w' ∧ (∀ g, v'.ownBlock = some g → w.heap.size ≤ g ∨ v.ownBlock = some g)

/-- Package unit, as far as the laws on chains ask. -/
structure UnitN : Prop where
  new : ∀ (W : World), Calls Try.prog 16 #[] W fun e w' => ∃ v, e = .returned (.agg #[.int .i64 1, v]) ∧ UnitAt w' v unew ∧ Below W.heap.size W w'
  next : ∀ (v : Value) (u : Un) (r : Rc) (W : World), UnitAt W v u → u.cells.length ≤ topN → AnsN 7 v #[.agg #[.int .i64 u.p, v], r.val] W (unext u r)

/-- Package chain. -/
structure Chains : Prop where
  check : ∀ (v : Value) (xs : List Ub) (W : World), ChAt W v xs → Fits xs → Calls Try.prog 25 #[v] W fun e w' => e = .returned (.int .i64 (ckChain (unitsOf xs))) ∧ Below W.heap.size W w'
  link : ∀ (v : Value) (xs : List Ub) (k a ep : Int) (x : En) (W : World), ChAt W v xs → Fits xs → Calls Try.prog 20 #[v, .int .i64 k, .int .i64 a, x.val, .int .i64 ep] W fun e w' => e = .returned (.tuple #[(linkOf (unitsOf xs) k a x ep).1.val, (linkOf (unitsOf xs) k a x ep).2.1.val, .int .i64 (linkOf (unitsOf xs) k a x ep).2.2]) ∧ Below W.heap.size W w'
  read : ∀ (v : Value) (xs : List Ub) (a : Int) (W : World), ChAt W v xs → Fits xs → Calls Try.prog 21 #[v, .int .i64 a] W fun e w' => e = .returned (.tuple #[(readOf (unitsOf xs) a).1.val, .int .i64 (readOf (unitsOf xs) a).2]) ∧ Below W.heap.size W w'

/-- A new unit with one entry at its first place. -/
def uA : Un := ⟨1, (List.replicate 60 blankE).set 0 e1⟩

theorem uA_next : unext unew ⟨1, 0, 0, e1⟩ = (uA, 0) := by kernel_rfl
theorem uA_ck : uA.ck = 0 := by kernel_rfl

theorem within_new (a : List En) : Within unew.cells a := fun k c hc => by
  have hm := List.mem_of_getElem? hc
  have : c = blankE := List.eq_of_mem_replicate hm
  exact Or.inl (by rw [this]; exact blank_isB)
theorem within_self (a : List En) : Within a a := fun _ _ hc => Or.inr hc
theorem not_within : ¬ Within uA.cells unew.cells := fun h => by
  rcases h 0 e1 rfl with h | h
  · exact absurd h (by decide)
  · have h2 : unew.cells[0]? = some blankE := rfl
    rw [h2] at h
    exact absurd (congrArg En.k (Option.some.inj h)) (by decide)

theorem lk_ck : ckChain [uA, unew, unew] = 0 := ckChain_zero.2 ⟨uA, unew, unew, rfl, uA_ck, unew_ck, unew_ck, within_new _, within_new _⟩
theorem lk_ck3 : ckChain [uA, uA, uA] = 0 := ckChain_zero.2 ⟨uA, uA, uA, rfl, uA_ck, uA_ck, uA_ck, within_self _, within_self _⟩
theorem lk_ck4 : ckChain [unew, uA, unew] = 4 := by
  show ck3 unew uA unew = 4
  unfold ck3
  rw [if_neg (by simp [unew_ck]), if_neg (by simp [uA_ck]), if_neg (by simp [unew_ck]), if_pos not_within]
theorem lk_1 : linkOf [uA, unew, unew] 1 0 e1 1 = (⟨1, 0, 0, e1⟩, e1, 0) := by
  rw [linkOf, if_neg (by simp [lk_ck]), if_neg (by decide), if_neg (by simp [e1_chk]), if_neg (by decide)]
  rw [if_neg (fun h => h.2 (by kernel_rfl)), if_neg (by decide)]
theorem lk_2 : linkOf [uA, unew, unew] 0 0 En.zero 1 = (Rc.zero, e1, 0) := by
  rw [linkOf, if_neg (by simp [lk_ck]), if_neg (by decide), if_neg (by decide), if_neg (by decide)]
  rw [if_neg (fun h => absurd h.1 (by decide)), if_pos (by decide)]
  rfl
theorem lk_3 : linkOf [uA, unew, unew] 2 0 e1 1 = (Rc.zero, En.zero, 7) := by
  rw [linkOf, if_neg (by simp [lk_ck]), if_neg (by decide), if_neg (by simp [e1_chk]), if_neg (by decide)]
  rw [if_pos ⟨by decide, fun h => absurd (congrArg En.k h) (by decide)⟩]
theorem lk_4 : linkOf [uA, unew, unew] 0 1 En.zero 2 = (Rc.zero, En.zero, 8) := by
  rw [linkOf, if_neg (by simp [lk_ck]), if_neg (by decide), if_neg (by decide), if_pos (by decide)]
theorem lk_5 : readOf [uA, unew, unew] 0 = (En.zero, 7) := by
  rw [readOf, if_neg (by simp [lk_ck]), if_neg (by decide), if_pos (by decide)]
theorem lk_6 : readOf [uA, uA, uA] 0 = (e1, 0) := by
  rw [readOf, if_neg (by simp [lk_ck3]), if_neg (by decide), if_neg (by decide)]
  rfl

end Go.Proofs.Ytaialgacaomaead
