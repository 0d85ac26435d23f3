/- The reference's CheckEntry at every entry; EntryText; whole. -/
import Derived.Test.YtaialgacaomaeaeRefA
import Derived.Deep.RegionHeld3
namespace Go.Proofs.Ytaialgacaomaeae
open Go.RowKit

/-- What a kind has a use for. -/
def useOf (k : Int) : ByteArray := if k = 0 then ⟨#[]⟩ else if k = 1 then ⟨#[106, 101, 116]⟩ else if k = 2 then ⟨#[106]⟩ else ⟨#[106, 116, 99]⟩

theorem useOf_at (k : Int) (h0 : 0 ≤ k) (h3 : k ≤ 3) : #[Value.string ⟨#[]⟩, .string ⟨#[106, 101, 116]⟩, .string ⟨#[106]⟩, .string ⟨#[106, 116, 99]⟩][k.toNat]? = some (.string (useOf k)) := by
  have : k = 0 ∨ k = 1 ∨ k = 2 ∨ k = 3 := by omega
  rcases this with rfl | rfl | rfl | rfl <;> rfl

theorem lost_bad (k j v t c : Int) (h0 : 0 ≤ k) (h3 : k ≤ 3) : lost k j v t c = (badB (useOf k) 106 j || badB (useOf k) 101 v || badB (useOf k) 116 t || badB (useOf k) 99 c) := by
  have hk : k = 0 ∨ k = 1 ∨ k = 2 ∨ k = 3 := by omega
  have e : ∀ x y : Int, (x == y) = decide (x = y) := fun x y => by by_cases h : x = y <;> simp [h]
  rcases hk with rfl | rfl | rfl | rfl
  · simp [lost, unlike, bJob, bEvery, bTime, bClient, badB, useOf, Lib.indexByte, e, bne, eq_comm, Bool.or_assoc]
  · simp [lost, unlike, bJob, bEvery, bTime, bClient, num0, num1, num2, badB, useOf, Lib.indexByte, e, bne, eq_comm]
  · simp [lost, unlike, bJob, bEvery, bTime, bClient, num0, badB, useOf, Lib.indexByte, e, bne, eq_comm, Bool.or_assoc]
  · simp [lost, unlike, bJob, bEvery, bTime, bClient, num0, num1, num2, badB, useOf, Lib.indexByte, e, bne, eq_comm]

end Go.Proofs.Ytaialgacaomaeae
