/- The walk of package entry's read, where there are words. -/
import Derived.Test.YtijcohldgjcjgacDoorEntryG
namespace Go.Proofs.YtijcohldgjcjgacDoor
open Go.RowKit

theorem kindOf_range (l : List UInt8) : kindOf l = -1 ∨ kindOf l = 0 ∨ kindOf l = 1 ∨ kindOf l = 2 ∨ kindOf l = 3 := by
  unfold kindOf
  split
  · simp
  split
  · simp
  split
  · simp
  split <;> simp

theorem Laid.cnt {W : World} (h : Laid W) (k : Int) (h0 : 0 ≤ k) (h3 : k ≤ 3) : W.cell? ⟨1, k.toNat, none⟩ = some (.int .i64 (cntOf k)) := by
  obtain ⟨c0, c1, c2, c3⟩ := h.count
  have : k = 0 ∨ k = 1 ∨ k = 2 ∨ k = 3 := by omega
  rcases this with rfl | rfl | rfl | rfl
  · exact c0
  · exact c1
  · exact c2
  · exact c3

set_option maxHeartbeats 2000000 in
theorem read_bad (l : List UInt8) (ws : List (List UInt8)) (kk n m : Int) (w : World) (hL : Laid w) (hl : l.length ≤ 30000) (hs : spl 4 l = some ws) (hk : kindOf (ws.getD 0 []) = kk) (hn : (ws.length : Int) = n)
    (hm : ((cntOf kk : Nat) : Int) = m) (hm0 : 0 ≤ m) (hm3 : m ≤ 3) (hbad : (kk < 0) ∨ (0 ≤ kk ∧ kk ≤ 3 ∧ (n != 1 + m) = true)) :
    Calls Tryd.prog 64 #[.string ⟨l.toArray⟩] w fun e w' => e = .returned (rdV none) ∧ Below w.heap.size w w' := by
  have hsp := fun W hW => split_any l W hW hl
  rw [hs] at hsp
  have hko := fun W hW => kindOf_any (wd ws 0) W hW
  rw [show kindOf (wd ws 0).data.toList = kk from hk] at hko
  have hct := fun W (h : Laid W) => h.cnt kk
  rw [hm] at hct
  simp only [Option.getD_some, Option.isSome_some] at hsp
  rw [hn] at hsp
  clear hs hk hn hm
  rcases hbad with hneg | ⟨hk0, hk3, hne⟩
  all_goals
    go_enter Tryd.func64, Tryd.ntmps64
    go_wp2_with fail
    refine (hsp _ (hL.later (grew (Below.refl _ _) _)).most).mono ?_
    rintro e w1 ⟨rfl, hb⟩
    have hR : w1.heap[w.heap.size]? = some (boxE 0 0 0 0 0) := by rw [hb.block _ (by simp)]; exact heap_new _ _
    have hb1 : Below w.heap.size w w1 := (grew (Below.refl _ _) _).trans (hb.mono (by simp))
    have hlt : w.heap.size < w1.heap.size := by have := hb.size; simp at this; omega
    clear hb hsp
    go_wp2_with fail
    refine (hko _ (hL.later (grew hb1 _))).mono ?_
    rintro e w2 ⟨rfl, rfl⟩
    have hcc := hct _ (hL.later hb1)
    clear hct hko hL
    have c0 : ∀ i, w1.cell? ⟨w.heap.size, i, none⟩ = #[Value.int .i64 0, .int .i64 0, .int .i64 0, .int .i64 0, .int .i64 0][i]? := fun i => Joins.cell_of_block hR i
    have c1 : ∀ i, w1.frozen? ⟨w.heap.size, i, none⟩ = false := fun i => Joins.unfrozen_of_block hR i
  · clear hcc
    go_wp2
    refine ret_entry Tryd.results64 rfl rfl rfl (heap_old (five_stores hR 0 0 0 0 0) _) ⟨rfl, ?_⟩
    exact (below_five hb1 (Nat.le_refl _) _ _ _ _ _).alloc (by simp; omega) _
  · have hcc := hcc hk0 hk3
    have hg : 1 < w1.heap.size := World.block_lt_of_cell? _ _ hcc
    go_wp2
    refine ret_entry Tryd.results64 rfl rfl rfl (heap_old (five_stores hR 0 0 0 0 0) _) ⟨rfl, ?_⟩
    exact (below_five hb1 (Nat.le_refl _) _ _ _ _ _).alloc (by simp; omega) _

end Go.Proofs.YtijcohldgjcjgacDoor
