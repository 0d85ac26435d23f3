/- The walks of package entry's read, Parse and Print, at every input. -/
import Derived.Test.YtijcohldgjcjgacDoorEntryI
namespace Go.Proofs.YtijcohldgjcjgacDoor
open Go.RowKit

theorem read_any (l : List UInt8) (w : World) (hL : Laid w) (hl : l.length ≤ 30000) :
    Calls Tryd.prog 64 #[.string ⟨l.toArray⟩] w fun e w' => e = .returned (rdV (rd l)) ∧ Below w.heap.size w w' := by
  cases hs : spl 4 l with
  | none =>
    have hr : rd l = none := by rw [rd, hs]; rfl
    rw [hr]
    exact read_none l w hL hl hs
  | some ws =>
    have hr : rd l = rdW ws := by rw [rd, hs]; rfl
    rw [hr]
    have hkr := kindOf_range (ws.getD 0 [])
    have hc := spl_count 4 l ws hs
    have hcn : ∀ k : Int, cntOf k = 0 ∨ cntOf k = 1 ∨ cntOf k = 3 := by
      intro k; unfold cntOf
      split
      · simp
      split
      · simp
      split <;> simp
    by_cases hbad : kindOf (ws.getD 0 []) < 0 ∨ ws.length ≠ 1 + cntOf (kindOf (ws.getD 0 []))
    · have hn : rdW ws = none := by rw [rdW, if_pos hbad]
      rw [hn]
      refine read_bad l ws _ _ _ w hL hl hs rfl rfl rfl (by omega) (by have := hcn (kindOf (ws.getD 0 [])); omega) ?_
      by_cases h0 : kindOf (ws.getD 0 []) < 0
      · exact Or.inl h0
      · refine Or.inr ⟨by omega, by omega, ?_⟩
        have := hbad.resolve_left h0
        rw [bne_iff_ne]; omega
    · have hk0 : 0 ≤ kindOf (ws.getD 0 []) := by omega
      have hk3 : kindOf (ws.getD 0 []) ≤ 3 := by omega
      have hn : ws.length = 1 + cntOf (kindOf (ws.getD 0 [])) := by omega
      rcases hcn (kindOf (ws.getD 0 [])) with h | h | h
      · exact read_go0 l ws _ w hL hl hs rfl hk0 hk3 h (by omega)
      · exact read_go1 l ws _ w hL hl hs rfl hk0 hk3 h (by omega)
      · exact read_go3 l ws _ w hL hl hs rfl hk0 hk3 h (by omega)

def rdEn (r : Int × Int × Int × Int) : En := ⟨r.1, bJob r.1 r.2.1, bEvery r.1 r.2.2.1, bTime r.1 r.2.2.1 r.2.2.2, bClient r.1 r.2.2.2⟩

/-- What Parse answers. -/
def prs (l : List UInt8) : En × Int :=
  if 30000 < l.length then (En.zero, 2) else match rd l with
    | none => (En.zero, 1)
    | some r => if (rdEn r).chk = 0 then (rdEn r, 0) else (En.zero, (rdEn r).chk)

theorem parse_long (s : ByteArray) (w : World) (hs : 30000 < (s.size : Int)) :
    Calls Tryd.prog 47 #[.string s] w fun e w' => e = .returned (.tuple #[z5, .int .i64 2]) ∧ Below w.heap.size w w' := by
  go_enter Tryd.func47, Tryd.ntmps47
  go_wp2
  exact ret_entry Tryd.results47 rfl rfl rfl (heap_new _ _) ⟨rfl, grew (Below.refl _ _) _⟩

theorem parse_none (l : List UInt8) (w : World) (hL : Laid w) (hl : l.length ≤ 30000) (hr : rd l = none) :
    Calls Tryd.prog 47 #[.string ⟨l.toArray⟩] w fun e w' => e = .returned (.tuple #[z5, .int .i64 1]) ∧ Below w.heap.size w w' := by
  have hrd := fun W hW => read_any l W hW hl
  rw [hr] at hrd
  have hle : (l.length : Int) ≤ 30000 := by omega
  clear hr hl
  go_enter Tryd.func47, Tryd.ntmps47
  go_wp2_with fail
  refine (hrd _ (hL.later (grew (Below.refl _ _) _))).mono ?_
  rintro e w1 ⟨rfl, hb⟩
  have hR : w1.heap[w.heap.size]? = some (boxE 0 0 0 0 0) := by rw [hb.block _ (by simp)]; exact heap_new _ _
  have hb1 : Below w.heap.size w w1 := (grew (Below.refl _ _) _).trans (hb.mono (by simp))
  have hlt : w.heap.size < w1.heap.size := by have := hb.size; simp at this; omega
  clear hb hrd
  have c0 : ∀ i, w1.cell? ⟨w.heap.size, i, none⟩ = #[Value.int .i64 0, .int .i64 0, .int .i64 0, .int .i64 0, .int .i64 0][i]? := fun i => Joins.cell_of_block hR i
  have c1 : ∀ i, w1.frozen? ⟨w.heap.size, i, none⟩ = false := fun i => Joins.unfrozen_of_block hR i
  go_wp2
  refine ret_entry Tryd.results47 rfl rfl rfl (heap_old (five_stores hR 0 0 0 0 0) _) ⟨rfl, ?_⟩
  exact grew (below_five hb1 (Nat.le_refl _) _ _ _ _ _) _

set_option maxHeartbeats 1000000 in
theorem parse_good (l : List UInt8) (k j v t c : Int) (w : World) (hL : Laid w) (hl : l.length ≤ 30000) (hr : rdV (rd l) = .tuple #[ev k j v t c, .bool true]) (hc : chk k j v t c = 0) :
    Calls Tryd.prog 47 #[.string ⟨l.toArray⟩] w fun e w' => e = .returned (.tuple #[ev k j v t c, .int .i64 0]) ∧ Below w.heap.size w w' := by
  have hrd := fun W hW => read_any l W hW hl
  rw [hr] at hrd
  have hch := fun W => check_any k j v t c W
  rw [hc] at hch
  have hle : (l.length : Int) ≤ 30000 := by omega
  clear hr hl hc
  go_enter Tryd.func47, Tryd.ntmps47
  go_wp2_with fail
  refine (hrd _ (hL.later (grew (Below.refl _ _) _))).mono ?_
  rintro e w1 ⟨rfl, hb⟩
  have hR : w1.heap[w.heap.size]? = some (boxE 0 0 0 0 0) := by rw [hb.block _ (by simp)]; exact heap_new _ _
  have hb1 : Below w.heap.size w w1 := (grew (Below.refl _ _) _).trans (hb.mono (by simp))
  have hlt : w.heap.size < w1.heap.size := by have := hb.size; simp at this; omega
  clear hb hrd
  go_wp2_with fail
  refine (hch _).mono ?_
  rintro e w2 ⟨rfl, hb2⟩
  clear hch
  have hE2 : w2.heap[w1.heap.size]? = some (boxE k j v t c) := by rw [hb2.block _ (by simp)]; exact heap_new _ _
  have hR2 : w2.heap[w.heap.size]? = some (boxE 0 0 0 0 0) := by rw [hb2.block _ (by simp; omega)]; exact heap_old hR _
  have hbb : Below w.heap.size w w2 := (grew hb1 _).trans (hb2.mono (by simp; omega))
  generalize w1.heap.size = eb at *
  clear hb2 hb1 hR
  have c0 : ∀ i, w2.cell? ⟨w.heap.size, i, none⟩ = #[Value.int .i64 0, .int .i64 0, .int .i64 0, .int .i64 0, .int .i64 0][i]? := fun i => Joins.cell_of_block hR2 i
  have c1 : ∀ i, w2.frozen? ⟨w.heap.size, i, none⟩ = false := fun i => Joins.unfrozen_of_block hR2 i
  have c2 : ∀ i, w2.cell? ⟨eb, i, none⟩ = #[Value.int .i64 k, .int .i64 j, .int .i64 v, .int .i64 t, .int .i64 c][i]? := fun i => Joins.cell_of_block hE2 i
  go_wp2
  exact ret_entry Tryd.results47 rfl rfl rfl (five_stores hR2 k j v t c) ⟨rfl, below_five hbb (Nat.le_refl _) _ _ _ _ _⟩

set_option maxHeartbeats 1000000 in
theorem parse_bad (l : List UInt8) (k j v t c : Int) (n : Int) (w : World) (hL : Laid w) (hl : l.length ≤ 30000) (hr : rdV (rd l) = .tuple #[ev k j v t c, .bool true]) (hc : chk k j v t c = n) (hz : (n != 0) = true) :
    Calls Tryd.prog 47 #[.string ⟨l.toArray⟩] w fun e w' => e = .returned (.tuple #[z5, .int .i64 n]) ∧ Below w.heap.size w w' := by
  have hrd := fun W hW => read_any l W hW hl
  rw [hr] at hrd
  have hch := fun W => check_any k j v t c W
  rw [hc] at hch
  have hle : (l.length : Int) ≤ 30000 := by omega
  clear hr hl hc
  go_enter Tryd.func47, Tryd.ntmps47
  go_wp2_with fail
  refine (hrd _ (hL.later (grew (Below.refl _ _) _))).mono ?_
  rintro e w1 ⟨rfl, hb⟩
  have hR : w1.heap[w.heap.size]? = some (boxE 0 0 0 0 0) := by rw [hb.block _ (by simp)]; exact heap_new _ _
  have hb1 : Below w.heap.size w w1 := (grew (Below.refl _ _) _).trans (hb.mono (by simp))
  have hlt : w.heap.size < w1.heap.size := by have := hb.size; simp at this; omega
  clear hb hrd
  go_wp2_with fail
  refine (hch _).mono ?_
  rintro e w2 ⟨rfl, hb2⟩
  clear hch
  have hE2 : w2.heap[w1.heap.size]? = some (boxE k j v t c) := by rw [hb2.block _ (by simp)]; exact heap_new _ _
  have hR2 : w2.heap[w.heap.size]? = some (boxE 0 0 0 0 0) := by rw [hb2.block _ (by simp; omega)]; exact heap_old hR _
  have hbb : Below w.heap.size w w2 := (grew hb1 _).trans (hb2.mono (by simp; omega))
  generalize w1.heap.size = eb at *
  clear hb2 hb1 hR
  have c0 : ∀ i, w2.cell? ⟨w.heap.size, i, none⟩ = #[Value.int .i64 0, .int .i64 0, .int .i64 0, .int .i64 0, .int .i64 0][i]? := fun i => Joins.cell_of_block hR2 i
  have c1 : ∀ i, w2.frozen? ⟨w.heap.size, i, none⟩ = false := fun i => Joins.unfrozen_of_block hR2 i
  have c2 : ∀ i, w2.cell? ⟨eb, i, none⟩ = #[Value.int .i64 k, .int .i64 j, .int .i64 v, .int .i64 t, .int .i64 c][i]? := fun i => Joins.cell_of_block hE2 i
  go_wp2
  exact ret_entry Tryd.results47 rfl rfl rfl (five_stores hR2 0 0 0 0 0) ⟨rfl, below_five hbb (Nat.le_refl _) _ _ _ _ _⟩

/-- Parse, at every text. -/
theorem parse_any (s : ByteArray) (w : World) (hL : Laid w) :
    Calls Tryd.prog 47 #[.string s] w fun e w' => e = .returned (.tuple #[(prs s.data.toList).1.val, .int .i64 (prs s.data.toList).2]) ∧ Below w.heap.size w w' := by
  by_cases hs : 30000 < s.data.toList.length
  · have hp : prs s.data.toList = (En.zero, 2) := if_pos hs
    rw [hp]
    exact parse_long s w (by rw [Lib.size_eq]; omega)
  · obtain ⟨⟨l⟩⟩ := s
    have hs' : ¬ 30000 < l.length := hs
    show Calls Tryd.prog 47 #[.string ⟨l.toArray⟩] w fun e w' => e = .returned (.tuple #[(prs l).1.val, .int .i64 (prs l).2]) ∧ Below w.heap.size w w'
    cases hr : rd l with
    | none =>
      have hp : prs l = (En.zero, 1) := by rw [prs, if_neg hs', hr]
      rw [hp]
      exact parse_none l w hL (by omega) hr
    | some r =>
      have hp : prs l = if (rdEn r).chk = 0 then (rdEn r, 0) else (En.zero, (rdEn r).chk) := by rw [prs, if_neg hs', hr]
      rw [hp]
      by_cases h0 : (rdEn r).chk = 0
      · rw [if_pos h0]
        exact parse_good l (rdEn r).k (rdEn r).j (rdEn r).v (rdEn r).t (rdEn r).c w hL (by omega) (by rw [hr]; rfl) h0
      · rw [if_neg h0]
        exact parse_bad l (rdEn r).k (rdEn r).j (rdEn r).v (rdEn r).t (rdEn r).c (rdEn r).chk w hL (by omega) (by rw [hr]; rfl) rfl (by rw [bne_iff_ne]; exact h0)

end Go.Proofs.YtijcohldgjcjgacDoor
