/- Lines of a text; the library's SplitAfter at a line feed. -/
import Derived.Test.YtlfennkdknodhaaDoorRefH
namespace Go.Proofs.YtlfennkdknodhaaDoor
open Go.RowKit

/-- The lines of a text, each with its line feed; the last has none (and may be empty). -/
def pcs (l : List UInt8) : List (List UInt8) := Lib.splitK [10] 1 (Lib.count l [10]) l

theorem occAt_nl (a b : List UInt8) : Lib.occAt (a ++ 10 :: b) [10] a.length = true := by
  unfold Lib.occAt
  rw [List.drop_left]
  simp

theorem nl_index_no {l : List UInt8} (h : (Lib.cut l [10]).2.2 = false) : Lib.index l [10] = -1 := by
  unfold Lib.cut at h
  split at h
  · cases h
  · rename_i h'
    have := Lib.index_ge l [10]
    omega

theorem nl_back (l a b : List UInt8) (h : Lib.cut l [10] = (a, b, true)) : l = a ++ 10 :: b := by
  unfold Lib.cut at h
  rcases Lib.index_spec l [10] with ⟨h1, _⟩ | ⟨i, h1, h2, h3, _⟩
  · rw [h1, if_neg (by omega)] at h; cases h
  · rw [h1, if_pos (by omega)] at h
    simp only [Int.toNat_natCast, List.length_cons, List.length_nil, Prod.mk.injEq] at h
    obtain ⟨rfl, rfl, _⟩ := h
    unfold Lib.occAt at h3
    rcases hd : l.drop i with _ | ⟨x, r⟩
    · rw [hd] at h3; cases h3
    · rw [hd] at h3
      simp at h3
      subst h3
      have : l.drop (i + 1) = r := by rw [← List.drop_drop, hd]; rfl
      rw [show i + (0 + 1) = i + 1 from rfl, this, ← hd, List.take_append_drop]

theorem nl_whole (l a b : List UInt8) (h : Lib.cut l [10] = (a, b, false)) : a = l := by
  unfold Lib.cut at h
  split at h
  · cases h
  · injection h with h _; exact h.symm

theorem nl_first {l a b : List UInt8} (h : Lib.cut l [10] = (a, b, true)) : (10 : UInt8) ∉ a ∧ Lib.index l [10] = a.length := by
  have hl := nl_back l a b h
  unfold Lib.cut at h
  rcases Lib.index_spec l [10] with ⟨h1, _⟩ | ⟨i, h1, h2, _, h4⟩
  · rw [h1, if_neg (by omega)] at h; cases h
  · rw [h1, if_pos (by omega)] at h
    simp only [Int.toNat_natCast, Prod.mk.injEq] at h
    obtain ⟨ha, _, _⟩ := h
    have hal : a.length = i := by rw [← ha, List.length_take]; omega
    refine ⟨fun hm => ?_, by rw [h1, hal]⟩
    obtain ⟨j, hj, e⟩ := List.getElem_of_mem hm
    have h5 := h4 j (by omega)
    unfold Lib.occAt at h5
    have : l.drop j = 10 :: (a.drop (j + 1) ++ 10 :: b) := by
      rw [hl, List.drop_append_of_le_length (by omega), List.drop_eq_getElem_cons hj, e]
      rfl
    rw [this] at h5
    cases h5

theorem nl_none {l : List UInt8} (h : (Lib.cut l [10]).2.2 = false) : (10 : UInt8) ∉ l := by
  intro hm
  have hi := nl_index_no h
  obtain ⟨s, t, rfl⟩ := List.append_of_mem hm
  rcases Lib.index_spec (s ++ 10 :: t) [10] with ⟨_, h2⟩ | ⟨i, h1, _⟩
  · have := h2 s.length (by simp)
    rw [occAt_nl] at this; cases this
  · rw [hi] at h1; omega

theorem pcs_no {l a b : List UInt8} (h : Lib.cut l [10] = (a, b, false)) : pcs l = [l] := by
  have hi := nl_index_no (l := l) (by rw [h])
  unfold pcs
  rw [Lib.count_miss hi]
  rfl

theorem pcs_yes {l a b : List UInt8} (h : Lib.cut l [10] = (a, b, true)) : pcs l = (a ++ [10]) :: pcs b := by
  obtain ⟨_, hi⟩ := nl_first h
  have hl := nl_back l a b h
  have hd : l.drop (a.length + 1) = b := by rw [hl, List.drop_append]; simp
  have ht : l.take (a.length + 1) = a ++ [10] := by rw [hl, List.take_append]; simp [List.take_of_length_le]
  have hc : Lib.count l [10] = Lib.count b [10] + 1 := by
    rw [Lib.count_hit (by simp) hi]
    show 1 + Lib.count (l.drop (a.length + 1)) [10] = _
    rw [hd]; omega
  unfold pcs
  rw [hc, Lib.splitK, hi]
  have hm : ¬ ((a.length : Int) == -1) = true := by rw [beq_iff_eq]; omega
  rw [if_neg hm]
  simp only [Int.toNat_natCast, List.length_cons, List.length_nil]
  rw [ht]
  show (a ++ [10]) :: Lib.splitK [10] 1 (Lib.count b [10]) (l.drop (a.length + 1)) = _
  rw [hd]

theorem lines_ref (l : List UInt8) (w : World) (hL : ∃ m, w.cell? ⟨2, 0, none⟩ = some (.int .i64 m)) (hl : l.length ≤ 30000) :
    Calls Tryd.prog 36 #[.string ⟨l.toArray⟩, .string ⟨#[10]⟩] w fun e w' =>
      e = .returned (.slice (some ⟨w.heap.size, 0, none⟩) (pcs l).length (pcs l).length) ∧ w' = w.alloc (.cells (wvals (pcs l)) 9) := by
  obtain ⟨m, hm⟩ := hL
  have hsz : (⟨l.toArray⟩ : ByteArray).size = l.length := by rw [Lib.size_eq]
  have hcl := Lib.countB_le ⟨#[10]⟩ (by decide) l.length ⟨l.toArray⟩ (by rw [hsz]; exact Nat.le_refl _)
  have h := fun W hW => Tryd.strings_genSplit ⟨l.toArray⟩ ⟨#[10]⟩ 1 (-1) (Lib.countB ⟨l.toArray⟩ ⟨#[10]⟩ + 1) m W (by omega) hW (by decide) (by decide) (by decide) (by decide) (by rw [if_pos (by decide)]; omega)
  have hd : (Lib.splitB ⟨#[10]⟩ 1 (Lib.countB ⟨l.toArray⟩ ⟨#[10]⟩) ⟨l.toArray⟩).map (·.data.toList) = pcs l := Lib.splitB_data ⟨#[10]⟩ 1 _ ⟨l.toArray⟩
  have hn : (Lib.splitB ⟨#[10]⟩ 1 (Lib.countB ⟨l.toArray⟩ ⟨#[10]⟩) ⟨l.toArray⟩).length = Lib.countB ⟨l.toArray⟩ ⟨#[10]⟩ + 1 := Lib.splitB_all _ (by decide) _ _ _ rfl
  have hlen : Lib.countB ⟨l.toArray⟩ ⟨#[10]⟩ + 1 = (pcs l).length := by rw [← hn, ← hd, List.length_map]
  have hv : (Lib.splitB ⟨#[10]⟩ 1 (Lib.countB ⟨l.toArray⟩ ⟨#[10]⟩) ⟨l.toArray⟩).map Value.string = (pcs l).map fun x => Value.string ⟨x.toArray⟩ := by
    rw [← hd, List.map_map]
    refine List.map_congr_left fun s _ => ?_
    exact congrArg Value.string (bytes_eta s)
  have hcells : Lib.cellsOf (Lib.splitB ⟨#[10]⟩ 1 (Lib.countB ⟨l.toArray⟩ ⟨#[10]⟩) ⟨l.toArray⟩) (Lib.countB ⟨l.toArray⟩ ⟨#[10]⟩ + 1) = wvals (pcs l) := by
    unfold Lib.cellsOf wvals
    rw [hn, hv]; simp
  simp only [Nat.add_sub_cancel] at h
  rw [hcells, hn, hlen] at h
  clear hcells hv hlen hn hd hcl hsz
  go_enter Tryd.func36, Tryd.ntmps36
  go_wp2_with fail
  refine (h _ hm).mono ?_
  rintro e w1 ⟨rfl, rfl⟩
  go_wp2
  go_ret
  exact ⟨rfl, rfl⟩

end Go.Proofs.YtlfennkdknodhaaDoor
