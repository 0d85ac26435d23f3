/- The walk of the reference's EntryRead, where there is one word; at every text. -/
import Derived.Test.YtijcohldgjcjgacDoorRefD
namespace Go.Proofs.YtijcohldgjcjgacDoor
open Go.RowKit

set_option maxHeartbeats 2000000 in
theorem ref_read0 (l x : List UInt8) (w : World) (hL : Laid w) (hl : l.length ≤ 30000) (hws : words l = [x]) :
    Calls Tryd.prog 22 #[.string ⟨l.toArray⟩] w fun e w' => e = .returned (.tuple #[(prs l).1.val, .int .i64 (prs l).2]) ∧ Below w.heap.size w w' := by
  have HQ : (rdW [x] = none → prs l = (En.zero, 1)) ∧ ∀ r, rdW [x] = some r → prs l = if (rdEn r).chk = 0 then (rdEn r, 0) else (En.zero, (rdEn r).chk) := by
    rw [← hws]; exact ⟨prs_none hl, fun r => prs_some hl⟩
  have hsp := fun W hW => split_ref l W hW hl
  rw [hws] at hsp
  have hwv : wvals [x] = #[.string ⟨x.toArray⟩] := rfl
  rw [hwv] at hsp
  clear hwv hws
  have hkr := kindOf_range x
  have hnl := nameL_kindOf x
  generalize hk : kindOf x = kd at *
  have hch0 : ∀ W, Calls Tryd.prog 32 #[ev 0 0 0 0 0] W fun e w' => e = .returned (.int .i64 0) ∧ Below W.heap.size W w' := fun W => ref_check 0 0 0 0 0 W
  rcases hkr with rfl | rfl | rfl | rfl | rfl
  · have HF : Hid (prs l = (En.zero, 1)) := HQ.1 (by rw [rdW, show kindOf ([x].getD 0 []) = -1 from hk, if_pos (by omega)])
    have f0 : (x == [106, 117, 110, 107]) = false := by
      rw [beq_eq_false_iff_ne]; intro e; rw [e] at hk; exact absurd hk (by decide)
    have f1 : (x == [112, 117, 116]) = false := by
      rw [beq_eq_false_iff_ne]; intro e; rw [e] at hk; exact absurd hk (by decide)
    have f2 : (x == [100, 114, 111, 112]) = false := by
      rw [beq_eq_false_iff_ne]; intro e; rw [e] at hk; exact absurd hk (by decide)
    have f3 : (x == [114, 105, 110, 103]) = false := by
      rw [beq_eq_false_iff_ne]; intro e; rw [e] at hk; exact absurd hk (by decide)
    clear hk hnl HQ hch0
    go_enter Tryd.func22, Tryd.ntmps22
    go_wp2_with fail
    refine (hsp _ (hL.later (grew (Below.refl _ _) _)).most).mono ?_
    rintro e w1 ⟨rfl, rfl⟩
    clear hsp
    go_wp2
    go_loop [4, 17] (fun v i => v = .slice none 0 0 ∧ i = .int .i64 0) (fun _ _ => 0)
    case atStart => exact ⟨rfl, rfl⟩
    case round =>
      obtain ⟨rfl, rfl⟩ := hrel
      go_wp2
      refine ret_entry Tryd.results22 rfl rfl rfl (heap_old (heap_old (heap_new _ _) _) _) ⟨by rw [HF.out]; rfl, ?_⟩
      exact grew (grew (grew (Below.refl _ _) _) _) _
  · have hy : x = [106, 117, 110, 107] := (hnl (by omega)).symm
    have HF : Hid (prs l = (En.zero, 0)) := by
      have hrd : rdW [x] = some (0, 0, 0, 0) := rdW_some hk (by omega) rfl rfl rfl rfl
      rw [Hid, HQ.2 _ hrd]; rfl
    have f0 : (x == [106, 117, 110, 107]) = true := by rw [hy]; rfl
    have f1 : (x == [112, 117, 116]) = false := by rw [hy]; rfl
    have f2 : (x == [100, 114, 111, 112]) = false := by rw [hy]; rfl
    have f3 : (x == [114, 105, 110, 103]) = false := by rw [hy]; rfl
    clear hy hk hnl HQ
    go_enter Tryd.func22, Tryd.ntmps22
    go_wp2_with fail
    refine (hsp _ (hL.later (grew (Below.refl _ _) _)).most).mono ?_
    rintro e w1 ⟨rfl, rfl⟩
    clear hsp
    go_wp2
    go_loop [4, 17] (fun v i => v = .slice none 0 0 ∧ i = .int .i64 0) (fun _ _ => 0)
    case atStart => exact ⟨rfl, rfl⟩
    case round =>
      obtain ⟨rfl, rfl⟩ := hrel
      go_wp2_with fail
      refine (hch0 _).mono ?_
      rintro e w5 ⟨rfl, hb5⟩
      clear hch0
      have hE5 : w5.heap[w.heap.size + 1 + 1]? = some (boxE 0 0 0 0 0) := by
        rw [hb5.block _ (by simp)]
        have := heap_new ((w.alloc (boxE 0 0 0 0 0)).alloc (.cells #[.string ⟨x.toArray⟩] 9)) (boxE 0 0 0 0 0)
        rwa [World.size_alloc, World.size_alloc] at this
      have hR5 : w5.heap[w.heap.size]? = some (boxE 0 0 0 0 0) := by rw [hb5.block _ (by simp; omega)]; exact heap_old (heap_old (heap_new _ _) _) _
      have hB5 : Below w.heap.size w w5 := (grew (grew (grew (Below.refl _ _) _) _) _).trans (hb5.mono (by simp; omega))
      clear hb5
      have cR5 : ∀ i, w5.cell? ⟨w.heap.size, i, none⟩ = #[Value.int .i64 0, .int .i64 0, .int .i64 0, .int .i64 0, .int .i64 0][i]? := fun i => Joins.cell_of_block hR5 i
      have fR5 : ∀ i, w5.frozen? ⟨w.heap.size, i, none⟩ = false := fun i => Joins.unfrozen_of_block hR5 i
      have cE5 : ∀ i, w5.cell? ⟨w.heap.size + 1 + 1, i, none⟩ = #[Value.int .i64 0, .int .i64 0, .int .i64 0, .int .i64 0, .int .i64 0][i]? := fun i => Joins.cell_of_block hE5 i
      go_wp2
      exact ret_entry Tryd.results22 rfl rfl rfl (five_stores hR5 0 0 0 0 0) ⟨by rw [HF.out]; rfl, below_five hB5 (Nat.le_refl _) _ _ _ _ _⟩
  · have hy : x = [112, 117, 116] := (hnl (by omega)).symm
    have HF : Hid (prs l = (En.zero, 1)) := HQ.1 (by rw [rdW, show kindOf ([x].getD 0 []) = 1 from hk, if_pos (by simp [cntOf])])
    have f0 : (x == [106, 117, 110, 107]) = false := by rw [hy]; rfl
    have f1 : (x == [112, 117, 116]) = true := by rw [hy]; rfl
    have f2 : (x == [100, 114, 111, 112]) = false := by rw [hy]; rfl
    have f3 : (x == [114, 105, 110, 103]) = false := by rw [hy]; rfl
    clear hy hk hnl HQ hch0
    go_enter Tryd.func22, Tryd.ntmps22
    go_wp2_with fail
    refine (hsp _ (hL.later (grew (Below.refl _ _) _)).most).mono ?_
    rintro e w1 ⟨rfl, rfl⟩
    clear hsp
    go_wp2
    go_loop [4, 17] (fun v i => v = .slice none 0 0 ∧ i = .int .i64 0) (fun _ _ => 0)
    case atStart => exact ⟨rfl, rfl⟩
    case round =>
      obtain ⟨rfl, rfl⟩ := hrel
      go_wp2
      refine ret_entry Tryd.results22 rfl rfl rfl (heap_old (heap_old (heap_new _ _) _) _) ⟨by rw [HF.out]; rfl, ?_⟩
      exact grew (grew (grew (Below.refl _ _) _) _) _
  · have hy : x = [100, 114, 111, 112] := (hnl (by omega)).symm
    have HF : Hid (prs l = (En.zero, 1)) := HQ.1 (by rw [rdW, show kindOf ([x].getD 0 []) = 2 from hk, if_pos (by simp [cntOf])])
    have f0 : (x == [106, 117, 110, 107]) = false := by rw [hy]; rfl
    have f1 : (x == [112, 117, 116]) = false := by rw [hy]; rfl
    have f2 : (x == [100, 114, 111, 112]) = true := by rw [hy]; rfl
    have f3 : (x == [114, 105, 110, 103]) = false := by rw [hy]; rfl
    clear hy hk hnl HQ hch0
    go_enter Tryd.func22, Tryd.ntmps22
    go_wp2_with fail
    refine (hsp _ (hL.later (grew (Below.refl _ _) _)).most).mono ?_
    rintro e w1 ⟨rfl, rfl⟩
    clear hsp
    go_wp2
    go_loop [4, 17] (fun v i => v = .slice none 0 0 ∧ i = .int .i64 0) (fun _ _ => 0)
    case atStart => exact ⟨rfl, rfl⟩
    case round =>
      obtain ⟨rfl, rfl⟩ := hrel
      go_wp2
      refine ret_entry Tryd.results22 rfl rfl rfl (heap_old (heap_old (heap_new _ _) _) _) ⟨by rw [HF.out]; rfl, ?_⟩
      exact grew (grew (grew (Below.refl _ _) _) _) _
  · have hy : x = [114, 105, 110, 103] := (hnl (by omega)).symm
    have HF : Hid (prs l = (En.zero, 1)) := HQ.1 (by rw [rdW, show kindOf ([x].getD 0 []) = 3 from hk, if_pos (by simp [cntOf])])
    have f0 : (x == [106, 117, 110, 107]) = false := by rw [hy]; rfl
    have f1 : (x == [112, 117, 116]) = false := by rw [hy]; rfl
    have f2 : (x == [100, 114, 111, 112]) = false := by rw [hy]; rfl
    have f3 : (x == [114, 105, 110, 103]) = true := by rw [hy]; rfl
    clear hy hk hnl HQ hch0
    go_enter Tryd.func22, Tryd.ntmps22
    go_wp2_with fail
    refine (hsp _ (hL.later (grew (Below.refl _ _) _)).most).mono ?_
    rintro e w1 ⟨rfl, rfl⟩
    clear hsp
    go_wp2
    go_loop [4, 17] (fun v i => v = .slice none 0 0 ∧ i = .int .i64 0) (fun _ _ => 0)
    case atStart => exact ⟨rfl, rfl⟩
    case round =>
      obtain ⟨rfl, rfl⟩ := hrel
      go_wp2
      refine ret_entry Tryd.results22 rfl rfl rfl (heap_old (heap_old (heap_new _ _) _) _) ⟨by rw [HF.out]; rfl, ?_⟩
      exact grew (grew (grew (Below.refl _ _) _) _) _

/-- The reference's EntryRead, at every text of few enough bytes: as Parse. -/
theorem ref_read (l : List UInt8) (w : World) (hL : Laid w) (hl : l.length ≤ 30000) :
    Calls Tryd.prog 22 #[.string ⟨l.toArray⟩] w fun e w' => e = .returned (.tuple #[(prs l).1.val, .int .i64 (prs l).2]) ∧ Below w.heap.size w w' := by
  obtain ⟨wne, _, _⟩ := words_props l.length l (Nat.le_refl _)
  cases hws : words l with
  | nil => exact absurd hws wne
  | cons x r =>
    cases r with
    | nil => exact ref_read0 l x w hL hl hws
    | cons y r => exact ref_readN l _ (r.length + 1) w hL hl hws rfl (by omega)

end Go.Proofs.YtijcohldgjcjgacDoor
