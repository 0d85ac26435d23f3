/- The walk of package entry's split. -/
import Derived.Test.YtijcohldgjcjgacDoorEntryD
namespace Go.Proofs.YtijcohldgjcjgacDoor
open Go.RowKit

/-- The words of a text, so many at most. -/
def spl : Nat → List UInt8 → Option (List (List UInt8))
  | 0, _ => none
  | f + 1, l => if (Lib.cut l [32]).2.2 = true then (spl f (Lib.cut l [32]).2.1).map ((Lib.cut l [32]).1 :: ·) else some [(Lib.cut l [32]).1]

theorem spl_yes {r a b : List UInt8} (f : Nat) (hc : Lib.cut r [32] = (a, b, true)) : spl (f + 1) r = (spl f b).map (a :: ·) := by
  rw [spl.eq_2, hc]; rfl
theorem spl_no {r a b : List UInt8} (f : Nat) (hc : Lib.cut r [32] = (a, b, false)) : spl (f + 1) r = some [a] := by
  rw [spl.eq_2, hc]; rfl

/-- A word of some, as bytes; none: the empty one. -/
def wd (ws : List (List UInt8)) (i : Nat) : ByteArray := ⟨(ws.getD i []).toArray⟩

abbrev wv (ws : List (List UInt8)) : Value := .agg #[.string (wd ws 0), .string (wd ws 1), .string (wd ws 2), .string (wd ws 3)]

theorem cut_yes (r a b : List UInt8) (w : World) (hL : ∃ m, w.cell? ⟨2, 0, none⟩ = some (.int .i64 m)) (hr : r.length ≤ 30000) (hc : Lib.cut r [32] = (a, b, true)) :
    Calls Tryd.prog 29 #[.string ⟨r.toArray⟩, .string ⟨#[32]⟩] w fun e w' => e = .returned (.tuple #[.string ⟨a.toArray⟩, .string ⟨b.toArray⟩, .bool true]) ∧ ∃ n, w' = w.drewN n := by
  obtain ⟨m, hm⟩ := hL
  have h := Tryd.strings_Cut ⟨r.toArray⟩ ⟨#[32]⟩ m w (by simp [Lib.size_eq]; omega) hm
  rw [show Lib.cut (⟨r.toArray⟩ : ByteArray).data.toList (⟨#[32]⟩ : ByteArray).data.toList = (a, b, true) from hc] at h
  exact h

theorem cut_no (r a b : List UInt8) (w : World) (hL : ∃ m, w.cell? ⟨2, 0, none⟩ = some (.int .i64 m)) (hr : r.length ≤ 30000) (hc : Lib.cut r [32] = (a, b, false)) :
    Calls Tryd.prog 29 #[.string ⟨r.toArray⟩, .string ⟨#[32]⟩] w fun e w' => e = .returned (.tuple #[.string ⟨a.toArray⟩, .string ⟨b.toArray⟩, .bool false]) ∧ ∃ n, w' = w.drewN n := by
  obtain ⟨m, hm⟩ := hL
  have h := Tryd.strings_Cut ⟨r.toArray⟩ ⟨#[32]⟩ m w (by simp [Lib.size_eq]; omega) hm
  rw [show Lib.cut (⟨r.toArray⟩ : ByteArray).data.toList (⟨#[32]⟩ : ByteArray).data.toList = (a, b, false) from hc] at h
  exact h

theorem cut_len (r a b : List UInt8) (f : Bool) (hc : Lib.cut r [32] = (a, b, f)) : b.length ≤ r.length := by
  unfold Lib.cut at hc
  split at hc
  · injection hc with _ h; injection h with h _; subst h; simp
  · injection hc with _ h; injection h with h _; subst h; simp

abbrev e4 : Obj := .cells #[.string ⟨#[]⟩, .string ⟨#[]⟩, .string ⟨#[]⟩, .string ⟨#[]⟩] 46
abbrev o4 (ws : List (List UInt8)) : Obj := .cells #[.string (wd ws 0), .string (wd ws 1), .string (wd ws 2), .string (wd ws 3)] 46

theorem setCell_drewN (w : World) (n : Nat) (a : Addr) (v : Value) : (w.drewN n).setCell a v = (w.setCell a v).drewN n := rfl
attribute [local go_sem] setCell_drewN

set_option maxHeartbeats 4000000 in
theorem split_any (l : List UInt8) (w : World) (hL : ∃ m, w.cell? ⟨2, 0, none⟩ = some (.int .i64 m)) (hl : l.length ≤ 30000) :
    Calls Tryd.prog 82 #[.string ⟨l.toArray⟩] w fun e w' =>
      e = .returned (.tuple #[wv ((spl 4 l).getD []), .int .i64 ((spl 4 l).getD []).length, .bool (spl 4 l).isSome]) ∧ Below w.heap.size w w' := by
  have HL : ∀ (o1 o2 : Obj), ∃ m, ((w.alloc o1).alloc o2).cell? ⟨2, 0, none⟩ = some (.int .i64 m) := fun o1 o2 => by
    obtain ⟨m, hm⟩ := hL
    exact ⟨m, cell_later (grew (grew (Below.refl _ _) _) _) hm⟩
  clear hL
  go_enter Tryd.func82, Tryd.ntmps82
  go_wp2
  go_loopw [6, 12] (fun rest i wr => ∃ (k : Nat) (done : List (List UInt8)) (r : List UInt8) (q : Nat), k ≤ 4 ∧ done.length = k ∧ r.length ≤ 30000 ∧ rest = .string ⟨r.toArray⟩ ∧ i = .int .i64 k ∧
    wr = ((w.alloc e4).alloc (o4 done)).drewN q ∧ Hid (spl 4 l = (spl (4 - k) r).map (done ++ ·))) (fun _ i _ => 4 - (intOf i).toNat)
  case atStart => exact ⟨0, [], l, 0, by simp, rfl, hl, rfl, rfl, rfl, by simp [Hid]⟩
  case round =>
    obtain ⟨k, done, r, q, hk, hd, hr, rfl, rfl, rfl, hs⟩ := hrel
    rcases hc : Lib.cut r [32] with ⟨a, b, f⟩
    have hbl := cut_len r a b f hc
    have hk' : k = 0 ∨ k = 1 ∨ k = 2 ∨ k = 3 ∨ k = 4 := by omega
    rcases hk' with rfl | rfl | rfl | rfl | rfl
    · match done, hd with
      | [], _ =>
        cases f with
        | true =>
          have HF : Hid (spl 4 l = (spl (4 - 1) b).map ([a] ++ ·)) := by
            rw [hs.out]
            show ((spl (3 + 1) r).map _) = _
            rw [spl_yes _ hc]
            simp [Option.map_map, Function.comp_def]
          clear hs
          go_wp2_with fail
          refine (cut_yes r a b _ (by exact HL _ _) hr hc).mono ?_
          rintro e w1 ⟨rfl, n, rfl⟩
          clear hc
          go_wp2
          go_roundw
          case rel => exact ⟨1, [a], b, q + n, by omega, rfl, by omega, rfl, rfl, rfl, HF⟩
          case measure => simp [intOf]
        | false =>
          have HF : Hid (spl 4 l = some [a]) := by
            rw [hs.out]
            show ((spl (3 + 1) r).map _) = _
            rw [spl_no _ hc]
            rfl
          clear hs
          go_wp2_with fail
          refine (cut_no r a b _ (by exact HL _ _) hr hc).mono ?_
          rintro e w1 ⟨rfl, n, rfl⟩
          clear hc
          go_wp2
          refine bodyPost_ret (v := .tuple #[wv [a], .int .i64 1, .bool true]) (by simp [results, Tryd.results82, go_sem, wd]) rfl ⟨?_, ?_⟩
          · rw [HF.out]; rfl
          · exact below_drewN (grew (grew (Below.refl _ _) _) _) _
    · match done, hd with
      | [x0], _ =>
        cases f with
        | true =>
          have HF : Hid (spl 4 l = (spl (4 - 2) b).map ([x0, a] ++ ·)) := by
            rw [hs.out]
            show ((spl (2 + 1) r).map _) = _
            rw [spl_yes _ hc]
            simp [Option.map_map, Function.comp_def]
          clear hs
          go_wp2_with fail
          refine (cut_yes r a b _ (by exact HL _ _) hr hc).mono ?_
          rintro e w1 ⟨rfl, n, rfl⟩
          clear hc
          go_wp2
          go_roundw
          case rel => exact ⟨2, [x0, a], b, q + n, by omega, rfl, by omega, rfl, rfl, rfl, HF⟩
          case measure => simp [intOf]
        | false =>
          have HF : Hid (spl 4 l = some [x0, a]) := by
            rw [hs.out]
            show ((spl (2 + 1) r).map _) = _
            rw [spl_no _ hc]
            rfl
          clear hs
          go_wp2_with fail
          refine (cut_no r a b _ (by exact HL _ _) hr hc).mono ?_
          rintro e w1 ⟨rfl, n, rfl⟩
          clear hc
          go_wp2
          refine bodyPost_ret (v := .tuple #[wv [x0, a], .int .i64 2, .bool true]) (by simp [results, Tryd.results82, go_sem, wd]) rfl ⟨?_, ?_⟩
          · rw [HF.out]; rfl
          · exact below_drewN (grew (grew (Below.refl _ _) _) _) _
    · match done, hd with
      | [x0, x1], _ =>
        cases f with
        | true =>
          have HF : Hid (spl 4 l = (spl (4 - 3) b).map ([x0, x1, a] ++ ·)) := by
            rw [hs.out]
            show ((spl (1 + 1) r).map _) = _
            rw [spl_yes _ hc]
            simp [Option.map_map, Function.comp_def]
          clear hs
          go_wp2_with fail
          refine (cut_yes r a b _ (by exact HL _ _) hr hc).mono ?_
          rintro e w1 ⟨rfl, n, rfl⟩
          clear hc
          go_wp2
          go_roundw
          case rel => exact ⟨3, [x0, x1, a], b, q + n, by omega, rfl, by omega, rfl, rfl, rfl, HF⟩
          case measure => simp [intOf]
        | false =>
          have HF : Hid (spl 4 l = some [x0, x1, a]) := by
            rw [hs.out]
            show ((spl (1 + 1) r).map _) = _
            rw [spl_no _ hc]
            rfl
          clear hs
          go_wp2_with fail
          refine (cut_no r a b _ (by exact HL _ _) hr hc).mono ?_
          rintro e w1 ⟨rfl, n, rfl⟩
          clear hc
          go_wp2
          refine bodyPost_ret (v := .tuple #[wv [x0, x1, a], .int .i64 3, .bool true]) (by simp [results, Tryd.results82, go_sem, wd]) rfl ⟨?_, ?_⟩
          · rw [HF.out]; rfl
          · exact below_drewN (grew (grew (Below.refl _ _) _) _) _
    · match done, hd with
      | [x0, x1, x2], _ =>
        cases f with
        | true =>
          have HF : Hid (spl 4 l = (spl (4 - 4) b).map ([x0, x1, x2, a] ++ ·)) := by
            rw [hs.out]
            show ((spl (0 + 1) r).map _) = _
            rw [spl_yes _ hc]
            simp [Option.map_map, Function.comp_def]
          clear hs
          go_wp2_with fail
          refine (cut_yes r a b _ (by exact HL _ _) hr hc).mono ?_
          rintro e w1 ⟨rfl, n, rfl⟩
          clear hc
          go_wp2
          go_roundw
          case rel => exact ⟨4, [x0, x1, x2, a], b, q + n, by omega, rfl, by omega, rfl, rfl, rfl, HF⟩
          case measure => simp [intOf]
        | false =>
          have HF : Hid (spl 4 l = some [x0, x1, x2, a]) := by
            rw [hs.out]
            show ((spl (0 + 1) r).map _) = _
            rw [spl_no _ hc]
            rfl
          clear hs
          go_wp2_with fail
          refine (cut_no r a b _ (by exact HL _ _) hr hc).mono ?_
          rintro e w1 ⟨rfl, n, rfl⟩
          clear hc
          go_wp2
          refine bodyPost_ret (v := .tuple #[wv [x0, x1, x2, a], .int .i64 4, .bool true]) (by simp [results, Tryd.results82, go_sem, wd]) rfl ⟨?_, ?_⟩
          · rw [HF.out]; rfl
          · exact below_drewN (grew (grew (Below.refl _ _) _) _) _
    · have HF : Hid (spl 4 l = none) := by rw [hs.out]; rfl
      clear hs hc
      go_wp2
      refine bodyPost_ret (v := .tuple #[wv [], .int .i64 0, .bool false]) (by simp [results, Tryd.results82, go_sem, wd]) rfl ⟨?_, ?_⟩
      · rw [HF.out]; rfl
      · exact below_drewN (grew (grew (Below.refl _ _) _) _) _

end Go.Proofs.YtijcohldgjcjgacDoor
