/- Package disk's Check and Same. -/
import Derived.Test.YtknjdbpdlodpbadDoorDiskZc
namespace Go.Proofs.YtknjdbpdlodpbadDoor
open Go.RowKit

/-- read, at every slice. -/
theorem diskRead_any (v : Value) (l : List UInt8) (w : World) (hL : Laid w) (h : ByteSl w v l) (hr : Roomy v) (hl : l.length ≤ 30000) :
    Calls Tryd.prog 18 #[v] w fun e w' => ∃ u, e = .returned (.tuple #[u, .int .i64 (linesOf l 160).2.1, .int .i64 (linesOf l 160).2.2]) ∧ w'.ownsRow w.heap.size 30 8 u (linesOf l 160).1.length ((linesOf l 160).1.flatMap Rc.cells) ∧ Below w.heap.size w w' := by
  by_cases h0 : l = []
  · subst h0
    obtain ⟨a, c, rfl, _⟩ := h
    have e : linesOf [] 160 = ([], 0, 0) := dl_nil _ _ _ _
    rw [e]
    go_enter Tryd.func18, Tryd.ntmps18
    go_wp2
    go_loopw [5, 6] (fun v z wr => v = nilB ∧ z = .int .i64 0 ∧ wr = w) (fun _ _ _ => 0)
    case atStart => exact ⟨rfl, rfl, rfl⟩
    case round =>
      obtain ⟨rfl, rfl, rfl⟩ := hrel
      go_wp2
      go_ret3
      exact ⟨nilB, rfl, World.ownsRow_nil _ _ _ _, Below.refl _ _⟩
  · obtain ⟨a, n, c, rfl, hc⟩ := hr
    have hn := h.len
    have hn0 : 0 < n := by rw [← hn]; exact List.length_pos_iff.2 h0
    obtain ⟨b, off, rfl, hE⟩ := h.at hn0
    exact read_at b off n c l w hL hE hn hn0 hc (by omega)

set_option maxHeartbeats 1000000 in
set_option maxRecDepth 100000 in
theorem diskCheck_any (v1 v2 : Value) (d : Dk) (w : World) (hL : Laid w) (h : DiskR w v1 v2 d) (hn1 : d.1.length ≤ topLen) (hn2 : d.2.length ≤ topLen) :
    Calls Tryd.prog 14 #[.agg #[v1, v2]] w fun e w' => e = .returned (.int .i64 (ckDisk d.1 d.2)) ∧ Below w.heap.size w w' := by
  obtain ⟨s, t⟩ := d
  dsimp only at hn1 hn2 ⊢
  have hB := grew (Below.refl w.heap.size w) (boxD v1 v2)
  have hrd := fun hl => diskRead_any v1 s _ (hL.later hB) (h.safe.later hB) h.room1 hl
  obtain ⟨a1, c1, rfl, _⟩ := h.safe
  obtain ⟨a2, c2, rfl, _⟩ := h.wait
  clear h
  dsimp only at hrd ⊢
  change s.length ≤ 140737488351232 at hn1
  change t.length ≤ 140737488351232 at hn2
  by_cases hk : 30000 < s.length + t.length
  · have hr : ckDisk s t = 2 := by rw [ckDisk, if_pos (by omega)]
    rw [hr]
    clear hr hrd
    generalize s.length = n at *
    generalize t.length = m at *
    have h1 : 30000 < (n : Int) + (m : Int) := by omega
    go_enter Tryd.func14, Tryd.ntmps14
    go_wp2
    go_ret
    exact ⟨rfl, grew (Below.refl _ _) _⟩
  · have hr : ckDisk s t = (linesOf s 160).2.2 := by rw [ckDisk, if_neg (by omega)]
    have hcall := hrd (by omega)
    rw [hr]
    clear hr hrd
    generalize (linesOf s 160).2.2 = d at *
    generalize (linesOf s 160).2.1 = z at *
    generalize (linesOf s 160).1 = rs at *
    generalize s.length = n at *
    generalize t.length = m at *
    have h1 : (n : Int) + (m : Int) ≤ 30000 := by omega
    have h2 : (n : Int) ≤ 30000 := by omega
    have h3 : (m : Int) ≤ 30000 := by omega
    go_enter Tryd.func14, Tryd.ntmps14
    go_wp2_with (go_at_call 18; refine hcall.mono ?_; rintro e w1 ⟨u, rfl, _, hb1⟩)
    go_ret
    exact ⟨rfl, hB.trans (hb1.mono hB.size)⟩

set_option maxHeartbeats 2000000 in
theorem diskSame_any (v1 v2 u1 u2 : Value) (d x : Dk) (w : World) (h1 : DiskR w v1 v2 d) (h2 : DiskR w u1 u2 x) :
    Calls Tryd.prog 13 #[.agg #[v1, v2], .agg #[u1, u2]] w fun e w' => e = .returned (.bool (decide (d = x))) ∧ Below w.heap.size w w' := by
  obtain ⟨s, t⟩ := d
  obtain ⟨s', t'⟩ := x
  have hB := grew (grew (Below.refl w.heap.size w) (boxD v1 v2)) (boxD u1 u2)
  have e1 := bytesEqual v1 u1 s s' _ (h1.safe.later hB) (h2.safe.later hB)
  have e2 := bytesEqual v2 u2 t t' _ (h1.wait.later hB) (h2.wait.later hB)
  obtain ⟨a1, c1, rfl, _⟩ := h1.safe
  obtain ⟨a2, c2, rfl, _⟩ := h1.wait
  obtain ⟨a3, c3, rfl, _⟩ := h2.safe
  obtain ⟨a4, c4, rfl, _⟩ := h2.wait
  have hd : decide ((s, t) = (s', t')) = (decide (s = s') && decide (t = t')) := by
    by_cases g1 : s = s' <;> by_cases g2 : t = t' <;> simp [g1, g2]
  rw [hd]
  have HB : Aside _ := hB
  clear h1 h2 hd hB
  dsimp only at e1 e2 ⊢
  generalize decide (s = s') = b1 at *
  generalize decide (t = t') = b2 at *
  generalize s.length = n1 at *
  generalize t.length = n2 at *
  generalize s'.length = n3 at *
  generalize t'.length = n4 at *
  go_enter Tryd.func13, Tryd.ntmps13
  go_wp2_with fail
  refine e1.mono ?_
  rintro e w1 ⟨rfl, hw1⟩
  subst hw1
  cases b1 with
  | false =>
    clear e1 e2
    go_wp2
    go_ret
    exact ⟨rfl, HB.out⟩
  | true =>
    clear e1
    go_wp2_with fail
    refine e2.mono ?_
    rintro e w2 ⟨rfl, hw2⟩
    subst hw2
    clear e2
    go_wp2
    go_ret
    exact ⟨rfl, HB.out⟩

end Go.Proofs.YtknjdbpdlodpbadDoor
