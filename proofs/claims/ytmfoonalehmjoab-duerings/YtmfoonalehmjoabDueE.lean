/- The closed fact 'counted', under package due's contracts. -/
import Derived.Test.YtmfoonalehmjoabDueD
namespace Go.Proofs.Ytmfoonalehmjoab
open Go.RowKit

def cJ : List Jb := [⟨1, 7, 3⟩, ⟨2, 5, 2⟩, ⟨4, 1, 12⟩]
theorem cJ_err : dueErr cJ [] 11 = 0 := by kernel_rfl
theorem cJ_due : dueOf cJ 11 = [⟨2, 5, 2⟩, ⟨1, 7, 3⟩] := by kernel_rfl
theorem cJ_count : countOf cJ 11 = 4 := by kernel_rfl
theorem cJ_when : whenOf cJ = 2 := by kernel_rfl
theorem cJ_ck : ckBook cJ [] = 0 := by kernel_rfl
theorem nil_ck : ckBook [] [] = 0 := by kernel_rfl

set_option maxHeartbeats 4000000 in
theorem counted_any (hK : Dues) (w : World) :
    Calls Try.prog 23 #[] w fun e w' => e = .returned (.bool true) ∧ Below w.heap.size w w' := by
  have hd := fun v1 v2 W g1 g2 => hK.due v1 v2 cJ [] 11 W g1 g2 (by decide) (by decide)
  simp only [cJ_err, if_true, cJ_due] at hd
  have hc := fun v1 v2 W g1 g2 => hK.count v1 v2 cJ [] 11 W g1 g2 (by decide) (by decide)
  simp only [cJ_err, if_true, cJ_count] at hc
  have hw := fun v1 v2 W g1 g2 => hK.when_ v1 v2 cJ [] W g1 g2 (by decide) (by decide)
  simp only [cJ_ck, if_true, cJ_when] at hw
  have hn := fun v1 v2 W g1 g2 => hK.when_ v1 v2 [] [] W g1 g2 (by decide) (by decide)
  simp only [nil_ck, if_true, whenOf] at hn
  clear hK
  go_enter Try.func23, Try.ntmps23
  go_wp2_with fail
  have hlit : ((w.alloc (.cells #[.int .i64 1, .int .i64 7, .int .i64 3, .int .i64 2, .int .i64 5, .int .i64 2, .int .i64 4, .int .i64 1, .int .i64 12] 41)).alloc (boxB (.slice (some ⟨w.heap.size, 0, none⟩) 3 3) nil0)).heap[w.heap.size]? = some (.cells #[.int .i64 1, .int .i64 7, .int .i64 3, .int .i64 2, .int .i64 5, .int .i64 2, .int .i64 4, .int .i64 1, .int .i64 12] 41) := heap_old (heap_new _ _) _
  have hbx : ((w.alloc (.cells #[.int .i64 1, .int .i64 7, .int .i64 3, .int .i64 2, .int .i64 5, .int .i64 2, .int .i64 4, .int .i64 1, .int .i64 12] 41)).alloc (boxB (.slice (some ⟨w.heap.size, 0, none⟩) 3 3) nil0)).heap[w.heap.size + 1]? = some (boxB (.slice (some ⟨w.heap.size, 0, none⟩) 3 3) nil0) := by
    have := heap_new (w.alloc (.cells #[.int .i64 1, .int .i64 7, .int .i64 3, .int .i64 2, .int .i64 5, .int .i64 2, .int .i64 4, .int .i64 1, .int .i64 12] 41)) (boxB (.slice (some ⟨w.heap.size, 0, none⟩) 3 3) nil0)
    rwa [World.size_alloc] at this
  have hB0 : Below w.heap.size w _ := grew (grew (Below.refl w.heap.size w) (.cells #[.int .i64 1, .int .i64 7, .int .i64 3, .int .i64 2, .int .i64 5, .int .i64 2, .int .i64 4, .int .i64 1, .int .i64 12] 41)) (boxB (.slice (some ⟨w.heap.size, 0, none⟩) 3 3) nil0)
  have J0 : JobSl _ (.slice (some ⟨w.heap.size, 0, none⟩) 3 3) cJ := slOf_lit Jb.three (c := 3) (xs := cJ) hlit rfl
  refine (hd _ _ _ (by exact J0) (by exact SlOf.nil _ _)).mono ?_
  rintro e w1 ⟨u, rfl, J1, hb1, _⟩
  have hB1 := step_below hB0 hb1
  have hx1 := heap_below hbx hb1 (heap_lt hbx)
  have K1 := J0.later hb1
  obtain ⟨a, c, rfl, hcase⟩ := id J1
  have s2 : ([⟨2, 5, 2⟩, ⟨1, 7, 3⟩] : List Jb).length = 2 := rfl
  rw [s2] at J1 hcase ⊢
  obtain ⟨b, off, rfl, hE⟩ := J1.at (by omega)
  clear hcase hb1 hlit hbx hB0 J0 J1
  have z1 : ∀ i, w1.cell? ⟨w.heap.size + 1, i, none⟩ = #[Value.slice (some ⟨w.heap.size, 0, none⟩) 3 3, nil0][i]? := fun i => Joins.cell_of_block hx1 i
  go_wp2_with fail
  refine (hc _ _ _ (by exact K1) (by exact SlOf.nil _ _)).mono ?_
  rintro e w2 ⟨rfl, hb2⟩
  have hB2 := step_below hB1 hb2
  have hx2 := heap_below hx1 hb2 (heap_lt hx1)
  have K2 := K1.later hb2
  have hE2 := hE.later hb2
  clear hb2 hB1 hx1 K1 hE z1
  have z2 : ∀ i, w2.cell? ⟨w.heap.size + 1, i, none⟩ = #[Value.slice (some ⟨w.heap.size, 0, none⟩) 3 3, nil0][i]? := fun i => Joins.cell_of_block hx2 i
  go_wp2_with fail
  refine (hw _ _ _ (by exact K2) (by exact SlOf.nil _ _)).mono ?_
  rintro e w3 ⟨rfl, hb3⟩
  have hB3 := step_below hB2 hb3
  have hE3 := hE2.later hb3
  clear hb3 hB2 hx2 K2 hE2 z2
  go_wp2_with fail
  refine (hn _ _ _ (by exact SlOf.nil _ _) (by exact SlOf.nil _ _)).mono ?_
  rintro e w4 ⟨rfl, hb4⟩
  have hB4 := step_below hB3 hb4
  have hE4 := hE3.later hb4
  have d0 : w4.cell? ⟨b, off, none⟩ = some (.int .i64 2) := hE4 0 _ rfl 0 _ rfl
  have d1 : w4.cell? ⟨b, off + 3, none⟩ = some (.int .i64 1) := hE4 1 _ rfl 0 _ rfl
  clear hb4 hB3 hE3 hE4 hd hc hw hn
  go_wp2
  go_ret
  exact ⟨rfl, hB4⟩

end Go.Proofs.Ytmfoonalehmjoab
