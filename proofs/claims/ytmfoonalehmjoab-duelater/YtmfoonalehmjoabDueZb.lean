/- Package due: inTurn; slices.MinFunc at jobs. -/
import Derived.Test.YtmfoonalehmjoabDueZa
namespace Go.Proofs.Ytmfoonalehmjoab
open Go.RowKit Go.Shelf

theorem compare_b (x y : Int) (w : World) : Calls Try.prog 63 #[.int .i64 x, .int .i64 y] w fun e w' => e = .returned (.int .i64 (cmp3 x y)) ∧ Below w.heap.size w w' :=
  (compare_any x y w).mono fun _ _ ⟨h1, h2⟩ => ⟨h1, by rw [h2]; exact Below.refl _ _⟩

/-- Two jobs in boxes. -/
abbrev Pair (W w : World) (b c : Nat) (x y : Jb) : Prop :=
  Below W.heap.size W w ∧ w.cell? ⟨b, 0, none⟩ = some (.int .i64 x.i) ∧ w.cell? ⟨b, 2, none⟩ = some (.int .i64 x.n) ∧ w.cell? ⟨c, 0, none⟩ = some (.int .i64 y.i) ∧ w.cell? ⟨c, 2, none⟩ = some (.int .i64 y.n)

theorem pair_step {W w w' : World} {b c : Nat} {x y : Jb} (h : Pair W w b c x y) (hb : Below w.heap.size w w') : Pair W w' b c x y :=
  ⟨h.1.trans (hb.mono h.1.size), cell_later hb h.2.1, cell_later hb h.2.2.1, cell_later hb h.2.2.2.1, cell_later hb h.2.2.2.2⟩

theorem or_new (x y : Int) (w : World) (T : TypeId) : Calls Try.prog 62 #[.slice (some ⟨w.heap.size, 0, none⟩) 2 2] (w.alloc (.cells #[.int .i64 x, .int .i64 y] T)) fun e w' => e = .returned (.int .i64 (if x = 0 then y else x)) ∧ Below (w.alloc (.cells #[.int .i64 x, .int .i64 y] T)).heap.size (w.alloc (.cells #[.int .i64 x, .int .i64 y] T)) w' :=
  (or_any x y w.heap.size 2 _ (Joins.cell_of_block (heap_new _ _) 0) (Joins.cell_of_block (heap_new _ _) 1)).mono fun _ _ ⟨h1, h2⟩ => ⟨h1, by rw [h2]; exact Below.refl _ _⟩

set_option maxHeartbeats 2000000 in
theorem inTurn_any (x y : Jb) (w : World) :
    Calls Try.prog 47 #[x.val, y.val] w fun e w' => e = .returned (.int .i64 (turn x y)) ∧ Below w.heap.size w w' := by
  have hS0 : Pair ((w.alloc (boxJ x)).alloc (boxJ y)) ((w.alloc (boxJ x)).alloc (boxJ y)) w.heap.size (w.heap.size + 1) x y := by
    have h1 : ((w.alloc (boxJ x)).alloc (boxJ y)).heap[w.heap.size]? = some (boxJ x) := heap_old (heap_new _ _) _
    have h2 : ((w.alloc (boxJ x)).alloc (boxJ y)).heap[w.heap.size + 1]? = some (boxJ y) := by
      have := heap_new (w.alloc (boxJ x)) (boxJ y)
      rwa [World.size_alloc] at this
    exact ⟨Below.refl _ _, Joins.cell_of_block h1 0, Joins.cell_of_block h1 2, Joins.cell_of_block h2 0, Joins.cell_of_block h2 2⟩
  have HB : Hid (Below w.heap.size w ((w.alloc (boxJ x)).alloc (boxJ y))) := grew (grew (Below.refl _ _) _) _
  have hor : ∀ (W : World) (T : TypeId), _ := fun W T => or_new (cmp3 x.n y.n) (cmp3 x.i y.i) W T
  have hc1 := fun W => compare_b x.n y.n W
  have hc2 := fun W => compare_b x.i y.i W
  change ∀ (W : World) (T : TypeId), Calls _ _ _ _ fun e w' => e = .returned (.int .i64 (turn x y)) ∧ _ at hor
  generalize turn x y = r at *
  generalize cmp3 x.n y.n = r1 at *
  generalize cmp3 x.i y.i = r2 at *
  go_enter Try.func47, Try.ntmps47
  go_wp2_with fail
  generalize (w.alloc (boxJ x)).alloc (boxJ y) = W0 at *
  have hbd : Below W0.heap.size W0 W0.drew := (Below.refl _ _).drew
  go_region_held3 (fun w' => Pair W0 w' w.heap.size (w.heap.size + 1) x y) (first | exact pair_step (by assumption) (by assumption) | exact pair_step (by assumption) (grew (Below.refl _ _) _)) (first | (go_at_call 63; with_reducible refine (hc1 _).mono ?_; rintro e w' ⟨rfl, hb'⟩) | (go_at_call 63; with_reducible refine (hc2 _).mono ?_; rintro e w' ⟨rfl, hb'⟩) | (go_at_call 62; refine (hor _ _).mono ?_; rintro e w' ⟨rfl, hb'⟩))
  all_goals
    rename_i hS
    have HB2 : Hid (Below w.heap.size w _) := HB.out.trans (hS.1.mono HB.out.size)
    clear hS hor hc1 hc2 hS0 hbd HB
    go_wp2
    go_ret
    exact ⟨rfl, HB2.out⟩

end Go.Proofs.Ytmfoonalehmjoab
