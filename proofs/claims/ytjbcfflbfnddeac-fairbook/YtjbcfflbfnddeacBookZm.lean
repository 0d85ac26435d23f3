/- Package book: the walk of Apply, where something is wrong; the region that copies. -/
import Derived.Test.YtjbcfflbfnddeacBookZc
import Derived.Test.YtjbcfflbfnddeacBookZj
import Derived.Test.YtjbcfflbfnddeacBookK
namespace Go.Proofs.Ytjbcfflbfnddeac
open Go.RowKit Go.Shelf

set_option maxHeartbeats 2000000 in
theorem bk_app_book (a1 a2 : Option Addr) (n1 n2 c1 c2 : Nat) (js : List Jb) (rs : List Rg) (x : En) (w : World) (h1 : JobSl w (.slice a1 n1 c1) js) (h2 : RungSl w (.slice a2 n2 c2) rs) (hbad : ckBook js rs ≠ 0) :
    Calls Try.prog 12 #[.agg #[.slice a1 n1 c1, .slice a2 n2 c2], x.val] w fun e w' => e = .returned (.tuple #[.agg #[nil0, nil0], .int .i64 (ckBook js rs)]) ∧ Below w.heap.size w w' := by
  have hck := fun W hb => bk_check (.slice a1 n1 c1) (.slice a2 n2 c2) js rs W (h1.later hb) (h2.later hb)
  have hb : (ckBook js rs != 0) = true := by rw [bne_iff_ne]; exact hbad
  clear h1 h2 hbad
  generalize ckBook js rs = n at *
  have hB0 := grew (grew (grew (Below.refl w.heap.size w) (boxB (.slice a1 n1 c1) (.slice a2 n2 c2))) (boxE x.k x.j x.v x.t x.c)) (boxB nil0 nil0)
  have HB0 : Aside _ := hB0
  have hck' := hck _ hB0
  have hr0 : ∀ (i : Nat), (((w.alloc (boxB (.slice a1 n1 c1) (.slice a2 n2 c2))).alloc (boxE x.k x.j x.v x.t x.c)).alloc (boxB nil0 nil0)).heap[w.heap.size + 2]? = some (boxB nil0 nil0) := fun _ => by
    have := heap_new ((w.alloc (boxB (.slice a1 n1 c1) (.slice a2 n2 c2))).alloc (boxE x.k x.j x.v x.t x.c)) (boxB nil0 nil0)
    rwa [World.size_alloc, World.size_alloc] at this
  have HR0 : Aside _ := hr0 0
  clear hck hB0 hr0
  go_enter Try.func12, Try.ntmps12
  go_wp2_with fail
  refine hck'.mono ?_
  rintro e w1 ⟨rfl, hb1⟩
  have hB1 := HB0.out.trans (hb1.mono HB0.out.size)
  have hr1 : w1.heap[w.heap.size + 2]? = some (boxB nil0 nil0) := heap_below HR0.out hb1 (heap_lt HR0.out)
  have z1 : ∀ i, w1.cell? ⟨w.heap.size + 2, i, none⟩ = #[nil0, nil0][i]? := fun i => Joins.cell_of_block hr1 i
  have f1 : ∀ i, w1.frozen? ⟨w.heap.size + 2, i, none⟩ = false := fun i => Joins.unfrozen_of_block hr1 i
  clear hb1 hck' HB0 HR0 hr1
  go_wp2
  refine bodyPost_ret (v := .tuple #[.agg #[nil0, nil0], .int .i64 n]) (by simp [results, Try.results12, go_sem, z1]) rfl ⟨rfl, ?_⟩
  exact (hB1.setCell (p := ⟨w.heap.size + 2, 0, none⟩) (by show w.heap.size ≤ w.heap.size + 2; omega) _).setCell (p := ⟨w.heap.size + 2, 1, none⟩) (by show w.heap.size ≤ w.heap.size + 2; omega) _

set_option maxHeartbeats 2000000 in
theorem bk_app_entry (a1 a2 : Option Addr) (n1 n2 c1 c2 : Nat) (js : List Jb) (rs : List Rg) (x : En) (w : World) (h1 : JobSl w (.slice a1 n1 c1) js) (h2 : RungSl w (.slice a2 n2 c2) rs) (hok : ckBook js rs = 0) (hbad : x.chk ≠ 0) :
    Calls Try.prog 12 #[.agg #[.slice a1 n1 c1, .slice a2 n2 c2], x.val] w fun e w' => e = .returned (.tuple #[.agg #[nil0, nil0], .int .i64 x.chk]) ∧ Below w.heap.size w w' := by
  have hck := fun W hb => bk_check (.slice a1 n1 c1) (.slice a2 n2 c2) js rs W (h1.later hb) (h2.later hb)
  rw [hok] at hck
  have hce : ∀ W, Calls Try.prog 13 #[ev x.k x.j x.v x.t x.c] W fun e w' => e = .returned (.int .i64 x.chk) ∧ Below W.heap.size W w' := fun W => check_any x.k x.j x.v x.t x.c W
  have hb : (x.chk != 0) = true := by rw [bne_iff_ne]; exact hbad
  clear h1 h2 hbad hok
  generalize x.chk = n at *
  have hB0 := grew (grew (grew (Below.refl w.heap.size w) (boxB (.slice a1 n1 c1) (.slice a2 n2 c2))) (boxE x.k x.j x.v x.t x.c)) (boxB nil0 nil0)
  have HB0 : Aside _ := hB0
  have hck' := hck _ hB0
  have hr0 : ∀ (i : Nat), (((w.alloc (boxB (.slice a1 n1 c1) (.slice a2 n2 c2))).alloc (boxE x.k x.j x.v x.t x.c)).alloc (boxB nil0 nil0)).heap[w.heap.size + 2]? = some (boxB nil0 nil0) := fun _ => by
    have := heap_new ((w.alloc (boxB (.slice a1 n1 c1) (.slice a2 n2 c2))).alloc (boxE x.k x.j x.v x.t x.c)) (boxB nil0 nil0)
    rwa [World.size_alloc, World.size_alloc] at this
  have HR0 : Aside _ := hr0 0
  clear hck hB0 hr0
  go_enter Try.func12, Try.ntmps12
  go_wp2_with fail
  refine hck'.mono ?_
  rintro e w1 ⟨rfl, hb1⟩
  have hB1 := HB0.out.trans (hb1.mono HB0.out.size)
  have hr1 : w1.heap[w.heap.size + 2]? = some (boxB nil0 nil0) := heap_below HR0.out hb1 (heap_lt HR0.out)
  have z1 : ∀ i, w1.cell? ⟨w.heap.size + 2, i, none⟩ = #[nil0, nil0][i]? := fun i => Joins.cell_of_block hr1 i
  have f1 : ∀ i, w1.frozen? ⟨w.heap.size + 2, i, none⟩ = false := fun i => Joins.unfrozen_of_block hr1 i
  have e1 : w1.heap[w.heap.size + 1]? = some (boxE x.k x.j x.v x.t x.c) := by
    rw [hb1.block _ (by simp only [World.size_alloc]; omega)]
    have := heap_new (w.alloc (boxB (.slice a1 n1 c1) (.slice a2 n2 c2))) (boxE x.k x.j x.v x.t x.c)
    rw [World.size_alloc] at this
    exact heap_old this _
  have y1 : ∀ i, w1.cell? ⟨w.heap.size + 1, i, none⟩ = #[Value.int .i64 x.k, .int .i64 x.j, .int .i64 x.v, .int .i64 x.t, .int .i64 x.c][i]? := fun i => Joins.cell_of_block e1 i
  clear hb1 hck' HB0 HR0 z1 f1
  go_wp2_with fail
  refine (hce _).mono ?_
  rintro e w2 ⟨rfl, hb2⟩
  have hB2 := hB1.trans (hb2.mono hB1.size)
  have hr2 := heap_below hr1 hb2 (heap_lt hr1)
  have z1 : ∀ i, w2.cell? ⟨w.heap.size + 2, i, none⟩ = #[nil0, nil0][i]? := fun i => Joins.cell_of_block hr2 i
  have f1 : ∀ i, w2.frozen? ⟨w.heap.size + 2, i, none⟩ = false := fun i => Joins.unfrozen_of_block hr2 i
  clear hb2 hB1 hr1 hr2 e1 y1 hce
  go_wp2
  refine bodyPost_ret (v := .tuple #[.agg #[nil0, nil0], .int .i64 n]) (by simp [results, Try.results12, go_sem, z1]) rfl ⟨rfl, ?_⟩
  exact (hB2.setCell (p := ⟨w.heap.size + 2, 0, none⟩) (by show w.heap.size ≤ w.heap.size + 2; omega) _).setCell (p := ⟨w.heap.size + 2, 1, none⟩) (by show w.heap.size ≤ w.heap.size + 2; omega) _

end Go.Proofs.Ytjbcfflbfnddeac
