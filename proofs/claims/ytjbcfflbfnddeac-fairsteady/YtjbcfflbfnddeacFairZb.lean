/- Package fair: what follow holds and reads. -/
import Derived.Test.YtjbcfflbfnddeacFairZa
import Derived.Laws.OwnMore
import Derived.Deep.AppendLies
import Derived.Deep.QuietTactic
import Derived.BigQuiet
namespace Go.Proofs.Ytjbcfflbfnddeac
open Go.RowKit Go.Shelf

/-- Where Lives' round stands: right lives in a row of its own. -/
structure Lrw (w W : World) (v : Value) (m : Nat) (ls : List Lf) : Prop where
  row : W.ownsRow w.heap.size 30 5 v m (ls.flatMap Lf.cells)
  lok : Lok ls
  below : Below w.heap.size w W
  len : ls.length = m
  all : allR ls ≤ 60

theorem Lrw.later {w W W' : World} {v : Value} {m : Nat} {ls : List Lf} (h : Lrw w W v m ls) (hb : Below W.heap.size W W') : Lrw w W' v m ls :=
  ⟨owns_keep h.row fun _ _ _ hc => heap_below hc hb (heap_lt hc), h.lok, h.below.trans (hb.mono h.below.size), h.len, h.all⟩

theorem Lrw.sl {w W : World} {v : Value} {m : Nat} {ls : List Lf} (h : Lrw w W v m ls) : LifeSl W v ls := by
  have hrow := h.row
  rw [← h.len] at hrow
  exact slOf_of_owns Lf.five hrow

theorem idx_at {ls : List Lf} {i : Int} {k : Nat} (h : lifeAt ls i = some k) : idx (Lf.of i) ls = k := by
  unfold lifeAt at h
  rw [idx, h]
theorem idx_not {ls : List Lf} {i : Int} (h : lifeAt ls i = none) : idx (Lf.of i) ls = -1 := by
  unfold lifeAt at h
  rw [idx, h]

/-- What the guards of follow read. -/
abbrev Sees (W w : World) (eb g kk : Nat) (x : En) (y : Lf) : Prop :=
  Below W.heap.size W w ∧ w.cell? ⟨eb, 0, none⟩ = some (.int .i64 x.k) ∧ w.cell? ⟨eb, 3, none⟩ = some (.int .i64 x.t) ∧
  w.cell? ⟨g, kk * 5, none⟩ = some (.int .i64 y.j) ∧ w.cell? ⟨g, kk * 5 + 1, none⟩ = some (.int .i64 y.e) ∧ w.cell? ⟨g, kk * 5 + 2, none⟩ = some (.int .i64 y.f) ∧ w.cell? ⟨g, kk * 5 + 3, none⟩ = some (.int .i64 y.r) ∧ w.cell? ⟨g, kk * 5 + 4, none⟩ = some (.bool y.o)

theorem sees_below {W w : World} {eb g kk : Nat} {x : En} {y : Lf} (h : Sees W w eb g kk x y) : Below W.heap.size W w := h.1
theorem sees_step {W w w' : World} {eb g kk : Nat} {x : En} {y : Lf} (h : Sees W w eb g kk x y) (hb : Below w.heap.size w w') : Sees W w' eb g kk x y :=
  ⟨h.1.trans (hb.mono h.1.size), cell_later hb h.2.1, cell_later hb h.2.2.1, cell_later hb h.2.2.2.1, cell_later hb h.2.2.2.2.1, cell_later hb h.2.2.2.2.2.1, cell_later hb h.2.2.2.2.2.2.1, cell_later hb h.2.2.2.2.2.2.2⟩

end Go.Proofs.Ytjbcfflbfnddeac
