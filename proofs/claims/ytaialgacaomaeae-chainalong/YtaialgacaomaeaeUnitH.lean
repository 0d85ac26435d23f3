/- What the laws on units ask of package unit; the closed fact 'stood'. -/
import Derived.Test.YtaialgacaomaeaeUnitB
import Derived.Test.YtaialgacaomaeaeUnitF
import Derived.Test.YtaialgacaomaeaeSlRec
import Derived.Deep.RegionHeld3
namespace Go.Proofs.Ytaialgacaomaeae
open Go.RowKit
open scoped Classical

/-- All that is held, by a letter. -/
theorem by_letter {Q : World → Prop} {W : World} (q : Q W) (hQ : ∀ W W', Q W → Below W.heap.size W W' → Q W') : ∃ P : World → Prop, P W ∧ (∀ W W', P W → Below W.heap.size W W' → P W') ∧ (∀ W, P W → Q W) := ⟨Q, q, hQ, fun _ h => h⟩

theorem write_any (k : Int) (x : En) (w : World) :
    Calls Try.prog 12 #[.int .i64 k, ev x.k x.j x.v x.t x.c] w fun e w' => e = .returned (Rc.val ⟨1, k, 0, x⟩) ∧ Below w.heap.size w w' := by
  have HB : Aside (Below w.heap.size w ((w.alloc (boxE x.k x.j x.v x.t x.c)).alloc (boxRc ⟨1, k, 0, x⟩))) := grew (grew (Below.refl _ _) _) _
  go_enter Try.func12, Try.ntmps12
  go_wp2
  exact bodyPost_ret (v := Rc.val ⟨1, k, 0, x⟩) (by simp [results, Try.results12, go_sem]) rfl ⟨rfl, HB.out⟩

def s1 : Rc := ⟨1, 4, 0, e1⟩
def s2 : Rc := ⟨2, 0, 3, En.zero⟩
def s3 : Rc := ⟨1, 4, 0, En.zero⟩
def U3 : Un := ⟨3, (List.replicate 60 blankE).set 4 e1⟩
theorem st_of : unitOf [s1, s2] = (U3, 0) := by kernel_rfl
theorem st_twice : unext U3 s3 = (Un.zero, 6) := by kernel_rfl
theorem st_old : unext U3 s2 = (Un.zero, 8) := by kernel_rfl
theorem st_tail : tailOf U3.cells = 5 := by kernel_rfl
theorem st_tail0 : tailOf unew.cells = 0 := by kernel_rfl
theorem st_ck : U3.ck = 0 := by kernel_rfl
theorem st_at : U3.cells[4]? = some e1 := by kernel_rfl

/-- A unit's box, in a later world. -/
abbrev BoS (X W : World) (b : Nat) (s : Value) : Prop := Below X.heap.size X W ∧ W.cell? ⟨b, 0, none⟩ = some (.int .i64 3) ∧ W.cell? ⟨b, 1, none⟩ = some s
theorem boS_of {X W : World} {b : Nat} {s : Value} (h : X.heap[b]? = some (boxU 3 s)) (hb : Below X.heap.size X W) : BoS X W b s :=
  ⟨hb, cell_later hb (Joins.cell_of_block h 0), cell_later hb (Joins.cell_of_block h 1)⟩

theorem put_b (a b c : Int) (w : World) : Calls Try.prog 13 #[.int .i64 a, .int .i64 b, .int .i64 c] w fun e w' => e = .returned (ev 1 a b c 0) ∧ Below w.heap.size w w' :=
  (put_any a b c w).mono fun _ _ ⟨h1, h2⟩ => ⟨h1, by rw [h2]; exact grew (Below.refl _ _) _⟩

/-- What stood's guards read. -/
abbrev StS (P : World → Prop) (W : World) (b : Nat) (s : Value) (g o : Nat) : Prop := P W ∧ W.cell? ⟨b, 0, none⟩ = some (.int .i64 3) ∧ W.cell? ⟨b, 1, none⟩ = some s ∧ W.cell? ⟨g, o + 20, none⟩ = some (.int .i64 1) ∧ W.cell? ⟨g, o + 20 + 1, none⟩ = some (.int .i64 2) ∧ W.cell? ⟨g, o + 20 + 2, none⟩ = some (.int .i64 5) ∧ W.cell? ⟨g, o + 20 + 3, none⟩ = some (.int .i64 10) ∧ W.cell? ⟨g, o + 20 + 4, none⟩ = some (.int .i64 0)
theorem stS_step {P : World → Prop} (hP : ∀ W W', P W → Below W.heap.size W W' → P W') {W W' : World} {b : Nat} {s : Value} {g o : Nat} (h : StS P W b s g o) (hb : Below W.heap.size W W') : StS P W' b s g o :=
  ⟨hP _ _ h.1 hb, cell_later hb h.2.1, cell_later hb h.2.2.1, cell_later hb h.2.2.2.1, cell_later hb h.2.2.2.2.1, cell_later hb h.2.2.2.2.2.1, cell_later hb h.2.2.2.2.2.2.1, cell_later hb h.2.2.2.2.2.2.2⟩
theorem stS_P {P : World → Prop} {W : World} {b : Nat} {s : Value} {g o : Nat} (h : StS P W b s g o) : P W := h.1

end Go.Proofs.Ytaialgacaomaeae
