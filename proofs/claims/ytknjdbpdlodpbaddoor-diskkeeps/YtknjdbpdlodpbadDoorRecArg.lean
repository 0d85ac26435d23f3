/- A record among the arguments, opened. -/
import Derived.Test.YtknjdbpdlodpbadDoorEntryP
import Derived.Test.YtknjdbpdlodpbadDoorNoteB
namespace Go.Proofs.YtknjdbpdlodpbadDoor
open Go.ChangeShapes Go.WideShapes Go.ChangeAt Go.RowKit
open Go.ChangeMaps (open_string shut_string)

theorem cR : Tryd.prog.cellsOf 30 = 8 := by kernel_rfl
theorem array8 {α : Type} {cs : Array α} (h : cs.size = 8) : ∃ c0 c1 c2 c3 c4 c5 c6 c7, cs = #[c0, c1, c2, c3, c4, c5, c6, c7] := by
  obtain ⟨l⟩ := cs
  match l, h with
  | [c0, c1, c2, c3, c4, c5, c6, c7], _ => exact ⟨c0, c1, c2, c3, c4, c5, c6, c7, rfl⟩

section
variable {H : Type} {enc : TypeId × Value → H} {w : World} {base : Nat} {spare : Nat → Bool} {held : Bool}
set_option maxRecDepth 100000 in
theorem trod_en {fuel : Nat} {c0 c1 c2 c3 c4 : Value} {x : DataW H × List MemPlace} (h : DataW.trod enc Tryd.prog w base spare held fuel 28 [c0, c1, c2, c3, c4] = some x) : ∃ e : En, [c0, c1, c2, c3, c4] = e.cells := by
  obtain ⟨xs, n, _, hx, _, hlen, hel⟩ := DataW.trod_struct Tryd.underlying28 h
  match xs, hlen with
  | [y0, y1, y2, y3, y4], _ =>
    have k0 : DataW.trod enc Tryd.prog w base spare held n 3 (List.take (Tryd.prog.cellsOf 3) (List.drop 0 [c0, c1, c2, c3, c4])) = some y0 := hel 0 _ rfl
    have k1 : DataW.trod enc Tryd.prog w base spare held n 3 (List.take (Tryd.prog.cellsOf 3) (List.drop 1 [c0, c1, c2, c3, c4])) = some y1 := hel 1 _ rfl
    have k2 : DataW.trod enc Tryd.prog w base spare held n 3 (List.take (Tryd.prog.cellsOf 3) (List.drop 2 [c0, c1, c2, c3, c4])) = some y2 := hel 2 _ rfl
    have k3 : DataW.trod enc Tryd.prog w base spare held n 3 (List.take (Tryd.prog.cellsOf 3) (List.drop 3 [c0, c1, c2, c3, c4])) = some y3 := hel 3 _ rfl
    have k4 : DataW.trod enc Tryd.prog w base spare held n 3 (List.take (Tryd.prog.cellsOf 3) (List.drop 4 [c0, c1, c2, c3, c4])) = some y4 := hel 4 _ rfl
    rw [cI] at k0 k1 k2 k3 k4
    obtain ⟨a0, e0, _, _⟩ := DataW.trod_int Tryd.underlying3 k0
    obtain ⟨a1, e1, _, _⟩ := DataW.trod_int Tryd.underlying3 k1
    obtain ⟨a2, e2, _, _⟩ := DataW.trod_int Tryd.underlying3 k2
    obtain ⟨a3, e3, _, _⟩ := DataW.trod_int Tryd.underlying3 k3
    obtain ⟨a4, e4, _, _⟩ := DataW.trod_int Tryd.underlying3 k4
    simp at e0 e1 e2 e3 e4
    subst e0 e1 e2 e3 e4
    exact ⟨⟨a0, a1, a2, a3, a4⟩, rfl⟩

set_option maxRecDepth 100000 in
theorem trod_rec {fuel : Nat} {cs : List Value} {x : DataW H × List MemPlace} (h : DataW.trod enc Tryd.prog w base spare held fuel 30 cs = some x) : ∃ q : Rc, cs = [.int .i64 q.k, .int .i64 q.a, .int .i64 q.p, .int .i64 q.e.k, .int .i64 q.e.j, .int .i64 q.e.v, .int .i64 q.e.t, .int .i64 q.e.c] := by
  obtain ⟨xs, n, _, hx, hcl, hlen, hel⟩ := DataW.trod_struct Tryd.underlying30 h
  rw [cR] at hcl
  match xs, hlen, cs, hcl with
  | [y0, y1, y2, y3], _, [c0, c1, c2, c3, c4, c5, c6, c7], _ =>
    have k0 : DataW.trod enc Tryd.prog w base spare held n 3 (List.take (Tryd.prog.cellsOf 3) (List.drop 0 [c0, c1, c2, c3, c4, c5, c6, c7])) = some y0 := hel 0 _ rfl
    have k1 : DataW.trod enc Tryd.prog w base spare held n 3 (List.take (Tryd.prog.cellsOf 3) (List.drop 1 [c0, c1, c2, c3, c4, c5, c6, c7])) = some y1 := hel 1 _ rfl
    have k2 : DataW.trod enc Tryd.prog w base spare held n 3 (List.take (Tryd.prog.cellsOf 3) (List.drop 2 [c0, c1, c2, c3, c4, c5, c6, c7])) = some y2 := hel 2 _ rfl
    have k3 : DataW.trod enc Tryd.prog w base spare held n 28 (List.take (Tryd.prog.cellsOf 28) (List.drop 3 [c0, c1, c2, c3, c4, c5, c6, c7])) = some y3 := hel 3 _ rfl
    rw [cI] at k0 k1 k2
    rw [cE] at k3
    obtain ⟨a0, e0, _, _⟩ := DataW.trod_int Tryd.underlying3 k0
    obtain ⟨a1, e1, _, _⟩ := DataW.trod_int Tryd.underlying3 k1
    obtain ⟨a2, e2, _, _⟩ := DataW.trod_int Tryd.underlying3 k2
    obtain ⟨e, he⟩ := trod_en k3
    simp at e0 e1 e2
    subst e0 e1 e2
    simp only [En.cells, List.cons.injEq, and_true] at he
    obtain ⟨rfl, rfl, rfl, rfl, rfl⟩ := he
    exact ⟨⟨a0, a1, a2, e⟩, rfl⟩

set_option maxRecDepth 100000 in
theorem open_rec {r : Reach} {b0 : Nat} {v : Value} {d : DataW H} {p : List MemPlace} (hv : Value.okWide Tryd.prog w r b0 30 v) (h : DataW.Trod enc Tryd.prog w base spare held 30 v d p) : ∃ q : Rc, v = q.val := by
  obtain ⟨cs, rfl, hsz⟩ := okWide_struct Tryd.underlying30 hv
  obtain ⟨c0, c1, c2, c3, c4, c5, c6, c7, rfl⟩ := array8 (hsz.trans cR)
  obtain ⟨fuel, hf⟩ := h
  obtain ⟨xs, n, _, hx, _, hlen, hel⟩ := DataW.trod_struct Tryd.underlying30 hf
  match xs, hlen with
  | [y0, y1, y2, y3], _ =>
    have k0 : DataW.trod enc Tryd.prog w base spare held n 3 (List.take (Tryd.prog.cellsOf 3) (List.drop 0 [c0, c1, c2, c3, c4, c5, c6, c7])) = some y0 := hel 0 _ rfl
    have k1 : DataW.trod enc Tryd.prog w base spare held n 3 (List.take (Tryd.prog.cellsOf 3) (List.drop 1 [c0, c1, c2, c3, c4, c5, c6, c7])) = some y1 := hel 1 _ rfl
    have k2 : DataW.trod enc Tryd.prog w base spare held n 3 (List.take (Tryd.prog.cellsOf 3) (List.drop 2 [c0, c1, c2, c3, c4, c5, c6, c7])) = some y2 := hel 2 _ rfl
    have k3 : DataW.trod enc Tryd.prog w base spare held n 28 (List.take (Tryd.prog.cellsOf 28) (List.drop 3 [c0, c1, c2, c3, c4, c5, c6, c7])) = some y3 := hel 3 _ rfl
    rw [cI] at k0 k1 k2
    rw [cE] at k3
    obtain ⟨a0, e0, _, _⟩ := DataW.trod_int Tryd.underlying3 k0
    obtain ⟨a1, e1, _, _⟩ := DataW.trod_int Tryd.underlying3 k1
    obtain ⟨a2, e2, _, _⟩ := DataW.trod_int Tryd.underlying3 k2
    obtain ⟨e, he⟩ := trod_en k3
    simp at e0 e1 e2
    subst e0 e1 e2
    simp only [En.cells, List.cons.injEq, and_true] at he
    obtain ⟨rfl, rfl, rfl, rfl, rfl⟩ := he
    exact ⟨⟨a0, a1, a2, e⟩, rfl⟩
end

end Go.Proofs.YtknjdbpdlodpbadDoor
