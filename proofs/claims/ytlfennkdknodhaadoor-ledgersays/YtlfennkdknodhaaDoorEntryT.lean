/- A slice of entries among the arguments, opened. -/
import Derived.Test.YtlfennkdknodhaaDoorRefK
import Derived.OpenShut
import Derived.ProofKit
import Derived.Deep.Slices
import Derived.SizedLaws
namespace Go.Proofs.YtlfennkdknodhaaDoor
open Go.ChangeShapes Go.WideShapes Go.ChangeAt Go.RowKit

theorem cE5 : Tryd.prog.cellsOf 23 = 5 := by kernel_rfl
theorem cI1 : Tryd.prog.cellsOf 3 = 1 := by kernel_rfl

section
variable {H : Type} {enc : TypeId × Value → H} {w : World} {base : Nat} {spare : Nat → Bool} {held : Bool}

set_option maxRecDepth 100000 in
theorem trod_entry {fuel : Nat} {cs : List Value} {x : DataW H × List MemPlace} (h : DataW.trod enc Tryd.prog w base spare held fuel 23 cs = some x) : ∃ e : En, cs = e.cells ∧ x.2 = [] := by
  obtain ⟨xs, n, _, hx, hcl, hlen, hel⟩ := DataW.trod_struct Tryd.underlying23 h
  rw [cE5] at hcl
  match xs, hlen, cs, hcl with
  | [y0, y1, y2, y3, y4], _, [c0, c1, c2, c3, c4], _ =>
    have k0 : DataW.trod enc Tryd.prog w base spare held n 3 (List.take (Tryd.prog.cellsOf 3) (List.drop 0 [c0, c1, c2, c3, c4])) = some y0 := hel 0 _ rfl
    have k1 : DataW.trod enc Tryd.prog w base spare held n 3 (List.take (Tryd.prog.cellsOf 3) (List.drop 1 [c0, c1, c2, c3, c4])) = some y1 := hel 1 _ rfl
    have k2 : DataW.trod enc Tryd.prog w base spare held n 3 (List.take (Tryd.prog.cellsOf 3) (List.drop 2 [c0, c1, c2, c3, c4])) = some y2 := hel 2 _ rfl
    have k3 : DataW.trod enc Tryd.prog w base spare held n 3 (List.take (Tryd.prog.cellsOf 3) (List.drop 3 [c0, c1, c2, c3, c4])) = some y3 := hel 3 _ rfl
    have k4 : DataW.trod enc Tryd.prog w base spare held n 3 (List.take (Tryd.prog.cellsOf 3) (List.drop 4 [c0, c1, c2, c3, c4])) = some y4 := hel 4 _ rfl
    rw [cI1] at k0 k1 k2 k3 k4
    obtain ⟨a0, e0, f0, _⟩ := DataW.trod_int Tryd.underlying3 k0
    obtain ⟨a1, e1, f1, _⟩ := DataW.trod_int Tryd.underlying3 k1
    obtain ⟨a2, e2, f2, _⟩ := DataW.trod_int Tryd.underlying3 k2
    obtain ⟨a3, e3, f3, _⟩ := DataW.trod_int Tryd.underlying3 k3
    obtain ⟨a4, e4, f4, _⟩ := DataW.trod_int Tryd.underlying3 k4
    simp at e0 e1 e2 e3 e4
    subst e0 e1 e2 e3 e4
    subst f0 f1 f2 f3 f4
    exact ⟨⟨a0, a1, a2, a3, a4⟩, rfl, by rw [hx]; rfl⟩

set_option maxRecDepth 100000 in
theorem open_ents {r : Reach} {b0 : Nat} {v : Value} {d : DataW H} {p : List MemPlace} (hv : Value.okWide Tryd.prog w r b0 34 v) (h : DataW.Trod enc Tryd.prog w base spare held 34 v d p) :
    ∃ es : List En, EntSl w v es ∧ es.length ≤ maxLen := by
  obtain ⟨a0, len0, cap0, rfl⟩ := okWide_slice Tryd.underlying34 hv
  obtain ⟨fuel, hf⟩ := h
  rcases Deep.open_slice Tryd.underlying34 hf with ⟨hcs, _⟩ | ⟨a, len, cap, m, n, D, Pl, hcs, _, hl, hm, hmm, _, hel⟩
  · simp [Value.cells] at hcs
    obtain ⟨rfl, rfl, rfl⟩ := hcs
    exact ⟨[], ⟨none, 0, rfl, Or.inl rfl⟩, Nat.zero_le _⟩
  · simp [Value.cells] at hcs
    obtain ⟨rfl, rfl, rfl⟩ := hcs
    rw [cE5] at hel
    have hlm : len0 ≤ m := by rw [hmm]; split <;> omega
    have hE : ∀ i, i < len0 → ∃ e : En, ∀ j u, e.cells[j]? = some u → w.cell? ((a.add (i * 5)).add j) = some u := fun i hi => by
      obtain ⟨cs', h1, h2⟩ := hel i (by omega)
      obtain ⟨e, rfl, _⟩ := trod_entry h2
      refine ⟨e, fun j u hj => ?_⟩
      have hlt : j < 5 := by
        have := (List.getElem?_eq_some_iff.1 hj).1
        simpa [En.cells] using this
      exact ((World.cells?_some h1).2.2 j hlt).trans hj
    obtain ⟨E, hE⟩ := @Deep.choose_lt En ⟨En.zero⟩ len0 _ hE
    have hlen : ((List.range len0).map E).length = len0 := by simp
    refine ⟨(List.range len0).map E, ⟨some a, cap0, by rw [hlen], ?_⟩, by rw [hlen]; omega⟩
    rw [hlen]
    by_cases hz : len0 = 0
    · exact Or.inl hz
    · right
      obtain ⟨b, off, spot⟩ := a
      have hspot : spot = none := by
        have := World.cell?_spot (hE 0 (by omega) 0 _ rfl)
        simpa [Addr.add] using this
      subst hspot
      refine ⟨b, off, rfl, fun j e hj i u hi => ?_⟩
      have hjl : j < len0 := by
        have := (List.getElem?_eq_some_iff.1 hj).1
        rwa [hlen] at this
      have he : E j = e := by simpa [hjl] using hj
      have := hE j hjl i u (by rw [he]; exact hi)
      rw [Deep.add_add, Lib.add_plain] at this
      rw [Nat.add_assoc]
      exact this
end

end Go.Proofs.YtlfennkdknodhaaDoor
