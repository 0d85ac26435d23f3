/- Records, slices of entries and of records, units among the arguments. -/
import Derived.Test.YtaialgacaomaeadUnitB
import Derived.Test.YtaialgacaomaeadSlRec
import Derived.OpenShut
import Derived.Deep.Slices
import Derived.SizedLaws
import Derived.Deep.DeepHandedRow
import Derived.ChangeMaps5
import Derived.Carry
namespace Go.Proofs.Ytaialgacaomaead
open Go.ChangeShapes Go.WideShapes Go.ChangeAt Go.RowKit

set_option maxRecDepth 100000

theorem ownU : ownKnob Try.prog.godebug = none := by kernel_rfl
theorem laidU : laidOutB Try.prog = true := by kernel_rfl
theorem cellsUE : Try.prog.cellsOf 26 = 5 := by kernel_rfl
theorem cellsUR : Try.prog.cellsOf 28 = 8 := by kernel_rfl
theorem cellsUI : Try.prog.cellsOf 3 = 1 := by kernel_rfl
theorem cellsUU : Try.prog.cellsOf 24 = 2 := by kernel_rfl
theorem cellsULE : Try.prog.cellsOf 22 = 1 := by kernel_rfl

theorem arrU8 {α : Type} {cs : Array α} (h : cs.size = 8) : ∃ c0 c1 c2 c3 c4 c5 c6 c7, cs = #[c0, c1, c2, c3, c4, c5, c6, c7] := by
  obtain ⟨l⟩ := cs
  match l, h with
  | [c0, c1, c2, c3, c4, c5, c6, c7], _ => exact ⟨c0, c1, c2, c3, c4, c5, c6, c7, rfl⟩
theorem arrU2 {α : Type} {cs : Array α} (h : cs.size = 2) : ∃ c0 c1, cs = #[c0, c1] := by
  obtain ⟨l⟩ := cs
  match l, h with
  | [c0, c1], _ => exact ⟨c0, c1, rfl⟩

section
variable {H : Type} {enc : TypeId × Value → H} {w : World} {base : Nat} {spare : Nat → Bool} {held : Bool}

theorem trodUE {fuel : Nat} {cs : List Value} {x : DataW H × List MemPlace} (h : DataW.trod enc Try.prog w base spare held fuel 26 cs = some x) : ∃ e : En, cs = e.cells := by
  obtain ⟨xs, n, _, hx, hcl, hlen, hel⟩ := DataW.trod_struct Try.underlying26 h
  rw [cellsUE] at hcl
  match xs, hlen, cs, hcl with
  | [y0, y1, y2, y3, y4], _, [c0, c1, c2, c3, c4], _ =>
    have k0 : DataW.trod enc Try.prog w base spare held n 3 (List.take (Try.prog.cellsOf 3) (List.drop 0 [c0, c1, c2, c3, c4])) = some y0 := hel 0 _ rfl
    have k1 : DataW.trod enc Try.prog w base spare held n 3 (List.take (Try.prog.cellsOf 3) (List.drop 1 [c0, c1, c2, c3, c4])) = some y1 := hel 1 _ rfl
    have k2 : DataW.trod enc Try.prog w base spare held n 3 (List.take (Try.prog.cellsOf 3) (List.drop 2 [c0, c1, c2, c3, c4])) = some y2 := hel 2 _ rfl
    have k3 : DataW.trod enc Try.prog w base spare held n 3 (List.take (Try.prog.cellsOf 3) (List.drop 3 [c0, c1, c2, c3, c4])) = some y3 := hel 3 _ rfl
    have k4 : DataW.trod enc Try.prog w base spare held n 3 (List.take (Try.prog.cellsOf 3) (List.drop 4 [c0, c1, c2, c3, c4])) = some y4 := hel 4 _ rfl
    rw [cellsUI] at k0 k1 k2 k3 k4
    obtain ⟨a0, e0, _, _⟩ := DataW.trod_int Try.underlying3 k0
    obtain ⟨a1, e1, _, _⟩ := DataW.trod_int Try.underlying3 k1
    obtain ⟨a2, e2, _, _⟩ := DataW.trod_int Try.underlying3 k2
    obtain ⟨a3, e3, _, _⟩ := DataW.trod_int Try.underlying3 k3
    obtain ⟨a4, e4, _, _⟩ := DataW.trod_int Try.underlying3 k4
    simp at e0 e1 e2 e3 e4
    subst e0 e1 e2 e3 e4
    exact ⟨⟨a0, a1, a2, a3, a4⟩, rfl⟩

theorem trodUR {fuel : Nat} {cs : List Value} {x : DataW H × List MemPlace} (h : DataW.trod enc Try.prog w base spare held fuel 28 cs = some x) : ∃ q : Rc, cs = q.cells := by
  obtain ⟨xs, n, _, hx, hcl, hlen, hel⟩ := DataW.trod_struct Try.underlying28 h
  rw [cellsUR] at hcl
  match xs, hlen, cs, hcl with
  | [y0, y1, y2, y3], _, [c0, c1, c2, c3, c4, c5, c6, c7], _ =>
    have k0 : DataW.trod enc Try.prog w base spare held n 3 (List.take (Try.prog.cellsOf 3) (List.drop 0 [c0, c1, c2, c3, c4, c5, c6, c7])) = some y0 := hel 0 _ rfl
    have k1 : DataW.trod enc Try.prog w base spare held n 3 (List.take (Try.prog.cellsOf 3) (List.drop 1 [c0, c1, c2, c3, c4, c5, c6, c7])) = some y1 := hel 1 _ rfl
    have k2 : DataW.trod enc Try.prog w base spare held n 3 (List.take (Try.prog.cellsOf 3) (List.drop 2 [c0, c1, c2, c3, c4, c5, c6, c7])) = some y2 := hel 2 _ rfl
    have k3 : DataW.trod enc Try.prog w base spare held n 26 (List.take (Try.prog.cellsOf 26) (List.drop 3 [c0, c1, c2, c3, c4, c5, c6, c7])) = some y3 := hel 3 _ rfl
    rw [cellsUI] at k0 k1 k2
    rw [cellsUE] at k3
    obtain ⟨a0, e0, _, _⟩ := DataW.trod_int Try.underlying3 k0
    obtain ⟨a1, e1, _, _⟩ := DataW.trod_int Try.underlying3 k1
    obtain ⟨a2, e2, _, _⟩ := DataW.trod_int Try.underlying3 k2
    have k3' : DataW.trod enc Try.prog w base spare held n 26 [c3, c4, c5, c6, c7] = some y3 := k3
    obtain ⟨e, he⟩ := trodUE k3'
    simp at e0 e1 e2
    subst e0 e1 e2
    simp only [En.cells, List.cons.injEq, and_true] at he
    obtain ⟨rfl, rfl, rfl, rfl, rfl⟩ := he
    exact ⟨⟨a0, a1, a2, e⟩, rfl⟩

/-- A record that was handed in. -/
theorem openUR {r : Reach} {b0 : Nat} {v : Value} {d : DataW H} {p : List MemPlace} (hv : Value.okWide Try.prog w r b0 28 v) (h : DataW.Trod enc Try.prog w base spare held 28 v d p) : ∃ q : Rc, v = q.val := by
  obtain ⟨cs, rfl, hsz⟩ := okWide_struct Try.underlying28 hv
  obtain ⟨c0, c1, c2, c3, c4, c5, c6, c7, rfl⟩ := arrU8 (hsz.trans cellsUR)
  obtain ⟨fuel, hf⟩ := h
  obtain ⟨q, hq⟩ := trodUR hf
  have hq' : [c0, c1, c2, c3, c4, c5, c6, c7] = q.cells := hq
  simp only [Rc.cells, List.cons.injEq, and_true] at hq'
  obtain ⟨rfl, rfl, rfl, rfl, rfl, rfl, rfl, rfl⟩ := hq'
  exact ⟨q, rfl⟩

/-- A slice of entries. -/
theorem trodUEs {fuel : Nat} {c0 : Value} {x : DataW H × List MemPlace} (hf : DataW.trod enc Try.prog w base spare held fuel 22 [c0] = some x) :
    ∃ (es : List En) (a : Option Addr) (n c : Nat), c0 = .slice a n c ∧ SlOf En.cells 5 w (.slice a n c) es ∧ n ≤ c ∧ es.length ≤ maxLen := by
  rcases Deep.open_slice Try.underlying22 hf with ⟨hcs, _⟩ | ⟨a, len0, cap0, m, n, D, Pl, hcs, _, hl, hm, hmm, _, hel⟩
  · refine ⟨[], none, 0, 0, by simpa using hcs, ⟨none, 0, rfl, Or.inl rfl⟩, Nat.le_refl _, Nat.zero_le _⟩
  · rw [cellsUE] at hel
    have hlm : len0 ≤ m := by rw [hmm]; split <;> omega
    have hE : ∀ i, i < len0 → ∃ e : En, ∀ j u, (En.cells e)[j]? = some u → w.cell? ((a.add (i * 5)).add j) = some u := fun i hi => by
      obtain ⟨cs', h1, h2⟩ := hel i (by omega)
      obtain ⟨e, rfl⟩ := trodUE h2
      refine ⟨e, fun j u hj => ?_⟩
      have hlt : j < 5 := by
        have := (List.getElem?_eq_some_iff.1 hj).1
        simpa [En.cells] using this
      exact ((World.cells?_some h1).2.2 j hlt).trans hj
    obtain ⟨E, hE⟩ := @Deep.choose_lt En ⟨En.zero⟩ len0 _ hE
    have hlen : ((List.range len0).map E).length = len0 := by simp
    refine ⟨(List.range len0).map E, some a, len0, cap0, by simpa using hcs, ⟨some a, cap0, by rw [hlen], ?_⟩, hl, by rw [hlen]; omega⟩
    rw [hlen]
    by_cases hz : len0 = 0
    · exact Or.inl hz
    · right
      obtain ⟨b, off, spot⟩ := a
      have hspot : spot = none := by
        have := World.cell?_spot (hE 0 (by omega) 0 _ rfl)
        simpa [Addr.add] using this
      subst hspot
      refine ⟨b, off, rfl, fun j e hj i u hi => ?_⟩
      have hjl : j < len0 := by
        have := (List.getElem?_eq_some_iff.1 hj).1
        rwa [hlen] at this
      have he : E j = e := by simpa [hjl] using hj
      have := hE j hjl i u (by rw [he]; exact hi)
      rw [Deep.add_add, Lib.add_plain] at this
      rw [Nat.add_assoc]
      exact this

/-- A slice of records. -/
theorem trodURs {fuel : Nat} {c0 : Value} {x : DataW H × List MemPlace} (hf : DataW.trod enc Try.prog w base spare held fuel 38 [c0] = some x) :
    ∃ (es : List Rc) (a : Option Addr) (n c : Nat), c0 = .slice a n c ∧ SlOf Rc.cells 8 w (.slice a n c) es ∧ n ≤ c ∧ es.length ≤ maxLen := by
  rcases Deep.open_slice Try.underlying38 hf with ⟨hcs, _⟩ | ⟨a, len0, cap0, m, n, D, Pl, hcs, _, hl, hm, hmm, _, hel⟩
  · refine ⟨[], none, 0, 0, by simpa using hcs, ⟨none, 0, rfl, Or.inl rfl⟩, Nat.le_refl _, Nat.zero_le _⟩
  · rw [cellsUR] at hel
    have hlm : len0 ≤ m := by rw [hmm]; split <;> omega
    have hE : ∀ i, i < len0 → ∃ e : Rc, ∀ j u, (Rc.cells e)[j]? = some u → w.cell? ((a.add (i * 8)).add j) = some u := fun i hi => by
      obtain ⟨cs', h1, h2⟩ := hel i (by omega)
      obtain ⟨e, rfl⟩ := trodUR h2
      refine ⟨e, fun j u hj => ?_⟩
      have hlt : j < 8 := by
        have := (List.getElem?_eq_some_iff.1 hj).1
        simpa [Rc.cells] using this
      exact ((World.cells?_some h1).2.2 j hlt).trans hj
    obtain ⟨E, hE⟩ := @Deep.choose_lt Rc ⟨Rc.zero⟩ len0 _ hE
    have hlen : ((List.range len0).map E).length = len0 := by simp
    refine ⟨(List.range len0).map E, some a, len0, cap0, by simpa using hcs, ⟨some a, cap0, by rw [hlen], ?_⟩, hl, by rw [hlen]; omega⟩
    rw [hlen]
    by_cases hz : len0 = 0
    · exact Or.inl hz
    · right
      obtain ⟨b, off, spot⟩ := a
      have hspot : spot = none := by
        have := World.cell?_spot (hE 0 (by omega) 0 _ rfl)
        simpa [Addr.add] using this
      subst hspot
      refine ⟨b, off, rfl, fun j e hj i u hi => ?_⟩
      have hjl : j < len0 := by
        have := (List.getElem?_eq_some_iff.1 hj).1
        rwa [hlen] at this
      have he : E j = e := by simpa [hjl] using hj
      have := hE j hjl i u (by rw [he]; exact hi)
      rw [Deep.add_add, Lib.add_plain] at this
      rw [Nat.add_assoc]
      exact this

/-- A slice of records that was handed in. -/
theorem openURs {r : Reach} {b0 : Nat} {v : Value} {d : DataW H} {p : List MemPlace} (hv : Value.okWide Try.prog w r b0 38 v) (h : DataW.Trod enc Try.prog w base spare held 38 v d p) :
    ∃ rs : List Rc, RecSl w v rs ∧ Roomy v ∧ rs.length ≤ maxLen := by
  obtain ⟨a0, len0, cap0, rfl⟩ := okWide_slice Try.underlying38 hv
  obtain ⟨fuel, hf⟩ := h
  have hf' : DataW.trod enc Try.prog w base spare held fuel 38 [.slice a0 len0 cap0] = some (d, p) := hf
  obtain ⟨rs, a, n, c, e, h1, h2, h3⟩ := trodURs hf'
  rw [e]
  exact ⟨rs, h1, ⟨_, _, _, rfl, h2⟩, h3⟩

/-- A unit's cells. -/
theorem trodUU {fuel : Nat} {c0 c1 : Value} {x : DataW H × List MemPlace} (h : DataW.trod enc Try.prog w base spare held fuel 24 [c0, c1] = some x) : ∃ u : Un, c0 = .int .i64 u.p ∧ UnitAt w c1 u ∧ u.cells.length ≤ maxLen := by
  obtain ⟨xs, n, _, hx, _, hlen, hel⟩ := DataW.trod_struct Try.underlying24 h
  match xs, hlen with
  | [y0, y1], _ =>
    have k0 : DataW.trod enc Try.prog w base spare held n 3 (List.take (Try.prog.cellsOf 3) (List.drop 0 [c0, c1])) = some y0 := hel 0 _ rfl
    have k1 : DataW.trod enc Try.prog w base spare held n 22 (List.take (Try.prog.cellsOf 22) (List.drop 1 [c0, c1])) = some y1 := hel 1 _ rfl
    rw [cellsUI] at k0
    rw [cellsULE] at k1
    have k1' : DataW.trod enc Try.prog w base spare held n 22 [c1] = some y1 := k1
    obtain ⟨p0, e0, _, _⟩ := DataW.trod_int Try.underlying3 k0
    obtain ⟨es, a, m, c, rfl, h1, h2, h3⟩ := trodUEs k1'
    simp at e0
    subst e0
    exact ⟨⟨p0, es⟩, rfl, ⟨h1, ⟨_, _, _, rfl, h2⟩⟩, h3⟩

/-- A unit that was handed in. -/
theorem openUn {r : Reach} {b0 : Nat} {v : Value} {d : DataW H} {p : List MemPlace} (hv : Value.okWide Try.prog w r b0 24 v) (h : DataW.Trod enc Try.prog w base spare held 24 v d p) :
    ∃ (u : Un) (c1 : Value), v = .agg #[.int .i64 u.p, c1] ∧ UnitAt w c1 u ∧ u.cells.length ≤ maxLen := by
  obtain ⟨cs, rfl, hsz⟩ := okWide_struct Try.underlying24 hv
  obtain ⟨c0, c1, rfl⟩ := arrU2 (hsz.trans cellsUU)
  obtain ⟨fuel, hf⟩ := h
  have hf' : DataW.trod enc Try.prog w base spare held fuel 24 [c0, c1] = some (d, p) := hf
  obtain ⟨u, rfl, h1, h2⟩ := trodUU hf'
  exact ⟨u, c1, rfl, h1, h2⟩
end

theorem maxLen_top {n : Nat} (h : n ≤ maxLen) : n ≤ topN := by
  have : maxLen ≤ topN := by decide
  omega

end Go.Proofs.Ytaialgacaomaead
