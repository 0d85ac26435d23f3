/- A slice of units, an entry, numbers among the arguments; five arguments. -/
import Derived.Test.YtaialgacaomaeadArgU
import Derived.Test.YtaialgacaomaeadChainG
namespace Go.Proofs.Ytaialgacaomaead
open Go.ChangeShapes Go.WideShapes Go.ChangeAt Go.RowKit

set_option maxRecDepth 100000

theorem arrU5 {α : Type} {cs : Array α} (h : cs.size = 5) : ∃ c0 c1 c2 c3 c4, cs = #[c0, c1, c2, c3, c4] := by
  obtain ⟨l⟩ := cs
  match l, h with
  | [c0, c1, c2, c3, c4], _ => exact ⟨c0, c1, c2, c3, c4, rfl⟩

section
variable {H : Type} {enc : TypeId × Value → H} {w : World} {base : Nat} {spare : Nat → Bool} {held : Bool}

theorem trodUb {fuel : Nat} {cs : List Value} {x : DataW H × List MemPlace} (h : DataW.trod enc Try.prog w base spare held fuel 24 cs = some x) : ∃ q : Ub, cs = q.cells ∧ UnitAt w q.v q.u ∧ q.u.cells.length ≤ maxLen := by
  obtain ⟨xs, n, _, hx, hcl, hlen, hel⟩ := DataW.trod_struct Try.underlying24 h
  rw [cellsUU] at hcl
  match cs, hcl with
  | [c0, c1], _ =>
    obtain ⟨u, rfl, h1, h2⟩ := trodUU h
    exact ⟨⟨u, c1⟩, rfl, h1, h2⟩

/-- A slice of units that was handed in. -/
theorem openUs {r : Reach} {b0 : Nat} {v : Value} {d : DataW H} {p : List MemPlace} (hv : Value.okWide Try.prog w r b0 41 v) (h : DataW.Trod enc Try.prog w base spare held 41 v d p) :
    ∃ xs : List Ub, ChAt w v xs ∧ Fits xs := by
  obtain ⟨a0, len0, cap0, rfl⟩ := okWide_slice Try.underlying41 hv
  obtain ⟨fuel, hf⟩ := h
  rcases Deep.open_slice Try.underlying41 hf with ⟨hcs, _⟩ | ⟨a, len, cap, m, n, D, Pl, hcs, _, hl, hm, hmm, _, hel⟩
  · simp [Value.cells] at hcs
    obtain ⟨rfl, rfl, rfl⟩ := hcs
    exact ⟨[], ⟨⟨none, 0, rfl, Or.inl rfl⟩, fun x hx => (by cases hx), ⟨_, _, _, rfl, Nat.le_refl _⟩⟩, Nat.zero_le _, fun x hx => (by cases hx)⟩
  · simp [Value.cells] at hcs
    obtain ⟨rfl, rfl, rfl⟩ := hcs
    rw [cellsUU] at hel
    have hlm : len0 ≤ m := by rw [hmm]; split <;> omega
    have hE : ∀ i, i < len0 → ∃ e : Ub, (∀ j u, e.cells[j]? = some u → w.cell? ((a.add (i * 2)).add j) = some u) ∧ UnitAt w e.v e.u ∧ e.u.cells.length ≤ maxLen := fun i hi => by
      obtain ⟨cs', h1, h2⟩ := hel i (by omega)
      obtain ⟨e, rfl, g1, g2⟩ := trodUb h2
      refine ⟨e, fun j u hj => ?_, g1, g2⟩
      have hlt : j < 2 := by
        have := (List.getElem?_eq_some_iff.1 hj).1
        simpa [Ub.cells] using this
      exact ((World.cells?_some h1).2.2 j hlt).trans hj
    obtain ⟨E, hE⟩ := @Deep.choose_lt Ub ⟨⟨Un.zero, .slice none 0 0⟩⟩ len0 _ hE
    have hlen : ((List.range len0).map E).length = len0 := by simp
    have hmem : ∀ x, x ∈ (List.range len0).map E → ∃ i, i < len0 ∧ E i = x := fun x hx => by
      obtain ⟨i, hi, e⟩ := List.mem_map.1 hx
      exact ⟨i, List.mem_range.1 hi, e⟩
    refine ⟨(List.range len0).map E, ⟨⟨some a, cap0, by rw [hlen], ?_⟩, fun x hx => ?_, ⟨_, _, _, rfl, hl⟩⟩, by rw [hlen]; exact maxLen_top (by omega), fun x hx => ?_⟩
    · rw [hlen]
      by_cases hz : len0 = 0
      · exact Or.inl hz
      · right
        obtain ⟨b, off, spot⟩ := a
        have hspot : spot = none := by
          have := World.cell?_spot ((hE 0 (by omega)).1 0 _ rfl)
          simpa [Addr.add] using this
        subst hspot
        refine ⟨b, off, rfl, fun j e hj i u hi => ?_⟩
        have hjl : j < len0 := by
          have := (List.getElem?_eq_some_iff.1 hj).1
          rwa [hlen] at this
        have he : E j = e := by simpa [hjl] using hj
        have := (hE j hjl).1 i u (by rw [he]; exact hi)
        rw [Deep.add_add, Lib.add_plain] at this
        rw [Nat.add_assoc]
        exact this
    · obtain ⟨i, hi, rfl⟩ := hmem x hx
      exact (hE i hi).2.1
    · obtain ⟨i, hi, rfl⟩ := hmem x hx
      exact maxLen_top (hE i hi).2.2

/-- An entry that was handed in. -/
theorem openUE {r : Reach} {b0 : Nat} {v : Value} {d : DataW H} {p : List MemPlace} (hv : Value.okWide Try.prog w r b0 26 v) (h : DataW.Trod enc Try.prog w base spare held 26 v d p) : ∃ e : En, v = e.val := by
  obtain ⟨cs, rfl, hsz⟩ := okWide_struct Try.underlying26 hv
  obtain ⟨c0, c1, c2, c3, c4, rfl⟩ := arrU5 (hsz.trans cellsUE)
  obtain ⟨fuel, hf⟩ := h
  obtain ⟨e, he⟩ := trodUE hf
  have he' : [c0, c1, c2, c3, c4] = e.cells := he
  simp only [En.cells, List.cons.injEq, and_true] at he'
  obtain ⟨rfl, rfl, rfl, rfl, rfl⟩ := he'
  exact ⟨e, rfl⟩

theorem openUI {r : Reach} {b0 : Nat} {v : Value} {d : DataW H} {p : List MemPlace} (hv : Value.okWide Try.prog w r b0 3 v) (h : DataW.Trod enc Try.prog w base spare held 3 v d p) : ∃ n, v = .int .i64 n := by
  obtain ⟨n, rfl, _⟩ := open_int Try.underlying3 hv h
  exact ⟨n, rfl⟩

theorem trodAll_five {P : Program} {t0 t1 t2 t3 t4 : TypeId} {args : Array Value} {ds : List (DataW H)} {ps : List MemPlace} (h : DataW.TrodAll enc P w base spare held [t0, t1, t2, t3, t4] args.toList ds ps) :
    ∃ v0 v1 v2 v3 v4 d0 d1 d2 d3 d4 p0 p1 p2 p3 p4, args = #[v0, v1, v2, v3, v4] ∧ ds = [d0, d1, d2, d3, d4] ∧ ps = p0 ++ (p1 ++ (p2 ++ (p3 ++ p4))) ∧ DataW.Trod enc P w base spare held t0 v0 d0 p0 ∧ DataW.Trod enc P w base spare held t1 v1 d1 p1 ∧ DataW.Trod enc P w base spare held t2 v2 d2 p2 ∧ DataW.Trod enc P w base spare held t3 v3 d3 p3 ∧ DataW.Trod enc P w base spare held t4 v4 d4 p4 := by
  obtain ⟨v0, vs, d0, ds', p0, q0, e0, rfl, rfl, h0, r0⟩ := trodAll_cons h
  obtain ⟨v1, vs, d1, ds', p1, q1, rfl, rfl, rfl, h1, r1⟩ := trodAll_cons r0
  obtain ⟨v2, vs, d2, ds', p2, q2, rfl, rfl, rfl, h2, r2⟩ := trodAll_cons r1
  obtain ⟨v3, vs, d3, ds', p3, q3, rfl, rfl, rfl, h3, r3⟩ := trodAll_cons r2
  obtain ⟨v4, vs, d4, ds', p4, q4, rfl, rfl, rfl, h4, r4⟩ := trodAll_cons r3
  obtain ⟨rfl, rfl, rfl⟩ := trodAll_nil r4
  exact ⟨v0, v1, v2, v3, v4, d0, d1, d2, d3, d4, p0, p1, p2, p3, p4, by cases args; simp_all, rfl, by simp, h0, h1, h2, h3, h4⟩
end

end Go.Proofs.Ytaialgacaomaead
