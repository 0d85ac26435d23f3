/- A client among the arguments; seven arguments. -/
import Derived.Test.YtbokdcdnandgbaeArgB
import Derived.Test.YtbokdcdnandgbaeClientC
namespace Go.Proofs.Ytbokdcdnandgbae
open Go.ChangeShapes Go.WideShapes Go.ChangeAt Go.RowKit

set_option maxRecDepth 100000

theorem cellsCl : Try.prog.cellsOf 47 = 12 := by kernel_rfl
theorem arr12 {α : Type} {cs : Array α} (h : cs.size = 12) : ∃ c0 c1 c2 c3 c4 c5 c6 c7 c8 c9 c10 c11, cs = #[c0, c1, c2, c3, c4, c5, c6, c7, c8, c9, c10, c11] := by
  obtain ⟨l⟩ := cs
  match l, h with
  | [c0, c1, c2, c3, c4, c5, c6, c7, c8, c9, c10, c11], _ => exact ⟨c0, c1, c2, c3, c4, c5, c6, c7, c8, c9, c10, c11, rfl⟩

section
variable {H : Type} {enc : TypeId × Value → H} {w : World} {base : Nat} {spare : Nat → Bool} {held : Bool}

/-- A book within what was handed in. -/
theorem trodBk {fuel : Nat} {c0 c1 : Value} {x : DataW H × List MemPlace} (hf : DataW.trod enc Try.prog w base spare held fuel 45 [c0, c1] = some x) :
    ∃ (js : List Jb) (rs : List Rg), JobSl w c0 js ∧ RungSl w c1 rs ∧ js.length ≤ maxLen ∧ rs.length ≤ maxLen := by
  obtain ⟨xs, n, _, hx, _, hlen, hel⟩ := DataW.trod_struct Try.underlying45 hf
  match xs, hlen with
  | [y0, y1], _ =>
    have k0 : DataW.trod enc Try.prog w base spare held n 42 (List.take (Try.prog.cellsOf 42) (List.drop 0 [c0, c1])) = some y0 := hel 0 _ rfl
    have k1 : DataW.trod enc Try.prog w base spare held n 43 (List.take (Try.prog.cellsOf 43) (List.drop 1 [c0, c1])) = some y1 := hel 1 _ rfl
    rw [cellsLJ] at k0
    rw [cellsLR] at k1
    have k0' : DataW.trod enc Try.prog w base spare held n 42 [c0] = some y0 := k0
    have k1' : DataW.trod enc Try.prog w base spare held n 43 [c1] = some y1 := k1
    obtain ⟨a1, l1, q1, rfl⟩ := one_slice Try.underlying42 k0'
    obtain ⟨a2, l2, q2, rfl⟩ := one_slice Try.underlying43 k1'
    obtain ⟨js, hj, hjl⟩ := openJ k0'
    obtain ⟨rs, hr, hrl⟩ := openR k1'
    exact ⟨js, rs, hj, hr, hjl, hrl⟩

set_option maxRecDepth 100000 in
/-- A client that was handed in. -/
theorem openCl {r : Reach} {b0 : Nat} {v : Value} {d : DataW H} {p : List MemPlace} (hv : Value.okWide Try.prog w r b0 47 v) (h : DataW.Trod enc Try.prog w base spare held 47 v d p) :
    ∃ (v1 v2 : Value) (c : Cl), v = c.val v1 v2 ∧ BkAt w v1 v2 c ∧ c.js.length ≤ maxLen ∧ c.rs.length ≤ maxLen := by
  obtain ⟨cs, rfl, hsz⟩ := okWide_struct Try.underlying47 hv
  obtain ⟨c0, c1, c2, c3, c4, c5, c6, c7, c8, c9, c10, c11, rfl⟩ := arr12 (hsz.trans cellsCl)
  obtain ⟨fuel, hf⟩ := h
  obtain ⟨xs, n, _, hx, _, hlen, hel⟩ := DataW.trod_struct Try.underlying47 hf
  match xs, hlen with
  | [y0, y1, y2, y3, y4, y5, y6], _ =>
    have k0 : DataW.trod enc Try.prog w base spare held n 3 (List.take (Try.prog.cellsOf 3) (List.drop 0 [c0, c1, c2, c3, c4, c5, c6, c7, c8, c9, c10, c11])) = some y0 := hel 0 _ rfl
    have k1 : DataW.trod enc Try.prog w base spare held n 3 (List.take (Try.prog.cellsOf 3) (List.drop 1 [c0, c1, c2, c3, c4, c5, c6, c7, c8, c9, c10, c11])) = some y1 := hel 1 _ rfl
    have k2 : DataW.trod enc Try.prog w base spare held n 24 (List.take (Try.prog.cellsOf 24) (List.drop 2 [c0, c1, c2, c3, c4, c5, c6, c7, c8, c9, c10, c11])) = some y2 := hel 2 _ rfl
    have k3 : DataW.trod enc Try.prog w base spare held n 3 (List.take (Try.prog.cellsOf 3) (List.drop 7 [c0, c1, c2, c3, c4, c5, c6, c7, c8, c9, c10, c11])) = some y3 := hel 3 _ rfl
    have k4 : DataW.trod enc Try.prog w base spare held n 3 (List.take (Try.prog.cellsOf 3) (List.drop 8 [c0, c1, c2, c3, c4, c5, c6, c7, c8, c9, c10, c11])) = some y4 := hel 4 _ rfl
    have k5 : DataW.trod enc Try.prog w base spare held n 3 (List.take (Try.prog.cellsOf 3) (List.drop 9 [c0, c1, c2, c3, c4, c5, c6, c7, c8, c9, c10, c11])) = some y5 := hel 5 _ rfl
    have k6 : DataW.trod enc Try.prog w base spare held n 45 (List.take (Try.prog.cellsOf 45) (List.drop 10 [c0, c1, c2, c3, c4, c5, c6, c7, c8, c9, c10, c11])) = some y6 := hel 6 _ rfl
    rw [cellsIJ] at k0 k1 k3 k4 k5
    rw [cellsE] at k2
    rw [cellsB] at k6
    obtain ⟨a0, e0, _, _⟩ := DataW.trod_int Try.underlying3 k0
    obtain ⟨a1, e1, _, _⟩ := DataW.trod_int Try.underlying3 k1
    obtain ⟨a3, e3, _, _⟩ := DataW.trod_int Try.underlying3 k3
    obtain ⟨a4, e4, _, _⟩ := DataW.trod_int Try.underlying3 k4
    obtain ⟨a5, e5, _, _⟩ := DataW.trod_int Try.underlying3 k5
    have k2' : DataW.trod enc Try.prog w base spare held n 24 [c2, c3, c4, c5, c6] = some y2 := k2
    have k6' : DataW.trod enc Try.prog w base spare held n 45 [c10, c11] = some y6 := k6
    obtain ⟨e, he⟩ := trodE k2'
    obtain ⟨js, rs, hj, hr, hjl, hrl⟩ := trodBk k6'
    simp at e0 e1 e3 e4 e5
    subst e0 e1 e3 e4 e5
    simp only [En.cells, List.cons.injEq, and_true] at he
    obtain ⟨rfl, rfl, rfl, rfl, rfl⟩ := he
    exact ⟨c10, c11, ⟨a0, a1, e, a3, a4, a5, js, rs⟩, rfl, ⟨hj, hr⟩, hjl, hrl⟩

theorem trodAll_seven {P : Program} {t0 t1 t2 t3 t4 t5 t6 : TypeId} {args : Array Value} {ds : List (DataW H)} {ps : List MemPlace} (h : DataW.TrodAll enc P w base spare held [t0, t1, t2, t3, t4, t5, t6] args.toList ds ps) :
    ∃ v0 v1 v2 v3 v4 v5 v6 d0 d1 d2 d3 d4 d5 d6 p0 p1 p2 p3 p4 p5 p6, args = #[v0, v1, v2, v3, v4, v5, v6] ∧ ds = [d0, d1, d2, d3, d4, d5, d6] ∧ ps = p0 ++ (p1 ++ (p2 ++ (p3 ++ (p4 ++ (p5 ++ p6))))) ∧ DataW.Trod enc P w base spare held t0 v0 d0 p0 ∧ DataW.Trod enc P w base spare held t1 v1 d1 p1 ∧ DataW.Trod enc P w base spare held t2 v2 d2 p2 ∧ DataW.Trod enc P w base spare held t3 v3 d3 p3 ∧ DataW.Trod enc P w base spare held t4 v4 d4 p4 ∧ DataW.Trod enc P w base spare held t5 v5 d5 p5 ∧ DataW.Trod enc P w base spare held t6 v6 d6 p6 := by
  obtain ⟨v0, vs, d0, ds', p0, q0, e0, rfl, rfl, h0, r0⟩ := trodAll_cons h
  obtain ⟨v1, vs, d1, ds', p1, q1, rfl, rfl, rfl, h1, r1⟩ := trodAll_cons r0
  obtain ⟨v2, vs, d2, ds', p2, q2, rfl, rfl, rfl, h2, r2⟩ := trodAll_cons r1
  obtain ⟨v3, vs, d3, ds', p3, q3, rfl, rfl, rfl, h3, r3⟩ := trodAll_cons r2
  obtain ⟨v4, vs, d4, ds', p4, q4, rfl, rfl, rfl, h4, r4⟩ := trodAll_cons r3
  obtain ⟨v5, vs, d5, ds', p5, q5, rfl, rfl, rfl, h5, r5⟩ := trodAll_cons r4
  obtain ⟨v6, vs, d6, ds', p6, q6, rfl, rfl, rfl, h6, r6⟩ := trodAll_cons r5
  obtain ⟨rfl, rfl, rfl⟩ := trodAll_nil r6
  exact ⟨v0, v1, v2, v3, v4, v5, v6, d0, d1, d2, d3, d4, d5, d6, p0, p1, p2, p3, p4, p5, p6, by cases args; simp_all, rfl, by simp, h0, h1, h2, h3, h4, h5, h6⟩
end

end Go.Proofs.Ytbokdcdnandgbae
