/- Slices of rings in memory: equal ones, appended ones, opened ones. -/
import Derived.Test.YtjbcfflbfnddeacBookC
import Derived.OpenShut
import Derived.ProofKit
import Derived.Deep.Slices
import Derived.SizedLaws
import Derived.Lib.ItoaMem
namespace Go.Proofs.Ytjbcfflbfnddeac
open Go.ChangeShapes Go.WideShapes Go.ChangeAt Go.RowKit
open scoped Classical

abbrev valR (a b c : Int) : Value := .agg #[.int .i64 a, .int .i64 b, .int .i64 c]
abbrev boxR (x : Rg) : Obj := .cells #[.int .i64 x.j, .int .i64 x.t, .int .i64 x.c] 46
abbrev Rg.val (x : Rg) : Value := valR x.j x.t x.c

theorem neqR (a b c a' b' c' : Int) (w : World) :
    (binOp .neq 46 (valR a b c) (valR a' b' c')).run Try.prog w = .ok (.bool (!decide (a = a' ∧ b = b' ∧ c = c'))) w := by
  have u3 := Try.underlying3
  have a3 := Try.isAgg3
  have z3 := Try.sizeOf3
  have hS : Try.prog.underlying 46 = some (.struct (Try.prog.fieldsOf 46)) := by kernel_rfl
  have hp : Try.prog.stoodInHeld 46 = false := by kernel_rfl
  rw [run_neq_struct, show (10000 : Nat) = 9999 + 1 from rfl, run_equalIn_agg w 9999 46 _ _ hS hp]
  simp only [Program.fieldsOf, Try.underlying46]
  go_simp
  by_cases h1 : a = a' <;> by_cases h2 : b = b' <;> by_cases h3 : c = c' <;> simp [h1, h2, h3]

theorem infoR : (Try.prog.info? 46).map (fun i => (i.zero, i.size, i.bytes)) = some (some (valR 0 0 0), 3, 24) := by kernel_rfl

theorem oneR (es : List Rg) : ∀ u ∈ es.flatMap Rg.cells, u.oneCell' = true := fun u hu => by
  obtain ⟨e, _, he⟩ := List.mem_flatMap.1 hu
  simp only [Rg.cells, List.mem_cons, List.not_mem_nil, or_false] at he
  rcases he with rfl | rfl | rfl <;> rfl

/-- A slice appended to a row of the call's own. -/
theorem appendR {w : World} {ops : Array Oper} {rest : List Oper} {o : Oper} {a : Act} {Q : Exit → Act → World → Prop} (hgd : o.guard = none) (s x : Operand)
    (ho : o.op = .call { callee := .builtin .append, args := #[s, x], argTypes := #[33, 33] })
    (base : Nat) (v u : Value) (n : Nat) (xs : List Value) (hs : a.eval s = v) (hown : w.ownsRow base 46 3 v n xs)
    (es : List Rg) (hx : a.eval x = u) (hes : SlOf Rg.cells 3 w u es) (hlen : n + es.length ≤ 1000000) (hbase : base ≤ w.heap.size)
    (h : ∀ v' w', w'.ownsRow base 46 3 v' (n + es.length) (xs ++ es.flatMap Rg.cells) → w.grownBy w' v.ownBlock → wpList Try.prog ops Q rest (a.put o.dst v') w') : wpList Try.prog ops Q (o :: rest) a w := by
  obtain ⟨i0, hi, hz0, hz1, hz2⟩ := info_parts infoR
  obtain ⟨ao, c, rfl, hcase⟩ := hes
  by_cases hz : es.length = 0
  · obtain rfl : es = [] := List.length_eq_zero_iff.1 hz
    refine Lib.wpList_append_run w hgd s x _ _ ho v _ hs hx v w ?_ (h v w (by simpa using hown) ⟨rfl, rfl, rfl, Nat.le_refl _, fun _ _ _ => rfl⟩)
    have hsrc : Src Try.prog i0.size 33 (.slice ao 0 c) 0 [] w := by
      cases ao with
      | none => exact Src.ofNil w Try.underlying33 c
      | some ad => exact Src.ofSlice w Try.underlying33 ad 0 c [] (by simp) (by simp) (by simp)
    rcases hown.2 with ⟨rfl, _⟩ | ⟨g, cap, cur, rfl, _, _, hle, _⟩
    · exact run_append_nothing w _ _ _ _ i0 Try.underlying33 hi none 0 0 (Nat.le_refl _) _ hsrc
    · exact run_append_nothing w _ _ _ _ i0 Try.underlying33 hi _ n cap hle _ hsrc
  · rcases hcase with h0 | ⟨b, off, rfl, hE⟩
    · exact absurd h0 hz
    · exact wpList_append_own w hgd s x _ ho base _ i0 (valR 0 0 0) 3 24 Try.underlying33 hi hz0 hz1 hz2 rfl (by decide) v n xs hs hown ⟨b, off, none⟩ es.length c (es.flatMap Rg.cells) hx (row_len Rg.three es)
        (fun j u hj => by rw [Lib.add_plain]; exact rows_flat Rg.three es off hE j u hj) (oneR es) (by unfold maxLen; omega) (by omega) hbase fun v' w' h1 h2 _ => h v' w' h1 h2

theorem cellsR : Try.prog.cellsOf 46 = 3 := by kernel_rfl
theorem cellsIR : Try.prog.cellsOf 3 = 1 := by kernel_rfl

section
variable {H : Type} {enc : TypeId × Value → H} {w : World} {base : Nat} {spare : Nat → Bool} {held : Bool}

set_option maxRecDepth 100000 in
theorem trodR {fuel : Nat} {cs : List Value} {x : DataW H × List MemPlace} (h : DataW.trod enc Try.prog w base spare held fuel 46 cs = some x) : ∃ e : Rg, cs = e.cells ∧ x.2 = [] := by
  obtain ⟨xs, n, _, hx, hcl, hlen, hel⟩ := DataW.trod_struct Try.underlying46 h
  rw [cellsR] at hcl
  match xs, hlen, cs, hcl with
  | [y0, y1, y2], _, [c0, c1, c2], _ =>
    have k0 : DataW.trod enc Try.prog w base spare held n 3 (List.take (Try.prog.cellsOf 3) (List.drop 0 [c0, c1, c2])) = some y0 := hel 0 _ rfl
    have k1 : DataW.trod enc Try.prog w base spare held n 3 (List.take (Try.prog.cellsOf 3) (List.drop 1 [c0, c1, c2])) = some y1 := hel 1 _ rfl
    have k2 : DataW.trod enc Try.prog w base spare held n 3 (List.take (Try.prog.cellsOf 3) (List.drop 2 [c0, c1, c2])) = some y2 := hel 2 _ rfl
    rw [cellsIR] at k0 k1 k2
    obtain ⟨a0, e0, f0, _⟩ := DataW.trod_int Try.underlying3 k0
    obtain ⟨a1, e1, f1, _⟩ := DataW.trod_int Try.underlying3 k1
    obtain ⟨a2, e2, f2, _⟩ := DataW.trod_int Try.underlying3 k2
    simp at e0 e1 e2
    subst e0 e1 e2
    subst f0 f1 f2
    exact ⟨⟨a0, a1, a2⟩, rfl, by rw [hx]; rfl⟩

set_option maxRecDepth 100000 in
theorem openR {fuel : Nat} {a0 : Option Addr} {len0 cap0 : Nat} {x : DataW H × List MemPlace} (hf : DataW.trod enc Try.prog w base spare held fuel 33 [.slice a0 len0 cap0] = some x) :
    ∃ es : List Rg, SlOf Rg.cells 3 w (.slice a0 len0 cap0) es ∧ es.length ≤ maxLen := by
  rcases Deep.open_slice Try.underlying33 hf with ⟨hcs, _⟩ | ⟨a, len, cap, m, n, D, Pl, hcs, _, hl, hm, hmm, _, hel⟩
  · simp at hcs
    obtain ⟨rfl, rfl, rfl⟩ := hcs
    exact ⟨[], ⟨none, 0, rfl, Or.inl rfl⟩, Nat.zero_le _⟩
  · simp at hcs
    obtain ⟨rfl, rfl, rfl⟩ := hcs
    rw [cellsR] at hel
    have hlm : len0 ≤ m := by rw [hmm]; split <;> omega
    have hE : ∀ i, i < len0 → ∃ e : Rg, ∀ j u, e.cells[j]? = some u → w.cell? ((a.add (i * 3)).add j) = some u := fun i hi => by
      obtain ⟨cs', h1, h2⟩ := hel i (by omega)
      obtain ⟨e, rfl, _⟩ := trodR h2
      refine ⟨e, fun j u hj => ?_⟩
      have hlt : j < 3 := by
        have := (List.getElem?_eq_some_iff.1 hj).1
        simpa [Rg.cells] using this
      exact ((World.cells?_some h1).2.2 j hlt).trans hj
    obtain ⟨E, hE⟩ := @Deep.choose_lt Rg ⟨⟨0, 0, 0⟩⟩ len0 _ hE
    have hlen : ((List.range len0).map E).length = len0 := by simp
    refine ⟨(List.range len0).map E, ⟨some a, cap0, by rw [hlen], ?_⟩, by rw [hlen]; omega⟩
    rw [hlen]
    by_cases hz : len0 = 0
    · exact Or.inl hz
    · right
      obtain ⟨b, off, spot⟩ := a
      have hspot : spot = none := by
        have := World.cell?_spot (hE 0 (by omega) 0 _ rfl)
        simpa [Addr.add] using this
      subst hspot
      refine ⟨b, off, rfl, fun j e hj i u hi => ?_⟩
      have hjl : j < len0 := by
        have := (List.getElem?_eq_some_iff.1 hj).1
        rwa [hlen] at this
      have he : E j = e := by simpa [hjl] using hj
      have := hE j hjl i u (by rw [he]; exact hi)
      rw [Deep.add_add, Lib.add_plain] at this
      rw [Nat.add_assoc]
      exact this
end

end Go.Proofs.Ytjbcfflbfnddeac
