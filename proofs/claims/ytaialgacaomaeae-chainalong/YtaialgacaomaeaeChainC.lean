/- The reference's CheckChain and ReadAt. -/
import Derived.Test.YtaialgacaomaeaeChainB
namespace Go.Proofs.Ytaialgacaomaeae
open Go.RowKit
open scoped Classical

/-- What the reference says is wrong: unit by unit, each held against the one ahead. -/
noncomputable def rk3 (u0 u1 u2 : Un) : Int := if u0.ck ≠ 0 then u0.ck else if u1.ck ≠ 0 then u1.ck else if ¬ Within u1.cells u0.cells then 4 else if u2.ck ≠ 0 then u2.ck else if ¬ Within u2.cells u1.cells then 4 else 0

noncomputable def rkChain : List Un → Int
  | [u0, u1, u2] => rk3 u0 u1 u2
  | _ => 4

noncomputable def linkRef (us : List Un) (k a : Int) (x : En) (ep : Int) : Rc × En × Int := if rkChain us ≠ 0 then (Rc.zero, En.zero, rkChain us) else linkOf us k a x ep
noncomputable def readRef (us : List Un) (a : Int) : En × Int := if rkChain us ≠ 0 then (En.zero, rkChain us) else readOf us a

theorem rkChain_other {us : List Un} (h : us.length ≠ 3) : rkChain us = 4 := by
  match us, h with
  | [], _ => rfl
  | [_], _ => rfl
  | [_, _], _ => rfl
  | [_, _, _], h => exact absurd rfl h
  | _ :: _ :: _ :: _ :: _, _ => rfl

theorem rk_ck {us : List Un} (h : rkChain us = 0) : ckChain us = 0 := by
  match us, h with
  | [u0, u1, u2], h =>
    change rk3 u0 u1 u2 = 0 at h
    unfold rk3 at h
    show ck3 u0 u1 u2 = 0
    unfold ck3
    by_cases h0 : u0.ck = 0
    · rw [if_neg (by simpa using h0)] at h ⊢
      by_cases h1 : u1.ck = 0
      · rw [if_neg (by simpa using h1)] at h ⊢
        by_cases g1 : Within u1.cells u0.cells
        · rw [if_neg (by simpa using g1)] at h
          by_cases h2 : u2.ck = 0
          · rw [if_neg (by simpa using h2)] at h ⊢
            rw [if_neg (by simpa using g1)]
            exact h
          · rw [if_pos h2] at h; exact absurd h h2
        · rw [if_pos g1] at h; cases h
      · rw [if_pos h1] at h; exact absurd h h1
    · rw [if_pos h0] at h; exact absurd h h0

theorem ck_rk {us : List Un} (h : ckChain us = 0) : rkChain us = 0 := by
  obtain ⟨u0, u1, u2, rfl, h0, h1, h2, g1, g2⟩ := ckChain_zero.1 h
  show rk3 u0 u1 u2 = 0
  unfold rk3
  rw [if_neg (by simpa using h0), if_neg (by simpa using h1), if_neg (by simpa using g1), if_neg (by simpa using h2), if_neg (by simpa using g2)]

/-- Three units in a row. -/
theorem three_of {w : World} {a : Option Addr} {c : Nat} {xs : List Ub} (h : ChAt w (.slice a 3 c) xs) : ∃ u0 u1 u2 a0 n0 c0 a1 n1 c1 a2 n2 c2 b off, xs = [⟨u0, .slice a0 n0 c0⟩, ⟨u1, .slice a1 n1 c1⟩, ⟨u2, .slice a2 n2 c2⟩] ∧ a = some ⟨b, off, none⟩ ∧ RowAt Ub.cells 2 w b off xs ∧
    (UnitAt w (.slice a0 n0 c0) u0 ∧ UnitAt w (.slice a1 n1 c1) u1 ∧ UnitAt w (.slice a2 n2 c2) u2) ∧ u0.cells.length = n0 ∧ u1.cells.length = n1 ∧ u2.cells.length = n2 := by
  have hl := h.rows.len
  obtain ⟨b, off, ha, hE⟩ := h.rows.at (by omega)
  match xs, hl with
  | [x0, x1, x2], _ =>
    have h0 := h.each x0 (by simp)
    have h1 := h.each x1 (by simp)
    have h2 := h.each x2 (by simp)
    obtain ⟨u0, v0⟩ := x0
    obtain ⟨u1, v1⟩ := x1
    obtain ⟨u2, v2⟩ := x2
    obtain ⟨a0, n0, c0, e0, _⟩ := h0.room
    obtain ⟨a1, n1, c1, e1, _⟩ := h1.room
    obtain ⟨a2, n2, c2, e2, _⟩ := h2.room
    dsimp only at e0 e1 e2
    subst e0 e1 e2
    exact ⟨u0, u1, u2, a0, n0, c0, a1, n1, c1, a2, n2, c2, b, off, rfl, ha, hE, ⟨h0, h1, h2⟩, SlOf.len (cs := En.cells) (k := 5) h0.ents, SlOf.len (cs := En.cells) (k := 5) h1.ents, SlOf.len (cs := En.cells) (k := 5) h2.ents⟩

theorem row_three {w : World} {b off : Nat} {u0 u1 u2 : Un} {v0 v1 v2 : Value} (h : RowAt Ub.cells 2 w b off [⟨u0, v0⟩, ⟨u1, v1⟩, ⟨u2, v2⟩]) :
    (w.cell? ⟨b, off, none⟩ = some (.int .i64 u0.p) ∧ w.cell? ⟨b, off + 1, none⟩ = some v0) ∧ (w.cell? ⟨b, off + 2, none⟩ = some (.int .i64 u1.p) ∧ w.cell? ⟨b, off + 2 + 1, none⟩ = some v1) ∧ (w.cell? ⟨b, off + 4, none⟩ = some (.int .i64 u2.p) ∧ w.cell? ⟨b, off + 4 + 1, none⟩ = some v2) :=
  ⟨⟨h 0 _ rfl 0 _ rfl, h 0 _ rfl 1 _ rfl⟩, ⟨h 1 _ rfl 0 _ rfl, h 1 _ rfl 1 _ rfl⟩, ⟨h 2 _ rfl 0 _ rfl, h 2 _ rfl 1 _ rfl⟩⟩

/-- A unit in its box, another one in a row. -/
abbrev TwS (W w : World) (B b o : Nat) (p q : Int) (s t : Value) : Prop :=
  Below W.heap.size W w ∧ w.cell? ⟨B, 0, none⟩ = some (.int .i64 p) ∧ w.cell? ⟨B, 1, none⟩ = some s ∧ w.cell? ⟨b, o, none⟩ = some (.int .i64 q) ∧ w.cell? ⟨b, o + 1, none⟩ = some t
theorem twS_step {W w w' : World} {B b o : Nat} {p q : Int} {s t : Value} (h : TwS W w B b o p q s t) (hb : Below w.heap.size w w') : TwS W w' B b o p q s t :=
  ⟨h.1.trans (hb.mono h.1.size), cell_later hb h.2.1, cell_later hb h.2.2.1, cell_later hb h.2.2.2.1, cell_later hb h.2.2.2.2⟩

end Go.Proofs.Ytaialgacaomaeae
