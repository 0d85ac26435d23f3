/- Clients whose rows lie in blocks of their own types; the ends of what answers one. -/
import Derived.Test.YtbokdcdnandgbaeClientC
import Derived.Deep.CutBlock
namespace Go.Proofs.Ytbokdcdnandgbae
open Go.RowKit

/-- A client's book, its rows in blocks of their own types. -/
abbrev BkT (w : World) (v1 v2 : Value) (c : Cl) : Prop := BkAt w v1 v2 c ∧ (Typed 64 w v1 ∧ Typed 91 w v2)
theorem bkT_later {w w' : World} {v1 v2 : Value} {c : Cl} (h : BkT w v1 v2 c) (hb : Below w.heap.size w w') : BkT w' v1 v2 c := ⟨bkAt_later h.1 hb, h.2.1.later hb, h.2.2.later hb⟩
theorem bkT_nil (w : World) {c : Cl} (h : c.js = []) (h' : c.rs = []) : BkT w nil0 nil0 c := ⟨⟨by rw [h]; exact SlOf.nil _ _, by rw [h']; exact SlOf.nil _ _⟩, Typed.nil, Typed.nil⟩
theorem bkT_cong {w : World} {v1 v2 : Value} {c x : Cl} (h : BkT w v1 v2 c) (hj : x.js = c.js) (hr : x.rs = c.rs) : BkT w v1 v2 x := ⟨⟨by rw [hj]; exact h.1.1, by rw [hr]; exact h.1.2⟩, h.2⟩

/-- A new client's box. -/
abbrev boxZ : Obj := .cells #[.int .i64 0, .int .i64 0, .int .i64 0, .int .i64 0, .int .i64 0, .int .i64 0, .int .i64 0, .int .i64 0, .int .i64 0, .int .i64 0, .slice none 0 0, .slice none 0 0] 47

/-- A block that holds a client. -/
def IsC (w : World) (b : Nat) : Prop := ∃ cur, w.heap[b]? = some (.cells cur 47)
theorem isC_of {w : World} {b : Nat} {c : Cl} {v1 v2 : Value} (h : w.heap[b]? = some (boxC c v1 v2)) : IsC w b := ⟨_, h⟩
theorem isC_set {w : World} {b : Nat} (h : IsC w b) (i : Nat) (u : Value) : IsC (w.setCell ⟨b, i, none⟩ u) b := by
  obtain ⟨cur, h⟩ := h
  exact ⟨_, Joins.block_setCell h u⟩
theorem bkT_set {w : World} {b : Nat} {v1 v2 : Value} {c : Cl} (hb : IsC w b) (h : BkT w v1 v2 c) (i : Nat) (u : Value) : BkT (w.setCell ⟨b, i, none⟩ u) v1 v2 c := by
  obtain ⟨cur, hb⟩ := hb
  exact ⟨⟨h.1.1.other h.2.1 hb (by decide) i u, h.1.2.other h.2.2 hb (by decide) i u⟩, h.2.1.setCell _ _ _, h.2.2.setCell _ _ _⟩
theorem bkT_both {w : World} {b : Nat} {v1 v2 : Value} {c : Cl} (h : IsC w b ∧ BkT w v1 v2 c) (i : Nat) (u : Value) : IsC (w.setCell ⟨b, i, none⟩ u) b ∧ BkT (w.setCell ⟨b, i, none⟩ u) v1 v2 c := ⟨isC_set h.1 i u, bkT_set h.1 h.2 i u⟩
theorem bkT_st12 {w : World} {b : Nat} {v1 v2 : Value} {c : Cl} (hb : IsC w b) (h : BkT w v1 v2 c) (x : Cl) (u1 u2 : Value) : BkT (st12 w b x u1 u2) v1 v2 c := by
  have h0 : IsC w b ∧ BkT w v1 v2 c := ⟨hb, h⟩
  have h1 := bkT_both h0 0 (.int .i64 x.p)
  have h2 := bkT_both h1 1 (.int .i64 x.d)
  have h3 := bkT_both h2 2 (.int .i64 x.e.k)
  have h4 := bkT_both h3 3 (.int .i64 x.e.j)
  have h5 := bkT_both h4 4 (.int .i64 x.e.v)
  have h6 := bkT_both h5 5 (.int .i64 x.e.t)
  have h7 := bkT_both h6 6 (.int .i64 x.e.c)
  have h8 := bkT_both h7 7 (.int .i64 x.a)
  have h9 := bkT_both h8 8 (.int .i64 x.l)
  have h10 := bkT_both h9 9 (.int .i64 x.n)
  have h11 := bkT_both h10 10 (u1)
  have h12 := bkT_both h11 11 (u2)
  exact h12.2

/-- Answers a client, its rows in blocks of their own types, and what is wrong. -/
abbrev AnsT (f : FuncId) (args : Array Value) (w : World) (r : Cl × Int) : Prop :=
  Calls Try.prog f args w fun e w' => ∃ u1 u2, e = .returned (.tuple #[r.1.val u1 u2, .int .i64 r.2]) ∧ BkT w' u1 u2 r.1 ∧ Below w.heap.size w w'
theorem ansT_zero {f : FuncId} {args : Array Value} {w : World} {n : Int} (h : AnsX f args w (Cl.zero, n) nil0 nil0) : AnsT f args w (Cl.zero, n) :=
  h.mono fun _ _ ⟨he, hB⟩ => ⟨nil0, nil0, he, bkT_nil _ rfl rfl, hB⟩

/-- The end of a function whose one result is a client in memory. -/
theorem ret1_client {fn : Func} {R : Ending → World → Prop} {a : Act} {W : World} {b p : Nat} {c : Cl} {v1 v2 : Value} (hf : fn.results = #[.cell p 47]) (hd : a.defers = [])
    (h2 : a.tmps.getD p undef = .pointer (some ⟨b, 0, none⟩)) (hR : W.heap[b]? = some (boxC c v1 v2)) (hp : R (.returned (c.val v1 v2)) W) :
    bodyPost Try.prog fn R .ret a W := by
  have c0 : ∀ i, W.cell? ⟨b, i, none⟩ = #[Value.int .i64 c.p, .int .i64 c.d, .int .i64 c.e.k, .int .i64 c.e.j, .int .i64 c.e.v, .int .i64 c.e.t, .int .i64 c.e.c, .int .i64 c.a, .int .i64 c.l, .int .i64 c.n, v1, v2][i]? := fun i => Joins.cell_of_block hR i
  refine bodyPost_ret (v := c.val v1 v2) ?_ hd hp
  simp only [results, hf]
  simp at h2
  simp [go_sem, c0, h2]
theorem ret1_st {fn : Func} {R : Ending → World → Prop} {a : Act} {W : World} {p : Nat} (W0 : World) (b : Nat) (c : Cl) (v1 v2 : Value) {o : Cl} {u1 u2 : Value} (hf : fn.results = #[.cell p 47]) (hd : a.defers = [])
    (h2 : a.tmps.getD p undef = .pointer (some ⟨b, 0, none⟩)) (hR : W0.heap[b]? = some (boxC o u1 u2)) (hW : W = st12 W0 b c v1 v2) (hp : R (.returned (c.val v1 v2)) (st12 W0 b c v1 v2)) :
    bodyPost Try.prog fn R .ret a W := by
  rw [hW]
  exact ret1_client hf hd h2 (st12_box hR c v1 v2) hp

end Go.Proofs.Ytbokdcdnandgbae
