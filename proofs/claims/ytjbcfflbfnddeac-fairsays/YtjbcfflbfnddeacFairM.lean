/- A map from numbers to numbers, by what it answers. -/
import Derived.Test.YtjbcfflbfnddeacKit
import Derived.Maps.OwnSet
namespace Go.Proofs.Ytjbcfflbfnddeac
open Go.RowKit Go.Maps

theorem lawI : Keyed Try.prog 3 := int_keyed Try.underlying3
theorem zeroI (w : World) : (zeroValue 3).run Try.prog w = .ok (.int .i64 0) w := by kernel_rfl

/-- The map in block b, of at most n entries, answers so. -/
def MapIs (w : World) (b n : Nat) (f : Int → Option Int) : Prop :=
  ∃ D : DataW Unit, w.ownsMap Try.prog 3 (plainElem Try.prog 3) b n D ∧ ∀ i, Maps.has D (.int .i64 i) = (f i).isSome ∧ D.atKey (.int .i64 i) (.lit (.int .i64 0)) = .lit (.int .i64 ((f i).getD 0))

theorem mapIs_made (w : World) : MapIs (w.alloc (.map #[] 0)) w.heap.size 0 fun _ => none :=
  ⟨.map [], World.ownsMap_made _ _ _ _, fun _ => ⟨rfl, rfl⟩⟩

theorem MapIs.keep {w w' : World} {b n : Nat} {f : Int → Option Int} (h : MapIs w b n f) (hb : w'.heap[b]? = w.heap[b]?) : MapIs w' b n f := by
  obtain ⟨D, ⟨es, clock, h1, h2⟩, h3⟩ := h
  exact ⟨D, ⟨es, clock, hb.trans h1, h2⟩, h3⟩

theorem MapIs.same {w : World} {b n : Nat} {f g : Int → Option Int} (h : MapIs w b n f) (e : ∀ i, g i = f i) : MapIs w b n g := by
  obtain ⟨D, h1, h2⟩ := h
  exact ⟨D, h1, fun i => by rw [e i]; exact h2 i⟩

theorem MapIs.lt {w : World} {b n : Nat} {f : Int → Option Int} (h : MapIs w b n f) : b < w.heap.size := by
  obtain ⟨D, h1, _⟩ := h
  exact h1.lt

theorem MapIs.later {w w' : World} {b n : Nat} {f : Int → Option Int} (h : MapIs w b n f) (hb : Below w.heap.size w w') : MapIs w' b n f :=
  h.keep (hb.block b h.lt)

/-- It is no row of cells. -/
theorem MapIs.ne {w : World} {b n g : Nat} {f : Int → Option Int} (h : MapIs w b n f) {cs : Array Value} {T : TypeId} {fr : Nat × Nat} (hg : w.heap[g]? = some (.cells cs T fr)) : g ≠ b := by
  rintro rfl
  obtain ⟨D, ⟨es, clock, h1, _⟩, _⟩ := h
  rw [hg] at h1
  cases h1

theorem MapIs.setCell {w : World} {b n g o : Nat} {f : Int → Option Int} (h : MapIs w b n f) (hne : g ≠ b) (v : Value) : MapIs (w.setCell ⟨g, o, none⟩ v) b n f :=
  h.keep (Below.heap_setCell _ _ _ _ (by exact Ne.symm hne))

theorem MapIs.look {w : World} {b n : Nat} {f : Int → Option Int} (h : MapIs w b n f) (i : Int) (hi : -9223372036854775808 ≤ i ∧ i ≤ 9223372036854775807) :
    (Instr.lookup 41 (.map (some b)) (.int .i64 i) false).run Try.prog w = .ok (.int .i64 ((f i).getD 0)) w := by
  obtain ⟨D, h1, h2⟩ := h
  obtain ⟨c, hrun, hat, _⟩ := h1.lookup_int lawI Try.underlying41 Try.underlying3 (zeroI _) (keyOf_int_mk Try.underlying3 (WalkArith.wf_i64 hi))
  rw [(h2 i).2] at hat
  injection hat with hat
  injection hat with _ hat
  rw [hrun, hat]

theorem MapIs.look_ok {w : World} {b n : Nat} {f : Int → Option Int} (h : MapIs w b n f) (i : Int) (hi : -9223372036854775808 ≤ i ∧ i ≤ 9223372036854775807) :
    (Instr.lookup 41 (.map (some b)) (.int .i64 i) true).run Try.prog w = .ok (.tuple #[.int .i64 ((f i).getD 0), .bool (f i).isSome]) w := by
  obtain ⟨D, h1, h2⟩ := h
  obtain ⟨v, ps, hrun, hv⟩ := h1.look_ok lawI Try.underlying41 (zeroI _) (plainElem_int Try.underlying3 (by decide)) (keyOf_int_mk Try.underlying3 (WalkArith.wf_i64 hi))
  obtain ⟨c, rfl, hc, _⟩ := plainElem_int_inv Try.underlying3 hv
  rw [(h2 i).2] at hc
  simp only [Prod.mk.injEq] at hc
  obtain ⟨hc, _⟩ := hc
  injection hc with hc
  injection hc with _ hc
  rw [hrun, (h2 i).1, hc]

/-- One key turned. -/
def turned (f : Int → Option Int) (i : Int) (v : Option Int) : Int → Option Int := fun j => if j = i then v else f j

theorem MapIs.put {w : World} {b n : Nat} {f : Int → Option Int} (h : MapIs w b n f) (hn : n < 1000000) (i v : Int) (hi : -9223372036854775808 ≤ i ∧ i ≤ 9223372036854775807) (hv : -9223372036854775808 ≤ v ∧ v ≤ 9223372036854775807) :
    ∃ w', (Instr.mapUpdate 41 (.map (some b)) (.int .i64 i) (.int .i64 v)).run Try.prog w = .ok () w' ∧ MapIs w' b (n + 1) (turned f i (some v)) ∧ w.mapTurned w' b := by
  obtain ⟨D, h1, h2⟩ := h
  have hk := keyOf_int_mk Try.underlying3 (WalkArith.wf_i64 hi)
  obtain ⟨w', hrun, r1, r2⟩ := h1.store lawI Try.underlying41 (by unfold maxLen; omega) hk (plainElem_int Try.underlying3 (WalkArith.wf_i64 hv))
  refine ⟨w', hrun, ⟨_, r1, fun j => ?_⟩, r2⟩
  unfold turned
  by_cases hj : j = i
  · subst hj
    rw [if_pos rfl, has_put_same h1.isMap (lawI.key hk), atKey_put_same h1.isMap (lawI.key hk)]
    exact ⟨rfl, rfl⟩
  · have hne : (Lit.int .i64 j) ≠ .int .i64 i := fun e => hj (by injection e)
    rw [if_neg hj, has_put_other hne, atKey_put_other hne]
    exact h2 j

theorem MapIs.drop {w : World} {b n : Nat} {f : Int → Option Int} (h : MapIs w b n f) (i : Int) (hi : -9223372036854775808 ≤ i ∧ i ≤ 9223372036854775807) (ty : TypeId) :
    ∃ w', (Builtin.delete_ #[41, 3] ty #[.map (some b), .int .i64 i]).run Try.prog w = .ok (.tuple #[]) w' ∧ MapIs w' b n (turned f i none) ∧ w.mapTurned w' b := by
  obtain ⟨D, h1, h2⟩ := h
  have hk := keyOf_int_mk Try.underlying3 (WalkArith.wf_i64 hi)
  obtain ⟨w', hrun, r1, r2⟩ := h1.drop lawI Try.underlying41 hk ty
  refine ⟨w', hrun, ⟨_, r1, fun j => ?_⟩, r2⟩
  unfold turned
  by_cases hj : j = i
  · subst hj
    rw [if_pos rfl, has_del_same, atKey_del_same]
    exact ⟨rfl, rfl⟩
  · have hne : (Lit.int .i64 j) ≠ .int .i64 i := fun e => hj (by injection e)
    rw [if_neg hj, has_del_other hne, atKey_del_other hne]
    exact h2 j

theorem wpList_map_drop {w : World} {ops : Array Oper} {rest : List Oper} {o : Oper} {a : Act} {Q : Exit → Act → World → Prop} (hg : o.guard = none) (m x : Operand) (hop : o.op = Op.call { callee := Callee.builtin Builtin.delete, args := #[m, x], argTypes := #[41, 3] })
    (b n : Nat) (f : Int → Option Int) (hm : a.eval m = .map (some b)) (h : MapIs w b n f) (i : Int) (hx : a.eval x = .int .i64 i) (hi : -9223372036854775808 ≤ i ∧ i ≤ 9223372036854775807)
    (hK : ∀ w', MapIs w' b n (turned f i none) → w.mapTurned w' b → wpList Try.prog ops Q rest (a.put o.dst (.tuple #[])) w') : wpList Try.prog ops Q (o :: rest) a w := by
  refine wpList_plain hg fun K' hK' => ?_
  obtain ⟨w', hrun, r1, r2⟩ := h.drop i hi o.type
  unfold Oper.wp
  simp [execOp, hop, resolve, invoke, builtin, hm, hx, hrun, Result.andThen]
  exact hK' _ _ (hK w' r1 r2)

/-- What a map's turn leaves as it is. -/
theorem turned_old {w w' : World} {b k : Nat} (h : w.mapTurned w' b) (hk : k ≠ b) (hl : k < w.heap.size) : w'.heap[k]? = w.heap[k]? :=
  h.grown.block k hl (fun e => hk (by injection e))

theorem turned_below {B : Nat} {w w' : World} {b : Nat} (h : w.mapTurned w' b) (hB : B ≤ b) (hs : B ≤ w.heap.size) : Below B w w' :=
  ⟨h.grown.os, h.grown.tape, h.grown.output, h.grown.size, fun k hk => h.grown.block k (by omega) (fun e => by injection e with e; omega)⟩

end Go.Proofs.Ytjbcfflbfnddeac
