/- 'append([]byte(s), ..)': the row that a conversion makes bears a mark behind its end. -/
import Derived.Test.YtnmapehbcccbhadDoorSlStr
import Derived.Laws.CopyOwn
namespace Go.Proofs.YtnmapehbcccbhadDoor
open Go.RowKit

section
variable {P : Program}

/-- Cells are stored into a row that is marked behind its end. -/
theorem store_marked (g o : Nat) (t : TypeId) (fz : Nat × Nat) : ∀ (vs : List Value) (i : Nat) (cur : Array Value) (w : World), w.heap[g]? = some (.cells cur t fz) → cur.size ≤ fz.1 → o + i + vs.length ≤ cur.size → (∀ v ∈ vs, v.oneCell' = true) →
    (storeCells ⟨g, o, none⟩ vs i).run P w = .ok () (w.setRow g (cur.toList.take (o + i) ++ vs ++ cur.toList.drop (o + i + vs.length)).toArray)
  | [], i, cur, w, hg, _, _, _ => by
    simp only [storeCells, List.append_nil, List.length_nil, Nat.add_zero, List.take_append_drop, Array.toArray_toList]
    rw [setRow_self w g cur t fz hg]
    rfl
  | v :: rest, i, cur, w, hg, hfz, hl, h1 => by
    have hi : o + i < cur.size := by simp at hl; omega
    have hadd : (⟨g, o, none⟩ : Addr).add i = ⟨g, o + i, none⟩ := by unfold Addr.add; split <;> simp_all
    have hcell : w.cell? ⟨g, o + i, none⟩ = some cur[o + i] := by simp [World.cell?, hg, hi]
    have hfro : w.frozen? ⟨g, o + i, none⟩ = false := by
      obtain ⟨lo, hi'⟩ := fz
      simp only [World.frozen?, hg, Bool.and_eq_false_iff, decide_eq_false_iff_not]
      left
      simp only at hfz
      omega
    have hst : (store ((⟨g, o, none⟩ : Addr).add i) v).run P w = .ok () (w.setRow g (cur.setIfInBounds (o + i) v)) := by
      rw [hadd, run_store P w _ v _ (h1 v (by simp)), hcell]
      simp [hfro, setCell_eq_setRow w g (o + i) cur t fz v hg]
    have ih := store_marked g o t fz rest (i + 1) (cur.setIfInBounds (o + i) v) (w.setRow g (cur.setIfInBounds (o + i) v)) (setRow_heap w g cur _ t _ hg) (by simpa using hfz) (by simp at hl ⊢; omega) (fun x hx => h1 x (by simp [hx]))
    simp only [storeCells, Sem.run_bind, hst, Result.andThen_ok, ih, setRow_setRow]
    congr 3
    have e := list_seg_step cur.toList (o + i) v rest (by simp at hl ⊢; omega)
    simpa [Array.toList_setIfInBounds, Nat.add_assoc] using e

/-- What an append to such a row answers. -/
structure Appd (w0 w' : World) (B : Nat) (v : Value) (n : Nat) (xs : List Value) (g cap : Nat) : Prop where
  out : v = .slice (some ⟨g, 0, none⟩) n cap
  new : B ≤ g
  lt : g < w'.heap.size
  room : n ≤ cap
  cells : ∀ j u, xs[j]? = some u → w'.cell? ⟨g, j, none⟩ = some u
  below : Below B w0 w'

theorem wpList_append_marked {w : World} {ops : Array Oper} {rest : List Oper} {o : Oper} {a : Act} {Q : Exit → Act → World → Prop} (hgd : o.guard = none) (s x : Operand) (T : TypeId)
    (ho : o.op = .call { callee := .builtin .append, args := #[s, x], argTypes := #[T, T] }) (e : TypeId) (i : TypeInfo) (z : Value) (ht : P.underlying T = some (.slice e)) (hi : P.info? e = some i) (hz : i.zero = some z) (hi1 : i.size = 1) (hi2 : i.bytes = 1)
    (g n cap : Nat) (cur : Array Value) (fz : Nat × Nat) (hg : w.heap[g]? = some (.cells cur e fz)) (hfz : cur.size ≤ fz.1) (hcs : cur.size = cap) (hnc : n ≤ cap) (xs : List Value) (hxs : cur.toList.take n = xs)
    (hs : a.eval s = .slice (some ⟨g, 0, none⟩) n cap) (ad : Addr) (m c : Nat) (hx : a.eval x = .slice (some ad) m c) (news : List Value) (hl : news.length = m) (hnews : ∀ j u, news[j]? = some u → w.cell? (ad.add j) = some u) (h1 : ∀ u ∈ news, u.oneCell' = true)
    (hlen : n + m ≤ 1000000) (B : Nat) (w0 : World) (hb : Below B w0 w) (hBg : B ≤ g)
    (h : ∀ v' w' g' cap', Appd w0 w' B v' (n + m) (xs ++ news) g' cap' → wpList P ops Q rest (a.put o.dst v') w') :
    wpList P ops Q (o :: rest) a w := by
  have hgl := heap_lt hg
  have hxl : xs.length = n := by rw [← hxs, List.length_take]; simp; omega
  refine wpList_plain hgd fun K hK => ?_
  by_cases hroom : n + m ≤ cap
  · have hf := run_firstCells_some (P := P) w i.size m ad m c news (by rw [hi1, hl, Nat.mul_one]) hnews
    have hst := store_marked (P := P) g n e fz news 0 cur w hg hfz (by omega) h1
    simp only [Nat.add_zero] at hst
    rw [hi1] at hf
    have hr : (Builtin.append_ #[T, T] o.type #[.slice (some ⟨g, 0, none⟩) n cap, .slice (some ad) m c]).run P w =
        .ok (.slice (some ⟨g, 0, none⟩) (n + m) cap) (w.setRow g (cur.toList.take n ++ news ++ cur.toList.drop (n + news.length)).toArray) := by
      simp [Builtin.append_, run_underlying ht, sizeOf, typeInfo, hi, hi1, Builtin.lenOf, hroom, hf, Addr.add_lit, hst]
    unfold Oper.wp execOp
    simp only [ho, resolve, invoke, builtin, Sem.run_bind, Sem.run_pure, Result.andThen_ok, List.map_toArray, List.map_cons, List.map_nil, hs, hx, hr]
    refine hK _ _ (h _ _ g cap ⟨rfl, hBg, by simpa [World.setRow] using hgl, hroom, fun j u hj => ?_, below_setRow hb hBg _⟩)
    rw [cell_setRow_same w g j cur _ e fz hg, List.getElem?_toArray, hxs, List.getElem?_append_left]
    · exact hj
    · exact (List.getElem?_eq_some_iff.1 hj).1
  · have holds : ∀ j u, xs[j]? = some u → w.cell? ((⟨g, 0, none⟩ : Addr).add j) = some u := fun j u hj => by
      rw [Lib.add_plain, Nat.zero_add]
      rw [← hxs, List.getElem?_take] at hj
      split at hj
      · simpa [World.cell?, hg] using hj
      · cases hj
    have hr := run_append_grow (P := P) w T o.type e i z ht hi hz ⟨g, 0, none⟩ n cap xs (by rw [hi1, hxl, Nat.mul_one]) holds ad m c news (by rw [hi1, hl, Nat.mul_one]) hnews (by omega) (by omega) (by rw [hi2]; exact growslice_fits (by omega) (by omega))
    have hge := grownCap_ge w (n + m) cap e
    unfold Oper.wp execOp
    simp only [ho, resolve, invoke, builtin, Sem.run_bind, Sem.run_pure, Result.andThen_ok, List.map_toArray, List.map_cons, List.map_nil, hs, hx, hr]
    refine hK _ _ (h _ _ w.heap.size _ ⟨rfl, Nat.le_trans hBg (Nat.le_of_lt hgl), by show w.heap.size < (w.heap.push _).size; simp, hge, fun j u hj => ?_, hb.drew.alloc (Nat.le_trans hBg (Nat.le_of_lt hgl)) _⟩)
    have hw : (w.drew.alloc (.cells (xs.toArray ++ news.toArray ++ Builtin.zeroCells z.cells (grownCap w (n + m) cap e - (n + m))) e)).heap[w.heap.size]? = some (.cells (xs.toArray ++ news.toArray ++ Builtin.zeroCells z.cells (grownCap w (n + m) cap e - (n + m))) e) := heap_new w.drew _
    have hlt := (List.getElem?_eq_some_iff.1 hj).1
    rw [Joins.cell_of_block hw, Array.getElem?_append_left (by simpa using hlt)]
    simpa using hj
end

end Go.Proofs.YtnmapehbcccbhadDoor
