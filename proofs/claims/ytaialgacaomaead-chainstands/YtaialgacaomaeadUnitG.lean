/- The reference's UnitOf. -/
import Derived.Test.YtaialgacaomaeadUnitF
import Derived.Test.YtaialgacaomaeadSlRec
namespace Go.Proofs.Ytaialgacaomaead
open Go.RowKit

theorem cell_setOther {w : World} {b g : Nat} (hne : g ≠ b) (i j : Nat) (v : Value) : (w.setCell ⟨b, i, none⟩ v).cell? ⟨g, j, none⟩ = w.cell? ⟨g, j, none⟩ := by
  have hh : (w.setCell ⟨b, i, none⟩ v).heap[g]? = w.heap[g]? := Below.heap_setCell _ _ _ _ (by show g ≠ b; exact hne)
  simp only [World.cell?, hh]

/-- Entries lie in no box of two cells. -/
theorem ents_apart {W : World} {v : Value} {es : List En} (h : EntSl W v es) {B : Nat} {x0 x1 : Value} {T : TypeId} (hB : W.heap[B]? = some (.cells #[x0, x1] T)) (i : Nat) (x : Value) : EntSl (W.setCell ⟨B, i, none⟩ x) v es := by
  obtain ⟨a, c, hv, hc⟩ := h
  refine ⟨a, c, hv, ?_⟩
  rcases hc with hc | ⟨b, off, ha, hE⟩
  · exact Or.inl hc
  · refine Or.inr ⟨b, off, ha, fun j e hj i' u hi => ?_⟩
    have hne : b ≠ B := fun e' => by
      have := hE j e hj 4 _ rfl
      rw [e', Joins.cell_of_block hB] at this
      simp at this
    rw [cell_setOther hne]
    exact hE j e hj i' u hi

theorem unit_apart {W : World} {v : Value} {u : Un} (h : UnitAt W v u) {B : Nat} {p : Int} {s : Value} (hB : W.heap[B]? = some (boxU p s)) (x : Int) (y : Value) : UnitAt ((W.setCell ⟨B, 0, none⟩ (.int .i64 x)).setCell ⟨B, 1, none⟩ y) v u := by
  have h0 : (W.setCell ⟨B, 0, none⟩ (.int .i64 x)).heap[B]? = some (boxU x s) := by rw [Joins.block_setCell hB]; rfl
  exact ⟨ents_apart (ents_apart h.ents hB 0 _) h0 1 _, h.room⟩

/-- Where UnitOf's round stands. -/
def UoAt (w wr : World) (ub : Nat) (rs : List Rc) (k : Nat) : Prop :=
  ∃ u a n c, wr.heap[ub]? = some (boxU u.p (.slice a n c)) ∧ UnitAt wr (.slice a n c) u ∧ wr.heap[w.heap.size]? = some (boxU 0 (.slice none 0 0)) ∧ Below w.heap.size w wr ∧ Hid (ufold unew rs = ufold u (rs.drop k))

theorem drop_rc {rs : List Rc} {k : Nat} {x : Rc} (h : rs[k]? = some x) : rs.drop k = x :: rs.drop (k + 1) := by
  have hlt := (List.getElem?_eq_some_iff.1 h).1
  rw [List.drop_eq_getElem_cons hlt, (List.getElem?_eq_some_iff.1 h).2]

set_option maxHeartbeats 4000000 in
set_option maxRecDepth 100000 in
theorem unitOf_few (a : Option Addr) (n c : Nat) (rs : List Rc) (w : World) (h : RecSl w (.slice a n c) rs) (hn : (n : Int) ≤ 160) :
    AnsU 19 #[.slice a n c] w (ufold unew rs) := by
  have H : Aside (RecSl w (.slice a n c) rs) := h
  have HL : Aside (rs.length = n) := h.len
  have HB0 : Aside (Below w.heap.size w (w.alloc (boxU 0 (.slice none 0 0)))) := grew (Below.refl _ _) _
  have HX0 : Aside ((w.alloc (boxU 0 (.slice none 0 0))).heap[w.heap.size]? = some (boxU 0 (.slice none 0 0))) := heap_new _ _
  clear h
  go_enter Try.func19, Try.ntmps19
  go_wp2_with fail
  refine (ref_fresh _).mono ?_
  rintro e w1 ⟨v0, rfl, hU, hb1⟩
  obtain ⟨a0, n0, c0, rfl, hnc0⟩ := hU.room
  have HS : Aside (UoAt w (w1.alloc (boxU 1 (.slice a0 n0 c0))) w1.heap.size rs 0) := ⟨unew, a0, n0, c0, heap_new _ _, hU.later (grew (Below.refl _ _) _), heap_old (heap_below HX0.out hb1 (heap_lt HX0.out)) _, grew (step_below1 HB0.out hb1) _, rfl⟩
  have hwub : w.heap.size < w1.heap.size := by have := hb1.size; simp at this; omega
  clear hb1 HX0 HB0 hU hnc0
  go_wp2
  generalize w1.heap.size = ub at *
  go_loopw [16] (fun i wr => ∃ k : Nat, k ≤ n ∧ i = .int .i64 k ∧ UoAt w wr ub rs k) (fun i _ => n - (intOf i).toNat)
  case atStart => exact ⟨0, Nat.zero_le _, rfl, HS.out⟩
  case round =>
    clear HS
    obtain ⟨k, hk, rfl, u, a1, n1, c1, hub, hU, hres, hB, hst⟩ := hrel
    by_cases hlt : k < n
    · obtain ⟨x, hx⟩ : ∃ x, rs[k]? = some x := ⟨rs[k]'(by have := HL.out; omega), List.getElem?_eq_getElem _⟩
      obtain ⟨b, off, rfl, hE0⟩ := H.out.at (by omega)
      have hE := hE0.later hB
      have q0 : wr.cell? ⟨b, off + k * 8, none⟩ = some (.int .i64 x.k) := hE k x hx 0 _ rfl
      have q1 : wr.cell? ⟨b, off + k * 8 + 1, none⟩ = some (.int .i64 x.a) := hE k x hx 1 _ rfl
      have q2 : wr.cell? ⟨b, off + k * 8 + 2, none⟩ = some (.int .i64 x.p) := hE k x hx 2 _ rfl
      have q3 : wr.cell? ⟨b, off + k * 8 + 3, none⟩ = some (.int .i64 x.e.k) := hE k x hx 3 _ rfl
      have q4 : wr.cell? ⟨b, off + k * 8 + 4, none⟩ = some (.int .i64 x.e.j) := hE k x hx 4 _ rfl
      have q5 : wr.cell? ⟨b, off + k * 8 + 5, none⟩ = some (.int .i64 x.e.v) := hE k x hx 5 _ rfl
      have q6 : wr.cell? ⟨b, off + k * 8 + 6, none⟩ = some (.int .i64 x.e.t) := hE k x hx 6 _ rfl
      have q7 : wr.cell? ⟨b, off + k * 8 + 7, none⟩ = some (.int .i64 x.e.c) := hE k x hx 7 _ rfl
      have hd : Hid (ufold unew rs = if (unext u x).2 ≠ 0 then (Un.zero, (unext u x).2) else ufold (unext u x).1 (rs.drop (k + 1))) := by
        rw [Hid, hst.out, drop_rc hx, ufold]
      have HU1 : Aside ((wr.alloc (boxRc x)).heap[ub]? = some (boxU u.p (.slice a1 n1 c1))) := heap_old hub _
      have HR1 : Aside ((wr.alloc (boxRc x)).heap[w.heap.size]? = some (boxU 0 (.slice none 0 0))) := heap_old hres _
      have HB1 : Aside (Below w.heap.size w (wr.alloc (boxRc x))) := grew hB _
      have hnx := ref_next _ u x (wr.alloc (boxRc x)) (hU.later (grew (Below.refl _ _) _))
      have hubl := heap_lt hub
      have z0 : ∀ i, wr.cell? ⟨ub, i, none⟩ = #[Value.int .i64 u.p, .slice a1 n1 c1][i]? := fun i => Joins.cell_of_block hub i
      clear hE hE0 hst hx hB hU hub hres
      obtain ⟨⟨u2, f⟩, hun⟩ : ∃ q, unext u x = q := ⟨_, rfl⟩
      rw [hun] at hnx hd
      replace hd : Hid (ufold unew rs = if f ≠ 0 then (Un.zero, f) else ufold u2 (rs.drop (k + 1))) := hd
      clear hun
      go_wp2_with fail
      refine hnx.mono ?_
      rintro e w2 ⟨v2, rfl, hU2, hb2⟩
      obtain ⟨a2, n2, c2, rfl, hnc2⟩ := hU2.room
      have HU2 : Aside ((w2.alloc (boxU u2.p (.slice a2 n2 c2))).heap[ub]? = some (boxU u.p (.slice a1 n1 c1))) := heap_old (heap_below HU1.out hb2 (heap_lt HU1.out)) _
      have HR2 : Aside ((w2.alloc (boxU u2.p (.slice a2 n2 c2))).heap[w.heap.size]? = some (boxU 0 (.slice none 0 0))) := heap_old (heap_below HR1.out hb2 (heap_lt HR1.out)) _
      have HN2 : Aside ((w2.alloc (boxU u2.p (.slice a2 n2 c2))).heap[w2.heap.size]? = some (boxU u2.p (.slice a2 n2 c2))) := heap_new _ _
      have HB2 : Aside (Below w.heap.size w (w2.alloc (boxU u2.p (.slice a2 n2 c2)))) := grew (step_below1 HB1.out hb2) _
      have HV2 : Aside (UnitAt (w2.alloc (boxU u2.p (.slice a2 n2 c2))) (.slice a2 n2 c2) u2) := hU2.later (grew (Below.refl _ _) _)
      clear hb2 hnx HU1 HR1 HB1 hU2 q0 q1 q2 q3 q4 q5 q6 q7 z0 hnc2
      go_upto_region 8 with fail
      generalize w2.alloc (boxU u2.p (.slice a2 n2 c2)) = V at *
      generalize w2.heap.size = nb at *
      have z0 : ∀ i, V.cell? ⟨ub, i, none⟩ = #[Value.int .i64 u.p, .slice a1 n1 c1][i]? := fun i => Joins.cell_of_block HU2.out i
      have f0 : ∀ i, V.frozen? ⟨ub, i, none⟩ = false := fun i => Joins.unfrozen_of_block HU2.out i
      have z1 : ∀ i, V.cell? ⟨w.heap.size, i, none⟩ = #[Value.int .i64 0, .slice none 0 0][i]? := fun i => Joins.cell_of_block HR2.out i
      have f1 : ∀ i, V.frozen? ⟨w.heap.size, i, none⟩ = false := fun i => Joins.unfrozen_of_block HR2.out i
      have z2 : ∀ i, V.cell? ⟨nb, i, none⟩ = #[Value.int .i64 u2.p, .slice a2 n2 c2][i]? := fun i => Joins.cell_of_block HN2.out i
      by_cases hf : f = 0
      · have hfb : (f != 0) = false := by rw [hf]; rfl
        have HN : Hid (ufold unew rs = ufold u2 (rs.drop (k + 1))) := by rw [Hid, hd.out, if_neg (by simpa using hf)]
        clear hd hf
        have HE : Aside (UoAt w ((V.setCell ⟨ub, 0, none⟩ (.int .i64 u2.p)).setCell ⟨ub, 1, none⟩ (.slice a2 n2 c2)) ub rs (k + 1)) := by
          have hres : ((V.setCell ⟨ub, 0, none⟩ (.int .i64 u2.p)).setCell ⟨ub, 1, none⟩ (.slice a2 n2 c2)).heap[w.heap.size]? = some (boxU 0 (.slice none 0 0)) := by
            rw [Below.heap_setCell _ _ _ _ (by show w.heap.size ≠ ub; omega), Below.heap_setCell _ _ _ _ (by show w.heap.size ≠ ub; omega)]
            exact HR2.out
          exact ⟨u2, a2, n2, c2, unit_stored HU2.out _ _, unit_apart HV2.out HU2.out _ _, hres, below_two2 HB2.out (by omega) _ _, HN⟩
        go_wp2
        go_roundw
        case rel => exact ⟨k + 1, by omega, by go_num, HE.out⟩
        case measure => simp [intOf]; omega
      · have hfb : (f != 0) = true := by rw [bne_iff_ne]; exact hf
        have HN : Hid (ufold unew rs = (Un.zero, f)) := by rw [Hid, hd.out, if_pos hf]
        clear hd hf
        go_wp2
        exact ret_unit (p := 2) (q := 3) Try.results19 rfl rfl rfl (unit_stored HR2.out _ _) ⟨.slice none 0 0, by rw [HN.out]; rfl, by rw [HN.out]; exact unit_nil _, below_two2 HB2.out (Nat.le_refl _) _ _⟩
    · obtain rfl : k = n := by omega
      have HN : Hid (ufold unew rs = (u, 0)) := by
        rw [Hid, hst.out, List.drop_eq_nil_of_le (by have := HL.out; omega)]; rfl
      have z0 : ∀ i, wr.cell? ⟨ub, i, none⟩ = #[Value.int .i64 u.p, .slice a1 n1 c1][i]? := fun i => Joins.cell_of_block hub i
      have z1 : ∀ i, wr.cell? ⟨w.heap.size, i, none⟩ = #[Value.int .i64 0, .slice none 0 0][i]? := fun i => Joins.cell_of_block hres i
      have f1 : ∀ i, wr.frozen? ⟨w.heap.size, i, none⟩ = false := fun i => Joins.unfrozen_of_block hres i
      have HR2 : Aside _ := hres
      have HB2 : Aside _ := hB
      have HV2 : Aside _ := hU
      clear hst hres hB hU
      go_wp2
      exact ret_unit (p := 2) (q := 3) Try.results19 rfl rfl rfl (unit_stored HR2.out _ _) ⟨.slice a1 n1 c1, by rw [HN.out]; rfl, by rw [HN.out]; exact unit_apart HV2.out HR2.out _ _, below_two2 HB2.out (Nat.le_refl _) _ _⟩

theorem unitOf_many (a : Option Addr) (n c : Nat) (w : World) (hn : 160 < (n : Int)) :
    AnsU 19 #[.slice a n c] w (Un.zero, 2) := by
  go_enter Try.func19, Try.ntmps19
  go_wp2
  exact ret_unit (p := 2) (q := 3) Try.results19 rfl rfl rfl (heap_new _ _) ⟨_, rfl, unit_nil _, grew (Below.refl _ _) _⟩

/-- The reference's UnitOf. -/
theorem ref_unitOf (v : Value) (rs : List Rc) (w : World) (h : RecSl w v rs) : AnsU 19 #[v] w (unitOf rs) := by
  have h' := h
  obtain ⟨a, c, rfl, _⟩ := h
  by_cases hn : 160 < rs.length
  · rw [unitOf, if_pos hn]
    exact unitOf_many a _ c w (by omega)
  · rw [unitOf, if_neg hn]
    exact unitOf_few a _ c rs w h' (by omega)

end Go.Proofs.Ytaialgacaomaead
