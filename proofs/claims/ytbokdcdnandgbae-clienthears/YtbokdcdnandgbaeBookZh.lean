/- Package book: slices.DeleteFunc at jobs; the walk of drop. Package book: the walks of slices.DeleteFunc at jobs, and of drop. Package book: slices.Insert at a full row of jobs. Package book: the walk of put. -/
import Derived.Test.YtbokdcdnandgbaeBookZa
import Derived.Test.YtbokdcdnandgbaeBookZd
import Derived.Test.YtbokdcdnandgbaeBookW
import Derived.Lib.AppendZerosOnto
import Derived.Deep.RegionLaw
import Derived.Deep.RegionHeld3
namespace Go.Proofs.Ytbokdcdnandgbae
open Go.RowKit Go.Shelf

/-- 'clear' of a part of a row that is known whole. -/
theorem clear_cells {P : Program} (w : World) (t e ty : TypeId) (z : Value) (ht : P.underlying t = some (.slice e)) (hv : ∀ w, (zeroValue e).run P w = .ok z w) (g o n c : Nat) (hn : 0 < n) (cur : List Value) (T : TypeId) (hg : w.heap[g]? = some (.cells cur.toArray T (0, 0)))
    (hfit : o + (Builtin.zeroCells z.cells n).toList.length ≤ cur.length) (h1 : ∀ v ∈ (Builtin.zeroCells z.cells n).toList, v.oneCell' = true) :
    (Builtin.clear_ #[t] ty #[.slice (some ⟨g, o, none⟩) n c]).run P w = .ok (.tuple #[]) (w.setRow g (splice cur o (Builtin.zeroCells z.cells n).toList).toArray) := by
  have hst := run_storeCells_at P g o T (Builtin.zeroCells z.cells n).toList 0 cur.toArray w hg (by simpa using hfit) h1
  simp only [Nat.add_zero] at hst
  obtain ⟨m, rfl⟩ : ∃ m, n = m + 1 := ⟨n - 1, by omega⟩
  simp [Builtin.clear_, run_underlying ht, hv, hst, splice]

theorem zerosJ (n : Nat) : (Builtin.zeroCells (valJ 0 0 0).cells n).toList.length = n * 3 := by
  rw [Array.length_toList, size_zeroCells]
  rfl

theorem zerosJ_one (n : Nat) : ∀ v ∈ (Builtin.zeroCells (valJ 0 0 0).cells n).toList, v.oneCell' = true := by
  intro v hv
  have hm : v ∈ Builtin.zeroCells (valJ 0 0 0).cells n := Array.mem_toList_iff.1 hv
  rw [Builtin.zeroCells, Array.mem_map] at hm
  obtain ⟨i, _, rfl⟩ := hm
  have : ∀ k, k < 3 → (((valJ 0 0 0).cells)[k]!).oneCell' = true := by decide
  exact this _ (Nat.mod_lt _ (by decide))

/-- How far DeleteFunc has come: behind the first j. -/
structure Del (p : Jb → Bool) (js : List Jb) (i j : Nat) (R : List Jb) : Prop where
  len : ((js.take j).filter fun x => !p x).length = i
  lt : i < j
  le : j ≤ js.length
  rest : R.length = js.length - i
  tail : R.drop (j - i) = js.drop j

theorem Del.start {p : Jb → Bool} {js : List Jb} {k : Nat} {x : Jb} (hx : js[k]? = some x) (hp : p x = true) (hb : ∀ y, y ∈ js.take k → p y = false) : Del p js k (k + 1) (js.drop k) ∧ (js.take (k + 1)).filter (fun x => !p x) = js.take k := by
  have hlt := (List.getElem?_eq_some_iff.1 hx).1
  have e : (js.take (k + 1)).filter (fun x => !p x) = js.take k := by
    rw [List.take_add_one, hx, List.filter_append, List.filter_eq_self.2 (fun y hy => by simp [hb y hy])]
    simp [hp]
  refine ⟨⟨by rw [e, List.length_take]; omega, by omega, by omega, by simp, ?_⟩, e⟩
  rw [show k + 1 - k = 1 by omega, List.drop_drop]

theorem Del.keep {p : Jb → Bool} {js R : List Jb} {i j : Nat} {x : Jb} (h : Del p js i j R) (hx : js[j]? = some x) (hp : p x = false) : Del p js (i + 1) (j + 1) (R.drop 1) ∧ (js.take (j + 1)).filter (fun x => !p x) = (js.take j).filter (fun x => !p x) ++ [x] := by
  have hlt := (List.getElem?_eq_some_iff.1 hx).1
  have e : (js.take (j + 1)).filter (fun x => !p x) = (js.take j).filter (fun x => !p x) ++ [x] := by
    rw [List.take_add_one, hx, List.filter_append]
    simp [hp]
  have := h.lt
  refine ⟨⟨by rw [e, List.length_append, h.len]; rfl, by omega, by omega, by rw [List.length_drop, h.rest]; omega, ?_⟩, e⟩
  rw [List.drop_drop, show 1 + (j + 1 - (i + 1)) = (j - i) + 1 by omega, ← List.drop_drop, h.tail, List.drop_drop]

theorem Del.skip {p : Jb → Bool} {js R : List Jb} {i j : Nat} {x : Jb} (h : Del p js i j R) (hx : js[j]? = some x) (hp : p x = true) : Del p js i (j + 1) R ∧ (js.take (j + 1)).filter (fun x => !p x) = (js.take j).filter (fun x => !p x) := by
  have hlt := (List.getElem?_eq_some_iff.1 hx).1
  have e : (js.take (j + 1)).filter (fun x => !p x) = (js.take j).filter (fun x => !p x) := by
    rw [List.take_add_one, hx, List.filter_append]
    simp [hp]
  have := h.lt
  refine ⟨⟨by rw [e, h.len], by omega, by omega, h.rest, ?_⟩, e⟩
  rw [show j + 1 - i = (j - i) + 1 by omega, ← List.drop_drop, h.tail, List.drop_drop]

theorem Del.at {p : Jb → Bool} {js R : List Jb} {i j : Nat} {x : Jb} (h : Del p js i j R) (hx : js[j]? = some x) : ((js.take j).filter (fun x => !p x) ++ R)[j]? = some x := by
  have := h.lt
  rw [List.getElem?_append_right (by rw [h.len]; omega), h.len]
  have e : (R.drop (j - i))[0]? = (js.drop j)[0]? := by rw [h.tail]
  rw [List.getElem?_drop, List.getElem?_drop] at e
  simpa [hx] using e

end Go.Proofs.Ytbokdcdnandgbae
namespace Go.Proofs.Ytbokdcdnandgbae
open Go.RowKit Go.Shelf

theorem sl_beside {α : Type} {cs : α → List Value} {k : Nat} {w : World} {b n c : Nat} {xs : List α} (h : SlOf cs k w (.slice (some ⟨b, 0, none⟩) n c) xs) {g o : Nat} (hne : g ≠ b) (v : Value) : SlOf cs k (w.setCell ⟨g, o, none⟩ v) (.slice (some ⟨b, 0, none⟩) n c) xs := by
  obtain ⟨a, c', hv, hh⟩ := h
  refine ⟨a, c', hv, ?_⟩
  injection hv with h1 _ _
  rcases hh with hh | ⟨b', off, ha, hE⟩
  · exact Or.inl hh
  · refine Or.inr ⟨b', off, ha, fun j e hj i u hi => ?_⟩
    rw [ha] at h1
    injection h1 with h1
    injection h1 with h1 _ _
    subst h1
    rw [World.cell?_of_block (Below.heap_setCell _ _ _ _ (by exact fun e => hne e.symm))]
    exact hE j e hj i u hi

theorem zeroJ : ∀ w, (zeroValue 64).run Try.prog w = .ok (valJ 0 0 0) w := by
  intro w
  obtain ⟨i0, hi, hz0, _, _⟩ := info_parts infoJ
  simp [zeroValue, typeInfo, hi, hz0]

set_option maxHeartbeats 4000000 in
/-- slices.DeleteFunc at a row of jobs that is known whole. -/
theorem delG (p : Jb → Bool) (g : Nat) (lb : Array Value) (eg : ∀ args w, (callFunc g args).run Try.prog w = .ok (.enter g args) w) (eb : Nat) (eo : Obj) (gb c : Nat) (js : List Jb) (w : World) (hne : eb ≠ gb) (he : w.heap[eb]? = some eo)
    (hg : w.heap[gb]? = some (.cells (js.flatMap Jb.cells).toArray 64)) (hn : js.length ≤ 1000000) (hc : js.length ≤ c)
    (hp : ∀ (W : World) (x : Jb), W.heap[eb]? = some eo → Calls Try.prog g (#[x.val] ++ lb) W fun e w' => e = .returned (.bool (p x)) ∧ Below W.heap.size W w') :
    Calls Try.prog 69 #[.slice (some ⟨gb, 0, none⟩) js.length c, .func (.func g) #[] lb] w fun e w' => e = .returned (.slice (some ⟨gb, 0, none⟩) (js.filter fun x => !p x).length c) ∧ (∃ tl, w'.heap[gb]? = some (.cells ((js.filter fun x => !p x).flatMap Jb.cells ++ tl).toArray 64)) ∧ Kept [gb] w w' := by
  have hsl : JobSl w (.slice (some ⟨gb, 0, none⟩) js.length c) js := slOf_block Jb.three hg ⟨[], by simp⟩
  have hidx := idxFJ p g lb eg _ js w hsl (by unfold most; omega) (fun W x hb => (hp W x (heap_below he hb (heap_lt he))).mono fun e w' ⟨h1, h2⟩ => ⟨h1, hb.trans (h2.mono hb.size)⟩)
  have HP : Aside _ := hp
  have HG : Aside _ := hg
  have HE : Aside _ := he
  clear hp hg he
  rcases idx_ways p js with ⟨hi, hall⟩ | ⟨k, x0, hi, hk, hx, hpx, hbef⟩
  · rw [hi] at hidx
    have hf : js.filter (fun x => !p x) = js := List.filter_eq_self.2 (fun x hx => by simp [hall x hx])
    rw [hf]
    obtain ⟨n, hnn⟩ : ∃ n, Hid (js.length = n) := ⟨_, rfl⟩
    rw [hnn.out] at hidx hn hc hsl ⊢
    clear hi hall hf hsl
    go_enter Try.func69, Try.ntmps69
    go_wp2_with (go_at_call 36; refine hidx.mono ?_; rintro e w' ⟨rfl, hb'⟩)
    go_ret
    exact ⟨rfl, ⟨[], by rw [List.append_nil]; exact heap_below HG.out hb' (heap_lt HG.out)⟩, (Kept.refl _ _).below hb'⟩
  · rw [hi] at hidx
    obtain ⟨hd, he0⟩ := Del.start hx hpx hbef
    have HD : Aside (Del p js k (k + 1) (js.drop k) ∧ (js.take (k + 1)).filter (fun x => !p x) ++ js.drop k = js) := ⟨hd, by rw [he0, List.take_append_drop]⟩
    obtain ⟨n, hnn⟩ : ∃ n, Hid (js.length = n) := ⟨_, rfl⟩
    rw [hnn.out] at hidx hn hc hk ⊢
    have hkm : ((k : Int) == -1) = false := by rw [beq_eq_false_iff_ne]; omega
    clear hi hx hpx hbef hd he0 hsl
    obtain ⟨off, hoff⟩ : ∃ off : Nat, Hid (0 = off) := ⟨_, rfl⟩
    rw [hoff.out] at hidx ⊢
    go_enter Try.func69, Try.ntmps69
    go_wp2_with (go_at_call 36; refine hidx.mono ?_; rintro e w' ⟨rfl, hb'⟩)
    go_loopg [5, 6, 7] n (fun gg s5 s6 _ wr => ∃ (i j : Nat) (R : List Jb), s5 = .int .i64 i ∧ s6 = .int .i64 j ∧ i < j ∧ j ≤ n ∧ n - j ≤ gg ∧ Aside (Del p js i j R) ∧ Aside (wr.heap[gb]? = some (.cells (((js.take j).filter (fun x => !p x) ++ R).flatMap Jb.cells).toArray 64)) ∧ Aside (wr.heap[eb]? = some eo) ∧ Aside (Kept [gb] w wr))
    case atStart =>
      refine ⟨k, k + 1, js.drop k, rfl, by go_num, by omega, by omega, by omega, HD.out.1, ?_, heap_below HE.out hb' (heap_lt HE.out), (Kept.refl _ _).below hb'⟩
      show _ = _
      rw [HD.out.2]
      exact heap_below HG.out hb' (heap_lt HG.out)
    case round =>
      obtain ⟨i, j, R, rfl, rfl, hij, hjn, hgg, D, G, E, KK⟩ := hrel
      by_cases hlt : j < n
      · obtain ⟨x, hx⟩ : ∃ x, js[j]? = some x := ⟨js[j]'(by have := hnn.out; omega), List.getElem?_eq_getElem _⟩
        have hrow : RowAt Jb.cells 3 wr gb off ((js.take j).filter (fun x => !p x) ++ R) := by rw [← hoff.out]; exact rowAt_block Jb.three G.out ⟨[], by simp⟩
        have hat := D.out.at hx
        have c0 : wr.cell? ⟨gb, off + j * 3, none⟩ = some (.int .i64 x.i) := hrow j x hat 0 _ rfl
        have c1 : wr.cell? ⟨gb, off + j * 3 + 1, none⟩ = some (.int .i64 x.e) := hrow j x hat 1 _ rfl
        have c2 : wr.cell? ⟨gb, off + j * 3 + 2, none⟩ = some (.int .i64 x.n) := hrow j x hat 2 _ rfl
        have hcall := HP.out (wr.alloc (boxJ x)) x (heap_old E.out _)
        have hgl := heap_lt G.out
        cases hq : p x with
        | false =>
          rw [hq] at hcall
          obtain ⟨D', e'⟩ := D.out.keep hx hq
          have hR0 : 0 < R.length := by rw [D.out.rest, hnn.out]; omega
          obtain ⟨r, R', rfl⟩ : ∃ r R', R = r :: R' := by
            cases R with
            | nil => simp at hR0
            | cons r R' => exact ⟨r, R', rfl⟩
          have DD : Aside (Del p js (i + 1) (j + 1) R') := by have := D'; simp only [List.drop_one, List.tail_cons] at this; exact this
          have hli := D.out.len
          have hLL : off + i * 3 + 2 < ((List.filter (fun x => !p x) (List.take j js) ++ r :: R').flatMap Jb.cells).length := by
            rw [row_len Jb.three, List.length_append, hli, ← hoff.out, List.length_cons]; omega
          have hsp : Hid (splice ((List.filter (fun x => !p x) (List.take j js) ++ r :: R').flatMap Jb.cells) (off + i * 3) [.int .i64 x.i, .int .i64 x.e, .int .i64 x.n] = (List.filter (fun x => !p x) (List.take (j + 1) js) ++ R').flatMap Jb.cells) := by
            have := splice_flat Jb.three (List.filter (fun x => !p x) (List.take j js)) R' r x
            rw [hli] at this
            rw [Hid, ← hoff.out, Nat.zero_add, e', List.append_assoc]
            exact this
          generalize ((List.filter (fun x => !p x) (List.take j js) ++ r :: R').flatMap Jb.cells) = L at *
          clear hx hat hrow D D' e' hR0 hli hq
          go_wp2_with fail
          refine hcall.mono ?_
          rintro e w1 ⟨rfl, hb1⟩
          have hs1 : wr.heap.size < w1.heap.size := by have := hb1.size; rw [World.size_alloc] at this; omega
          have x1 : w1.heap[wr.heap.size]? = some (boxJ x) := heap_below (heap_new _ _) hb1 (by rw [World.size_alloc]; omega)
          have g1 : w1.heap[gb]? = some (.cells L.toArray 64) := heap_below (heap_old G.out _) hb1 (by rw [World.size_alloc]; omega)
          have E1 : Aside (w1.heap[eb]? = some eo) := heap_below (heap_old E.out _) hb1 (by rw [World.size_alloc]; have := heap_lt E.out; omega)
          have K1 : Aside (Kept [gb] w w1) := (KK.out.alloc _).below hb1
          have y1 : ∀ i, w1.cell? ⟨wr.heap.size, i, none⟩ = #[Value.int .i64 x.i, .int .i64 x.e, .int .i64 x.n][i]? := fun i => Joins.cell_of_block x1 i
          obtain ⟨z0, k0⟩ : ∃ z, w1.cell? ⟨gb, off + i * 3, none⟩ = some z := ⟨_, by rw [Joins.cell_of_block g1]; simp; exact List.getElem?_eq_getElem (by omega)⟩
          obtain ⟨z1, k1⟩ : ∃ z, w1.cell? ⟨gb, off + i * 3 + 1, none⟩ = some z := ⟨_, by rw [Joins.cell_of_block g1]; simp; exact List.getElem?_eq_getElem (by omega)⟩
          obtain ⟨z2, k2⟩ : ∃ z, w1.cell? ⟨gb, off + i * 3 + 2, none⟩ = some z := ⟨_, by rw [Joins.cell_of_block g1]; simp; exact List.getElem?_eq_getElem (by omega)⟩
          have f0 : ∀ i, w1.frozen? ⟨gb, i, none⟩ = false := fun i => Joins.unfrozen_of_block g1 i
          have G2 := block_three g1 (.int .i64 x.i) (.int .i64 x.e) (.int .i64 x.n) hLL
          rw [hsp.out] at G2
          have K2 := ((K1.out.setCell (g := gb) (o := off + i * 3) (by simp) (.int .i64 x.i)).setCell (g := gb) (o := off + i * 3 + 1) (by simp) (.int .i64 x.e)).setCell (g := gb) (o := off + i * 3 + 2) (by simp) (.int .i64 x.n)
          have E2 : (((w1.setCell ⟨gb, off + i * 3, none⟩ (.int .i64 x.i)).setCell ⟨gb, off + i * 3 + 1, none⟩ (.int .i64 x.e)).setCell ⟨gb, off + i * 3 + 2, none⟩ (.int .i64 x.n)).heap[eb]? = some eo := by
            rw [Below.heap_setCell _ _ _ _ (by exact hne), Below.heap_setCell _ _ _ _ (by exact hne), Below.heap_setCell _ _ _ _ (by exact hne)]; exact E1.out
          replace G2 : Aside _ := G2
          replace K2 : Aside _ := K2
          replace E2 : Aside _ := E2
          clear hb1 hcall x1 g1 E1 K1 G E KK c0 c1 c2 HP HE HG HD hidx hb'
          go_wp2
          go_roundg (n - (j + 1))
          case measure => omega
          case rel => exact ⟨i + 1, j + 1, R', by go_num, by go_num, by omega, by omega, by omega, DD, G2, E2, K2⟩
        | true =>
          rw [hq] at hcall
          obtain ⟨D', e'⟩ := D.out.skip hx hq
          replace D' : Aside _ := D'
          have G' : Aside (wr.heap[gb]? = some (.cells (((js.take (j + 1)).filter (fun x => !p x) ++ R).flatMap Jb.cells).toArray 64)) := by rw [e']; exact G.out
          clear hx hat hrow D e' hq G
          go_wp2_with fail
          refine hcall.mono ?_
          rintro e w1 ⟨rfl, hb1⟩
          have G1 : Aside (w1.heap[gb]? = _) := heap_below (heap_old G'.out _) hb1 (by rw [World.size_alloc]; omega)
          have E1 : Aside (w1.heap[eb]? = some eo) := heap_below (heap_old E.out _) hb1 (by rw [World.size_alloc]; have := heap_lt E.out; omega)
          have K1 : Aside (Kept [gb] w w1) := (KK.out.alloc _).below hb1
          clear hb1 hcall G' E KK c0 c1 c2 HP HE HG HD hidx hb'
          go_wp2
          go_roundg (n - (j + 1))
          case measure => omega
          case rel => exact ⟨i, j + 1, R, rfl, by go_num, by omega, by omega, by omega, D', G1, E1, K1⟩
      · obtain rfl : j = n := by omega
        have hli := D.out.len
        have hrest := D.out.rest
        have hfull : js.take j = js := List.take_of_length_le (by have := hnn.out; omega)
        rw [hfull] at hli
        have G0 := G.out
        rw [hfull] at G0
        have hL : (((js.filter (fun x => !p x)) ++ R).flatMap Jb.cells).length = j * 3 := by
          rw [row_len Jb.three, List.length_append, hli, hrest, hnn.out]; omega
        have hcl := fun ty => clear_cells (P := Try.prog) wr 42 64 ty (valJ 0 0 0) Try.underlying42 zeroJ gb (i * 3) (j - i) (c - i) (by omega) _ 64 G0 (by rw [hL, zerosJ]; omega) (zerosJ_one _)
        have hsl : Aside (∃ tl, (wr.setRow gb (splice (((js.filter (fun x => !p x)) ++ R).flatMap Jb.cells) (i * 3) (Builtin.zeroCells (valJ 0 0 0).cells (j - i)).toList).toArray).heap[gb]? = some (.cells ((js.filter fun x => !p x).flatMap Jb.cells ++ tl).toArray 64)) := by
          refine ⟨(Builtin.zeroCells (valJ 0 0 0).cells (j - i)).toList, (setRow_heap wr gb _ _ _ _ G0).trans ?_⟩
          · refine congrArg (fun l : List Value => some (Obj.cells l.toArray 64)) ?_
            have hfl : ((js.filter (fun x => !p x)).flatMap Jb.cells).length = i * 3 := by rw [row_len Jb.three, hli]
            have hz := zerosJ (j - i)
            unfold splice
            rw [List.flatMap_append, List.take_append_of_le_length (by omega), List.take_of_length_le (by omega), hz, List.drop_of_length_le (by rw [← List.flatMap_append, hL]; omega), List.append_nil]
        have K2 : Aside (Kept [gb] w (wr.setRow gb (splice (((js.filter (fun x => !p x)) ++ R).flatMap Jb.cells) (i * 3) (Builtin.zeroCells (valJ 0 0 0).cells (j - i)).toList).toArray)) := KK.out.setRow (by simp) _
        generalize (splice (((js.filter (fun x => !p x)) ++ R).flatMap Jb.cells) (i * 3) (Builtin.zeroCells (valJ 0 0 0).cells (j - i)).toList).toArray = Z at *
        have HL : Hid ((js.filter fun x => !p x).length = i) := hli
        have hz0 : 0 = off := hoff.out
        subst hz0
        clear hli hrest hfull G0 hL D G E KK HP HE HG HD hidx hb'
        go_wp2
        go_ret
        exact ⟨by rw [HL.out]; rfl, hsl.out, K2.out⟩

/-- slices.DeleteFunc at a row of jobs that is known whole. -/
theorem delJ (p : Jb → Bool) (g : Nat) (lb : Array Value) (eg : ∀ args w, (callFunc g args).run Try.prog w = .ok (.enter g args) w) (eb : Nat) (eo : Obj) (gb c : Nat) (js : List Jb) (w : World) (hne : eb ≠ gb) (he : w.heap[eb]? = some eo)
    (hg : w.heap[gb]? = some (.cells (js.flatMap Jb.cells).toArray 64)) (hn : js.length ≤ 1000000) (hc : js.length ≤ c)
    (hp : ∀ (W : World) (x : Jb), W.heap[eb]? = some eo → Calls Try.prog g (#[x.val] ++ lb) W fun e w' => e = .returned (.bool (p x)) ∧ Below W.heap.size W w') :
    Calls Try.prog 69 #[.slice (some ⟨gb, 0, none⟩) js.length c, .func (.func g) #[] lb] w fun e w' => e = .returned (.slice (some ⟨gb, 0, none⟩) (js.filter fun x => !p x).length c) ∧ (JobSl w' (.slice (some ⟨gb, 0, none⟩) (js.filter fun x => !p x).length c) (js.filter fun x => !p x) ∧ Typed 64 w' (.slice (some ⟨gb, 0, none⟩) (js.filter fun x => !p x).length c)) ∧ Kept [gb] w w' :=
  (delG p g lb eg eb eo gb c js w hne he hg hn hc hp).mono fun _ _ ⟨h1, ⟨tl, h2⟩, h3⟩ => ⟨h1, ⟨slOf_block Jb.three h2 ⟨tl, rfl⟩, typed_block h2 _ _ _⟩, h3⟩

set_option maxHeartbeats 1000000 in
theorem drop_pred (x : En) (eb : Nat) (W : World) (y : Jb) (h : W.heap[eb]? = some (boxE x.k x.j x.v x.t x.c)) :
    Calls Try.prog 105 (#[y.val] ++ #[.pointer (some ⟨eb, 0, none⟩)]) W fun e w' => e = .returned (.bool (y.i == x.j)) ∧ Below W.heap.size W w' := by
  have hlt := heap_lt h
  have hne : eb ≠ W.heap.size := by omega
  have c0 : ∀ i, W.cell? ⟨eb, i, none⟩ = #[Value.int .i64 x.k, .int .i64 x.j, .int .i64 x.v, .int .i64 x.t, .int .i64 x.c][i]? := fun i => Joins.cell_of_block h i
  show Calls Try.prog 105 #[y.val, .pointer (some ⟨eb, 0, none⟩)] W _
  go_enter Try.func105, Try.ntmps105
  go_wp2
  all_goals (go_ret; exact ⟨by simp_all, grew (Below.refl _ _) _⟩)

/-- A book that lies in blocks of its own: its head, its jobs, its rings. -/
structure Own (w : World) (ab gj gr : Nat) (js : List Jb) (rs : List Rg) : Prop where
  head : w.heap[ab]? = some (boxB (.slice (some ⟨gj, 0, none⟩) js.length js.length) (.slice (some ⟨gr, 0, none⟩) rs.length rs.length))
  jobs : w.heap[gj]? = some (.cells (js.flatMap Jb.cells).toArray 64)
  rungs : w.heap[gr]? = some (.cells (rs.flatMap Rg.cells).toArray 91)

theorem Own.ne1 {w : World} {ab gj gr : Nat} {js : List Jb} {rs : List Rg} (h : Own w ab gj gr js rs) : ab ≠ gj := fun e => by
  have h1 := h.head
  have h2 := h.jobs
  rw [e, h2] at h1
  injection h1 with h1
  injection h1 with _ h1 _
  revert h1
  decide

theorem Own.ne2 {w : World} {ab gj gr : Nat} {js : List Jb} {rs : List Rg} (h : Own w ab gj gr js rs) : ab ≠ gr := fun e => by
  have h1 := h.head
  have h2 := h.rungs
  rw [e, h2] at h1
  injection h1 with h1
  injection h1 with _ h1 _
  revert h1
  decide

theorem Own.ne3 {w : World} {ab gj gr : Nat} {js : List Jb} {rs : List Rg} (h : Own w ab gj gr js rs) : gj ≠ gr := fun e => by
  have h1 := h.jobs
  have h2 := h.rungs
  rw [e, h2] at h1
  injection h1 with h1
  injection h1 with _ h1 _
  revert h1
  decide

theorem Own.later {w w' : World} {ab gj gr : Nat} {js : List Jb} {rs : List Rg} (h : Own w ab gj gr js rs) (hb : Below w.heap.size w w') : Own w' ab gj gr js rs :=
  ⟨heap_below h.head hb (heap_lt h.head), heap_below h.jobs hb (heap_lt h.jobs), heap_below h.rungs hb (heap_lt h.rungs)⟩

theorem Own.sj {w : World} {ab gj gr : Nat} {js : List Jb} {rs : List Rg} (h : Own w ab gj gr js rs) : JobSl w (.slice (some ⟨gj, 0, none⟩) js.length js.length) js := slOf_block Jb.three h.jobs ⟨[], by simp⟩

theorem Own.sr {w : World} {ab gj gr : Nat} {js : List Jb} {rs : List Rg} (h : Own w ab gj gr js rs) : RungSl w (.slice (some ⟨gr, 0, none⟩) rs.length rs.length) rs := slOf_block Rg.three h.rungs ⟨[], by simp⟩

/-- What put, drop, ring leave: the book at this head, all but its head and its jobs as it was. -/
structure Left (w w' : World) (ab : Nat) (S : List Nat) (js : List Jb) (rs : List Rg) (u1 u2 : Value) : Prop where
  head : w'.heap[ab]? = some (boxB u1 u2)
  jobs : JobSl w' u1 js
  rungs : RungSl w' u2 rs
  room : Roomy u2
  kept : Kept S w w'
  tj : Typed 64 w' u1
  tr : Typed 91 w' u2

theorem Own.tj {w : World} {ab gj gr : Nat} {js : List Jb} {rs : List Rg} (h : Own w ab gj gr js rs) (n c : Nat) : Typed 64 w (.slice (some ⟨gj, 0, none⟩) n c) := typed_block h.jobs _ _ _

theorem Own.tr {w : World} {ab gj gr : Nat} {js : List Jb} {rs : List Rg} (h : Own w ab gj gr js rs) (n c : Nat) : Typed 91 w (.slice (some ⟨gr, 0, none⟩) n c) := typed_block h.rungs _ _ _

set_option maxHeartbeats 2000000 in
theorem drop_any (x : En) (ab gj gr : Nat) (js : List Jb) (rs : List Rg) (w : World) (h : Own w ab gj gr js rs) (hn : js.length ≤ 6) :
    Calls Try.prog 90 #[.pointer (some ⟨ab, 0, none⟩), x.val] w fun e w' => e = .returned (.tuple #[]) ∧ ∃ u1 u2, Left w w' ab [ab, gj] (js.filter fun y => !(y.i == x.j)) rs u1 u2 := by
  have n1 := h.ne1
  have n3 := h.ne3
  have n2 := h.ne2
  have hB := grew (Below.refl w.heap.size w) (boxE x.k x.j x.v x.t x.c)
  have h' := h.later hB
  have eg : ∀ args w, (callFunc 105 args).run Try.prog w = .ok (.enter 105 args) w := enters_of Try.func105 (by kernel_rfl) rfl
  have hdel := delJ (fun y => y.i == x.j) 105 #[.pointer (some ⟨w.heap.size, 0, none⟩)] eg w.heap.size _ gj js.length js _ (by have := heap_lt h.jobs; omega) (heap_new w (boxE x.k x.j x.v x.t x.c)) h'.jobs (by omega) (Nat.le_refl _) (fun W y hW => drop_pred x w.heap.size W y hW)
  have x1 := h'.head
  have hal := heap_lt h.head
  have HA : Aside (Own (w.alloc (boxE x.k x.j x.v x.t x.c)) ab gj gr js rs) := h'
  have y1 : ∀ i, (w.alloc (boxE x.k x.j x.v x.t x.c)).cell? ⟨ab, i, none⟩ = #[Value.slice (some ⟨gj, 0, none⟩) js.length js.length, .slice (some ⟨gr, 0, none⟩) rs.length rs.length][i]? := fun i => Joins.cell_of_block x1 i
  have yw : ∀ i, w.cell? ⟨ab, i, none⟩ = #[Value.slice (some ⟨gj, 0, none⟩) js.length js.length, .slice (some ⟨gr, 0, none⟩) rs.length rs.length][i]? := fun i => Joins.cell_of_block h.head i
  have hane : ab ≠ w.heap.size := by omega
  obtain ⟨n, hnn⟩ : ∃ n, Hid (js.length = n) := ⟨_, rfl⟩
  obtain ⟨m, hmm⟩ : ∃ m, Hid (rs.length = m) := ⟨_, rfl⟩
  rw [hnn.out, hmm.out] at y1 yw
  rw [hnn.out] at hdel hn
  obtain ⟨F, hF⟩ : ∃ F, Hid (js.filter (fun y => !(y.i == x.j)) = F) := ⟨_, rfl⟩
  rw [hF.out] at hdel ⊢
  clear h h' x1 hB
  go_enter Try.func90, Try.ntmps90
  go_wp2_with fail
  refine hdel.mono ?_
  rintro e w1 ⟨rfl, ⟨J1, T1⟩, K1⟩
  have hA1 : w1.heap[ab]? = some (boxB (.slice (some ⟨gj, 0, none⟩) n n) (.slice (some ⟨gr, 0, none⟩) m m)) := by
    rw [← hnn.out, ← hmm.out]
    exact K1.old HA.out.head (by simpa using n1)
  have T2 : Aside (Typed 64 (w1.setCell ⟨ab, 0, none⟩ (.slice (some ⟨gj, 0, none⟩) F.length n)) (.slice (some ⟨gj, 0, none⟩) F.length n) ∧ Typed 91 (w1.setCell ⟨ab, 0, none⟩ (.slice (some ⟨gj, 0, none⟩) F.length n)) (.slice (some ⟨gr, 0, none⟩) m m)) :=
    ⟨T1.setCell _ _ _, (typed_block (K1.old HA.out.rungs (by simpa using Ne.symm n3)) _ _ _).setCell _ _ _⟩
  have R1 : RungSl w1 (.slice (some ⟨gr, 0, none⟩) m m) rs := by
    rw [← hmm.out]
    exact slOf_block Rg.three (K1.old HA.out.rungs (by simpa using Ne.symm n3)) ⟨[], by simp⟩
  have z1 : ∀ i, w1.cell? ⟨ab, i, none⟩ = #[Value.slice (some ⟨gj, 0, none⟩) n n, .slice (some ⟨gr, 0, none⟩) m m][i]? := fun i => Joins.cell_of_block hA1 i
  have f1 : ∀ i, w1.frozen? ⟨ab, i, none⟩ = false := fun i => Joins.unfrozen_of_block hA1 i
  have hA2 := Joins.block_setCell (i := 0) hA1 (.slice (some ⟨gj, 0, none⟩) F.length n)
  have J2 : Aside (JobSl (w1.setCell ⟨ab, 0, none⟩ (.slice (some ⟨gj, 0, none⟩) F.length n)) (.slice (some ⟨gj, 0, none⟩) F.length n) F) := sl_beside J1 n1 _
  have R2 : Aside (RungSl (w1.setCell ⟨ab, 0, none⟩ (.slice (some ⟨gj, 0, none⟩) F.length n)) (.slice (some ⟨gr, 0, none⟩) m m) rs) := sl_beside R1 n2 _
  have K2 : Aside (Kept [ab, gj] w (w1.setCell ⟨ab, 0, none⟩ (.slice (some ⟨gj, 0, none⟩) F.length n))) := by
    have k0 : Kept [ab, gj] w w1 := by
      have ka := grew (Below.refl w.heap.size w) (boxE x.k x.j x.v x.t x.c)
      exact ⟨K1.os, K1.tape, K1.output, Nat.le_trans ka.size K1.size, fun k hk hS => (K1.block k (Nat.lt_of_lt_of_le hk ka.size) (by simp at hS ⊢; exact hS.2)).trans (ka.block k hk)⟩
    exact k0.setCell (by simp) _
  replace hA2 : Aside _ := hA2
  clear hdel J1 R1 K1 hA1 HA y1 yw T1
  go_wp2
  exact bodyPost_end (v := .tuple #[]) (by simp [results, go_sem]) rfl ⟨rfl, _, _, ⟨hA2.out, J2.out, R2.out, ⟨_, _, _, rfl, Nat.le_refl _⟩, K2.out, T2.out.1, T2.out.2⟩⟩

end Go.Proofs.Ytbokdcdnandgbae
namespace Go.Proofs.Ytbokdcdnandgbae
open Go.RowKit Go.Shelf

theorem owns_of_block {w : World} {base gb : Nat} {js : List Jb} (hb : base ≤ gb) (hg : w.heap[gb]? = some (.cells (js.flatMap Jb.cells).toArray 64)) (hn : js.length ≤ 1000000) :
    w.ownsRow base 64 3 (.slice (some ⟨gb, 0, none⟩) js.length js.length) js.length (js.flatMap Jb.cells) := by
  have hl := row_len Jb.three js
  refine ⟨hl, .inr ⟨gb, js.length, _, rfl, hb, hg, Nat.le_refl _, by unfold maxLen; omega, by simpa using hl, ?_⟩⟩
  exact List.take_of_length_le (by simpa using Nat.le_of_eq hl)

set_option maxHeartbeats 2000000 in
theorem insEnd (z : Jb) (gb vb : Nat) (js : List Jb) (w : World) (hg : w.heap[gb]? = some (.cells (js.flatMap Jb.cells).toArray 64)) (hv : w.heap[vb]? = some (.cells #[.int .i64 z.i, .int .i64 z.e, .int .i64 z.n] 64)) (hn : js.length ≤ 6) :
    Calls Try.prog 104 #[.slice (some ⟨gb, 0, none⟩) js.length js.length, .int .i64 js.length, .slice (some ⟨vb, 0, none⟩) 1 1] w fun e w' => ∃ u, e = .returned u ∧ (JobSl w' u (js ++ [z]) ∧ Typed 64 w' u) ∧ Kept [gb] w w' := by
  obtain ⟨i0, hi, hz0, hz1, hz2⟩ := info_parts infoJ
  have hown := owns_of_block (base := gb) (Nat.le_refl _) hg (by omega)
  have hgl := heap_lt hg
  have hl : (js ++ [z]).length = js.length + 1 := by simp
  have hfl : (js ++ [z]).flatMap Jb.cells = js.flatMap Jb.cells ++ z.cells := by simp
  have hnews : ∀ j u, z.cells[j]? = some u → w.cell? ((⟨vb, 0, none⟩ : Addr).add j) = some u := fun j u hj => by
    rw [Lib.add_plain, Joins.cell_of_block hv, Nat.zero_add]
    simpa [Jb.cells] using hj
  have hone : ∀ u ∈ z.cells, u.oneCell' = true := fun u hu => oneJ [z] u (by simpa using hu)
  have HL : Aside (∀ v' w', w'.ownsRow gb 64 3 v' (js.length + 1) (js.flatMap Jb.cells ++ z.cells) → JobSl w' v' (js ++ [z]) ∧ Typed 64 w' v') := fun v' w' h => by
    rw [← hl, ← hfl] at h
    exact ⟨slOf_of_owns Jb.three h, typed_owns h⟩
  obtain ⟨n, hnn⟩ : ∃ n, Hid (js.length = n) := ⟨_, rfl⟩
  rw [hnn.out] at hown hn HL ⊢
  obtain ⟨fl, hff⟩ : ∃ fl, Hid (js.flatMap Jb.cells = fl) := ⟨_, rfl⟩
  rw [hff.out] at hown HL
  have hzl : z.cells.length = 1 * 3 := rfl
  generalize z.cells = zc at *
  clear hg hv hl hfl
  go_enter Try.func104, Try.ntmps104
  go_wp2_with (at_builtin; refine wpList_append_own _ rfl _ _ 42 rfl gb 64 i0 (valJ 0 0 0) 3 24 Try.underlying42 hi hz0 hz1 hz2 rfl (by decide) (.slice (some ⟨gb, 0, none⟩) n n) n fl rfl hown ⟨vb, 0, none⟩ 1 1 zc rfl hzl hnews hone (by unfold maxLen; omega) (by omega) (by omega) ?_)
  intro v' w' hown' hgrow hiff
  have J : Aside (JobSl w' v' (js ++ [z]) ∧ Typed 64 w' v') := HL.out v' w' hown'
  have K : Aside (Kept [gb] w w') := ⟨hgrow.os, hgrow.tape, hgrow.output, hgrow.size, fun k hk hS => hgrow.block k hk (fun e => hS (by simp [Value.ownBlock] at e; simp [e]))⟩
  clear hown' hgrow hiff hown hnews hone hi hz0 hz1 hz2
  go_wp2
  go_ret
  exact ⟨_, rfl, J.out, K.out⟩

theorem splice_two {α : Type} {A Z B C : List α} {a b : Nat} (ha : A.length = a) (hb : B.length = b) : splice (splice (A ++ Z) a B) (a + b) C = A ++ B ++ C ++ Z.drop (b + C.length) := by
  subst ha hb
  have e1 : splice (A ++ Z) A.length B = A ++ B ++ Z.drop B.length := by
    simp [splice, List.drop_append]
  rw [e1]
  have e2 : (A ++ B ++ Z.drop B.length).take (A.length + B.length) = A ++ B := List.take_left' (by simp)
  have e3 : (A ++ B ++ Z.drop B.length).drop (A.length + B.length + C.length) = Z.drop (B.length + C.length) := by
    rw [← List.drop_drop, List.drop_left' (by simp), List.drop_drop]
  rw [splice, e2, e3]
  simp

set_option maxHeartbeats 4000000 in
set_option maxRecDepth 100000 in
theorem insMid (z : Jb) (gb vb k : Nat) (js : List Jb) (w : World) (hk : k < js.length) (hg : w.heap[gb]? = some (.cells (js.flatMap Jb.cells).toArray 64)) (hv : w.heap[vb]? = some (.cells #[.int .i64 z.i, .int .i64 z.e, .int .i64 z.n] 64)) (hn : js.length ≤ 6) :
    Calls Try.prog 104 #[.slice (some ⟨gb, 0, none⟩) js.length js.length, .int .i64 k, .slice (some ⟨vb, 0, none⟩) 1 1] w fun e w' => ∃ u, e = .returned u ∧ (JobSl w' u (js.take k ++ z :: js.drop k) ∧ Typed 64 w' u) ∧ Kept [gb] w w' := by
  obtain ⟨i0, hi, hz0, hz1, hz2⟩ := info_parts infoJ
  have hgl := heap_lt hg
  have hvl := heap_lt hv
  obtain ⟨n, hnn⟩ : ∃ n, Hid (js.length = n) := ⟨_, rfl⟩
  have h1 : ((js.take k).flatMap Jb.cells).length = k * 3 := by rw [row_len Jb.three, List.length_take]; congr 1; omega
  have h2 : ((js.drop k).flatMap Jb.cells).length = (n - k) * 3 := by rw [row_len Jb.three, List.length_drop, hnn.out]
  have hrow : RowAt Jb.cells 3 w gb 0 js := rowAt_block Jb.three hg ⟨[], by simp⟩
  have hc1 := rows_flat Jb.three (js.take k) 0 (hrow.take k)
  have hc2 := rows_flat Jb.three (js.drop k) (0 + k * 3) (hrow.drop k)
  have ho1 := oneJ (js.take k)
  have ho2 := oneJ (js.drop k)
  have hoz : ∀ u ∈ z.cells, u.oneCell' = true := fun u hu => oneJ [z] u (by simpa using hu)
  have hzc : ∀ j u, z.cells[j]? = some u → w.cell? ⟨vb, 0 + j, none⟩ = some u := fun j u hj => by
    rw [Joins.cell_of_block hv, Nat.zero_add]
    simpa [Jb.cells] using hj
  have hzl : z.cells.length = 3 := rfl
  have hfin : Aside (∀ (u : Nat) (w' : World) (t : List Value) (c : Nat), w'.heap[u]? = some (.cells ((js.take k).flatMap Jb.cells ++ z.cells ++ (js.drop k).flatMap Jb.cells ++ t).toArray 64) → JobSl w' (.slice (some ⟨u, 0, none⟩) (n + 1) c) (js.take k ++ z :: js.drop k) ∧ Typed 64 w' (.slice (some ⟨u, 0, none⟩) (n + 1) c)) := fun u w' t c h => by
    have := slOf_block (c := c) Jb.three (xs := js.take k ++ z :: js.drop k) h ⟨t, by simp⟩
    rw [show (js.take k ++ z :: js.drop k).length = n + 1 by rw [← hnn.out]; simp; omega] at this
    exact ⟨this, typed_block h _ _ _⟩
  rw [hnn.out] at hk hn ⊢
  generalize (js.take k).flatMap Jb.cells = A at *
  generalize (js.drop k).flatMap Jb.cells = C at *
  generalize z.cells = Bz at *
  obtain ⟨q, hq⟩ : ∃ q, n + 1 = k + q := ⟨n + 1 - k, by omega⟩
  have hold : (Builtin.firstCells i0.size k (.slice (some ⟨gb, 0, none⟩) k n)).run Try.prog w.drew = .ok A.toArray w.drew := by
    rw [hz1]
    exact run_firstCells_some w.drew 3 k ⟨gb, 0, none⟩ k n A h1 (fun j v hj => by rw [Lib.add_plain]; exact hc1 j v hj)
  obtain ⟨G, Z, W1, hrun, hW1, hZ, hB1, hG⟩ : ∃ (G : Nat) (Z : List Value) (W1 : World), (∀ ty, (Builtin.append_ #[42, 3] ty #[.slice (some ⟨gb, 0, none⟩) k n, .int .i64 (q : Nat)]).run Try.prog w = .ok (.slice (some ⟨w.heap.size, 0, none⟩) (n + 1) G) W1) ∧ W1.heap[w.heap.size]? = some (.cells (A ++ Z).toArray 64) ∧ q * 3 ≤ Z.length ∧ Below w.heap.size w W1 ∧ n + 1 ≤ G := by
    have hr := fun ty => Lib.run_append_grow_zeros (P := Try.prog) w 42 3 ty 64 i0 (valJ 0 0 0) .i64 .i64 Try.underlying42 Try.underlying3 hi hz0 (some ⟨gb, 0, none⟩) k n A hold q (by omega) (by omega) (by omega) (by omega) (by rw [hz2]; omega) (growslice_fits (by omega) (by rw [hz2]; omega))
    rw [← hq] at hr
    refine ⟨_, (Builtin.zeroCells (valJ 0 0 0).cells q).toList ++ (Builtin.zeroCells (valJ 0 0 0).cells (grownCap w (n + 1) n 64 - (n + 1))).toList, _, hr, ?_, ?_, grew (Below.refl w.heap.size w).drew _, grownCap_ge _ _ _ _⟩
    · have := heap_new w.drew (.cells (A.toArray ++ Builtin.zeroCells (valJ 0 0 0).cells q ++ Builtin.zeroCells (valJ 0 0 0).cells (grownCap w (n + 1) n 64 - (n + 1))) 64)
      rw [show w.drew.heap.size = w.heap.size from rfl] at this
      rw [this]
      congr 2
      apply Array.toList_inj.1
      simp
    · rw [List.length_append, zerosJ]; omega
  have hCl : C.length = (q - 1) * 3 := by rw [h2]; congr 1; omega
  have hsp := splice_two (Z := Z) (C := C) h1 hzl
  rw [show k * 3 + 3 = (k + 1) * 3 by omega] at hsp
  have hmin1 : Bz.length = Nat.min 1 q * 3 := by
    rw [hzl]; show 3 = min 1 q * 3; omega
  have hmin2 : C.length = Nat.min (n - k) (q - 1) * 3 := by
    rw [h2]; show _ = min (n - k) (q - 1) * 3; congr 1; omega
  have hAl : (A ++ Z).length = k * 3 + Z.length := by rw [List.length_append, h1]
  have hS1 : (splice (A ++ Z) (k * 3) Bz).length = (A ++ Z).length := length_splice _ _ _ (by rw [hAl, hzl]; omega)
  have hpos1 : 0 < Nat.min 1 q → (some ⟨w.heap.size, k * 3, none⟩ : Option Addr) = some ⟨w.heap.size, k * 3, none⟩ ∧ ∃ ad, (some ⟨vb, 0, none⟩ : Option Addr) = some ad ∧ ∀ j v, Bz[j]? = some v → W1.cell? (ad.add j) = some v := fun _ => ⟨rfl, _, rfl, fun j v hj => by rw [Lib.add_plain]; exact cell_later hB1 (hzc j v hj)⟩
  have hfit1 : k * 3 + Bz.length ≤ (A ++ Z).length := by rw [hAl, hzl]; omega
  have hfit2 : (k + 1) * 3 + C.length ≤ (splice (A ++ Z) (k * 3) Bz).length := by rw [hS1, hAl, hCl]; omega
  have hfin' : Aside (∀ w' : World, w'.heap[w.heap.size]? = some (.cells (splice (splice (A ++ Z) (k * 3) Bz) ((k + 1) * 3) C).toArray 64) → JobSl w' (.slice (some ⟨w.heap.size, 0, none⟩) (k + q) G) (js.take k ++ z :: js.drop k) ∧ Typed 64 w' (.slice (some ⟨w.heap.size, 0, none⟩) (k + q) G)) := fun w' h => by
    rw [hsp] at h
    rw [← hq]
    exact hfin.out _ w' _ G h
  have hc2' : Aside (∀ (w' : World), Below w.heap.size w w' → ∀ j u, C[j]? = some u → w'.cell? ((⟨gb, k * 3, none⟩ : Addr).add j) = some u) := fun w' hb j u hj => by
    rw [Lib.add_plain]
    have := hc2 j u hj
    rw [Nat.zero_add] at this
    exact cell_later hb this
  clear hold hi hz0 hz1 hz2 hc1 hc2 hzc hrow hsp hfin hg hv h1 h2 hAl hCl hS1 ho1 hzl
  generalize A ++ Z = L0 at *
  obtain ⟨L1, hL1⟩ : ∃ L1, Hid (splice L0 (k * 3) Bz = L1) := ⟨_, rfl⟩
  rw [hL1.out] at hfit2 hfin'
  clear hZ
  have hqi : (n : Int) + 1 - (k : Int) = (q : Int) := by omega
  have hne0 : ((k : Int) == (n : Int)) = false := by rw [beq_eq_false_iff_ne]; omega
  go_enter Try.func104, Try.ntmps104
  go_wp2_with (first
    | (at_builtin; refine Lib.wpList_append_run _ rfl _ _ 42 3 rfl _ _ rfl rfl _ _ (hrun _) ?_)
    | ((with_reducible show wpList _ _ _ (Oper.mk (some 45) _ _ _ _ _ :: _) _ _); refine wpList_copyK rfl _ _ 42 42 rfl 64 3 Try.underlying42 sizeJ (some ⟨w.heap.size, k * 3, none⟩) (some ⟨vb, 0, none⟩) q (G - k) 1 1 rfl rfl w.heap.size (k * 3) L0 64 hW1 Bz hmin1 hpos1 hfit1 hoz w.heap.size w hB1 (Nat.le_refl _) ?_))
  intro w2 hg2 hB2
  have hg2' : w2.heap[w.heap.size]? = some (.cells L1.toArray 64) := by rw [← hL1.out]; exact hg2.out
  have hB2' := hB2.drew
  have hq1 : k + q - (k + 1) = q - 1 := by omega
  have hk1 : (k : Int) + 1 ≤ (k : Int) + (q : Int) := by omega
  have hk2 : (k : Int) + (q : Int) ≤ (G : Int) := by omega
  have hk3 : (0 : Int) ≤ (k : Int) + 1 := by omega
  have hwr : IntKind.i64.wrap ((k : Int) + 1) = (k : Int) + 1 := by rw [IntKind.wrap_i64]; omega
  have hG1 : ¬ G = k + 1 := by omega
  have hnk : ¬ n = k := by omega
  have hkn : k ≤ n := by omega
  go_wp2_with fail
  go_region_law ((refine step_copyK rfl _ _ 42 42 rfl 64 3 Try.underlying42 sizeJ (some ⟨w.heap.size, (k + 1) * 3, none⟩) (some ⟨gb, k * 3, none⟩) (q - 1) (G - (k + 1)) (n - k) (n - k) (by simp [Act.eval, Act.put]) (by simp [Act.eval, Act.put]) w.heap.size ((k + 1) * 3) L1 64 hg2' C hmin2 (fun _ => ⟨rfl, _, rfl, hc2'.out _ hB2'⟩) hfit2 ho2 w.heap.size w hB2' (Nat.le_refl _) ?_; intro w3 hg3 hB3))
  all_goals
    go_wp2
    go_ret
    exact ⟨_, rfl, hfin'.out _ hg3.out, (Kept.refl _ _).below hB3⟩

end Go.Proofs.Ytbokdcdnandgbae
namespace Go.Proofs.Ytbokdcdnandgbae
open Go.RowKit Go.Shelf

set_option maxHeartbeats 1000000 in
theorem put_pred (x : En) (eb : Nat) (W : World) (y : Jb) (h : W.heap[eb]? = some (boxE x.k x.j x.v x.t x.c)) :
    Calls Try.prog 103 (#[y.val] ++ #[.pointer (some ⟨eb, 0, none⟩)]) W fun e w' => e = .returned (.bool (decide (x.j < y.i))) ∧ Below W.heap.size W w' := by
  have hlt := heap_lt h
  have hne : eb ≠ W.heap.size := by omega
  have c0 : ∀ i, W.cell? ⟨eb, i, none⟩ = #[Value.int .i64 x.k, .int .i64 x.j, .int .i64 x.v, .int .i64 x.t, .int .i64 x.c][i]? := fun i => Joins.cell_of_block h i
  show Calls Try.prog 103 #[y.val, .pointer (some ⟨eb, 0, none⟩)] W _
  go_enter Try.func103, Try.ntmps103
  go_wp2
  all_goals (go_ret; exact ⟨by simp_all, grew (Below.refl _ _) _⟩)

/-- What put and ring read first: the book's head and the entry's box. -/
abbrev Reads (W w : World) (ab gj gr eb n m : Nat) (x : En) : Prop :=
  Below W.heap.size W w ∧ w.cell? ⟨ab, 0, none⟩ = some (.slice (some ⟨gj, 0, none⟩) n n) ∧ w.cell? ⟨ab, 1, none⟩ = some (.slice (some ⟨gr, 0, none⟩) m m) ∧ w.cell? ⟨eb, 1, none⟩ = some (.int .i64 x.j)

theorem reads_below {W w : World} {ab gj gr eb n m : Nat} {x : En} (h : Reads W w ab gj gr eb n m x) : Below W.heap.size W w := h.1

theorem reads_step {W w w' : World} {ab gj gr eb n m : Nat} {x : En} (h : Reads W w ab gj gr eb n m x) (hb : Below w.heap.size w w') : Reads W w' ab gj gr eb n m x :=
  ⟨h.1.trans (hb.mono h.1.size), cell_later hb h.2.1, cell_later hb h.2.2.1, cell_later hb h.2.2.2⟩

set_option maxHeartbeats 2000000 in
/-- put, where the job is there. -/
theorem put_there (x : En) (ab gj gr : Nat) (js : List Jb) (rs : List Rg) (w : World) (h : Own w ab gj gr js rs) (hn : js.length ≤ 6) (hj : 0 ≤ jobAt js x.j) :
    Calls Try.prog 89 #[.pointer (some ⟨ab, 0, none⟩), x.val] w fun e w' => e = .returned (.tuple #[]) ∧ ∃ u1 u2, Left w w' ab [ab, gj] js rs u1 u2 := by
  have hB := grew (Below.refl w.heap.size w) (boxE x.k x.j x.v x.t x.c)
  have h' := h.later hB
  obtain ⟨n, hnn⟩ : ∃ n, Hid (js.length = n) := ⟨_, rfl⟩
  obtain ⟨m, hmm⟩ : ∃ m, Hid (rs.length = m) := ⟨_, rfl⟩
  have hS0 : Reads (w.alloc (boxE x.k x.j x.v x.t x.c)) (w.alloc (boxE x.k x.j x.v x.t x.c)) ab gj gr w.heap.size n m x := by
    refine ⟨Below.refl _ _, ?_, ?_, ?_⟩
    · rw [Joins.cell_of_block h'.head, ← hnn.out]; rfl
    · rw [Joins.cell_of_block h'.head, ← hmm.out]; rfl
    · rw [Joins.cell_of_block (heap_new _ _)]; rfl
  have hfind := fun (W : World) (hb : Below (w.alloc (boxE x.k x.j x.v x.t x.c)).heap.size (w.alloc (boxE x.k x.j x.v x.t x.c)) W) => find_any (.slice (some ⟨gj, 0, none⟩) js.length js.length) (.slice (some ⟨gr, 0, none⟩) rs.length rs.length) js x.j W (h'.sj.later hb) (by unfold most; omega)
  rw [hnn.out, hmm.out] at hfind
  have HO : Aside (Own w ab gj gr js rs ∧ Below w.heap.size w (w.alloc (boxE x.k x.j x.v x.t x.c))) := ⟨h, hB⟩
  generalize jobAt js x.j = r at *
  clear h h' hB
  go_enter Try.func89, Try.ntmps89
  go_wp2_with fail
  generalize w.alloc (boxE x.k x.j x.v x.t x.c) = W0 at *
  have hbd : Below W0.heap.size W0 W0.drew := (Below.refl _ _).drew
  go_region_held3 (fun w' => Reads W0 w' ab gj gr w.heap.size n m x) (exact reads_step (by assumption) (by assumption)) (first | (go_at_call 102; refine (hfind _ (reads_below (by assumption))).mono ?_; rintro e w' ⟨rfl, hb'⟩))
  all_goals
    rename_i hS
    have hB := HO.out.2.trans (hS.1.mono HO.out.2.size)
    have HR : Aside (Below w.heap.size w _) := hB
    clear hS0 hS hfind hbd hB
    go_wp2
    refine bodyPost_ret (v := .tuple #[]) (by simp [results, go_sem]) rfl ⟨rfl, _, _, ⟨(HO.out.1.later HR.out).head, (HO.out.1.later HR.out).sj, (HO.out.1.later HR.out).sr, ⟨_, _, _, rfl, Nat.le_refl _⟩, (Kept.refl _ _).below HR.out, (HO.out.1.later HR.out).tj _ _, (HO.out.1.later HR.out).tr _ _⟩⟩

/-- slices.Insert at a full row of jobs: in their midst or at their end. -/
theorem insJ (z : Jb) (gb vb k : Nat) (js : List Jb) (w : World) (hk : k ≤ js.length) (hg : w.heap[gb]? = some (.cells (js.flatMap Jb.cells).toArray 64)) (hv : w.heap[vb]? = some (.cells #[.int .i64 z.i, .int .i64 z.e, .int .i64 z.n] 64)) (hn : js.length ≤ 6) :
    Calls Try.prog 104 #[.slice (some ⟨gb, 0, none⟩) js.length js.length, .int .i64 k, .slice (some ⟨vb, 0, none⟩) 1 1] w fun e w' => ∃ u, e = .returned u ∧ (JobSl w' u (js.take k ++ z :: js.drop k) ∧ Typed 64 w' u) ∧ Kept [gb] w w' := by
  rcases Nat.lt_or_eq_of_le hk with hk | rfl
  · exact insMid z gb vb k js w hk hg hv hn
  · rw [List.take_length, List.drop_length]
    exact insEnd z gb vb js w hg hv hn

theorem kept_of_below {S : List Nat} {w w' : World} (h : Below w.heap.size w w') : Kept S w w' := (Kept.refl S w).below h

theorem Kept.trans {S S' : List Nat} {a b c : World} (h : Kept S a b) (h' : Kept S' b c) (hs : ∀ k, k ∈ S' → k ∈ S) : Kept S a c :=
  ⟨h'.os.trans h.os, h'.tape.trans h.tape, h'.output.trans h.output, Nat.le_trans h.size h'.size, fun k hk hS => (h'.block k (Nat.lt_of_lt_of_le hk h.size) (fun e => hS (hs k e))).trans (h.block k hk hS)⟩

theorem Kept.more {S S' : List Nat} {a b : World} (h : Kept S a b) (hs : ∀ k, k ∈ S → k ∈ S') : Kept S' a b :=
  ⟨h.os, h.tape, h.output, h.size, fun k hk hS => h.block k hk (fun e => hS (hs k e))⟩

/-- Where a new job goes. -/
def place (js : List Jb) (i : Int) : Nat := if idx (fun y => decide (i < y.i)) js < 0 then js.length else (idx (fun y => decide (i < y.i)) js).toNat

theorem place_le (js : List Jb) (i : Int) : place js i ≤ js.length := by
  unfold place
  rcases idx_ways (fun y : Jb => decide (i < y.i)) js with ⟨h, _⟩ | ⟨k, x, h, hk, _⟩
  · rw [h]; simp
  · rw [h, if_neg (by omega)]; simp; omega

/-- What put's last statement reads of the entry. -/
abbrev PutS (w : World) (eb : Nat) (x : En) : Prop :=
  w.cell? ⟨eb, 1, none⟩ = some (.int .i64 x.j) ∧ w.cell? ⟨eb, 2, none⟩ = some (.int .i64 x.v) ∧ w.cell? ⟨eb, 3, none⟩ = some (.int .i64 x.t)

theorem putS_step {w w' : World} {eb : Nat} {x : En} (h : PutS w eb x) (hb : Below w.heap.size w w') : PutS w' eb x :=
  ⟨cell_later hb h.1, cell_later hb h.2.1, cell_later hb h.2.2⟩

theorem putS_new {w : World} {eb : Nat} {x : En} {o : Obj} (h : PutS w eb x) : PutS (w.alloc o) eb x := putS_step h (grew (Below.refl _ _) o)

theorem putS_of {w : World} {eb : Nat} {x : En} (h : w.heap[eb]? = some (boxE x.k x.j x.v x.t x.c)) : PutS w eb x :=
  ⟨by rw [Joins.cell_of_block h]; rfl, by rw [Joins.cell_of_block h]; rfl, by rw [Joins.cell_of_block h]; rfl⟩

theorem putS_set {w : World} {eb ab o : Nat} {x : En} {v : Value} (hne : ab ≠ eb) (h : PutS w eb x) : PutS (w.setCell ⟨ab, o, none⟩ v) eb x := by
  have hc : ∀ i, (w.setCell ⟨ab, o, none⟩ v).cell? ⟨eb, i, none⟩ = w.cell? ⟨eb, i, none⟩ := fun i => World.cell?_of_block (Below.heap_setCell _ _ _ _ (by exact fun e => hne e.symm))
  exact ⟨(hc 1).trans h.1, (hc 2).trans h.2.1, (hc 3).trans h.2.2⟩

/-- What is known behind Insert, in put. -/
theorem ins_left (z : Jb) (x : En) (eb ab gj gr vb k n m : Nat) (js J' : List Jb) (rs : List Rg) (w W : World) (hn : js.length = n) (hm : rs.length = m) (hk : k ≤ n) (hn6 : n ≤ 6) (hJ : js.take k ++ z :: js.drop k = J') (hO : Own W ab gj gr js rs) (hb : Below w.heap.size w W) (hE : W.heap[eb]? = some (boxE x.k x.j x.v x.t x.c)) (hne : eb ≠ gj)
    (hv : W.heap[vb]? = some (.cells #[.int .i64 z.i, .int .i64 z.e, .int .i64 z.n] 64)) :
    Calls Try.prog 104 #[.slice (some ⟨gj, 0, none⟩) n n, .int .i64 k, .slice (some ⟨vb, 0, none⟩) 1 1] W fun e w3 => ∃ a c, e = .returned (.slice a J'.length c) ∧
      (∀ i, w3.cell? ⟨ab, i, none⟩ = #[Value.slice (some ⟨gj, 0, none⟩) n n, .slice (some ⟨gr, 0, none⟩) m m][i]?) ∧ (∀ i, w3.frozen? ⟨ab, i, none⟩ = false) ∧ PutS w3 eb x ∧
      Aside (w3.heap[ab]? = some (boxB (.slice (some ⟨gj, 0, none⟩) n n) (.slice (some ⟨gr, 0, none⟩) m m)) ∧ (JobSl w3 (.slice a J'.length c) J' ∧ Typed 64 w3 (.slice a J'.length c)) ∧ (RungSl w3 (.slice (some ⟨gr, 0, none⟩) m m) rs ∧ Typed 91 w3 (.slice (some ⟨gr, 0, none⟩) m m)) ∧ Kept [ab, gj] w w3) := by
  subst hn hm hJ
  refine (insJ z gj vb k js W hk hO.jobs hv hn6).mono ?_
  rintro e w3 ⟨u, rfl, J3, K3⟩
  have hA3 := K3.old hO.head (by simpa using hO.ne1)
  have R3 : RungSl w3 (.slice (some ⟨gr, 0, none⟩) rs.length rs.length) rs := slOf_block Rg.three (K3.old hO.rungs (by simpa using Ne.symm hO.ne3)) ⟨[], by simp⟩
  have K3' := ((kept_of_below (S := [ab, gj]) hb).trans K3 (fun k hk => by simp at hk; simp [hk]))
  have T3 : Typed 91 w3 (.slice (some ⟨gr, 0, none⟩) rs.length rs.length) := typed_block (K3.old hO.rungs (by simpa using Ne.symm hO.ne3)) _ _ _
  obtain ⟨⟨a3, c3, rfl, hcase⟩, TJ⟩ := J3
  exact ⟨a3, c3, rfl, fun i => Joins.cell_of_block hA3 i, fun i => Joins.unfrozen_of_block hA3 i, putS_of (K3.old hE (by simpa using hne)), hA3, ⟨⟨a3, c3, rfl, hcase⟩, TJ⟩, ⟨R3, T3⟩, K3'⟩

/-- ..and behind the head's store. -/
theorem put_left {w w3 : World} {ab gj gr n m : Nat} {J' : List Jb} {rs : List Rg} {a : Option Addr} {c l : Nat} (n1 : ab ≠ gr) (h : w3.heap[ab]? = some (boxB (.slice (some ⟨gj, 0, none⟩) n n) (.slice (some ⟨gr, 0, none⟩) m m)) ∧ (JobSl w3 (.slice a l c) J' ∧ Typed 64 w3 (.slice a l c)) ∧ (RungSl w3 (.slice (some ⟨gr, 0, none⟩) m m) rs ∧ Typed 91 w3 (.slice (some ⟨gr, 0, none⟩) m m)) ∧ Kept [ab, gj] w w3) :
    Left w (w3.setCell ⟨ab, 0, none⟩ (.slice a l c)) ab [ab, gj] J' rs (.slice a l c) (.slice (some ⟨gr, 0, none⟩) m m) := by
  obtain ⟨h1, ⟨h2, h5⟩, ⟨h3, h6⟩, h4⟩ := h
  refine ⟨Joins.block_setCell (i := 0) h1 _, ?_, sl_beside h3 n1 _, ⟨_, _, _, rfl, Nat.le_refl _⟩, h4.setCell (by simp) _, h5.setCell _ _ _, h6.setCell _ _ _⟩
  obtain ⟨a', c', hv, hh⟩ := h2
  refine ⟨a', c', hv, ?_⟩
  rcases hh with hh | ⟨b', off, ha, hE⟩
  · exact Or.inl hh
  · refine Or.inr ⟨b', off, ha, fun j e hj i u hi => ?_⟩
    have hp : 0 < J'.length := by have := (List.getElem?_eq_some_iff.1 hj).1; omega
    have : ab ≠ b' := fun e => by
      obtain ⟨y, hy⟩ : ∃ y, J'[0]? = some y := ⟨J'[0], List.getElem?_eq_getElem hp⟩
      have h0 := hE 0 y hy 0 _ rfl
      rw [← e, Joins.cell_of_block h1] at h0
      generalize off + 0 * 3 + 0 = q at h0
      match q, h0 with
      | 0, h0 => simp at h0
      | 1, h0 => simp at h0
      | q + 2, h0 => simp at h0
    rw [World.cell?_of_block (Below.heap_setCell _ _ _ _ (by exact fun e => this e.symm))]
    exact hE j e hj i u hi

end Go.Proofs.Ytbokdcdnandgbae
