/- For the law. -/
import Derived.Test.YtmoaobfmopimlafGreatDoorM39
set_option linter.unusedSimpArgs false
set_option linter.unusedVariables false
namespace Go.Proofs.YtmoaobfmopimlafGreatDoor
open Go.RowKit
section
open Go.Shelf
theorem clear_cells {P : Program} (w : World) (t e ty : TypeId) (z : Value) (ht : P.underlying t = some (.slice e)) (hv : ∀ w, (zeroValue e).run P w = .ok z w) (g o n c : Nat) (hn : 0 < n) (cur : List Value) (T : TypeId) (hg : w.heap[g]? = some (.cells cur.toArray T (0, 0)))
  (hfit : o + (Builtin.zeroCells z.cells n).toList.length ≤ cur.length) (h1 : ∀ v ∈ (Builtin.zeroCells z.cells n).toList, v.oneCell' = true) :
  (Builtin.clear_ #[t] ty #[.slice (some ⟨g, o, none⟩) n c]).run P w = .ok (.tuple #[]) (w.setRow g (splice cur o (Builtin.zeroCells z.cells n).toList).toArray) := by
 have hst := run_storeCells_at P g o T (Builtin.zeroCells z.cells n).toList 0 cur.toArray w hg (by simpa using hfit) h1
 simp only [Nat.add_zero] at hst
 obtain ⟨m, rfl⟩ : ∃ m, n = m + 1 := ⟨n - 1, by omega⟩
 simp [Builtin.clear_, run_underlying ht, hv, hst, splice]
theorem zerosJ (n : Nat) : (Builtin.zeroCells (valJ 0 0 0).cells n).toList.length = n * 3 := by
 rw [Array.length_toList, size_zeroCells]
 rfl
theorem zerosJ_one (n : Nat) : ∀ v ∈ (Builtin.zeroCells (valJ 0 0 0).cells n).toList, v.oneCell' = true := by
 intro v hv
 have hm : v ∈ Builtin.zeroCells (valJ 0 0 0).cells n := Array.mem_toList_iff.1 hv
 rw [Builtin.zeroCells, Array.mem_map] at hm
 obtain ⟨i, _, rfl⟩ := hm
 have : ∀ k, k < 3 → (((valJ 0 0 0).cells)[k]!).oneCell' = true := by decide
 exact this _ (Nat.mod_lt _ (by decide))
structure Del (p : Jb → Bool) (js : List Jb) (i j : Nat) (R : List Jb) : Prop where
 len : ((js.take j).filter fun x => !p x).length = i
 lt : i < j
 le : j ≤ js.length
 rest : R.length = js.length - i
 tail : R.drop (j - i) = js.drop j
theorem Del.start {p : Jb → Bool} {js : List Jb} {k : Nat} {x : Jb} (hx : js[k]? = some x) (hp : p x = true) (hb : ∀ y, y ∈ js.take k → p y = false) : Del p js k (k + 1) (js.drop k) ∧ (js.take (k + 1)).filter (fun x => !p x) = js.take k := by
 have hlt := (List.getElem?_eq_some_iff.1 hx).1
 have e : (js.take (k + 1)).filter (fun x => !p x) = js.take k := by
  rw [List.take_add_one, hx, List.filter_append, List.filter_eq_self.2 (fun y hy => by simp [hb y hy])]
  simp [hp]
 refine ⟨⟨by rw [e, List.length_take]; omega, by omega, by omega, by simp, ?_⟩, e⟩
 rw [show k + 1 - k = 1 by omega, List.drop_drop]
theorem Del.keep {p : Jb → Bool} {js R : List Jb} {i j : Nat} {x : Jb} (h : Del p js i j R) (hx : js[j]? = some x) (hp : p x = false) : Del p js (i + 1) (j + 1) (R.drop 1) ∧ (js.take (j + 1)).filter (fun x => !p x) = (js.take j).filter (fun x => !p x) ++ [x] := by
 have hlt := (List.getElem?_eq_some_iff.1 hx).1
 have e : (js.take (j + 1)).filter (fun x => !p x) = (js.take j).filter (fun x => !p x) ++ [x] := by
  rw [List.take_add_one, hx, List.filter_append]
  simp [hp]
 have := h.lt
 refine ⟨⟨by rw [e, List.length_append, h.len]; rfl, by omega, by omega, by rw [List.length_drop, h.rest]; omega, ?_⟩, e⟩
 rw [List.drop_drop, show 1 + (j + 1 - (i + 1)) = (j - i) + 1 by omega, ← List.drop_drop, h.tail, List.drop_drop]
theorem Del.skip {p : Jb → Bool} {js R : List Jb} {i j : Nat} {x : Jb} (h : Del p js i j R) (hx : js[j]? = some x) (hp : p x = true) : Del p js i (j + 1) R ∧ (js.take (j + 1)).filter (fun x => !p x) = (js.take j).filter (fun x => !p x) := by
 have hlt := (List.getElem?_eq_some_iff.1 hx).1
 have e : (js.take (j + 1)).filter (fun x => !p x) = (js.take j).filter (fun x => !p x) := by
  rw [List.take_add_one, hx, List.filter_append]
  simp [hp]
 have := h.lt
 refine ⟨⟨by rw [e, h.len], by omega, by omega, h.rest, ?_⟩, e⟩
 rw [show j + 1 - i = (j - i) + 1 by omega, ← List.drop_drop, h.tail, List.drop_drop]
theorem Del.at {p : Jb → Bool} {js R : List Jb} {i j : Nat} {x : Jb} (h : Del p js i j R) (hx : js[j]? = some x) : ((js.take j).filter (fun x => !p x) ++ R)[j]? = some x := by
 have := h.lt
 rw [List.getElem?_append_right (by rw [h.len]; omega), h.len]
 have e : (R.drop (j - i))[0]? = (js.drop j)[0]? := by rw [h.tail]
 rw [List.getElem?_drop, List.getElem?_drop] at e
 simpa [hx] using e
end
section
open Go.Shelf
theorem sl_beside {α : Type} {cs : α → List Value} {k : Nat} {w : World} {b n c : Nat} {xs : List α} (h : SlOf cs k w (.slice (some ⟨b, 0, none⟩) n c) xs) {g o : Nat} (hne : g ≠ b) (v : Value) : SlOf cs k (w.setCell ⟨g, o, none⟩ v) (.slice (some ⟨b, 0, none⟩) n c) xs := by
 obtain ⟨a, c', hv, hh⟩ := h
 refine ⟨a, c', hv, ?_⟩
 injection hv with h1 _ _
 rcases hh with hh | ⟨b', off, ha, hE⟩
 ·exact Or.inl hh
 ·refine Or.inr ⟨b', off, ha, fun j e hj i u hi => ?_⟩
  rw [ha] at h1
  injection h1 with h1
  injection h1 with h1 _ _
  subst h1
  rw [World.cell?_of_block (Below.heap_setCell _ _ _ _ (by exact fun e => hne e.symm))]
  exact hE j e hj i u hi
theorem zeroJ : ∀ w, (zeroValue 120).run Tryz.prog w = .ok (valJ 0 0 0) w := by
 intro w
 obtain ⟨i0, hi, hz0, _, _⟩ := info_parts infoJ
 simp [zeroValue, typeInfo, hi, hz0]
set_option maxHeartbeats 4000000 in
theorem delG (p : Jb → Bool) (g : Nat) (lb : Array Value) (eg : ∀ args w, (callFunc g args).run Tryz.prog w = .ok (.enter g args) w) (eb : Nat) (eo : Obj) (gb c : Nat) (js : List Jb) (w : World) (hne : eb ≠ gb) (he : w.heap[eb]? = some eo)
  (hg : w.heap[gb]? = some (.cells (js.flatMap Jb.cells).toArray 120)) (hn : js.length ≤ 1000000) (hc : js.length ≤ c)
  (hp : ∀ (W : World) (x : Jb), W.heap[eb]? = some eo → Calls Tryz.prog g (#[x.val] ++ lb) W fun e w' => e = .returned (.bool (p x)) ∧ Below W.heap.size W w') :
  Calls Tryz.prog 201 #[.slice (some ⟨gb, 0, none⟩) js.length c, .func (.func g) #[] lb] w fun e w' => e = .returned (.slice (some ⟨gb, 0, none⟩) (js.filter fun x => !p x).length c) ∧ (∃ tl, w'.heap[gb]? = some (.cells ((js.filter fun x => !p x).flatMap Jb.cells ++ tl).toArray 120)) ∧ Kept [gb] w w' := by
 have hsl : JobSl w (.slice (some ⟨gb, 0, none⟩) js.length c) js := slOf_block Jb.three hg ⟨[], by simp⟩
 have hidx := idxFJ p g lb eg _ js w hsl (by unfold most; omega) (fun W x hb => (hp W x (heap_below he hb (heap_lt he))).mono fun e w' ⟨h1, h2⟩ => ⟨h1, hb.trans (h2.mono hb.size)⟩)
 have HP : Aside _ := hp
 have HG : Aside _ := hg
 have HE : Aside _ := he
 clear hp hg he
 rcases idx_ways p js with ⟨hi, hall⟩ | ⟨k, x0, hi, hk, hx, hpx, hbef⟩
 ·rw [hi] at hidx
  have hf : js.filter (fun x => !p x) = js := List.filter_eq_self.2 (fun x hx => by simp [hall x hx])
  rw [hf]
  obtain ⟨n, hnn⟩ : ∃ n, Hid (js.length = n) := ⟨_, rfl⟩
  rw [hnn.out] at hidx hn hc hsl ⊢
  clear hi hall hf hsl
  go_enter Tryz.func201, Tryz.ntmps201
  go_wp2_with (go_at_call 175; refine hidx.mono ?_; rintro e w' ⟨rfl, hb'⟩)
  go_ret
  exact ⟨rfl, ⟨[], by rw [List.append_nil]; exact heap_below HG.out hb' (heap_lt HG.out)⟩, (Kept.refl _ _).below hb'⟩
 ·rw [hi] at hidx
  obtain ⟨hd, he0⟩ := Del.start hx hpx hbef
  have HD : Aside (Del p js k (k + 1) (js.drop k) ∧ (js.take (k + 1)).filter (fun x => !p x) ++ js.drop k = js) := ⟨hd, by rw [he0, List.take_append_drop]⟩
  obtain ⟨n, hnn⟩ : ∃ n, Hid (js.length = n) := ⟨_, rfl⟩
  rw [hnn.out] at hidx hn hc hk ⊢
  have hkm : ((k : Int) == -1) = false := by rw [beq_eq_false_iff_ne]; omega
  clear hi hx hpx hbef hd he0 hsl
  obtain ⟨off, hoff⟩ : ∃ off : Nat, Hid (0 = off) := ⟨_, rfl⟩
  rw [hoff.out] at hidx ⊢
  go_enter Tryz.func201, Tryz.ntmps201
  go_wp2_with (go_at_call 175; refine hidx.mono ?_; rintro e w' ⟨rfl, hb'⟩)
  go_loopg [5, 6, 7] n (fun gg s5 s6 _ wr => ∃ (i j : Nat) (R : List Jb), s5 = .int .i64 i ∧ s6 = .int .i64 j ∧ i < j ∧ j ≤ n ∧ n - j ≤ gg ∧ Aside (Del p js i j R) ∧ Aside (wr.heap[gb]? = some (.cells (((js.take j).filter (fun x => !p x) ++ R).flatMap Jb.cells).toArray 120)) ∧ Aside (wr.heap[eb]? = some eo) ∧ Aside (Kept [gb] w wr))
  case atStart =>
   refine ⟨k, k + 1, js.drop k, rfl, by go_num, by omega, by omega, by omega, HD.out.1, ?_, heap_below HE.out hb' (heap_lt HE.out), (Kept.refl _ _).below hb'⟩
   show _ = _
   rw [HD.out.2]
   exact heap_below HG.out hb' (heap_lt HG.out)
  case round =>
   obtain ⟨i, j, R, rfl, rfl, hij, hjn, hgg, D, G, E, KK⟩ := hrel
   by_cases hlt : j < n
   ·obtain ⟨x, hx⟩ : ∃ x, js[j]? = some x := ⟨js[j]'(by have := hnn.out; omega), List.getElem?_eq_getElem _⟩
    have hrow : RowAt Jb.cells 3 wr gb off ((js.take j).filter (fun x => !p x) ++ R) := by rw [← hoff.out]; exact rowAt_block Jb.three G.out ⟨[], by simp⟩
    have hat := D.out.at hx
    have c0 : wr.cell? ⟨gb, off + j * 3, none⟩ = some (.int .i64 x.i) := hrow j x hat 0 _ rfl
    have c1 : wr.cell? ⟨gb, off + j * 3 + 1, none⟩ = some (.int .i64 x.e) := hrow j x hat 1 _ rfl
    have c2 : wr.cell? ⟨gb, off + j * 3 + 2, none⟩ = some (.int .i64 x.n) := hrow j x hat 2 _ rfl
    have hcall := HP.out (wr.alloc (boxJ x)) x (heap_old E.out _)
    have hgl := heap_lt G.out
    cases hq : p x with
    | false =>
     rw [hq] at hcall
     obtain ⟨D', e'⟩ := D.out.keep hx hq
     have hR0 : 0 < R.length := by rw [D.out.rest, hnn.out]; omega
     obtain ⟨r, R', rfl⟩ : ∃ r R', R = r :: R' := by
      cases R with
      | nil => simp at hR0
      | cons r R' => exact ⟨r, R', rfl⟩
     have DD : Aside (Del p js (i + 1) (j + 1) R') := by have := D'; simp only [List.drop_one, List.tail_cons] at this; exact this
     have hli := D.out.len
     have hLL : off + i * 3 + 2 < ((List.filter (fun x => !p x) (List.take j js) ++ r :: R').flatMap Jb.cells).length := by
      rw [row_len Jb.three, List.length_append, hli, ← hoff.out, List.length_cons]; omega
     have hsp : Hid (splice ((List.filter (fun x => !p x) (List.take j js) ++ r :: R').flatMap Jb.cells) (off + i * 3) [.int .i64 x.i, .int .i64 x.e, .int .i64 x.n] = (List.filter (fun x => !p x) (List.take (j + 1) js) ++ R').flatMap Jb.cells) := by
      have := splice_flat Jb.three (List.filter (fun x => !p x) (List.take j js)) R' r x
      rw [hli] at this
      rw [Hid, ← hoff.out, Nat.zero_add, e', List.append_assoc]
      exact this
     generalize ((List.filter (fun x => !p x) (List.take j js) ++ r :: R').flatMap Jb.cells) = L at *
     clear hx hat hrow D D' e' hR0 hli hq
     go_wp2_with fail
     refine hcall.mono ?_
     rintro e w1 ⟨rfl, hb1⟩
     have hs1 : wr.heap.size < w1.heap.size := by have := hb1.size; rw [World.size_alloc] at this; omega
     have x1 : w1.heap[wr.heap.size]? = some (boxJ x) := heap_below (heap_new _ _) hb1 (by rw [World.size_alloc]; omega)
     have g1 : w1.heap[gb]? = some (.cells L.toArray 120) := heap_below (heap_old G.out _) hb1 (by rw [World.size_alloc]; omega)
     have E1 : Aside (w1.heap[eb]? = some eo) := heap_below (heap_old E.out _) hb1 (by rw [World.size_alloc]; have := heap_lt E.out; omega)
     have K1 : Aside (Kept [gb] w w1) := (KK.out.alloc _).below hb1
     have y1 := fun i => Joins.cell_of_block x1 i
     obtain ⟨z0, k0⟩ : ∃ z, w1.cell? ⟨gb, off + i * 3, none⟩ = some z := ⟨_, by rw [Joins.cell_of_block g1]; simp; exact List.getElem?_eq_getElem (by omega)⟩
     obtain ⟨z1, k1⟩ : ∃ z, w1.cell? ⟨gb, off + i * 3 + 1, none⟩ = some z := ⟨_, by rw [Joins.cell_of_block g1]; simp; exact List.getElem?_eq_getElem (by omega)⟩
     obtain ⟨z2, k2⟩ : ∃ z, w1.cell? ⟨gb, off + i * 3 + 2, none⟩ = some z := ⟨_, by rw [Joins.cell_of_block g1]; simp; exact List.getElem?_eq_getElem (by omega)⟩
     have f0 := fun i => Joins.unfrozen_of_block g1 i
     have G2 := block_three g1 (.int .i64 x.i) (.int .i64 x.e) (.int .i64 x.n) hLL
     rw [hsp.out] at G2
     have K2 := ((K1.out.setCell (g := gb) (o := off + i * 3) (by simp) (.int .i64 x.i)).setCell (g := gb) (o := off + i * 3 + 1) (by simp) (.int .i64 x.e)).setCell (g := gb) (o := off + i * 3 + 2) (by simp) (.int .i64 x.n)
     have E2 : (((w1.setCell ⟨gb, off + i * 3, none⟩ (.int .i64 x.i)).setCell ⟨gb, off + i * 3 + 1, none⟩ (.int .i64 x.e)).setCell ⟨gb, off + i * 3 + 2, none⟩ (.int .i64 x.n)).heap[eb]? = some eo := by
      rw [Below.heap_setCell _ _ _ _ (by exact hne), Below.heap_setCell _ _ _ _ (by exact hne), Below.heap_setCell _ _ _ _ (by exact hne)]; exact E1.out
     replace G2 : Aside _ := G2
     replace K2 : Aside _ := K2
     replace E2 : Aside _ := E2
     clear hb1 hcall x1 g1 E1 K1 G E KK c0 c1 c2 HP HE HG HD hidx hb'
     go_wp2
     go_roundg (n - (j + 1))
     case measure => omega
     case rel => exact ⟨i + 1, j + 1, R', by go_num, by go_num, by omega, by omega, by omega, DD, G2, E2, K2⟩
    | true =>
     rw [hq] at hcall
     obtain ⟨D', e'⟩ := D.out.skip hx hq
     replace D' : Aside _ := D'
     have G' : Aside (wr.heap[gb]? = some (.cells (((js.take (j + 1)).filter (fun x => !p x) ++ R).flatMap Jb.cells).toArray 120)) := by rw [e']; exact G.out
     clear hx hat hrow D e' hq G
     go_wp2_with fail
     refine hcall.mono ?_
     rintro e w1 ⟨rfl, hb1⟩
     have G1 : Aside (w1.heap[gb]? = _) := heap_below (heap_old G'.out _) hb1 (by rw [World.size_alloc]; omega)
     have E1 : Aside (w1.heap[eb]? = some eo) := heap_below (heap_old E.out _) hb1 (by rw [World.size_alloc]; have := heap_lt E.out; omega)
     have K1 : Aside (Kept [gb] w w1) := (KK.out.alloc _).below hb1
     clear hb1 hcall G' E KK c0 c1 c2 HP HE HG HD hidx hb'
     go_wp2
     go_roundg (n - (j + 1))
     case measure => omega
     case rel => exact ⟨i, j + 1, R, rfl, by go_num, by omega, by omega, by omega, D', G1, E1, K1⟩
   ·obtain rfl : j = n := by omega
    have hli := D.out.len
    have hrest := D.out.rest
    have hfull : js.take j = js := List.take_of_length_le (by have := hnn.out; omega)
    rw [hfull] at hli
    have G0 := G.out
    rw [hfull] at G0
    have hL : (((js.filter (fun x => !p x)) ++ R).flatMap Jb.cells).length = j * 3 := by
     rw [row_len Jb.three, List.length_append, hli, hrest, hnn.out]; omega
    have hcl := fun ty => clear_cells (P := Tryz.prog) wr 36 120 ty (valJ 0 0 0) Tryz.underlying36 zeroJ gb (i * 3) (j - i) (c - i) (by omega) _ 120 G0 (by rw [hL, zerosJ]; omega) (zerosJ_one _)
    have hsl : Aside (∃ tl, (wr.setRow gb (splice (((js.filter (fun x => !p x)) ++ R).flatMap Jb.cells) (i * 3) (Builtin.zeroCells (valJ 0 0 0).cells (j - i)).toList).toArray).heap[gb]? = some (.cells ((js.filter fun x => !p x).flatMap Jb.cells ++ tl).toArray 120)) := by
     refine ⟨(Builtin.zeroCells (valJ 0 0 0).cells (j - i)).toList, (setRow_heap wr gb _ _ _ _ G0).trans ?_⟩
     ·refine congrArg (fun l : List Value => some (Obj.cells l.toArray 120)) ?_
      have hfl : ((js.filter (fun x => !p x)).flatMap Jb.cells).length = i * 3 := by rw [row_len Jb.three, hli]
      have hz := zerosJ (j - i)
      unfold splice
      rw [List.flatMap_append, List.take_append_of_le_length (by omega), List.take_of_length_le (by omega), hz, List.drop_of_length_le (by rw [← List.flatMap_append, hL]; omega), List.append_nil]
    have K2 : Aside (Kept [gb] w (wr.setRow gb (splice (((js.filter (fun x => !p x)) ++ R).flatMap Jb.cells) (i * 3) (Builtin.zeroCells (valJ 0 0 0).cells (j - i)).toList).toArray)) := KK.out.setRow (by simp) _
    generalize (splice (((js.filter (fun x => !p x)) ++ R).flatMap Jb.cells) (i * 3) (Builtin.zeroCells (valJ 0 0 0).cells (j - i)).toList).toArray = Z at *
    have HL : Hid ((js.filter fun x => !p x).length = i) := hli
    have hz0 : 0 = off := hoff.out
    subst hz0
    clear hli hrest hfull G0 hL D G E KK HP HE HG HD hidx hb'
    go_wp2
    go_ret
    exact ⟨by rw [HL.out]; rfl, hsl.out, K2.out⟩
theorem delJ (p : Jb → Bool) (g : Nat) (lb : Array Value) (eg : ∀ args w, (callFunc g args).run Tryz.prog w = .ok (.enter g args) w) (eb : Nat) (eo : Obj) (gb c : Nat) (js : List Jb) (w : World) (hne : eb ≠ gb) (he : w.heap[eb]? = some eo)
  (hg : w.heap[gb]? = some (.cells (js.flatMap Jb.cells).toArray 120)) (hn : js.length ≤ 1000000) (hc : js.length ≤ c)
  (hp : ∀ (W : World) (x : Jb), W.heap[eb]? = some eo → Calls Tryz.prog g (#[x.val] ++ lb) W fun e w' => e = .returned (.bool (p x)) ∧ Below W.heap.size W w') :
  Calls Tryz.prog 201 #[.slice (some ⟨gb, 0, none⟩) js.length c, .func (.func g) #[] lb] w fun e w' => e = .returned (.slice (some ⟨gb, 0, none⟩) (js.filter fun x => !p x).length c) ∧ (JobSl w' (.slice (some ⟨gb, 0, none⟩) (js.filter fun x => !p x).length c) (js.filter fun x => !p x) ∧ Typed 120 w' (.slice (some ⟨gb, 0, none⟩) (js.filter fun x => !p x).length c)) ∧ Kept [gb] w w' :=
 (delG p g lb eg eb eo gb c js w hne he hg hn hc hp).mono fun _ _ ⟨h1, ⟨tl, h2⟩, h3⟩ => ⟨h1, ⟨slOf_block Jb.three h2 ⟨tl, rfl⟩, typed_block h2 _ _ _⟩, h3⟩
set_option maxHeartbeats 1000000 in
theorem drop_pred (x : En) (eb : Nat) (W : World) (y : Jb) (h : W.heap[eb]? = some (boxE x.k x.j x.v x.t x.c)) :
  Calls Tryz.prog 266 (#[y.val] ++ #[.pointer (some ⟨eb, 0, none⟩)]) W fun e w' => e = .returned (.bool (y.i == x.j)) ∧ Below W.heap.size W w' := by
 have hlt := heap_lt h
 have hne : eb ≠ W.heap.size := by omega
 have c0 := fun i => Joins.cell_of_block h i
 show Calls Tryz.prog 266 #[y.val, .pointer (some ⟨eb, 0, none⟩)] W _
 go_enter Tryz.func266, Tryz.ntmps266
 go_wp2
 all_goals (go_ret; exact ⟨by simp_all, grew (Below.refl _ _) _⟩)
structure Own (w : World) (ab gj gr : Nat) (js : List Jb) (rs : List Rg) : Prop where
 head : w.heap[ab]? = some (boxB (.slice (some ⟨gj, 0, none⟩) js.length js.length) (.slice (some ⟨gr, 0, none⟩) rs.length rs.length))
 jobs : w.heap[gj]? = some (.cells (js.flatMap Jb.cells).toArray 120)
 rungs : w.heap[gr]? = some (.cells (rs.flatMap Rg.cells).toArray 76)
theorem Own.ne1 {w : World} {ab gj gr : Nat} {js : List Jb} {rs : List Rg} (h : Own w ab gj gr js rs) : ab ≠ gj := fun e => by
 have h1 := h.head
 have h2 := h.jobs
 rw [e, h2] at h1
 injection h1 with h1
 injection h1 with _ h1 _
 revert h1
 decide
theorem Own.ne2 {w : World} {ab gj gr : Nat} {js : List Jb} {rs : List Rg} (h : Own w ab gj gr js rs) : ab ≠ gr := fun e => by
 have h1 := h.head
 have h2 := h.rungs
 rw [e, h2] at h1
 injection h1 with h1
 injection h1 with _ h1 _
 revert h1
 decide
theorem Own.ne3 {w : World} {ab gj gr : Nat} {js : List Jb} {rs : List Rg} (h : Own w ab gj gr js rs) : gj ≠ gr := fun e => by
 have h1 := h.jobs
 have h2 := h.rungs
 rw [e, h2] at h1
 injection h1 with h1
 injection h1 with _ h1 _
 revert h1
 decide
theorem Own.later {w w' : World} {ab gj gr : Nat} {js : List Jb} {rs : List Rg} (h : Own w ab gj gr js rs) (hb : Below w.heap.size w w') : Own w' ab gj gr js rs :=
 ⟨heap_below h.head hb (heap_lt h.head), heap_below h.jobs hb (heap_lt h.jobs), heap_below h.rungs hb (heap_lt h.rungs)⟩
theorem Own.sj {w : World} {ab gj gr : Nat} {js : List Jb} {rs : List Rg} (h : Own w ab gj gr js rs) : JobSl w (.slice (some ⟨gj, 0, none⟩) js.length js.length) js := slOf_block Jb.three h.jobs ⟨[], by simp⟩
theorem Own.sr {w : World} {ab gj gr : Nat} {js : List Jb} {rs : List Rg} (h : Own w ab gj gr js rs) : RungSl w (.slice (some ⟨gr, 0, none⟩) rs.length rs.length) rs := slOf_block Rg.three h.rungs ⟨[], by simp⟩
structure Left (w w' : World) (ab : Nat) (S : List Nat) (js : List Jb) (rs : List Rg) (u1 u2 : Value) : Prop where
 head : w'.heap[ab]? = some (boxB u1 u2)
 jobs : JobSl w' u1 js
 rungs : RungSl w' u2 rs
 room : Roomy u2
 kept : Kept S w w'
 tj : Typed 120 w' u1
 tr : Typed 76 w' u2
theorem Own.tj {w : World} {ab gj gr : Nat} {js : List Jb} {rs : List Rg} (h : Own w ab gj gr js rs) (n c : Nat) : Typed 120 w (.slice (some ⟨gj, 0, none⟩) n c) := typed_block h.jobs _ _ _
theorem Own.tr {w : World} {ab gj gr : Nat} {js : List Jb} {rs : List Rg} (h : Own w ab gj gr js rs) (n c : Nat) : Typed 76 w (.slice (some ⟨gr, 0, none⟩) n c) := typed_block h.rungs _ _ _
set_option maxHeartbeats 2000000 in
theorem drop_any (x : En) (ab gj gr : Nat) (js : List Jb) (rs : List Rg) (w : World) (h : Own w ab gj gr js rs) (hn : js.length ≤ 6) :
  Calls Tryz.prog 231 #[.pointer (some ⟨ab, 0, none⟩), x.val] w fun e w' => e = .returned (.tuple #[]) ∧ ∃ u1 u2, Left w w' ab [ab, gj] (js.filter fun y => !(y.i == x.j)) rs u1 u2 := by
 have n1 := h.ne1
 have n3 := h.ne3
 have n2 := h.ne2
 have hB := grew (Below.refl w.heap.size w) (boxE x.k x.j x.v x.t x.c)
 have h' := h.later hB
 have eg : ∀ args w, (callFunc 266 args).run Tryz.prog w = .ok (.enter 266 args) w := enters_of Tryz.func266 (by kernel_rfl) rfl
 have hdel := delJ (fun y => y.i == x.j) 266 #[.pointer (some ⟨w.heap.size, 0, none⟩)] eg w.heap.size _ gj js.length js _ (by have := heap_lt h.jobs; omega) (heap_new w (boxE x.k x.j x.v x.t x.c)) h'.jobs (by omega) (Nat.le_refl _) (fun W y hW => drop_pred x w.heap.size W y hW)
 have x1 := h'.head
 have hal := heap_lt h.head
 have HA : Aside (Own (w.alloc (boxE x.k x.j x.v x.t x.c)) ab gj gr js rs) := h'
 have y1 : ∀ i, (w.alloc (boxE x.k x.j x.v x.t x.c)).cell? ⟨ab, i, none⟩ = #[Value.slice (some ⟨gj, 0, none⟩) js.length js.length, .slice (some ⟨gr, 0, none⟩) rs.length rs.length][i]? := fun i => Joins.cell_of_block x1 i
 have yw := fun i => Joins.cell_of_block h.head i
 have hane : ab ≠ w.heap.size := by omega
 obtain ⟨n, hnn⟩ : ∃ n, Hid (js.length = n) := ⟨_, rfl⟩
 obtain ⟨m, hmm⟩ : ∃ m, Hid (rs.length = m) := ⟨_, rfl⟩
 rw [hnn.out, hmm.out] at y1 yw
 rw [hnn.out] at hdel hn
 obtain ⟨F, hF⟩ : ∃ F, Hid (js.filter (fun y => !(y.i == x.j)) = F) := ⟨_, rfl⟩
 rw [hF.out] at hdel ⊢
 clear h h' x1 hB
 go_enter Tryz.func231, Tryz.ntmps231
 go_wp2_with fail
 refine hdel.mono ?_
 rintro e w1 ⟨rfl, ⟨J1, T1⟩, K1⟩
 have hA1 : w1.heap[ab]? = some (boxB (.slice (some ⟨gj, 0, none⟩) n n) (.slice (some ⟨gr, 0, none⟩) m m)) := by
  rw [← hnn.out, ← hmm.out]
  exact K1.old HA.out.head (by simpa using n1)
 have T2 : Aside (Typed 120 (w1.setCell ⟨ab, 0, none⟩ (.slice (some ⟨gj, 0, none⟩) F.length n)) (.slice (some ⟨gj, 0, none⟩) F.length n) ∧ Typed 76 (w1.setCell ⟨ab, 0, none⟩ (.slice (some ⟨gj, 0, none⟩) F.length n)) (.slice (some ⟨gr, 0, none⟩) m m)) :=
  ⟨T1.setCell _ _ _, (typed_block (K1.old HA.out.rungs (by simpa using Ne.symm n3)) _ _ _).setCell _ _ _⟩
 have R1 : RungSl w1 (.slice (some ⟨gr, 0, none⟩) m m) rs := by
  rw [← hmm.out]
  exact slOf_block Rg.three (K1.old HA.out.rungs (by simpa using Ne.symm n3)) ⟨[], by simp⟩
 have z1 := fun i => Joins.cell_of_block hA1 i
 have f1 := fun i => Joins.unfrozen_of_block hA1 i
 have hA2 := Joins.block_setCell (i := 0) hA1 (.slice (some ⟨gj, 0, none⟩) F.length n)
 have J2 : Aside (JobSl (w1.setCell ⟨ab, 0, none⟩ (.slice (some ⟨gj, 0, none⟩) F.length n)) (.slice (some ⟨gj, 0, none⟩) F.length n) F) := sl_beside J1 n1 _
 have R2 : Aside (RungSl (w1.setCell ⟨ab, 0, none⟩ (.slice (some ⟨gj, 0, none⟩) F.length n)) (.slice (some ⟨gr, 0, none⟩) m m) rs) := sl_beside R1 n2 _
 have K2 : Aside (Kept [ab, gj] w (w1.setCell ⟨ab, 0, none⟩ (.slice (some ⟨gj, 0, none⟩) F.length n))) := by
  have k0 : Kept [ab, gj] w w1 := by
   have ka := grew (Below.refl w.heap.size w) (boxE x.k x.j x.v x.t x.c)
   exact ⟨K1.os, K1.tape, K1.output, Nat.le_trans ka.size K1.size, fun k hk hS => (K1.block k (Nat.lt_of_lt_of_le hk ka.size) (by simp at hS ⊢; exact hS.2)).trans (ka.block k hk)⟩
  exact k0.setCell (by simp) _
 replace hA2 : Aside _ := hA2
 clear hdel J1 R1 K1 hA1 HA y1 yw T1
 go_wp2
 exact bodyPost_end (v := .tuple #[]) (by simp [results, go_sem]) rfl ⟨rfl, _, _, ⟨hA2.out, J2.out, R2.out, ⟨_, _, _, rfl, Nat.le_refl _⟩, K2.out, T2.out.1, T2.out.2⟩⟩
end
end Go.Proofs.YtmoaobfmopimlafGreatDoor
