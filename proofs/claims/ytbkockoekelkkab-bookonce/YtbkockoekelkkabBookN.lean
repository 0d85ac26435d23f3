/- The walk of the law BookParts, under package book's contracts. -/
import Derived.Test.YtbkockoekelkkabBookM
namespace Go.Proofs.Ytbkockoekelkkab
open Go.RowKit
open scoped Classical

theorem bfold_append : ∀ (a b : List En) (js : List Jb) (rs : List Rg), bfold js rs (a ++ b) = if (bfold js rs a).2 ≠ 0 then (([], []), (bfold js rs a).2) else bfold (bfold js rs a).1.1 (bfold js rs a).1.2 b
  | [], b, js, rs => by simp [bfold]
  | x :: r, b, js, rs => by
    by_cases h : (app js rs x).2 = 0
    · rw [List.cons_append, bfold_ok h, bfold_ok h, bfold_append r b]
    · rw [List.cons_append, bfold_bad h, bfold_bad h, if_pos h]

theorem bookOf_parts {es : List En} (h : (bookOf es).2 = 0) (m : Nat) : es.length ≤ 60 ∧ (bookOf (es.take m)).2 = 0 ∧ bfold (bookOf (es.take m)).1.1 (bookOf (es.take m)).1.2 (es.drop m) = bookOf es := by
  unfold bookOf at h
  by_cases hl : 60 < es.length
  · rw [if_pos hl] at h; cases h
  · rw [if_neg hl] at h
    have e1 : bookOf es = bfold [] [] es := by rw [bookOf, if_neg hl]
    have e2 : bookOf (es.take m) = bfold [] [] (es.take m) := by rw [bookOf, if_neg (by rw [List.length_take]; omega)]
    have ha := bfold_append (es.take m) (es.drop m) [] []
    rw [List.take_append_drop] at ha
    by_cases h0 : (bfold [] [] (es.take m)).2 = 0
    · rw [if_neg (by simpa using h0)] at ha
      exact ⟨by omega, by rw [e2]; exact h0, by rw [e1, e2, ha]⟩
    · rw [if_pos h0] at ha
      rw [ha] at h
      exact absurd h h0

theorem at_any (k : Int) (n : Int) (h0 : 0 < n) (h1 : n ≤ 1000) (w : World) :
    Calls Try.prog 15 #[.int .i64 k, .int .i64 n] w fun e w' => ∃ m : Nat, (m : Int) < n ∧ e = .returned (.int .i64 m) ∧ w' = w := by
  have hne : (n == 0) = false := by rw [beq_eq_false_iff_ne]; omega
  have hb := Int.tmod_lt_of_pos k h0
  have hb' : -n < k.tmod n := Int.lt_tmod_of_pos k h0
  go_enter Try.func15, Try.ntmps15
  go_wp2
  · go_ret
    refine ⟨(k.tmod n + n).toNat, by omega, ?_, rfl⟩
    show Ending.returned (Value.int .i64 (k.tmod n + n)) = _
    rw [show (((k.tmod n + n).toNat : Nat) : Int) = k.tmod n + n by omega]
  · go_ret
    refine ⟨(k.tmod n).toNat, by omega, ?_, rfl⟩
    show Ending.returned (Value.int .i64 (k.tmod n)) = _
    rw [show (((k.tmod n).toNat : Nat) : Int) = k.tmod n by omega]

/-- A slice of entries up to a place. -/
theorem upto_run (a : Option Addr) (n m c : Nat) (h : (m : Int) ≤ c) (w : World) : (Instr.slice 22 (.slice a n c) none (some (.int .i64 m)) none).run Try.prog w = .ok (.slice a m c) w := by
  rw [run_slice_h (ht := Try.underlying22) (h0 := by omega) (h2 := h)]
  have hs : (sizeOf (Try.prog.elem 22)).run Try.prog w = .ok 5 w := by kernel_rfl
  rw [hs]
  cases a with
  | none => simp [Result.andThen, sliced]
  | some ad => simp [Result.andThen, sliced, Addr.add]

theorem upto_ents {w : World} {a : Option Addr} {n c : Nat} {es : List En} (h : EntSl w (.slice a n c) es) (m : Nat) (hm : m ≤ n) : EntSl w (.slice a m c) (es.take m) :=
  SlOf.cut (cs := En.cells) (k := 5) h m hm

/-- A slice of entries from a place on. -/
theorem from_run (a : Option Addr) (n m c : Nat) (hm : m ≤ n) (hc : n ≤ c) : ∃ a', (∀ w, (Instr.slice 22 (.slice a n c) (some (.int .i64 m)) none none).run Try.prog w = .ok (.slice a' (n - m) (c - m)) w) ∧
    ∀ (w : World) (es : List En), EntSl w (.slice a n c) es → EntSl w (.slice a' (n - m) (c - m)) (es.drop m) := by
  have hrun : ∀ w, (Instr.slice 22 (.slice a n c) (some (.int .i64 m)) none none).run Try.prog w = .ok (sliced a m n c 5) w := fun w => by
    rw [run_slice_l (ht := Try.underlying22) (h0 := by omega) (h1 := by omega)]
    have hs : (sizeOf (Try.prog.elem 22)).run Try.prog w = .ok 5 w := by kernel_rfl
    rw [hs]
    simp [Result.andThen]
  cases a with
  | none =>
    refine ⟨none, fun w => by rw [hrun]; simp [sliced], fun w es h => ?_⟩
    have hl : es.length = n := SlOf.len (cs := En.cells) (k := 5) h
    have h0 : n = 0 := by
      rcases Nat.eq_zero_or_pos n with h' | h'
      · exact h'
      · obtain ⟨b, off, e, _⟩ := SlOf.at (cs := En.cells) (k := 5) h h'; cases e
    have hd : es.drop m = [] := List.drop_of_length_le (by omega)
    exact ⟨none, c - m, by rw [hd]; simp; omega, Or.inl (by rw [hd]; rfl)⟩
  | some ad =>
    refine ⟨some (if c = m then ad else ad.add (m * 5)), fun w => by rw [hrun]; simp [sliced]; split <;> rfl, fun w es h => ?_⟩
    have hl : es.length = n := SlOf.len (cs := En.cells) (k := 5) h
    have hdl : (es.drop m).length = n - m := by rw [List.length_drop, hl]
    refine ⟨_, c - m, by rw [hdl], ?_⟩
    by_cases hz : n - m = 0
    · exact Or.inl (by rw [hdl]; exact hz)
    · obtain ⟨b, off, e, hE⟩ := SlOf.at (cs := En.cells) (k := 5) h (by omega)
      obtain rfl := Option.some.inj e
      refine Or.inr ⟨b, off + m * 5, by rw [if_neg (by omega), Lib.add_plain], ?_⟩
      exact RowAt.drop (cs := En.cells) (k := 5) hE m

set_option maxHeartbeats 2000000 in
theorem bookParts_bad (hK : Books) (v : Value) (es : List En) (k : Int) (w : World) (hv : EntSl w v es) (hn : es.length ≤ most) (hbad : (bookOf es).2 ≠ 0) :
    Calls Try.prog 5 #[v, .int .i64 k] w fun e w' => e = .returned (.bool true) ∧ Below w.heap.size w w' := by
  have HV : Hid (EntSl w v es) := hv
  have hr1 := fun W hW => hK.replay v es W hW hn
  have hg := rung_any hK
  have hb : ((bookOf es).2 != 0) = true := by rw [bne_iff_ne]; exact hbad
  clear hK hv hn hbad
  generalize bookOf es = r at *
  obtain ⟨⟨js, rs⟩, n⟩ := r
  change (n != 0) = true at hb
  go_enter Try.func5, Try.ntmps5
  go_wp2_with fail
  refine (hr1 _ (by exact HV.out)).mono ?_
  rintro e w1 ⟨u1, u2, rfl, J1, R1, hb1⟩
  obtain ⟨a1, c1, a2, c2, rfl, rfl⟩ := bk_slices J1 R1
  clear hr1 J1 R1 HV
  go_wp2_with fail
  refine (hg _).mono ?_
  rintro e w2 ⟨rfl, hb2⟩
  have hB2 := step_below (grew hb1 _) hb2
  clear hb2 hb1
  go_wp2_with fail
  refine (hg _).mono ?_
  rintro e w3 ⟨rfl, hb3⟩
  have hB3 := step_below hB2 hb3
  clear hb3 hB2
  go_wp2
  go_ret
  exact ⟨rfl, hB3⟩

set_option maxHeartbeats 4000000 in
set_option maxRecDepth 100000 in
theorem bookParts_ok (hK : Books) (a : Option Addr) (n c : Nat) (es : List En) (k : Int) (w : World) (hv : EntSl w (.slice a n c) es) (hc : n ≤ c) (hgood : (bookOf es).2 = 0) :
    Calls Try.prog 5 #[.slice a n c, .int .i64 k] w fun e w' => e = .returned (.bool true) ∧ Below w.heap.size w w' := by
  have hl : es.length = n := SlOf.len (cs := En.cells) (k := 5) hv
  have h60 : (n : Int) ≤ 60 := by have := (bookOf_parts hgood 0).1; omega
  have HV : Hid (EntSl w (.slice a n c) es) := hv
  have HL : Hid (es.length = n) := hl
  have hr1 := fun W hW => hK.replay (.slice a n c) es W hW (Nat.le_trans (show es.length ≤ 60 by omega) (by decide))
  have hr2 : Hid (∀ m W, EntSl W (.slice a m c) (es.take m) → _) := fun m W hW => hK.replay (.slice a m c) (es.take m) W hW (Nat.le_trans (show (es.take m).length ≤ 60 by rw [List.length_take]; omega) (by decide))
  have hap : Hid (∀ (v1 v2 : Value) (js : List Jb) (rs : List Rg) (x : En) (W : World), JobSl W v1 js → RungSl W v2 rs → js.length ≤ 6 → rs.length ≤ 60 → Answers 10 #[.agg #[v1, v2], x.val] W (app js rs x)) := fun v1 v2 js rs x W g1 g2 g3 g4 => hK.apply v1 v2 js rs x W g1 g2 (Nat.le_trans g3 (by decide)) (Nat.le_trans g4 (by decide))
  have HP : Hid (∀ m, (bookOf (es.take m)).2 = 0 ∧ bfold (bookOf (es.take m)).1.1 (bookOf (es.take m)).1.2 (es.drop m) = bookOf es) := fun m => (bookOf_parts hgood m).2
  have hlen := bookOf_len es
  have hg := rung_any hK
  have hsm : Hid (∀ (v1 v2 u1 u2 : Value) (W : World), JobSl W v1 (bookOf es).1.1 → RungSl W v2 (bookOf es).1.2 → JobSl W u1 (bookOf es).1.1 → RungSl W u2 (bookOf es).1.2 → _) := fun v1 v2 u1 u2 W g1 g2 g3 g4 => hK.same v1 v2 u1 u2 _ _ _ _ W g1 g2 g3 g4 (Nat.le_trans hlen.1 (by decide)) (Nat.le_trans hlen.2 (by decide)) (Nat.le_trans hlen.1 (by decide)) (Nat.le_trans hlen.2 (by decide))
  clear hK hv hl hlen
  obtain ⟨jw, rw', hW⟩ : ∃ jw rw', bookOf es = ((jw, rw'), 0) := ⟨(bookOf es).1.1, (bookOf es).1.2, by rw [← hgood]⟩
  rw [hW] at hr1 hsm
  have HW : Hid (bookOf es = ((jw, rw'), 0)) := hW
  clear hW hgood
  go_enter Try.func5, Try.ntmps5
  go_wp2_with fail
  refine (hr1 _ (by exact HV.out)).mono ?_
  rintro e w1 ⟨u1, u2, rfl, J1, R1, hb1⟩
  obtain ⟨a1, c1, a2, c2, rfl, rfl⟩ := bk_slices J1 R1
  clear hr1
  go_wp2_with fail
  have hgw := grew (Below.refl w1.heap.size w1) (boxB (.slice a1 jw.length c1) (.slice a2 rw'.length c2))
  refine (hg _).mono ?_
  rintro e w2 ⟨rfl, hb2⟩
  have hB2 := step_below (step_below hb1 hgw) hb2
  have J2 := (J1.later hgw).later hb2
  have R2 := (R1.later hgw).later hb2
  have y2 : w2.heap[w1.heap.size]? = some (boxB (.slice a1 jw.length c1) (.slice a2 rw'.length c2)) := heap_below (heap_new _ _) hb2 (by rw [World.size_alloc]; omega)
  have hwb : w.heap.size ≤ w1.heap.size := hb1.size
  clear hb1 hb2 hgw J1 R1 hg
  generalize w1.heap.size = wb at *
  go_wp2_with fail
  refine (at_any _ _ (by omega) (by omega) _).mono ?_
  rintro e w2' ⟨m, hm, rfl, rfl⟩
  have hmn : m ≤ n := by omega
  have hsl := fun W => upto_run a n m c (by omega) W
  obtain ⟨a', hfr, hfe⟩ := from_run a n m c hmn hc
  have HFE : Hid (EntSl w (.slice a' (n - m) (c - m)) (es.drop m)) := hfe w es HV.out
  have hfold : Hid (bfold (bookOf (es.take m)).1.1 (bookOf (es.take m)).1.2 (es.drop m) = ((jw, rw'), 0)) := by rw [Hid, (HP.out m).2]; exact HW.out
  have hr3 := hr2.out m
  have hz3 : (bookOf (es.take m)).2 = 0 := (HP.out m).1
  have hlen := bookOf_len (es.take m)
  have hue := upto_ents HV.out m hmn
  have HUE : Hid (EntSl w (.slice a m c) (es.take m)) := hue
  have hnm : Hid ((es.drop m).length = n - m) := by rw [Hid, List.length_drop, HL.out]
  clear hr2 hfe HP HW hm hue
  generalize es.drop m = fs at *
  generalize es.take m = gs at *
  generalize bookOf gs = bg at *
  obtain ⟨⟨jm, rm⟩, n0⟩ := bg
  obtain rfl : n0 = 0 := hz3
  go_wp2_with fail
  refine (hr3 _ (by exact HUE.out.later hB2)).mono ?_
  rintro e w3 ⟨t1, t2, rfl, J3, R3, hb3⟩
  obtain ⟨b1, d1, b2, d2, rfl, rfl⟩ := bk_slices J3 R3
  change JobSl w3 (.slice b1 jm.length d1) jm at J3
  change RungSl w3 (.slice b2 rm.length d2) rm at R3
  have hB3 := step_below hB2 hb3
  have J4 := J2.later hb3
  have R4 := R2.later hb3
  have y3 := heap_below y2 hb3 (heap_lt y2)
  clear hb3 J2 R2 y2 hB2 hr3 HUE hsl
  obtain ⟨N, hN⟩ : ∃ N, n - m = N := ⟨_, rfl⟩
  rw [hN] at hfr HFE hnm
  have hN60 : (N : Int) ≤ 60 := by omega
  have hl3 : wb < w3.heap.size := heap_lt y3
  have hwn : w.heap.size ≤ w3.heap.size := hB3.size
  clear hN
  dsimp only
  go_wp2
  go_loopw [40] (fun i wr => ∃ (q : Nat) (p1 p2 : Option Addr) (r1 r2 : Nat) (js : List Jb) (rs : List Rg), q ≤ N ∧ i = .int .i64 q ∧ wr.heap[w3.heap.size]? = some (boxB (.slice p1 js.length r1) (.slice p2 rs.length r2)) ∧ wr.heap[wb]? = some (boxB (.slice a1 jw.length c1) (.slice a2 rw'.length c2)) ∧
    Hid (JobSl wr (.slice p1 js.length r1) js ∧ RungSl wr (.slice p2 rs.length r2) rs ∧ JobSl wr (.slice a1 jw.length c1) jw ∧ RungSl wr (.slice a2 rw'.length c2) rw' ∧ js.length ≤ 6 ∧ rs.length ≤ 60) ∧ Below w.heap.size w wr ∧ Hid (bfold js rs (fs.drop q) = ((jw, rw'), 0))) (fun i _ => N - (intOf i).toNat)
  case atStart =>
    have hgn := grew (Below.refl w3.heap.size w3) (boxB (.slice b1 jm.length d1) (.slice b2 rm.length d2))
    exact ⟨0, b1, b2, d1, d2, jm, rm, Nat.zero_le _, rfl, heap_new _ _, heap_old y3 _, ⟨J3.later hgn, R3.later hgn, J4.later hgn, R4.later hgn, hlen.1, hlen.2⟩, grew hB3 _, hfold⟩
  case round =>
    clear J3 R3 J4 R4 y3 hB3 hfold hlen
    obtain ⟨q, p1, p2, r1, r2, js, rs, hq, rfl, yn, yw, hD, hB, hst⟩ := hrel
    generalize w3.heap.size = nb at *
    have zn : ∀ i, wr.cell? ⟨nb, i, none⟩ = #[Value.slice p1 js.length r1, .slice p2 rs.length r2][i]? := fun i => Joins.cell_of_block yn i
    have ln : nb < wr.heap.size := heap_lt yn
    by_cases hlt : q < N
    · obtain ⟨x, hx⟩ : ∃ x, fs[q]? = some x := ⟨fs[q]'(by have := hnm.out; omega), List.getElem?_eq_getElem _⟩
      obtain ⟨b, off, rfl, hE0⟩ := SlOf.at (cs := En.cells) (k := 5) HFE.out (by omega)
      have hE : RowAt En.cells 5 wr b off fs := hE0.later hB
      have f0 : wr.cell? ⟨b, off + q * 5, none⟩ = some (.int .i64 x.k) := hE q x hx 0 _ rfl
      have f1 : wr.cell? ⟨b, off + q * 5 + 1, none⟩ = some (.int .i64 x.j) := hE q x hx 1 _ rfl
      have f2 : wr.cell? ⟨b, off + q * 5 + 2, none⟩ = some (.int .i64 x.v) := hE q x hx 2 _ rfl
      have f3 : wr.cell? ⟨b, off + q * 5 + 3, none⟩ = some (.int .i64 x.t) := hE q x hx 3 _ rfl
      have f4 : wr.cell? ⟨b, off + q * 5 + 4, none⟩ = some (.int .i64 x.c) := hE q x hx 4 _ rfl
      have hok : (app js rs x).2 = 0 := by
        rcases Decidable.em ((app js rs x).2 = 0) with h | h
        · exact h
        · have h1 := hst.out
          rw [drop_at hx, bfold_bad h] at h1
          exact absurd (congrArg Prod.snd h1) h
      have HF : Hid (bfold (app js rs x).1.1 (app js rs x).1.2 (fs.drop (q + 1)) = ((jw, rw'), 0)) := by
        have h1 := hst.out
        rw [drop_at hx, bfold_ok hok] at h1
        exact h1
      have hln := app_len (js := js) (rs := rs) x
      have hap1 : ∀ W, JobSl W (.slice p1 js.length r1) js → RungSl W (.slice p2 rs.length r2) rs → Answers 10 #[.agg #[.slice p1 js.length r1, .slice p2 rs.length r2], x.val] W (app js rs x) := fun W g1 g2 => hap.out _ _ js rs x W g1 g2 hD.out.2.2.2.2.1 hD.out.2.2.2.2.2
      clear hE hE0 hx hst
      generalize app js rs x = r at *
      obtain ⟨⟨jn, rn⟩, n0⟩ := r
      obtain rfl : n0 = 0 := hok
      go_wp2_with fail
      have hge := grew (Below.refl wr.heap.size wr) (boxE x.k x.j x.v x.t x.c)
      refine (hap1 _ (by exact hD.out.1.later hge) (by exact hD.out.2.1.later hge)).mono ?_
      rintro e wf ⟨s1, s2, rfl, Jf, Rf, hbf⟩
      have H1 : Hid (JobSl wf s1 jn) := Jf
      have H2 : Hid (RungSl wf s2 rn) := Rf
      obtain ⟨e1, g1, e2, g2, rfl, rfl⟩ := bk_slices Jf Rf
      change Hid (JobSl wf (.slice e1 jn.length g1) jn) at H1
      change Hid (RungSl wf (.slice e2 rn.length g2) rn) at H2
      have K1 := (hD.out.2.2.1.later hge).later hbf
      have K2 := (hD.out.2.2.2.1.later hge).later hbf
      have xn := heap_below (heap_below yn hge ln) hbf (by rw [World.size_alloc]; omega)
      have xw := heap_below (heap_below yw hge (heap_lt yw)) hbf (by rw [World.size_alloc]; have := heap_lt yw; omega)
      have hBf := step_below (step_below hB hge) hbf
      clear Jf Rf hbf hge hap1 f0 f1 f2 f3 f4 zn yn yw hB hD ln
      have zn : ∀ i, wf.cell? ⟨nb, i, none⟩ = #[Value.slice p1 js.length r1, .slice p2 rs.length r2][i]? := fun i => Joins.cell_of_block xn i
      have fn : ∀ i, wf.frozen? ⟨nb, i, none⟩ = false := fun i => Joins.unfrozen_of_block xn i
      have k0 : (wf.setCell ⟨nb, 0, none⟩ (.slice e1 jn.length g1)).heap[nb]? = some (boxB (.slice e1 jn.length g1) (.slice p2 rs.length r2)) := by rw [Joins.block_setCell xn]; rfl
      have k1 : ((wf.setCell ⟨nb, 0, none⟩ (.slice e1 jn.length g1)).setCell ⟨nb, 1, none⟩ (.slice e2 rn.length g2)).heap[nb]? = some (boxB (.slice e1 jn.length g1) (.slice e2 rn.length g2)) := by rw [Joins.block_setCell k0]; rfl
      have k2 : ((wf.setCell ⟨nb, 0, none⟩ (.slice e1 jn.length g1)).setCell ⟨nb, 1, none⟩ (.slice e2 rn.length g2)).heap[wb]? = some (boxB (.slice a1 jw.length c1) (.slice a2 rw'.length c2)) := by
        rw [Below.heap_setCell _ _ _ _ (by show wb ≠ nb; omega), Below.heap_setCell _ _ _ _ (by show wb ≠ nb; omega)]; exact xw
      have hG : Hid (_ ∧ _) := ⟨k1, k2⟩
      have hD' : Hid (_ ∧ _ ∧ _ ∧ _ ∧ _ ∧ _) := ⟨(H1.out.beside Jb.ints xn 0 (.slice e1 jn.length g1)).beside Jb.ints k0 1 (.slice e2 rn.length g2), (H2.out.beside Rg.ints xn 0 (.slice e1 jn.length g1)).beside Rg.ints k0 1 (.slice e2 rn.length g2), (K1.beside Jb.ints xn 0 (.slice e1 jn.length g1)).beside Jb.ints k0 1 (.slice e2 rn.length g2), (K2.beside Rg.ints xn 0 (.slice e1 jn.length g1)).beside Rg.ints k0 1 (.slice e2 rn.length g2), hln.1, hln.2⟩
      have hBg : Hid (Below w.heap.size w ((wf.setCell ⟨nb, 0, none⟩ (.slice e1 jn.length g1)).setCell ⟨nb, 1, none⟩ (.slice e2 rn.length g2))) := (hBf.setCell (p := ⟨nb, 0, none⟩) hwn _).setCell (p := ⟨nb, 1, none⟩) hwn _
      clear k0 k1 k2 H1 H2 K1 K2 xn xw hBf hln
      dsimp only
      go_wp2
      go_roundw
      case rel => exact ⟨q + 1, e1, e2, g1, g2, jn, rn, by omega, by go_num, hG.out.1, hG.out.2, hD'.out, hBg.out, HF.out⟩
      case measure => simp [intOf]; omega
    · have hF := hst.out
      rw [List.drop_of_length_le (by have := hnm.out; omega)] at hF
      have hj : js = jw := congrArg (fun z => z.1.1) hF
      have hr : rs = rw' := congrArg (fun z => z.1.2) hF
      subst hj hr
      have zw : ∀ i, wr.cell? ⟨wb, i, none⟩ = #[Value.slice a1 js.length c1, .slice a2 rs.length c2][i]? := fun i => Joins.cell_of_block yw i
      clear hF hst
      go_wp2_with fail
      refine (hsm.out _ _ _ _ _ (by exact hD.out.1) (by exact hD.out.2.1) (by exact hD.out.2.2.1) (by exact hD.out.2.2.2.1)).mono ?_
      rintro e wz ⟨rfl, hbz⟩
      have hBz := step_below hB hbz
      clear hsm zn zw hbz
      go_wp2
      go_ret
      exact ⟨rfl, hBz⟩

/-- The law BookParts, at every slice of entries and every place. -/
theorem bookParts_any (hK : Books) (a : Option Addr) (n c : Nat) (es : List En) (k : Int) (w : World) (hv : EntSl w (.slice a n c) es) (hc : n ≤ c) (hn : es.length ≤ most) :
    Calls Try.prog 5 #[.slice a n c, .int .i64 k] w fun e w' => e = .returned (.bool true) ∧ Below w.heap.size w w' := by
  by_cases h : (bookOf es).2 = 0
  · exact bookParts_ok hK a n c es k w hv hc h
  · exact bookParts_bad hK _ es k w hv hn h

end Go.Proofs.Ytbkockoekelkkab
