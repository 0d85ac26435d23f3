/- Insertion sort at a row of jobs: the walk. -/
import Derived.Test.YtmfoonalehmjoabDueI
import Derived.Deep.Cut
namespace Go.Proofs.Ytmfoonalehmjoab
open Go.RowKit Go.Shelf

/-- What the swap reads. -/
abbrev SwS (w : World) (gb off j : Nat) (x y : Jb) : Prop :=
  (w.cell? ⟨gb, off + (j + 1) * 3, none⟩ = some (.int .i64 x.i) ∧ w.cell? ⟨gb, off + (j + 1) * 3 + 1, none⟩ = some (.int .i64 x.e) ∧ w.cell? ⟨gb, off + (j + 1) * 3 + 2, none⟩ = some (.int .i64 x.n)) ∧
  w.cell? ⟨gb, off + j * 3, none⟩ = some (.int .i64 y.i) ∧ w.cell? ⟨gb, off + j * 3 + 1, none⟩ = some (.int .i64 y.e) ∧ w.cell? ⟨gb, off + j * 3 + 2, none⟩ = some (.int .i64 y.n)

theorem splice_tail {L tl cs : List Value} {o : Nat} (h : o + cs.length ≤ L.length) : splice (L ++ tl) o cs = splice L o cs ++ tl := by
  unfold splice
  rw [List.take_append_of_le_length (by omega), List.drop_append_of_le_length (by omega)]
  simp

theorem swS_of {w : World} {gb : Nat} {A B : List Jb} {x y : Jb} {tl : List Value} (h : w.heap[gb]? = some (.cells ((A ++ y :: x :: B).flatMap Jb.cells ++ tl).toArray 41)) : SwS w gb 0 A.length x y := by
  have hr : RowAt Jb.cells 3 w gb 0 (A ++ y :: x :: B) := rowAt_block Jb.three h ⟨tl, rfl⟩
  have e1 : (A ++ y :: x :: B)[A.length]? = some y := by simp
  have e2 : (A ++ y :: x :: B)[A.length + 1]? = some x := by rw [List.getElem?_append_right (by omega)]; simp
  exact ⟨⟨hr _ x e2 0 _ rfl, hr _ x e2 1 _ rfl, hr _ x e2 2 _ rfl⟩, hr _ y e1 0 _ rfl, hr _ y e1 1 _ rfl, hr _ y e1 2 _ rfl⟩

theorem swS_later {w w' : World} {gb off j : Nat} {x y : Jb} (h : SwS w gb off j x y) (hb : Below w.heap.size w w') : SwS w' gb off j x y :=
  ⟨⟨cell_later hb h.1.1, cell_later hb h.1.2.1, cell_later hb h.1.2.2⟩, cell_later hb h.2.1, cell_later hb h.2.2.1, cell_later hb h.2.2.2⟩

set_option linter.unusedSimpArgs false in
set_option maxHeartbeats 8000000 in
set_option maxRecDepth 100000 in
/-- slices.insertionSortCmpFunc at a whole row of few jobs. -/
theorem isort (g : Nat) (lb : Array Value) (eg : ∀ args w, (callFunc g args).run Try.prog w = .ok (.enter g args) w) (gb c n : Nat) (xs : List Jb) (tl : List Value) (w : World) (hl : xs.length = n) (hn : n ≤ 12) (hap : xs.Pairwise (fun y z => y.i ≠ z.i))
    (hg : w.heap[gb]? = some (.cells (xs.flatMap Jb.cells ++ tl).toArray 41))
    (hp : ∀ (W : World) (x y : Jb), x ∈ xs → y ∈ xs → Calls Try.prog g (#[x.val, y.val] ++ lb) W fun e w' => ∃ q : Int, e = .returned (.int .i64 q) ∧ (q < 0 ↔ x.ahead y) ∧ Below W.heap.size W w') :
    Calls Try.prog 68 #[.slice (some ⟨gb, 0, none⟩) n c, .int .i64 0, .int .i64 n, .func (.func g) #[] lb] w fun e w' => e = .returned (.tuple #[]) ∧ ∃ ys, Row ys ∧ (∀ z, z ∈ ys ↔ z ∈ xs) ∧ ys.length = n ∧ w'.heap[gb]? = some (.cells (ys.flatMap Jb.cells ++ tl).toArray 41) ∧ Kept [gb] w w' := by
  have HP : Aside _ := hp
  have HG : Aside _ := hg
  have HF : Hid (xs.length = n ∧ xs.Pairwise (fun y z => y.i ≠ z.i)) := ⟨hl, hap⟩
  clear hp hg hl hap
  obtain ⟨off, hoff⟩ : ∃ off : Nat, Hid (0 = off) := ⟨_, rfl⟩
  rw [hoff.out]
  go_enter Try.func68, Try.ntmps68
  go_wp2
  go_loopg [8, 9] (n + 1) (fun gg s8 _ wr => ∃ (i : Nat) (ys : List Jb), s8 = .int .i64 i ∧ 1 ≤ i ∧ i ≤ n + 1 ∧ n + 1 - i ≤ gg ∧ Aside (wr.heap[gb]? = some (.cells (ys.flatMap Jb.cells ++ tl).toArray 41)) ∧ Aside (Kept [gb] w wr) ∧ Aside (Row (ys.take i) ∧ ys.length = n ∧ (∀ z, z ∈ ys ↔ z ∈ xs) ∧ ys.Pairwise (fun y z => y.i ≠ z.i)))
  case atStart =>
    refine ⟨1, xs, by go_num, Nat.le_refl _, by omega, by omega, HG.out, Kept.refl _ _, ⟨?_, HF.out.1, fun _ => Iff.rfl, HF.out.2⟩⟩
    cases xs with
    | nil => trivial
    | cons x r => exact ⟨fun y hy => by simp at hy, by simp [Row]⟩
  case round =>
    obtain ⟨i, ys, rfl, hi1, hi2, hgg, G, KK, Y⟩ := hrel
    by_cases hlt : i < n
    · obtain ⟨x, hx⟩ : ∃ x, ys[i]? = some x := ⟨ys[i]'(by have := Y.out.2.1; omega), List.getElem?_eq_getElem _⟩
      have e : ys = ys.take i ++ x :: ys.drop (i + 1) := by rw [← drop_at hx, List.take_append_drop]
      have I0 : Aside (Ins xs (ys.take i) x [] (ys.drop (i + 1))) := by
        refine Ins.next Y.out.1 ?_ ?_ ?_
        · rw [← e]; exact Y.out.2.2.1
        · rw [← e, Y.out.2.1, HF.out.1]
        · rw [← e]; exact Y.out.2.2.2
      have hti : (ys.take i).length = i := by rw [List.length_take]; have := Y.out.2.1; omega
      have G0 : Aside (wr.heap[gb]? = some (.cells ((ys.take i ++ x :: ([] ++ ys.drop (i + 1))).flatMap Jb.cells ++ tl).toArray 41)) := by
        rw [List.nil_append, ← e]; exact G.out
      generalize ys.take i = A0 at *
      generalize ys.drop (i + 1) = R0 at *
      clear G Y e hx
      go_wp2_with fail
      go_loopg [9] i (fun gg' s9 wi => ∃ (j : Nat) (A B : List Jb), s9 = .int .i64 j ∧ j ≤ i ∧ j ≤ gg' ∧ A.length = j ∧ Aside (Ins xs A x B R0) ∧ Aside (B.length + j = i) ∧ Aside (wi.heap[gb]? = some (.cells ((A ++ x :: (B ++ R0)).flatMap Jb.cells ++ tl).toArray 41)) ∧ Aside (Kept [gb] w wi))
      case atStart => exact ⟨i, A0, [], rfl, Nat.le_refl _, Nat.le_refl _, hti, I0, (show Aside _ from by simp [Aside]), G0, KK⟩
      case round =>
        obtain ⟨j, A, B, rfl, hji, hgj, hAl, I, hBl, GA, KA⟩ := hrel
        have HX : Hid (∀ W' gg0, Below wr.heap.size wr W' → i + 1 ≤ n + 1 → n + 1 - (i + 1) ≤ gg0 → Row (A ++ x :: B) → ∃ (i' : Nat) (ys : List Jb), Value.int .i64 ((i : Int) + 1) = .int .i64 i' ∧ 1 ≤ i' ∧ i' ≤ n + 1 ∧ n + 1 - i' ≤ gg0 ∧ Aside (W'.heap[gb]? = some (.cells (ys.flatMap Jb.cells ++ tl).toArray 41)) ∧ Aside (Kept [gb] w W') ∧ Aside (Row (ys.take i') ∧ ys.length = n ∧ (∀ z, z ∈ ys ↔ z ∈ xs) ∧ ys.Pairwise (fun y z => y.i ≠ z.i))) := fun W' gg0 q0 q1 q2 q3 => by
          refine ⟨i + 1, A ++ x :: (B ++ R0), by go_num, by omega, q1, q2, heap_below GA.out q0 (heap_lt GA.out), KA.out.below q0, ⟨?_, by rw [I.out.len]; exact HF.out.1, I.out.all, I.out.apart⟩⟩
          have e1 : A ++ x :: (B ++ R0) = (A ++ x :: B) ++ R0 := by simp
          have e2 : (A ++ x :: B).length = i + 1 := by have := hBl.out; rw [List.length_append, List.length_cons, hAl]; omega
          rw [e1, List.take_append_of_le_length (by omega), List.take_of_length_le (by omega)]
          exact q3
        cases j with
        | zero =>
          have hA : A = [] := List.length_eq_zero_iff.1 hAl
          have HR : Hid (Row (A ++ x :: B)) := by rw [Hid, hA]; have := I.out; rw [hA] at this; exact this.atFront
          clear I GA hBl hAl
          go_wp2_with fail
          go_quiet (fail)
          go_wp2
          go_roundg (n + 1 - (i + 1))
          case measure => omega
          case rel => exact HX.out _ _ (below_drewN (Below.refl _ _) _) (by omega) (Nat.le_refl _) HR.out
        | succ j =>
          obtain ⟨A', y, rfl⟩ : ∃ A' y, A = A' ++ [y] := by
            have hne : A ≠ [] := fun h => by rw [h] at hAl; simp at hAl
            exact ⟨A.dropLast, A.getLast hne, (List.dropLast_concat_getLast hne).symm⟩
          have hA' : A'.length = j := by simpa using hAl
          have GB : wr.heap[gb]? = some (.cells ((A' ++ y :: x :: (B ++ R0)).flatMap Jb.cells ++ tl).toArray 41) := by
            have := GA.out
            rw [List.append_assoc] at this
            exact this
          have hS0 : SwS wr gb off j x y := by have := swS_of GB; rwa [hA', hoff.out] at this
          have hbd : Below wr.heap.size wr wr.drew := (Below.refl _ _).drew
          have hcall := fun W => HP.out W x y ((I.out.all x).1 (by simp)) ((I.out.all y).1 (by simp))
          have jn1 : (0 : Int) ≤ (j : Int) + 1 := by omega
          have jn2 : (j : Int) + 1 < (n : Int) := by omega
          have jn3 : (j : Int) < (n : Int) := by omega
          have jn4 : (0 : Int) < (j : Int) + 1 := by omega
          have jn0 : (0 : Int) ≤ (j : Int) := by omega
          have jw3 : IntKind.i64.wrap (j : Int) = (j : Int) := by rw [IntKind.wrap_i64]; omega
          have jn5 : j < n := by omega
          have jn6 : j + 1 < n := by omega
          have jd : decide ((0 : Int) < (j : Int) + 1) = true := by rw [decide_eq_true_eq]; exact jn4
          go_wp2_with fail
          go_region_held3 (fun w' => (Below wr.heap.size wr w' ∧ SwS w' gb off j x y)) (first | exact ⟨(Below.refl _ _).drew, swS_later hS0 hbd⟩ | exact ⟨(Below.refl _ _).drew.trans (by assumption), swS_later (swS_later hS0 hbd) (by assumption)⟩) (first | (refine (hcall _).mono ?_; rintro e w1 ⟨q, rfl, hq, hb1⟩))
          rename_i hS
          have hb01 : Below wr.heap.size wr w1 := hS.1
          have hS0 : SwS w1 gb off j x y := hS.2
          clear hS hb1
          by_cases hxy : x.ahead y
          · have hq0 : q < 0 := hq.2 hxy
            have G1 := heap_below GB hb01 (heap_lt GB)
            have f1 : ∀ i, w1.frozen? ⟨gb, i, none⟩ = false := fun i => Joins.unfrozen_of_block G1 i
            have I1 : Aside (Ins xs A' x (y :: B) R0) := I.out.step hxy
            have hB1 : Aside ((y :: B).length + j = i) := by have := hBl.out; rw [Aside, List.length_cons]; omega
            have hL1' : off + (j + 1) * 3 + 2 < ((A' ++ y :: x :: (B ++ R0)).flatMap Jb.cells).length := by
              rw [row_len Jb.three, ← hoff.out]; simp; omega
            have hL1 : off + (j + 1) * 3 + 2 < ((A' ++ y :: x :: (B ++ R0)).flatMap Jb.cells ++ tl).length := by rw [List.length_append]; omega
            have G2 := block_three G1 (.int .i64 y.i) (.int .i64 y.e) (.int .i64 y.n) hL1
            have hs1 : splice ((A' ++ y :: x :: (B ++ R0)).flatMap Jb.cells) (off + (j + 1) * 3) [.int .i64 y.i, .int .i64 y.e, .int .i64 y.n] = (A' ++ y :: y :: (B ++ R0)).flatMap Jb.cells := by
              have := splice_flat Jb.three (A' ++ [y]) (B ++ R0) x y
              rw [List.length_append, hA', List.append_assoc, List.append_assoc] at this
              rw [← hoff.out, Nat.zero_add]
              exact this
            rw [splice_tail (by show _ + 3 ≤ _; omega), hs1] at G2
            have hL2' : off + j * 3 + 2 < ((A' ++ y :: y :: (B ++ R0)).flatMap Jb.cells).length := by
              rw [row_len Jb.three, ← hoff.out]; simp; omega
            have hL2 : off + j * 3 + 2 < ((A' ++ y :: y :: (B ++ R0)).flatMap Jb.cells ++ tl).length := by rw [List.length_append]; omega
            have G3 := block_three G2 (.int .i64 x.i) (.int .i64 x.e) (.int .i64 x.n) hL2
            have hs2 : splice ((A' ++ y :: y :: (B ++ R0)).flatMap Jb.cells) (off + j * 3) [.int .i64 x.i, .int .i64 x.e, .int .i64 x.n] = (A' ++ x :: (y :: B ++ R0)).flatMap Jb.cells := by
              have := splice_flat Jb.three A' (y :: (B ++ R0)) y x
              rw [hA'] at this
              rw [← hoff.out, Nat.zero_add]
              exact this
            rw [splice_tail (by show _ + 3 ≤ _; omega), hs2] at G3
            have K3 := (((((KA.out.below hb01).setCell (g := gb) (o := off + (j + 1) * 3) (by simp) (.int .i64 y.i)).setCell (g := gb) (o := off + (j + 1) * 3 + 1) (by simp) (.int .i64 y.e)).setCell (g := gb) (o := off + (j + 1) * 3 + 2) (by simp) (.int .i64 y.n)).setCell (g := gb) (o := off + j * 3) (by simp) (.int .i64 x.i)).setCell (g := gb) (o := off + j * 3 + 1) (by simp) (.int .i64 x.e) |>.setCell (g := gb) (o := off + j * 3 + 2) (by simp) (.int .i64 x.n)
            replace G3 : Aside _ := G3
            replace K3 : Aside _ := K3
            clear HX I hBl GA KA GB G1 G2 hs1 hs2 hL1 hL2 hL1' hL2' hxy hq hb01 hbd hcall HP
            rw [show decide (q < 0) = true from decide_eq_true hq0]
            clear hq0
            go_upto_region 6 with fail
            refine wp_region_noPanic ?_
            refine region_L (fun w' => SwS w' gb off j x y) 15 (by kernel_rfl) (hS0) (fun hHeld => ?_)
            refine anyL_take (i := 0) (v := ?_) rfl (by kernel_rfl) (by kernel_rfl) (by kernel_rfl) (by kernel_rfl) (by kernel_rfl) (fun _ _ _ h => h) (Or.inl ⟨by rfl, ?_⟩) (by assumption) ?_
            rotate_left
            · (intro w0 hSw; (try dsimp only at hSw); go_simp; first | done | with_reducible rfl)
            try simp only [Act.put, List.setIfInBounds_toArray, List.set_cons_zero, List.set_cons_succ]
            refine anyL_take (i := 1) (v := ?_) rfl (by kernel_rfl) (by kernel_rfl) (by kernel_rfl) (by kernel_rfl) (by kernel_rfl) (fun _ _ _ h => h) (Or.inl ⟨by rfl, ?_⟩) (by assumption) ?_
            rotate_left
            · (intro w0 hSw; (try dsimp only at hSw); go_simp; first | done | with_reducible rfl)
            try simp only [Act.put, List.setIfInBounds_toArray, List.set_cons_zero, List.set_cons_succ]
            refine anyL_free (i := 2) (v := ?_) rfl (by kernel_rfl) (by kernel_rfl) (by kernel_rfl) (by kernel_rfl) (fun _ _ _ h => h) (Or.inl ⟨by rfl, ?_⟩) (by assumption) ?_
            rotate_left
            · (intro w0 _; go_simp; first | done | with_reducible rfl)
            try simp only [Act.put, List.setIfInBounds_toArray, List.set_cons_zero, List.set_cons_succ]
            refine anyL_free (i := 3) (v := ?_) rfl (by kernel_rfl) (by kernel_rfl) (by kernel_rfl) (by kernel_rfl) (fun _ _ _ h => h) (Or.inl ⟨by rfl, ?_⟩) (by assumption) ?_
            rotate_left
            · (intro w0 _; go_simp; first | done | with_reducible rfl)
            try simp only [Act.put, List.setIfInBounds_toArray, List.set_cons_zero, List.set_cons_succ]
            refine anyL_free (i := 4) (v := ?_) rfl (by kernel_rfl) (by kernel_rfl) (by kernel_rfl) (by kernel_rfl) (fun _ _ _ h => h) (Or.inl ⟨by rfl, ?_⟩) (by assumption) ?_
            rotate_left
            · (intro w0 _; go_simp; first | done | with_reducible rfl)
            try simp only [Act.put, List.setIfInBounds_toArray, List.set_cons_zero, List.set_cons_succ]
            refine anyL_take (i := 5) (v := ?_) rfl (by kernel_rfl) (by kernel_rfl) (by kernel_rfl) (by kernel_rfl) (by kernel_rfl) (fun _ _ _ h => h) (Or.inl ⟨by rfl, ?_⟩) (by assumption) ?_
            rotate_left
            · (intro w0 hSw; (try dsimp only at hSw); go_simp; first | done | with_reducible rfl)
            try simp only [Act.put, List.setIfInBounds_toArray, List.set_cons_zero, List.set_cons_succ]
            refine anyL_take (i := 6) (v := ?_) rfl (by kernel_rfl) (by kernel_rfl) (by kernel_rfl) (by kernel_rfl) (by kernel_rfl) (fun _ _ _ h => h) (Or.inl ⟨by rfl, ?_⟩) (by assumption) ?_
            rotate_left
            · (intro w0 hSw; (try dsimp only at hSw); go_simp; first | done | with_reducible rfl)
            try simp only [Act.put, List.setIfInBounds_toArray, List.set_cons_zero, List.set_cons_succ]
            refine anyL_take (i := 7) (v := ?_) rfl (by kernel_rfl) (by kernel_rfl) (by kernel_rfl) (by kernel_rfl) (by kernel_rfl) (fun _ _ _ h => h) (Or.inl ⟨by rfl, ?_⟩) (by assumption) ?_
            rotate_left
            · (intro w0 hSw; (try dsimp only at hSw); go_simp; first | done | with_reducible rfl)
            try simp only [Act.put, List.setIfInBounds_toArray, List.set_cons_zero, List.set_cons_succ]
            refine anyL_take (i := 8) (v := ?_) rfl (by kernel_rfl) (by kernel_rfl) (by kernel_rfl) (by kernel_rfl) (by kernel_rfl) (fun _ _ _ h => h) (Or.inl ⟨by rfl, ?_⟩) (by assumption) ?_
            rotate_left
            · (intro w0 hSw; (try dsimp only at hSw); go_simp; first | done | with_reducible rfl)
            try simp only [Act.put, List.setIfInBounds_toArray, List.set_cons_zero, List.set_cons_succ]
            refine anyL_take (i := 9) (v := ?_) rfl (by kernel_rfl) (by kernel_rfl) (by kernel_rfl) (by kernel_rfl) (by kernel_rfl) (fun _ _ _ h => h) (Or.inl ⟨by rfl, ?_⟩) (by assumption) ?_
            rotate_left
            · (intro w0 hSw; (try dsimp only at hSw); go_simp; first | done | with_reducible rfl)
            try simp only [Act.put, List.setIfInBounds_toArray, List.set_cons_zero, List.set_cons_succ]
            refine anyL_free (i := 10) (v := ?_) rfl (by kernel_rfl) (by kernel_rfl) (by kernel_rfl) (by kernel_rfl) (fun _ _ _ h => h) (Or.inl ⟨by rfl, ?_⟩) (by assumption) ?_
            rotate_left
            · (intro w0 _; go_simp; first | done | with_reducible rfl)
            try simp only [Act.put, List.setIfInBounds_toArray, List.set_cons_zero, List.set_cons_succ]
            refine anyL_free (i := 11) (v := ?_) rfl (by kernel_rfl) (by kernel_rfl) (by kernel_rfl) (by kernel_rfl) (fun _ _ _ h => h) (Or.inl ⟨by rfl, ?_⟩) (by assumption) ?_
            rotate_left
            · (intro w0 _; go_simp; first | done | with_reducible rfl)
            try simp only [Act.put, List.setIfInBounds_toArray, List.set_cons_zero, List.set_cons_succ]
            refine anyL_free (i := 12) (v := ?_) rfl (by kernel_rfl) (by kernel_rfl) (by kernel_rfl) (by kernel_rfl) (fun _ _ _ h => h) (Or.inl ⟨by rfl, ?_⟩) (by assumption) ?_
            rotate_left
            · (intro w0 _; go_simp; first | done | with_reducible rfl)
            try simp only [Act.put, List.setIfInBounds_toArray, List.set_cons_zero, List.set_cons_succ]
            refine anyL_take (i := 13) (v := ?_) rfl (by kernel_rfl) (by kernel_rfl) (by kernel_rfl) (by kernel_rfl) (by kernel_rfl) (fun _ _ _ h => h) (Or.inl ⟨by rfl, ?_⟩) (by assumption) ?_
            rotate_left
            · (intro w0 hSw; (try dsimp only at hSw); go_simp; first | done | with_reducible rfl)
            try simp only [Act.put, List.setIfInBounds_toArray, List.set_cons_zero, List.set_cons_succ]
            refine anyL_take (i := 14) (v := ?_) rfl (by kernel_rfl) (by kernel_rfl) (by kernel_rfl) (by kernel_rfl) (by kernel_rfl) (fun _ _ _ h => h) (Or.inl ⟨by rfl, ?_⟩) (by assumption) ?_
            rotate_left
            · (intro w0 hSw; (try dsimp only at hSw); go_simp; first | done | with_reducible rfl)
            try simp only [Act.put, List.setIfInBounds_toArray, List.set_cons_zero, List.set_cons_succ]
            refine anyL_one (i := 15) (by kernel_rfl) rfl (fun K hK => ?_)
            go_simp
            refine hK.out _ _ (fun h => absurd h (by decide +kernel)) (fun _ => ?_)
            clear hK K
            try simp only [Act.put, List.setIfInBounds_toArray, List.set_cons_zero, List.set_cons_succ]
            refine anyL_one (i := 16) (by kernel_rfl) rfl (fun K hK => ?_)
            go_simp
            refine hK.out _ _ (fun h => absurd h (by decide +kernel)) (fun _ => ?_)
            clear hK K
            try simp only [Act.put, List.setIfInBounds_toArray, List.set_cons_zero, List.set_cons_succ]
            refine anyL_one (i := 17) (by kernel_rfl) rfl (fun K hK => ?_)
            go_simp
            refine hK.out _ _ (fun h => absurd h (by decide +kernel)) (fun _ => ?_)
            clear hK K
            try simp only [Act.put, List.setIfInBounds_toArray, List.set_cons_zero, List.set_cons_succ]
            refine anyL_done (by kernel_rfl) ?_ _
            refine NoPanic.normal ?_
            try simp only [Act.put, List.setIfInBounds_toArray, List.set_cons_zero, List.set_cons_succ]
            go_wp2
            go_roundg j
            case measure => omega
            case rel => exact ⟨j, A', y :: B, by go_num, by omega, Nat.le_refl _, hA', I1, hB1, heap_below G3.out (Below.refl _ _).drew (heap_lt G3.out), K3.out.below (Below.refl _ _).drew⟩
          · have hq0 : ¬ q < 0 := fun h => hxy (hq.1 h)
            have HR : Hid (Row ((A' ++ [y]) ++ x :: B)) := I.out.placed hxy
            clear I hBl GA KA GB hcall HP hS0 hbd
            rw [show decide (q < 0) = false from decide_eq_false hq0]
            clear hq0
            go_wp2
            go_roundg (n + 1 - (i + 1))
            case measure => omega
            case rel => exact HX.out _ _ hb01 (by omega) (Nat.le_refl _) HR.out
    · have hin : i = n ∨ i = n + 1 := by omega
      have HY : Aside (Row ys) := by
        have := Y.out.1
        rwa [List.take_of_length_le (by have := Y.out.2.1; omega)] at this
      go_wp2
      have h0 : off = 0 := hoff.out.symm
      subst h0
      exact bodyPost_end (v := .tuple #[]) (by simp [results, go_sem]) rfl ⟨rfl, ys, HY.out, Y.out.2.2.1, Y.out.2.1, G.out, KK.out⟩

end Go.Proofs.Ytmfoonalehmjoab
