/- For the law. -/
import Derived.Test.YtmoaobfmopimlafGreatDoorM46
set_option linter.unusedSimpArgs false
set_option linter.unusedVariables false
namespace Go.Proofs.YtmoaobfmopimlafGreatDoor
open Go.RowKit
section
open Go.Shelf
structure Ins (xs : List Jb) (A : List Jb) (x : Jb) (B R : List Jb) : Prop where
 row : Row (A ++ B)
 ahead : ∀ y, y ∈ B → x.ahead y
 all : ∀ z, z ∈ A ++ x :: (B ++ R) ↔ z ∈ xs
 len : (A ++ x :: (B ++ R)).length = xs.length
 apart : (A ++ x :: (B ++ R)).Pairwise (fun y z => y.i ≠ z.i)
theorem Row.left {a b : List Jb} : Row (a ++ b) → Row a := by
 intro h
 induction a with
 | nil => trivial
 | cons x r ih => exact ⟨fun y hy => h.1 y (List.mem_append_left _ hy), ih h.2⟩
theorem Row.mid : ∀ {a b : List Jb}, Row (a ++ b) → ∀ x, x ∈ a → ∀ y, y ∈ b → x.ahead y
 | [], _, _, x, hx, _, _ => by cases hx
 | z :: r, b, h, x, hx, y, hy => by
  rcases List.mem_cons.1 hx with rfl | hx
  ·exact h.1 y (List.mem_append_right _ hy)
  ·exact Row.mid (a := r) h.2 x hx y hy
theorem row_right : ∀ {a b : List Jb}, Row (a ++ b) → Row b
 | [], _, h => h
 | _ :: r, _, h => row_right (a := r) h.2
theorem ahead_trans {x y z : Jb} (h1 : x.ahead y) (h2 : y.ahead z) : x.ahead z := by
 unfold Jb.ahead at *
 omega
theorem ahead_total {x y : Jb} (h : x.i ≠ y.i) : ¬ x.ahead y → y.ahead x := by
 unfold Jb.ahead
 omega
theorem Ins.step {xs A B R : List Jb} {x y : Jb} (h : Ins xs (A ++ [y]) x B R) (hxy : x.ahead y) : Ins xs A x (y :: B) R := by
 have e : (A ++ [y]) ++ x :: (B ++ R) = A ++ ([y] ++ x :: (B ++ R)) := by simp
 refine ⟨by simpa using h.row, fun z hz => ?_, fun z => ?_, ?_, ?_⟩
 ·rcases List.mem_cons.1 hz with rfl | hz
  ·exact hxy
  ·exact h.ahead z hz
 ·rw [← h.all z]
  simp only [List.mem_append, List.mem_cons, List.not_mem_nil, or_false]
  constructor
  ·rintro (h1 | h1 | (h1 | h1) | h1)
   ·exact Or.inl (Or.inl h1)
   ·exact Or.inr (Or.inl h1)
   ·exact Or.inl (Or.inr h1)
   ·exact Or.inr (Or.inr (Or.inl h1))
   ·exact Or.inr (Or.inr (Or.inr h1))
  ·rintro ((h1 | h1) | h1 | h1 | h1)
   ·exact Or.inl h1
   ·exact Or.inr (Or.inr (Or.inl (Or.inl h1)))
   ·exact Or.inr (Or.inl h1)
   ·exact Or.inr (Or.inr (Or.inl (Or.inr h1)))
   ·exact Or.inr (Or.inr (Or.inr h1))
 ·have := h.len
  simp at this ⊢
  omega
 ·have hp : (A ++ x :: (y :: B ++ R)).Perm ((A ++ [y]) ++ x :: (B ++ R)) := by
   rw [List.append_assoc]
   refine List.Perm.append_left A ?_
   exact List.Perm.swap y x (B ++ R)
  exact hp.symm.pairwise h.apart (fun h => Ne.symm h)
theorem Ins.atFront {xs B R : List Jb} {x : Jb} (h : Ins xs [] x B R) : Row (x :: B) := ⟨h.ahead, h.row⟩
theorem Ins.placed {xs A B R : List Jb} {x y : Jb} (h : Ins xs (A ++ [y]) x B R) (hxy : ¬ x.ahead y) : Row ((A ++ [y]) ++ x :: B) := by
 have hy : y.ahead x := by
  refine ahead_total ?_ hxy
  have := h.apart
  rw [List.pairwise_append] at this
  exact fun e => this.2.2 y (by simp) x (by simp) e.symm
 refine row_append (Row.left h.row) ⟨h.ahead, ?_⟩ (fun u hu v hv => ?_)
 ·have := h.row
  have := row_right this
  exact this
 ·have hux : u.ahead x := by
   rcases List.mem_append.1 hu with hu | hu
   ·have : Row (A ++ [y]) := Row.left h.row
    exact ahead_trans (Row.mid this u hu y (by simp)) hy
   ·obtain rfl : u = y := by simpa using hu
    exact hy
  rcases List.mem_cons.1 hv with rfl | hv
  ·exact hux
  ·exact Row.mid h.row u hu v hv
theorem Ins.next {xs P R : List Jb} {x : Jb} (hr : Row P) (hall : ∀ z, z ∈ P ++ x :: R ↔ z ∈ xs) (hlen : (P ++ x :: R).length = xs.length) (hap : (P ++ x :: R).Pairwise (fun y z => y.i ≠ z.i)) : Ins xs P x [] R :=
 ⟨by simpa using hr, (fun y hy => by cases hy), by simpa using hall, by simpa using hlen, by simpa using hap⟩
end
section
open Go.Shelf
abbrev SwS (w : World) (gb off j : Nat) (x y : Jb) : Prop :=
 (w.cell? ⟨gb, off + (j + 1) * 3, none⟩ = some (.int .i64 x.i) ∧ w.cell? ⟨gb, off + (j + 1) * 3 + 1, none⟩ = some (.int .i64 x.e) ∧ w.cell? ⟨gb, off + (j + 1) * 3 + 2, none⟩ = some (.int .i64 x.n)) ∧
 w.cell? ⟨gb, off + j * 3, none⟩ = some (.int .i64 y.i) ∧ w.cell? ⟨gb, off + j * 3 + 1, none⟩ = some (.int .i64 y.e) ∧ w.cell? ⟨gb, off + j * 3 + 2, none⟩ = some (.int .i64 y.n)
theorem splice_tailJ {L tl cs : List Value} {o : Nat} (h : o + cs.length ≤ L.length) : splice (L ++ tl) o cs = splice L o cs ++ tl := by
 unfold splice
 rw [List.take_append_of_le_length (by omega), List.drop_append_of_le_length (by omega)]
 simp
theorem swS_of {w : World} {gb : Nat} {A B : List Jb} {x y : Jb} {tl : List Value} (h : w.heap[gb]? = some (.cells ((A ++ y :: x :: B).flatMap Jb.cells ++ tl).toArray 120)) : SwS w gb 0 A.length x y := by
 have hr : RowAt Jb.cells 3 w gb 0 (A ++ y :: x :: B) := rowAt_block Jb.three h ⟨tl, rfl⟩
 have e1 : (A ++ y :: x :: B)[A.length]? = some y := by simp
 have e2 : (A ++ y :: x :: B)[A.length + 1]? = some x := by rw [List.getElem?_append_right (by omega)]; simp
 exact ⟨⟨hr _ x e2 0 _ rfl, hr _ x e2 1 _ rfl, hr _ x e2 2 _ rfl⟩, hr _ y e1 0 _ rfl, hr _ y e1 1 _ rfl, hr _ y e1 2 _ rfl⟩
theorem swS_later {w w' : World} {gb off j : Nat} {x y : Jb} (h : SwS w gb off j x y) (hb : Below w.heap.size w w') : SwS w' gb off j x y :=
 ⟨⟨cell_later hb h.1.1, cell_later hb h.1.2.1, cell_later hb h.1.2.2⟩, cell_later hb h.2.1, cell_later hb h.2.2.1, cell_later hb h.2.2.2⟩
set_option maxHeartbeats 8000000 in
set_option maxRecDepth 100000 in
theorem isort (g : Nat) (lb : Array Value) (eg : ∀ args w, (callFunc g args).run Tryz.prog w = .ok (.enter g args) w) (gb c n : Nat) (xs : List Jb) (tl : List Value) (w : World) (hl : xs.length = n) (hn : n ≤ 12) (hap : xs.Pairwise (fun y z => y.i ≠ z.i))
  (hg : w.heap[gb]? = some (.cells (xs.flatMap Jb.cells ++ tl).toArray 120))
  (hp : ∀ (W : World) (x y : Jb), x ∈ xs → y ∈ xs → Calls Tryz.prog g (#[x.val, y.val] ++ lb) W fun e w' => ∃ q : Int, e = .returned (.int .i64 q) ∧ (q < 0 ↔ x.ahead y) ∧ Below W.heap.size W w') :
  Calls Tryz.prog 253 #[.slice (some ⟨gb, 0, none⟩) n c, .int .i64 0, .int .i64 n, .func (.func g) #[] lb] w fun e w' => e = .returned (.tuple #[]) ∧ ∃ ys, Row ys ∧ (∀ z, z ∈ ys ↔ z ∈ xs) ∧ ys.length = n ∧ w'.heap[gb]? = some (.cells (ys.flatMap Jb.cells ++ tl).toArray 120) ∧ Kept [gb] w w' := by
 have HP : Aside _ := hp
 have HG : Aside _ := hg
 have HF : Hid (xs.length = n ∧ xs.Pairwise (fun y z => y.i ≠ z.i)) := ⟨hl, hap⟩
 clear hp hg hl hap
 obtain ⟨off, hoff⟩ : ∃ off : Nat, Hid (0 = off) := ⟨_, rfl⟩
 rw [hoff.out]
 go_enter Tryz.func253, Tryz.ntmps253
 go_wp2
 go_loopg [8, 9] (n + 1) (fun gg s8 _ wr => ∃ (i : Nat) (ys : List Jb), s8 = .int .i64 i ∧ 1 ≤ i ∧ i ≤ n + 1 ∧ n + 1 - i ≤ gg ∧ Aside (wr.heap[gb]? = some (.cells (ys.flatMap Jb.cells ++ tl).toArray 120)) ∧ Aside (Kept [gb] w wr) ∧ Aside (Row (ys.take i) ∧ ys.length = n ∧ (∀ z, z ∈ ys ↔ z ∈ xs) ∧ ys.Pairwise (fun y z => y.i ≠ z.i)))
 case atStart =>
  refine ⟨1, xs, by go_num, Nat.le_refl _, by omega, by omega, HG.out, Kept.refl _ _, ⟨?_, HF.out.1, fun _ => Iff.rfl, HF.out.2⟩⟩
  cases xs with
  | nil => trivial
  | cons x r => exact ⟨fun y hy => by simp at hy, by simp [Row]⟩
 case round =>
  obtain ⟨i, ys, rfl, hi1, hi2, hgg, G, KK, Y⟩ := hrel
  by_cases hlt : i < n
  ·obtain ⟨x, hx⟩ : ∃ x, ys[i]? = some x := ⟨ys[i]'(by have := Y.out.2.1; omega), List.getElem?_eq_getElem _⟩
   have e : ys = ys.take i ++ x :: ys.drop (i + 1) := by rw [← drop_at hx, List.take_append_drop]
   have I0 : Aside (Ins xs (ys.take i) x [] (ys.drop (i + 1))) := by
    refine Ins.next Y.out.1 ?_ ?_ ?_
    ·rw [← e]; exact Y.out.2.2.1
    ·rw [← e, Y.out.2.1, HF.out.1]
    ·rw [← e]; exact Y.out.2.2.2
   have hti : (ys.take i).length = i := by rw [List.length_take]; have := Y.out.2.1; omega
   have G0 : Aside (wr.heap[gb]? = some (.cells ((ys.take i ++ x :: ([] ++ ys.drop (i + 1))).flatMap Jb.cells ++ tl).toArray 120)) := by
    rw [List.nil_append, ← e]; exact G.out
   generalize ys.take i = A0 at *
   generalize ys.drop (i + 1) = R0 at *
   clear G Y e hx
   go_wp2_with fail
   go_loopg [9] i (fun gg' s9 wi => ∃ (j : Nat) (A B : List Jb), s9 = .int .i64 j ∧ j ≤ i ∧ j ≤ gg' ∧ A.length = j ∧ Aside (Ins xs A x B R0) ∧ Aside (B.length + j = i) ∧ Aside (wi.heap[gb]? = some (.cells ((A ++ x :: (B ++ R0)).flatMap Jb.cells ++ tl).toArray 120)) ∧ Aside (Kept [gb] w wi))
   case atStart => exact ⟨i, A0, [], rfl, Nat.le_refl _, Nat.le_refl _, hti, I0, (show Aside _ from by simp [Aside]), G0, KK⟩
   case round =>
    obtain ⟨j, A, B, rfl, hji, hgj, hAl, I, hBl, GA, KA⟩ := hrel
    have HX : Hid (∀ W' gg0, Below wr.heap.size wr W' → i + 1 ≤ n + 1 → n + 1 - (i + 1) ≤ gg0 → Row (A ++ x :: B) → ∃ (i' : Nat) (ys : List Jb), Value.int .i64 ((i : Int) + 1) = .int .i64 i' ∧ 1 ≤ i' ∧ i' ≤ n + 1 ∧ n + 1 - i' ≤ gg0 ∧ Aside (W'.heap[gb]? = some (.cells (ys.flatMap Jb.cells ++ tl).toArray 120)) ∧ Aside (Kept [gb] w W') ∧ Aside (Row (ys.take i') ∧ ys.length = n ∧ (∀ z, z ∈ ys ↔ z ∈ xs) ∧ ys.Pairwise (fun y z => y.i ≠ z.i))) := fun W' gg0 q0 q1 q2 q3 => by
     refine ⟨i + 1, A ++ x :: (B ++ R0), by go_num, by omega, q1, q2, heap_below GA.out q0 (heap_lt GA.out), KA.out.below q0, ⟨?_, by rw [I.out.len]; exact HF.out.1, I.out.all, I.out.apart⟩⟩
     have e1 : A ++ x :: (B ++ R0) = (A ++ x :: B) ++ R0 := by simp
     have e2 : (A ++ x :: B).length = i + 1 := by have := hBl.out; rw [List.length_append, List.length_cons, hAl]; omega
     rw [e1, List.take_append_of_le_length (by omega), List.take_of_length_le (by omega)]
     exact q3
    cases j with
    | zero =>
     have hA : A = [] := List.length_eq_zero_iff.1 hAl
     have HR : Hid (Row (A ++ x :: B)) := by rw [Hid, hA]; have := I.out; rw [hA] at this; exact this.atFront
     clear I GA hBl hAl
     go_wp2_with fail
     go_quiet (fail)
     go_wp2
     go_roundg (n + 1 - (i + 1))
     case measure => omega
     case rel => exact HX.out _ _ (below_drewN (Below.refl _ _) _) (by omega) (Nat.le_refl _) HR.out
    | succ j =>
     obtain ⟨A', y, rfl⟩ : ∃ A' y, A = A' ++ [y] := by
      have hne : A ≠ [] := fun h => by rw [h] at hAl; simp at hAl
      exact ⟨A.dropLast, A.getLast hne, (List.dropLast_concat_getLast hne).symm⟩
     have hA' : A'.length = j := by simpa using hAl
     have GB : wr.heap[gb]? = some (.cells ((A' ++ y :: x :: (B ++ R0)).flatMap Jb.cells ++ tl).toArray 120) := by
      have := GA.out
      rw [List.append_assoc] at this
      exact this
     have hS0 : SwS wr gb off j x y := by have := swS_of GB; rwa [hA', hoff.out] at this
     have hbd : Below wr.heap.size wr wr.drew := (Below.refl _ _).drew
     have hcall := fun W => HP.out W x y ((I.out.all x).1 (by simp)) ((I.out.all y).1 (by simp))
     have jn1 : (0 : Int) ≤ (j : Int) + 1 := by omega
     have jn2 : (j : Int) + 1 < (n : Int) := by omega
     have jn3 : (j : Int) < (n : Int) := by omega
     have jn4 : (0 : Int) < (j : Int) + 1 := by omega
     have jn0 : (0 : Int) ≤ (j : Int) := by omega
     have jw3 : IntKind.i64.wrap (j : Int) = (j : Int) := by rw [IntKind.wrap_i64]; omega
     have jn5 : j < n := by omega
     have jn6 : j + 1 < n := by omega
     have jd : decide ((0 : Int) < (j : Int) + 1) = true := by rw [decide_eq_true_eq]; exact jn4
     go_wp2_with fail
     go_region_held3 (fun w' => (Below wr.heap.size wr w' ∧ SwS w' gb off j x y)) (first | exact ⟨(Below.refl _ _).drew, swS_later hS0 hbd⟩ | exact ⟨(Below.refl _ _).drew.trans (by assumption), swS_later (swS_later hS0 hbd) (by assumption)⟩) (first | (refine (hcall _).mono ?_; rintro e w1 ⟨q, rfl, hq, hb1⟩))
     rename_i hS
     have hb01 : Below wr.heap.size wr w1 := hS.1
     have hS0 : SwS w1 gb off j x y := hS.2
     clear hS hb1
     by_cases hxy : x.ahead y
     ·have hq0 : q < 0 := hq.2 hxy
      have G1 := heap_below GB hb01 (heap_lt GB)
      have f1 := fun i => Joins.unfrozen_of_block G1 i
      have I1 : Aside (Ins xs A' x (y :: B) R0) := I.out.step hxy
      have hB1 : Aside ((y :: B).length + j = i) := by have := hBl.out; rw [Aside, List.length_cons]; omega
      have hL1' : off + (j + 1) * 3 + 2 < ((A' ++ y :: x :: (B ++ R0)).flatMap Jb.cells).length := by
       rw [row_len Jb.three, ← hoff.out]; simp; omega
      have hL1 : off + (j + 1) * 3 + 2 < ((A' ++ y :: x :: (B ++ R0)).flatMap Jb.cells ++ tl).length := by rw [List.length_append]; omega
      have G2 := block_three G1 (.int .i64 y.i) (.int .i64 y.e) (.int .i64 y.n) hL1
      have hs1 : splice ((A' ++ y :: x :: (B ++ R0)).flatMap Jb.cells) (off + (j + 1) * 3) [.int .i64 y.i, .int .i64 y.e, .int .i64 y.n] = (A' ++ y :: y :: (B ++ R0)).flatMap Jb.cells := by
       have := splice_flat Jb.three (A' ++ [y]) (B ++ R0) x y
       rw [List.length_append, hA', List.append_assoc, List.append_assoc] at this
       rw [← hoff.out, Nat.zero_add]
       exact this
      rw [splice_tailJ (by show _ + 3 ≤ _; omega), hs1] at G2
      have hL2' : off + j * 3 + 2 < ((A' ++ y :: y :: (B ++ R0)).flatMap Jb.cells).length := by
       rw [row_len Jb.three, ← hoff.out]; simp; omega
      have hL2 : off + j * 3 + 2 < ((A' ++ y :: y :: (B ++ R0)).flatMap Jb.cells ++ tl).length := by rw [List.length_append]; omega
      have G3 := block_three G2 (.int .i64 x.i) (.int .i64 x.e) (.int .i64 x.n) hL2
      have hs2 : splice ((A' ++ y :: y :: (B ++ R0)).flatMap Jb.cells) (off + j * 3) [.int .i64 x.i, .int .i64 x.e, .int .i64 x.n] = (A' ++ x :: (y :: B ++ R0)).flatMap Jb.cells := by
       have := splice_flat Jb.three A' (y :: (B ++ R0)) y x
       rw [hA'] at this
       rw [← hoff.out, Nat.zero_add]
       exact this
      rw [splice_tailJ (by show _ + 3 ≤ _; omega), hs2] at G3
      have K3 := (((((KA.out.below hb01).setCell (g := gb) (o := off + (j + 1) * 3) (by simp) (.int .i64 y.i)).setCell (g := gb) (o := off + (j + 1) * 3 + 1) (by simp) (.int .i64 y.e)).setCell (g := gb) (o := off + (j + 1) * 3 + 2) (by simp) (.int .i64 y.n)).setCell (g := gb) (o := off + j * 3) (by simp) (.int .i64 x.i)).setCell (g := gb) (o := off + j * 3 + 1) (by simp) (.int .i64 x.e) |>.setCell (g := gb) (o := off + j * 3 + 2) (by simp) (.int .i64 x.n)
      replace G3 : Aside _ := G3
      replace K3 : Aside _ := K3
      clear HX I hBl GA KA GB G1 G2 hs1 hs2 hL1 hL2 hL1' hL2' hxy hq hb01 hbd hcall HP
      rw [show decide (q < 0) = true from decide_eq_true hq0]
      clear hq0
      go_upto_region 6 with fail
      refine wp_region_noPanic ?_
      refine region_L (fun w' => SwS w' gb off j x y) 15 (by kernel_rfl) (hS0) (fun hHeld => ?_)
      refine tl 0 (v := ?_) rfl (by kernel_rfl) (by rfl) (by assumption) (fun _ _ _ h => h) ?_ ?_
      rotate_left
      ·(intro w0 hSw; (try dsimp only at hSw); go_simp; first | done | with_reducible rfl)
      try simp only [Act.put, qa, qb, qc]
      refine tl 1 (v := ?_) rfl (by kernel_rfl) (by rfl) (by assumption) (fun _ _ _ h => h) ?_ ?_
      rotate_left
      ·(intro w0 hSw; (try dsimp only at hSw); go_simp; first | done | with_reducible rfl)
      try simp only [Act.put, qa, qb, qc]
      refine anyL_free (i := 2) (v := ?_) rfl (by kernel_rfl) (by kernel_rfl) (by kernel_rfl) (by kernel_rfl) (fun _ _ _ h => h) (Or.inl ⟨by rfl, ?_⟩) (by assumption) ?_
      rotate_left
      ·(intro w0 _; go_simp; first | done | with_reducible rfl)
      try simp only [Act.put, qa, qb, qc]
      refine anyL_free (i := 3) (v := ?_) rfl (by kernel_rfl) (by kernel_rfl) (by kernel_rfl) (by kernel_rfl) (fun _ _ _ h => h) (Or.inl ⟨by rfl, ?_⟩) (by assumption) ?_
      rotate_left
      ·(intro w0 _; go_simp; first | done | with_reducible rfl)
      try simp only [Act.put, qa, qb, qc]
      refine anyL_free (i := 4) (v := ?_) rfl (by kernel_rfl) (by kernel_rfl) (by kernel_rfl) (by kernel_rfl) (fun _ _ _ h => h) (Or.inl ⟨by rfl, ?_⟩) (by assumption) ?_
      rotate_left
      ·(intro w0 _; go_simp; first | done | with_reducible rfl)
      try simp only [Act.put, qa, qb, qc]
      refine tl 5 (v := ?_) rfl (by kernel_rfl) (by rfl) (by assumption) (fun _ _ _ h => h) ?_ ?_
      rotate_left
      ·(intro w0 hSw; (try dsimp only at hSw); go_simp; first | done | with_reducible rfl)
      try simp only [Act.put, qa, qb, qc]
      refine tl 6 (v := ?_) rfl (by kernel_rfl) (by rfl) (by assumption) (fun _ _ _ h => h) ?_ ?_
      rotate_left
      ·(intro w0 hSw; (try dsimp only at hSw); go_simp; first | done | with_reducible rfl)
      try simp only [Act.put, qa, qb, qc]
      refine tl 7 (v := ?_) rfl (by kernel_rfl) (by rfl) (by assumption) (fun _ _ _ h => h) ?_ ?_
      rotate_left
      ·(intro w0 hSw; (try dsimp only at hSw); go_simp; first | done | with_reducible rfl)
      try simp only [Act.put, qa, qb, qc]
      refine tl 8 (v := ?_) rfl (by kernel_rfl) (by rfl) (by assumption) (fun _ _ _ h => h) ?_ ?_
      rotate_left
      ·(intro w0 hSw; (try dsimp only at hSw); go_simp; first | done | with_reducible rfl)
      try simp only [Act.put, qa, qb, qc]
      refine tl 9 (v := ?_) rfl (by kernel_rfl) (by rfl) (by assumption) (fun _ _ _ h => h) ?_ ?_
      rotate_left
      ·(intro w0 hSw; (try dsimp only at hSw); go_simp; first | done | with_reducible rfl)
      try simp only [Act.put, qa, qb, qc]
      refine anyL_free (i := 10) (v := ?_) rfl (by kernel_rfl) (by kernel_rfl) (by kernel_rfl) (by kernel_rfl) (fun _ _ _ h => h) (Or.inl ⟨by rfl, ?_⟩) (by assumption) ?_
      rotate_left
      ·(intro w0 _; go_simp; first | done | with_reducible rfl)
      try simp only [Act.put, qa, qb, qc]
      refine anyL_free (i := 11) (v := ?_) rfl (by kernel_rfl) (by kernel_rfl) (by kernel_rfl) (by kernel_rfl) (fun _ _ _ h => h) (Or.inl ⟨by rfl, ?_⟩) (by assumption) ?_
      rotate_left
      ·(intro w0 _; go_simp; first | done | with_reducible rfl)
      try simp only [Act.put, qa, qb, qc]
      refine anyL_free (i := 12) (v := ?_) rfl (by kernel_rfl) (by kernel_rfl) (by kernel_rfl) (by kernel_rfl) (fun _ _ _ h => h) (Or.inl ⟨by rfl, ?_⟩) (by assumption) ?_
      rotate_left
      ·(intro w0 _; go_simp; first | done | with_reducible rfl)
      try simp only [Act.put, qa, qb, qc]
      refine tl 13 (v := ?_) rfl (by kernel_rfl) (by rfl) (by assumption) (fun _ _ _ h => h) ?_ ?_
      rotate_left
      ·(intro w0 hSw; (try dsimp only at hSw); go_simp; first | done | with_reducible rfl)
      try simp only [Act.put, qa, qb, qc]
      refine tl 14 (v := ?_) rfl (by kernel_rfl) (by rfl) (by assumption) (fun _ _ _ h => h) ?_ ?_
      rotate_left
      ·(intro w0 hSw; (try dsimp only at hSw); go_simp; first | done | with_reducible rfl)
      try simp only [Act.put, qa, qb, qc]
      refine anyL_one (i := 15) (by kernel_rfl) rfl (fun K hK => ?_)
      go_simp
      refine hK.out _ _ (fun h => absurd h (by decide +kernel)) (fun _ => ?_)
      clear hK K
      try simp only [Act.put, qa, qb, qc]
      refine anyL_one (i := 16) (by kernel_rfl) rfl (fun K hK => ?_)
      go_simp
      refine hK.out _ _ (fun h => absurd h (by decide +kernel)) (fun _ => ?_)
      clear hK K
      try simp only [Act.put, qa, qb, qc]
      refine anyL_one (i := 17) (by kernel_rfl) rfl (fun K hK => ?_)
      go_simp
      refine hK.out _ _ (fun h => absurd h (by decide +kernel)) (fun _ => ?_)
      clear hK K
      try simp only [Act.put, qa, qb, qc]
      refine anyL_done (by kernel_rfl) ?_ _
      refine NoPanic.normal ?_
      try simp only [Act.put, qa, qb, qc]
      go_wp2
      go_roundg j
      case measure => omega
      case rel => exact ⟨j, A', y :: B, by go_num, by omega, Nat.le_refl _, hA', I1, hB1, heap_below G3.out (Below.refl _ _).drew (heap_lt G3.out), K3.out.below (Below.refl _ _).drew⟩
     ·have hq0 : ¬ q < 0 := fun h => hxy (hq.1 h)
      have HR : Hid (Row ((A' ++ [y]) ++ x :: B)) := I.out.placed hxy
      clear I hBl GA KA GB hcall HP hS0 hbd
      rw [show decide (q < 0) = false from decide_eq_false hq0]
      clear hq0
      go_wp2
      go_roundg (n + 1 - (i + 1))
      case measure => omega
      case rel => exact HX.out _ _ hb01 (by omega) (Nat.le_refl _) HR.out
  ·have hin : i = n ∨ i = n + 1 := by omega
   have HY : Aside (Row ys) := by
    have := Y.out.1
    rwa [List.take_of_length_le (by have := Y.out.2.1; omega)] at this
   go_wp2
   have h0 : off = 0 := hoff.out.symm
   subst h0
   exact bodyPost_end (v := .tuple #[]) (by simp [results, go_sem]) rfl ⟨rfl, ys, HY.out, Y.out.2.2.1, Y.out.2.1, G.out, KK.out⟩
end
section
open Go.Shelf
set_option maxHeartbeats 2000000 in
theorem pdq (g : Nat) (lb : Array Value) (v : Value) (n : Nat) (lim : Int) (w : World) (R : World → Prop) (hv : ∃ a c, v = .slice a n c) (hn : n ≤ 12)
  (hs : Calls Tryz.prog 253 #[v, .int .i64 0, .int .i64 n, .func (.func g) #[] lb] w fun e w' => e = .returned (.tuple #[]) ∧ R w') :
  Calls Tryz.prog 224 #[v, .int .i64 0, .int .i64 n, .int .i64 lim, .func (.func g) #[] lb] w fun e w' => e = .returned (.tuple #[]) ∧ R w' := by
 obtain ⟨a, c, rfl⟩ := hv
 have hn' : (n : Int) ≤ 12 := by omega
 go_enter Tryz.func224, Tryz.ntmps224
 go_wp2_with fail
 refine wp_loop_once ?_
 go_wp2_with fail
 refine hs.mono ?_
 rintro e w1 ⟨rfl, hR⟩
 go_wp2
 exact bodyPost_ret (v := .tuple #[]) (by simp [results, go_sem]) rfl ⟨rfl, hR⟩
set_option maxHeartbeats 4000000 in
set_option maxRecDepth 100000 in
theorem bitsLen64 (n : Nat) (hn : n ≤ 12) (w : World) : Calls Tryz.prog 246 #[.int .u64 n] w fun e w' => ∃ q : Int, e = .returned (.int .i64 q) ∧ w' = w := by
 obtain rfl | rfl | rfl | rfl | rfl | rfl | rfl | rfl | rfl | rfl | rfl | rfl | rfl : n = 0 ∨ n = 1 ∨ n = 2 ∨ n = 3 ∨ n = 4 ∨ n = 5 ∨ n = 6 ∨ n = 7 ∨ n = 8 ∨ n = 9 ∨ n = 10 ∨ n = 11 ∨ n = 12 := by omega
 all_goals
  go_enter Tryz.func246, Tryz.ntmps246
  go_wp2
  go_ret
  exact ⟨_, rfl, rfl⟩
set_option maxHeartbeats 2000000 in
theorem bitsLen (n : Nat) (hn : n ≤ 12) (w : World) : Calls Tryz.prog 225 #[.int .u64 n] w fun e w' => ∃ q : Int, e = .returned (.int .i64 q) ∧ w' = w := by
 have hl := bitsLen64 n hn w
 go_enter Tryz.func225, Tryz.ntmps225
 go_wp2_with fail
 refine hl.mono ?_
 rintro e w1 ⟨q, rfl, rfl⟩
 go_wp2
 go_ret
 exact ⟨_, rfl, rfl⟩
set_option maxHeartbeats 2000000 in
theorem sortF (g : Nat) (lb : Array Value) (v : Value) (n : Nat) (w : World) (R : World → Prop) (hv : ∃ a c, v = .slice a n c) (hn : n ≤ 12)
  (hs : Calls Tryz.prog 253 #[v, .int .i64 0, .int .i64 n, .func (.func g) #[] lb] w fun e w' => e = .returned (.tuple #[]) ∧ R w') :
  Calls Tryz.prog 203 #[v, .func (.func g) #[] lb] w fun e w' => e = .returned (.tuple #[]) ∧ R w' := by
 have hp := fun lim => pdq g lb v n lim w R hv hn hs
 have hl := bitsLen n hn w
 obtain ⟨a, c, rfl⟩ := hv
 have hn' : (n : Int) ≤ 12 := by omega
 clear hs
 go_enter Tryz.func203, Tryz.ntmps203
 go_wp2_with fail
 refine hl.mono ?_
 rintro e w1 ⟨q, rfl, rfl⟩
 go_wp2_with fail
 refine (hp _).mono ?_
 rintro e w2 ⟨rfl, hR⟩
 go_wp2
 exact bodyPost_end (v := .tuple #[]) (by simp [results, go_sem]) rfl ⟨rfl, hR⟩
end
section
open Go.Shelf
theorem srt_apart : ∀ {l : Int} {js : List Jb}, Srt l js → js.Pairwise (fun y z => y.i ≠ z.i)
 | _, [], _ => List.Pairwise.nil
 | _, x :: r, h => List.Pairwise.cons (fun y hy => by have := Srt.above h.2 y hy; omega) (srt_apart h.2)
def late (t : Int) (js : List Jb) : List Jb := js.filter fun y => decide (y.n ≤ t)
theorem late_row {js ys : List Jb} {rs : List Rg} {t : Int} (hok : Ok js rs) (hr : Row ys) (hm : ∀ z, z ∈ ys ↔ z ∈ late t js) : ys = dueOf js t := by
 refine row_ext hr (dueOf_row t hok.srt) fun z => ?_
 rw [hm z, dueOf_mem, late, List.mem_filter]
 simp
end
section
open Go.Shelf
set_option maxHeartbeats 1000000 in
theorem isNaN_any (x : Int) (w : World) : Calls Tryz.prog 262 #[.int .i64 x] w fun e w' => e = .returned (.bool false) ∧ w' = w := by
 go_enter Tryz.func262, Tryz.ntmps262
 go_wp2
 go_ret
 exact ⟨by simp, rfl⟩
def cmp3 (x y : Int) : Int := if x < y then -1 else if y < x then 1 else 0
set_option maxHeartbeats 1000000 in
theorem compare_any (x y : Int) (w : World) : Calls Tryz.prog 227 #[.int .i64 x, .int .i64 y] w fun e w' => e = .returned (.int .i64 (cmp3 x y)) ∧ w' = w := by
 have h1 := isNaN_any x w
 have h2 := isNaN_any y w
 obtain ⟨r, hr⟩ : ∃ r, Hid (cmp3 x y = r) := ⟨_, rfl⟩
 rw [hr.out]
 by_cases hlt : x < y
 ·have HR : Hid (r = -1) := by rw [Hid, ← hr.out, cmp3, if_pos hlt]
  go_enter Tryz.func227, Tryz.ntmps227
  go_wp2_with fail
  refine h1.mono ?_
  rintro e w1 ⟨rfl, rfl⟩
  go_wp2_with fail
  refine h2.mono ?_
  rintro e w2 ⟨rfl, rfl⟩
  go_wp2
  go_ret
  exact ⟨by rw [HR.out]; rfl, rfl⟩
 ·by_cases hgt : y < x
  ·have HR : Hid (r = 1) := by rw [Hid, ← hr.out, cmp3, if_neg hlt, if_pos hgt]
   go_enter Tryz.func227, Tryz.ntmps227
   go_wp2_with fail
   refine h1.mono ?_
   rintro e w1 ⟨rfl, rfl⟩
   go_wp2_with fail
   refine h2.mono ?_
   rintro e w2 ⟨rfl, rfl⟩
   go_wp2
   go_ret
   exact ⟨by rw [HR.out]; rfl, rfl⟩
  ·have HR : Hid (r = 0) := by rw [Hid, ← hr.out, cmp3, if_neg hlt, if_neg hgt]
   go_enter Tryz.func227, Tryz.ntmps227
   go_wp2_with fail
   refine h1.mono ?_
   rintro e w1 ⟨rfl, rfl⟩
   go_wp2_with fail
   refine h2.mono ?_
   rintro e w2 ⟨rfl, rfl⟩
   go_wp2
   go_ret
   exact ⟨by rw [HR.out]; rfl, rfl⟩
set_option maxHeartbeats 1000000 in
theorem or_any (x y : Int) (b c : Nat) (w : World) (c0 : w.cell? ⟨b, 0, none⟩ = some (.int .i64 x)) (c1 : w.cell? ⟨b, 1, none⟩ = some (.int .i64 y)) :
  Calls Tryz.prog 226 #[.slice (some ⟨b, 0, none⟩) 2 c] w fun e w' => e = .returned (.int .i64 (if x = 0 then y else x)) ∧ w' = w := by
 obtain ⟨r, hr⟩ : ∃ r, Hid ((if x = 0 then y else x) = r) := ⟨_, rfl⟩
 rw [hr.out]
 by_cases hx : x = 0
 ·have HR : Hid (r = y) := by rw [Hid, ← hr.out, if_pos hx]
  subst hx
  by_cases hy : y = 0
  ·subst hy
   go_enter Tryz.func226, Tryz.ntmps226
   go_wp2_with fail
   refine wp_loop_rounds 3 ?_
   rw [rounds_succ]
   go_wp2
   rw [rounds_succ]
   go_wp2
   rw [rounds_succ]
   go_wp2
   go_ret
   exact ⟨by rw [HR.out]; rfl, rfl⟩
  ·have hyb : (y == 0) = false := by rw [beq_eq_false_iff_ne]; exact hy
   go_enter Tryz.func226, Tryz.ntmps226
   go_wp2_with fail
   refine wp_loop_rounds 3 ?_
   rw [rounds_succ]
   go_wp2
   rw [rounds_succ]
   go_wp2
   go_ret
   exact ⟨by rw [HR.out]; rfl, rfl⟩
 ·have HR : Hid (r = x) := by rw [Hid, ← hr.out, if_neg hx]
  have hxb : (x == 0) = false := by rw [beq_eq_false_iff_ne]; exact hx
  go_enter Tryz.func226, Tryz.ntmps226
  go_wp2_with fail
  refine wp_loop_rounds 3 ?_
  rw [rounds_succ]
  go_wp2
  go_ret
  exact ⟨by rw [HR.out]; rfl, rfl⟩
def turn (x y : Jb) : Int := if cmp3 x.n y.n = 0 then cmp3 x.i y.i else cmp3 x.n y.n
theorem turn_neg (x y : Jb) : turn x y < 0 ↔ x.ahead y := by
 unfold turn cmp3 Jb.ahead
 repeat' split <;> omega
end
end Go.Proofs.YtmoaobfmopimlafGreatDoor
