/- For the law. -/
import Derived.Test.YtmoaobfmopimlafGreatDoorM15
import Derived.Shelf.GgClosure.Gives
set_option linter.unusedSimpArgs false
set_option linter.unusedVariables false
namespace Go.Proofs.YtmoaobfmopimlafGreatDoor
open Go.RowKit
section
open Go.Shelf
theorem Jb.bad_of {x : Jb} (h : ¬((0 ≤ x.i ∧ x.i ≤ 5) ∧ (1 ≤ x.e ∧ x.e ≤ 100) ∧ (0 ≤ x.n ∧ x.n ≤ 100100))) : x.bad = true := by
 cases hb : x.bad with
 | true => rfl
 | false => exact absurd (Jb.good hb) h
theorem Rg.bad_of {x : Rg} (h : ¬((0 ≤ x.j ∧ x.j ≤ 5) ∧ (0 ≤ x.t ∧ x.t ≤ 100000) ∧ (0 ≤ x.c ∧ x.c ≤ 2))) : x.bad = true := by
 cases hb : x.bad with
 | true => rfl
 | false => exact absurd (Rg.good hb) h
theorem ret_bool {a b : Bool} (h : a = b) : Ending.returned (.bool a) = .returned (.bool b) := by rw [h]
set_option maxHeartbeats 2000000 in
theorem jobIn (x : Jb) (w : World) :
    Calls Tryz.prog 151 #[x.val] w fun e w' => e = .returned (.bool (!x.bad)) ∧ Below w.heap.size w w' := by
  obtain ⟨b, hb⟩ : ∃ b, Hid (x.bad = b) := ⟨_, rfl⟩
  rw [hb.out]
  by_cases hl : x.n ≤ 100100
  all_goals
   go_enter Tryz.func151, Tryz.ntmps151
   go_wp2
   all_goals
     go_ret
     refine ⟨ret_bool ?_, grew (Below.refl _ _) _⟩
     rw [← hb.out]
     first
       | (rw [Jb.bad_of (by omega)]; first | rfl | (simp; omega))
       | (rw [Jb.good_of (by omega)]; first | rfl | (simp; omega))
set_option maxHeartbeats 2000000 in
theorem rungIn (x : Rg) (w : World) :
    Calls Tryz.prog 154 #[x.val] w fun e w' => e = .returned (.bool (!x.bad)) ∧ Below w.heap.size w w' := by
  obtain ⟨b, hb⟩ : ∃ b, Hid (x.bad = b) := ⟨_, rfl⟩
  rw [hb.out]
  by_cases hl : x.c < 3
  all_goals
   go_enter Tryz.func154, Tryz.ntmps154
   go_wp2
   all_goals
     go_ret
     refine ⟨ret_bool ?_, grew (Below.refl _ _) _⟩
     rw [← hb.out]
     first
       | (rw [Rg.bad_of (by omega)]; first | rfl | (simp; omega))
       | (rw [Rg.good_of (by omega)]; first | rfl | (simp; omega))
def idx {α : Type} (p : α → Bool) (xs : List α) : Int := match xs.findIdx? p with
 | some k => k
 | none => -1
theorem idx_some {α : Type} {p : α → Bool} {xs : List α} {k : Nat} {x : α} (hx : xs[k]? = some x) (he : p x = true) (hb : ∀ y, y ∈ xs.take k → p y = false) : idx p xs = k := by
 have hlt := (List.getElem?_eq_some_iff.1 hx).1
 have : xs.findIdx? p = some k := by
  rw [List.findIdx?_eq_some_iff_getElem]
  refine ⟨hlt, ?_, fun j hj => ?_⟩
  ·have := (List.getElem?_eq_some_iff.1 hx).2
   rw [this]; exact he
  ·have hm : xs[j]'(by omega) ∈ xs.take k := by
    rw [List.mem_take_iff_getElem]
    exact ⟨j, by omega, rfl⟩
   have := hb _ hm
   rw [this]; decide
 rw [idx, this]
theorem idx_none {α : Type} {p : α → Bool} {xs : List α} (hb : ∀ y, y ∈ xs → p y = false) : idx p xs = -1 := by
 have : xs.findIdx? p = none := by
  rw [List.findIdx?_eq_none_iff]
  exact hb
 rw [idx, this]
theorem idx_ways {α : Type} (p : α → Bool) (xs : List α) : (idx p xs = -1 ∧ ∀ y, y ∈ xs → p y = false) ∨ ∃ k x, idx p xs = (k : Nat) ∧ k < xs.length ∧ xs[k]? = some x ∧ p x = true ∧ ∀ y, y ∈ xs.take k → p y = false := by
 cases h : xs.findIdx? p with
 | none =>
  left
  rw [List.findIdx?_eq_none_iff] at h
  exact ⟨idx_none h, h⟩
 | some k =>
  right
  rw [List.findIdx?_eq_some_iff_getElem] at h
  obtain ⟨hlt, ht, hf⟩ := h
  have hb : ∀ y, y ∈ xs.take k → p y = false := fun y hy => by
   rw [List.mem_take_iff_getElem] at hy
   obtain ⟨j, hj, rfl⟩ := hy
   have := hf j (by omega)
   simpa using this
  exact ⟨k, xs[k], idx_some (List.getElem?_eq_getElem hlt) ht hb, hlt, List.getElem?_eq_getElem hlt, ht, hb⟩
theorem step_below' {w a b : World} (h : Below w.heap.size w a) (hb : Below a.heap.size a b) : Below w.heap.size w b := h.trans (hb.mono h.size)
theorem jobAt_idx (js : List Jb) (id : Int) : jobAt js id = idx (fun x => x.i == id) js := rfl
set_option maxHeartbeats 2000000 in
theorem idxFJ (p : Jb → Bool) (g : Nat) (lb : Array Value) (eg : ∀ args w, (callFunc g args).run Tryz.prog w = .ok (.enter g args) w) (v : Value) (xs : List Jb) (w : World) (hv : SlOf Jb.cells 3 w v xs) (hn : xs.length ≤ most)
  (hp : ∀ (W : World) (x : Jb), Below w.heap.size w W → Calls Tryz.prog g (#[x.val] ++ lb) W fun e w' => e = .returned (.bool (p x)) ∧ Below w.heap.size w w') :
  Calls Tryz.prog 175 #[v, .func (.func g) #[] lb] w fun e w' => e = .returned (.int .i64 (idx p xs)) ∧ Below w.heap.size w w' := by
 have H1 : Hid (SlOf Jb.cells 3 w v xs) := hv
 obtain ⟨a1, c1, rfl, _⟩ := hv
 obtain ⟨n1, hn1⟩ : ∃ n1, xs.length = n1 := ⟨_, rfl⟩
 rw [hn1] at H1 hn ⊢
 have L1 : Hid (xs.length = n1) := hn1
 replace hn : n1 ≤ 9223372036854775807 := hn
 clear hn1
 have HP : Aside _ := hp
 clear hp
 go_enter Tryz.func175, Tryz.ntmps175
 go_wp2
 go_loopg [5, 8] n1 (fun gg _ i wr => ∃ k : Nat, k ≤ n1 ∧ n1 - k ≤ gg ∧ i = .int .i64 k ∧ Aside (Below w.heap.size w wr) ∧ Hid (∀ y, y ∈ xs.take k → p y = false))
 case atStart => exact ⟨0, Nat.zero_le _, by omega, rfl, Below.refl _ w, fun y hy => by simp at hy⟩
 case round =>
  obtain ⟨k, hk, hgg, rfl, hB, hst⟩ := hrel
  by_cases hlt : k < n1
  ·obtain ⟨x, hx⟩ : ∃ x, xs[k]? = some x := ⟨xs[k]'(by have := L1.out; omega), List.getElem?_eq_getElem _⟩
   obtain ⟨b, off, rfl, hE0⟩ := H1.out.at (by omega)
   have hE := hE0.later hB.out
   have c0 : wr.cell? ⟨b, off + k * 3, none⟩ = some (.int .i64 x.i) := hE k x hx 0 _ rfl
   have c1 : wr.cell? ⟨b, off + k * 3 + 1, none⟩ = some (.int .i64 x.e) := hE k x hx 1 _ rfl
   have c2 : wr.cell? ⟨b, off + k * 3 + 2, none⟩ = some (.int .i64 x.n) := hE k x hx 2 _ rfl
   have hcall := HP.out wr x hB.out
   cases hq : p x with
   | true =>
    have HF : Hid (idx p xs = k) := idx_some hx hq hst.out
    rw [hq] at hcall
    clear hE hE0 hx hst H1 hq HP
    go_wp2_with (go_at_fn g; refine hcall.mono ?_; rintro e w' ⟨rfl, hb'⟩)
    go_ret
    exact ⟨by rw [HF.out]; rfl, hb'⟩
   | false =>
    have HN : Hid (∀ y, y ∈ xs.take (k + 1) → p y = false) := fun y hy => by
     rw [List.take_add_one, hx] at hy
     rcases List.mem_append.1 hy with hy | hy
     ·exact hst.out y hy
     ·simp at hy; rw [hy]; exact hq
    rw [hq] at hcall
    clear hE hE0 hx hst H1 hq HP
    go_wp2_with (go_at_fn g; refine hcall.mono ?_; rintro e w' ⟨rfl, hb'⟩)
    go_roundg (n1 - (k + 1))
    case measure => omega
    case rel => exact ⟨k + 1, by omega, by omega, by go_num, hb', HN⟩
  ·have hkn : k = n1 := by omega
   subst hkn
   have HF : Hid (idx p xs = -1) := by
    have h := hst.out
    rw [List.take_of_length_le (by have := L1.out; omega)] at h
    exact idx_none h
   clear hst H1 HP
   go_wp2
   go_ret
   exact ⟨by rw [HF.out]; rfl, hB.out⟩
set_option maxHeartbeats 2000000 in
theorem idxFR (p : Rg → Bool) (g : Nat) (lb : Array Value) (eg : ∀ args w, (callFunc g args).run Tryz.prog w = .ok (.enter g args) w) (v : Value) (xs : List Rg) (w : World) (hv : SlOf Rg.cells 3 w v xs) (hn : xs.length ≤ most)
  (hp : ∀ (W : World) (x : Rg), Below w.heap.size w W → Calls Tryz.prog g (#[x.val] ++ lb) W fun e w' => e = .returned (.bool (p x)) ∧ Below w.heap.size w w') :
  Calls Tryz.prog 182 #[v, .func (.func g) #[] lb] w fun e w' => e = .returned (.int .i64 (idx p xs)) ∧ Below w.heap.size w w' := by
 have H1 : Hid (SlOf Rg.cells 3 w v xs) := hv
 obtain ⟨a1, c1, rfl, _⟩ := hv
 obtain ⟨n1, hn1⟩ : ∃ n1, xs.length = n1 := ⟨_, rfl⟩
 rw [hn1] at H1 hn ⊢
 have L1 : Hid (xs.length = n1) := hn1
 replace hn : n1 ≤ 9223372036854775807 := hn
 clear hn1
 have HP : Aside _ := hp
 clear hp
 go_enter Tryz.func182, Tryz.ntmps182
 go_wp2
 go_loopg [5, 8] n1 (fun gg _ i wr => ∃ k : Nat, k ≤ n1 ∧ n1 - k ≤ gg ∧ i = .int .i64 k ∧ Aside (Below w.heap.size w wr) ∧ Hid (∀ y, y ∈ xs.take k → p y = false))
 case atStart => exact ⟨0, Nat.zero_le _, by omega, rfl, Below.refl _ w, fun y hy => by simp at hy⟩
 case round =>
  obtain ⟨k, hk, hgg, rfl, hB, hst⟩ := hrel
  by_cases hlt : k < n1
  ·obtain ⟨x, hx⟩ : ∃ x, xs[k]? = some x := ⟨xs[k]'(by have := L1.out; omega), List.getElem?_eq_getElem _⟩
   obtain ⟨b, off, rfl, hE0⟩ := H1.out.at (by omega)
   have hE := hE0.later hB.out
   have c0 : wr.cell? ⟨b, off + k * 3, none⟩ = some (.int .i64 x.j) := hE k x hx 0 _ rfl
   have c1 : wr.cell? ⟨b, off + k * 3 + 1, none⟩ = some (.int .i64 x.t) := hE k x hx 1 _ rfl
   have c2 : wr.cell? ⟨b, off + k * 3 + 2, none⟩ = some (.int .i64 x.c) := hE k x hx 2 _ rfl
   have hcall := HP.out wr x hB.out
   cases hq : p x with
   | true =>
    have HF : Hid (idx p xs = k) := idx_some hx hq hst.out
    rw [hq] at hcall
    clear hE hE0 hx hst H1 hq HP
    go_wp2_with (go_at_fn g; refine hcall.mono ?_; rintro e w' ⟨rfl, hb'⟩)
    go_ret
    exact ⟨by rw [HF.out]; rfl, hb'⟩
   | false =>
    have HN : Hid (∀ y, y ∈ xs.take (k + 1) → p y = false) := fun y hy => by
     rw [List.take_add_one, hx] at hy
     rcases List.mem_append.1 hy with hy | hy
     ·exact hst.out y hy
     ·simp at hy; rw [hy]; exact hq
    rw [hq] at hcall
    clear hE hE0 hx hst H1 hq HP
    go_wp2_with (go_at_fn g; refine hcall.mono ?_; rintro e w' ⟨rfl, hb'⟩)
    go_roundg (n1 - (k + 1))
    case measure => omega
    case rel => exact ⟨k + 1, by omega, by omega, by go_num, hb', HN⟩
  ·have hkn : k = n1 := by omega
   subst hkn
   have HF : Hid (idx p xs = -1) := by
    have h := hst.out
    rw [List.take_of_length_le (by have := L1.out; omega)] at h
    exact idx_none h
   clear hst H1 HP
   go_wp2
   go_ret
   exact ⟨by rw [HF.out]; rfl, hB.out⟩
set_option maxHeartbeats 1000000 in
theorem find_pred (id : Int) (B : Nat) (w : World) (hB : B < w.heap.size) (hc : w.cell? ⟨B, 0, none⟩ = some (.int .i64 id)) (W : World) (x : Jb) (hb : Below w.heap.size w W) :
  Calls Tryz.prog 284 (#[x.val] ++ #[.pointer (some ⟨B, 0, none⟩)]) W fun e w' => e = .returned (.bool (x.i == id)) ∧ Below w.heap.size w w' := by
 have hc' : W.cell? ⟨B, 0, none⟩ = some (.int .i64 id) := (hb.cell (p := ⟨B, 0, none⟩) hB).trans hc
 have hBW : B < W.heap.size := Nat.lt_of_lt_of_le hB hb.size
 have hne : B ≠ W.heap.size := by omega
 show Calls Tryz.prog 284 #[x.val, .pointer (some ⟨B, 0, none⟩)] W _
 go_enter Tryz.func284, Tryz.ntmps284
 go_wp2
 all_goals (go_ret; exact ⟨by simp_all, hb.alloc hb.size _⟩)
set_option maxHeartbeats 1000000 in
theorem find_any (v1 v2 : Value) (js : List Jb) (id : Int) (w : World) (h1 : JobSl w v1 js) (hn1 : js.length ≤ most) :
  Calls Tryz.prog 263 #[.agg #[v1, v2], .int .i64 id] w fun e w' => e = .returned (.int .i64 (jobAt js id)) ∧ Below w.heap.size w w' := by
 rw [jobAt_idx]
 have eg : ∀ args w, (callFunc 284 args).run Tryz.prog w = .ok (.enter 284 args) w := enters_of Tryz.func284 (by kernel_rfl) rfl
 have hB2 : Below w.heap.size w ((w.alloc (boxB v1 v2)).alloc (.cells #[.int .i64 id] 3)) := grew (grew (Below.refl _ _) _) _
 have hcell : ((w.alloc (boxB v1 v2)).alloc (.cells #[.int .i64 id] 3)).cell? ⟨w.heap.size + 1, 0, none⟩ = some (.int .i64 id) := by
  have := Joins.cell_of_block (heap_new (w.alloc (boxB v1 v2)) (.cells #[.int .i64 id] 3)) 0
  rwa [World.size_alloc] at this
 have hcon := idxFJ (fun x => x.i == id) 284 #[.pointer (some ⟨w.heap.size + 1, 0, none⟩)] eg v1 js _ (h1.later hB2) hn1
  (find_pred id (w.heap.size + 1) _ (by simp) hcell)
 have HB : Aside _ := hB2
 clear hB2 hcell
 obtain ⟨a1, c1, rfl, _⟩ := h1
 generalize idx (fun x => x.i == id) js = r at hcon ⊢
 generalize js.length = n1 at *
 go_enter Tryz.func263, Tryz.ntmps263
 go_wp2_with (go_at_call 175; refine hcon.mono ?_; rintro e w' ⟨rfl, hb'⟩)
 go_ret
 exact ⟨rfl, HB.out.trans (hb'.mono HB.out.size)⟩
end
def WHas (X w : World) (B g1 g2 : Nat) (W : Wd) : Prop := ∃ xs cs, WIn X w B g1 g2 xs W.tip cs W.t ∧ nodesOf xs = W.ns ∧ clientsOf cs = W.cs
theorem WHas.later {X w w' : World} {B g1 g2 : Nat} {W : Wd} (h : WHas X w B g1 g2 W) (hb : Below w.heap.size w w') : WHas X w' B g1 g2 W := by
 obtain ⟨xs, cs, h1, h2, h3⟩ := h
 exact ⟨xs, cs, h1.later hb, h2, h3⟩
abbrev AnsW (f : FuncId) (args : Array Value) (X w : World) (B g1 g2 : Nat) (r : Wd × Int) : Prop :=
 Calls Tryz.prog f args w fun e w' => e = .returned (.int .i64 r.2) ∧ WHas X w' B g1 g2 r.1
theorem w_isClient {X w : World} {B g1 g2 : Nat} {NC CC : List Value} {tip t : Int} {L : List Nb} {M : List Cb} (h : WSt X w B g1 g2 NC tip CC t L M) (who : Int) :
  Calls Tryz.prog 104 #[.pointer (some ⟨B, 0, none⟩), .int .i64 who] w fun e w' => e = .returned (.bool (decide (0 ≤ who ∧ who ≤ 2))) ∧ w' = w := by
 have z := fun i => Joins.cell_of_block h.box i
 clear h
 have hc : ¬ 0 ≤ who ∨ (0 ≤ who ∧ ¬ who < 3) ∨ (0 ≤ who ∧ who < 3) := by omega
 rcases hc with h | ⟨h, h'⟩ | ⟨h, h'⟩
 ·rw [show decide (0 ≤ who ∧ who ≤ 2) = false from decide_eq_false (by omega)]
  go_enter Tryz.func104, Tryz.ntmps104
  go_wp2
  go_ret
  exact ⟨rfl, rfl⟩
 ·rw [show decide (0 ≤ who ∧ who ≤ 2) = false from decide_eq_false (by omega)]
  go_enter Tryz.func104, Tryz.ntmps104
  go_wp2
  go_ret
  exact ⟨ret_bool (by simp <;> omega), rfl⟩
 ·rw [show decide (0 ≤ who ∧ who ≤ 2) = true from decide_eq_true (by omega)]
  go_enter Tryz.func104, Tryz.ntmps104
  go_wp2
  go_ret
  exact ⟨ret_bool (by simp <;> omega), rfl⟩
set_option maxRecDepth 100000 in
theorem w_isNone (r : Rc) (w : World) :
  Calls Tryz.prog 134 #[r.val] w fun e w' => e = .returned (.bool (r.same Rc.zero)) ∧ Below w.heap.size w w' := by
 have hq : ∀ W, (binOp .eql 94 r.val (.agg #[.int .i64 0, .int .i64 0, .int .i64 0, .int .i64 0, .int .i64 0, .int .i64 0, .int .i64 0, .int .i64 0])).run Tryz.prog W = .ok (.bool (r.same Rc.zero)) W := fun W => eqlR r Rc.zero W
 have HB : Aside (Below w.heap.size w (w.alloc (boxRc r))) := grew (Below.refl _ _) _
 have z : ∀ i, (w.alloc (boxRc r)).cell? ⟨w.heap.size, i, none⟩ = #[Value.int .i64 r.k, .int .i64 r.a, .int .i64 r.p, .int .i64 r.e.k, .int .i64 r.e.j, .int .i64 r.e.v, .int .i64 r.e.t, .int .i64 r.e.c][i]? := fun i => Joins.cell_of_block (heap_new _ _) i
 obtain ⟨k, a, p, ⟨e1, e2, e3, e4, e5⟩⟩ := r
 simp only at hq z
 cases hb : (Rc.same ⟨k, a, p, ⟨e1, e2, e3, e4, e5⟩⟩ Rc.zero) with
 | true =>
  rw [hb] at hq
  clear hb
  go_enter Tryz.func134, Tryz.ntmps134
  go_upto_region 1 with fail
  generalize w.alloc _ = W0 at *
  go_wp2
  go_ret
  exact ⟨rfl, HB.out⟩
 | false =>
  rw [hb] at hq
  clear hb
  go_enter Tryz.func134, Tryz.ntmps134
  go_upto_region 1 with fail
  generalize w.alloc _ = W0 at *
  go_wp2
  go_ret
  exact ⟨rfl, HB.out⟩
theorem w_tip {X w : World} {B g1 g2 : Nat} {W : Wd} (h : WHas X w B g1 g2 W) (q : Int) :
  AnsW 71 #[.pointer (some ⟨B, 0, none⟩), .int .i64 q] X w B g1 g2 (tipOf W q) := by
 have H : Aside (WHas X w B g1 g2 W) := h
 obtain ⟨xs, cs, hi, e1, e2⟩ := h
 have z := fun i => Joins.cell_of_block hi.st.box i
 have fz := fun i => Joins.unfrozen_of_block hi.st.box i
 have HI : Aside (WIn X w B g1 g2 xs W.tip cs W.t) := hi
 have HE : Aside (nodesOf xs = W.ns ∧ clientsOf cs = W.cs) := ⟨e1, e2⟩
 clear hi e1 e2
 have hc : ¬ 0 ≤ q ∨ (0 ≤ q ∧ ¬ q ≤ 60) ∨ (0 ≤ q ∧ q ≤ 60) := by omega
 rcases hc with h | ⟨h, h'⟩ | ⟨h, h'⟩
 ·rw [show tipOf W q = (W, 3) by rw [tipOf, if_pos (by omega)]]
  have h2 : q < 0 := by omega
  go_enter Tryz.func71, Tryz.ntmps71
  go_wp2
  go_ret
  exact ⟨rfl, H.out⟩
 ·rw [show tipOf W q = (W, 3) by rw [tipOf, if_pos (by omega)]]
  have h2 : 60 < q := by omega
  go_enter Tryz.func71, Tryz.ntmps71
  go_wp2
  go_ret
  exact ⟨rfl, H.out⟩
 ·rw [show tipOf W q = (⟨W.ns, q, W.cs, W.t⟩, 0) by rw [tipOf, if_neg (by omega)]]
  go_enter Tryz.func71, Tryz.ntmps71
  go_wp2
  go_ret
  exact ⟨rfl, xs, cs, ⟨HI.out.st.setTip q, HI.out.three, HI.out.three'⟩, HE.out.1, HE.out.2⟩
theorem w_tick {X w : World} {B g1 g2 : Nat} {W : Wd} (h : WHas X w B g1 g2 W) (q : Int) (ht : 0 ≤ W.t ∧ W.t ≤ 100000) :
  AnsW 72 #[.pointer (some ⟨B, 0, none⟩), .int .i64 q] X w B g1 g2 (tickOf W q) := by
 have H : Aside (WHas X w B g1 g2 W) := h
 obtain ⟨xs, cs, hi, e1, e2⟩ := h
 have z := fun i => Joins.cell_of_block hi.st.box i
 have fz := fun i => Joins.unfrozen_of_block hi.st.box i
 have HI : Aside (WIn X w B g1 g2 xs W.tip cs W.t) := hi
 have HE : Aside (nodesOf xs = W.ns ∧ clientsOf cs = W.cs) := ⟨e1, e2⟩
 have hw1 : IntKind.i64.wrap (100000 - W.t) = 100000 - W.t := by rw [IntKind.wrap_i64]; omega
 clear hi e1 e2
 have hc : ¬ 1 ≤ q ∨ (1 ≤ q ∧ ¬ q ≤ 100000 - W.t) ∨ (1 ≤ q ∧ q ≤ 100000 - W.t) := by omega
 rcases hc with h | ⟨h, h'⟩ | ⟨h, h'⟩
 ·rw [show tickOf W q = (W, 3) by rw [tickOf, if_pos (by omega)]]
  have h2 : q < 1 := by omega
  clear hw1 ht
  go_enter Tryz.func72, Tryz.ntmps72
  go_wp2
  go_ret
  exact ⟨rfl, H.out⟩
 ·rw [show tickOf W q = (W, 3) by rw [tickOf, if_pos (by omega)]]
  have h2 : 100000 - W.t < q := by omega
  go_enter Tryz.func72, Tryz.ntmps72
  go_wp2
  go_ret
  exact ⟨rfl, H.out⟩
 ·rw [show tickOf W q = (⟨W.ns, W.tip, W.cs, W.t + q⟩, 0) by rw [tickOf, if_neg (by omega)]]
  have hw2 : IntKind.i64.wrap (W.t + q) = W.t + q := by rw [IntKind.wrap_i64]; omega
  go_enter Tryz.func72, Tryz.ntmps72
  go_wp2
  go_ret
  exact ⟨rfl, xs, cs, ⟨HI.out.st.setTime (W.t + q), HI.out.three, HI.out.three'⟩, HE.out.1, HE.out.2⟩
theorem good_snoc {rs : List Rc} {r : Rc} (h : ∀ c, c ∈ rs → c.chk = 0) (hr : r.chk = 0) : ∀ c, c ∈ rs ++ [r] → c.chk = 0 := fun c hc => by
 rcases List.mem_append.1 hc with hc | hc
 ·exact h c hc
 ·obtain rfl : c = r := by simpa using hc
  exact hr
end Go.Proofs.YtmoaobfmopimlafGreatDoor
