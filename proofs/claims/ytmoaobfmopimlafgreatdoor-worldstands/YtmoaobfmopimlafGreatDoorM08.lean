/- For the law. -/
import Derived.Test.YtmoaobfmopimlafGreatDoorM07
import Derived.Lib.AppendZerosOnto
import Derived.Deep.Upon
import Derived.Laws.OwnMore
import Derived.Lib.ItoaMem
import Derived.Laws.IdiomStrings
import Derived.Deep.Slices
import Derived.SizedLaws
set_option linter.unusedSimpArgs false
set_option linter.unusedVariables false
namespace Go.Proofs.YtmoaobfmopimlafGreatDoor
open Go.RowKit
section
variable {α : Type} {cs : α → List Value} {k : Nat}
def RowAt (cs : α → List Value) (k : Nat) (w : World) (b off : Nat) (xs : List α) : Prop := ∀ j x, xs[j]? = some x → ∀ i v, (cs x)[i]? = some v → w.cell? ⟨b, off + j * k + i, none⟩ = some v
theorem RowAt.later {w w' : World} {b off : Nat} {xs : List α} (h : RowAt cs k w b off xs) (hb : Below w.heap.size w w') : RowAt cs k w' b off xs :=
 fun j e hj i v hi => cell_later hb (h j e hj i v hi)
def SlOf (cs : α → List Value) (k : Nat) (w : World) (v : Value) (xs : List α) : Prop := ∃ a c, v = .slice a xs.length c ∧ (xs.length = 0 ∨ ∃ b off, a = some ⟨b, off, none⟩ ∧ RowAt cs k w b off xs)
theorem SlOf.later {w w' : World} {v : Value} {xs : List α} (h : SlOf cs k w v xs) (hb : Below w.heap.size w w') : SlOf cs k w' v xs := by
 obtain ⟨a, c, hv, h⟩ := h
 refine ⟨a, c, hv, ?_⟩
 rcases h with h | ⟨b, off, ha, hE⟩
 ·exact Or.inl h
 ·exact Or.inr ⟨b, off, ha, hE.later hb⟩
theorem SlOf.nil {w : World} (a : Option Addr) (c : Nat) : SlOf cs k w (.slice a 0 c) [] := ⟨a, c, rfl, Or.inl rfl⟩
theorem row_flat (hk : ∀ x, (cs x).length = k) : ∀ (xs : List α) (j : Nat) (x : α), xs[j]? = some x → ∀ i v, (cs x)[i]? = some v → (xs.flatMap cs)[j * k + i]? = some v
 | [], j, e, h, _, _, _ => by simp at h
 | x :: r, 0, e, h, i, v, hi => by
  simp at h; subst h
  have hlt : i < k := by
   have := (List.getElem?_eq_some_iff.1 hi).1
   rwa [hk] at this
  rw [List.flatMap_cons, Nat.zero_mul, Nat.zero_add, List.getElem?_append_left (by rw [hk]; exact hlt)]
  exact hi
 | x :: r, j + 1, e, h, i, v, hi => by
  have ih := row_flat hk r j e (by simpa using h) i v hi
  have e1 : (j + 1) * k + i = k + (j * k + i) := by rw [Nat.add_mul]; omega
  rw [List.flatMap_cons, e1, List.getElem?_append_right (by rw [hk]; omega), hk, Nat.add_sub_cancel_left]
  exact ih
theorem row_len (hk : ∀ x, (cs x).length = k) : ∀ (xs : List α), (xs.flatMap cs).length = xs.length * k
 | [] => by simp
 | x :: r => by rw [List.flatMap_cons, List.length_append, row_len hk r, hk, List.length_cons, Nat.add_mul]; omega
theorem slOf_of_owns (hk : ∀ x, (cs x).length = k) {w : World} {base : Nat} {T : TypeId} {v : Value} {xs : List α} (h : w.ownsRow base T k v xs.length (xs.flatMap cs)) : SlOf cs k w v xs := by
 rcases h.2 with ⟨hv, hn⟩ | ⟨g, cap, cur, hv, _, hg, hle, _, hsz, htake⟩
 ·exact ⟨none, 0, by rw [hv, hn], Or.inl hn⟩
 ·refine ⟨some ⟨g, 0, none⟩, cap, hv, Or.inr ⟨g, 0, rfl, fun j e hj i u hi => ?_⟩⟩
  have hf := row_flat hk xs j e hj i u hi
  rw [← htake, List.getElem?_take] at hf
  split at hf
  ·rw [Joins.cell_of_block hg, Nat.zero_add]
   simpa using hf
  ·cases hf
theorem slOf_lit (hk : ∀ x, (cs x).length = k) {w : World} {b c : Nat} {xs : List α} {A : Array Value} {T : TypeId} (hb : w.heap[b]? = some (.cells A T)) (h : A.toList = xs.flatMap cs) : SlOf cs k w (.slice (some ⟨b, 0, none⟩) xs.length c) xs := by
 refine ⟨_, c, rfl, Or.inr ⟨b, 0, rfl, fun j e hj i u hi => ?_⟩⟩
 rw [Joins.cell_of_block hb, Nat.zero_add, ← Array.getElem?_toList, h]
 exact row_flat hk xs j e hj i u hi
theorem SlOf.form {w : World} {v : Value} {xs : List α} (h : SlOf cs k w v xs) (h0 : 0 < xs.length) : ∃ b off c, v = .slice (some ⟨b, off, none⟩) xs.length c ∧ RowAt cs k w b off xs := by
 obtain ⟨a, c, rfl, hc⟩ := h
 rcases hc with hc | ⟨b, off, rfl, hE⟩
 ·omega
 ·exact ⟨b, off, c, rfl, hE⟩
theorem SlOf.at {w : World} {a : Option Addr} {n c : Nat} {xs : List α} (h : SlOf cs k w (.slice a n c) xs) (h0 : 0 < n) : ∃ b off, a = some ⟨b, off, none⟩ ∧ RowAt cs k w b off xs := by
 obtain ⟨a', c', e, hc⟩ := h
 injection e with e1 e2 e3
 subst e1
 rcases hc with hc | ⟨b, off, rfl, hE⟩
 ·omega
 ·exact ⟨b, off, rfl, hE⟩
theorem SlOf.len {w : World} {a : Option Addr} {n c : Nat} {xs : List α} (h : SlOf cs k w (.slice a n c) xs) : xs.length = n := by
 obtain ⟨a', c', e, _⟩ := h
 injection e with _ e2 _
 exact e2.symm
theorem rows_flat (hk : ∀ x, (cs x).length = k) {w : World} {b : Nat} : ∀ (xs : List α) (off : Nat), RowAt cs k w b off xs → ∀ j u, (xs.flatMap cs)[j]? = some u → w.cell? ⟨b, off + j, none⟩ = some u
 | [], _, _, j, u, h => by simp at h
 | x :: r, off, hE, j, u, h => by
  rw [List.flatMap_cons] at h
  by_cases hj : j < k
  ·rw [List.getElem?_append_left (by rw [hk]; exact hj)] at h
   have := hE 0 x rfl j u h
   rwa [Nat.zero_mul, Nat.add_zero] at this
  ·rw [List.getElem?_append_right (by rw [hk]; omega), hk] at h
   have ih := rows_flat hk r (off + k) (fun m e hm i v hi => by
    have := hE (m + 1) e (by simpa using hm) i v hi
    rwa [show off + (m + 1) * k + i = off + k + m * k + i by rw [Nat.add_mul]; omega] at this) (j - k) u h
   rwa [show off + k + (j - k) = off + j by omega] at ih
theorem RowAt.take {w : World} {b off : Nat} {xs : List α} (h : RowAt cs k w b off xs) (n : Nat) : RowAt cs k w b off (xs.take n) := fun j x hj => by
 rw [List.getElem?_take] at hj
 split at hj
 ·exact h j x hj
 ·cases hj
theorem RowAt.drop {w : World} {b off : Nat} {xs : List α} (h : RowAt cs k w b off xs) (n : Nat) : RowAt cs k w b (off + n * k) (xs.drop n) := fun j x hj i v hi => by
 rw [List.getElem?_drop] at hj
 have := h (n + j) x hj i v hi
 rwa [show off + (n + j) * k + i = off + n * k + j * k + i by rw [Nat.add_mul]; omega] at this
end
def Roomy (v : Value) : Prop := ∃ a n c, v = .slice a n c ∧ n ≤ c
theorem owns_roomy {w : World} {base : Nat} {e : TypeId} {size : Nat} {v : Value} {n : Nat} {xs : List Value} (h : w.ownsRow base e size v n xs) : Roomy v := by
 rcases h.2 with ⟨h1, _⟩ | ⟨g, cap, cur, h1, _, _, h4, _⟩
 ·exact ⟨none, 0, 0, h1, Nat.le_refl _⟩
 ·exact ⟨_, n, cap, h1, h4⟩
def Typed (t : TypeId) (w : World) (v : Value) : Prop := ∀ b, some b = v.ownBlock → ∃ cur, w.heap[b]? = some (.cells cur t)
theorem Typed.nil {t : TypeId} {w : World} {n c : Nat} : Typed t w (.slice none n c) := fun b h => by cases h
theorem Typed.later {t : TypeId} {w w' : World} {v : Value} (h : Typed t w v) (hb : Below w.heap.size w w') : Typed t w' v := fun b e => by
 obtain ⟨cur, hc⟩ := h b e
 exact ⟨cur, heap_below hc hb (heap_lt hc)⟩
theorem Typed.setCell {t : TypeId} {w : World} {v : Value} (h : Typed t w v) (g i : Nat) (u : Value) : Typed t (w.setCell ⟨g, i, none⟩ u) v := fun b e => by
 obtain ⟨cur, hc⟩ := h b e
 by_cases hg : b = g
 ·subst hg
  exact ⟨_, Joins.block_setCell hc u⟩
 ·exact ⟨cur, by rw [Below.heap_setCell _ _ _ _ (by exact hg)]; exact hc⟩
theorem typed_block {t : TypeId} {w : World} {b : Nat} {cur : Array Value} (h : w.heap[b]? = some (.cells cur t)) (off n c : Nat) : Typed t w (.slice (some ⟨b, off, none⟩) n c) := fun b' e => by
 obtain rfl : b' = b := Option.some.inj e
 exact ⟨cur, h⟩
theorem typed_owns {t : TypeId} {w : World} {base size : Nat} {v : Value} {n : Nat} {xs : List Value} (h : w.ownsRow base t size v n xs) : Typed t w v := fun b hb => by
 rcases h.2 with ⟨h1, _⟩ | ⟨g, cap, cur, h1, _, h3, _⟩
 ·rw [h1] at hb; cases hb
 ·rw [h1] at hb
  obtain rfl : b = g := Option.some.inj hb
  exact ⟨cur, h3⟩
theorem SlOf.other {α : Type} {cs : α → List Value} {k : Nat} {w : World} {v : Value} {xs : List α} {t t' : TypeId} (h : SlOf cs k w v xs) (ht : Typed t w v) {B : Nat} {cur : Array Value} (hB : w.heap[B]? = some (.cells cur t')) (hne : t ≠ t') (i : Nat) (u : Value) : SlOf cs k (w.setCell ⟨B, i, none⟩ u) v xs := by
 obtain ⟨a, c, rfl, hc⟩ := h
 refine ⟨a, c, rfl, ?_⟩
 rcases hc with hc | ⟨b, off, rfl, hE⟩
 ·exact Or.inl hc
 ·refine Or.inr ⟨b, off, rfl, fun j x hj i' v' hi' => ?_⟩
  have hne' : b ≠ B := fun e => by
   obtain ⟨cur', hc'⟩ := ht b rfl
   rw [e, hB] at hc'
   injection hc' with hc'
   injection hc' with _ h2
   exact hne h2.symm
  rw [World.cell?_of_block (Below.heap_setCell _ _ _ _ (by exact hne'))]
  exact hE j x hj i' v' hi'
section
open Go.ChangeShapes
open Go.WideShapes
open Go.ChangeAt
def bt (b : UInt8) : List Value := [.int .u8 b.toNat]
theorem bt_one (b : UInt8) : (bt b).length = 1 := rfl
abbrev ByteSl (w : World) (v : Value) (l : List UInt8) : Prop := SlOf bt 1 w v l
theorem infoY : (Tryz.prog.info? 5).map (fun i => (i.zero, i.size, i.bytes)) = some (some (Value.int .u8 0), 1, 1) := by kernel_rfl
theorem oneY (es : List UInt8) : ∀ u ∈ es.flatMap bt, u.oneCell' = true := fun u hu => by
 obtain ⟨e, _, he⟩ := List.mem_flatMap.1 hu
 simp only [bt, List.mem_cons, List.not_mem_nil, or_false] at he
 subst he; rfl
end
theorem str_of {W : World} {v : Value} {l : List UInt8} (h : ByteSl W v l) : (convert 45 9 v).run Tryz.prog W = .ok (.string ⟨l.toArray⟩) W := by
 obtain ⟨a, c, rfl, hc⟩ := h
 rcases hc with h0 | ⟨b, off, rfl, hE⟩
 ·obtain rfl : l = [] := List.length_eq_zero_iff.1 h0
  show (convert 45 9 (.slice a 0 c)).run Tryz.prog W = _
  rw [run_convert_bytes_string W _ _ _ a 0 c Tryz.underlying45 Tryz.underlying5 Tryz.underlying9]
  cases a <;> rfl
 ·refine run_convert_bytes_back W _ _ _ ⟨b, off, none⟩ c l Tryz.underlying45 Tryz.underlying5 Tryz.underlying9 (fun j hj => ?_)
  rw [Lib.add_plain]
  have := hE j l[j] (List.getElem?_eq_getElem hj) 0 _ rfl
  rwa [Nat.mul_one, Nat.add_zero] at this
section
open scoped Classical
open Go.ChangeShapes
open Go.WideShapes
open Go.ChangeAt
def Rc.cells (r : Rc) : List Value := [.int .i64 r.k, .int .i64 r.a, .int .i64 r.p, .int .i64 r.e.k, .int .i64 r.e.j, .int .i64 r.e.v, .int .i64 r.e.t, .int .i64 r.e.c]
theorem Rc.eight (r : Rc) : r.cells.length = 8 := rfl
abbrev RecSl (w : World) (v : Value) (l : List Rc) : Prop := SlOf Rc.cells 8 w v l
theorem infoC : (Tryz.prog.info? 94).map (fun i => (i.zero, i.size, i.bytes)) = some (some (Rc.zero.val), 8, 64) := by kernel_rfl
theorem oneC (es : List Rc) : ∀ u ∈ es.flatMap Rc.cells, u.oneCell' = true := fun u hu => by
 obtain ⟨e, _, he⟩ := List.mem_flatMap.1 hu
 simp only [Rc.cells, List.mem_cons, List.not_mem_nil, or_false] at he
 rcases he with rfl | rfl | rfl | rfl | rfl | rfl | rfl | rfl <;> rfl
theorem appendC {w : World} {ops : Array Oper} {rest : List Oper} {o : Oper} {a : Act} {Q : Exit → Act → World → Prop} (hgd : o.guard = none) (s x : Operand)
  (ho : o.op = .call { callee := .builtin .append, args := #[s, x], argTypes := #[86, 86] })
  (base : Nat) (v u : Value) (n : Nat) (xs : List Value) (hs : a.eval s = v) (hown : w.ownsRow base 94 8 v n xs)
  (es : List Rc) (hx : a.eval x = u) (hes : SlOf Rc.cells 8 w u es) (hlen : n + es.length ≤ 1000000) (hbase : base ≤ w.heap.size)
  (h : ∀ v' w', w'.ownsRow base 94 8 v' (n + es.length) (xs ++ es.flatMap Rc.cells) → w.grownBy w' v.ownBlock → wpList Tryz.prog ops Q rest (a.put o.dst v') w') : wpList Tryz.prog ops Q (o :: rest) a w := by
 obtain ⟨i0, hi, hz0, hz1, hz2⟩ := info_parts infoC
 obtain ⟨ao, c, rfl, hcase⟩ := hes
 by_cases hz : es.length = 0
 ·obtain rfl : es = [] := List.length_eq_zero_iff.1 hz
  refine Lib.wpList_append_run w hgd s x _ _ ho v _ hs hx v w ?_ (h v w (by simpa using hown) ⟨rfl, rfl, rfl, Nat.le_refl _, fun _ _ _ => rfl⟩)
  have hsrc : Src Tryz.prog i0.size 86 (.slice ao 0 c) 0 [] w := by
   cases ao with
   | none => exact Src.ofNil w Tryz.underlying86 c
   | some ad => exact Src.ofSlice w Tryz.underlying86 ad 0 c [] (by simp) (by simp) (by simp)
  rcases hown.2 with ⟨rfl, _⟩ | ⟨g, cap, cur, rfl, _, _, hle, _⟩
  ·exact run_append_nothing w _ _ _ _ i0 Tryz.underlying86 hi none 0 0 (Nat.le_refl _) _ hsrc
  ·exact run_append_nothing w _ _ _ _ i0 Tryz.underlying86 hi _ n cap hle _ hsrc
 ·rcases hcase with h0 | ⟨b, off, rfl, hE⟩
  ·exact absurd h0 hz
  ·exact wpList_append_own w hgd s x _ ho base _ i0 (Rc.zero.val) 8 64 Tryz.underlying86 hi hz0 hz1 hz2 rfl (by decide) v n xs hs hown ⟨b, off, none⟩ es.length c (es.flatMap Rc.cells) hx (row_len Rc.eight es)
    (fun j u hj => by rw [Lib.add_plain]; exact rows_flat Rc.eight es off hE j u hj) (oneC es) (by unfold maxLen; omega) (by omega) hbase fun v' w' h1 h2 _ => h v' w' h1 h2
end
abbrev nilB : Value := .slice none 0 0
abbrev boxD (v1 v2 : Value) : Obj := .cells #[v1, v2] 47
def Value.isNum : Value → Bool
 | .int _ _ => true
 | _ => false
theorem SlOf.apart {α : Type} {cs : α → List Value} {k : Nat} (hcs : ∀ (x : α) (i : Nat) (v : Value), (cs x)[i]? = some v → Value.isNum v = true) {w : World} {v : Value} {xs : List α} (h : SlOf cs k w v xs) {B : Nat} {A : Array Value} {T : TypeId}
  (hB : w.heap[B]? = some (.cells A T)) (hA : ∀ u, u ∈ A.toList → Value.isNum u = false) (i : Nat) (u : Value) : SlOf cs k (w.setCell ⟨B, i, none⟩ u) v xs := by
 obtain ⟨a, c, rfl, hc⟩ := h
 refine ⟨a, c, rfl, ?_⟩
 rcases hc with hc | ⟨b, off, rfl, hE⟩
 ·exact Or.inl hc
 ·refine Or.inr ⟨b, off, rfl, fun j x hj i' v' hi' => ?_⟩
  have hcell := hE j x hj i' v' hi'
  have hne : b ≠ B := fun e => by
   rw [e, Joins.cell_of_block hB] at hcell
   have h1 := hcs x i' v' hi'
   have h2 := hA v' (Array.mem_toList_iff.2 (Array.mem_of_getElem? hcell))
   rw [h1] at h2; cases h2
  have hh : (w.setCell ⟨B, i, none⟩ u).heap[b]? = w.heap[b]? := Below.heap_setCell _ _ _ _ (by show b ≠ B; exact hne)
  have : (w.setCell ⟨B, i, none⟩ u).cell? ⟨b, off + j * k + i', none⟩ = w.cell? ⟨b, off + j * k + i', none⟩ := by simp only [World.cell?, hh]
  rw [this]; exact hcell
theorem bt_num (x : UInt8) (i : Nat) (v : Value) (h : (bt x)[i]? = some v) : Value.isNum v = true := by
 have := List.mem_of_getElem? h
 simp [bt] at this
 subst this; rfl
theorem slices_num {a1 a2 : Option Addr} {n1 n2 c1 c2 : Nat} : ∀ u, u ∈ (#[Value.slice a1 n1 c1, .slice a2 n2 c2] : Array Value).toList → Value.isNum u = false := fun u hu => by
 simp at hu
 rcases hu with rfl | rfl <;> rfl
theorem disk_stored {W : World} {b : Nat} {v1 v2 : Value} (h : W.heap[b]? = some (boxD v1 v2)) (u1 u2 : Value) : ((W.setCell ⟨b, 0, none⟩ u1).setCell ⟨b, 1, none⟩ u2).heap[b]? = some (boxD u1 u2) := by
 have h0 : (W.setCell ⟨b, 0, none⟩ u1).heap[b]? = some (boxD u1 v2) := by rw [Joins.block_setCell h]; rfl
 rw [Joins.block_setCell h0]; rfl
theorem below_two {B : Nat} {a W : World} {b : Nat} (h : Below B a W) (hb : B ≤ b) (u1 u2 : Value) : Below B a ((W.setCell ⟨b, 0, none⟩ u1).setCell ⟨b, 1, none⟩ u2) :=
 (h.setCell (p := ⟨b, 0, none⟩) hb _).setCell (p := ⟨b, 1, none⟩) hb _
theorem bytes_two {W : World} {b : Nat} {a1 a2 e1 e2 : Option Addr} {n1 n2 c1 c2 m1 m2 d1 d2 : Nat} (hb : W.heap[b]? = some (boxD (.slice a1 n1 c1) (.slice a2 n2 c2))) {α : Type} {cs : α → List Value} {k : Nat} (hcs : ∀ (x : α) (i : Nat) (v : Value), (cs x)[i]? = some v → Value.isNum v = true) {v : Value} {l : List α} (h : SlOf cs k W v l) :
  SlOf cs k ((W.setCell ⟨b, 0, none⟩ (.slice e1 m1 d1)).setCell ⟨b, 1, none⟩ (.slice e2 m2 d2)) v l := by
 have h0 : (W.setCell ⟨b, 0, none⟩ (.slice e1 m1 d1)).heap[b]? = some (boxD (.slice e1 m1 d1) (.slice a2 n2 c2)) := by rw [Joins.block_setCell hb]; rfl
 exact (h.apart hcs hb slices_num 0 _).apart hcs h0 slices_num 1 _
theorem rc_num (x : Rc) (i : Nat) (v : Value) (h : (Rc.cells x)[i]? = some v) : Value.isNum v = true := by
 have := List.mem_of_getElem? h
 simp only [Rc.cells, List.mem_cons, List.not_mem_nil, or_false] at this
 rcases this with rfl | rfl | rfl | rfl | rfl | rfl | rfl | rfl <;> rfl
theorem cell_other {w : World} {b g : Nat} (hne : g ≠ b) (i j : Nat) (v : Value) : (w.setCell ⟨b, i, none⟩ v).cell? ⟨g, j, none⟩ = w.cell? ⟨g, j, none⟩ := by
 have hh : (w.setCell ⟨b, i, none⟩ v).heap[g]? = w.heap[g]? := Below.heap_setCell _ _ _ _ (by show g ≠ b; exact hne)
 simp only [World.cell?, hh]
theorem SlOf.upto {α : Type} {cs : α → List Value} {k : Nat} {w : World} {a : Option Addr} {n c : Nat} {xs : List α} (h : SlOf cs k w (.slice a n c) xs) (m : Nat) (hm : m ≤ n) : SlOf cs k w (.slice a m c) (xs.take m) := by
 obtain ⟨a', c', e, hc⟩ := h
 injection e with e1 e2 e3
 subst e1 e2 e3
 refine ⟨a, c, by rw [List.length_take, Nat.min_eq_left hm], ?_⟩
 rcases hc with hc | ⟨b, off, ha, hE⟩
 ·exact Or.inl (by rw [List.length_take]; omega)
 ·exact Or.inr ⟨b, off, ha, hE.take m⟩
structure DiskR (w : World) (v1 v2 : Value) (d : Dk) : Prop where
 safe : ByteSl w v1 d.1
 wait : ByteSl w v2 d.2
 room1 : Roomy v1
 room2 : Roomy v2
theorem DiskR.later {w w' : World} {v1 v2 : Value} {d : Dk} (h : DiskR w v1 v2 d) (hb : Below w.heap.size w w') : DiskR w' v1 v2 d := ⟨h.safe.later hb, h.wait.later hb, h.room1, h.room2⟩
theorem dk_nil_lines (most : Nat) : linesOf [] most = ([], 0, 0) := dl_nil most 0 [] 0
def c2 : Rc := ⟨2, 0, 2, En.zero⟩
def c3 : Rc := ⟨2, 0, 3, En.zero⟩
def L2 : List UInt8 := [115, 101, 97, 108, 32, 50, 10]
def L3 : List UInt8 := [115, 101, 97, 108, 32, 51, 10]
theorem c2_chk : c2.chk = 0 := by decide
theorem c3_chk : c3.chk = 0 := by decide
theorem c2_txt : c2.txt ++ [10] = L2 := by kernel_rfl
theorem c3_txt : c3.txt ++ [10] = L3 := by kernel_rfl
theorem c2_rows : rtxt [c2] = L2 := by rw [rtxt, List.flatMap_cons, List.flatMap_nil, List.append_nil, c2_txt]
theorem L2_lines (most : Nat) (h : 1 ≤ most) : linesOf L2 most = ([c2], 7, 0) := by
 have := lines_all (rs := [c2]) (fun c hc => by simp at hc; rw [hc]; exact c2_chk) (most := most) h
 rw [c2_rows] at this
 exact this
theorem f1 : dput [] [] c2 = (([], L2), 0) := by
 have h0 : ckDisk [] [] = 0 := ckDisk_zero.2 ⟨by simp, by rw [dk_nil_lines]⟩
 have hl : c2.txt.length + 1 = 7 := by have := congrArg List.length c2_txt; rw [List.length_append] at this; exact this
 rw [dput, if_neg (by simp [h0]), putOn, if_neg (by simp [c2_chk]), if_neg (by simp; omega), c2_txt]
 rfl
theorem f2 : dsync [] L2 = ((L2, []), 0) := by
 have h0 : ckDisk [] L2 = 0 := ckDisk_zero.2 ⟨by decide, by rw [dk_nil_lines]⟩
 have h1 : ckDisk ([] ++ L2) [] = 0 := ckDisk_zero.2 ⟨by decide, by rw [List.nil_append, L2_lines _ (by decide)]⟩
 rw [dsync, if_neg (by simp [h0]), synced, if_neg (by rw [h1]; simp), List.nil_append]
theorem f3 : dput L2 [] c3 = ((L2, L3), 0) := by
 have h0 : ckDisk L2 [] = 0 := ckDisk_zero.2 ⟨by decide, by rw [L2_lines _ (by decide)]⟩
 have hl : c3.txt.length + 1 = 7 := by have := congrArg List.length c3_txt; rw [List.length_append] at this; exact this
 have hl2 : L2.length = 7 := rfl
 rw [dput, if_neg (by simp [h0]), putOn, if_neg (by simp [c3_chk]), if_neg (by rw [hl2]; simp; omega), c3_txt]
 rfl
theorem f4 : dcrash L2 L3 4 = ((L2, [115, 101, 97, 108]), 0) := by
 have h0 : ckDisk L2 L3 = 0 := ckDisk_zero.2 ⟨by decide, by rw [L2_lines _ (by decide)]⟩
 rw [dcrash, if_neg (by simp [h0]), if_neg (by decide)]
 rfl
theorem f5 : drecover L2 [115, 101, 97, 108] = ((L2, []), [c2], 0) := by
 have h0 : ckDisk L2 [115, 101, 97, 108] = 0 := ckDisk_zero.2 ⟨by decide, by rw [L2_lines _ (by decide)]⟩
 obtain ⟨b, hb⟩ := nl_cut (l := [115, 101, 97, 108]) (by decide)
 have h1 : ∀ most, linesOf [115, 101, 97, 108] most = ([], 0, 9) := fun most => dl_torn most _ [] 0 (by simp) hb
 rw [drecover, if_neg (by simp [h0]), recovered, L2_lines _ (by decide), h1]
 rfl
abbrev topLen : Nat := 140737488351232
def Near (W W' : World) (v1 v2 u : Value) : Prop := ∀ b, u.ownBlock = some b → (W.heap.size ≤ b ∧ b < W'.heap.size) ∨ v1.ownBlock = some b ∨ v2.ownBlock = some b
abbrev AnsR (f : Nat) (v1 v2 : Value) (args : Array Value) (w : World) (r : Dk × Int) : Prop :=
 Calls Tryz.prog f args w fun e w' => ∃ u1 u2, e = .returned (.tuple #[.agg #[u1, u2], .int .i64 r.2]) ∧ DiskR w' u1 u2 r.1 ∧ Below w.heap.size w w' ∧ Near w w' v1 v2 u1 ∧ Near w w' v1 v2 u2
section
open Go.ChangeShapes
open Go.WideShapes
open Go.ChangeAt
theorem cellsY : Tryz.prog.cellsOf 5 = 1 := by kernel_rfl
theorem cellsD : Tryz.prog.cellsOf 47 = 2 := by kernel_rfl
theorem cellsLY : Tryz.prog.cellsOf 45 = 1 := by kernel_rfl
section
variable {H : Type} {enc : TypeId × Value → H} {w : World} {base : Nat} {spare : Nat → Bool} {held : Bool}
theorem trodY {fuel : Nat} {cs : List Value} {x : DataW H × List MemPlace} (h : DataW.trod enc Tryz.prog w base spare held fuel 5 cs = some x) : ∃ b : UInt8, cs = bt b := by
 obtain ⟨n, rfl, _, hw⟩ := DataW.trod_int Tryz.underlying5 h
 have hr : 0 ≤ n ∧ n < 256 := by
  have e1 : IntKind.u8.min = 0 := by decide
  have e2 : IntKind.u8.max = 255 := by decide
  simp [Lit.wf] at hw
  omega
 exact ⟨UInt8.ofNat n.toNat, by simp [bt]; omega⟩
theorem one_sl {t e : TypeId} {fuel : Nat} {c0 : Value} {x : DataW H × List MemPlace} (ht : Tryz.prog.underlying t = some (.slice e)) (h : DataW.trod enc Tryz.prog w base spare held fuel t [c0] = some x) : ∃ a l c, c0 = .slice a l c := by
 rcases Deep.open_slice ht h with ⟨hcs, _⟩ | ⟨a, len, cap, m, n, D, Pl, hcs, _⟩
 ·exact ⟨_, _, _, by simpa using hcs⟩
 ·exact ⟨_, _, _, by simpa using hcs⟩
set_option maxRecDepth 100000 in
theorem openY {fuel : Nat} {a0 : Option Addr} {len0 cap0 : Nat} {x : DataW H × List MemPlace} (hf : DataW.trod enc Tryz.prog w base spare held fuel 45 [.slice a0 len0 cap0] = some x) :
  ∃ es : List UInt8, SlOf bt 1 w (.slice a0 len0 cap0) es ∧ es.length ≤ maxLen ∧ len0 ≤ cap0 := by
 rcases Deep.open_slice Tryz.underlying45 hf with ⟨hcs, _⟩ | ⟨a, len, cap, m, n, D, Pl, hcs, _, hl, hm, hmm, _, hel⟩
 ·simp at hcs
  obtain ⟨rfl, rfl, rfl⟩ := hcs
  exact ⟨[], ⟨none, 0, rfl, Or.inl rfl⟩, Nat.zero_le _, Nat.le_refl _⟩
 ·simp at hcs
  obtain ⟨rfl, rfl, rfl⟩ := hcs
  rw [cellsY] at hel
  have hlm : len0 ≤ m := by rw [hmm]; split <;> omega
  have hE : ∀ i, i < len0 → ∃ e : UInt8, ∀ j u, (bt e)[j]? = some u → w.cell? ((a.add (i * 1)).add j) = some u := fun i hi => by
   obtain ⟨cs', h1, h2⟩ := hel i (by omega)
   obtain ⟨e, rfl⟩ := trodY h2
   refine ⟨e, fun j u hj => ?_⟩
   have hlt : j < 1 := by
    have := (List.getElem?_eq_some_iff.1 hj).1
    simpa [bt] using this
   exact ((World.cells?_some h1).2.2 j hlt).trans hj
  obtain ⟨E, hE⟩ := @Deep.choose_lt UInt8 ⟨0⟩ len0 _ hE
  have hlen : ((List.range len0).map E).length = len0 := by simp
  refine ⟨(List.range len0).map E, ⟨some a, cap0, by rw [hlen], ?_⟩, by rw [hlen]; omega, hl⟩
  rw [hlen]
  by_cases hz : len0 = 0
  ·exact Or.inl hz
  ·right
   obtain ⟨b, off, spot⟩ := a
   have hspot : spot = none := by
    have := World.cell?_spot (hE 0 (by omega) 0 _ rfl)
    simpa [Addr.add] using this
   subst hspot
   refine ⟨b, off, rfl, fun j e hj i u hi => ?_⟩
   have hjl : j < len0 := by
    have := (List.getElem?_eq_some_iff.1 hj).1
    rwa [hlen] at this
   have he : E j = e := by simpa [hjl] using hj
   have := hE j hjl i u (by rw [he]; exact hi)
   rw [Deep.add_add, Lib.add_plain] at this
   rw [Nat.add_assoc]
   exact this
set_option maxRecDepth 100000 in
theorem lenY {fuel : Nat} {a0 : Option Addr} {len0 cap0 : Nat} {x : DataW H × List MemPlace} (hf : DataW.trod enc Tryz.prog w base spare held fuel 45 [.slice a0 len0 cap0] = some x) (hs : ∀ n ∈ DataW.weights Tryz.prog 45 x.1, n ≤ reachBytes) : len0 ≤ topLen := by
 rcases Deep.open_slice Tryz.underlying45 hf with ⟨hcs, _⟩ | ⟨a, len, cap, m, n, D, Pl, hcs, _, hl, hm, hmm, hx, hel⟩
 ·simp at hcs
  obtain ⟨rfl, rfl, rfl⟩ := hcs
  exact Nat.zero_le _
 ·simp at hcs
  obtain ⟨rfl, rfl, rfl⟩ := hcs
  have h1 := hs ((len0 + (m - len0)) * Tryz.prog.bytesOf 5) (by rw [hx]; simp [DataW.weights, Tryz.underlying45])
  rw [show Tryz.prog.bytesOf 5 = 1 by kernel_rfl] at h1
  have h2 : reachBytes = 140737488351232 := by decide
  show len0 ≤ 140737488351232
  omega
end
set_option maxRecDepth 100000 in
theorem openI {H : Type} {enc : TypeId × Value → H} {w : World} {base : Nat} {spare : Nat → Bool} {held : Bool} {r : Reach} {b0 : Nat} {v : Value} {d : DataW H} {p : List MemPlace} (hv : Value.okWide Tryz.prog w r b0 3 v) (h : DataW.Trod enc Tryz.prog w base spare held 3 v d p) : ∃ n, v = .int .i64 n := by
 obtain ⟨n, rfl, _⟩ := open_int Tryz.underlying3 hv h
 exact ⟨n, rfl⟩
end
end Go.Proofs.YtmoaobfmopimlafGreatDoor
