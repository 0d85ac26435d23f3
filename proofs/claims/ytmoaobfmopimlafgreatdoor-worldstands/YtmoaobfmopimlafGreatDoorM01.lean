/- For the law. -/
import Derived.Test.YtmoaobfmopimlafGreatDoorRows
import Derived.WalkKit
import Derived.ProofKit
import Derived.Deep.LoopGhost
import Derived.Deep.Draws
import Derived.RegionTactic
import Derived.ChangeAlike
import Derived.Deep.QuietTactic
import Derived.BigQuiet
import Derived.Outline
import Derived.WalkLawsBesides
import Derived.Laws.StructEq
import Derived.Deep.RegionHeld3
import Derived.WalkSpells
import Derived.Shelf.Strings.Builder1
import Derived.Shelf.Strings.Builder2
import Derived.Shelf.Strings.OnBuilder
import Derived.Shelf.Small.Bits
import Derived.Shelf.Utf8.RuneCount
import Derived.Shelf.Strconv.Atoi
import Derived.Shelf.Strconv.Itoa0
import Derived.Shelf.Strconv.Itoa1
import Derived.Shelf.LaysM
import Derived.Shelf.Strconv.Itoa2
import Derived.Shelf.Strconv.Itoa3
import Derived.Shelf.Strconv.Itoa4
import Derived.Shelf.Strconv.AtoiErrFast
import Derived.Shelf.Strconv.ParseIntEmpty
import Derived.Shelf.Strconv.AtoiFail
import Derived.Shelf.Strconv.Clone
import Derived.Shelf.Strconv.SyntaxError
import Derived.Shelf.LaysC
import Derived.Shelf.Strconv.ToError
import Derived.Shelf.Strconv.Lower
import Derived.Shelf.Strconv.ParseUint10
import Derived.Shelf.Strconv.ParseUint10Empty
import Derived.Shelf.Strconv.ParseUint10Any
import Derived.Shelf.Strconv.ParseInt10
import Derived.Shelf.Strconv.AtoiLong
import Derived.Shelf.Strconv.AtoiInnerAll
import Derived.Shelf.Strconv.RangeError
import Derived.Shelf.Strconv.ToErrorRange
import Derived.Shelf.Strconv.AtoiAll
import Derived.Shelf.Strconv.ErrVarAll
import Derived.Shelf.Strconv.ParseUintEmpty
import Derived.Shelf.Strconv.ParseUint10b64
import Derived.Shelf.Strconv.ParseUint10b32
import Derived.Shelf.Strconv.ParseUint10b16
import Derived.Shelf.Strconv.ParseUint10b8
import Derived.Shelf.Strconv.ParseUint10At
import Derived.Shelf.Strconv.ParseInt10At64
import Derived.Shelf.Strconv.ParseInt10At32
import Derived.Shelf.Strconv.ParseInt10At16
import Derived.Shelf.Strconv.ParseInt10At8
import Derived.Shelf.Strconv.ParseInt10All
import Derived.Shelf.Strconv.ParseIntPublic10
import Derived.Shelf.Strconv.ErrVarParseInt
import Derived.Shelf.Strings.Search1
import Derived.Shelf.Strings.Search2
import Derived.Shelf.Strings.Search3
import Derived.Shelf.Strings.Cut
import Derived.Shelf.Strings.Count
import Derived.Shelf.Strings.Shaped
import Derived.Shelf.Strings.Prefix
import Derived.Shelf.Strings.Split
import Derived.Shelf.Strings.SplitShaped
import Derived.Shelf.Unicode.Decode
import Derived.Shelf.Strings.RuneCount
import Derived.Shelf.Strings.Explode
import Derived.Shelf.Bits.Mul64
import Derived.Shelf.Unicode.DecodeSlow
import Derived.Shelf.Unicode.DecodeAny
import Derived.Ground.Names2Prog
import Derived.Shelf.Slices.SearchI
import Derived.Shelf.Bytes.IndexByte
import Derived.Test.YtmoaobfmopimlafGreatDoorProg
import Derived.Lib.SmallJoins
import Derived.Lib.AppendIntMem
import Derived.Lib.AtoiErrMem
import Derived.Lib.ItoaLen
import Derived.Lib.Join
import Derived.Laws.ResultCell
import Derived.Lib.AtoiAllCases
import Derived.Lib.IndexMore
import Derived.Lib.ItoaNum
import Derived.OpenShut
import Derived.LaidMore
import Derived.Lay
import Derived.Lib.LaidTab
import Derived.Stop.LaidErr
import Derived.Deep.DeepHandedRow
import Derived.ChangeMaps5
import Derived.Carry
import Derived.Lib.ParseIntBTie
import Derived.Lib.SplitLaws
set_option linter.unusedSimpArgs false
set_option linter.unusedVariables false
set_option maxHeartbeats 16000000
set_option maxRecDepth 100000
namespace Go.Proofs.YtmoaobfmopimlafGreatDoor
open Go Go.ChangeShapes Go.WideShapes Go.ChangeAt Go.RowKit
theorem qa {α : Type} (l : List α) (i : Nat) (a : α) : l.toArray.setIfInBounds i a = (l.set i a).toArray := List.setIfInBounds_toArray l i a
theorem qb {α : Type} {x : α} {xs : List α} {a : α} : (x :: xs).set 0 a = a :: xs := rfl
theorem qc {α : Type} {x : α} {xs : List α} {i : Nat} {a : α} : (x :: xs).set (i + 1) a = x :: xs.set i a := rfl
theorem tk {P : Program} {ops : Array Oper} {Q : Exit → Act → World → Prop} {md : Region.Mode} {S : World → Prop} (i : Nat) {oi : Oper} {v : Value} {fuel : Nat} {listed : Array Bool} {a : Act} {w : World} (hi : ops[i]? = some oi)
 (h3 : (Region.noSelect ops && (Region.free md ops listed i && (Region.ready md ops listed).contains i)) = true) (hw : Region.wanted oi (yielded ops a.tmps) = true) (hS : S w) (hQ : ∀ c a w, Q (.panic c) (a.put oi.dst v) w → Q (.panic c) a w)
 (hy : ∀ w, S w → (execOp a.eval oi).run P w = .ok (.value v) w) (h : wpAnyH P md ops Q S fuel (listed.setIfInBounds i true) (a.put oi.dst v) w) : wpAnyH P md ops Q S (fuel + 1) listed a w := by
 simp only [Bool.and_eq_true] at h3
 exact wpAnyH_take hi h3.1 h3.2.1 h3.2.2 hQ (Or.inl ⟨hw, hy⟩) hS h
theorem rdy {P : Program} {ops : Array Oper} {Q : Exit → Act → World → Prop} {md : Region.Mode} {S : World → Prop} (i : Nat) {o : Oper} {fuel : Nat} {listed : Array Bool} {a : Act} {w : World} (hr : Region.ready md ops listed = [i]) (ho : ops[i]? = some o)
 (h : ∀ K' : Act → World → Prop, Shut (∀ a w, S w → (S w → wpAnyH P md ops Q S fuel (listed.setIfInBounds i true) a w) → K' a w) → if Region.wanted o (yielded ops a.tmps) = true then Oper.wp P o a w K' Q else K' (a.put o.dst undef) w) : wpAnyH P md ops Q S (fuel + 1) listed a w :=
 wpAnyH_ready hr (by simp) (AllReadyH.cons ho h AllReadyH.nil)
theorem grew {a w : World} (h : Below a.heap.size a w) (o : Obj) : Below a.heap.size a (w.alloc o) := h.alloc h.size o
abbrev ev (k j v t c : Int) : Value := .agg #[.int .i64 k, .int .i64 j, .int .i64 v, .int .i64 t, .int .i64 c]
def inR (j v t c : Int) : Bool := decide (0 ≤ j ∧ j < 6 ∧ 0 ≤ v ∧ v ≤ 100 ∧ 0 ≤ t ∧ t ≤ 100000 ∧ 0 ≤ c ∧ c < 3)
theorem inR_false {j v t c : Int} (h : ¬ (0 ≤ j ∧ j < 6 ∧ 0 ≤ v ∧ v ≤ 100 ∧ 0 ≤ t ∧ t ≤ 100000 ∧ 0 ≤ c ∧ c < 3)) : inR j v t c = false := decide_eq_false h
theorem inRange_any (k j v t c : Int) (w : World) :
  Calls Tryz.prog 147 #[ev k j v t c] w fun e w' => e = .returned (.bool (inR j v t c)) ∧ w' = w.alloc (.cells #[.int .i64 k, .int .i64 j, .int .i64 v, .int .i64 t, .int .i64 c] 27) := by
 have hc : ¬ 0 ≤ j ∨ (0 ≤ j ∧ ¬ j < 6) ∨ (0 ≤ j ∧ j < 6 ∧ ¬ 0 ≤ v) ∨ (0 ≤ j ∧ j < 6 ∧ 0 ≤ v ∧ ¬ v ≤ 100) ∨ (0 ≤ j ∧ j < 6 ∧ 0 ≤ v ∧ v ≤ 100 ∧ ¬ 0 ≤ t) ∨
   (0 ≤ j ∧ j < 6 ∧ 0 ≤ v ∧ v ≤ 100 ∧ 0 ≤ t ∧ ¬ t ≤ 100000) ∨ (0 ≤ j ∧ j < 6 ∧ 0 ≤ v ∧ v ≤ 100 ∧ 0 ≤ t ∧ t ≤ 100000 ∧ ¬ 0 ≤ c) ∨
   (0 ≤ j ∧ j < 6 ∧ 0 ≤ v ∧ v ≤ 100 ∧ 0 ≤ t ∧ t ≤ 100000 ∧ 0 ≤ c ∧ ¬ c < 3) ∨ (0 ≤ j ∧ j < 6 ∧ 0 ≤ v ∧ v ≤ 100 ∧ 0 ≤ t ∧ t ≤ 100000 ∧ 0 ≤ c ∧ c < 3) := by omega
 rcases hc with h | ⟨h, h1⟩ | ⟨h, h1, h2⟩ | ⟨h, h1, h2, h3⟩ | ⟨h, h1, h2, h3, h4⟩ | ⟨h, h1, h2, h3, h4, h5⟩ | ⟨h, h1, h2, h3, h4, h5, h6⟩ | ⟨h, h1, h2, h3, h4, h5, h6, h7⟩ | ⟨h, h1, h2, h3, h4, h5, h6, h7⟩
 all_goals
  first
   | rw [inR_false (by omega)]
   | rw [show inR j v t c = true from decide_eq_true ⟨h, h1, h2, h3, h4, h5, h6, h7⟩]
  go_enter Tryz.func147, Tryz.ntmps147
  go_wp2
  go_ret
  exact ⟨rfl, rfl⟩
def num0 (k j : Int) : Int := if k = 1 ∨ k = 2 ∨ k = 3 then j else 0
def num1 (k v t : Int) : Int := if k = 1 then v else if k = 3 then t else 0
def num2 (k t c : Int) : Int := if k = 1 then t else if k = 3 then c else 0
abbrev nv (a b c : Int) : Value := .agg #[.int .i64 a, .int .i64 b, .int .i64 c]
theorem cases4 (k : Int) : k = 1 ∨ k = 2 ∨ k = 3 ∨ ((k == 1) = false ∧ (k == 2) = false ∧ (k == 3) = false) := by
 simp only [beq_eq_false_iff_ne]; omega
theorem numbers_any (k j v t c : Int) (w : World) :
  Calls Tryz.prog 149 #[ev k j v t c] w fun e w' => e = .returned (nv (num0 k j) (num1 k v t) (num2 k t c)) ∧
   w' = (w.alloc (.cells #[.int .i64 k, .int .i64 j, .int .i64 v, .int .i64 t, .int .i64 c] 27)).alloc (.cells #[.int .i64 (num0 k j), .int .i64 (num1 k v t), .int .i64 (num2 k t c)] 184) := by
 rcases cases4 k with rfl | rfl | rfl | ⟨h1, h2, h3⟩
 case inr.inr.inr =>
  rw [show num0 k j = 0 from if_neg (by simp at h1 h2 h3; omega), show num1 k v t = 0 from by rw [num1, if_neg (by simpa using h1), if_neg (by simpa using h3)], show num2 k t c = 0 from by rw [num2, if_neg (by simpa using h1), if_neg (by simpa using h3)]]
  go_enter Tryz.func149, Tryz.ntmps149
  go_wp2
  exact bodyPost_ret (v := nv 0 0 0) (by simp [results, Tryz.results149, go_sem]) rfl ⟨rfl, rfl⟩
 · rw [show num0 1 j = j from rfl, show num1 1 v t = v from rfl, show num2 1 t c = t from rfl]
  go_enter Tryz.func149, Tryz.ntmps149
  go_wp2
  exact bodyPost_ret (v := nv j v t) (by simp [results, Tryz.results149, go_sem]) rfl ⟨rfl, rfl⟩
 · rw [show num0 2 j = j from rfl, show num1 2 v t = 0 from rfl, show num2 2 t c = 0 from rfl]
  go_enter Tryz.func149, Tryz.ntmps149
  go_wp2
  exact bodyPost_ret (v := nv j 0 0) (by simp [results, Tryz.results149, go_sem]) rfl ⟨rfl, rfl⟩
 · rw [show num0 3 j = j from rfl, show num1 3 v t = t from rfl, show num2 3 t c = c from rfl]
  go_enter Tryz.func149, Tryz.ntmps149
  go_wp2
  exact bodyPost_ret (v := nv j t c) (by simp [results, Tryz.results149, go_sem]) rfl ⟨rfl, rfl⟩
def bJob (k a : Int) : Int := if k = 1 ∨ k = 2 ∨ k = 3 then a else 0
def bEvery (k b : Int) : Int := if k = 1 then b else 0
def bTime (k b c : Int) : Int := if k = 1 then c else if k = 3 then b else 0
def bClient (k c : Int) : Int := if k = 3 then c else 0
theorem build_any (k a b c : Int) (w : World) :
  Calls Tryz.prog 148 #[.int .i64 k, nv a b c] w fun e w' => e = .returned (ev k (bJob k a) (bEvery k b) (bTime k b c) (bClient k c)) ∧
   w' = (w.alloc (.cells #[.int .i64 a, .int .i64 b, .int .i64 c] 184)).alloc (.cells #[.int .i64 k, .int .i64 (bJob k a), .int .i64 (bEvery k b), .int .i64 (bTime k b c), .int .i64 (bClient k c)] 27) := by
 rcases cases4 k with rfl | rfl | rfl | ⟨h1, h2, h3⟩
 case inr.inr.inr =>
  rw [show bJob k a = 0 from if_neg (by simp at h1 h2 h3; omega), show bEvery k b = 0 from if_neg (by simpa using h1), show bTime k b c = 0 from by rw [bTime, if_neg (by simpa using h1), if_neg (by simpa using h3)], show bClient k c = 0 from if_neg (by simpa using h3)]
  go_enter Tryz.func148, Tryz.ntmps148
  go_wp2
  exact bodyPost_ret (v := ev k 0 0 0 0) (by simp [results, Tryz.results148, go_sem]) rfl ⟨rfl, rfl⟩
 · rw [show bJob 1 a = a from rfl, show bEvery 1 b = b from rfl, show bTime 1 b c = c from rfl, show bClient 1 c = 0 from rfl]
  go_enter Tryz.func148, Tryz.ntmps148
  go_wp2
  exact bodyPost_ret (v := ev 1 a b c 0) (by simp [results, Tryz.results148, go_sem]) rfl ⟨rfl, rfl⟩
 · rw [show bJob 2 a = a from rfl, show bEvery 2 b = 0 from rfl, show bTime 2 b c = 0 from rfl, show bClient 2 c = 0 from rfl]
  go_enter Tryz.func148, Tryz.ntmps148
  go_wp2
  exact bodyPost_ret (v := ev 2 a 0 0 0) (by simp [results, Tryz.results148, go_sem]) rfl ⟨rfl, rfl⟩
 · rw [show bJob 3 a = a from rfl, show bEvery 3 b = 0 from rfl, show bTime 3 b c = b from rfl, show bClient 3 c = c from rfl]
  go_enter Tryz.func148, Tryz.ntmps148
  go_wp2
  exact bodyPost_ret (v := ev 3 a 0 b c) (by simp [results, Tryz.results148, go_sem]) rfl ⟨rfl, rfl⟩
def unlike (k j v t c k' j' v' t' c' : Int) : Bool := !(k == k' && (j == j' && (v == v' && (t == t' && c == c'))))
theorem neq_entry (k j v t c k' j' v' t' c' : Int) (w : World) :
  (binOp .neq 27 (ev k j v t c) (ev k' j' v' t' c')).run Tryz.prog w = .ok (.bool (unlike k j v t c k' j' v' t' c')) w := by
 have u3 := Tryz.underlying3
 have a3 := Tryz.isAgg3
 have z3 := Tryz.sizeOf3
 have hS : Tryz.prog.underlying 27 = some (.struct (Tryz.prog.fieldsOf 27)) := by kernel_rfl
 have hp : Tryz.prog.stoodInHeld 27 = false := by kernel_rfl
 rw [run_neq_struct, show (10000 : Nat) = 9999 + 1 from rfl, run_equalIn_agg w 9999 27 _ _ hS hp]
 simp only [Program.fieldsOf, Tryz.underlying27]
 go_simp
 unfold unlike
 by_cases h1 : k = k' <;> by_cases h2 : j = j' <;> by_cases h3 : v = v' <;> by_cases h4 : t = t' <;> by_cases h5 : c = c' <;> simp [h1, h2, h3, h4, h5]
def lost (k j v t c : Int) : Bool := unlike k (bJob k (num0 k j)) (bEvery k (num1 k v t)) (bTime k (num1 k v t) (num2 k t c)) (bClient k (num2 k t c)) k j v t c
def chk (k j v t c : Int) : Int := if k < 0 ∨ 3 < k then 4 else if inR j v t c = false then 3 else if lost k j v t c = true then 4 else if k = 1 ∧ v = 0 then 4 else 0
theorem check_kind (k j v t c : Int) (w : World) (hk : k < 0 ∨ 3 < k) :
  Calls Tryz.prog 115 #[ev k j v t c] w fun e w' => e = .returned (.int .i64 4) ∧ Below w.heap.size w w' := by
 have hk' : k < 0 ∨ (0 ≤ k ∧ 3 < k) := by omega
 clear hk
 rcases hk' with h | ⟨h, h'⟩
 all_goals
  go_enter Tryz.func115, Tryz.ntmps115
  go_wp2
  go_ret
  exact ⟨rfl, (Below.refl _ _).alloc (Nat.le_refl _) _⟩
theorem check_range (k j v t c : Int) (w : World) (h : 0 ≤ k) (h' : k ≤ 3) (hr : inR j v t c = false) :
  Calls Tryz.prog 115 #[ev k j v t c] w fun e w' => e = .returned (.int .i64 3) ∧ Below w.heap.size w w' := by
 go_enter Tryz.func115, Tryz.ntmps115
 go_wp2_with (go_at_call 147; refine (inRange_any _ _ _ _ _ _).mono ?_; rintro e w' ⟨rfl, rfl⟩)
 go_ret
 exact ⟨rfl, ((Below.refl _ _).alloc (Nat.le_refl _) _).alloc (by simp) _⟩
theorem numbers_b (k j v t c : Int) (w : World) :
  Calls Tryz.prog 149 #[ev k j v t c] w fun e w' => e = .returned (nv (num0 k j) (num1 k v t) (num2 k t c)) ∧ Below w.heap.size w w' :=
 (numbers_any k j v t c w).mono fun _ _ ⟨he, hw⟩ => ⟨he, by rw [hw]; exact grew (grew (Below.refl _ _) _) _⟩
theorem build_b (k a b c : Int) (w : World) :
  Calls Tryz.prog 148 #[.int .i64 k, nv a b c] w fun e w' => e = .returned (ev k (bJob k a) (bEvery k b) (bTime k b c) (bClient k c)) ∧ Below w.heap.size w w' :=
 (build_any k a b c w).mono fun _ _ ⟨he, hw⟩ => ⟨he, by rw [hw]; exact grew (grew (Below.refl _ _) _) _⟩
theorem check_step {w W W' : World} {k j v t c : Int} (h : (Below w.heap.size w W ∧ W.cell? ⟨w.heap.size, 0, none⟩ = some (.int .i64 k)) ∧ W.cell? ⟨w.heap.size, 1, none⟩ = some (.int .i64 j) ∧ W.cell? ⟨w.heap.size, 2, none⟩ = some (.int .i64 v) ∧ W.cell? ⟨w.heap.size, 3, none⟩ = some (.int .i64 t) ∧ W.cell? ⟨w.heap.size, 4, none⟩ = some (.int .i64 c)) (hb : Below W.heap.size W W') :
  (Below w.heap.size w W' ∧ W'.cell? ⟨w.heap.size, 0, none⟩ = some (.int .i64 k)) ∧ W'.cell? ⟨w.heap.size, 1, none⟩ = some (.int .i64 j) ∧ W'.cell? ⟨w.heap.size, 2, none⟩ = some (.int .i64 v) ∧ W'.cell? ⟨w.heap.size, 3, none⟩ = some (.int .i64 t) ∧ W'.cell? ⟨w.heap.size, 4, none⟩ = some (.int .i64 c) :=
 ⟨⟨h.1.1.trans (hb.mono h.1.1.size), cell_later hb h.1.2⟩, cell_later hb h.2.1, cell_later hb h.2.2.1, cell_later hb h.2.2.2.1, cell_later hb h.2.2.2.2⟩
theorem check_lost (k j v t c : Int) (w : World) (h : 0 ≤ k) (h' : k ≤ 3) (hr : inR j v t c = true) (hl : lost k j v t c = true) :
  Calls Tryz.prog 115 #[ev k j v t c] w fun e w' => e = .returned (.int .i64 4) ∧ Below w.heap.size w w' := by
 have hne := fun W => neq_entry k (bJob k (num0 k j)) (bEvery k (num1 k v t)) (bTime k (num1 k v t) (num2 k t c)) (bClient k (num2 k t c)) k j v t c W
 change ∀ W, _ = Result.ok (Value.bool (lost k j v t c)) W at hne
 rw [hl] at hne
 clear hl
 have hS0 : (Below w.heap.size w ((w.alloc (.cells #[.int .i64 k, .int .i64 j, .int .i64 v, .int .i64 t, .int .i64 c] 27)).alloc (.cells #[.int .i64 k, .int .i64 j, .int .i64 v, .int .i64 t, .int .i64 c] 27)) ∧ ((w.alloc (.cells #[.int .i64 k, .int .i64 j, .int .i64 v, .int .i64 t, .int .i64 c] 27)).alloc (.cells #[.int .i64 k, .int .i64 j, .int .i64 v, .int .i64 t, .int .i64 c] 27)).cell? ⟨w.heap.size, 0, none⟩ = some (.int .i64 k)) ∧ ((w.alloc (.cells #[.int .i64 k, .int .i64 j, .int .i64 v, .int .i64 t, .int .i64 c] 27)).alloc (.cells #[.int .i64 k, .int .i64 j, .int .i64 v, .int .i64 t, .int .i64 c] 27)).cell? ⟨w.heap.size, 1, none⟩ = some (.int .i64 j) ∧ ((w.alloc (.cells #[.int .i64 k, .int .i64 j, .int .i64 v, .int .i64 t, .int .i64 c] 27)).alloc (.cells #[.int .i64 k, .int .i64 j, .int .i64 v, .int .i64 t, .int .i64 c] 27)).cell? ⟨w.heap.size, 2, none⟩ = some (.int .i64 v) ∧ ((w.alloc (.cells #[.int .i64 k, .int .i64 j, .int .i64 v, .int .i64 t, .int .i64 c] 27)).alloc (.cells #[.int .i64 k, .int .i64 j, .int .i64 v, .int .i64 t, .int .i64 c] 27)).cell? ⟨w.heap.size, 3, none⟩ = some (.int .i64 t) ∧ ((w.alloc (.cells #[.int .i64 k, .int .i64 j, .int .i64 v, .int .i64 t, .int .i64 c] 27)).alloc (.cells #[.int .i64 k, .int .i64 j, .int .i64 v, .int .i64 t, .int .i64 c] 27)).cell? ⟨w.heap.size, 4, none⟩ = some (.int .i64 c) := by
  have h : ∀ (a : Array Value) (o : Obj) (i : Nat), ((w.alloc (.cells a 27)).alloc o).cell? ⟨w.heap.size, i, none⟩ = a[i]? := fun a o i => by
   rw [World.cell?_alloc_past _ _ _ (by simp), World.cell?_alloc_at _ _ _ _ rfl]
  refine ⟨⟨grew (grew (Below.refl _ _) _) _, ?_⟩, ?_, ?_, ?_, ?_⟩ <;> rw [h] <;> rfl
 have q1 := fun W => numbers_b k j v t c W
 have q2 := fun W => build_b k (num0 k j) (num1 k v t) (num2 k t c) W
 go_enter Tryz.func115, Tryz.ntmps115
 go_wp2_with (go_at_call 147; refine (inRange_any _ _ _ _ _ _).mono ?_; rintro e w' ⟨rfl, rfl⟩)
 generalize (w.alloc (.cells #[.int .i64 k, .int .i64 j, .int .i64 v, .int .i64 t, .int .i64 c] 27)).alloc (.cells #[.int .i64 k, .int .i64 j, .int .i64 v, .int .i64 t, .int .i64 c] 27) = W0 at *
 have hbd : Below W0.heap.size W0 W0.drew := (Below.refl _ _).drew
 go_region_held3 (fun w' => (Below w.heap.size w w' ∧ w'.cell? ⟨w.heap.size, 0, none⟩ = some (.int .i64 k)) ∧ w'.cell? ⟨w.heap.size, 1, none⟩ = some (.int .i64 j) ∧ w'.cell? ⟨w.heap.size, 2, none⟩ = some (.int .i64 v) ∧ w'.cell? ⟨w.heap.size, 3, none⟩ = some (.int .i64 t) ∧ w'.cell? ⟨w.heap.size, 4, none⟩ = some (.int .i64 c)) (exact check_step (by assumption) (by assumption)) (first | (go_at_call 149; refine (q1 _).mono ?_; rintro e w' ⟨rfl, hb'⟩) | (go_at_call 148; refine (q2 _).mono ?_; rintro e w' ⟨rfl, hb'⟩))
 all_goals
  rename_i hS
  obtain ⟨⟨hB, k0⟩, k1, k2, _⟩ := hS
  clear q1 q2 hS0 hbd hne
  go_wp2
  go_ret
  exact ⟨rfl, hB⟩
theorem check_every (j t c : Int) (w : World) (hr : inR j 0 t c = true) (hl : lost 1 j 0 t c = false) :
  Calls Tryz.prog 115 #[ev 1 j 0 t c] w fun e w' => e = .returned (.int .i64 4) ∧ Below w.heap.size w w' := by
 have hne := fun W => neq_entry 1 (bJob 1 (num0 1 j)) (bEvery 1 (num1 1 0 t)) (bTime 1 (num1 1 0 t) (num2 1 t c)) (bClient 1 (num2 1 t c)) 1 j 0 t c W
 change ∀ W, _ = Result.ok (Value.bool (lost 1 j 0 t c)) W at hne
 rw [hl] at hne
 clear hl
 have hS0 : (Below w.heap.size w ((w.alloc (.cells #[.int .i64 1, .int .i64 j, .int .i64 0, .int .i64 t, .int .i64 c] 27)).alloc (.cells #[.int .i64 1, .int .i64 j, .int .i64 0, .int .i64 t, .int .i64 c] 27)) ∧ ((w.alloc (.cells #[.int .i64 1, .int .i64 j, .int .i64 0, .int .i64 t, .int .i64 c] 27)).alloc (.cells #[.int .i64 1, .int .i64 j, .int .i64 0, .int .i64 t, .int .i64 c] 27)).cell? ⟨w.heap.size, 0, none⟩ = some (.int .i64 1)) ∧ ((w.alloc (.cells #[.int .i64 1, .int .i64 j, .int .i64 0, .int .i64 t, .int .i64 c] 27)).alloc (.cells #[.int .i64 1, .int .i64 j, .int .i64 0, .int .i64 t, .int .i64 c] 27)).cell? ⟨w.heap.size, 1, none⟩ = some (.int .i64 j) ∧ ((w.alloc (.cells #[.int .i64 1, .int .i64 j, .int .i64 0, .int .i64 t, .int .i64 c] 27)).alloc (.cells #[.int .i64 1, .int .i64 j, .int .i64 0, .int .i64 t, .int .i64 c] 27)).cell? ⟨w.heap.size, 2, none⟩ = some (.int .i64 0) ∧ ((w.alloc (.cells #[.int .i64 1, .int .i64 j, .int .i64 0, .int .i64 t, .int .i64 c] 27)).alloc (.cells #[.int .i64 1, .int .i64 j, .int .i64 0, .int .i64 t, .int .i64 c] 27)).cell? ⟨w.heap.size, 3, none⟩ = some (.int .i64 t) ∧ ((w.alloc (.cells #[.int .i64 1, .int .i64 j, .int .i64 0, .int .i64 t, .int .i64 c] 27)).alloc (.cells #[.int .i64 1, .int .i64 j, .int .i64 0, .int .i64 t, .int .i64 c] 27)).cell? ⟨w.heap.size, 4, none⟩ = some (.int .i64 c) := by
  have h : ∀ (a : Array Value) (o : Obj) (i : Nat), ((w.alloc (.cells a 27)).alloc o).cell? ⟨w.heap.size, i, none⟩ = a[i]? := fun a o i => by
   rw [World.cell?_alloc_past _ _ _ (by simp), World.cell?_alloc_at _ _ _ _ rfl]
  refine ⟨⟨grew (grew (Below.refl _ _) _) _, ?_⟩, ?_, ?_, ?_, ?_⟩ <;> rw [h] <;> rfl
 have q1 := fun W => numbers_b 1 j 0 t c W
 have q2 := fun W => build_b 1 (num0 1 j) (num1 1 0 t) (num2 1 t c) W
 go_enter Tryz.func115, Tryz.ntmps115
 go_wp2_with (go_at_call 147; refine (inRange_any _ _ _ _ _ _).mono ?_; rintro e w' ⟨rfl, rfl⟩)
 generalize (w.alloc (.cells #[.int .i64 1, .int .i64 j, .int .i64 0, .int .i64 t, .int .i64 c] 27)).alloc (.cells #[.int .i64 1, .int .i64 j, .int .i64 0, .int .i64 t, .int .i64 c] 27) = W0 at *
 have hbd : Below W0.heap.size W0 W0.drew := (Below.refl _ _).drew
 go_region_held3 (fun w' => (Below w.heap.size w w' ∧ w'.cell? ⟨w.heap.size, 0, none⟩ = some (.int .i64 1)) ∧ w'.cell? ⟨w.heap.size, 1, none⟩ = some (.int .i64 j) ∧ w'.cell? ⟨w.heap.size, 2, none⟩ = some (.int .i64 0) ∧ w'.cell? ⟨w.heap.size, 3, none⟩ = some (.int .i64 t) ∧ w'.cell? ⟨w.heap.size, 4, none⟩ = some (.int .i64 c)) (exact check_step (by assumption) (by assumption)) (first | (go_at_call 149; refine (q1 _).mono ?_; rintro e w' ⟨rfl, hb'⟩) | (go_at_call 148; refine (q2 _).mono ?_; rintro e w' ⟨rfl, hb'⟩))
 all_goals
  rename_i hS
  obtain ⟨⟨hB, k0⟩, k1, k2, _⟩ := hS
  clear q1 q2 hS0 hbd hne
  go_wp2
  go_ret
  exact ⟨rfl, hB⟩
theorem check_ok1 (j v t c : Int) (w : World) (hr : inR j v t c = true) (hl : lost 1 j v t c = false) (hv : (v == 0) = false) :
  Calls Tryz.prog 115 #[ev 1 j v t c] w fun e w' => e = .returned (.int .i64 0) ∧ Below w.heap.size w w' := by
 have hne := fun W => neq_entry 1 (bJob 1 (num0 1 j)) (bEvery 1 (num1 1 v t)) (bTime 1 (num1 1 v t) (num2 1 t c)) (bClient 1 (num2 1 t c)) 1 j v t c W
 change ∀ W, _ = Result.ok (Value.bool (lost 1 j v t c)) W at hne
 rw [hl] at hne
 clear hl
 have hS0 : (Below w.heap.size w ((w.alloc (.cells #[.int .i64 1, .int .i64 j, .int .i64 v, .int .i64 t, .int .i64 c] 27)).alloc (.cells #[.int .i64 1, .int .i64 j, .int .i64 v, .int .i64 t, .int .i64 c] 27)) ∧ ((w.alloc (.cells #[.int .i64 1, .int .i64 j, .int .i64 v, .int .i64 t, .int .i64 c] 27)).alloc (.cells #[.int .i64 1, .int .i64 j, .int .i64 v, .int .i64 t, .int .i64 c] 27)).cell? ⟨w.heap.size, 0, none⟩ = some (.int .i64 1)) ∧ ((w.alloc (.cells #[.int .i64 1, .int .i64 j, .int .i64 v, .int .i64 t, .int .i64 c] 27)).alloc (.cells #[.int .i64 1, .int .i64 j, .int .i64 v, .int .i64 t, .int .i64 c] 27)).cell? ⟨w.heap.size, 1, none⟩ = some (.int .i64 j) ∧ ((w.alloc (.cells #[.int .i64 1, .int .i64 j, .int .i64 v, .int .i64 t, .int .i64 c] 27)).alloc (.cells #[.int .i64 1, .int .i64 j, .int .i64 v, .int .i64 t, .int .i64 c] 27)).cell? ⟨w.heap.size, 2, none⟩ = some (.int .i64 v) ∧ ((w.alloc (.cells #[.int .i64 1, .int .i64 j, .int .i64 v, .int .i64 t, .int .i64 c] 27)).alloc (.cells #[.int .i64 1, .int .i64 j, .int .i64 v, .int .i64 t, .int .i64 c] 27)).cell? ⟨w.heap.size, 3, none⟩ = some (.int .i64 t) ∧ ((w.alloc (.cells #[.int .i64 1, .int .i64 j, .int .i64 v, .int .i64 t, .int .i64 c] 27)).alloc (.cells #[.int .i64 1, .int .i64 j, .int .i64 v, .int .i64 t, .int .i64 c] 27)).cell? ⟨w.heap.size, 4, none⟩ = some (.int .i64 c) := by
  have h : ∀ (a : Array Value) (o : Obj) (i : Nat), ((w.alloc (.cells a 27)).alloc o).cell? ⟨w.heap.size, i, none⟩ = a[i]? := fun a o i => by
   rw [World.cell?_alloc_past _ _ _ (by simp), World.cell?_alloc_at _ _ _ _ rfl]
  refine ⟨⟨grew (grew (Below.refl _ _) _) _, ?_⟩, ?_, ?_, ?_, ?_⟩ <;> rw [h] <;> rfl
 have q1 := fun W => numbers_b 1 j v t c W
 have q2 := fun W => build_b 1 (num0 1 j) (num1 1 v t) (num2 1 t c) W
 go_enter Tryz.func115, Tryz.ntmps115
 go_wp2_with (go_at_call 147; refine (inRange_any _ _ _ _ _ _).mono ?_; rintro e w' ⟨rfl, rfl⟩)
 generalize (w.alloc (.cells #[.int .i64 1, .int .i64 j, .int .i64 v, .int .i64 t, .int .i64 c] 27)).alloc (.cells #[.int .i64 1, .int .i64 j, .int .i64 v, .int .i64 t, .int .i64 c] 27) = W0 at *
 have hbd : Below W0.heap.size W0 W0.drew := (Below.refl _ _).drew
 go_region_held3 (fun w' => (Below w.heap.size w w' ∧ w'.cell? ⟨w.heap.size, 0, none⟩ = some (.int .i64 1)) ∧ w'.cell? ⟨w.heap.size, 1, none⟩ = some (.int .i64 j) ∧ w'.cell? ⟨w.heap.size, 2, none⟩ = some (.int .i64 v) ∧ w'.cell? ⟨w.heap.size, 3, none⟩ = some (.int .i64 t) ∧ w'.cell? ⟨w.heap.size, 4, none⟩ = some (.int .i64 c)) (exact check_step (by assumption) (by assumption)) (first | (go_at_call 149; refine (q1 _).mono ?_; rintro e w' ⟨rfl, hb'⟩) | (go_at_call 148; refine (q2 _).mono ?_; rintro e w' ⟨rfl, hb'⟩))
 all_goals
  rename_i hS
  obtain ⟨⟨hB, k0⟩, k1, k2, _⟩ := hS
  clear q1 q2 hS0 hbd hne
  go_wp2
  go_ret
  exact ⟨rfl, hB⟩
theorem check_ok (k j v t c : Int) (w : World) (h : 0 ≤ k) (h' : k ≤ 3) (hr : inR j v t c = true) (hl : lost k j v t c = false) (hk : (k == 1) = false) :
  Calls Tryz.prog 115 #[ev k j v t c] w fun e w' => e = .returned (.int .i64 0) ∧ Below w.heap.size w w' := by
 have hne := fun W => neq_entry k (bJob k (num0 k j)) (bEvery k (num1 k v t)) (bTime k (num1 k v t) (num2 k t c)) (bClient k (num2 k t c)) k j v t c W
 change ∀ W, _ = Result.ok (Value.bool (lost k j v t c)) W at hne
 rw [hl] at hne
 clear hl
 have hS0 : (Below w.heap.size w ((w.alloc (.cells #[.int .i64 k, .int .i64 j, .int .i64 v, .int .i64 t, .int .i64 c] 27)).alloc (.cells #[.int .i64 k, .int .i64 j, .int .i64 v, .int .i64 t, .int .i64 c] 27)) ∧ ((w.alloc (.cells #[.int .i64 k, .int .i64 j, .int .i64 v, .int .i64 t, .int .i64 c] 27)).alloc (.cells #[.int .i64 k, .int .i64 j, .int .i64 v, .int .i64 t, .int .i64 c] 27)).cell? ⟨w.heap.size, 0, none⟩ = some (.int .i64 k)) ∧ ((w.alloc (.cells #[.int .i64 k, .int .i64 j, .int .i64 v, .int .i64 t, .int .i64 c] 27)).alloc (.cells #[.int .i64 k, .int .i64 j, .int .i64 v, .int .i64 t, .int .i64 c] 27)).cell? ⟨w.heap.size, 1, none⟩ = some (.int .i64 j) ∧ ((w.alloc (.cells #[.int .i64 k, .int .i64 j, .int .i64 v, .int .i64 t, .int .i64 c] 27)).alloc (.cells #[.int .i64 k, .int .i64 j, .int .i64 v, .int .i64 t, .int .i64 c] 27)).cell? ⟨w.heap.size, 2, none⟩ = some (.int .i64 v) ∧ ((w.alloc (.cells #[.int .i64 k, .int .i64 j, .int .i64 v, .int .i64 t, .int .i64 c] 27)).alloc (.cells #[.int .i64 k, .int .i64 j, .int .i64 v, .int .i64 t, .int .i64 c] 27)).cell? ⟨w.heap.size, 3, none⟩ = some (.int .i64 t) ∧ ((w.alloc (.cells #[.int .i64 k, .int .i64 j, .int .i64 v, .int .i64 t, .int .i64 c] 27)).alloc (.cells #[.int .i64 k, .int .i64 j, .int .i64 v, .int .i64 t, .int .i64 c] 27)).cell? ⟨w.heap.size, 4, none⟩ = some (.int .i64 c) := by
  have h : ∀ (a : Array Value) (o : Obj) (i : Nat), ((w.alloc (.cells a 27)).alloc o).cell? ⟨w.heap.size, i, none⟩ = a[i]? := fun a o i => by
   rw [World.cell?_alloc_past _ _ _ (by simp), World.cell?_alloc_at _ _ _ _ rfl]
  refine ⟨⟨grew (grew (Below.refl _ _) _) _, ?_⟩, ?_, ?_, ?_, ?_⟩ <;> rw [h] <;> rfl
 have q1 := fun W => numbers_b k j v t c W
 have q2 := fun W => build_b k (num0 k j) (num1 k v t) (num2 k t c) W
 go_enter Tryz.func115, Tryz.ntmps115
 go_wp2_with (go_at_call 147; refine (inRange_any _ _ _ _ _ _).mono ?_; rintro e w' ⟨rfl, rfl⟩)
 generalize (w.alloc (.cells #[.int .i64 k, .int .i64 j, .int .i64 v, .int .i64 t, .int .i64 c] 27)).alloc (.cells #[.int .i64 k, .int .i64 j, .int .i64 v, .int .i64 t, .int .i64 c] 27) = W0 at *
 have hbd : Below W0.heap.size W0 W0.drew := (Below.refl _ _).drew
 go_region_held3 (fun w' => (Below w.heap.size w w' ∧ w'.cell? ⟨w.heap.size, 0, none⟩ = some (.int .i64 k)) ∧ w'.cell? ⟨w.heap.size, 1, none⟩ = some (.int .i64 j) ∧ w'.cell? ⟨w.heap.size, 2, none⟩ = some (.int .i64 v) ∧ w'.cell? ⟨w.heap.size, 3, none⟩ = some (.int .i64 t) ∧ w'.cell? ⟨w.heap.size, 4, none⟩ = some (.int .i64 c)) (exact check_step (by assumption) (by assumption)) (first | (go_at_call 149; refine (q1 _).mono ?_; rintro e w' ⟨rfl, hb'⟩) | (go_at_call 148; refine (q2 _).mono ?_; rintro e w' ⟨rfl, hb'⟩))
 all_goals
  rename_i hS
  obtain ⟨⟨hB, k0⟩, k1, k2, _⟩ := hS
  clear q1 q2 hS0 hbd hne
  go_wp2
  go_ret
  exact ⟨rfl, hB⟩
theorem check_any (k j v t c : Int) (w : World) :
  Calls Tryz.prog 115 #[ev k j v t c] w fun e w' => e = .returned (.int .i64 (chk k j v t c)) ∧ Below w.heap.size w w' := by
 unfold chk
 by_cases hk : k < 0 ∨ 3 < k
 · rw [if_pos hk]; exact check_kind k j v t c w hk
 rw [if_neg hk]
 cases hr : inR j v t c with
 | false => rw [if_pos rfl]; exact check_range k j v t c w (by omega) (by omega) hr
 | true =>
  rw [if_neg (by simp)]
  cases hl : lost k j v t c with
  | true => rw [if_pos rfl]; exact check_lost k j v t c w (by omega) (by omega) hr hl
  | false =>
   rw [if_neg (by simp)]
   by_cases h1 : k = 1
   · subst h1
    by_cases h0 : v = 0
    · subst h0; rw [if_pos ⟨rfl, rfl⟩]; exact check_every j t c w hr hl
    · rw [if_neg (by omega)]; exact check_ok1 j v t c w hr hl (by simpa using h0)
   · rw [if_neg (by omega)]; exact check_ok k j v t c w (by omega) (by omega) hr hl (by simpa using h1)
end Go.Proofs.YtmoaobfmopimlafGreatDoor
namespace Go.Proofs
open Go.Shelf
def Tryz.lays156_ren : Go.Shelf.Ren := ⟨fun | 156 => 223 | 165 => 250 | 166 => 251 | 169 => 252 | 240 => 277 | 241 => 278 | 276 => 289 | 277 => 290 | n => n, fun | 31 => 159 | 9 => 9 | 3 => 3 | 4 => 4 | 0 => 0 | 20 => 20 | 72 => 262 | 76 => 264 | 70 => 260 | 37 => 45 | 75 => 209 | 127 => 286 | 164 => 301 | 5 => 5 | 80 => 266 | n => n, fun | n => n⟩
theorem Tryz.lays156 : Go.Proofs.Lays.n156 Tryz.prog Tryz.lays156_ren := {
 mixed := by kernel_rfl
 f156 := Tryz.func223.trans (congrArg some (by kernel_rfl))
 f165 := Tryz.func250.trans (congrArg some (by kernel_rfl))
 f166 := Tryz.func251.trans (congrArg some (by kernel_rfl))
 f169 := Tryz.func252.trans (congrArg some (by kernel_rfl))
 f240 := Tryz.func277.trans (congrArg some (by kernel_rfl))
 f241 := Tryz.func278.trans (congrArg some (by kernel_rfl))
 f276 := Tryz.func289.trans (congrArg some (by kernel_rfl))
 f277 := Tryz.func290.trans (congrArg some (by kernel_rfl))
 t0 := Tryz.underlying0
 a0 := Tryz.isAgg0
 z0 := Tryz.sizeOf0
 v0 := Tryz.zeroValue0
 t3 := Tryz.underlying3
 a3 := Tryz.isAgg3
 z3 := Tryz.sizeOf3
 v3 := Tryz.zeroValue3
 t4 := Tryz.underlying4
 a4 := Tryz.isAgg4
 z4 := Tryz.sizeOf4
 v4 := Tryz.zeroValue4
 t9 := Tryz.underlying9
 a9 := Tryz.isAgg9
 z9 := Tryz.sizeOf9
 v9 := Tryz.zeroValue9
 t20 := Tryz.underlying20
 a20 := Tryz.isAgg20
 z20 := Tryz.sizeOf20
 v20 := Tryz.zeroValue20
 t31 := Tryz.underlying159
 a31 := Tryz.isAgg159
 z31 := Tryz.sizeOf159
 v31 := Tryz.zeroValue159
 t37 := Tryz.underlying45
 a37 := Tryz.isAgg45
 z37 := Tryz.sizeOf45
 v37 := Tryz.zeroValue45
 t70 := Tryz.underlying260
 a70 := Tryz.isAgg260
 z70 := Tryz.sizeOf260
 v70 := Tryz.zeroValue260
 t72 := Tryz.underlying262
 a72 := Tryz.isAgg262
 z72 := Tryz.sizeOf262
 v72 := Tryz.zeroValue262
 t75 := Tryz.underlying209
 a75 := Tryz.isAgg209
 z75 := Tryz.sizeOf209
 v75 := Tryz.zeroValue209
 t76 := Tryz.underlying264
 a76 := Tryz.isAgg264
 z76 := Tryz.sizeOf264
 v76 := Tryz.zeroValue264
 t127 := Tryz.underlying286
 a127 := Tryz.isAgg286
 z127 := Tryz.sizeOf286
 v127 := Tryz.zeroValue286
 t164 := Tryz.underlying301
 a164 := Tryz.isAgg301
 z164 := Tryz.sizeOf301
 v164 := Tryz.zeroValue301 }
theorem Tryz.Builder_Extra_156 : Builder.Extra Tryz.prog Tryz.lays156_ren := {
 sizeBuilder := by kernel_rfl
 liesBuilder := by kernel_rfl
 t5 := Tryz.underlying5
 a5 := Tryz.isAgg5
 z5 := Tryz.sizeOf5
 v5 := Tryz.zeroValue5
 infoByte := by kernel_rfl
 cellsByte := by kernel_rfl
 sizeByte := by kernel_rfl
 neB5 := by decide }
open Go.RowKit in
theorem Tryz.strings_Join (bk o c : Nat) (xs : List ByteArray) (sep : ByteArray) (w : World) (hcells : ∀ (j : Nat) x, xs[j]? = some x → w.cell? ⟨bk, o + j, none⟩ = some (.string x)) (hbk : bk < w.heap.size) (hN : xs.length ≤ 140737488355328) (hcap : xs.length ≤ c) (hlen : (Lib.join (xs.map (·.data.toList)) sep.data.toList).length ≤ 140737488355328) :
  Calls Tryz.prog 223 #[.slice (some ⟨bk, o, none⟩) xs.length c, .string sep] w fun e w' => e = .returned (.string ⟨(Lib.join (xs.map (·.data.toList)) sep.data.toList).toArray⟩) ∧ Below w.heap.size w w' := Any.strings_Join Tryz.lays156 Tryz.Builder_Extra_156 bk o c xs sep w hcells hbk hN hcap hlen
def Tryz.laysM171_ren : Go.Shelf.Ren := ⟨fun | 171 => 126 | 243 => 162 | 246 => 192 | 283 => 217 | 284 => 218 | 285 => 219 | 286 => 220 | 129 => 246 | 317 => 245 | 318 => 247 | 319 => 248 | 320 => 249 | 337 => 275 | 338 => 276 | n => n, fun | 3 => 3 | 9 => 9 | 2 => 2 | 4 => 4 | 171 => 233 | 0 => 0 | 53 => 217 | 37 => 45 | 5 => 5 | 173 => 236 | 212 => 258 | 51 => 214 | 20 => 20 | 213 => 259 | 46 => 194 | 232 => 299 | 233 => 300 | n => n, fun | 17 => 3 | 18 => 8 | 19 => 9 | n => n⟩
theorem Tryz.laysM171 : Go.Proofs.LaysM.n171 Tryz.prog Tryz.laysM171_ren := {
 mixed := by kernel_rfl
 f129 := Tryz.func246.trans (congrArg some (by kernel_rfl))
 f171 := Tryz.func126.trans (congrArg some (by kernel_rfl))
 f243 := Tryz.func162.trans (congrArg some (by kernel_rfl))
 f246 := Tryz.func192.trans (congrArg some (by kernel_rfl))
 f283 := Tryz.func217.trans (congrArg some (by kernel_rfl))
 f284 := Tryz.func218.trans (congrArg some (by kernel_rfl))
 f285 := Tryz.func219.trans (congrArg some (by kernel_rfl))
 f286 := Tryz.func220.trans (congrArg some (by kernel_rfl))
 f317 := Tryz.func245.trans (congrArg some (by kernel_rfl))
 f318 := Tryz.func247.trans (congrArg some (by kernel_rfl))
 f319 := Tryz.func248.trans (congrArg some (by kernel_rfl))
 f320 := Tryz.func249.trans (congrArg some (by kernel_rfl))
 f337 := Tryz.func275.trans (congrArg some (by kernel_rfl))
 f338 := Tryz.func276.trans (congrArg some (by kernel_rfl))
 t0 := Tryz.underlying0
 a0 := Tryz.isAgg0
 z0 := Tryz.sizeOf0
 v0 := Tryz.zeroValue0
 t2 := Tryz.underlying2
 a2 := Tryz.isAgg2
 z2 := Tryz.sizeOf2
 v2 := Tryz.zeroValue2
 t3 := Tryz.underlying3
 a3 := Tryz.isAgg3
 z3 := Tryz.sizeOf3
 v3 := Tryz.zeroValue3
 t4 := Tryz.underlying4
 a4 := Tryz.isAgg4
 z4 := Tryz.sizeOf4
 v4 := Tryz.zeroValue4
 t5 := Tryz.underlying5
 a5 := Tryz.isAgg5
 z5 := Tryz.sizeOf5
 v5 := Tryz.zeroValue5
 t9 := Tryz.underlying9
 a9 := Tryz.isAgg9
 z9 := Tryz.sizeOf9
 v9 := Tryz.zeroValue9
 t20 := Tryz.underlying20
 a20 := Tryz.isAgg20
 z20 := Tryz.sizeOf20
 v20 := Tryz.zeroValue20
 t37 := Tryz.underlying45
 a37 := Tryz.isAgg45
 z37 := Tryz.sizeOf45
 v37 := Tryz.zeroValue45
 t46 := Tryz.underlying194
 a46 := Tryz.isAgg194
 z46 := Tryz.sizeOf194
 v46 := Tryz.zeroValue194
 t51 := Tryz.underlying214
 a51 := Tryz.isAgg214
 z51 := Tryz.sizeOf214
 v51 := Tryz.zeroValue214
 t53 := Tryz.underlying217
 a53 := Tryz.isAgg217
 z53 := Tryz.sizeOf217
 v53 := Tryz.zeroValue217
 t171 := Tryz.underlying233
 a171 := Tryz.isAgg233
 z171 := Tryz.sizeOf233
 v171 := Tryz.zeroValue233
 t173 := Tryz.underlying236
 a173 := Tryz.isAgg236
 z173 := Tryz.sizeOf236
 v173 := Tryz.zeroValue236
 t212 := Tryz.underlying258
 a212 := Tryz.isAgg258
 z212 := Tryz.sizeOf258
 v212 := Tryz.zeroValue258
 t213 := Tryz.underlying259
 a213 := Tryz.isAgg259
 z213 := Tryz.sizeOf259
 t232 := Tryz.underlying299
 a232 := Tryz.isAgg299
 z232 := Tryz.sizeOf299
 v232 := Tryz.zeroValue299
 t233 := Tryz.underlying300
 a233 := Tryz.isAgg300
 z233 := Tryz.sizeOf300
 v233 := Tryz.zeroValue300
 g17 := by kernel_rfl
 g18 := by kernel_rfl
 g19 := by kernel_rfl
 i0 := by kernel_rfl
 i2 := by kernel_rfl
 i3 := by kernel_rfl
 i4 := by kernel_rfl
 i5 := by kernel_rfl
 i9 := by kernel_rfl
 i20 := by kernel_rfl
 i37 := by kernel_rfl
 i46 := by kernel_rfl
 i51 := by kernel_rfl
 i53 := by kernel_rfl
 i171 := by kernel_rfl
 i173 := by kernel_rfl
 i212 := by kernel_rfl
 i232 := by kernel_rfl
 i233 := by kernel_rfl
 m17 := by kernel_rfl
 m18 := by kernel_rfl
 m19 := by kernel_rfl }
open Go.RowKit Go.Sort Go.Lib in
theorem Tryz.strconv_Itoa (n : Int) (h0 : -9223372036854775808 ≤ n) (h1 : n ≤ 9223372036854775807) (w : World) (htab : Lib.TabIs Tryz.prog w "internal/strconv.uint64pow10" .u64 Lib.pow10Tab) :
  Calls Tryz.prog 126 #[.int .i64 n] w fun e w' => e = .returned (.string ⟨(Lib.itoa n).toArray⟩) ∧ ∃ k os, w' = grow (w.drewN k) os := Any.strconv_Itoa Tryz.laysM171 n h0 h1 w htab
def Tryz.laysC172_ren : Go.Shelf.Ren := ⟨fun | 172 => 287 | 244 => 293 | 245 => 212 | 247 => 211 | 279 => 239 | 280 => 240 | 281 => 241 | 282 => 242 | 287 => 238 | 316 => 273 | 171 => 126 | 205 => 274 | 321 => 271 | 322 => 272 | 243 => 162 | 246 => 192 | 283 => 217 | 284 => 218 | 285 => 219 | 286 => 220 | 129 => 246 | 317 => 245 | 318 => 247 | 319 => 248 | 320 => 249 | 337 => 275 | 338 => 276 | n => n, fun | 9 => 9 | 3 => 3 | 75 => 209 | 76 => 264 | 4 => 4 | 5 => 5 | 167 => 250 | 37 => 45 | 0 => 0 | 85 => 210 | 2 => 2 | 168 => 253 | 53 => 217 | 175 => 251 | 46 => 194 | 210 => 284 | 127 => 286 | 145 => 298 | 143 => 296 | 21 => 21 | 171 => 233 | 173 => 236 | 212 => 258 | 51 => 214 | 20 => 20 | 213 => 259 | 232 => 299 | 233 => 300 | 80 => 266 | n => n, fun | 15 => 6 | 16 => 7 | 17 => 3 | 18 => 8 | 19 => 9 | n => n⟩
theorem Tryz.laysC172 : Go.Proofs.LaysC.n172 Tryz.prog Tryz.laysC172_ren := {
 mixed := by kernel_rfl
 f129 := Tryz.func246.trans (congrArg some (by kernel_rfl))
 f171 := Tryz.func126.trans (congrArg some (by kernel_rfl))
 f172 := Tryz.func287.trans (congrArg some (by kernel_rfl))
 f205 := Tryz.func274.trans (congrArg some (by kernel_rfl))
 f243 := Tryz.func162.trans (congrArg some (by kernel_rfl))
 f244 := Tryz.func293.trans (congrArg some (by kernel_rfl))
 f245 := Tryz.func212.trans (congrArg some (by kernel_rfl))
 f246 := Tryz.func192.trans (congrArg some (by kernel_rfl))
 f247 := Tryz.func211.trans (congrArg some (by kernel_rfl))
 f279 := Tryz.func239.trans (congrArg some (by kernel_rfl))
 f280 := Tryz.func240.trans (congrArg some (by kernel_rfl))
 f281 := Tryz.func241.trans (congrArg some (by kernel_rfl))
 f282 := Tryz.func242.trans (congrArg some (by kernel_rfl))
 f283 := Tryz.func217.trans (congrArg some (by kernel_rfl))
 f284 := Tryz.func218.trans (congrArg some (by kernel_rfl))
 f285 := Tryz.func219.trans (congrArg some (by kernel_rfl))
 f286 := Tryz.func220.trans (congrArg some (by kernel_rfl))
 f287 := Tryz.func238.trans (congrArg some (by kernel_rfl))
 f316 := Tryz.func273.trans (congrArg some (by kernel_rfl))
 f317 := Tryz.func245.trans (congrArg some (by kernel_rfl))
 f318 := Tryz.func247.trans (congrArg some (by kernel_rfl))
 f319 := Tryz.func248.trans (congrArg some (by kernel_rfl))
 f320 := Tryz.func249.trans (congrArg some (by kernel_rfl))
 f321 := Tryz.func271.trans (congrArg some (by kernel_rfl))
 f322 := Tryz.func272.trans (congrArg some (by kernel_rfl))
 f337 := Tryz.func275.trans (congrArg some (by kernel_rfl))
 f338 := Tryz.func276.trans (congrArg some (by kernel_rfl))
 t0 := Tryz.underlying0
 a0 := Tryz.isAgg0
 z0 := Tryz.sizeOf0
 v0 := Tryz.zeroValue0
 t2 := Tryz.underlying2
 a2 := Tryz.isAgg2
 z2 := Tryz.sizeOf2
 v2 := Tryz.zeroValue2
 t3 := Tryz.underlying3
 a3 := Tryz.isAgg3
 z3 := Tryz.sizeOf3
 v3 := Tryz.zeroValue3
 t4 := Tryz.underlying4
 a4 := Tryz.isAgg4
 z4 := Tryz.sizeOf4
 v4 := Tryz.zeroValue4
 t5 := Tryz.underlying5
 a5 := Tryz.isAgg5
 z5 := Tryz.sizeOf5
 v5 := Tryz.zeroValue5
 t9 := Tryz.underlying9
 a9 := Tryz.isAgg9
 z9 := Tryz.sizeOf9
 v9 := Tryz.zeroValue9
 t20 := Tryz.underlying20
 a20 := Tryz.isAgg20
 z20 := Tryz.sizeOf20
 v20 := Tryz.zeroValue20
 t21 := Tryz.underlying21
 a21 := Tryz.isAgg21
 z21 := Tryz.sizeOf21
 v21 := Tryz.zeroValue21
 t37 := Tryz.underlying45
 a37 := Tryz.isAgg45
 z37 := Tryz.sizeOf45
 v37 := Tryz.zeroValue45
 t46 := Tryz.underlying194
 a46 := Tryz.isAgg194
 z46 := Tryz.sizeOf194
 v46 := Tryz.zeroValue194
 t51 := Tryz.underlying214
 a51 := Tryz.isAgg214
 z51 := Tryz.sizeOf214
 v51 := Tryz.zeroValue214
 t53 := Tryz.underlying217
 a53 := Tryz.isAgg217
 z53 := Tryz.sizeOf217
 v53 := Tryz.zeroValue217
 t75 := Tryz.underlying209
 a75 := Tryz.isAgg209
 z75 := Tryz.sizeOf209
 v75 := Tryz.zeroValue209
 t76 := Tryz.underlying264
 a76 := Tryz.isAgg264
 z76 := Tryz.sizeOf264
 v76 := Tryz.zeroValue264
 t85 := Tryz.underlying210
 a85 := Tryz.isAgg210
 z85 := Tryz.sizeOf210
 v85 := Tryz.zeroValue210
 t127 := Tryz.underlying286
 a127 := Tryz.isAgg286
 z127 := Tryz.sizeOf286
 v127 := Tryz.zeroValue286
 t143 := Tryz.underlying296
 a143 := Tryz.isAgg296
 z143 := Tryz.sizeOf296
 v143 := Tryz.zeroValue296
 t145 := Tryz.underlying298
 a145 := Tryz.isAgg298
 z145 := Tryz.sizeOf298
 v145 := Tryz.zeroValue298
 t167 := Tryz.underlying250
 a167 := Tryz.isAgg250
 z167 := Tryz.sizeOf250
 v167 := Tryz.zeroValue250
 t168 := Tryz.underlying253
 a168 := Tryz.isAgg253
 z168 := Tryz.sizeOf253
 v168 := Tryz.zeroValue253
 t171 := Tryz.underlying233
 a171 := Tryz.isAgg233
 z171 := Tryz.sizeOf233
 v171 := Tryz.zeroValue233
 t173 := Tryz.underlying236
 a173 := Tryz.isAgg236
 z173 := Tryz.sizeOf236
 v173 := Tryz.zeroValue236
 t175 := Tryz.underlying251
 a175 := Tryz.isAgg251
 z175 := Tryz.sizeOf251
 v175 := Tryz.zeroValue251
 t210 := Tryz.underlying284
 a210 := Tryz.isAgg284
 z210 := Tryz.sizeOf284
 v210 := Tryz.zeroValue284
 t212 := Tryz.underlying258
 a212 := Tryz.isAgg258
 z212 := Tryz.sizeOf258
 v212 := Tryz.zeroValue258
 t213 := Tryz.underlying259
 a213 := Tryz.isAgg259
 z213 := Tryz.sizeOf259
 t232 := Tryz.underlying299
 a232 := Tryz.isAgg299
 z232 := Tryz.sizeOf299
 v232 := Tryz.zeroValue299
 t233 := Tryz.underlying300
 a233 := Tryz.isAgg300
 z233 := Tryz.sizeOf300
 v233 := Tryz.zeroValue300
 g15 := by kernel_rfl
 g16 := by kernel_rfl
 g17 := by kernel_rfl
 g18 := by kernel_rfl
 g19 := by kernel_rfl
 t80 := Tryz.underlying266
 a80 := Tryz.isAgg266
 z80 := Tryz.sizeOf266
 v80 := Tryz.zeroValue266
 i0 := by kernel_rfl
 i2 := by kernel_rfl
 i3 := by kernel_rfl
 i4 := by kernel_rfl
 i5 := by kernel_rfl
 i9 := by kernel_rfl
 i20 := by kernel_rfl
 i21 := by kernel_rfl
 i37 := by kernel_rfl
 i46 := by kernel_rfl
 i51 := by kernel_rfl
 i53 := by kernel_rfl
 i75 := by kernel_rfl
 i76 := by kernel_rfl
 i80 := by kernel_rfl
 i85 := by kernel_rfl
 i127 := by kernel_rfl
 i143 := by kernel_rfl
 i145 := by kernel_rfl
 i167 := by kernel_rfl
 i168 := by kernel_rfl
 i171 := by kernel_rfl
 i173 := by kernel_rfl
 i175 := by kernel_rfl
 i210 := by kernel_rfl
 i212 := by kernel_rfl
 i232 := by kernel_rfl
 i233 := by kernel_rfl
 m15 := by kernel_rfl
 m16 := by kernel_rfl
 m17 := by kernel_rfl
 m18 := by kernel_rfl
 m19 := by kernel_rfl
 c0 := by kernel_rfl
 c2 := by kernel_rfl
 c3 := by kernel_rfl
 c4 := by kernel_rfl
 c5 := by kernel_rfl
 c9 := by kernel_rfl
 c20 := by kernel_rfl
 c21 := by kernel_rfl
 c37 := by kernel_rfl
 c46 := by kernel_rfl
 c51 := by kernel_rfl
 c53 := by kernel_rfl
 c75 := by kernel_rfl
 c76 := by kernel_rfl
 c80 := by kernel_rfl
 c85 := by kernel_rfl
 c127 := by kernel_rfl
 c143 := by kernel_rfl
 c145 := by kernel_rfl
 c167 := by kernel_rfl
 c168 := by kernel_rfl
 c171 := by kernel_rfl
 c173 := by kernel_rfl
 c175 := by kernel_rfl
 c210 := by kernel_rfl
 c212 := by kernel_rfl
 c213 := by kernel_rfl
 c232 := by kernel_rfl
 c233 := by kernel_rfl }
open Go.RowKit in
theorem Tryz.strconv_Atoi_ok (s : ByteArray) (hmax : s.size ≤ 9223372036854775806) (v : Int) (h : Lib.atoiAll s.data.toList = .ok v) (w : World) :
  Calls Tryz.prog 287 #[.string s] w fun e w' => e = .returned (.tuple #[.int .i64 v, .nilIface]) ∧ (w' = w ∨ ∃ t, w' = Lib.bytesWorld w 5 t) := Any.strconv_Atoi_ok Tryz.laysC172 s hmax v h w
open Go.RowKit in
theorem Tryz.strconv_Atoi_syntax (s : ByteArray) (hlim : s.size ≤ 281474976710656) (h : Lib.atoiAll s.data.toList = .«syntax») (ev : Value) (w : World) (hv : w.cell? ⟨6, 0, none⟩ = some ev) (hev : ev = .nilIface ∨ ∃ te pe, ev = .iface te pe) :
  Calls Tryz.prog 287 #[.string s] w fun e w' => ∃ N, e = .returned (.tuple #[.int .i64 (0), .iface 253 (.pointer (some ⟨N, 0, none⟩))]) ∧ w.heap.size ≤ N ∧ w'.heap[N]? = some (.cells #[.string ⟨#[65, 116, 111, 105]⟩, .string s, ev] 284 (0, 0)) ∧ Below w.heap.size w w' := Any.strconv_Atoi_syntax Tryz.laysC172 s hlim h ev w hv hev
open Go.RowKit in
theorem Tryz.strconv_Atoi_range (s : ByteArray) (hlim : s.size ≤ 281474976710656) (h : Lib.atoiAll s.data.toList = .range) (ev : Value) (w : World) (hv : w.cell? ⟨7, 0, none⟩ = some ev) (hev : ev = .nilIface ∨ ∃ te pe, ev = .iface te pe) :
  Calls Tryz.prog 287 #[.string s] w fun e w' => ∃ N, e = .returned (.tuple #[.int .i64 (Lib.atoiSat s.data.toList), .iface 253 (.pointer (some ⟨N, 0, none⟩))]) ∧ w.heap.size ≤ N ∧ w'.heap[N]? = some (.cells #[.string ⟨#[65, 116, 111, 105]⟩, .string s, ev] 284 (0, 0)) ∧ Below w.heap.size w w' := Any.strconv_Atoi_range Tryz.laysC172 s hlim h ev w hv hev
def Tryz.lays143_ren : Go.Shelf.Ren := ⟨fun | 143 => 159 | 219 => 188 | 217 => 213 | 225 => 214 | 224 => 215 | 267 => 216 | 266 => 243 | 314 => 244 | n => n, fun | 9 => 9 | 3 => 3 | 4 => 4 | 5 => 5 | 46 => 194 | 146 => 215 | 51 => 214 | n => n, fun | 1 => 0 | n => n⟩
def Tryz.lays145_ren : Go.Shelf.Ren := ⟨fun | 145 => 235 | 220 => 269 | 219 => 188 | 217 => 213 | 225 => 214 | 224 => 215 | 267 => 216 | 266 => 243 | 314 => 244 | n => n, fun | 9 => 9 | 4 => 4 | 59 => 247 | 3 => 3 | 5 => 5 | 46 => 194 | 146 => 215 | 51 => 214 | n => n, fun | 1 => 0 | n => n⟩
theorem Tryz.lays145 : Go.Proofs.Lays.n145 Tryz.prog Tryz.lays145_ren := {
 mixed := by kernel_rfl
 f145 := Tryz.func235.trans (congrArg some (by kernel_rfl))
 f217 := Tryz.func213.trans (congrArg some (by kernel_rfl))
 f219 := Tryz.func188.trans (congrArg some (by kernel_rfl))
 f220 := Tryz.func269.trans (congrArg some (by kernel_rfl))
 f224 := Tryz.func215.trans (congrArg some (by kernel_rfl))
 f225 := Tryz.func214.trans (congrArg some (by kernel_rfl))
 f266 := Tryz.func243.trans (congrArg some (by kernel_rfl))
 f267 := Tryz.func216.trans (congrArg some (by kernel_rfl))
 f314 := Tryz.func244.trans (congrArg some (by kernel_rfl))
 t3 := Tryz.underlying3
 a3 := Tryz.isAgg3
 z3 := Tryz.sizeOf3
 v3 := Tryz.zeroValue3
 t4 := Tryz.underlying4
 a4 := Tryz.isAgg4
 z4 := Tryz.sizeOf4
 v4 := Tryz.zeroValue4
 t5 := Tryz.underlying5
 a5 := Tryz.isAgg5
 z5 := Tryz.sizeOf5
 v5 := Tryz.zeroValue5
 t9 := Tryz.underlying9
 a9 := Tryz.isAgg9
 z9 := Tryz.sizeOf9
 v9 := Tryz.zeroValue9
 t46 := Tryz.underlying194
 a46 := Tryz.isAgg194
 z46 := Tryz.sizeOf194
 v46 := Tryz.zeroValue194
 t51 := Tryz.underlying214
 a51 := Tryz.isAgg214
 z51 := Tryz.sizeOf214
 v51 := Tryz.zeroValue214
 t59 := Tryz.underlying247
 a59 := Tryz.isAgg247
 z59 := Tryz.sizeOf247
 v59 := Tryz.zeroValue247
 t146 := Tryz.underlying215
 a146 := Tryz.isAgg215
 z146 := Tryz.sizeOf215
 v146 := Tryz.zeroValue215
 g1 := by kernel_rfl }
open Go.RowKit Go.Lib in
theorem Tryz.strings_Cut (s sep : ByteArray) (m : Int) (w : World) (hs : s.size < 4294967281) (hm : w.cell? ⟨0, 0, none⟩ = some (.int .i64 m)) :
  Calls Tryz.prog 235 #[.string s, .string sep] w fun e w' => e = .returned (.tuple #[.string ⟨(Lib.cut s.data.toList sep.data.toList).1.toArray⟩, .string ⟨(Lib.cut s.data.toList sep.data.toList).2.1.toArray⟩, .bool (Lib.cut s.data.toList sep.data.toList).2.2]) ∧ ∃ n, w' = w.drewN n := Any.strings_Cut Tryz.lays145 s sep m w hs hm
def Tryz.laysM145_ren : Go.Shelf.Ren := ⟨fun | 145 => 235 | 220 => 269 | 219 => 188 | 217 => 213 | 225 => 214 | 224 => 215 | 267 => 216 | 266 => 243 | 314 => 244 | n => n, fun | 9 => 9 | 4 => 4 | 59 => 247 | 3 => 3 | 5 => 5 | 46 => 194 | 146 => 215 | 51 => 214 | n => n, fun | 1 => 0 | n => n⟩
theorem Tryz.laysM145 : Go.Proofs.LaysM.n145 Tryz.prog Tryz.laysM145_ren := {
 mixed := by kernel_rfl
 f145 := Tryz.func235.trans (congrArg some (by kernel_rfl))
 f217 := Tryz.func213.trans (congrArg some (by kernel_rfl))
 f219 := Tryz.func188.trans (congrArg some (by kernel_rfl))
 f220 := Tryz.func269.trans (congrArg some (by kernel_rfl))
 f224 := Tryz.func215.trans (congrArg some (by kernel_rfl))
 f225 := Tryz.func214.trans (congrArg some (by kernel_rfl))
 f266 := Tryz.func243.trans (congrArg some (by kernel_rfl))
 f267 := Tryz.func216.trans (congrArg some (by kernel_rfl))
 f314 := Tryz.func244.trans (congrArg some (by kernel_rfl))
 t3 := Tryz.underlying3
 a3 := Tryz.isAgg3
 z3 := Tryz.sizeOf3
 v3 := Tryz.zeroValue3
 t4 := Tryz.underlying4
 a4 := Tryz.isAgg4
 z4 := Tryz.sizeOf4
 v4 := Tryz.zeroValue4
 t5 := Tryz.underlying5
 a5 := Tryz.isAgg5
 z5 := Tryz.sizeOf5
 v5 := Tryz.zeroValue5
 t9 := Tryz.underlying9
 a9 := Tryz.isAgg9
 z9 := Tryz.sizeOf9
 v9 := Tryz.zeroValue9
 t46 := Tryz.underlying194
 a46 := Tryz.isAgg194
 z46 := Tryz.sizeOf194
 v46 := Tryz.zeroValue194
 t51 := Tryz.underlying214
 a51 := Tryz.isAgg214
 z51 := Tryz.sizeOf214
 v51 := Tryz.zeroValue214
 t59 := Tryz.underlying247
 a59 := Tryz.isAgg247
 z59 := Tryz.sizeOf247
 v59 := Tryz.zeroValue247
 t146 := Tryz.underlying215
 a146 := Tryz.isAgg215
 z146 := Tryz.sizeOf215
 v146 := Tryz.zeroValue215
 g1 := by kernel_rfl
 i3 := by kernel_rfl
 i4 := by kernel_rfl
 i5 := by kernel_rfl
 i9 := by kernel_rfl
 i46 := by kernel_rfl
 i51 := by kernel_rfl
 i59 := by kernel_rfl
 i146 := by kernel_rfl
 m1 := by kernel_rfl
 s1_3 := fun w h => Go.Proofs.cell_of_shapedOpen_int (zero := #[.int .i64 0]) (t := 3) h (of_decide_eq_true (by kernel_rfl)) (by kernel_rfl) rfl (by kernel_rfl) (by kernel_rfl) Tryz.underlying3 }
def Tryz.lays206_ren : Go.Shelf.Ren := ⟨fun | 206 => 185 | n => n, fun | 9 => 9 | 4 => 4 | 3 => 3 | n => n, fun | n => n⟩
theorem Tryz.lays206 : Go.Proofs.Lays.n206 Tryz.prog Tryz.lays206_ren := {
 mixed := by kernel_rfl
 f206 := Tryz.func185.trans (congrArg some (by kernel_rfl))
 t3 := Tryz.underlying3
 a3 := Tryz.isAgg3
 z3 := Tryz.sizeOf3
 v3 := Tryz.zeroValue3
 t4 := Tryz.underlying4
 a4 := Tryz.isAgg4
 z4 := Tryz.sizeOf4
 v4 := Tryz.zeroValue4
 t9 := Tryz.underlying9
 a9 := Tryz.isAgg9
 z9 := Tryz.sizeOf9
 v9 := Tryz.zeroValue9 }
open Go.RowKit Go.Lib in
theorem Tryz.stringslite_HasPrefix (s p : ByteArray) (w : World) :
  Calls Tryz.prog 185 #[.string s, .string p] w fun e w' => e = .returned (.bool (Lib.hasPrefix s.data.toList p.data.toList)) ∧ w' = w := Any.stringslite_HasPrefix Tryz.lays206 s p w
def Tryz.lays187_ren : Go.Shelf.Ren := ⟨fun | 187 => 180 | 255 => 206 | n => n, fun | 37 => 45 | 5 => 5 | 3 => 3 | n => n, fun | n => n⟩
theorem Tryz.lays187 : Go.Proofs.Lays.n187 Tryz.prog Tryz.lays187_ren := {
 mixed := by kernel_rfl
 f187 := Tryz.func180.trans (congrArg some (by kernel_rfl))
 f255 := Tryz.func206.trans (congrArg some (by kernel_rfl))
 t3 := Tryz.underlying3
 a3 := Tryz.isAgg3
 z3 := Tryz.sizeOf3
 v3 := Tryz.zeroValue3
 t5 := Tryz.underlying5
 a5 := Tryz.isAgg5
 z5 := Tryz.sizeOf5
 v5 := Tryz.zeroValue5
 t37 := Tryz.underlying45
 a37 := Tryz.isAgg45
 z37 := Tryz.sizeOf45
 v37 := Tryz.zeroValue45 }
theorem Tryz.bytes_IndexByte (b o n c : Nat) (xs : List Int) (cv : Int) (w : World) (hx : xs.length = n) (hc : ∀ i, i < n → w.cell? ⟨b, o + i, none⟩ = some (.int .u8 (xs.getD i 0))) :
  Calls Tryz.prog 180 #[.slice (some ⟨b, o, none⟩) n c, .int .u8 cv] w fun e w' => e = .returned (.int .i64 (Lib.indexByte (Lib.bytesOf xs) cv.toNat.toUInt8)) ∧ w' = w := Any.bytes_IndexByte Tryz.lays187 b o n c xs cv w hx hc
end Go.Proofs
namespace Go.Proofs.YtmoaobfmopimlafGreatDoor
open Go Go.ChangeShapes Go.WideShapes Go.ChangeAt Go.RowKit
abbrev boxE (k j v t c : Int) : Obj := .cells #[.int .i64 k, .int .i64 j, .int .i64 v, .int .i64 t, .int .i64 c] 27
theorem heap_new (w : World) (o : Obj) : (w.alloc o).heap[w.heap.size]? = some o := by
 show (w.heap.push o)[w.heap.size]? = some o
 simp
theorem heap_old {w : World} {i : Nat} {o : Obj} (h : w.heap[i]? = some o) (o' : Obj) : (w.alloc o').heap[i]? = some o := by
 have hi : i < w.heap.size := by
  rcases Nat.lt_or_ge i w.heap.size with h' | h'
  · exact h'
  · rw [Array.getElem?_eq_none h'] at h; cases h
 rw [Below.heap_alloc _ _ _ hi]; exact h
theorem heap_below {B i : Nat} {w w' : World} {o : Obj} (h : w.heap[i]? = some o) (hb : Below B w w') (hi : i < B) : w'.heap[i]? = some o := by
 rw [hb.block i hi]; exact h
theorem heap_lt {w : World} {i : Nat} {o : Obj} (h : w.heap[i]? = some o) : i < w.heap.size := by
 rcases Nat.lt_or_ge i w.heap.size with h' | h'
 · exact h'
 · rw [Array.getElem?_eq_none h'] at h; cases h
structure En where
 k : Int
 j : Int
 v : Int
 t : Int
 c : Int
abbrev En.val (e : En) : Value := ev e.k e.j e.v e.t e.c
def En.chk (e : En) : Int := YtmoaobfmopimlafGreatDoor.chk e.k e.j e.v e.t e.c
def En.zero : En := ⟨0, 0, 0, 0, 0⟩
theorem ownsRow_later {w w' : World} {base : Nat} {e : TypeId} {size : Nat} {v : Value} {n : Nat} {xs : List Value} (h : w.ownsRow base e size v n xs) (hb : Below w.heap.size w w') : w'.ownsRow base e size v n xs := by
 refine ⟨h.1, ?_⟩
 rcases h.2 with h' | ⟨g, cap, cur, h1, h2, h3, h4⟩
 · exact Or.inl h'
 · exact Or.inr ⟨g, cap, cur, h1, h2, heap_below h3 hb (heap_lt h3), h4⟩
def En.cells (e : En) : List Value := [.int .i64 e.k, .int .i64 e.j, .int .i64 e.v, .int .i64 e.t, .int .i64 e.c]
def EntsAt (w : World) (b off : Nat) (es : List En) : Prop := ∀ j e, es[j]? = some e → ∀ i v, e.cells[i]? = some v → w.cell? ⟨b, off + j * 5 + i, none⟩ = some v
theorem EntsAt.later {w w' : World} {b off : Nat} {es : List En} (h : EntsAt w b off es) (hb : Below w.heap.size w w') : EntsAt w' b off es :=
 fun j e hj i v hi => cell_later hb (h j e hj i v hi)
def EntSl (w : World) (v : Value) (es : List En) : Prop := ∃ a c, v = .slice a es.length c ∧ (es.length = 0 ∨ ∃ b off, a = some ⟨b, off, none⟩ ∧ EntsAt w b off es)
theorem EntSl.later {w w' : World} {v : Value} {es : List En} (h : EntSl w v es) (hb : Below w.heap.size w w') : EntSl w' v es := by
 obtain ⟨a, c, hv, h⟩ := h
 refine ⟨a, c, hv, ?_⟩
 rcases h with h | ⟨b, off, ha, hE⟩
 · exact Or.inl h
 · exact Or.inr ⟨b, off, ha, hE.later hb⟩
theorem unlike_false {k j v t c k' j' v' t' c' : Int} (h : unlike k j v t c k' j' v' t' c' = false) : k = k' ∧ j = j' ∧ v = v' ∧ t = t' ∧ c = c' := by
 unfold unlike at h
 simpa using h
theorem en_eq {x y : En} (h : unlike x.k x.j x.v x.t x.c y.k y.j y.v y.t y.c = false) : x = y := by
 obtain ⟨h1, h2, h3, h4, h5⟩ := unlike_false h
 cases x; cases y; simp_all
abbrev bJunk : ByteArray := ⟨#[106, 117, 110, 107]⟩
abbrev bPut : ByteArray := ⟨#[112, 117, 116]⟩
abbrev bDrop : ByteArray := ⟨#[100, 114, 111, 112]⟩
abbrev bRing : ByteArray := ⟨#[114, 105, 110, 103]⟩
structure Laid (w : World) : Prop where
 names : w.var? Tryz.prog "carillon/entry.names" = some #[.string bJunk, .string bPut, .string bDrop, .string bRing]
 counts : w.var? Tryz.prog "carillon/entry.counts" = some #[.int .i64 0, .int .i64 3, .int .i64 1, .int .i64 3]
 most : ∃ m, w.cell? ⟨0, 0, none⟩ = some (.int .i64 m)
 pow : Lib.TabIs Tryz.prog w "internal/strconv.uint64pow10" .u64 Lib.pow10Tab
 syn : ∃ tp p, w.var? Tryz.prog "strconv.ErrSyntax" = some #[.iface tp p]
 rng : ∃ tp p, w.var? Tryz.prog "strconv.ErrRange" = some #[.iface tp p]
theorem gNames : Tryz.prog.globalNamed "carillon/entry.names" = some 1 := by kernel_rfl
theorem gCounts : Tryz.prog.globalNamed "carillon/entry.counts" = some 2 := by kernel_rfl
theorem gPow : Tryz.prog.globalNamed "internal/strconv.uint64pow10" = some 3 := by kernel_rfl
theorem gSyn : Tryz.prog.globalNamed "strconv.ErrSyntax" = some 6 := by kernel_rfl
theorem gRng : Tryz.prog.globalNamed "strconv.ErrRange" = some 7 := by kernel_rfl
theorem Laid.later {w w' : World} (h : Laid w) (hb : Below w.heap.size w w') : Laid w' := by
 obtain ⟨h1, h2, ⟨m, h3⟩, h4, ⟨t5, p5, h5⟩, ⟨t6, p6, h6⟩⟩ := h
 exact ⟨Joins.var_stays gNames h1 hb (Nat.le_refl _), Joins.var_stays gCounts h2 hb (Nat.le_refl _), ⟨m, cell_later hb h3⟩, Joins.tab_stays gPow h4 hb (Nat.le_refl _),
  ⟨t5, p5, Joins.var_stays gSyn h5 hb (Nat.le_refl _)⟩, ⟨t6, p6, Joins.var_stays gRng h6 hb (Nat.le_refl _)⟩⟩
theorem Laid.name {w : World} (h : Laid w) : w.cell? ⟨1, 0, none⟩ = some (.string bJunk) ∧ w.cell? ⟨1, 1, none⟩ = some (.string bPut) ∧ w.cell? ⟨1, 2, none⟩ = some (.string bDrop) ∧ w.cell? ⟨1, 3, none⟩ = some (.string bRing) :=
 ⟨World.var?_cell gNames h.names 0, World.var?_cell gNames h.names 1, World.var?_cell gNames h.names 2, World.var?_cell gNames h.names 3⟩
theorem Laid.count {w : World} (h : Laid w) : w.cell? ⟨2, 0, none⟩ = some (.int .i64 0) ∧ w.cell? ⟨2, 1, none⟩ = some (.int .i64 3) ∧ w.cell? ⟨2, 2, none⟩ = some (.int .i64 1) ∧ w.cell? ⟨2, 3, none⟩ = some (.int .i64 3) :=
 ⟨World.var?_cell gCounts h.counts 0, World.var?_cell gCounts h.counts 1, World.var?_cell gCounts h.counts 2, World.var?_cell gCounts h.counts 3⟩
def kindOf (l : List UInt8) : Int := if l = [106, 117, 110, 107] then 0 else if l = [112, 117, 116] then 1 else if l = [100, 114, 111, 112] then 2 else if l = [114, 105, 110, 103] then 3 else -1
theorem ret_int {k : IntKind} {a b : Int} (h : a = b) : Ending.returned (.int k a) = .returned (.int k b) := by rw [h]
theorem bytes_toList (s : ByteArray) : s.toList = s.data.toList := ByteArray.toList_eq s
theorem ne_of_beq {s : ByteArray} {l : List UInt8} (h : (s.toList == l) = false) : s.data.toList ≠ l := by
 rw [bytes_toList] at h; simpa using h
def noName (l : List UInt8) (k : Nat) : Prop := (0 < k → l ≠ [106, 117, 110, 107]) ∧ (1 < k → l ≠ [112, 117, 116]) ∧ (2 < k → l ≠ [100, 114, 111, 112]) ∧ (3 < k → l ≠ [114, 105, 110, 103])
theorem kindOf_any (s : ByteArray) (w : World) (hL : Laid w) :
  Calls Tryz.prog 295 #[.string s] w fun e w' => e = .returned (.int .i64 (kindOf s.data.toList)) ∧ w' = w := by
 obtain ⟨n0, n1, n2, n3⟩ := hL.name
 clear hL
 go_enter Tryz.func295, Tryz.ntmps295
 go_wp2
 go_loop [6] (fun i => ∃ k : Nat, k ≤ 4 ∧ i = .int .i64 k ∧ Hid (noName s.data.toList k)) (fun i => 4 - (intOf i).toNat)
 case atStart => exact ⟨0, Nat.zero_le _, rfl, by refine ⟨?_, ?_, ?_, ?_⟩ <;> intro h <;> exact absurd h (by omega)⟩
 case round =>
  obtain ⟨k, hk, rfl, hno⟩ := hrel
  have i0 : ∀ W, (Instr.index 238 (.agg #[.string bJunk, .string bPut, .string bDrop, .string bRing]) (.int .i64 0)).run Tryz.prog W = .ok (.string bJunk) W := fun _ => by kernel_rfl
  have i1 : ∀ W, (Instr.index 238 (.agg #[.string bJunk, .string bPut, .string bDrop, .string bRing]) (.int .i64 1)).run Tryz.prog W = .ok (.string bPut) W := fun _ => by kernel_rfl
  have i2 : ∀ W, (Instr.index 238 (.agg #[.string bJunk, .string bPut, .string bDrop, .string bRing]) (.int .i64 2)).run Tryz.prog W = .ok (.string bDrop) W := fun _ => by kernel_rfl
  have i3 : ∀ W, (Instr.index 238 (.agg #[.string bJunk, .string bPut, .string bDrop, .string bRing]) (.int .i64 3)).run Tryz.prog W = .ok (.string bRing) W := fun _ => by kernel_rfl
  have hk' : k = 0 ∨ k = 1 ∨ k = 2 ∨ k = 3 ∨ k = 4 := by omega
  rcases hk' with rfl | rfl | rfl | rfl | rfl
  case inr.inr.inr.inr =>
   go_wp2
   go_ret
   refine ⟨ret_int ?_, rfl⟩
   obtain ⟨h0, h1, h2, h3⟩ := hno.out
   unfold kindOf
   rw [if_neg (h0 (by omega)), if_neg (h1 (by omega)), if_neg (h2 (by omega)), if_neg (h3 (by omega))]
  · go_wp2
   · rename_i hb _
    go_ret
    refine ⟨ret_int ?_, rfl⟩
    have hb' := eq_of_beq hb
    rw [bytes_toList] at hb'
    rw [hb']
    decide
   · rename_i hb
    have hb' := ne_of_beq hb
    obtain ⟨h0, h1, h2, h3⟩ := hno.out
    go_round
    case rel => exact ⟨1, by omega, rfl, fun _ => hb', fun h => absurd h (by omega), fun h => absurd h (by omega), fun h => absurd h (by omega)⟩
    case measure => simp [intOf]
  · go_wp2
   · rename_i hb _
    go_ret
    refine ⟨ret_int ?_, rfl⟩
    have hb' := eq_of_beq hb
    rw [bytes_toList] at hb'
    rw [hb']
    decide
   · rename_i hb
    have hb' := ne_of_beq hb
    obtain ⟨h0, h1, h2, h3⟩ := hno.out
    go_round
    case rel => exact ⟨2, by omega, rfl, fun _ => h0 (by omega), fun _ => hb', fun h => absurd h (by omega), fun h => absurd h (by omega)⟩
    case measure => simp [intOf]
  · go_wp2
   · rename_i hb _
    go_ret
    refine ⟨ret_int ?_, rfl⟩
    have hb' := eq_of_beq hb
    rw [bytes_toList] at hb'
    rw [hb']
    decide
   · rename_i hb
    have hb' := ne_of_beq hb
    obtain ⟨h0, h1, h2, h3⟩ := hno.out
    go_round
    case rel => exact ⟨3, by omega, rfl, fun _ => h0 (by omega), fun _ => h1 (by omega), fun _ => hb', fun h => absurd h (by omega)⟩
    case measure => simp [intOf]
  · go_wp2
   · rename_i hb _
    go_ret
    refine ⟨ret_int ?_, rfl⟩
    have hb' := eq_of_beq hb
    rw [bytes_toList] at hb'
    rw [hb']
    decide
   · rename_i hb
    have hb' := ne_of_beq hb
    obtain ⟨h0, h1, h2, h3⟩ := hno.out
    go_round
    case rel => exact ⟨4, by omega, rfl, fun _ => h0 (by omega), fun _ => h1 (by omega), fun _ => h2 (by omega), fun _ => hb'⟩
    case measure => simp [intOf]
def numOf (l : List UInt8) : Option Int := match Lib.atoiAll l with | .ok v => if Lib.itoa v = l then some v else none | _ => none
theorem below_itoa {w w' : World} (h : ∃ k os, w' = Go.Sort.grow (w.drewN k) os) : Below w.heap.size w w' := by
 obtain ⟨k, os, rfl⟩ := h
 exact Lib.below_grow _ _ (Nat.le_refl _) _ _
theorem number_any (s : ByteArray) (w : World) (hL : Laid w) (hs : s.size ≤ 30000) :
  Calls Tryz.prog 296 #[.string s] w fun e w' => e = .returned (.tuple #[.int .i64 ((numOf s.data.toList).getD 0), .bool (numOf s.data.toList).isSome]) ∧ Below w.heap.size w w' := by
 cases h : Lib.atoiAll s.data.toList with
 | ok v =>
  have hb := Lib.atoiAll_bounds h
  have hat := Tryz.strconv_Atoi_ok s (by omega) v h
  by_cases hi : Lib.itoa v = s.data.toList
  · have hn : numOf s.data.toList = some v := by simp only [numOf, h, if_pos hi]
   rw [hn]
   go_enter Tryz.func296, Tryz.ntmps296
   go_wp2_with fail
   refine (hat _).mono ?_
   rintro e w1 ⟨rfl, hw⟩
   have hb1 : Below w.heap.size w w1 := by
    rcases hw with rfl | ⟨t, rfl⟩
    · exact Below.refl _ _
    · exact Lib.bytesWorld_below _ _ _
   clear hw
   go_wp2_with fail
   refine (Tryz.strconv_Itoa v hb.1 hb.2 _ (hL.later hb1).pow).mono ?_
   rintro e w2 ⟨rfl, hw2⟩
   have hb2 := hb1.trans ((below_itoa hw2).mono hb1.size)
   clear hw2
   go_wp2
   go_ret2
   exact ⟨rfl, hb2⟩
  · have hn : numOf s.data.toList = none := by simp only [numOf, h, if_neg hi]
   rw [hn]
   clear hn h
   have hne : (Lib.itoa v == s.toList) = false := by rw [bytes_toList]; simpa using hi
   clear hi
   go_enter Tryz.func296, Tryz.ntmps296
   go_wp2_with fail
   refine (hat _).mono ?_
   rintro e w1 ⟨rfl, hw⟩
   have hb1 : Below w.heap.size w w1 := by
    rcases hw with rfl | ⟨t, rfl⟩
    · exact Below.refl _ _
    · exact Lib.bytesWorld_below _ _ _
   clear hw
   go_wp2_with fail
   refine (Tryz.strconv_Itoa v hb.1 hb.2 _ (hL.later hb1).pow).mono ?_
   rintro e w2 ⟨rfl, hw2⟩
   have hb2 := hb1.trans ((below_itoa hw2).mono hb1.size)
   clear hw2
   go_wp2
   go_ret2
   exact ⟨rfl, hb2⟩
 | «syntax» =>
  have hn : numOf s.data.toList = none := by simp only [numOf, h]
  rw [hn]
  obtain ⟨tp, p, hv⟩ := hL.syn
  have hv0 : w.cell? ⟨6, 0, none⟩ = some (.iface tp p) := by have h0 := World.var?_cell gSyn hv 0; simpa using h0
  go_enter Tryz.func296, Tryz.ntmps296
  go_wp2_with fail
  refine (Tryz.strconv_Atoi_syntax s (by omega) h _ _ hv0 (Or.inr ⟨_, _, rfl⟩)).mono ?_
  rintro e w1 ⟨N, rfl, -, -, hb⟩
  go_wp2
  go_ret2
  exact ⟨rfl, hb⟩
 | range =>
  have hn : numOf s.data.toList = none := by simp only [numOf, h]
  rw [hn]
  obtain ⟨tp, p, hv⟩ := hL.rng
  have hv0 : w.cell? ⟨7, 0, none⟩ = some (.iface tp p) := by have h0 := World.var?_cell gRng hv 0; simpa using h0
  go_enter Tryz.func296, Tryz.ntmps296
  go_wp2_with fail
  refine (Tryz.strconv_Atoi_range s (by omega) h _ _ hv0 (Or.inr ⟨_, _, rfl⟩)).mono ?_
  rintro e w1 ⟨N, rfl, -, -, hb⟩
  go_wp2
  go_ret2
  exact ⟨rfl, hb⟩
def spl : Nat → List UInt8 → Option (List (List UInt8))
 | 0, _ => none
 | f + 1, l => if (Lib.cut l [32]).2.2 = true then (spl f (Lib.cut l [32]).2.1).map ((Lib.cut l [32]).1 :: ·) else some [(Lib.cut l [32]).1]
theorem spl_yes {r a b : List UInt8} (f : Nat) (hc : Lib.cut r [32] = (a, b, true)) : spl (f + 1) r = (spl f b).map (a :: ·) := by
 rw [spl.eq_2, hc]; rfl
theorem spl_no {r a b : List UInt8} (f : Nat) (hc : Lib.cut r [32] = (a, b, false)) : spl (f + 1) r = some [a] := by
 rw [spl.eq_2, hc]; rfl
def wd (ws : List (List UInt8)) (i : Nat) : ByteArray := ⟨(ws.getD i []).toArray⟩
abbrev wv (ws : List (List UInt8)) : Value := .agg #[.string (wd ws 0), .string (wd ws 1), .string (wd ws 2), .string (wd ws 3)]
theorem cut_yes (r a b : List UInt8) (w : World) (hL : ∃ m, w.cell? ⟨0, 0, none⟩ = some (.int .i64 m)) (hr : r.length ≤ 30000) (hc : Lib.cut r [32] = (a, b, true)) :
  Calls Tryz.prog 235 #[.string ⟨r.toArray⟩, .string ⟨#[32]⟩] w fun e w' => e = .returned (.tuple #[.string ⟨a.toArray⟩, .string ⟨b.toArray⟩, .bool true]) ∧ ∃ n, w' = w.drewN n := by
 obtain ⟨m, hm⟩ := hL
 have h := Tryz.strings_Cut ⟨r.toArray⟩ ⟨#[32]⟩ m w (by simp [Lib.size_eq]; omega) hm
 rw [show Lib.cut (⟨r.toArray⟩ : ByteArray).data.toList (⟨#[32]⟩ : ByteArray).data.toList = (a, b, true) from hc] at h
 exact h
theorem cut_no (r a b : List UInt8) (w : World) (hL : ∃ m, w.cell? ⟨0, 0, none⟩ = some (.int .i64 m)) (hr : r.length ≤ 30000) (hc : Lib.cut r [32] = (a, b, false)) :
  Calls Tryz.prog 235 #[.string ⟨r.toArray⟩, .string ⟨#[32]⟩] w fun e w' => e = .returned (.tuple #[.string ⟨a.toArray⟩, .string ⟨b.toArray⟩, .bool false]) ∧ ∃ n, w' = w.drewN n := by
 obtain ⟨m, hm⟩ := hL
 have h := Tryz.strings_Cut ⟨r.toArray⟩ ⟨#[32]⟩ m w (by simp [Lib.size_eq]; omega) hm
 rw [show Lib.cut (⟨r.toArray⟩ : ByteArray).data.toList (⟨#[32]⟩ : ByteArray).data.toList = (a, b, false) from hc] at h
 exact h
theorem cut_len (r a b : List UInt8) (f : Bool) (hc : Lib.cut r [32] = (a, b, f)) : b.length ≤ r.length := by
 unfold Lib.cut at hc
 split at hc
 · injection hc with _ h; injection h with h _; subst h; simp
 · injection hc with _ h; injection h with h _; subst h; simp
abbrev e4 : Obj := .cells #[.string ⟨#[]⟩, .string ⟨#[]⟩, .string ⟨#[]⟩, .string ⟨#[]⟩] 238
abbrev o4 (ws : List (List UInt8)) : Obj := .cells #[.string (wd ws 0), .string (wd ws 1), .string (wd ws 2), .string (wd ws 3)] 238
attribute [local go_sem] setCell_drewN
theorem split_any (l : List UInt8) (w : World) (hL : ∃ m, w.cell? ⟨0, 0, none⟩ = some (.int .i64 m)) (hl : l.length ≤ 30000) :
  Calls Tryz.prog 294 #[.string ⟨l.toArray⟩] w fun e w' =>
   e = .returned (.tuple #[wv ((spl 4 l).getD []), .int .i64 ((spl 4 l).getD []).length, .bool (spl 4 l).isSome]) ∧ Below w.heap.size w w' := by
 have HL : ∀ (o1 o2 : Obj), ∃ m, ((w.alloc o1).alloc o2).cell? ⟨0, 0, none⟩ = some (.int .i64 m) := fun o1 o2 => by
  obtain ⟨m, hm⟩ := hL
  exact ⟨m, cell_later (grew (grew (Below.refl _ _) _) _) hm⟩
 clear hL
 go_enter Tryz.func294, Tryz.ntmps294
 go_wp2
 go_loopw [6, 12] (fun rest i wr => ∃ (k : Nat) (done : List (List UInt8)) (r : List UInt8) (q : Nat), k ≤ 4 ∧ done.length = k ∧ r.length ≤ 30000 ∧ rest = .string ⟨r.toArray⟩ ∧ i = .int .i64 k ∧
  wr = ((w.alloc e4).alloc (o4 done)).drewN q ∧ Hid (spl 4 l = (spl (4 - k) r).map (done ++ ·))) (fun _ i _ => 4 - (intOf i).toNat)
 case atStart => exact ⟨0, [], l, 0, by simp, rfl, hl, rfl, rfl, rfl, by simp [Hid]⟩
 case round =>
  obtain ⟨k, done, r, q, hk, hd, hr, rfl, rfl, rfl, hs⟩ := hrel
  rcases hc : Lib.cut r [32] with ⟨a, b, f⟩
  have hbl := cut_len r a b f hc
  have hk' : k = 0 ∨ k = 1 ∨ k = 2 ∨ k = 3 ∨ k = 4 := by omega
  rcases hk' with rfl | rfl | rfl | rfl | rfl
  · match done, hd with
   | [], _ =>
    cases f with
    | true =>
     have HF : Hid (spl 4 l = (spl (4 - 1) b).map ([a] ++ ·)) := by
      rw [hs.out]
      show ((spl (3 + 1) r).map _) = _
      rw [spl_yes _ hc]
      simp [Option.map_map, Function.comp_def]
     clear hs
     go_wp2_with fail
     refine (cut_yes r a b _ (by exact HL _ _) hr hc).mono ?_
     rintro e w1 ⟨rfl, n, rfl⟩
     clear hc
     go_wp2
     go_roundw
     case rel => exact ⟨1, [a], b, q + n, by omega, rfl, by omega, rfl, rfl, rfl, HF⟩
     case measure => simp [intOf]
    | false =>
     have HF : Hid (spl 4 l = some [a]) := by
      rw [hs.out]
      show ((spl (3 + 1) r).map _) = _
      rw [spl_no _ hc]
      rfl
     clear hs
     go_wp2_with fail
     refine (cut_no r a b _ (by exact HL _ _) hr hc).mono ?_
     rintro e w1 ⟨rfl, n, rfl⟩
     clear hc
     go_wp2
     refine bodyPost_ret (v := .tuple #[wv [a], .int .i64 1, .bool true]) (by simp [results, Tryz.results294, go_sem, wd]) rfl ⟨?_, ?_⟩
     · rw [HF.out]; rfl
     · exact below_drewN (grew (grew (Below.refl _ _) _) _) _
  · match done, hd with
   | [x0], _ =>
    cases f with
    | true =>
     have HF : Hid (spl 4 l = (spl (4 - 2) b).map ([x0, a] ++ ·)) := by
      rw [hs.out]
      show ((spl (2 + 1) r).map _) = _
      rw [spl_yes _ hc]
      simp [Option.map_map, Function.comp_def]
     clear hs
     go_wp2_with fail
     refine (cut_yes r a b _ (by exact HL _ _) hr hc).mono ?_
     rintro e w1 ⟨rfl, n, rfl⟩
     clear hc
     go_wp2
     go_roundw
     case rel => exact ⟨2, [x0, a], b, q + n, by omega, rfl, by omega, rfl, rfl, rfl, HF⟩
     case measure => simp [intOf]
    | false =>
     have HF : Hid (spl 4 l = some [x0, a]) := by
      rw [hs.out]
      show ((spl (2 + 1) r).map _) = _
      rw [spl_no _ hc]
      rfl
     clear hs
     go_wp2_with fail
     refine (cut_no r a b _ (by exact HL _ _) hr hc).mono ?_
     rintro e w1 ⟨rfl, n, rfl⟩
     clear hc
     go_wp2
     refine bodyPost_ret (v := .tuple #[wv [x0, a], .int .i64 2, .bool true]) (by simp [results, Tryz.results294, go_sem, wd]) rfl ⟨?_, ?_⟩
     · rw [HF.out]; rfl
     · exact below_drewN (grew (grew (Below.refl _ _) _) _) _
  · match done, hd with
   | [x0, x1], _ =>
    cases f with
    | true =>
     have HF : Hid (spl 4 l = (spl (4 - 3) b).map ([x0, x1, a] ++ ·)) := by
      rw [hs.out]
      show ((spl (1 + 1) r).map _) = _
      rw [spl_yes _ hc]
      simp [Option.map_map, Function.comp_def]
     clear hs
     go_wp2_with fail
     refine (cut_yes r a b _ (by exact HL _ _) hr hc).mono ?_
     rintro e w1 ⟨rfl, n, rfl⟩
     clear hc
     go_wp2
     go_roundw
     case rel => exact ⟨3, [x0, x1, a], b, q + n, by omega, rfl, by omega, rfl, rfl, rfl, HF⟩
     case measure => simp [intOf]
    | false =>
     have HF : Hid (spl 4 l = some [x0, x1, a]) := by
      rw [hs.out]
      show ((spl (1 + 1) r).map _) = _
      rw [spl_no _ hc]
      rfl
     clear hs
     go_wp2_with fail
     refine (cut_no r a b _ (by exact HL _ _) hr hc).mono ?_
     rintro e w1 ⟨rfl, n, rfl⟩
     clear hc
     go_wp2
     refine bodyPost_ret (v := .tuple #[wv [x0, x1, a], .int .i64 3, .bool true]) (by simp [results, Tryz.results294, go_sem, wd]) rfl ⟨?_, ?_⟩
     · rw [HF.out]; rfl
     · exact below_drewN (grew (grew (Below.refl _ _) _) _) _
  · match done, hd with
   | [x0, x1, x2], _ =>
    cases f with
    | true =>
     have HF : Hid (spl 4 l = (spl (4 - 4) b).map ([x0, x1, x2, a] ++ ·)) := by
      rw [hs.out]
      show ((spl (0 + 1) r).map _) = _
      rw [spl_yes _ hc]
      simp [Option.map_map, Function.comp_def]
     clear hs
     go_wp2_with fail
     refine (cut_yes r a b _ (by exact HL _ _) hr hc).mono ?_
     rintro e w1 ⟨rfl, n, rfl⟩
     clear hc
     go_wp2
     go_roundw
     case rel => exact ⟨4, [x0, x1, x2, a], b, q + n, by omega, rfl, by omega, rfl, rfl, rfl, HF⟩
     case measure => simp [intOf]
    | false =>
     have HF : Hid (spl 4 l = some [x0, x1, x2, a]) := by
      rw [hs.out]
      show ((spl (0 + 1) r).map _) = _
      rw [spl_no _ hc]
      rfl
     clear hs
     go_wp2_with fail
     refine (cut_no r a b _ (by exact HL _ _) hr hc).mono ?_
     rintro e w1 ⟨rfl, n, rfl⟩
     clear hc
     go_wp2
     refine bodyPost_ret (v := .tuple #[wv [x0, x1, x2, a], .int .i64 4, .bool true]) (by simp [results, Tryz.results294, go_sem, wd]) rfl ⟨?_, ?_⟩
     · rw [HF.out]; rfl
     · exact below_drewN (grew (grew (Below.refl _ _) _) _) _
  · have HF : Hid (spl 4 l = none) := by rw [hs.out]; rfl
   clear hs hc
   go_wp2
   refine bodyPost_ret (v := .tuple #[wv [], .int .i64 0, .bool false]) (by simp [results, Tryz.results294, go_sem, wd]) rfl ⟨?_, ?_⟩
   · rw [HF.out]; rfl
   · exact below_drewN (grew (grew (Below.refl _ _) _) _) _
abbrev box4 (a b c d : ByteArray) : Obj := .cells #[.string a, .string b, .string c, .string d] 238
def upTo (n i : Nat) (x : Int) : ByteArray := if i < n then ⟨(Lib.itoa x).toArray⟩ else ⟨#[]⟩
theorem join_any (wb : Nat) (nm a b c : ByteArray) (n : Nat) (xs : List ByteArray) (W : World) (hW : W.heap[wb]? = some (box4 nm a b c)) (hx : xs = [nm, a, b, c].take n) (hn : n ≤ 4)
  (hm : nm.data.toList.length ≤ 30) (ha : a.data.toList.length ≤ 30) (hb : b.data.toList.length ≤ 30) (hc : c.data.toList.length ≤ 30) :
  Calls Tryz.prog 223 #[.slice (some ⟨wb, 0, none⟩) n 4, .string ⟨#[32]⟩] W fun e w' => e = .returned (.string ⟨(Lib.join (xs.map (·.data.toList)) [32]).toArray⟩) ∧ Below W.heap.size W w' := by
 have hl : xs.length = n := by subst hx; simp; omega
 have hj : (Lib.join (xs.map (·.data.toList)) (⟨#[32]⟩ : ByteArray).data.toList).length ≤ 140737488355328 := by
  have : (Lib.join (xs.map (·.data.toList)) [32]).length ≤ 200 := by
   subst hx
   have hn' : n = 0 ∨ n = 1 ∨ n = 2 ∨ n = 3 ∨ n = 4 := by omega
   rcases hn' with rfl | rfl | rfl | rfl | rfl
   · simp only [List.take, List.map, Lib.join_nil, List.length_nil]; omega
   all_goals
    simp only [List.take, List.map, Lib.join_cons, Lib.joinTail, List.flatten_cons, List.flatten_nil, List.length_append, List.length_cons, List.length_nil, List.nil_append, List.cons_append]
    omega
  exact Nat.le_trans this (by omega)
 have h := Tryz.strings_Join wb 0 4 xs ⟨#[32]⟩ W (fun i x hi => by
  rw [Joins.cell_of_block hW]
  subst hx
  rw [List.getElem?_take] at hi
  split at hi
  · have hi4 : i < 4 := by omega
   have : i = 0 ∨ i = 1 ∨ i = 2 ∨ i = 3 := by omega
   rcases this with rfl | rfl | rfl | rfl <;> simp at hi <;> subst hi <;> rfl
  · cases hi) (heap_lt hW) (by omega) (by omega) hj
 rw [hl] at h
 exact h
theorem itoa_le (x : Int) (h0 : 0 ≤ x) (h1 : x ≤ 100000) : (⟨(Lib.itoa x).toArray⟩ : ByteArray).data.toList.length ≤ 30 := by
 have := Lib.itoa_length_le x (by omega) (by omega)
 show (Lib.itoa x).length ≤ 30
 omega
theorem print_bad (k j v t c : Int) (w : World) (hbad : (chk k j v t c != 0) = true) :
  Calls Tryz.prog 196 #[ev k j v t c] w fun e w' => e = .returned (.tuple #[.string ⟨#[]⟩, .int .i64 (chk k j v t c)]) ∧ Below w.heap.size w w' := by
 have hch := fun W => check_any k j v t c W
 generalize chk k j v t c = n at *
 go_enter Tryz.func196, Tryz.ntmps196
 go_wp2_with fail
 refine (hch _).mono ?_
 rintro e w1 ⟨rfl, hb⟩
 go_wp2
 go_ret2
 exact ⟨rfl, (grew (Below.refl _ _) _).trans (hb.mono (by simp))⟩
theorem print_ok (k j v t c : Int) (nm : ByteArray) (cnt : Nat) (n0 n1 n2 : Int) (w : World) (hL : Laid w) (h0 : 0 ≤ k) (h3 : k ≤ 3) (hcnt : cnt ≤ 3) (hnl : nm.data.toList.length ≤ 30) (hok : chk k j v t c = 0)
  (hn0 : num0 k j = n0) (hn1 : num1 k v t = n1) (hn2 : num2 k t c = n2)
  (b0 : 0 ≤ n0 ∧ n0 ≤ 100000) (b1 : 0 ≤ n1 ∧ n1 ≤ 100000) (b2 : 0 ≤ n2 ∧ n2 ≤ 100000)
  (hnm : ∀ W, Laid W → W.cell? ⟨1, k.toNat, none⟩ = some (.string nm))
  (hct : ∀ W, Laid W → W.cell? ⟨2, k.toNat, none⟩ = some (.int .i64 cnt)) :
  Calls Tryz.prog 196 #[ev k j v t c] w fun e w' =>
   e = .returned (.tuple #[.string ⟨(Lib.join ([nm.data.toList, Lib.itoa n0, Lib.itoa n1, Lib.itoa n2].take (1 + cnt)) [32]).toArray⟩, .int .i64 0]) ∧ Below w.heap.size w w' := by
 have hch := fun W => check_any k j v t c W
 rw [hok] at hch
 have hnum := fun W => numbers_any k j v t c W
 rw [hn0, hn1, hn2] at hnum
 clear hok hn0 hn1 hn2
 go_enter Tryz.func196, Tryz.ntmps196
 go_wp2_with fail
 refine (hch _).mono ?_
 rintro e w1 ⟨rfl, hb⟩
 have hbox : w1.heap[w.heap.size]? = some (boxE k j v t c) := by rw [hb.block _ (by simp)]; exact heap_new _ _
 have hb1 : Below w.heap.size w w1 := (grew (Below.refl _ _) _).trans (hb.mono (by simp))
 have hL1 := hL.later hb1
 have hlt : w.heap.size < w1.heap.size := by have := hb.size; simp at this; omega
 clear hb
 have hn := hnm w1 hL1
 have c0 := fun i => Joins.cell_of_block hbox i
 go_wp2_with fail
 refine (hnum _).mono ?_
 rintro e w2 ⟨rfl, hw2⟩
 have hbW : w2.heap[w1.heap.size]? = some (box4 nm ⟨#[]⟩ ⟨#[]⟩ ⟨#[]⟩) := by rw [hw2]; exact heap_old (heap_old (heap_new _ _) _) _
 have hb2 : Below w.heap.size w w2 := by rw [hw2]; exact grew (grew (grew hb1 _) _) _
 have hbox2 : w2.heap[w.heap.size]? = some (boxE k j v t c) := by rw [hw2]; exact heap_old (heap_old (heap_old hbox _) _) _
 generalize w1.heap.size = wb at *
 clear hw2 hbox c0 hnum hch hb1 hL1 hn hnm
 go_wp2
 go_loopw [20] (fun i wr => ∃ n : Nat, n ≤ 3 ∧ i = .int .i64 n ∧ wr.heap[wb]? = some (box4 nm (upTo n 0 n0) (upTo n 1 n1) (upTo n 2 n2)) ∧ wr.heap[w.heap.size]? = some (boxE k j v t c) ∧ Below w.heap.size w wr)
  (fun i _ => 3 - (intOf i).toNat)
 case atStart => exact ⟨0, by omega, rfl, hbW, hbox2, hb2⟩
 case round =>
  clear hbW hbox2 hb2
  obtain ⟨n, hn, rfl, hW, hB, hb⟩ := hrel
  have hLr := hL.later hb
  have hlW := heap_lt hW
  have i0 : ∀ W, (Instr.index 184 (nv n0 n1 n2) (.int .i64 0)).run Tryz.prog W = .ok (.int .i64 n0) W := fun _ => by kernel_rfl
  have i1 : ∀ W, (Instr.index 184 (nv n0 n1 n2) (.int .i64 1)).run Tryz.prog W = .ok (.int .i64 n1) W := fun _ => by kernel_rfl
  have i2 : ∀ W, (Instr.index 184 (nv n0 n1 n2) (.int .i64 2)).run Tryz.prog W = .ok (.int .i64 n2) W := fun _ => by kernel_rfl
  have hn' : n = 0 ∨ n = 1 ∨ n = 2 ∨ n = 3 := by omega
  rcases hn' with rfl | rfl | rfl | rfl
  · go_wp2_with fail
   refine (Tryz.strconv_Itoa n0 (by omega) (by omega) _ hLr.pow).mono ?_
   rintro e w3 ⟨rfl, hw3⟩
   have hb3 := below_itoa hw3
   clear hw3
   have hW3 := heap_below hW hb3 hlW
   have hB3 := heap_below hB hb3 (heap_lt hB)
   have c1 := fun i => Joins.cell_of_block hW3 i
   have c2 := fun i => Joins.unfrozen_of_block hW3 i
   go_wp2
   go_roundw
   case rel => exact ⟨1, by omega, rfl, by rw [Joins.block_setCell hW3]; rfl, by rw [Below.heap_setCell _ _ _ _ (Nat.ne_of_lt hlt)]; exact hB3, (hb.trans (hb3.mono hb.size)).setCell (Nat.le_of_lt hlt) _⟩
   case measure => simp [intOf]
  · go_wp2_with fail
   refine (Tryz.strconv_Itoa n1 (by omega) (by omega) _ hLr.pow).mono ?_
   rintro e w3 ⟨rfl, hw3⟩
   have hb3 := below_itoa hw3
   clear hw3
   have hW3 := heap_below hW hb3 hlW
   have hB3 := heap_below hB hb3 (heap_lt hB)
   have c1 := fun i => Joins.cell_of_block hW3 i
   have c2 := fun i => Joins.unfrozen_of_block hW3 i
   go_wp2
   go_roundw
   case rel => exact ⟨2, by omega, rfl, by rw [Joins.block_setCell hW3]; rfl, by rw [Below.heap_setCell _ _ _ _ (Nat.ne_of_lt hlt)]; exact hB3, (hb.trans (hb3.mono hb.size)).setCell (Nat.le_of_lt hlt) _⟩
   case measure => simp [intOf]
  · go_wp2_with fail
   refine (Tryz.strconv_Itoa n2 (by omega) (by omega) _ hLr.pow).mono ?_
   rintro e w3 ⟨rfl, hw3⟩
   have hb3 := below_itoa hw3
   clear hw3
   have hW3 := heap_below hW hb3 hlW
   have hB3 := heap_below hB hb3 (heap_lt hB)
   have c1 := fun i => Joins.cell_of_block hW3 i
   have c2 := fun i => Joins.unfrozen_of_block hW3 i
   go_wp2
   go_roundw
   case rel => exact ⟨3, by omega, rfl, by rw [Joins.block_setCell hW3]; rfl, by rw [Below.heap_setCell _ _ _ _ (Nat.ne_of_lt hlt)]; exact hB3, (hb.trans (hb3.mono hb.size)).setCell (Nat.le_of_lt hlt) _⟩
   case measure => simp [intOf]
  · have hc := hct _ hLr
   clear hct i0 i1 i2 hLr
   have c0 := fun i => Joins.cell_of_block hB i
   clear hL hn hlt
   have hcnt' : cnt = 0 ∨ cnt = 1 ∨ cnt = 2 ∨ cnt = 3 := by omega
   rcases hcnt' with rfl | rfl | rfl | rfl
   all_goals
    go_wp2_with fail
    refine (join_any wb nm (upTo 3 0 n0) (upTo 3 1 n1) (upTo 3 2 n2) _ _ _ hW rfl (by omega) hnl (itoa_le _ b0.1 b0.2) (itoa_le _ b1.1 b1.2) (itoa_le _ b2.1 b2.2)).mono ?_
    rintro e w4 ⟨rfl, hb4⟩
    clear hW hB c0
    go_wp2
    go_ret2
    exact ⟨rfl, hb.trans (hb4.mono hb.size)⟩
theorem cut_len1 (r a b : List UInt8) (f : Bool) (hc : Lib.cut r [32] = (a, b, f)) : a.length ≤ r.length := by
 unfold Lib.cut at hc
 split at hc
 · injection hc with h _; subst h; simp; omega
 · injection hc with h _; subst h; exact Nat.le_refl _
theorem spl_len : ∀ (f : Nat) (l : List UInt8) (ws : List (List UInt8)), spl f l = some ws → ∀ x, x ∈ ws → x.length ≤ l.length
 | 0, _, _, h, _, _ => by cases h
 | f + 1, l, ws, h, x, hx => by
  rcases hc : Lib.cut l [32] with ⟨a, b, g⟩
  cases g with
  | true =>
   rw [spl_yes f hc] at h
   obtain ⟨ws', h', rfl⟩ := Option.map_eq_some_iff.1 h
   rcases List.mem_cons.1 hx with rfl | hx
   · exact cut_len1 l x b true hc
   · exact Nat.le_trans (spl_len f b ws' h' x hx) (cut_len l a b true hc)
  | false =>
   rw [spl_no f hc] at h
   cases h
   rcases List.mem_cons.1 hx with rfl | hx
   · exact cut_len1 l x b false hc
   · cases hx
theorem spl_count : ∀ (f : Nat) (l : List UInt8) (ws : List (List UInt8)), spl f l = some ws → 1 ≤ ws.length ∧ ws.length ≤ f
 | 0, _, _, h => by cases h
 | f + 1, l, ws, h => by
  rcases hc : Lib.cut l [32] with ⟨a, b, g⟩
  cases g with
  | true =>
   rw [spl_yes f hc] at h
   obtain ⟨ws', h', rfl⟩ := Option.map_eq_some_iff.1 h
   have := spl_count f b ws' h'
   simp; omega
  | false =>
   rw [spl_no f hc] at h
   cases h
   simp
theorem wd_size (ws : List (List UInt8)) (i n : Nat) (h : ∀ x, x ∈ ws → x.length ≤ n) : (wd ws i).size ≤ n := by
 rw [Lib.size_eq]
 show (ws.getD i []).length ≤ n
 rw [List.getD_eq_getElem?_getD]
 rcases hi : ws[i]? with _ | x
 · simp
 · exact h x (List.mem_of_getElem? hi)
def cntOf (k : Int) : Nat := if k = 0 then 0 else if k = 1 then 3 else if k = 2 then 1 else 3
def nAt (ws : List (List UInt8)) (i : Nat) : Option Int := if i < ws.length then numOf (ws.getD i []) else some 0
def rdW (ws : List (List UInt8)) : Option (Int × Int × Int × Int) :=
 if kindOf (ws.getD 0 []) < 0 ∨ ws.length ≠ 1 + cntOf (kindOf (ws.getD 0 [])) then none
 else (nAt ws 1).bind fun a => (nAt ws 2).bind fun b => (nAt ws 3).bind fun c => some (kindOf (ws.getD 0 []), a, b, c)
def rd (l : List UInt8) : Option (Int × Int × Int × Int) := (spl 4 l).bind rdW
def rdE (r : Int × Int × Int × Int) : Value := ev r.1 (bJob r.1 r.2.1) (bEvery r.1 r.2.2.1) (bTime r.1 r.2.2.1 r.2.2.2) (bClient r.1 r.2.2.2)
abbrev z5 : Value := ev 0 0 0 0 0
abbrev rdV (r : Option (Int × Int × Int × Int)) : Value := .tuple #[r.elim z5 rdE, .bool r.isSome]
theorem five_stores {W : World} {b : Nat} {k j v t c : Int} (h : W.heap[b]? = some (boxE k j v t c)) (k' j' v' t' c' : Int) :
  (((((W.setCell ⟨b, 0, none⟩ (.int .i64 k')).setCell ⟨b, 1, none⟩ (.int .i64 j')).setCell ⟨b, 2, none⟩ (.int .i64 v')).setCell ⟨b, 3, none⟩ (.int .i64 t')).setCell ⟨b, 4, none⟩ (.int .i64 c')).heap[b]? = some (boxE k' j' v' t' c') :=
 Joins.block_setCell (Joins.block_setCell (Joins.block_setCell (Joins.block_setCell (Joins.block_setCell h _) _) _) _) _
theorem ret_entry {fn : Func} {R : Ending → World → Prop} {a : Act} {W : World} {b : Nat} {k j v t c : Int} {y : Value} (hf : fn.results = #[.cell 2 27, .tmp 3]) (hd : a.defers = [])
  (h2 : a.tmps.getD 2 undef = .pointer (some ⟨b, 0, none⟩)) (h3 : a.tmps.getD 3 undef = y) (hR : W.heap[b]? = some (boxE k j v t c)) (hp : R (.returned (.tuple #[ev k j v t c, y])) W) :
  bodyPost Tryz.prog fn R .ret a W := by
 have c0 := fun i => Joins.cell_of_block hR i
 refine bodyPost_ret (v := .tuple #[ev k j v t c, y]) ?_ hd hp
 rw [results_cell_tmp hf, h2, h3]
 simp [go_sem, c0]
theorem below_five {B : Nat} {a W : World} {b : Nat} (h : Below B a W) (hb : B ≤ b) (v0 v1 v2 v3 v4 : Value) :
  Below B a (((((W.setCell ⟨b, 0, none⟩ v0).setCell ⟨b, 1, none⟩ v1).setCell ⟨b, 2, none⟩ v2).setCell ⟨b, 3, none⟩ v3).setCell ⟨b, 4, none⟩ v4) :=
 ((((h.setCell hb _).setCell hb _).setCell hb _).setCell hb _).setCell hb _
theorem read_none (l : List UInt8) (w : World) (hL : Laid w) (hl : l.length ≤ 30000) (hs : spl 4 l = none) :
  Calls Tryz.prog 288 #[.string ⟨l.toArray⟩] w fun e w' => e = .returned (rdV none) ∧ Below w.heap.size w w' := by
 have hsp := fun W hW => split_any l W hW hl
 rw [hs] at hsp
 go_enter Tryz.func288, Tryz.ntmps288
 go_wp2_with fail
 refine (hsp _ (hL.later (grew (Below.refl _ _) _)).most).mono ?_
 rintro e w1 ⟨rfl, hb⟩
 have hR : w1.heap[w.heap.size]? = some (boxE 0 0 0 0 0) := by rw [hb.block _ (by simp)]; exact heap_new _ _
 have hb1 : Below w.heap.size w w1 := (grew (Below.refl _ _) _).trans (hb.mono (by simp))
 have hlt : w.heap.size < w1.heap.size := by have := hb.size; simp at this; omega
 clear hb
 have c0 := fun i => Joins.cell_of_block hR i
 have c1 := fun i => Joins.unfrozen_of_block hR i
 go_wp2
 refine ret_entry Tryz.results288 rfl rfl rfl (heap_old (five_stores hR 0 0 0 0 0) _) ⟨rfl, ?_⟩
 exact (below_five hb1 (Nat.le_refl _) _ _ _ _ _).alloc (by simp; omega) _
theorem kindOf_range (l : List UInt8) : kindOf l = -1 ∨ kindOf l = 0 ∨ kindOf l = 1 ∨ kindOf l = 2 ∨ kindOf l = 3 := by
 unfold kindOf
 split
 · simp
 split
 · simp
 split
 · simp
 split <;> simp
theorem Laid.cnt {W : World} (h : Laid W) (k : Int) (h0 : 0 ≤ k) (h3 : k ≤ 3) : W.cell? ⟨2, k.toNat, none⟩ = some (.int .i64 (cntOf k)) := by
 obtain ⟨c0, c1, c2, c3⟩ := h.count
 have : k = 0 ∨ k = 1 ∨ k = 2 ∨ k = 3 := by omega
 rcases this with rfl | rfl | rfl | rfl
 · exact c0
 · exact c1
 · exact c2
 · exact c3
theorem read_bad (l : List UInt8) (ws : List (List UInt8)) (kk n m : Int) (w : World) (hL : Laid w) (hl : l.length ≤ 30000) (hs : spl 4 l = some ws) (hk : kindOf (ws.getD 0 []) = kk) (hn : (ws.length : Int) = n)
  (hm : ((cntOf kk : Nat) : Int) = m) (hm0 : 0 ≤ m) (hm3 : m ≤ 3) (hbad : (kk < 0) ∨ (0 ≤ kk ∧ kk ≤ 3 ∧ (n != 1 + m) = true)) :
  Calls Tryz.prog 288 #[.string ⟨l.toArray⟩] w fun e w' => e = .returned (rdV none) ∧ Below w.heap.size w w' := by
 have hsp := fun W hW => split_any l W hW hl
 rw [hs] at hsp
 have hko := fun W hW => kindOf_any (wd ws 0) W hW
 rw [show kindOf (wd ws 0).data.toList = kk from hk] at hko
 have hct := fun W (h : Laid W) => h.cnt kk
 rw [hm] at hct
 simp only [Option.getD_some, Option.isSome_some] at hsp
 rw [hn] at hsp
 clear hs hk hn hm
 rcases hbad with hneg | ⟨hk0, hk3, hne⟩
 all_goals
  go_enter Tryz.func288, Tryz.ntmps288
  go_wp2_with fail
  refine (hsp _ (hL.later (grew (Below.refl _ _) _)).most).mono ?_
  rintro e w1 ⟨rfl, hb⟩
  have hR : w1.heap[w.heap.size]? = some (boxE 0 0 0 0 0) := by rw [hb.block _ (by simp)]; exact heap_new _ _
  have hb1 : Below w.heap.size w w1 := (grew (Below.refl _ _) _).trans (hb.mono (by simp))
  have hlt : w.heap.size < w1.heap.size := by have := hb.size; simp at this; omega
  clear hb hsp
  go_wp2_with fail
  refine (hko _ (hL.later (grew hb1 _))).mono ?_
  rintro e w2 ⟨rfl, rfl⟩
  have hcc := hct _ (hL.later hb1)
  clear hct hko hL
  have c0 := fun i => Joins.cell_of_block hR i
  have c1 := fun i => Joins.unfrozen_of_block hR i
 · clear hcc
  go_wp2
  refine ret_entry Tryz.results288 rfl rfl rfl (heap_old (five_stores hR 0 0 0 0 0) _) ⟨rfl, ?_⟩
  exact (below_five hb1 (Nat.le_refl _) _ _ _ _ _).alloc (by simp; omega) _
 · have hcc := hcc hk0 hk3
  have hg : 2 < w1.heap.size := World.block_lt_of_cell? _ _ hcc
  go_wp2
  refine ret_entry Tryz.results288 rfl rfl rfl (heap_old (five_stores hR 0 0 0 0 0) _) ⟨rfl, ?_⟩
  exact (below_five hb1 (Nat.le_refl _) _ _ _ _ _).alloc (by simp; omega) _
abbrev box3 (a b c : Int) : Obj := .cells #[.int .i64 a, .int .i64 b, .int .i64 c] 184
def st (ws : List (List UInt8)) (n i : Nat) (m : Int) : Prop := if i < n then nAt ws (i + 1) = some m else m = 0
theorem number_yes (ws : List (List UInt8)) (i : Nat) (v : Int) (w : World) (hL : Laid w) (hs : (wd ws i).size ≤ 30000) (hi : i < ws.length) (hv : nAt ws i = some v) :
  Calls Tryz.prog 296 #[.string (wd ws i)] w fun e w' => e = .returned (.tuple #[.int .i64 v, .bool true]) ∧ Below w.heap.size w w' := by
 have h := number_any (wd ws i) w hL hs
 have h' : numOf (wd ws i).data.toList = some v := by
  rw [nAt, if_pos hi] at hv; exact hv
 rw [h'] at h
 exact h
theorem number_no (ws : List (List UInt8)) (i : Nat) (w : World) (hL : Laid w) (hs : (wd ws i).size ≤ 30000) (hi : i < ws.length) (hv : nAt ws i = none) :
  Calls Tryz.prog 296 #[.string (wd ws i)] w fun e w' => e = .returned (.tuple #[.int .i64 0, .bool false]) ∧ Below w.heap.size w w' := by
 have h := number_any (wd ws i) w hL hs
 have h' : numOf (wd ws i).data.toList = none := by
  rw [nAt, if_pos hi] at hv; exact hv
 rw [h'] at h
 exact h
theorem rdW_some {ws : List (List UInt8)} {kk a b c : Int} (hk : kindOf (ws.getD 0 []) = kk) (h0 : 0 ≤ kk) (hl : ws.length = 1 + cntOf kk) (ha : nAt ws 1 = some a) (hb : nAt ws 2 = some b) (hc : nAt ws 3 = some c) : rdW ws = some (kk, a, b, c) := by
 rw [rdW, hk, if_neg (by omega), ha, hb, hc]; rfl
theorem rdW_none {ws : List (List UInt8)} (h : nAt ws 1 = none ∨ nAt ws 2 = none ∨ nAt ws 3 = none) : rdW ws = none := by
 unfold rdW
 split
 · rfl
 · rcases h with h | h | h
  · rw [h]; rfl
  · rw [h]; cases nAt ws 1 <;> rfl
  · rw [h]; cases nAt ws 1 <;> cases nAt ws 2 <;> rfl
theorem read_go0 (l : List UInt8) (ws : List (List UInt8)) (kk : Int) (w : World) (hL : Laid w) (hl : l.length ≤ 30000) (hs : spl 4 l = some ws) (hk : kindOf (ws.getD 0 []) = kk) (hk0 : 0 ≤ kk) (hk3 : kk ≤ 3) (hm : cntOf kk = 0) (hn : ws.length = 1 + 0) :
  Calls Tryz.prog 288 #[.string ⟨l.toArray⟩] w fun e w' => e = .returned (rdV (rdW ws)) ∧ Below w.heap.size w w' := by
 have hsz : ∀ i, (wd ws i).size ≤ 30000 := fun i => Nat.le_trans (wd_size ws i _ (spl_len 4 l ws hs)) hl
 have HS : Hid (∀ i, (wd ws i).size ≤ 30000) := hsz
 have HK : Hid (kindOf (ws.getD 0 []) = kk) := hk
 have HN : Hid (ws.length = 1 + 0) := hn
 have HM : Hid (cntOf kk = 0) := hm
 have hsp := fun W hW => split_any l W hW hl
 rw [hs] at hsp
 have hko := fun W hW => kindOf_any (wd ws 0) W hW
 rw [show kindOf (wd ws 0).data.toList = kk from hk] at hko
 have hct := fun W (h : Laid W) => h.cnt kk hk0 hk3
 rw [hm] at hct
 simp only [Option.getD_some, Option.isSome_some] at hsp
 rw [hn] at hsp
 clear hs hk hn hm hsz
 go_enter Tryz.func288, Tryz.ntmps288
 go_wp2_with fail
 refine (hsp _ (hL.later (grew (Below.refl _ _) _)).most).mono ?_
 rintro e w1 ⟨rfl, hb⟩
 have hR : w1.heap[w.heap.size]? = some (boxE 0 0 0 0 0) := by rw [hb.block _ (by simp)]; exact heap_new _ _
 have hb1 : Below w.heap.size w w1 := (grew (Below.refl _ _) _).trans (hb.mono (by simp))
 have hlt : w.heap.size < w1.heap.size := by have := hb.size; simp at this; omega
 clear hb hsp
 go_wp2_with fail
 refine (hko _ (hL.later (grew hb1 _))).mono ?_
 rintro e w2 ⟨rfl, rfl⟩
 have hcc := hct _ (hL.later hb1)
 have hg : 2 < w1.heap.size := World.block_lt_of_cell? _ _ hcc
 clear hct hko
 go_wp2
 clear hcc hg
 have hW0 : ((w1.alloc (o4 ws)).alloc (box3 0 0 0)).heap[w1.heap.size]? = some (o4 ws) := heap_old (heap_new _ _) _
 have hN0 : ((w1.alloc (o4 ws)).alloc (box3 0 0 0)).heap[w1.heap.size + 1]? = some (box3 0 0 0) := by
  have := heap_new (w1.alloc (o4 ws)) (box3 0 0 0)
  rwa [World.size_alloc] at this
 have hR0 : ((w1.alloc (o4 ws)).alloc (box3 0 0 0)).heap[w.heap.size]? = some (boxE 0 0 0 0 0) := heap_old (heap_old hR _) _
 have hb0 : Below w.heap.size w ((w1.alloc (o4 ws)).alloc (box3 0 0 0)) := grew (grew hb1 _) _
 have HI : Hid (_ ∧ _ ∧ _ ∧ _) := ⟨hW0, hN0, hR0, hb0⟩
 clear hW0 hN0 hR0 hb0 hR hb1
 go_loopw [37] (fun i wr => ∃ (n : Nat) (m0 m1 m2 : Int), n ≤ 0 ∧ i = .int .i64 n ∧ wr.heap[w1.heap.size]? = some (o4 ws) ∧ wr.heap[w1.heap.size + 1]? = some (box3 m0 m1 m2) ∧ wr.heap[w.heap.size]? = some (boxE 0 0 0 0 0) ∧ Below w.heap.size w wr ∧
  Hid (st ws n 0 m0 ∧ st ws n 1 m1 ∧ st ws n 2 m2)) (fun i _ => 3 - (intOf i).toNat)
 case atStart => exact ⟨0, 0, 0, 0, by omega, rfl, HI.out.1, HI.out.2.1, HI.out.2.2.1, HI.out.2.2.2, rfl, rfl, rfl⟩
 case round =>
  clear HI
  obtain ⟨n, m0, m1, m2, hn, rfl, hW, hN, hR, hb, hst⟩ := hrel
  generalize w1.heap.size = wb at *
  have hLr := hL.later hb
  have cW := fun i => Joins.cell_of_block hW i
  have hn' : n = 0 := by omega
  subst hn'
  have HF : Hid (rdW ws = some (kk, m0, m1, m2)) := rdW_some HK.out hk0 (by rw [HM.out]; exact HN.out) (by rw [nAt, if_neg (by have := HN.out; omega)]; exact congrArg some (Eq.symm hst.out.1)) (by rw [nAt, if_neg (by have := HN.out; omega)]; exact congrArg some (Eq.symm hst.out.2.1)) (by rw [nAt, if_neg (by have := HN.out; omega)]; exact congrArg some (Eq.symm hst.out.2.2))
  clear hst HK HN HM HS hLr hL cW hW
  have cN := fun i => Joins.cell_of_block hN i
  go_wp2_with fail
  refine (build_any kk m0 m1 m2 _).mono ?_
  rintro e w3 ⟨rfl, rfl⟩
  clear cN
  have cR := fun i => Joins.cell_of_block hR i
  have fR := fun i => Joins.unfrozen_of_block hR i
  have hltr := heap_lt hR
  go_wp2
  refine ret_entry Tryz.results288 rfl rfl rfl (heap_old (heap_old (five_stores hR _ _ _ _ _) _) _) ⟨by rw [HF.out]; rfl, ?_⟩
  exact grew (grew (below_five hb (Nat.le_refl _) _ _ _ _ _) _) _
theorem read_go1 (l : List UInt8) (ws : List (List UInt8)) (kk : Int) (w : World) (hL : Laid w) (hl : l.length ≤ 30000) (hs : spl 4 l = some ws) (hk : kindOf (ws.getD 0 []) = kk) (hk0 : 0 ≤ kk) (hk3 : kk ≤ 3) (hm : cntOf kk = 1) (hn : ws.length = 1 + 1) :
  Calls Tryz.prog 288 #[.string ⟨l.toArray⟩] w fun e w' => e = .returned (rdV (rdW ws)) ∧ Below w.heap.size w w' := by
 have hsz : ∀ i, (wd ws i).size ≤ 30000 := fun i => Nat.le_trans (wd_size ws i _ (spl_len 4 l ws hs)) hl
 have HS : Hid (∀ i, (wd ws i).size ≤ 30000) := hsz
 have HK : Hid (kindOf (ws.getD 0 []) = kk) := hk
 have HN : Hid (ws.length = 1 + 1) := hn
 have HM : Hid (cntOf kk = 1) := hm
 have hsp := fun W hW => split_any l W hW hl
 rw [hs] at hsp
 have hko := fun W hW => kindOf_any (wd ws 0) W hW
 rw [show kindOf (wd ws 0).data.toList = kk from hk] at hko
 have hct := fun W (h : Laid W) => h.cnt kk hk0 hk3
 rw [hm] at hct
 simp only [Option.getD_some, Option.isSome_some] at hsp
 rw [hn] at hsp
 clear hs hk hn hm hsz
 go_enter Tryz.func288, Tryz.ntmps288
 go_wp2_with fail
 refine (hsp _ (hL.later (grew (Below.refl _ _) _)).most).mono ?_
 rintro e w1 ⟨rfl, hb⟩
 have hR : w1.heap[w.heap.size]? = some (boxE 0 0 0 0 0) := by rw [hb.block _ (by simp)]; exact heap_new _ _
 have hb1 : Below w.heap.size w w1 := (grew (Below.refl _ _) _).trans (hb.mono (by simp))
 have hlt : w.heap.size < w1.heap.size := by have := hb.size; simp at this; omega
 clear hb hsp
 go_wp2_with fail
 refine (hko _ (hL.later (grew hb1 _))).mono ?_
 rintro e w2 ⟨rfl, rfl⟩
 have hcc := hct _ (hL.later hb1)
 have hg : 2 < w1.heap.size := World.block_lt_of_cell? _ _ hcc
 clear hct hko
 go_wp2
 clear hcc hg
 have hW0 : ((w1.alloc (o4 ws)).alloc (box3 0 0 0)).heap[w1.heap.size]? = some (o4 ws) := heap_old (heap_new _ _) _
 have hN0 : ((w1.alloc (o4 ws)).alloc (box3 0 0 0)).heap[w1.heap.size + 1]? = some (box3 0 0 0) := by
  have := heap_new (w1.alloc (o4 ws)) (box3 0 0 0)
  rwa [World.size_alloc] at this
 have hR0 : ((w1.alloc (o4 ws)).alloc (box3 0 0 0)).heap[w.heap.size]? = some (boxE 0 0 0 0 0) := heap_old (heap_old hR _) _
 have hb0 : Below w.heap.size w ((w1.alloc (o4 ws)).alloc (box3 0 0 0)) := grew (grew hb1 _) _
 have HI : Hid (_ ∧ _ ∧ _ ∧ _) := ⟨hW0, hN0, hR0, hb0⟩
 clear hW0 hN0 hR0 hb0 hR hb1
 go_loopw [37] (fun i wr => ∃ (n : Nat) (m0 m1 m2 : Int), n ≤ 1 ∧ i = .int .i64 n ∧ wr.heap[w1.heap.size]? = some (o4 ws) ∧ wr.heap[w1.heap.size + 1]? = some (box3 m0 m1 m2) ∧ wr.heap[w.heap.size]? = some (boxE 0 0 0 0 0) ∧ Below w.heap.size w wr ∧
  Hid (st ws n 0 m0 ∧ st ws n 1 m1 ∧ st ws n 2 m2)) (fun i _ => 3 - (intOf i).toNat)
 case atStart => exact ⟨0, 0, 0, 0, by omega, rfl, HI.out.1, HI.out.2.1, HI.out.2.2.1, HI.out.2.2.2, rfl, rfl, rfl⟩
 case round =>
  clear HI
  obtain ⟨n, m0, m1, m2, hn, rfl, hW, hN, hR, hb, hst⟩ := hrel
  generalize w1.heap.size = wb at *
  have hLr := hL.later hb
  have cW := fun i => Joins.cell_of_block hW i
  have hn' : n = 0 ∨ n = 1 := by omega
  rcases hn' with rfl | rfl
  · have hi : 1 < ws.length := by have := HN.out; omega
   cases hx : nAt ws 1 with
   | none =>
    have HF : Hid (rdW ws = none) := rdW_none (Or.inl hx)
    have hnu := fun W hW => number_no ws 1 W hW (HS.out _) hi hx
    clear hx hi
    go_wp2_with fail
    refine (hnu _ hLr).mono ?_
    rintro e w3 ⟨rfl, hb3⟩
    clear hnu hLr hL cW
    have hN3 := heap_below hN hb3 (heap_lt hN)
    have hR3 := heap_below hR hb3 (heap_lt hR)
    have hbb := hb.trans (hb3.mono hb.size)
    clear hN hR hW hb hb3
    have cN := fun i => Joins.cell_of_block hN3 i
    have fN := fun i => Joins.unfrozen_of_block hN3 i
    have hR4 : (w3.setCell ⟨wb + 1, 0, none⟩ (.int .i64 0)).heap[w.heap.size]? = some (boxE 0 0 0 0 0) := by rw [Below.heap_setCell _ _ _ _ (by show w.heap.size ≠ wb + 1; omega)]; exact hR3
    have cR : ∀ i, (w3.setCell ⟨wb + 1, 0, none⟩ (.int .i64 0)).cell? ⟨w.heap.size, i, none⟩ = #[Value.int .i64 0, .int .i64 0, .int .i64 0, .int .i64 0, .int .i64 0][i]? := fun i => Joins.cell_of_block hR4 i
    have fR : ∀ i, (w3.setCell ⟨wb + 1, 0, none⟩ (.int .i64 0)).frozen? ⟨w.heap.size, i, none⟩ = false := fun i => Joins.unfrozen_of_block hR4 i
    go_wp2
    refine ret_entry Tryz.results288 rfl rfl rfl (five_stores hR4 0 0 0 0 0) ⟨by rw [HF.out]; rfl, ?_⟩
    exact below_five (hbb.setCell (by show w.heap.size ≤ wb + 1; omega) _) (Nat.le_refl _) _ _ _ _ _
   | some x =>
    have hnu := fun W hW => number_yes ws 1 x W hW (HS.out _) hi hx
    have hx : Hid (nAt ws 1 = some x) := hx
    clear hi
    go_wp2_with fail
    refine (hnu _ hLr).mono ?_
    rintro e w3 ⟨rfl, hb3⟩
    clear hnu hLr hL cW
    have hN3 := heap_below hN hb3 (heap_lt hN)
    have hR3 := heap_below hR hb3 (heap_lt hR)
    have hW3 := heap_below hW hb3 (heap_lt hW)
    have hbb := hb.trans (hb3.mono hb.size)
    clear hN hR hW hb hb3
    have cN := fun i => Joins.cell_of_block hN3 i
    have fN := fun i => Joins.unfrozen_of_block hN3 i
    go_wp2
    go_roundw
    case rel => exact ⟨1, x, m1, m2, by omega, rfl, by rw [Below.heap_setCell _ _ _ _ (by show wb ≠ wb + 1; omega)]; exact hW3, by rw [Joins.block_setCell hN3]; rfl, by rw [Below.heap_setCell _ _ _ _ (by show w.heap.size ≠ wb + 1; omega)]; exact hR3,
     hbb.setCell (by show w.heap.size ≤ wb + 1; omega) _, hx.out, hst.out.2.1, hst.out.2.2⟩
    case measure => simp [intOf]
  · have HF : Hid (rdW ws = some (kk, m0, m1, m2)) := rdW_some HK.out hk0 (by rw [HM.out]; exact HN.out) (hst.out.1) (by rw [nAt, if_neg (by have := HN.out; omega)]; exact congrArg some (Eq.symm hst.out.2.1)) (by rw [nAt, if_neg (by have := HN.out; omega)]; exact congrArg some (Eq.symm hst.out.2.2))
   clear hst HK HN HM HS hLr hL cW hW
   have cN := fun i => Joins.cell_of_block hN i
   go_wp2_with fail
   refine (build_any kk m0 m1 m2 _).mono ?_
   rintro e w3 ⟨rfl, rfl⟩
   clear cN
   have cR := fun i => Joins.cell_of_block hR i
   have fR := fun i => Joins.unfrozen_of_block hR i
   have hltr := heap_lt hR
   go_wp2
   refine ret_entry Tryz.results288 rfl rfl rfl (heap_old (heap_old (five_stores hR _ _ _ _ _) _) _) ⟨by rw [HF.out]; rfl, ?_⟩
   exact grew (grew (below_five hb (Nat.le_refl _) _ _ _ _ _) _) _
theorem read_go3 (l : List UInt8) (ws : List (List UInt8)) (kk : Int) (w : World) (hL : Laid w) (hl : l.length ≤ 30000) (hs : spl 4 l = some ws) (hk : kindOf (ws.getD 0 []) = kk) (hk0 : 0 ≤ kk) (hk3 : kk ≤ 3) (hm : cntOf kk = 3) (hn : ws.length = 1 + 3) :
  Calls Tryz.prog 288 #[.string ⟨l.toArray⟩] w fun e w' => e = .returned (rdV (rdW ws)) ∧ Below w.heap.size w w' := by
 have hsz : ∀ i, (wd ws i).size ≤ 30000 := fun i => Nat.le_trans (wd_size ws i _ (spl_len 4 l ws hs)) hl
 have HS : Hid (∀ i, (wd ws i).size ≤ 30000) := hsz
 have HK : Hid (kindOf (ws.getD 0 []) = kk) := hk
 have HN : Hid (ws.length = 1 + 3) := hn
 have HM : Hid (cntOf kk = 3) := hm
 have hsp := fun W hW => split_any l W hW hl
 rw [hs] at hsp
 have hko := fun W hW => kindOf_any (wd ws 0) W hW
 rw [show kindOf (wd ws 0).data.toList = kk from hk] at hko
 have hct := fun W (h : Laid W) => h.cnt kk hk0 hk3
 rw [hm] at hct
 simp only [Option.getD_some, Option.isSome_some] at hsp
 rw [hn] at hsp
 clear hs hk hn hm hsz
 go_enter Tryz.func288, Tryz.ntmps288
 go_wp2_with fail
 refine (hsp _ (hL.later (grew (Below.refl _ _) _)).most).mono ?_
 rintro e w1 ⟨rfl, hb⟩
 have hR : w1.heap[w.heap.size]? = some (boxE 0 0 0 0 0) := by rw [hb.block _ (by simp)]; exact heap_new _ _
 have hb1 : Below w.heap.size w w1 := (grew (Below.refl _ _) _).trans (hb.mono (by simp))
 have hlt : w.heap.size < w1.heap.size := by have := hb.size; simp at this; omega
 clear hb hsp
 go_wp2_with fail
 refine (hko _ (hL.later (grew hb1 _))).mono ?_
 rintro e w2 ⟨rfl, rfl⟩
 have hcc := hct _ (hL.later hb1)
 have hg : 2 < w1.heap.size := World.block_lt_of_cell? _ _ hcc
 clear hct hko
 go_wp2
 clear hcc hg
 have hW0 : ((w1.alloc (o4 ws)).alloc (box3 0 0 0)).heap[w1.heap.size]? = some (o4 ws) := heap_old (heap_new _ _) _
 have hN0 : ((w1.alloc (o4 ws)).alloc (box3 0 0 0)).heap[w1.heap.size + 1]? = some (box3 0 0 0) := by
  have := heap_new (w1.alloc (o4 ws)) (box3 0 0 0)
  rwa [World.size_alloc] at this
 have hR0 : ((w1.alloc (o4 ws)).alloc (box3 0 0 0)).heap[w.heap.size]? = some (boxE 0 0 0 0 0) := heap_old (heap_old hR _) _
 have hb0 : Below w.heap.size w ((w1.alloc (o4 ws)).alloc (box3 0 0 0)) := grew (grew hb1 _) _
 have HI : Hid (_ ∧ _ ∧ _ ∧ _) := ⟨hW0, hN0, hR0, hb0⟩
 clear hW0 hN0 hR0 hb0 hR hb1
 go_loopw [37] (fun i wr => ∃ (n : Nat) (m0 m1 m2 : Int), n ≤ 3 ∧ i = .int .i64 n ∧ wr.heap[w1.heap.size]? = some (o4 ws) ∧ wr.heap[w1.heap.size + 1]? = some (box3 m0 m1 m2) ∧ wr.heap[w.heap.size]? = some (boxE 0 0 0 0 0) ∧ Below w.heap.size w wr ∧
  Hid (st ws n 0 m0 ∧ st ws n 1 m1 ∧ st ws n 2 m2)) (fun i _ => 3 - (intOf i).toNat)
 case atStart => exact ⟨0, 0, 0, 0, by omega, rfl, HI.out.1, HI.out.2.1, HI.out.2.2.1, HI.out.2.2.2, rfl, rfl, rfl⟩
 case round =>
  clear HI
  obtain ⟨n, m0, m1, m2, hn, rfl, hW, hN, hR, hb, hst⟩ := hrel
  generalize w1.heap.size = wb at *
  have hLr := hL.later hb
  have cW := fun i => Joins.cell_of_block hW i
  have hn' : n = 0 ∨ n = 1 ∨ n = 2 ∨ n = 3 := by omega
  rcases hn' with rfl | rfl | rfl | rfl
  · have hi : 1 < ws.length := by have := HN.out; omega
   cases hx : nAt ws 1 with
   | none =>
    have HF : Hid (rdW ws = none) := rdW_none (Or.inl hx)
    have hnu := fun W hW => number_no ws 1 W hW (HS.out _) hi hx
    clear hx hi
    go_wp2_with fail
    refine (hnu _ hLr).mono ?_
    rintro e w3 ⟨rfl, hb3⟩
    clear hnu hLr hL cW
    have hN3 := heap_below hN hb3 (heap_lt hN)
    have hR3 := heap_below hR hb3 (heap_lt hR)
    have hbb := hb.trans (hb3.mono hb.size)
    clear hN hR hW hb hb3
    have cN := fun i => Joins.cell_of_block hN3 i
    have fN := fun i => Joins.unfrozen_of_block hN3 i
    have hR4 : (w3.setCell ⟨wb + 1, 0, none⟩ (.int .i64 0)).heap[w.heap.size]? = some (boxE 0 0 0 0 0) := by rw [Below.heap_setCell _ _ _ _ (by show w.heap.size ≠ wb + 1; omega)]; exact hR3
    have cR : ∀ i, (w3.setCell ⟨wb + 1, 0, none⟩ (.int .i64 0)).cell? ⟨w.heap.size, i, none⟩ = #[Value.int .i64 0, .int .i64 0, .int .i64 0, .int .i64 0, .int .i64 0][i]? := fun i => Joins.cell_of_block hR4 i
    have fR : ∀ i, (w3.setCell ⟨wb + 1, 0, none⟩ (.int .i64 0)).frozen? ⟨w.heap.size, i, none⟩ = false := fun i => Joins.unfrozen_of_block hR4 i
    go_wp2
    refine ret_entry Tryz.results288 rfl rfl rfl (five_stores hR4 0 0 0 0 0) ⟨by rw [HF.out]; rfl, ?_⟩
    exact below_five (hbb.setCell (by show w.heap.size ≤ wb + 1; omega) _) (Nat.le_refl _) _ _ _ _ _
   | some x =>
    have hnu := fun W hW => number_yes ws 1 x W hW (HS.out _) hi hx
    have hx : Hid (nAt ws 1 = some x) := hx
    clear hi
    go_wp2_with fail
    refine (hnu _ hLr).mono ?_
    rintro e w3 ⟨rfl, hb3⟩
    clear hnu hLr hL cW
    have hN3 := heap_below hN hb3 (heap_lt hN)
    have hR3 := heap_below hR hb3 (heap_lt hR)
    have hW3 := heap_below hW hb3 (heap_lt hW)
    have hbb := hb.trans (hb3.mono hb.size)
    clear hN hR hW hb hb3
    have cN := fun i => Joins.cell_of_block hN3 i
    have fN := fun i => Joins.unfrozen_of_block hN3 i
    go_wp2
    go_roundw
    case rel => exact ⟨1, x, m1, m2, by omega, rfl, by rw [Below.heap_setCell _ _ _ _ (by show wb ≠ wb + 1; omega)]; exact hW3, by rw [Joins.block_setCell hN3]; rfl, by rw [Below.heap_setCell _ _ _ _ (by show w.heap.size ≠ wb + 1; omega)]; exact hR3,
     hbb.setCell (by show w.heap.size ≤ wb + 1; omega) _, hx.out, hst.out.2.1, hst.out.2.2⟩
    case measure => simp [intOf]
  · have hi : 2 < ws.length := by have := HN.out; omega
   cases hx : nAt ws 2 with
   | none =>
    have HF : Hid (rdW ws = none) := rdW_none (Or.inr (Or.inl hx))
    have hnu := fun W hW => number_no ws 2 W hW (HS.out _) hi hx
    clear hx hi
    go_wp2_with fail
    refine (hnu _ hLr).mono ?_
    rintro e w3 ⟨rfl, hb3⟩
    clear hnu hLr hL cW
    have hN3 := heap_below hN hb3 (heap_lt hN)
    have hR3 := heap_below hR hb3 (heap_lt hR)
    have hbb := hb.trans (hb3.mono hb.size)
    clear hN hR hW hb hb3
    have cN := fun i => Joins.cell_of_block hN3 i
    have fN := fun i => Joins.unfrozen_of_block hN3 i
    have hR4 : (w3.setCell ⟨wb + 1, 1, none⟩ (.int .i64 0)).heap[w.heap.size]? = some (boxE 0 0 0 0 0) := by rw [Below.heap_setCell _ _ _ _ (by show w.heap.size ≠ wb + 1; omega)]; exact hR3
    have cR : ∀ i, (w3.setCell ⟨wb + 1, 1, none⟩ (.int .i64 0)).cell? ⟨w.heap.size, i, none⟩ = #[Value.int .i64 0, .int .i64 0, .int .i64 0, .int .i64 0, .int .i64 0][i]? := fun i => Joins.cell_of_block hR4 i
    have fR : ∀ i, (w3.setCell ⟨wb + 1, 1, none⟩ (.int .i64 0)).frozen? ⟨w.heap.size, i, none⟩ = false := fun i => Joins.unfrozen_of_block hR4 i
    go_wp2
    refine ret_entry Tryz.results288 rfl rfl rfl (five_stores hR4 0 0 0 0 0) ⟨by rw [HF.out]; rfl, ?_⟩
    exact below_five (hbb.setCell (by show w.heap.size ≤ wb + 1; omega) _) (Nat.le_refl _) _ _ _ _ _
   | some x =>
    have hnu := fun W hW => number_yes ws 2 x W hW (HS.out _) hi hx
    have hx : Hid (nAt ws 2 = some x) := hx
    clear hi
    go_wp2_with fail
    refine (hnu _ hLr).mono ?_
    rintro e w3 ⟨rfl, hb3⟩
    clear hnu hLr hL cW
    have hN3 := heap_below hN hb3 (heap_lt hN)
    have hR3 := heap_below hR hb3 (heap_lt hR)
    have hW3 := heap_below hW hb3 (heap_lt hW)
    have hbb := hb.trans (hb3.mono hb.size)
    clear hN hR hW hb hb3
    have cN := fun i => Joins.cell_of_block hN3 i
    have fN := fun i => Joins.unfrozen_of_block hN3 i
    go_wp2
    go_roundw
    case rel => exact ⟨2, m0, x, m2, by omega, rfl, by rw [Below.heap_setCell _ _ _ _ (by show wb ≠ wb + 1; omega)]; exact hW3, by rw [Joins.block_setCell hN3]; rfl, by rw [Below.heap_setCell _ _ _ _ (by show w.heap.size ≠ wb + 1; omega)]; exact hR3,
     hbb.setCell (by show w.heap.size ≤ wb + 1; omega) _, hst.out.1, hx.out, hst.out.2.2⟩
    case measure => simp [intOf]
  · have hi : 3 < ws.length := by have := HN.out; omega
   cases hx : nAt ws 3 with
   | none =>
    have HF : Hid (rdW ws = none) := rdW_none (Or.inr (Or.inr hx))
    have hnu := fun W hW => number_no ws 3 W hW (HS.out _) hi hx
    clear hx hi
    go_wp2_with fail
    refine (hnu _ hLr).mono ?_
    rintro e w3 ⟨rfl, hb3⟩
    clear hnu hLr hL cW
    have hN3 := heap_below hN hb3 (heap_lt hN)
    have hR3 := heap_below hR hb3 (heap_lt hR)
    have hbb := hb.trans (hb3.mono hb.size)
    clear hN hR hW hb hb3
    have cN := fun i => Joins.cell_of_block hN3 i
    have fN := fun i => Joins.unfrozen_of_block hN3 i
    have hR4 : (w3.setCell ⟨wb + 1, 2, none⟩ (.int .i64 0)).heap[w.heap.size]? = some (boxE 0 0 0 0 0) := by rw [Below.heap_setCell _ _ _ _ (by show w.heap.size ≠ wb + 1; omega)]; exact hR3
    have cR : ∀ i, (w3.setCell ⟨wb + 1, 2, none⟩ (.int .i64 0)).cell? ⟨w.heap.size, i, none⟩ = #[Value.int .i64 0, .int .i64 0, .int .i64 0, .int .i64 0, .int .i64 0][i]? := fun i => Joins.cell_of_block hR4 i
    have fR : ∀ i, (w3.setCell ⟨wb + 1, 2, none⟩ (.int .i64 0)).frozen? ⟨w.heap.size, i, none⟩ = false := fun i => Joins.unfrozen_of_block hR4 i
    go_wp2
    refine ret_entry Tryz.results288 rfl rfl rfl (five_stores hR4 0 0 0 0 0) ⟨by rw [HF.out]; rfl, ?_⟩
    exact below_five (hbb.setCell (by show w.heap.size ≤ wb + 1; omega) _) (Nat.le_refl _) _ _ _ _ _
   | some x =>
    have hnu := fun W hW => number_yes ws 3 x W hW (HS.out _) hi hx
    have hx : Hid (nAt ws 3 = some x) := hx
    clear hi
    go_wp2_with fail
    refine (hnu _ hLr).mono ?_
    rintro e w3 ⟨rfl, hb3⟩
    clear hnu hLr hL cW
    have hN3 := heap_below hN hb3 (heap_lt hN)
    have hR3 := heap_below hR hb3 (heap_lt hR)
    have hW3 := heap_below hW hb3 (heap_lt hW)
    have hbb := hb.trans (hb3.mono hb.size)
    clear hN hR hW hb hb3
    have cN := fun i => Joins.cell_of_block hN3 i
    have fN := fun i => Joins.unfrozen_of_block hN3 i
    go_wp2
    go_roundw
    case rel => exact ⟨3, m0, m1, x, by omega, rfl, by rw [Below.heap_setCell _ _ _ _ (by show wb ≠ wb + 1; omega)]; exact hW3, by rw [Joins.block_setCell hN3]; rfl, by rw [Below.heap_setCell _ _ _ _ (by show w.heap.size ≠ wb + 1; omega)]; exact hR3,
     hbb.setCell (by show w.heap.size ≤ wb + 1; omega) _, hst.out.1, hst.out.2.1, hx.out⟩
    case measure => simp [intOf]
  · have HF : Hid (rdW ws = some (kk, m0, m1, m2)) := rdW_some HK.out hk0 (by rw [HM.out]; exact HN.out) (hst.out.1) (hst.out.2.1) (hst.out.2.2)
   clear hst HK HN HM HS hLr hL cW hW
   have cN := fun i => Joins.cell_of_block hN i
   go_wp2_with fail
   refine (build_any kk m0 m1 m2 _).mono ?_
   rintro e w3 ⟨rfl, rfl⟩
   clear cN
   have cR := fun i => Joins.cell_of_block hR i
   have fR := fun i => Joins.unfrozen_of_block hR i
   have hltr := heap_lt hR
   go_wp2
   refine ret_entry Tryz.results288 rfl rfl rfl (heap_old (heap_old (five_stores hR _ _ _ _ _) _) _) ⟨by rw [HF.out]; rfl, ?_⟩
   exact grew (grew (below_five hb (Nat.le_refl _) _ _ _ _ _) _) _
theorem read_any (l : List UInt8) (w : World) (hL : Laid w) (hl : l.length ≤ 30000) :
  Calls Tryz.prog 288 #[.string ⟨l.toArray⟩] w fun e w' => e = .returned (rdV (rd l)) ∧ Below w.heap.size w w' := by
 cases hs : spl 4 l with
 | none =>
  have hr : rd l = none := by rw [rd, hs]; rfl
  rw [hr]
  exact read_none l w hL hl hs
 | some ws =>
  have hr : rd l = rdW ws := by rw [rd, hs]; rfl
  rw [hr]
  have hkr := kindOf_range (ws.getD 0 [])
  have hc := spl_count 4 l ws hs
  have hcn : ∀ k : Int, cntOf k = 0 ∨ cntOf k = 1 ∨ cntOf k = 3 := by
   intro k; unfold cntOf
   split
   · simp
   split
   · simp
   split <;> simp
  by_cases hbad : kindOf (ws.getD 0 []) < 0 ∨ ws.length ≠ 1 + cntOf (kindOf (ws.getD 0 []))
  · have hn : rdW ws = none := by rw [rdW, if_pos hbad]
   rw [hn]
   refine read_bad l ws _ _ _ w hL hl hs rfl rfl rfl (by omega) (by have := hcn (kindOf (ws.getD 0 [])); omega) ?_
   by_cases h0 : kindOf (ws.getD 0 []) < 0
   · exact Or.inl h0
   · refine Or.inr ⟨by omega, by omega, ?_⟩
    have := hbad.resolve_left h0
    rw [bne_iff_ne]; omega
  · have hk0 : 0 ≤ kindOf (ws.getD 0 []) := by omega
   have hk3 : kindOf (ws.getD 0 []) ≤ 3 := by omega
   have hn : ws.length = 1 + cntOf (kindOf (ws.getD 0 [])) := by omega
   rcases hcn (kindOf (ws.getD 0 [])) with h | h | h
   · exact read_go0 l ws _ w hL hl hs rfl hk0 hk3 h (by omega)
   · exact read_go1 l ws _ w hL hl hs rfl hk0 hk3 h (by omega)
   · exact read_go3 l ws _ w hL hl hs rfl hk0 hk3 h (by omega)
def rdEn (r : Int × Int × Int × Int) : En := ⟨r.1, bJob r.1 r.2.1, bEvery r.1 r.2.2.1, bTime r.1 r.2.2.1 r.2.2.2, bClient r.1 r.2.2.2⟩
def prs (l : List UInt8) : En × Int :=
 if 30000 < l.length then (En.zero, 2) else match rd l with
  | none => (En.zero, 1)
  | some r => if (rdEn r).chk = 0 then (rdEn r, 0) else (En.zero, (rdEn r).chk)
theorem parse_long (s : ByteArray) (w : World) (hs : 30000 < (s.size : Int)) :
  Calls Tryz.prog 270 #[.string s] w fun e w' => e = .returned (.tuple #[z5, .int .i64 2]) ∧ Below w.heap.size w w' := by
 go_enter Tryz.func270, Tryz.ntmps270
 go_wp2
 exact ret_entry Tryz.results270 rfl rfl rfl (heap_new _ _) ⟨rfl, grew (Below.refl _ _) _⟩
theorem parse_none (l : List UInt8) (w : World) (hL : Laid w) (hl : l.length ≤ 30000) (hr : rd l = none) :
  Calls Tryz.prog 270 #[.string ⟨l.toArray⟩] w fun e w' => e = .returned (.tuple #[z5, .int .i64 1]) ∧ Below w.heap.size w w' := by
 have hrd := fun W hW => read_any l W hW hl
 rw [hr] at hrd
 have hle : (l.length : Int) ≤ 30000 := by omega
 clear hr hl
 go_enter Tryz.func270, Tryz.ntmps270
 go_wp2_with fail
 refine (hrd _ (hL.later (grew (Below.refl _ _) _))).mono ?_
 rintro e w1 ⟨rfl, hb⟩
 have hR : w1.heap[w.heap.size]? = some (boxE 0 0 0 0 0) := by rw [hb.block _ (by simp)]; exact heap_new _ _
 have hb1 : Below w.heap.size w w1 := (grew (Below.refl _ _) _).trans (hb.mono (by simp))
 have hlt : w.heap.size < w1.heap.size := by have := hb.size; simp at this; omega
 clear hb hrd
 have c0 := fun i => Joins.cell_of_block hR i
 have c1 := fun i => Joins.unfrozen_of_block hR i
 go_wp2
 refine ret_entry Tryz.results270 rfl rfl rfl (heap_old (five_stores hR 0 0 0 0 0) _) ⟨rfl, ?_⟩
 exact grew (below_five hb1 (Nat.le_refl _) _ _ _ _ _) _
theorem parse_good (l : List UInt8) (k j v t c : Int) (w : World) (hL : Laid w) (hl : l.length ≤ 30000) (hr : rdV (rd l) = .tuple #[ev k j v t c, .bool true]) (hc : chk k j v t c = 0) :
  Calls Tryz.prog 270 #[.string ⟨l.toArray⟩] w fun e w' => e = .returned (.tuple #[ev k j v t c, .int .i64 0]) ∧ Below w.heap.size w w' := by
 have hrd := fun W hW => read_any l W hW hl
 rw [hr] at hrd
 have hch := fun W => check_any k j v t c W
 rw [hc] at hch
 have hle : (l.length : Int) ≤ 30000 := by omega
 clear hr hl hc
 go_enter Tryz.func270, Tryz.ntmps270
 go_wp2_with fail
 refine (hrd _ (hL.later (grew (Below.refl _ _) _))).mono ?_
 rintro e w1 ⟨rfl, hb⟩
 have hR : w1.heap[w.heap.size]? = some (boxE 0 0 0 0 0) := by rw [hb.block _ (by simp)]; exact heap_new _ _
 have hb1 : Below w.heap.size w w1 := (grew (Below.refl _ _) _).trans (hb.mono (by simp))
 have hlt : w.heap.size < w1.heap.size := by have := hb.size; simp at this; omega
 clear hb hrd
 go_wp2_with fail
 refine (hch _).mono ?_
 rintro e w2 ⟨rfl, hb2⟩
 clear hch
 have hE2 : w2.heap[w1.heap.size]? = some (boxE k j v t c) := by rw [hb2.block _ (by simp)]; exact heap_new _ _
 have hR2 : w2.heap[w.heap.size]? = some (boxE 0 0 0 0 0) := by rw [hb2.block _ (by simp; omega)]; exact heap_old hR _
 have hbb : Below w.heap.size w w2 := (grew hb1 _).trans (hb2.mono (by simp; omega))
 generalize w1.heap.size = eb at *
 clear hb2 hb1 hR
 have c0 := fun i => Joins.cell_of_block hR2 i
 have c1 := fun i => Joins.unfrozen_of_block hR2 i
 have c2 := fun i => Joins.cell_of_block hE2 i
 go_wp2
 exact ret_entry Tryz.results270 rfl rfl rfl (five_stores hR2 k j v t c) ⟨rfl, below_five hbb (Nat.le_refl _) _ _ _ _ _⟩
theorem parse_bad (l : List UInt8) (k j v t c : Int) (n : Int) (w : World) (hL : Laid w) (hl : l.length ≤ 30000) (hr : rdV (rd l) = .tuple #[ev k j v t c, .bool true]) (hc : chk k j v t c = n) (hz : (n != 0) = true) :
  Calls Tryz.prog 270 #[.string ⟨l.toArray⟩] w fun e w' => e = .returned (.tuple #[z5, .int .i64 n]) ∧ Below w.heap.size w w' := by
 have hrd := fun W hW => read_any l W hW hl
 rw [hr] at hrd
 have hch := fun W => check_any k j v t c W
 rw [hc] at hch
 have hle : (l.length : Int) ≤ 30000 := by omega
 clear hr hl hc
 go_enter Tryz.func270, Tryz.ntmps270
 go_wp2_with fail
 refine (hrd _ (hL.later (grew (Below.refl _ _) _))).mono ?_
 rintro e w1 ⟨rfl, hb⟩
 have hR : w1.heap[w.heap.size]? = some (boxE 0 0 0 0 0) := by rw [hb.block _ (by simp)]; exact heap_new _ _
 have hb1 : Below w.heap.size w w1 := (grew (Below.refl _ _) _).trans (hb.mono (by simp))
 have hlt : w.heap.size < w1.heap.size := by have := hb.size; simp at this; omega
 clear hb hrd
 go_wp2_with fail
 refine (hch _).mono ?_
 rintro e w2 ⟨rfl, hb2⟩
 clear hch
 have hE2 : w2.heap[w1.heap.size]? = some (boxE k j v t c) := by rw [hb2.block _ (by simp)]; exact heap_new _ _
 have hR2 : w2.heap[w.heap.size]? = some (boxE 0 0 0 0 0) := by rw [hb2.block _ (by simp; omega)]; exact heap_old hR _
 have hbb : Below w.heap.size w w2 := (grew hb1 _).trans (hb2.mono (by simp; omega))
 generalize w1.heap.size = eb at *
 clear hb2 hb1 hR
 have c0 := fun i => Joins.cell_of_block hR2 i
 have c1 := fun i => Joins.unfrozen_of_block hR2 i
 have c2 := fun i => Joins.cell_of_block hE2 i
 go_wp2
 exact ret_entry Tryz.results270 rfl rfl rfl (five_stores hR2 0 0 0 0 0) ⟨rfl, below_five hbb (Nat.le_refl _) _ _ _ _ _⟩
theorem parse_any (s : ByteArray) (w : World) (hL : Laid w) :
  Calls Tryz.prog 270 #[.string s] w fun e w' => e = .returned (.tuple #[(prs s.data.toList).1.val, .int .i64 (prs s.data.toList).2]) ∧ Below w.heap.size w w' := by
 by_cases hs : 30000 < s.data.toList.length
 · have hp : prs s.data.toList = (En.zero, 2) := if_pos hs
  rw [hp]
  exact parse_long s w (by rw [Lib.size_eq]; omega)
 · obtain ⟨⟨l⟩⟩ := s
  have hs' : ¬ 30000 < l.length := hs
  show Calls Tryz.prog 270 #[.string ⟨l.toArray⟩] w fun e w' => e = .returned (.tuple #[(prs l).1.val, .int .i64 (prs l).2]) ∧ Below w.heap.size w w'
  cases hr : rd l with
  | none =>
   have hp : prs l = (En.zero, 1) := by rw [prs, if_neg hs', hr]
   rw [hp]
   exact parse_none l w hL (by omega) hr
  | some r =>
   have hp : prs l = if (rdEn r).chk = 0 then (rdEn r, 0) else (En.zero, (rdEn r).chk) := by rw [prs, if_neg hs', hr]
   rw [hp]
   by_cases h0 : (rdEn r).chk = 0
   · rw [if_pos h0]
    exact parse_good l (rdEn r).k (rdEn r).j (rdEn r).v (rdEn r).t (rdEn r).c w hL (by omega) (by rw [hr]; rfl) h0
   · rw [if_neg h0]
    exact parse_bad l (rdEn r).k (rdEn r).j (rdEn r).v (rdEn r).t (rdEn r).c (rdEn r).chk w hL (by omega) (by rw [hr]; rfl) rfl (by rw [bne_iff_ne]; exact h0)
open Go.RowKit

/-! ### words -/
theorem occAt_sp (a b : List UInt8) : Lib.occAt (a ++ 32 :: b) [32] a.length = true := by
 unfold Lib.occAt
 rw [List.drop_left]
 simp
theorem occAt_no (l : List UInt8) (i : Nat) (h : ∀ x, l[i]? = some x → x ≠ 32) : Lib.occAt l [32] i = false := by
 unfold Lib.occAt
 rcases hd : l.drop i with _ | ⟨x, r⟩
 · rfl
 · have hx : l[i]? = some x := by
   have := List.getElem?_drop (xs := l) (i := i) (j := 0)
   rw [hd] at this
   simpa using this.symm
  have hne : ((32 : UInt8) == x) = false := by
   rw [beq_eq_false_iff_ne]; exact fun e => h x hx e.symm
  show (((32 : UInt8) == x) && ([] : List UInt8).isPrefixOf r) = false
  rw [hne]; rfl
theorem cut_sp (a b : List UInt8) (h : (32 : UInt8) ∉ a) : Lib.cut (a ++ 32 :: b) [32] = (a, b, true) := by
 have hi : Lib.index (a ++ 32 :: b) [32] = a.length := Lib.index_first (by simp) (occAt_sp a b) (fun j hj => occAt_no _ _ (fun x hx => by
  rw [List.getElem?_append_left hj] at hx
  exact fun e => h (e ▸ List.mem_of_getElem? hx)))
 unfold Lib.cut
 rw [hi, if_pos (by omega)]
 simp
theorem cut_none (a : List UInt8) (h : (32 : UInt8) ∉ a) : Lib.cut a [32] = (a, [], false) := by
 have hi : Lib.index a [32] = -1 := Lib.index_none (fun j _ => occAt_no _ _ (fun x hx e => h (e ▸ List.mem_of_getElem? hx)))
 unfold Lib.cut
 rw [hi, if_neg (by omega)]
theorem cut_back (l a b : List UInt8) (h : Lib.cut l [32] = (a, b, true)) : l = a ++ 32 :: b := by
 unfold Lib.cut at h
 rcases Lib.index_spec l [32] with ⟨h1, _⟩ | ⟨i, h1, h2, h3, _⟩
 · rw [h1, if_neg (by omega)] at h; cases h
 · rw [h1, if_pos (by omega)] at h
  simp only [Int.toNat_natCast, List.length_cons, List.length_nil, Prod.mk.injEq] at h
  obtain ⟨rfl, rfl, _⟩ := h
  unfold Lib.occAt at h3
  rcases hd : l.drop i with _ | ⟨x, r⟩
  · rw [hd] at h3; cases h3
  · rw [hd] at h3
   simp at h3
   subst h3
   have : l.drop (i + 1) = r := by rw [← List.drop_drop, hd]; rfl
   rw [show i + (0 + 1) = i + 1 from rfl, this, ← hd, List.take_append_drop]
theorem cut_whole (l a b : List UInt8) (h : Lib.cut l [32] = (a, b, false)) : a = l := by
 unfold Lib.cut at h
 split at h
 · cases h
 · injection h with h _; exact h.symm
theorem spl_join : ∀ (f : Nat) (ws : List (List UInt8)), ws ≠ [] → ws.length ≤ f → (∀ x, x ∈ ws → (32 : UInt8) ∉ x) → spl f (Lib.join ws [32]) = some ws
 | 0, ws, h, hl, _ => by cases ws with
  | nil => exact absurd rfl h
  | cons _ _ => simp at hl
 | f + 1, [], h, _, _ => absurd rfl h
 | f + 1, [x], _, _, hn => by
  rw [Lib.join_one]
  rw [spl_no f (cut_none x (hn x (by simp)))]
 | f + 1, x :: y :: r, _, hl, hn => by
  have hj : Lib.join (x :: y :: r) [32] = x ++ 32 :: Lib.join (y :: r) [32] := by
   rw [Lib.join_cons, Lib.join_cons]
   simp [Lib.joinTail]
  rw [hj, spl_yes f (cut_sp x _ (hn x (by simp))), spl_join f (y :: r) (by simp) (by simp at hl ⊢; omega) (fun z hz => hn z (List.mem_cons_of_mem _ hz))]
  rfl
theorem join_spl : ∀ (f : Nat) (l : List UInt8) (ws : List (List UInt8)), spl f l = some ws → Lib.join ws [32] = l
 | 0, _, _, h => by cases h
 | f + 1, l, ws, h => by
  rcases hc : Lib.cut l [32] with ⟨a, b, g⟩
  cases g with
  | true =>
   rw [spl_yes f hc] at h
   obtain ⟨ws', h', rfl⟩ := Option.map_eq_some_iff.1 h
   have ih := join_spl f b ws' h'
   have hne := (spl_count f b ws' h').1
   cases ws' with
   | nil => simp at hne
   | cons y r =>
    have hj : Lib.join (a :: y :: r) [32] = a ++ 32 :: Lib.join (y :: r) [32] := by
     rw [Lib.join_cons, Lib.join_cons]
     simp [Lib.joinTail]
    rw [hj, ih, cut_back l a b hc]
  | false =>
   rw [spl_no f hc] at h
   cases h
   rw [Lib.join_one]
   exact cut_whole l a b hc
/-! ### numerals -/
theorem dec_mem (u : Nat) : ∀ x, x ∈ Lib.decDigits u → 48 ≤ x.toNat ∧ x.toNat ≤ 57 := by
 induction u using Nat.strongRecOn with
 | _ u ih =>
  intro x hx
  rw [Lib.decDigits] at hx
  split at hx
  · rename_i h
   rw [List.mem_singleton] at hx
   subst hx
   simp only [UInt8.toNat_ofNat']
   omega
  · rename_i h
   rcases List.mem_append.1 hx with hx | hx
   · exact ih (u / 10) (by omega) x hx
   · rw [List.mem_singleton] at hx
    subst hx
    simp only [UInt8.toNat_ofNat']
    omega
theorem dec_ne (u : Nat) : Lib.decDigits u ≠ [] := by
 rw [Lib.decDigits]
 split <;> simp
theorem parse_snoc (c : UInt8) : ∀ (l : List UInt8) (acc a : Nat), Lib.parseUint10 acc l = .ok a → Lib.parseUint10 acc (l ++ [c]) = Lib.parseUint10 a [c]
 | [], acc, a, h => by
  simp only [Lib.parseUint10] at h
  injection h with h
  subst h; rfl
 | x :: r, acc, a, h => by
  rw [List.cons_append]
  rw [Lib.parseUint10] at h ⊢
  split at h
  · rename_i hx
   rw [if_pos hx]
   split at h
   · cases h
   · rename_i h1
    rw [if_neg h1]
    split at h
    · cases h
    · rename_i h2
     rw [if_neg h2]
     exact parse_snoc c r _ a h
  · cases h
theorem parse_dec (u : Nat) : u < 1000000000000000000 → Lib.parseUint10 0 (Lib.decDigits u) = .ok u := by
 induction u using Nat.strongRecOn with
 | _ u ih =>
  intro hu
  rw [Lib.decDigits]
  split
  · rename_i h
   have e : (UInt8.ofNat (48 + u)).toNat = 48 + u := by simp only [UInt8.toNat_ofNat']; omega
   simp only [Lib.parseUint10, e]
   rw [if_pos (by omega), if_neg (by omega), if_neg (by omega)]
   congr 1; omega
  · rename_i h
   have e : (UInt8.ofNat (48 + u % 10)).toNat = 48 + u % 10 := by simp only [UInt8.toNat_ofNat']; omega
   rw [parse_snoc _ _ _ _ (ih (u / 10) (by omega) (by omega))]
   simp only [Lib.parseUint10, e]
   rw [if_pos (by omega), if_neg (by omega), if_neg (by omega)]
   congr 1; omega
theorem atoi_dec (u : Nat) (hu : u < 1000000000000000000) : Lib.atoiAll (Lib.decDigits u) = .ok (u : Int) := by
 have hp := parse_dec u hu
 rcases hd : Lib.decDigits u with _ | ⟨c, r⟩
 · exact absurd hd (dec_ne u)
 · have hc := dec_mem u c (by rw [hd]; simp)
  rw [Lib.atoiAll_plain c r (by omega) (by omega)]
  rw [← hd]
  unfold Lib.parseMag
  rw [if_neg (dec_ne u), hp]
  show Lib.signless (.ok u) = _
  simp only [Lib.signless]
  rw [if_neg (by omega)]
theorem numOf_itoa (x : Int) (h0 : 0 ≤ x) (h1 : x < 1000000000000000000) : numOf (Lib.itoa x) = some x := by
 obtain ⟨u, rfl⟩ := Int.eq_ofNat_of_zero_le h0
 have hi : Lib.itoa (u : Int) = Lib.decDigits u := by unfold Lib.itoa; rw [if_neg (by omega)]; simp
 have ha := atoi_dec u (by omega)
 unfold numOf
 rw [hi, ha]
 simp only [hi, if_true]
theorem itoa_no_sp (x : Int) (h0 : 0 ≤ x) : (32 : UInt8) ∉ Lib.itoa x := by
 unfold Lib.itoa
 rw [if_neg (by omega)]
 intro h
 have := dec_mem _ _ h
 have e : (32 : UInt8).toNat = 32 := rfl
 omega
theorem itoa_numOf (l : List UInt8) (x : Int) (h : numOf l = some x) : Lib.itoa x = l := by
 unfold numOf at h
 split at h
 · split at h
  · rename_i hi; injection h with h; subst h; exact hi
  · cases h
 · cases h
def nameL (k : Int) : List UInt8 := if k = 0 then [106, 117, 110, 107] else if k = 1 then [112, 117, 116] else if k = 2 then [100, 114, 111, 112] else [114, 105, 110, 103]
def En.n0 (e : En) : Int := num0 e.k e.j
def En.n1 (e : En) : Int := num1 e.k e.v e.t
def En.n2 (e : En) : Int := num2 e.k e.t e.c
def En.words (e : En) : List (List UInt8) := [nameL e.k, Lib.itoa e.n0, Lib.itoa e.n1, Lib.itoa e.n2].take (1 + cntOf e.k)
def En.txt (e : En) : List UInt8 := Lib.join e.words [32]
def En.ptx (e : En) : List UInt8 := if e.chk = 0 then e.txt else []
theorem chk_zero {e : En} (h : e.chk = 0) : 0 ≤ e.k ∧ e.k ≤ 3 ∧ inR e.j e.v e.t e.c = true ∧ lost e.k e.j e.v e.t e.c = false ∧ ¬ (e.k = 1 ∧ e.v = 0) := by
 unfold En.chk chk at h
 split at h
 · cases h
 rename_i h1
 split at h
 · cases h
 rename_i h2
 split at h
 · cases h
 rename_i h3
 split at h
 · cases h
 rename_i h4
 exact ⟨by omega, by omega, by simpa using h2, by simpa using h3, h4⟩
theorem nums_range {e : En} (h : e.chk = 0) : (0 ≤ e.n0 ∧ e.n0 ≤ 100000) ∧ (0 ≤ e.n1 ∧ e.n1 ≤ 100000) ∧ (0 ≤ e.n2 ∧ e.n2 ≤ 100000) := by
 obtain ⟨_, _, hr, _, _⟩ := chk_zero h
 have hr := of_decide_eq_true hr
 unfold En.n0 En.n1 En.n2 num0 num1 num2
 refine ⟨?_, ?_, ?_⟩
 · split <;> omega
 · split
  · omega
  · split <;> omega
 · split
  · omega
  · split <;> omega
theorem Laid.nam {W : World} (h : Laid W) (k : Int) (h0 : 0 ≤ k) (h3 : k ≤ 3) : W.cell? ⟨1, k.toNat, none⟩ = some (.string ⟨(nameL k).toArray⟩) := by
 obtain ⟨c0, c1, c2, c3⟩ := h.name
 have : k = 0 ∨ k = 1 ∨ k = 2 ∨ k = 3 := by omega
 rcases this with rfl | rfl | rfl | rfl
 · exact c0
 · exact c1
 · exact c2
 · exact c3
theorem cnt_le (k : Int) : cntOf k ≤ 3 := by
 unfold cntOf
 split
 · omega
 split
 · omega
 split <;> omega
theorem nameL_len (k : Int) : (nameL k).length ≤ 30 := by
 unfold nameL
 split
 · simp
 split
 · simp
 split <;> simp
theorem print_any (e : En) (w : World) (hL : Laid w) :
  Calls Tryz.prog 196 #[e.val] w fun r w' => r = .returned (.tuple #[.string ⟨e.ptx.toArray⟩, .int .i64 e.chk]) ∧ Below w.heap.size w w' := by
 by_cases h : e.chk = 0
 · obtain ⟨h0, h3, _, _, _⟩ := chk_zero h
  obtain ⟨b0, b1, b2⟩ := nums_range h
  have hp := print_ok e.k e.j e.v e.t e.c ⟨(nameL e.k).toArray⟩ (cntOf e.k) e.n0 e.n1 e.n2 w hL h0 h3 (cnt_le _) (nameL_len _) h rfl rfl rfl b0 b1 b2 (fun W hW => hW.nam e.k h0 h3) (fun W hW => hW.cnt e.k h0 h3)
  rw [En.ptx, if_pos h, h]
  exact hp
 · rw [En.ptx, if_neg h]
  exact print_bad e.k e.j e.v e.t e.c w (by rw [bne_iff_ne]; exact h)
theorem words_no_sp {e : En} (h : e.chk = 0) : ∀ x, x ∈ e.words → (32 : UInt8) ∉ x := by
 obtain ⟨b0, b1, b2⟩ := nums_range h
 intro x hx
 have hx := List.mem_of_mem_take hx
 simp only [List.mem_cons, List.not_mem_nil, or_false] at hx
 rcases hx with rfl | rfl | rfl | rfl
 · unfold nameL
  split
  · decide
  split
  · decide
  split <;> decide
 · exact itoa_no_sp _ b0.1
 · exact itoa_no_sp _ b1.1
 · exact itoa_no_sp _ b2.1
theorem words_len (e : En) : e.words.length = 1 + cntOf e.k := by
 have := cnt_le e.k
 unfold En.words
 rw [List.length_take]
 simp
 omega
theorem spl_txt {e : En} (h : e.chk = 0) : spl 4 e.txt = some e.words := by
 have hl := words_len e
 have := cnt_le e.k
 exact spl_join 4 e.words (fun e => by rw [e] at hl; simp at hl; omega) (by omega) (words_no_sp h)
theorem kindOf_nameL (k : Int) (h0 : 0 ≤ k) (h3 : k ≤ 3) : kindOf (nameL k) = k := by
 have : k = 0 ∨ k = 1 ∨ k = 2 ∨ k = 3 := by omega
 rcases this with rfl | rfl | rfl | rfl <;> decide
theorem nameL_kindOf (l : List UInt8) (h : 0 ≤ kindOf l) : nameL (kindOf l) = l := by
 unfold kindOf at h ⊢
 split
 · rename_i e; rw [e]; rfl
 split
 · rename_i e; rw [e]; rfl
 split
 · rename_i e; rw [e]; rfl
 split
 · rename_i e; rw [e]; rfl
 · simp_all
theorem words_at {e : En} (h : e.chk = 0) : e.words.getD 0 [] = nameL e.k ∧ nAt e.words 1 = some e.n0 ∧ nAt e.words 2 = some e.n1 ∧ nAt e.words 3 = some e.n2 := by
 obtain ⟨b0, b1, b2⟩ := nums_range h
 obtain ⟨h0, h3, _, _, _⟩ := chk_zero h
 have r0 := numOf_itoa e.n0 b0.1 (by omega)
 have r1 := numOf_itoa e.n1 b1.1 (by omega)
 have r2 := numOf_itoa e.n2 b2.1 (by omega)
 have hk : e.k = 0 ∨ e.k = 1 ∨ e.k = 2 ∨ e.k = 3 := by omega
 have z0 : e.k = 0 → e.n0 = 0 := fun h => by simp [En.n0, num0, h]
 have z1 : e.k = 0 ∨ e.k = 2 → e.n1 = 0 := fun h => by rcases h with h | h <;> simp [En.n1, num1, h]
 have z2 : e.k = 0 ∨ e.k = 2 → e.n2 = 0 := fun h => by rcases h with h | h <;> simp [En.n2, num2, h]
 unfold En.words
 rcases hk with hk | hk | hk | hk
 · rw [show cntOf e.k = 0 by rw [hk]; rfl, z0 hk, z1 (Or.inl hk), z2 (Or.inl hk)]
  exact ⟨rfl, rfl, rfl, rfl⟩
 · rw [show cntOf e.k = 3 by rw [hk]; rfl]
  exact ⟨rfl, r0, r1, r2⟩
 · rw [show cntOf e.k = 1 by rw [hk]; rfl, z1 (Or.inr hk), z2 (Or.inr hk)]
  exact ⟨rfl, r0, rfl, rfl⟩
 · rw [show cntOf e.k = 3 by rw [hk]; rfl]
  exact ⟨rfl, r0, r1, r2⟩
theorem txt_len (e : En) (h : e.chk = 0) : e.txt.length ≤ 200 := by
 obtain ⟨b0, b1, b2⟩ := nums_range h
 have l0 := Lib.itoa_length_le e.n0 (by omega) (by omega)
 have l1 := Lib.itoa_length_le e.n1 (by omega) (by omega)
 have l2 := Lib.itoa_length_le e.n2 (by omega) (by omega)
 have ln := nameL_len e.k
 have hc := cnt_le e.k
 unfold En.txt En.words
 generalize cntOf e.k = n at hc ⊢
 have hn' : n = 0 ∨ n = 1 ∨ n = 2 ∨ n = 3 := by omega
 rcases hn' with rfl | rfl | rfl | rfl
 all_goals
  simp only [List.take, Lib.join_cons, Lib.joinTail, List.map_cons, List.map_nil, List.flatten_cons, List.flatten_nil, List.length_append, List.length_cons, List.length_nil, List.nil_append, List.cons_append]
  omega
theorem prs_txt {e : En} (h : e.chk = 0) : prs e.txt = (e, 0) := by
 obtain ⟨h0, h3, _, hl, _⟩ := chk_zero h
 obtain ⟨w0, w1, w2, w3⟩ := words_at h
 have hr : rd e.txt = some (e.k, e.n0, e.n1, e.n2) := by
  rw [rd, spl_txt h]
  exact rdW_some (by rw [w0]; exact kindOf_nameL _ h0 h3) h0 (words_len e) w1 w2 w3
 have he : rdEn (e.k, e.n0, e.n1, e.n2) = e := by
  obtain ⟨_, u1, u2, u3, u4⟩ := unlike_false hl
  cases e
  simp only [rdEn, En.n0, En.n1, En.n2] at *
  simp only [u1, u2, u3, u4]
 have hlen := txt_len e h
 rw [prs, if_neg (by omega), hr]
 simp only [he, h, if_true]
theorem txt_prs {l : List UInt8} (h : (prs l).2 = 0) : (prs l).1.chk = 0 ∧ (prs l).1.txt = l := by
 unfold prs at h ⊢
 split at h
 · cases h
 rename_i hlen
 rw [if_neg hlen]
 cases hr : rd l with
 | none => rw [hr] at h; cases h
 | some r =>
  rw [hr] at h
  simp only at h ⊢
  split at h
  case isFalse h0 => exact absurd h h0
  rename_i h0
  rw [if_pos h0]
  refine ⟨h0, ?_⟩
  obtain ⟨ws, hs, hw⟩ := Option.bind_eq_some_iff.1 hr
  have hj := join_spl 4 l ws hs
  unfold rdW at hw
  split at hw
  · cases hw
  rename_i hc
  obtain ⟨a, ha, hw⟩ := Option.bind_eq_some_iff.1 hw
  obtain ⟨b, hb, hw⟩ := Option.bind_eq_some_iff.1 hw
  obtain ⟨c, hc', hw⟩ := Option.bind_eq_some_iff.1 hw
  cases hw
  have hkr := kindOf_range (ws.getD 0 [])
  have hn := nameL_kindOf (ws.getD 0 []) (by omega)
  have hlen : ws.length = 1 + cntOf (kindOf (ws.getD 0 [])) := by omega
  generalize hk : kindOf (ws.getD 0 []) = k at *
  rw [← hj]
  unfold En.txt
  congr 1
  unfold En.words En.n0 En.n1 En.n2 rdEn
  simp only
  have hk' : k = 0 ∨ k = 1 ∨ k = 2 ∨ k = 3 := by omega
  rcases hk' with rfl | rfl | rfl | rfl
  · match ws, hlen with
   | [x], _ => exact congrArg (fun y => [y]) hn
  · match ws, hlen with
   | [x, y, z, u], _ =>
    have ea := itoa_numOf _ _ ha
    have eb := itoa_numOf _ _ hb
    have ec := itoa_numOf _ _ hc'
    simp only [bJob, bEvery, bTime, num0, num1, num2, if_true, true_or]
    show [_, _, _, _] = _
    rw [ea, eb, ec, hn]; rfl
  · match ws, hlen with
   | [x, y], _ =>
    have ea := itoa_numOf _ _ ha
    show [_, _] = _
    rw [hn]
    show [_, Lib.itoa a] = _
    rw [ea]; rfl
  · match ws, hlen with
   | [x, y, z, u], _ =>
    have ea := itoa_numOf _ _ ha
    have eb := itoa_numOf _ _ hb
    have ec := itoa_numOf _ _ hc'
    show [_, Lib.itoa a, Lib.itoa b, Lib.itoa c] = _
    rw [ea, eb, ec, hn]; rfl
theorem eql_entry (k j v t c k' j' v' t' c' : Int) (w : World) :
  (binOp .eql 27 (ev k j v t c) (ev k' j' v' t' c')).run Tryz.prog w = .ok (.bool (!unlike k j v t c k' j' v' t' c')) w := by
 have u3 := Tryz.underlying3
 have a3 := Tryz.isAgg3
 have z3 := Tryz.sizeOf3
 have hS : Tryz.prog.underlying 27 = some (.struct (Tryz.prog.fieldsOf 27)) := by kernel_rfl
 have hp : Tryz.prog.stoodInHeld 27 = false := by kernel_rfl
 rw [run_eql_struct, show (10000 : Nat) = 9999 + 1 from rfl, run_equalIn_agg w 9999 27 _ _ hS hp]
 simp only [Program.fieldsOf, Tryz.underlying27]
 go_simp
 unfold unlike
 by_cases h1 : k = k' <;> by_cases h2 : j = j' <;> by_cases h3 : v = v' <;> by_cases h4 : t = t' <;> by_cases h5 : c = c' <;> simp [h1, h2, h3, h4, h5]
def e1 : En := ⟨1, 2, 5, 10, 0⟩
theorem own : ownKnob Tryz.prog.godebug = none := by kernel_rfl
theorem laidOut : laidOutB Tryz.prog = true := by kernel_rfl
theorem cI : Tryz.prog.cellsOf 3 = 1 := by kernel_rfl
theorem cS : Tryz.prog.cellsOf 9 = 1 := by kernel_rfl
theorem cU : Tryz.prog.cellsOf 217 = 1 := by kernel_rfl
theorem gNamesT : (Tryz.prog.globals[1]?).map (·.type) = some 238 := by kernel_rfl
theorem gCountsT : (Tryz.prog.globals[2]?).map (·.type) = some 240 := by kernel_rfl
theorem gPowT : (Tryz.prog.globals[3]?).map (·.type) = some 258 := by kernel_rfl
theorem gSynT : (Tryz.prog.globals[6]?).map (·.type) = some 209 := by kernel_rfl
theorem gRngT : (Tryz.prog.globals[7]?).map (·.type) = some 209 := by kernel_rfl
theorem bytes_of {s : ByteArray} {l : List UInt8} (h : s.data.toList = l) : s = ⟨l.toArray⟩ := by
 obtain ⟨⟨x⟩⟩ := s
 subst h; rfl
theorem names_of {W : World} {rest : List (String × DataW Unit)} (h : laidMet Tryz.prog (("carillon/entry.names", Rows.laid_carillon_entry_names) :: rest) W) :
  W.var? Tryz.prog "carillon/entry.names" = some #[.string bJunk, .string bPut, .string bDrop, .string bRing] := by
 obtain ⟨ps, ⟨g, t, cs, fuel, p, q, hg, ht, hv, hd, _, _⟩, _⟩ := h
 obtain rfl := Option.some.inj (gNames.symm.trans hg)
 obtain rfl := Option.some.inj (gNamesT.symm.trans ht)
 obtain ⟨xs, m, _, ex, hcl, hl, hel⟩ := DataW.trod_array Tryz.underlying238 hd
 rw [cS] at hel
 rw [show Tryz.prog.cellsOf 238 = 4 by kernel_rfl] at hcl
 obtain ⟨l⟩ := cs
 match xs, hl, l, hcl with
 | [x0, x1, x2, x3], _, [y0, y1, y2, y3], _ =>
  obtain ⟨s0, e0, f0, _⟩ := DataW.trod_string Tryz.underlying9 (hel 0 (by omega))
  obtain ⟨s1, e1, f1, _⟩ := DataW.trod_string Tryz.underlying9 (hel 1 (by omega))
  obtain ⟨s2, e2, f2, _⟩ := DataW.trod_string Tryz.underlying9 (hel 2 (by omega))
  obtain ⟨s3, e3, f3, _⟩ := DataW.trod_string Tryz.underlying9 (hel 3 (by omega))
  simp at e0 e1 e2 e3
  subst e0 e1 e2 e3 f0 f1 f2 f3
  have ex := (Prod.mk.inj ex).1
  simp only [Rows.laid_carillon_entry_names, List.map_cons, List.map_nil, DataW.agg.injEq, List.cons.injEq, DataW.lit.injEq, Lit.string.injEq, and_true] at ex
  obtain ⟨h0, h1, h2, h3⟩ := ex
  rw [hv, bytes_of h0.symm, bytes_of h1.symm, bytes_of h2.symm, bytes_of h3.symm]
theorem counts_of {W : World} {rest : List (String × DataW Unit)} (h : laidMet Tryz.prog (("carillon/entry.counts", Rows.laid_carillon_entry_counts) :: rest) W) :
  W.var? Tryz.prog "carillon/entry.counts" = some #[.int .i64 0, .int .i64 3, .int .i64 1, .int .i64 3] :=
 Lib.tabIs_of_head (zs := [0, 3, 1, 3]) gCounts gCountsT Tryz.underlying240 Tryz.underlying3 cI (by kernel_rfl) h
theorem pow_of {W : World} {rest : List (String × DataW Unit)} (h : laidMet Tryz.prog (("internal/strconv.uint64pow10", Rows.laid_internal_strconv_uint64pow10) :: rest) W) :
  Lib.TabIs Tryz.prog W "internal/strconv.uint64pow10" .u64 Lib.pow10Tab :=
 Lib.tabIs_of_head (zs := Lib.pow10Tab) gPow gPowT Tryz.underlying258 Tryz.underlying217 cU (by kernel_rfl) h
theorem cErr : Tryz.prog.cellsOf 298 = 1 := by kernel_rfl
theorem star : "*" ++ "errors.errorString" = "*errors.errorString" := by decide
theorem rowErr (u : TypeId) (h : Tryz.prog.typeName? 3 u = some "*errors.errorString") : u = 296 :=
 typeName_ptr_named (nm := "errors.errorString") (by rw [star]; kernel_rfl) (by kernel_rfl) (by decide) u (by rw [star]; exact h)
theorem syn_of {W : World} {rest : List (String × DataW Unit)} (h : laidMet Tryz.prog (("strconv.ErrSyntax", Rows.laid_strconv_ErrSyntax) :: rest) W) : ∃ tp p, W.var? Tryz.prog "strconv.ErrSyntax" = some #[.iface tp p] := by
 obtain ⟨a0, s0, hv0, -, -, -⟩ := laid_sentinel h gSyn gSynT Tryz.underlying209 rowErr Tryz.underlying296 Tryz.underlying298 rfl rfl Tryz.underlying9 cErr cS
 exact ⟨_, _, hv0⟩
theorem rng_of {W : World} {rest : List (String × DataW Unit)} (h : laidMet Tryz.prog (("strconv.ErrRange", Rows.laid_strconv_ErrRange) :: rest) W) : ∃ tp p, W.var? Tryz.prog "strconv.ErrRange" = some #[.iface tp p] := by
 obtain ⟨a0, s0, hv0, -, -, -⟩ := laid_sentinel h gRng gRngT Tryz.underlying209 rowErr Tryz.underlying296 Tryz.underlying298 rfl rfl Tryz.underlying9 cErr cS
 exact ⟨_, _, hv0⟩
theorem most_of {W : World} (h : W.ShapedOpen Tryz.prog) : ∃ m, W.cell? ⟨0, 0, none⟩ = some (.int .i64 m) := Tryz.laysM145.s1_3 W h
section
variable {H : Type} {enc : TypeId × Value → H} {w : World} {base : Nat} {spare : Nat → Bool} {held : Bool}
end
structure Rc where (k : Int) (a : Int) (p : Int) (e : En)
def Rc.zero : Rc := ⟨0, 0, 0, En.zero⟩
def En.some_ (e : En) : Bool := unlike e.k e.j e.v e.t e.c 0 0 0 0 0
theorem En.some_no {e : En} (h : e.some_ = false) : e = En.zero := by
 obtain ⟨h1, h2, h3, h4, h5⟩ := unlike_false h
 cases e
 simp_all [En.zero]
def Rc.chk (r : Rc) : Int :=
 if r.k = 2 then (if ¬(1 ≤ r.p ∧ r.p ≤ 20) then 3 else if ¬ r.a = 0 ∨ r.e.some_ = true then 4 else 0)
 else if ¬ r.k = 1 then 4 else if ¬(0 ≤ r.a ∧ r.a ≤ 59) then 3 else if ¬ r.p = 0 then 4 else r.e.chk
theorem Rc.seal {r : Rc} (h : r.chk = 0) (hk : r.k = 2) : (1 ≤ r.p ∧ r.p ≤ 20) ∧ r = ⟨2, 0, r.p, En.zero⟩ := by
 unfold Rc.chk at h
 rw [if_pos hk] at h
 split at h
 · cases h
 · rename_i h1
  split at h
  · cases h
  · rename_i h2
   have h3 : r.a = 0 := Classical.byContradiction fun e => h2 (Or.inl e)
   have h4 : r.e.some_ = false := by
    cases hs : r.e.some_ with
    | true => exact absurd (Or.inr hs) h2
    | false => rfl
   have h5 := En.some_no h4
   refine ⟨by simpa using h1, ?_⟩
   cases r
   simp_all
theorem Rc.write {r : Rc} (h : r.chk = 0) (hk : ¬ r.k = 2) : r.k = 1 ∧ (0 ≤ r.a ∧ r.a ≤ 59) ∧ r.p = 0 ∧ r.e.chk = 0 := by
 unfold Rc.chk at h
 rw [if_neg hk] at h
 split at h
 · cases h
 · rename_i h1
  split at h
  · cases h
  · rename_i h2
   split at h
   · cases h
   · rename_i h3
    exact ⟨by simpa using h1, by simpa using h2, by simpa using h3, h⟩
abbrev Rc.val (r : Rc) : Value := .agg #[.int .i64 r.k, .int .i64 r.a, .int .i64 r.p, .int .i64 r.e.k, .int .i64 r.e.j, .int .i64 r.e.v, .int .i64 r.e.t, .int .i64 r.e.c]
abbrev boxRc (r : Rc) : Obj := .cells #[.int .i64 r.k, .int .i64 r.a, .int .i64 r.p, .int .i64 r.e.k, .int .i64 r.e.j, .int .i64 r.e.v, .int .i64 r.e.t, .int .i64 r.e.c] 94
def Rc.same (r q : Rc) : Bool := decide (r.k = q.k ∧ r.a = q.a ∧ r.p = q.p) && !unlike r.e.k r.e.j r.e.v r.e.t r.e.c q.e.k q.e.j q.e.v q.e.t q.e.c
theorem eqIn_rec (r q : Rc) (w : World) : (Op.equalIn 10000 94 r.val q.val).run Tryz.prog w = .ok (r.same q) w := by
 have u3 := Tryz.underlying3
 have a3 := Tryz.isAgg3
 have z3 := Tryz.sizeOf3
 have hS : Tryz.prog.underlying 94 = some (.struct (Tryz.prog.fieldsOf 94)) := by kernel_rfl
 have hp : Tryz.prog.stoodInHeld 94 = false := by kernel_rfl
 rw [show (10000 : Nat) = 9999 + 1 from rfl, run_equalIn_agg w 9999 94 _ _ hS hp]
 simp only [Program.fieldsOf, Tryz.underlying94]
 go_simp
 unfold Rc.same
 by_cases h1 : r.k = q.k <;> by_cases h2 : r.a = q.a <;> by_cases h3 : r.p = q.p <;> simp [h1, h2, h3]
 unfold unlike
 by_cases k1 : r.e.k = q.e.k <;> by_cases k2 : r.e.j = q.e.j <;> by_cases k3 : r.e.v = q.e.v <;> by_cases k4 : r.e.t = q.e.t <;> by_cases k5 : r.e.c = q.e.c <;> simp [k1, k2, k3, k4, k5]
theorem eqlR (r q : Rc) (w : World) : (binOp .eql 94 r.val q.val).run Tryz.prog w = .ok (.bool (r.same q)) w := by
 rw [run_eql_struct, eqIn_rec]
 rfl
theorem step_below1 {w a b : World} (h : Below w.heap.size w a) (hb : Below a.heap.size a b) : Below w.heap.size w b := h.trans (hb.mono h.size)
theorem eight_stores {W : World} {b : Nat} {q : Rc} (h : W.heap[b]? = some (boxRc q)) (r : Rc) :
  ((((((((W.setCell ⟨b, 0, none⟩ (.int .i64 r.k)).setCell ⟨b, 1, none⟩ (.int .i64 r.a)).setCell ⟨b, 2, none⟩ (.int .i64 r.p)).setCell ⟨b, 3, none⟩ (.int .i64 r.e.k)).setCell ⟨b, 4, none⟩ (.int .i64 r.e.j)).setCell ⟨b, 5, none⟩ (.int .i64 r.e.v)).setCell ⟨b, 6, none⟩ (.int .i64 r.e.t)).setCell ⟨b, 7, none⟩ (.int .i64 r.e.c)).heap[b]? = some (boxRc r) := by
 have h1 := Joins.block_setCell h (i := 0) (.int .i64 r.k)
 have h2 := Joins.block_setCell h1 (i := 1) (.int .i64 r.a)
 have h3 := Joins.block_setCell h2 (i := 2) (.int .i64 r.p)
 have h4 := Joins.block_setCell h3 (i := 3) (.int .i64 r.e.k)
 have h5 := Joins.block_setCell h4 (i := 4) (.int .i64 r.e.j)
 have h6 := Joins.block_setCell h5 (i := 5) (.int .i64 r.e.v)
 have h7 := Joins.block_setCell h6 (i := 6) (.int .i64 r.e.t)
 have h8 := Joins.block_setCell h7 (i := 7) (.int .i64 r.e.c)
 simp only [List.setIfInBounds_toArray, List.set_cons_zero, List.set_cons_succ] at h8
 exact h8
theorem below_eight {B : Nat} {a W : World} {b : Nat} (h : Below B a W) (hb : B ≤ b) (v0 v1 v2 v3 v4 v5 v6 v7 : Value) :
  Below B a ((((((((W.setCell ⟨b, 0, none⟩ v0).setCell ⟨b, 1, none⟩ v1).setCell ⟨b, 2, none⟩ v2).setCell ⟨b, 3, none⟩ v3).setCell ⟨b, 4, none⟩ v4).setCell ⟨b, 5, none⟩ v5).setCell ⟨b, 6, none⟩ v6).setCell ⟨b, 7, none⟩ v7) :=
 (((((((h.setCell hb _).setCell hb _).setCell hb _).setCell hb _).setCell hb _).setCell hb _).setCell hb _).setCell hb _
open Go.ChangeMaps (open_string shut_string)
theorem cR : Tryz.prog.cellsOf 94 = 8 := by kernel_rfl
section
variable {H : Type} {enc : TypeId × Value → H} {w : World} {base : Nat} {spare : Nat → Bool} {held : Bool}
end
def sealL : List UInt8 := [115, 101, 97, 108, 32]
def Rc.txt (r : Rc) : List UInt8 := if r.k = 2 then sealL ++ Lib.itoa r.p else Lib.itoa r.a ++ ([58, 32] ++ r.e.txt)
def Rc.ptx (r : Rc) : List UInt8 := if r.chk = 0 then r.txt else []
def Rc.fin (r : Rc) : Rc × Int := if r.chk = 0 then (r, 0) else (Rc.zero, r.chk)
def rcRead (l : List UInt8) : Rc × Int :=
 if sealL.isPrefixOf l = true then (match numOf (l.drop 5) with | none => (Rc.zero, 1) | some p => (⟨2, 0, p, En.zero⟩ : Rc).fin)
 else if (Lib.cut l [58, 32]).2.2 = false then (Rc.zero, 1)
 else match numOf (Lib.cut l [58, 32]).1 with
  | none => (Rc.zero, 1)
  | some a => if ¬ (prs (Lib.cut l [58, 32]).2.1).2 = 0 then (Rc.zero, (prs (Lib.cut l [58, 32]).2.1).2) else (⟨1, a, 0, (prs (Lib.cut l [58, 32]).2.1).1⟩ : Rc).fin
theorem itoa_digits (x : Int) (h0 : 0 ≤ x) : ∀ c, c ∈ Lib.itoa x → 48 ≤ c.toNat ∧ c.toNat ≤ 57 := by
 intro c hc
 have e : Lib.itoa x = Lib.decDigits x.toNat := by
  unfold Lib.itoa
  rw [if_neg (by omega)]
 rw [e] at hc
 exact dec_mem _ c hc
theorem itoa_ne (x : Int) (h0 : 0 ≤ x) : Lib.itoa x ≠ [] := by
 have e : Lib.itoa x = Lib.decDigits x.toNat := by
  unfold Lib.itoa
  rw [if_neg (by omega)]
 rw [e]
 exact dec_ne _
theorem occAt_colon (a b : List UInt8) : Lib.occAt (a ++ ([58, 32] ++ b)) [58, 32] a.length = true := by
 unfold Lib.occAt
 rw [List.drop_left]
 simp
theorem occAt_nocolon (l : List UInt8) (i : Nat) (h : ∀ x, l[i]? = some x → x ≠ 58) : Lib.occAt l [58, 32] i = false := by
 unfold Lib.occAt
 rcases hd : l.drop i with _ | ⟨x, r⟩
 · rfl
 · have hx : l[i]? = some x := by
   have := List.getElem?_drop (xs := l) (i := i) (j := 0)
   rw [hd] at this
   simpa using this.symm
  have hne : ((58 : UInt8) == x) = false := by
   rw [beq_eq_false_iff_ne]; exact fun e => h x hx e.symm
  show (((58 : UInt8) == x) && ([32] : List UInt8).isPrefixOf r) = false
  rw [hne]; rfl
theorem cut_colon (a b : List UInt8) (h : (58 : UInt8) ∉ a) : Lib.cut (a ++ ([58, 32] ++ b)) [58, 32] = (a, b, true) := by
 have hi : Lib.index (a ++ ([58, 32] ++ b)) [58, 32] = a.length := Lib.index_first (by simp) (occAt_colon a b) (fun j hj => occAt_nocolon _ _ (fun x hx => by
  rw [List.getElem?_append_left hj] at hx
  exact fun e => h (e ▸ List.mem_of_getElem? hx)))
 unfold Lib.cut
 rw [hi, if_pos (by omega)]
 simp
theorem cut_colon_back (l a b : List UInt8) (h : Lib.cut l [58, 32] = (a, b, true)) : l = a ++ ([58, 32] ++ b) := by
 unfold Lib.cut at h
 rcases Lib.index_spec l [58, 32] with ⟨h1, _⟩ | ⟨i, h1, h2, h3, _⟩
 · rw [h1, if_neg (by omega)] at h; cases h
 · rw [h1, if_pos (by omega)] at h
  simp only [Int.toNat_natCast, List.length_cons, List.length_nil, Prod.mk.injEq] at h
  obtain ⟨rfl, rfl, _⟩ := h
  unfold Lib.occAt at h3
  have hp := List.isPrefixOf_iff_prefix.1 h3
  obtain ⟨t, ht⟩ := hp
  have : l.drop (i + (0 + 1 + 1)) = t := by
   rw [← List.drop_drop, ← ht]
   rfl
  rw [this, ht, List.take_append_drop]
theorem seal_prefix {l : List UInt8} (h : sealL.isPrefixOf l = true) : l = sealL ++ l.drop 5 := by
 obtain ⟨t, rfl⟩ := List.isPrefixOf_iff_prefix.1 h
 rfl
theorem read_txt {r : Rc} (h : r.chk = 0) : rcRead r.txt = (r, 0) := by
 by_cases hk : r.k = 2
 · obtain ⟨hp, hr⟩ := Rc.seal h hk
  have hn := numOf_itoa r.p (by omega) (by omega)
  unfold rcRead Rc.txt
  rw [if_pos hk, if_pos (List.isPrefixOf_iff_prefix.2 ⟨_, rfl⟩), show (sealL ++ Lib.itoa r.p).drop 5 = Lib.itoa r.p from rfl, hn]
  show Rc.fin _ = _
  rw [← hr, Rc.fin, if_pos h]
 · obtain ⟨h1, ha, hp, he⟩ := Rc.write h hk
  have hd := itoa_digits r.a ha.1
  have hno : (58 : UInt8) ∉ Lib.itoa r.a := fun hm => by
   have := hd 58 hm
   simp at this
  have hpre : ¬ sealL.isPrefixOf (Lib.itoa r.a ++ ([58, 32] ++ r.e.txt)) = true := fun hm => by
   obtain ⟨t, ht⟩ := List.isPrefixOf_iff_prefix.1 hm
   cases hi : Lib.itoa r.a with
   | nil => exact itoa_ne r.a ha.1 hi
   | cons c cs =>
    rw [hi] at ht
    have hc : (115 : UInt8) = c := by
     have := congrArg (fun l => l[0]?) ht
     simpa [sealL] using this
    have := hd c (by rw [hi]; simp)
    rw [← hc] at this
    simp at this
  unfold rcRead Rc.txt
  rw [if_neg hk, if_neg hpre, cut_colon _ _ hno, if_neg (by simp)]
  simp only
  rw [numOf_itoa r.a ha.1 (by omega), prs_txt he]
  simp only
  rw [if_neg (by simp)]
  have hr : (⟨1, r.a, 0, r.e⟩ : Rc) = r := by cases r; simp_all
  rw [hr, Rc.fin, if_pos h]
theorem fin_zero {r : Rc} (h : r.fin.2 = 0) : r.chk = 0 ∧ r.fin = (r, 0) := by
 unfold Rc.fin at h ⊢
 by_cases hc : r.chk = 0
 · rw [if_pos hc]; exact ⟨hc, rfl⟩
 · rw [if_neg hc] at h; exact absurd h hc
theorem txt_read {l : List UInt8} (h : (rcRead l).2 = 0) : (rcRead l).1.chk = 0 ∧ (rcRead l).1.txt = l := by
 unfold rcRead at h ⊢
 by_cases hp : sealL.isPrefixOf l = true
 · rw [if_pos hp] at h ⊢
  cases hn : numOf (l.drop 5) with
  | none => rw [hn] at h; cases h
  | some p =>
   rw [hn] at h
   obtain ⟨h1, h2⟩ := fin_zero h
   simp only
   rw [h2]
   refine ⟨h1, ?_⟩
   show Rc.txt _ = l
   unfold Rc.txt
   rw [if_pos rfl]
   show sealL ++ Lib.itoa p = l
   rw [itoa_numOf _ _ hn]
   exact (seal_prefix hp).symm
 · rw [if_neg hp] at h ⊢
  cases hc : (Lib.cut l [58, 32]).2.2 with
  | false => rw [hc, if_pos rfl] at h; cases h
  | true =>
   rw [hc, if_neg (by simp)] at h
   rw [if_neg (by simp)]
   cases hn : numOf (Lib.cut l [58, 32]).1 with
   | none => rw [hn] at h; cases h
   | some a =>
    rw [hn] at h
    simp only at h ⊢
    by_cases he : (prs (Lib.cut l [58, 32]).2.1).2 = 0
    · rw [if_neg (by simpa using he)] at h ⊢
     obtain ⟨h1, h2⟩ := fin_zero h
     rw [h2]
     refine ⟨h1, ?_⟩
     show Rc.txt _ = l
     unfold Rc.txt
     rw [if_neg (by simp)]
     show Lib.itoa a ++ ([58, 32] ++ (prs (Lib.cut l [58, 32]).2.1).1.txt) = l
     rw [(txt_prs he).2, itoa_numOf _ _ hn]
     exact (cut_colon_back l _ _ (by rw [← hc])).symm
    · rw [if_pos he] at h
     exact absurd h he
theorem itoa_any (n : Int) (w : World) (hL : Laid w) (h0 : -9223372036854775808 ≤ n) (h1 : n ≤ 9223372036854775807) :
  Calls Tryz.prog 126 #[.int .i64 n] w fun e w' => e = .returned (.string ⟨(Lib.itoa n).toArray⟩) ∧ Below w.heap.size w w' :=
 (Tryz.strconv_Itoa n h0 h1 w hL.pow).mono fun _ _ ⟨he, hw⟩ => ⟨he, below_itoa hw⟩
theorem data_append (a b : ByteArray) : (a ++ b).data.toList = a.data.toList ++ b.data.toList := by
 simp [ByteArray.data_append]
def words (l : List UInt8) : List (List UInt8) := Lib.splitK [32] 0 (Lib.count l [32]) l
end Go.Proofs.YtmoaobfmopimlafGreatDoor
