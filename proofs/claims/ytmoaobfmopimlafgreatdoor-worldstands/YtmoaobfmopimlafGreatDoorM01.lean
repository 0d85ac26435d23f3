/- For the law. -/
import Derived.Test.YtmoaobfmopimlafGreatDoorRows
import Derived.WalkKit
import Derived.ProofKit
import Derived.Deep.LoopGhost
import Derived.Deep.Draws
import Derived.RegionTactic
import Derived.ChangeAlike
import Derived.Deep.QuietTactic
import Derived.BigQuiet
import Derived.Outline
import Derived.WalkLawsBesides
import Derived.Laws.StructEq
import Derived.Deep.RegionHeld3
import Derived.WalkSpells
set_option linter.unusedSimpArgs false
set_option linter.unusedVariables false
namespace Go.Proofs.YtmoaobfmopimlafGreatDoor
open Go.RowKit
theorem qa {α : Type} (l : List α) (i : Nat) (a : α) : l.toArray.setIfInBounds i a = (l.set i a).toArray := List.setIfInBounds_toArray l i a
theorem qb {α : Type} {x : α} {xs : List α} {a : α} : (x :: xs).set 0 a = a :: xs := rfl
theorem qc {α : Type} {x : α} {xs : List α} {i : Nat} {a : α} : (x :: xs).set (i + 1) a = x :: xs.set i a := rfl
theorem tk {P : Program} {ops : Array Oper} {Q : Exit → Act → World → Prop} {md : Region.Mode} {S : World → Prop} (i : Nat) {oi : Oper} {v : Value} {fuel : Nat} {listed : Array Bool} {a : Act} {w : World} (hi : ops[i]? = some oi)
 (h3 : (Region.noSelect ops && (Region.free md ops listed i && (Region.ready md ops listed).contains i)) = true) (hw : Region.wanted oi (yielded ops a.tmps) = true) (hS : S w) (hQ : ∀ c a w, Q (.panic c) (a.put oi.dst v) w → Q (.panic c) a w)
 (hy : ∀ w, S w → (execOp a.eval oi).run P w = .ok (.value v) w) (h : wpAnyH P md ops Q S fuel (listed.setIfInBounds i true) (a.put oi.dst v) w) : wpAnyH P md ops Q S (fuel + 1) listed a w := by
 simp only [Bool.and_eq_true] at h3
 exact wpAnyH_take hi h3.1 h3.2.1 h3.2.2 hQ (Or.inl ⟨hw, hy⟩) hS h
theorem rdy {P : Program} {ops : Array Oper} {Q : Exit → Act → World → Prop} {md : Region.Mode} {S : World → Prop} (i : Nat) {o : Oper} {fuel : Nat} {listed : Array Bool} {a : Act} {w : World} (hr : Region.ready md ops listed = [i]) (ho : ops[i]? = some o)
 (h : ∀ K' : Act → World → Prop, Shut (∀ a w, S w → (S w → wpAnyH P md ops Q S fuel (listed.setIfInBounds i true) a w) → K' a w) → if Region.wanted o (yielded ops a.tmps) = true then Oper.wp P o a w K' Q else K' (a.put o.dst undef) w) : wpAnyH P md ops Q S (fuel + 1) listed a w :=
 wpAnyH_ready hr (by simp) (AllReadyH.cons ho h AllReadyH.nil)
theorem grew {a w : World} (h : Below a.heap.size a w) (o : Obj) : Below a.heap.size a (w.alloc o) := h.alloc h.size o
abbrev ev (k j v t c : Int) : Value := .agg #[.int .i64 k, .int .i64 j, .int .i64 v, .int .i64 t, .int .i64 c]
def inR (j v t c : Int) : Bool := decide (0 ≤ j ∧ j < 6 ∧ 0 ≤ v ∧ v ≤ 100 ∧ 0 ≤ t ∧ t ≤ 100000 ∧ 0 ≤ c ∧ c < 3)
theorem inR_false {j v t c : Int} (h : ¬ (0 ≤ j ∧ j < 6 ∧ 0 ≤ v ∧ v ≤ 100 ∧ 0 ≤ t ∧ t ≤ 100000 ∧ 0 ≤ c ∧ c < 3)) : inR j v t c = false := decide_eq_false h
set_option maxHeartbeats 1000000 in
theorem inRange_any (k j v t c : Int) (w : World) :
  Calls Tryz.prog 147 #[ev k j v t c] w fun e w' => e = .returned (.bool (inR j v t c)) ∧ w' = w.alloc (.cells #[.int .i64 k, .int .i64 j, .int .i64 v, .int .i64 t, .int .i64 c] 27) := by
 have hc : ¬ 0 ≤ j ∨ (0 ≤ j ∧ ¬ j < 6) ∨ (0 ≤ j ∧ j < 6 ∧ ¬ 0 ≤ v) ∨ (0 ≤ j ∧ j < 6 ∧ 0 ≤ v ∧ ¬ v ≤ 100) ∨ (0 ≤ j ∧ j < 6 ∧ 0 ≤ v ∧ v ≤ 100 ∧ ¬ 0 ≤ t) ∨
   (0 ≤ j ∧ j < 6 ∧ 0 ≤ v ∧ v ≤ 100 ∧ 0 ≤ t ∧ ¬ t ≤ 100000) ∨ (0 ≤ j ∧ j < 6 ∧ 0 ≤ v ∧ v ≤ 100 ∧ 0 ≤ t ∧ t ≤ 100000 ∧ ¬ 0 ≤ c) ∨
   (0 ≤ j ∧ j < 6 ∧ 0 ≤ v ∧ v ≤ 100 ∧ 0 ≤ t ∧ t ≤ 100000 ∧ 0 ≤ c ∧ ¬ c < 3) ∨ (0 ≤ j ∧ j < 6 ∧ 0 ≤ v ∧ v ≤ 100 ∧ 0 ≤ t ∧ t ≤ 100000 ∧ 0 ≤ c ∧ c < 3) := by omega
 rcases hc with h | ⟨h, h1⟩ | ⟨h, h1, h2⟩ | ⟨h, h1, h2, h3⟩ | ⟨h, h1, h2, h3, h4⟩ | ⟨h, h1, h2, h3, h4, h5⟩ | ⟨h, h1, h2, h3, h4, h5, h6⟩ | ⟨h, h1, h2, h3, h4, h5, h6, h7⟩ | ⟨h, h1, h2, h3, h4, h5, h6, h7⟩
 all_goals
  first
   | rw [inR_false (by omega)]
   | rw [show inR j v t c = true from decide_eq_true ⟨h, h1, h2, h3, h4, h5, h6, h7⟩]
  go_enter Tryz.func147, Tryz.ntmps147
  go_wp2
  go_ret
  exact ⟨rfl, rfl⟩
def num0 (k j : Int) : Int := if k = 1 ∨ k = 2 ∨ k = 3 then j else 0
def num1 (k v t : Int) : Int := if k = 1 then v else if k = 3 then t else 0
def num2 (k t c : Int) : Int := if k = 1 then t else if k = 3 then c else 0
abbrev nv (a b c : Int) : Value := .agg #[.int .i64 a, .int .i64 b, .int .i64 c]
theorem cases4 (k : Int) : k = 1 ∨ k = 2 ∨ k = 3 ∨ ((k == 1) = false ∧ (k == 2) = false ∧ (k == 3) = false) := by
 simp only [beq_eq_false_iff_ne]; omega
set_option maxHeartbeats 1000000 in
theorem numbers_any (k j v t c : Int) (w : World) :
  Calls Tryz.prog 149 #[ev k j v t c] w fun e w' => e = .returned (nv (num0 k j) (num1 k v t) (num2 k t c)) ∧
   w' = (w.alloc (.cells #[.int .i64 k, .int .i64 j, .int .i64 v, .int .i64 t, .int .i64 c] 27)).alloc (.cells #[.int .i64 (num0 k j), .int .i64 (num1 k v t), .int .i64 (num2 k t c)] 184) := by
 rcases cases4 k with rfl | rfl | rfl | ⟨h1, h2, h3⟩
 case inr.inr.inr =>
  rw [show num0 k j = 0 from if_neg (by simp at h1 h2 h3; omega), show num1 k v t = 0 from by rw [num1, if_neg (by simpa using h1), if_neg (by simpa using h3)], show num2 k t c = 0 from by rw [num2, if_neg (by simpa using h1), if_neg (by simpa using h3)]]
  go_enter Tryz.func149, Tryz.ntmps149
  go_wp2
  exact bodyPost_ret (v := nv 0 0 0) (by simp [results, Tryz.results149, go_sem]) rfl ⟨rfl, rfl⟩
 ·rw [show num0 1 j = j from rfl, show num1 1 v t = v from rfl, show num2 1 t c = t from rfl]
  go_enter Tryz.func149, Tryz.ntmps149
  go_wp2
  exact bodyPost_ret (v := nv j v t) (by simp [results, Tryz.results149, go_sem]) rfl ⟨rfl, rfl⟩
 ·rw [show num0 2 j = j from rfl, show num1 2 v t = 0 from rfl, show num2 2 t c = 0 from rfl]
  go_enter Tryz.func149, Tryz.ntmps149
  go_wp2
  exact bodyPost_ret (v := nv j 0 0) (by simp [results, Tryz.results149, go_sem]) rfl ⟨rfl, rfl⟩
 ·rw [show num0 3 j = j from rfl, show num1 3 v t = t from rfl, show num2 3 t c = c from rfl]
  go_enter Tryz.func149, Tryz.ntmps149
  go_wp2
  exact bodyPost_ret (v := nv j t c) (by simp [results, Tryz.results149, go_sem]) rfl ⟨rfl, rfl⟩
def bJob (k a : Int) : Int := if k = 1 ∨ k = 2 ∨ k = 3 then a else 0
def bEvery (k b : Int) : Int := if k = 1 then b else 0
def bTime (k b c : Int) : Int := if k = 1 then c else if k = 3 then b else 0
def bClient (k c : Int) : Int := if k = 3 then c else 0
set_option maxHeartbeats 1000000 in
theorem build_any (k a b c : Int) (w : World) :
  Calls Tryz.prog 148 #[.int .i64 k, nv a b c] w fun e w' => e = .returned (ev k (bJob k a) (bEvery k b) (bTime k b c) (bClient k c)) ∧
   w' = (w.alloc (.cells #[.int .i64 a, .int .i64 b, .int .i64 c] 184)).alloc (.cells #[.int .i64 k, .int .i64 (bJob k a), .int .i64 (bEvery k b), .int .i64 (bTime k b c), .int .i64 (bClient k c)] 27) := by
 rcases cases4 k with rfl | rfl | rfl | ⟨h1, h2, h3⟩
 case inr.inr.inr =>
  rw [show bJob k a = 0 from if_neg (by simp at h1 h2 h3; omega), show bEvery k b = 0 from if_neg (by simpa using h1), show bTime k b c = 0 from by rw [bTime, if_neg (by simpa using h1), if_neg (by simpa using h3)], show bClient k c = 0 from if_neg (by simpa using h3)]
  go_enter Tryz.func148, Tryz.ntmps148
  go_wp2
  exact bodyPost_ret (v := ev k 0 0 0 0) (by simp [results, Tryz.results148, go_sem]) rfl ⟨rfl, rfl⟩
 ·rw [show bJob 1 a = a from rfl, show bEvery 1 b = b from rfl, show bTime 1 b c = c from rfl, show bClient 1 c = 0 from rfl]
  go_enter Tryz.func148, Tryz.ntmps148
  go_wp2
  exact bodyPost_ret (v := ev 1 a b c 0) (by simp [results, Tryz.results148, go_sem]) rfl ⟨rfl, rfl⟩
 ·rw [show bJob 2 a = a from rfl, show bEvery 2 b = 0 from rfl, show bTime 2 b c = 0 from rfl, show bClient 2 c = 0 from rfl]
  go_enter Tryz.func148, Tryz.ntmps148
  go_wp2
  exact bodyPost_ret (v := ev 2 a 0 0 0) (by simp [results, Tryz.results148, go_sem]) rfl ⟨rfl, rfl⟩
 ·rw [show bJob 3 a = a from rfl, show bEvery 3 b = 0 from rfl, show bTime 3 b c = b from rfl, show bClient 3 c = c from rfl]
  go_enter Tryz.func148, Tryz.ntmps148
  go_wp2
  exact bodyPost_ret (v := ev 3 a 0 b c) (by simp [results, Tryz.results148, go_sem]) rfl ⟨rfl, rfl⟩
def unlike (k j v t c k' j' v' t' c' : Int) : Bool := !(k == k' && (j == j' && (v == v' && (t == t' && c == c'))))
theorem neq_entry (k j v t c k' j' v' t' c' : Int) (w : World) :
  (binOp .neq 27 (ev k j v t c) (ev k' j' v' t' c')).run Tryz.prog w = .ok (.bool (unlike k j v t c k' j' v' t' c')) w := by
 have u3 := Tryz.underlying3
 have a3 := Tryz.isAgg3
 have z3 := Tryz.sizeOf3
 have hS : Tryz.prog.underlying 27 = some (.struct (Tryz.prog.fieldsOf 27)) := by kernel_rfl
 have hp : Tryz.prog.stoodInHeld 27 = false := by kernel_rfl
 rw [run_neq_struct, show (10000 : Nat) = 9999 + 1 from rfl, run_equalIn_agg w 9999 27 _ _ hS hp]
 simp only [Program.fieldsOf, Tryz.underlying27]
 go_simp
 unfold unlike
 by_cases h1 : k = k' <;> by_cases h2 : j = j' <;> by_cases h3 : v = v' <;> by_cases h4 : t = t' <;> by_cases h5 : c = c' <;> simp [h1, h2, h3, h4, h5]
def lost (k j v t c : Int) : Bool := unlike k (bJob k (num0 k j)) (bEvery k (num1 k v t)) (bTime k (num1 k v t) (num2 k t c)) (bClient k (num2 k t c)) k j v t c
def chk (k j v t c : Int) : Int := if k < 0 ∨ 3 < k then 4 else if inR j v t c = false then 3 else if lost k j v t c = true then 4 else if k = 1 ∧ v = 0 then 4 else 0
set_option maxHeartbeats 1000000 in
theorem check_kind (k j v t c : Int) (w : World) (hk : k < 0 ∨ 3 < k) :
  Calls Tryz.prog 115 #[ev k j v t c] w fun e w' => e = .returned (.int .i64 4) ∧ Below w.heap.size w w' := by
 have hk' : k < 0 ∨ (0 ≤ k ∧ 3 < k) := by omega
 clear hk
 rcases hk' with h | ⟨h, h'⟩
 all_goals
  go_enter Tryz.func115, Tryz.ntmps115
  go_wp2
  go_ret
  exact ⟨rfl, (Below.refl _ _).alloc (Nat.le_refl _) _⟩
set_option maxHeartbeats 1000000 in
theorem check_range (k j v t c : Int) (w : World) (h : 0 ≤ k) (h' : k ≤ 3) (hr : inR j v t c = false) :
  Calls Tryz.prog 115 #[ev k j v t c] w fun e w' => e = .returned (.int .i64 3) ∧ Below w.heap.size w w' := by
 go_enter Tryz.func115, Tryz.ntmps115
 go_wp2_with (go_at_call 147; refine (inRange_any _ _ _ _ _ _).mono ?_; rintro e w' ⟨rfl, rfl⟩)
 go_ret
 exact ⟨rfl, ((Below.refl _ _).alloc (Nat.le_refl _) _).alloc (by simp) _⟩
theorem numbers_b (k j v t c : Int) (w : World) :
  Calls Tryz.prog 149 #[ev k j v t c] w fun e w' => e = .returned (nv (num0 k j) (num1 k v t) (num2 k t c)) ∧ Below w.heap.size w w' :=
 (numbers_any k j v t c w).mono fun _ _ ⟨he, hw⟩ => ⟨he, by rw [hw]; exact grew (grew (Below.refl _ _) _) _⟩
theorem build_b (k a b c : Int) (w : World) :
  Calls Tryz.prog 148 #[.int .i64 k, nv a b c] w fun e w' => e = .returned (ev k (bJob k a) (bEvery k b) (bTime k b c) (bClient k c)) ∧ Below w.heap.size w w' :=
 (build_any k a b c w).mono fun _ _ ⟨he, hw⟩ => ⟨he, by rw [hw]; exact grew (grew (Below.refl _ _) _) _⟩
theorem check_step {w W W' : World} {k j v t c : Int} (h : (Below w.heap.size w W ∧ W.cell? ⟨w.heap.size, 0, none⟩ = some (.int .i64 k)) ∧ W.cell? ⟨w.heap.size, 1, none⟩ = some (.int .i64 j) ∧ W.cell? ⟨w.heap.size, 2, none⟩ = some (.int .i64 v) ∧ W.cell? ⟨w.heap.size, 3, none⟩ = some (.int .i64 t) ∧ W.cell? ⟨w.heap.size, 4, none⟩ = some (.int .i64 c)) (hb : Below W.heap.size W W') :
  (Below w.heap.size w W' ∧ W'.cell? ⟨w.heap.size, 0, none⟩ = some (.int .i64 k)) ∧ W'.cell? ⟨w.heap.size, 1, none⟩ = some (.int .i64 j) ∧ W'.cell? ⟨w.heap.size, 2, none⟩ = some (.int .i64 v) ∧ W'.cell? ⟨w.heap.size, 3, none⟩ = some (.int .i64 t) ∧ W'.cell? ⟨w.heap.size, 4, none⟩ = some (.int .i64 c) :=
 ⟨⟨h.1.1.trans (hb.mono h.1.1.size), cell_later hb h.1.2⟩, cell_later hb h.2.1, cell_later hb h.2.2.1, cell_later hb h.2.2.2.1, cell_later hb h.2.2.2.2⟩
set_option maxHeartbeats 1000000 in
theorem check_lost (k j v t c : Int) (w : World) (h : 0 ≤ k) (h' : k ≤ 3) (hr : inR j v t c = true) (hl : lost k j v t c = true) :
  Calls Tryz.prog 115 #[ev k j v t c] w fun e w' => e = .returned (.int .i64 4) ∧ Below w.heap.size w w' := by
 have hne := fun W => neq_entry k (bJob k (num0 k j)) (bEvery k (num1 k v t)) (bTime k (num1 k v t) (num2 k t c)) (bClient k (num2 k t c)) k j v t c W
 change ∀ W, _ = Result.ok (Value.bool (lost k j v t c)) W at hne
 rw [hl] at hne
 clear hl
 have hS0 : (Below w.heap.size w ((w.alloc (.cells #[.int .i64 k, .int .i64 j, .int .i64 v, .int .i64 t, .int .i64 c] 27)).alloc (.cells #[.int .i64 k, .int .i64 j, .int .i64 v, .int .i64 t, .int .i64 c] 27)) ∧ ((w.alloc (.cells #[.int .i64 k, .int .i64 j, .int .i64 v, .int .i64 t, .int .i64 c] 27)).alloc (.cells #[.int .i64 k, .int .i64 j, .int .i64 v, .int .i64 t, .int .i64 c] 27)).cell? ⟨w.heap.size, 0, none⟩ = some (.int .i64 k)) ∧ ((w.alloc (.cells #[.int .i64 k, .int .i64 j, .int .i64 v, .int .i64 t, .int .i64 c] 27)).alloc (.cells #[.int .i64 k, .int .i64 j, .int .i64 v, .int .i64 t, .int .i64 c] 27)).cell? ⟨w.heap.size, 1, none⟩ = some (.int .i64 j) ∧ ((w.alloc (.cells #[.int .i64 k, .int .i64 j, .int .i64 v, .int .i64 t, .int .i64 c] 27)).alloc (.cells #[.int .i64 k, .int .i64 j, .int .i64 v, .int .i64 t, .int .i64 c] 27)).cell? ⟨w.heap.size, 2, none⟩ = some (.int .i64 v) ∧ ((w.alloc (.cells #[.int .i64 k, .int .i64 j, .int .i64 v, .int .i64 t, .int .i64 c] 27)).alloc (.cells #[.int .i64 k, .int .i64 j, .int .i64 v, .int .i64 t, .int .i64 c] 27)).cell? ⟨w.heap.size, 3, none⟩ = some (.int .i64 t) ∧ ((w.alloc (.cells #[.int .i64 k, .int .i64 j, .int .i64 v, .int .i64 t, .int .i64 c] 27)).alloc (.cells #[.int .i64 k, .int .i64 j, .int .i64 v, .int .i64 t, .int .i64 c] 27)).cell? ⟨w.heap.size, 4, none⟩ = some (.int .i64 c) := by
  have h : ∀ (a : Array Value) (o : Obj) (i : Nat), ((w.alloc (.cells a 27)).alloc o).cell? ⟨w.heap.size, i, none⟩ = a[i]? := fun a o i => by
   rw [World.cell?_alloc_past _ _ _ (by simp), World.cell?_alloc_at _ _ _ _ rfl]
  refine ⟨⟨grew (grew (Below.refl _ _) _) _, ?_⟩, ?_, ?_, ?_, ?_⟩ <;> rw [h] <;> rfl
 have q1 := fun W => numbers_b k j v t c W
 have q2 := fun W => build_b k (num0 k j) (num1 k v t) (num2 k t c) W
 go_enter Tryz.func115, Tryz.ntmps115
 go_wp2_with (go_at_call 147; refine (inRange_any _ _ _ _ _ _).mono ?_; rintro e w' ⟨rfl, rfl⟩)
 generalize (w.alloc (.cells #[.int .i64 k, .int .i64 j, .int .i64 v, .int .i64 t, .int .i64 c] 27)).alloc (.cells #[.int .i64 k, .int .i64 j, .int .i64 v, .int .i64 t, .int .i64 c] 27) = W0 at *
 have hbd : Below W0.heap.size W0 W0.drew := (Below.refl _ _).drew
 go_region_held3 (fun w' => (Below w.heap.size w w' ∧ w'.cell? ⟨w.heap.size, 0, none⟩ = some (.int .i64 k)) ∧ w'.cell? ⟨w.heap.size, 1, none⟩ = some (.int .i64 j) ∧ w'.cell? ⟨w.heap.size, 2, none⟩ = some (.int .i64 v) ∧ w'.cell? ⟨w.heap.size, 3, none⟩ = some (.int .i64 t) ∧ w'.cell? ⟨w.heap.size, 4, none⟩ = some (.int .i64 c)) (exact check_step (by assumption) (by assumption)) (first | (go_at_call 149; refine (q1 _).mono ?_; rintro e w' ⟨rfl, hb'⟩) | (go_at_call 148; refine (q2 _).mono ?_; rintro e w' ⟨rfl, hb'⟩))
 all_goals
  rename_i hS
  obtain ⟨⟨hB, k0⟩, k1, k2, _⟩ := hS
  clear q1 q2 hS0 hbd hne
  go_wp2
  go_ret
  exact ⟨rfl, hB⟩
set_option maxHeartbeats 1000000 in
theorem check_every (j t c : Int) (w : World) (hr : inR j 0 t c = true) (hl : lost 1 j 0 t c = false) :
  Calls Tryz.prog 115 #[ev 1 j 0 t c] w fun e w' => e = .returned (.int .i64 4) ∧ Below w.heap.size w w' := by
 have hne := fun W => neq_entry 1 (bJob 1 (num0 1 j)) (bEvery 1 (num1 1 0 t)) (bTime 1 (num1 1 0 t) (num2 1 t c)) (bClient 1 (num2 1 t c)) 1 j 0 t c W
 change ∀ W, _ = Result.ok (Value.bool (lost 1 j 0 t c)) W at hne
 rw [hl] at hne
 clear hl
 have hS0 : (Below w.heap.size w ((w.alloc (.cells #[.int .i64 1, .int .i64 j, .int .i64 0, .int .i64 t, .int .i64 c] 27)).alloc (.cells #[.int .i64 1, .int .i64 j, .int .i64 0, .int .i64 t, .int .i64 c] 27)) ∧ ((w.alloc (.cells #[.int .i64 1, .int .i64 j, .int .i64 0, .int .i64 t, .int .i64 c] 27)).alloc (.cells #[.int .i64 1, .int .i64 j, .int .i64 0, .int .i64 t, .int .i64 c] 27)).cell? ⟨w.heap.size, 0, none⟩ = some (.int .i64 1)) ∧ ((w.alloc (.cells #[.int .i64 1, .int .i64 j, .int .i64 0, .int .i64 t, .int .i64 c] 27)).alloc (.cells #[.int .i64 1, .int .i64 j, .int .i64 0, .int .i64 t, .int .i64 c] 27)).cell? ⟨w.heap.size, 1, none⟩ = some (.int .i64 j) ∧ ((w.alloc (.cells #[.int .i64 1, .int .i64 j, .int .i64 0, .int .i64 t, .int .i64 c] 27)).alloc (.cells #[.int .i64 1, .int .i64 j, .int .i64 0, .int .i64 t, .int .i64 c] 27)).cell? ⟨w.heap.size, 2, none⟩ = some (.int .i64 0) ∧ ((w.alloc (.cells #[.int .i64 1, .int .i64 j, .int .i64 0, .int .i64 t, .int .i64 c] 27)).alloc (.cells #[.int .i64 1, .int .i64 j, .int .i64 0, .int .i64 t, .int .i64 c] 27)).cell? ⟨w.heap.size, 3, none⟩ = some (.int .i64 t) ∧ ((w.alloc (.cells #[.int .i64 1, .int .i64 j, .int .i64 0, .int .i64 t, .int .i64 c] 27)).alloc (.cells #[.int .i64 1, .int .i64 j, .int .i64 0, .int .i64 t, .int .i64 c] 27)).cell? ⟨w.heap.size, 4, none⟩ = some (.int .i64 c) := by
  have h : ∀ (a : Array Value) (o : Obj) (i : Nat), ((w.alloc (.cells a 27)).alloc o).cell? ⟨w.heap.size, i, none⟩ = a[i]? := fun a o i => by
   rw [World.cell?_alloc_past _ _ _ (by simp), World.cell?_alloc_at _ _ _ _ rfl]
  refine ⟨⟨grew (grew (Below.refl _ _) _) _, ?_⟩, ?_, ?_, ?_, ?_⟩ <;> rw [h] <;> rfl
 have q1 := fun W => numbers_b 1 j 0 t c W
 have q2 := fun W => build_b 1 (num0 1 j) (num1 1 0 t) (num2 1 t c) W
 go_enter Tryz.func115, Tryz.ntmps115
 go_wp2_with (go_at_call 147; refine (inRange_any _ _ _ _ _ _).mono ?_; rintro e w' ⟨rfl, rfl⟩)
 generalize (w.alloc (.cells #[.int .i64 1, .int .i64 j, .int .i64 0, .int .i64 t, .int .i64 c] 27)).alloc (.cells #[.int .i64 1, .int .i64 j, .int .i64 0, .int .i64 t, .int .i64 c] 27) = W0 at *
 have hbd : Below W0.heap.size W0 W0.drew := (Below.refl _ _).drew
 go_region_held3 (fun w' => (Below w.heap.size w w' ∧ w'.cell? ⟨w.heap.size, 0, none⟩ = some (.int .i64 1)) ∧ w'.cell? ⟨w.heap.size, 1, none⟩ = some (.int .i64 j) ∧ w'.cell? ⟨w.heap.size, 2, none⟩ = some (.int .i64 0) ∧ w'.cell? ⟨w.heap.size, 3, none⟩ = some (.int .i64 t) ∧ w'.cell? ⟨w.heap.size, 4, none⟩ = some (.int .i64 c)) (exact check_step (by assumption) (by assumption)) (first | (go_at_call 149; refine (q1 _).mono ?_; rintro e w' ⟨rfl, hb'⟩) | (go_at_call 148; refine (q2 _).mono ?_; rintro e w' ⟨rfl, hb'⟩))
 all_goals
  rename_i hS
  obtain ⟨⟨hB, k0⟩, k1, k2, _⟩ := hS
  clear q1 q2 hS0 hbd hne
  go_wp2
  go_ret
  exact ⟨rfl, hB⟩
set_option maxHeartbeats 1000000 in
theorem check_ok1 (j v t c : Int) (w : World) (hr : inR j v t c = true) (hl : lost 1 j v t c = false) (hv : (v == 0) = false) :
  Calls Tryz.prog 115 #[ev 1 j v t c] w fun e w' => e = .returned (.int .i64 0) ∧ Below w.heap.size w w' := by
 have hne := fun W => neq_entry 1 (bJob 1 (num0 1 j)) (bEvery 1 (num1 1 v t)) (bTime 1 (num1 1 v t) (num2 1 t c)) (bClient 1 (num2 1 t c)) 1 j v t c W
 change ∀ W, _ = Result.ok (Value.bool (lost 1 j v t c)) W at hne
 rw [hl] at hne
 clear hl
 have hS0 : (Below w.heap.size w ((w.alloc (.cells #[.int .i64 1, .int .i64 j, .int .i64 v, .int .i64 t, .int .i64 c] 27)).alloc (.cells #[.int .i64 1, .int .i64 j, .int .i64 v, .int .i64 t, .int .i64 c] 27)) ∧ ((w.alloc (.cells #[.int .i64 1, .int .i64 j, .int .i64 v, .int .i64 t, .int .i64 c] 27)).alloc (.cells #[.int .i64 1, .int .i64 j, .int .i64 v, .int .i64 t, .int .i64 c] 27)).cell? ⟨w.heap.size, 0, none⟩ = some (.int .i64 1)) ∧ ((w.alloc (.cells #[.int .i64 1, .int .i64 j, .int .i64 v, .int .i64 t, .int .i64 c] 27)).alloc (.cells #[.int .i64 1, .int .i64 j, .int .i64 v, .int .i64 t, .int .i64 c] 27)).cell? ⟨w.heap.size, 1, none⟩ = some (.int .i64 j) ∧ ((w.alloc (.cells #[.int .i64 1, .int .i64 j, .int .i64 v, .int .i64 t, .int .i64 c] 27)).alloc (.cells #[.int .i64 1, .int .i64 j, .int .i64 v, .int .i64 t, .int .i64 c] 27)).cell? ⟨w.heap.size, 2, none⟩ = some (.int .i64 v) ∧ ((w.alloc (.cells #[.int .i64 1, .int .i64 j, .int .i64 v, .int .i64 t, .int .i64 c] 27)).alloc (.cells #[.int .i64 1, .int .i64 j, .int .i64 v, .int .i64 t, .int .i64 c] 27)).cell? ⟨w.heap.size, 3, none⟩ = some (.int .i64 t) ∧ ((w.alloc (.cells #[.int .i64 1, .int .i64 j, .int .i64 v, .int .i64 t, .int .i64 c] 27)).alloc (.cells #[.int .i64 1, .int .i64 j, .int .i64 v, .int .i64 t, .int .i64 c] 27)).cell? ⟨w.heap.size, 4, none⟩ = some (.int .i64 c) := by
  have h : ∀ (a : Array Value) (o : Obj) (i : Nat), ((w.alloc (.cells a 27)).alloc o).cell? ⟨w.heap.size, i, none⟩ = a[i]? := fun a o i => by
   rw [World.cell?_alloc_past _ _ _ (by simp), World.cell?_alloc_at _ _ _ _ rfl]
  refine ⟨⟨grew (grew (Below.refl _ _) _) _, ?_⟩, ?_, ?_, ?_, ?_⟩ <;> rw [h] <;> rfl
 have q1 := fun W => numbers_b 1 j v t c W
 have q2 := fun W => build_b 1 (num0 1 j) (num1 1 v t) (num2 1 t c) W
 go_enter Tryz.func115, Tryz.ntmps115
 go_wp2_with (go_at_call 147; refine (inRange_any _ _ _ _ _ _).mono ?_; rintro e w' ⟨rfl, rfl⟩)
 generalize (w.alloc (.cells #[.int .i64 1, .int .i64 j, .int .i64 v, .int .i64 t, .int .i64 c] 27)).alloc (.cells #[.int .i64 1, .int .i64 j, .int .i64 v, .int .i64 t, .int .i64 c] 27) = W0 at *
 have hbd : Below W0.heap.size W0 W0.drew := (Below.refl _ _).drew
 go_region_held3 (fun w' => (Below w.heap.size w w' ∧ w'.cell? ⟨w.heap.size, 0, none⟩ = some (.int .i64 1)) ∧ w'.cell? ⟨w.heap.size, 1, none⟩ = some (.int .i64 j) ∧ w'.cell? ⟨w.heap.size, 2, none⟩ = some (.int .i64 v) ∧ w'.cell? ⟨w.heap.size, 3, none⟩ = some (.int .i64 t) ∧ w'.cell? ⟨w.heap.size, 4, none⟩ = some (.int .i64 c)) (exact check_step (by assumption) (by assumption)) (first | (go_at_call 149; refine (q1 _).mono ?_; rintro e w' ⟨rfl, hb'⟩) | (go_at_call 148; refine (q2 _).mono ?_; rintro e w' ⟨rfl, hb'⟩))
 all_goals
  rename_i hS
  obtain ⟨⟨hB, k0⟩, k1, k2, _⟩ := hS
  clear q1 q2 hS0 hbd hne
  go_wp2
  go_ret
  exact ⟨rfl, hB⟩
set_option maxHeartbeats 1000000 in
theorem check_ok (k j v t c : Int) (w : World) (h : 0 ≤ k) (h' : k ≤ 3) (hr : inR j v t c = true) (hl : lost k j v t c = false) (hk : (k == 1) = false) :
  Calls Tryz.prog 115 #[ev k j v t c] w fun e w' => e = .returned (.int .i64 0) ∧ Below w.heap.size w w' := by
 have hne := fun W => neq_entry k (bJob k (num0 k j)) (bEvery k (num1 k v t)) (bTime k (num1 k v t) (num2 k t c)) (bClient k (num2 k t c)) k j v t c W
 change ∀ W, _ = Result.ok (Value.bool (lost k j v t c)) W at hne
 rw [hl] at hne
 clear hl
 have hS0 : (Below w.heap.size w ((w.alloc (.cells #[.int .i64 k, .int .i64 j, .int .i64 v, .int .i64 t, .int .i64 c] 27)).alloc (.cells #[.int .i64 k, .int .i64 j, .int .i64 v, .int .i64 t, .int .i64 c] 27)) ∧ ((w.alloc (.cells #[.int .i64 k, .int .i64 j, .int .i64 v, .int .i64 t, .int .i64 c] 27)).alloc (.cells #[.int .i64 k, .int .i64 j, .int .i64 v, .int .i64 t, .int .i64 c] 27)).cell? ⟨w.heap.size, 0, none⟩ = some (.int .i64 k)) ∧ ((w.alloc (.cells #[.int .i64 k, .int .i64 j, .int .i64 v, .int .i64 t, .int .i64 c] 27)).alloc (.cells #[.int .i64 k, .int .i64 j, .int .i64 v, .int .i64 t, .int .i64 c] 27)).cell? ⟨w.heap.size, 1, none⟩ = some (.int .i64 j) ∧ ((w.alloc (.cells #[.int .i64 k, .int .i64 j, .int .i64 v, .int .i64 t, .int .i64 c] 27)).alloc (.cells #[.int .i64 k, .int .i64 j, .int .i64 v, .int .i64 t, .int .i64 c] 27)).cell? ⟨w.heap.size, 2, none⟩ = some (.int .i64 v) ∧ ((w.alloc (.cells #[.int .i64 k, .int .i64 j, .int .i64 v, .int .i64 t, .int .i64 c] 27)).alloc (.cells #[.int .i64 k, .int .i64 j, .int .i64 v, .int .i64 t, .int .i64 c] 27)).cell? ⟨w.heap.size, 3, none⟩ = some (.int .i64 t) ∧ ((w.alloc (.cells #[.int .i64 k, .int .i64 j, .int .i64 v, .int .i64 t, .int .i64 c] 27)).alloc (.cells #[.int .i64 k, .int .i64 j, .int .i64 v, .int .i64 t, .int .i64 c] 27)).cell? ⟨w.heap.size, 4, none⟩ = some (.int .i64 c) := by
  have h : ∀ (a : Array Value) (o : Obj) (i : Nat), ((w.alloc (.cells a 27)).alloc o).cell? ⟨w.heap.size, i, none⟩ = a[i]? := fun a o i => by
   rw [World.cell?_alloc_past _ _ _ (by simp), World.cell?_alloc_at _ _ _ _ rfl]
  refine ⟨⟨grew (grew (Below.refl _ _) _) _, ?_⟩, ?_, ?_, ?_, ?_⟩ <;> rw [h] <;> rfl
 have q1 := fun W => numbers_b k j v t c W
 have q2 := fun W => build_b k (num0 k j) (num1 k v t) (num2 k t c) W
 go_enter Tryz.func115, Tryz.ntmps115
 go_wp2_with (go_at_call 147; refine (inRange_any _ _ _ _ _ _).mono ?_; rintro e w' ⟨rfl, rfl⟩)
 generalize (w.alloc (.cells #[.int .i64 k, .int .i64 j, .int .i64 v, .int .i64 t, .int .i64 c] 27)).alloc (.cells #[.int .i64 k, .int .i64 j, .int .i64 v, .int .i64 t, .int .i64 c] 27) = W0 at *
 have hbd : Below W0.heap.size W0 W0.drew := (Below.refl _ _).drew
 go_region_held3 (fun w' => (Below w.heap.size w w' ∧ w'.cell? ⟨w.heap.size, 0, none⟩ = some (.int .i64 k)) ∧ w'.cell? ⟨w.heap.size, 1, none⟩ = some (.int .i64 j) ∧ w'.cell? ⟨w.heap.size, 2, none⟩ = some (.int .i64 v) ∧ w'.cell? ⟨w.heap.size, 3, none⟩ = some (.int .i64 t) ∧ w'.cell? ⟨w.heap.size, 4, none⟩ = some (.int .i64 c)) (exact check_step (by assumption) (by assumption)) (first | (go_at_call 149; refine (q1 _).mono ?_; rintro e w' ⟨rfl, hb'⟩) | (go_at_call 148; refine (q2 _).mono ?_; rintro e w' ⟨rfl, hb'⟩))
 all_goals
  rename_i hS
  obtain ⟨⟨hB, k0⟩, k1, k2, _⟩ := hS
  clear q1 q2 hS0 hbd hne
  go_wp2
  go_ret
  exact ⟨rfl, hB⟩
theorem check_any (k j v t c : Int) (w : World) :
  Calls Tryz.prog 115 #[ev k j v t c] w fun e w' => e = .returned (.int .i64 (chk k j v t c)) ∧ Below w.heap.size w w' := by
 unfold chk
 by_cases hk : k < 0 ∨ 3 < k
 ·rw [if_pos hk]; exact check_kind k j v t c w hk
 rw [if_neg hk]
 cases hr : inR j v t c with
 | false => rw [if_pos rfl]; exact check_range k j v t c w (by omega) (by omega) hr
 | true =>
  rw [if_neg (by simp)]
  cases hl : lost k j v t c with
  | true => rw [if_pos rfl]; exact check_lost k j v t c w (by omega) (by omega) hr hl
  | false =>
   rw [if_neg (by simp)]
   by_cases h1 : k = 1
   ·subst h1
    by_cases h0 : v = 0
    ·subst h0; rw [if_pos ⟨rfl, rfl⟩]; exact check_every j t c w hr hl
    ·rw [if_neg (by omega)]; exact check_ok1 j v t c w hr hl (by simpa using h0)
   ·rw [if_neg (by omega)]; exact check_ok k j v t c w (by omega) (by omega) hr hl (by simpa using h1)
end Go.Proofs.YtmoaobfmopimlafGreatDoor
