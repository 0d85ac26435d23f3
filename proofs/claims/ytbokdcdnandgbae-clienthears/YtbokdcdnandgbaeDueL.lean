/- At a later time no less is due, and what was due is due first. What the laws on what is due ask of package due; the walks of the reference's NextOf and CountTo. The closed fact 'counted', under package due's contracts. The walk of the law DueSays, under package due's contracts. The walk of the law DueLater, under package due's contracts. The walk of the law DueRings, under package due's and package book's contracts. Insertion sort at a row of jobs (slices.SortFunc at few elements): plain facts. Insertion sort at a row of jobs: the walk. slices.SortFunc at few jobs; the walk of the reference's DueAt. The walk of the reference's DueAt. -/
import Derived.Test.YtbokdcdnandgbaeDueB
import Derived.Test.YtbokdcdnandgbaeLast
import Derived.Test.YtbokdcdnandgbaeBookZd
import Derived.Test.YtbokdcdnandgbaeBookZa
import Derived.Deep.Cut
namespace Go.Proofs.Ytbokdcdnandgbae
open Go.RowKit

theorem row_filter (p : Jb → Bool) : ∀ {l : List Jb}, Row l → Row (l.filter p)
  | [], _ => trivial
  | x :: r, h => by
    rw [List.filter_cons]
    split
    · exact ⟨fun y hy => h.1 y (List.mem_filter.1 hy).1, row_filter p h.2⟩
    · exact row_filter p h.2

theorem row_append : ∀ {a b : List Jb}, Row a → Row b → (∀ x, x ∈ a → ∀ y, y ∈ b → x.ahead y) → Row (a ++ b)
  | [], _, _, hb, _ => hb
  | x :: r, b, ha, hb, h => ⟨fun y hy => by
      rcases List.mem_append.1 hy with hy | hy
      · exact ha.1 y hy
      · exact h x (by simp) y hy, row_append ha.2 hb (fun z hz => h z (List.mem_cons_of_mem _ hz))⟩

theorem due_later {l : Int} {js : List Jb} (hs : Srt l js) {s t : Int} (hst : s ≤ t) : dueOf js t = dueOf js s ++ (dueOf js t).filter (fun x => decide (s < x.n)) := by
  refine row_ext (dueOf_row t hs) (row_append (dueOf_row s hs) (row_filter _ (dueOf_row t hs)) (fun x hx y hy => ?_)) (fun x => ?_)
  · have h1 := ((dueOf_mem s x js).1 hx).2
    have h2 := (List.mem_filter.1 hy).2
    simp only [decide_eq_true_eq] at h2
    exact Or.inl (by omega)
  · rw [List.mem_append, List.mem_filter, dueOf_mem, dueOf_mem, decide_eq_true_eq]
    constructor
    · rintro ⟨h1, h2⟩
      by_cases h3 : x.n ≤ s
      · exact Or.inl ⟨h1, h3⟩
      · exact Or.inr ⟨⟨h1, h2⟩, by omega⟩
    · rintro (⟨h1, h2⟩ | ⟨h1, _⟩)
      · exact ⟨h1, by omega⟩
      · exact h1

theorem due_prefix {l : Int} {js : List Jb} (hs : Srt l js) {s t : Int} (hst : s ≤ t) : (dueOf js t).take (dueOf js s).length = dueOf js s ∧ (dueOf js s).length ≤ (dueOf js t).length := by
  have h := due_later hs hst
  constructor
  · rw [h]; simp
  · rw [h, List.length_append]; omega

theorem cnt1_later {x : Jb} (he : 1 ≤ x.e) {s t : Int} (hst : s ≤ t) : cnt1 x s ≤ cnt1 x t := by
  by_cases h1 : s < x.n
  · rw [cnt1_none h1]; exact cnt1_nonneg he
  · rw [cnt1, if_neg h1, cnt1, if_neg (by omega)]
    have := Int.ediv_le_ediv (a := s - x.n) (b := t - x.n) (c := x.e) (by omega) (by omega)
    omega

theorem count_later : ∀ {js : List Jb}, (∀ x, x ∈ js → 1 ≤ x.e) → ∀ {s t : Int}, s ≤ t → countOf js s ≤ countOf js t
  | [], _, _, _, _ => Int.le_refl _
  | x :: r, h, s, t, hst => by
    rw [countOf, countOf]
    have h1 := cnt1_later (h x (by simp)) hst
    have h2 := count_later (js := r) (fun y hy => h y (List.mem_cons_of_mem _ hy)) hst
    omega

/-- The reference counts up: so many steps of Every from Next on. -/
theorem cnt1_up {x : Jb} (he : 1 ≤ x.e) (t : Int) (k : Nat) : (k : Int) < cnt1 x t ↔ x.n + k * x.e ≤ t := by
  rw [cnt1]
  split
  · rename_i h
    constructor
    · intro h'; omega
    · intro h'
      have : (0 : Int) ≤ k * x.e := Int.mul_nonneg (by omega) (by omega)
      omega
  · rename_i h
    rw [Int.lt_add_one_iff, Int.le_ediv_iff_mul_le (by omega)]
    omega

end Go.Proofs.Ytbokdcdnandgbae
namespace Go.Proofs.Ytbokdcdnandgbae
open Go.RowKit

/-- What is wrong with a book and a time. -/
def dueErr (js : List Jb) (rs : List Rg) (t : Int) : Int := if ckBook js rs ≠ 0 then ckBook js rs else if t < 0 ∨ 100000 < t then 3 else 0

theorem whenOf_ge : ∀ (js : List Jb), (∀ x, x ∈ js → 0 ≤ x.n) → -1 ≤ whenOf js
  | [], _ => by simp [whenOf]
  | x :: r, h => by
    have h1 := h x (by simp)
    have h2 := whenOf_ge r (fun y hy => h y (List.mem_cons_of_mem _ hy))
    rw [whenOf]
    split <;> omega

theorem min_swap (a x y : Int) (ha : -1 ≤ a) (hx : 0 ≤ x) (hy : 0 ≤ y) :
    (if (if a = -1 ∨ x < a then x else a) = -1 ∨ y < (if a = -1 ∨ x < a then x else a) then y else (if a = -1 ∨ x < a then x else a)) =
      if (if a = -1 ∨ y < a then y else a) = -1 ∨ x < (if a = -1 ∨ y < a then y else a) then x else (if a = -1 ∨ y < a then y else a) := by
  by_cases h1 : a = -1 ∨ x < a <;> by_cases h2 : a = -1 ∨ y < a <;> simp only [h1, h2, if_true, if_false] <;> (repeat' split) <;> omega

theorem whenOf_snoc (x : Jb) (hx : 0 ≤ x.n) : ∀ (js : List Jb), (∀ y, y ∈ js → 0 ≤ y.n) → whenOf (js ++ [x]) = if whenOf js = -1 ∨ x.n < whenOf js then x.n else whenOf js
  | [], _ => by simp [whenOf]
  | y :: r, h => by
    have h1 := h y (by simp)
    have hr := fun z hz => h z (List.mem_cons_of_mem y hz)
    have h2 := whenOf_ge r hr
    have ih := whenOf_snoc x hx r hr
    rw [List.cons_append, whenOf, whenOf, ih]
    exact min_swap (whenOf r) x.n y.n h2 hx h1

theorem countOf_snoc (x : Jb) (js : List Jb) (t : Int) : countOf (js ++ [x]) t = countOf js t + cnt1 x t := by
  rw [countOf_append]
  simp [countOf]

theorem cnt1_le {x : Jb} {t : Int} (hn : 0 ≤ x.n) (ht : t ≤ 100000) : cnt1 x t ≤ 100001 := by
  unfold cnt1
  split
  · omega
  · have h1 : (t - x.n) / x.e ≤ t - x.n := by
      by_cases h0 : 0 ≤ t - x.n
      · exact Int.ediv_le_self _ h0
      · omega
    omega

end Go.Proofs.Ytbokdcdnandgbae
namespace Go.Proofs.Ytbokdcdnandgbae
open Go.RowKit

def cJ : List Jb := [⟨1, 7, 3⟩, ⟨2, 5, 2⟩, ⟨4, 1, 12⟩]
theorem cJ_err : dueErr cJ [] 11 = 0 := by kernel_rfl
theorem cJ_due : dueOf cJ 11 = [⟨2, 5, 2⟩, ⟨1, 7, 3⟩] := by kernel_rfl
theorem cJ_count : countOf cJ 11 = 4 := by kernel_rfl
theorem cJ_when : whenOf cJ = 2 := by kernel_rfl
theorem cJ_ck : ckBook cJ [] = 0 := by kernel_rfl
theorem nil_ck : ckBook [] [] = 0 := by kernel_rfl

end Go.Proofs.Ytbokdcdnandgbae
namespace Go.Proofs.Ytbokdcdnandgbae
open Go.RowKit
open scoped Classical

theorem into_len (x : Jb) : ∀ l : List Jb, (into x l).length = l.length + 1
  | [] => rfl
  | y :: r => by
    have ih := into_len x r
    rw [into]
    split
    · simp
    · simp [ih]

theorem dueOf_len (t : Int) : ∀ js : List Jb, (dueOf js t).length ≤ js.length
  | [] => by simp [dueOf]
  | x :: r => by
    have ih := dueOf_len t r
    rw [dueOf]
    split
    · rw [into_len]; simp; omega
    · simp; omega

end Go.Proofs.Ytbokdcdnandgbae
namespace Go.Proofs.Ytbokdcdnandgbae
open Go.RowKit
open scoped Classical

/-- A number brought within bounds. -/
def atm (k n : Int) : Int := if k.tmod n < 0 then k.tmod n + n else k.tmod n

theorem atm_bound (k n : Int) (h0 : 0 < n) : 0 ≤ atm k n ∧ atm k n < n := by
  have hb := Int.tmod_lt_of_pos k h0
  have hb' : -n < k.tmod n := Int.lt_tmod_of_pos k h0
  unfold atm
  split <;> omega

theorem at_wide (k : Int) (n : Int) (h0 : 0 < n) (h1 : n ≤ 1000000) (w : World) :
    Calls Try.prog 8 #[.int .i64 k, .int .i64 n] w fun e w' => e = .returned (.int .i64 (atm k n)) ∧ w' = w := by
  have hne : (n == 0) = false := by rw [beq_eq_false_iff_ne]; omega
  have hb := Int.tmod_lt_of_pos k h0
  have hb' : -n < k.tmod n := Int.lt_tmod_of_pos k h0
  have hm : Hid (atm k n = if k.tmod n < 0 then k.tmod n + n else k.tmod n) := rfl
  go_enter Try.func8, Try.ntmps8
  go_wp2
  · go_ret
    exact ⟨by rw [hm.out, if_pos (by assumption)]; rfl, rfl⟩
  · go_ret
    exact ⟨by rw [hm.out, if_neg (by omega)]; rfl, rfl⟩

set_option maxRecDepth 100000 in
/-- A slice of jobs up to a place. -/
theorem upto_runJ (a : Option Addr) (n m c : Nat) (h : (m : Int) ≤ c) (w : World) : (Instr.slice 42 (.slice a n c) none (some (.int .i64 m)) none).run Try.prog w = .ok (.slice a m c) w := by
  rw [run_slice_h (ht := Try.underlying42) (h0 := by omega) (h2 := h)]
  have hs : (sizeOf (Try.prog.elem 42)).run Try.prog w = .ok 3 w := by kernel_rfl
  rw [hs]
  cases a with
  | none => simp [Result.andThen, sliced]
  | some ad => simp [Result.andThen, sliced, Addr.add]

theorem upto_jobs {w : World} {a : Option Addr} {n c : Nat} {es : List Jb} (h : JobSl w (.slice a n c) es) (m : Nat) (hm : m ≤ n) : JobSl w (.slice a m c) (es.take m) := by
  have hl := h.len
  have hlt : (es.take m).length = m := by rw [List.length_take]; omega
  obtain ⟨a', c', e, hc⟩ := h
  injection e with e1 _ e3
  refine ⟨a, c, by rw [hlt], ?_⟩
  rcases hc with hc | ⟨b, off, ha, hE⟩
  · left; rw [hlt]; omega
  · exact Or.inr ⟨b, off, e1.trans ha, hE.take m⟩

end Go.Proofs.Ytbokdcdnandgbae
namespace Go.Proofs.Ytbokdcdnandgbae
open Go.RowKit

/-- What DueRings knows at the beginning of a round. -/
structure Turn (w wr : World) (v1 v2 : Value) (js : List Jb) (rs : List Rg) (t n was lv : Int) (k : Nat) : Prop where
  jobs : JobSl wr v1 js
  rungs : RungSl wr v2 rs
  ok : Ok js rs
  left : countOf js t = n - k
  been : (rs.length : Int) = was + k
  least : ∀ x, x ∈ js → lv ≤ x.n
  below : Below w.heap.size w wr

theorem Turn.later {w wr W : World} {v1 v2 : Value} {js : List Jb} {rs : List Rg} {t n was lv : Int} {k : Nat} (h : Turn w wr v1 v2 js rs t n was lv k) (hb : Below wr.heap.size wr W) : Turn w W v1 v2 js rs t n was lv k :=
  ⟨h.jobs.later hb, h.rungs.later hb, h.ok, h.left, h.been, h.least, h.below.trans (hb.mono h.below.size)⟩

end Go.Proofs.Ytbokdcdnandgbae
namespace Go.Proofs.Ytbokdcdnandgbae
open Go.RowKit Go.Shelf

/-- IDs within their bounds. -/
def Few (xs : List Jb) : Prop := ∀ x, x ∈ xs → (0 ≤ x.i ∧ x.i ≤ 5) ∧ (0 ≤ x.n ∧ x.n ≤ 100100)

/-- A job that goes to the left in a row: ahead of it A, behind it B (all behind it in the order), then what is not looked at yet. -/
structure Ins (xs : List Jb) (A : List Jb) (x : Jb) (B R : List Jb) : Prop where
  row : Row (A ++ B)
  ahead : ∀ y, y ∈ B → x.ahead y
  all : ∀ z, z ∈ A ++ x :: (B ++ R) ↔ z ∈ xs
  len : (A ++ x :: (B ++ R)).length = xs.length
  apart : (A ++ x :: (B ++ R)).Pairwise (fun y z => y.i ≠ z.i)

theorem Row.left {a b : List Jb} : Row (a ++ b) → Row a := by
  intro h
  induction a with
  | nil => trivial
  | cons x r ih => exact ⟨fun y hy => h.1 y (List.mem_append_left _ hy), ih h.2⟩

theorem Row.mid : ∀ {a b : List Jb}, Row (a ++ b) → ∀ x, x ∈ a → ∀ y, y ∈ b → x.ahead y
  | [], _, _, x, hx, _, _ => by cases hx
  | z :: r, b, h, x, hx, y, hy => by
    rcases List.mem_cons.1 hx with rfl | hx
    · exact h.1 y (List.mem_append_right _ hy)
    · exact Row.mid (a := r) h.2 x hx y hy

theorem row_right : ∀ {a b : List Jb}, Row (a ++ b) → Row b
  | [], _, h => h
  | _ :: r, _, h => row_right (a := r) h.2

theorem ahead_trans {x y z : Jb} (h1 : x.ahead y) (h2 : y.ahead z) : x.ahead z := by
  unfold Jb.ahead at *
  omega

theorem ahead_total {x y : Jb} (h : x.i ≠ y.i) : ¬ x.ahead y → y.ahead x := by
  unfold Jb.ahead
  omega

/-- It goes one further to the left. -/
theorem Ins.step {xs A B R : List Jb} {x y : Jb} (h : Ins xs (A ++ [y]) x B R) (hxy : x.ahead y) : Ins xs A x (y :: B) R := by
  have e : (A ++ [y]) ++ x :: (B ++ R) = A ++ ([y] ++ x :: (B ++ R)) := by simp
  refine ⟨by simpa using h.row, fun z hz => ?_, fun z => ?_, ?_, ?_⟩
  · rcases List.mem_cons.1 hz with rfl | hz
    · exact hxy
    · exact h.ahead z hz
  · rw [← h.all z]
    simp only [List.mem_append, List.mem_cons, List.not_mem_nil, or_false]
    constructor
    · rintro (h1 | h1 | (h1 | h1) | h1)
      · exact Or.inl (Or.inl h1)
      · exact Or.inr (Or.inl h1)
      · exact Or.inl (Or.inr h1)
      · exact Or.inr (Or.inr (Or.inl h1))
      · exact Or.inr (Or.inr (Or.inr h1))
    · rintro ((h1 | h1) | h1 | h1 | h1)
      · exact Or.inl h1
      · exact Or.inr (Or.inr (Or.inl (Or.inl h1)))
      · exact Or.inr (Or.inl h1)
      · exact Or.inr (Or.inr (Or.inl (Or.inr h1)))
      · exact Or.inr (Or.inr (Or.inr h1))
  · have := h.len
    simp at this ⊢
    omega
  · have hp : (A ++ x :: (y :: B ++ R)).Perm ((A ++ [y]) ++ x :: (B ++ R)) := by
      rw [List.append_assoc]
      refine List.Perm.append_left A ?_
      exact List.Perm.swap y x (B ++ R)
    exact hp.symm.pairwise h.apart (fun h => Ne.symm h)

/-- It stands where it belongs: nothing is ahead of it. -/
theorem Ins.atFront {xs B R : List Jb} {x : Jb} (h : Ins xs [] x B R) : Row (x :: B) := ⟨h.ahead, h.row⟩

/-- ..or what is ahead of it is ahead in the order. -/
theorem Ins.placed {xs A B R : List Jb} {x y : Jb} (h : Ins xs (A ++ [y]) x B R) (hxy : ¬ x.ahead y) : Row ((A ++ [y]) ++ x :: B) := by
  have hy : y.ahead x := by
    refine ahead_total ?_ hxy
    have := h.apart
    rw [List.pairwise_append] at this
    exact fun e => this.2.2 y (by simp) x (by simp) e.symm
  refine row_append (Row.left h.row) ⟨h.ahead, ?_⟩ (fun u hu v hv => ?_)
  · have := h.row
    have := row_right this
    exact this
  · have hux : u.ahead x := by
      rcases List.mem_append.1 hu with hu | hu
      · have : Row (A ++ [y]) := Row.left h.row
        exact ahead_trans (Row.mid this u hu y (by simp)) hy
      · obtain rfl : u = y := by simpa using hu
        exact hy
    rcases List.mem_cons.1 hv with rfl | hv
    · exact hux
    · exact Row.mid h.row u hu v hv

/-- The next one begins its way. -/
theorem Ins.next {xs P R : List Jb} {x : Jb} (hr : Row P) (hall : ∀ z, z ∈ P ++ x :: R ↔ z ∈ xs) (hlen : (P ++ x :: R).length = xs.length) (hap : (P ++ x :: R).Pairwise (fun y z => y.i ≠ z.i)) : Ins xs P x [] R :=
  ⟨by simpa using hr, (fun y hy => by cases hy), by simpa using hall, by simpa using hlen, by simpa using hap⟩

end Go.Proofs.Ytbokdcdnandgbae
namespace Go.Proofs.Ytbokdcdnandgbae
open Go.RowKit Go.Shelf

/-- What the swap reads. -/
abbrev SwS (w : World) (gb off j : Nat) (x y : Jb) : Prop :=
  (w.cell? ⟨gb, off + (j + 1) * 3, none⟩ = some (.int .i64 x.i) ∧ w.cell? ⟨gb, off + (j + 1) * 3 + 1, none⟩ = some (.int .i64 x.e) ∧ w.cell? ⟨gb, off + (j + 1) * 3 + 2, none⟩ = some (.int .i64 x.n)) ∧
  w.cell? ⟨gb, off + j * 3, none⟩ = some (.int .i64 y.i) ∧ w.cell? ⟨gb, off + j * 3 + 1, none⟩ = some (.int .i64 y.e) ∧ w.cell? ⟨gb, off + j * 3 + 2, none⟩ = some (.int .i64 y.n)

theorem splice_tail {L tl cs : List Value} {o : Nat} (h : o + cs.length ≤ L.length) : splice (L ++ tl) o cs = splice L o cs ++ tl := by
  unfold splice
  rw [List.take_append_of_le_length (by omega), List.drop_append_of_le_length (by omega)]
  simp

theorem swS_of {w : World} {gb : Nat} {A B : List Jb} {x y : Jb} {tl : List Value} (h : w.heap[gb]? = some (.cells ((A ++ y :: x :: B).flatMap Jb.cells ++ tl).toArray 64)) : SwS w gb 0 A.length x y := by
  have hr : RowAt Jb.cells 3 w gb 0 (A ++ y :: x :: B) := rowAt_block Jb.three h ⟨tl, rfl⟩
  have e1 : (A ++ y :: x :: B)[A.length]? = some y := by simp
  have e2 : (A ++ y :: x :: B)[A.length + 1]? = some x := by rw [List.getElem?_append_right (by omega)]; simp
  exact ⟨⟨hr _ x e2 0 _ rfl, hr _ x e2 1 _ rfl, hr _ x e2 2 _ rfl⟩, hr _ y e1 0 _ rfl, hr _ y e1 1 _ rfl, hr _ y e1 2 _ rfl⟩

theorem swS_later {w w' : World} {gb off j : Nat} {x y : Jb} (h : SwS w gb off j x y) (hb : Below w.heap.size w w') : SwS w' gb off j x y :=
  ⟨⟨cell_later hb h.1.1, cell_later hb h.1.2.1, cell_later hb h.1.2.2⟩, cell_later hb h.2.1, cell_later hb h.2.2.1, cell_later hb h.2.2.2⟩

set_option linter.unusedSimpArgs false in
set_option maxHeartbeats 8000000 in
set_option maxRecDepth 100000 in
/-- slices.insertionSortCmpFunc at a whole row of few jobs. -/
theorem isort (g : Nat) (lb : Array Value) (eg : ∀ args w, (callFunc g args).run Try.prog w = .ok (.enter g args) w) (gb c n : Nat) (xs : List Jb) (tl : List Value) (w : World) (hl : xs.length = n) (hn : n ≤ 12) (hap : xs.Pairwise (fun y z => y.i ≠ z.i))
    (hg : w.heap[gb]? = some (.cells (xs.flatMap Jb.cells ++ tl).toArray 64))
    (hp : ∀ (W : World) (x y : Jb), x ∈ xs → y ∈ xs → Calls Try.prog g (#[x.val, y.val] ++ lb) W fun e w' => ∃ q : Int, e = .returned (.int .i64 q) ∧ (q < 0 ↔ x.ahead y) ∧ Below W.heap.size W w') :
    Calls Try.prog 106 #[.slice (some ⟨gb, 0, none⟩) n c, .int .i64 0, .int .i64 n, .func (.func g) #[] lb] w fun e w' => e = .returned (.tuple #[]) ∧ ∃ ys, Row ys ∧ (∀ z, z ∈ ys ↔ z ∈ xs) ∧ ys.length = n ∧ w'.heap[gb]? = some (.cells (ys.flatMap Jb.cells ++ tl).toArray 64) ∧ Kept [gb] w w' := by
  have HP : Aside _ := hp
  have HG : Aside _ := hg
  have HF : Hid (xs.length = n ∧ xs.Pairwise (fun y z => y.i ≠ z.i)) := ⟨hl, hap⟩
  clear hp hg hl hap
  obtain ⟨off, hoff⟩ : ∃ off : Nat, Hid (0 = off) := ⟨_, rfl⟩
  rw [hoff.out]
  go_enter Try.func106, Try.ntmps106
  go_wp2
  go_loopg [8, 9] (n + 1) (fun gg s8 _ wr => ∃ (i : Nat) (ys : List Jb), s8 = .int .i64 i ∧ 1 ≤ i ∧ i ≤ n + 1 ∧ n + 1 - i ≤ gg ∧ Aside (wr.heap[gb]? = some (.cells (ys.flatMap Jb.cells ++ tl).toArray 64)) ∧ Aside (Kept [gb] w wr) ∧ Aside (Row (ys.take i) ∧ ys.length = n ∧ (∀ z, z ∈ ys ↔ z ∈ xs) ∧ ys.Pairwise (fun y z => y.i ≠ z.i)))
  case atStart =>
    refine ⟨1, xs, by go_num, Nat.le_refl _, by omega, by omega, HG.out, Kept.refl _ _, ⟨?_, HF.out.1, fun _ => Iff.rfl, HF.out.2⟩⟩
    cases xs with
    | nil => trivial
    | cons x r => exact ⟨fun y hy => by simp at hy, by simp [Row]⟩
  case round =>
    obtain ⟨i, ys, rfl, hi1, hi2, hgg, G, KK, Y⟩ := hrel
    by_cases hlt : i < n
    · obtain ⟨x, hx⟩ : ∃ x, ys[i]? = some x := ⟨ys[i]'(by have := Y.out.2.1; omega), List.getElem?_eq_getElem _⟩
      have e : ys = ys.take i ++ x :: ys.drop (i + 1) := by rw [← drop_at hx, List.take_append_drop]
      have I0 : Aside (Ins xs (ys.take i) x [] (ys.drop (i + 1))) := by
        refine Ins.next Y.out.1 ?_ ?_ ?_
        · rw [← e]; exact Y.out.2.2.1
        · rw [← e, Y.out.2.1, HF.out.1]
        · rw [← e]; exact Y.out.2.2.2
      have hti : (ys.take i).length = i := by rw [List.length_take]; have := Y.out.2.1; omega
      have G0 : Aside (wr.heap[gb]? = some (.cells ((ys.take i ++ x :: ([] ++ ys.drop (i + 1))).flatMap Jb.cells ++ tl).toArray 64)) := by
        rw [List.nil_append, ← e]; exact G.out
      generalize ys.take i = A0 at *
      generalize ys.drop (i + 1) = R0 at *
      clear G Y e hx
      go_wp2_with fail
      go_loopg [9] i (fun gg' s9 wi => ∃ (j : Nat) (A B : List Jb), s9 = .int .i64 j ∧ j ≤ i ∧ j ≤ gg' ∧ A.length = j ∧ Aside (Ins xs A x B R0) ∧ Aside (B.length + j = i) ∧ Aside (wi.heap[gb]? = some (.cells ((A ++ x :: (B ++ R0)).flatMap Jb.cells ++ tl).toArray 64)) ∧ Aside (Kept [gb] w wi))
      case atStart => exact ⟨i, A0, [], rfl, Nat.le_refl _, Nat.le_refl _, hti, I0, (show Aside _ from by simp [Aside]), G0, KK⟩
      case round =>
        obtain ⟨j, A, B, rfl, hji, hgj, hAl, I, hBl, GA, KA⟩ := hrel
        have HX : Hid (∀ W' gg0, Below wr.heap.size wr W' → i + 1 ≤ n + 1 → n + 1 - (i + 1) ≤ gg0 → Row (A ++ x :: B) → ∃ (i' : Nat) (ys : List Jb), Value.int .i64 ((i : Int) + 1) = .int .i64 i' ∧ 1 ≤ i' ∧ i' ≤ n + 1 ∧ n + 1 - i' ≤ gg0 ∧ Aside (W'.heap[gb]? = some (.cells (ys.flatMap Jb.cells ++ tl).toArray 64)) ∧ Aside (Kept [gb] w W') ∧ Aside (Row (ys.take i') ∧ ys.length = n ∧ (∀ z, z ∈ ys ↔ z ∈ xs) ∧ ys.Pairwise (fun y z => y.i ≠ z.i))) := fun W' gg0 q0 q1 q2 q3 => by
          refine ⟨i + 1, A ++ x :: (B ++ R0), by go_num, by omega, q1, q2, heap_below GA.out q0 (heap_lt GA.out), KA.out.below q0, ⟨?_, by rw [I.out.len]; exact HF.out.1, I.out.all, I.out.apart⟩⟩
          have e1 : A ++ x :: (B ++ R0) = (A ++ x :: B) ++ R0 := by simp
          have e2 : (A ++ x :: B).length = i + 1 := by have := hBl.out; rw [List.length_append, List.length_cons, hAl]; omega
          rw [e1, List.take_append_of_le_length (by omega), List.take_of_length_le (by omega)]
          exact q3
        cases j with
        | zero =>
          have hA : A = [] := List.length_eq_zero_iff.1 hAl
          have HR : Hid (Row (A ++ x :: B)) := by rw [Hid, hA]; have := I.out; rw [hA] at this; exact this.atFront
          clear I GA hBl hAl
          go_wp2_with fail
          go_quiet (fail)
          go_wp2
          go_roundg (n + 1 - (i + 1))
          case measure => omega
          case rel => exact HX.out _ _ (below_drewN (Below.refl _ _) _) (by omega) (Nat.le_refl _) HR.out
        | succ j =>
          obtain ⟨A', y, rfl⟩ : ∃ A' y, A = A' ++ [y] := by
            have hne : A ≠ [] := fun h => by rw [h] at hAl; simp at hAl
            exact ⟨A.dropLast, A.getLast hne, (List.dropLast_concat_getLast hne).symm⟩
          have hA' : A'.length = j := by simpa using hAl
          have GB : wr.heap[gb]? = some (.cells ((A' ++ y :: x :: (B ++ R0)).flatMap Jb.cells ++ tl).toArray 64) := by
            have := GA.out
            rw [List.append_assoc] at this
            exact this
          have hS0 : SwS wr gb off j x y := by have := swS_of GB; rwa [hA', hoff.out] at this
          have hbd : Below wr.heap.size wr wr.drew := (Below.refl _ _).drew
          have hcall := fun W => HP.out W x y ((I.out.all x).1 (by simp)) ((I.out.all y).1 (by simp))
          have jn1 : (0 : Int) ≤ (j : Int) + 1 := by omega
          have jn2 : (j : Int) + 1 < (n : Int) := by omega
          have jn3 : (j : Int) < (n : Int) := by omega
          have jn4 : (0 : Int) < (j : Int) + 1 := by omega
          have jn0 : (0 : Int) ≤ (j : Int) := by omega
          have jw3 : IntKind.i64.wrap (j : Int) = (j : Int) := by rw [IntKind.wrap_i64]; omega
          have jn5 : j < n := by omega
          have jn6 : j + 1 < n := by omega
          have jd : decide ((0 : Int) < (j : Int) + 1) = true := by rw [decide_eq_true_eq]; exact jn4
          go_wp2_with fail
          go_region_held3 (fun w' => (Below wr.heap.size wr w' ∧ SwS w' gb off j x y)) (first | exact ⟨(Below.refl _ _).drew, swS_later hS0 hbd⟩ | exact ⟨(Below.refl _ _).drew.trans (by assumption), swS_later (swS_later hS0 hbd) (by assumption)⟩) (first | (refine (hcall _).mono ?_; rintro e w1 ⟨q, rfl, hq, hb1⟩))
          rename_i hS
          have hb01 : Below wr.heap.size wr w1 := hS.1
          have hS0 : SwS w1 gb off j x y := hS.2
          clear hS hb1
          by_cases hxy : x.ahead y
          · have hq0 : q < 0 := hq.2 hxy
            have G1 := heap_below GB hb01 (heap_lt GB)
            have f1 : ∀ i, w1.frozen? ⟨gb, i, none⟩ = false := fun i => Joins.unfrozen_of_block G1 i
            have I1 : Aside (Ins xs A' x (y :: B) R0) := I.out.step hxy
            have hB1 : Aside ((y :: B).length + j = i) := by have := hBl.out; rw [Aside, List.length_cons]; omega
            have hL1' : off + (j + 1) * 3 + 2 < ((A' ++ y :: x :: (B ++ R0)).flatMap Jb.cells).length := by
              rw [row_len Jb.three, ← hoff.out]; simp; omega
            have hL1 : off + (j + 1) * 3 + 2 < ((A' ++ y :: x :: (B ++ R0)).flatMap Jb.cells ++ tl).length := by rw [List.length_append]; omega
            have G2 := block_three G1 (.int .i64 y.i) (.int .i64 y.e) (.int .i64 y.n) hL1
            have hs1 : splice ((A' ++ y :: x :: (B ++ R0)).flatMap Jb.cells) (off + (j + 1) * 3) [.int .i64 y.i, .int .i64 y.e, .int .i64 y.n] = (A' ++ y :: y :: (B ++ R0)).flatMap Jb.cells := by
              have := splice_flat Jb.three (A' ++ [y]) (B ++ R0) x y
              rw [List.length_append, hA', List.append_assoc, List.append_assoc] at this
              rw [← hoff.out, Nat.zero_add]
              exact this
            rw [splice_tail (by show _ + 3 ≤ _; omega), hs1] at G2
            have hL2' : off + j * 3 + 2 < ((A' ++ y :: y :: (B ++ R0)).flatMap Jb.cells).length := by
              rw [row_len Jb.three, ← hoff.out]; simp; omega
            have hL2 : off + j * 3 + 2 < ((A' ++ y :: y :: (B ++ R0)).flatMap Jb.cells ++ tl).length := by rw [List.length_append]; omega
            have G3 := block_three G2 (.int .i64 x.i) (.int .i64 x.e) (.int .i64 x.n) hL2
            have hs2 : splice ((A' ++ y :: y :: (B ++ R0)).flatMap Jb.cells) (off + j * 3) [.int .i64 x.i, .int .i64 x.e, .int .i64 x.n] = (A' ++ x :: (y :: B ++ R0)).flatMap Jb.cells := by
              have := splice_flat Jb.three A' (y :: (B ++ R0)) y x
              rw [hA'] at this
              rw [← hoff.out, Nat.zero_add]
              exact this
            rw [splice_tail (by show _ + 3 ≤ _; omega), hs2] at G3
            have K3 := (((((KA.out.below hb01).setCell (g := gb) (o := off + (j + 1) * 3) (by simp) (.int .i64 y.i)).setCell (g := gb) (o := off + (j + 1) * 3 + 1) (by simp) (.int .i64 y.e)).setCell (g := gb) (o := off + (j + 1) * 3 + 2) (by simp) (.int .i64 y.n)).setCell (g := gb) (o := off + j * 3) (by simp) (.int .i64 x.i)).setCell (g := gb) (o := off + j * 3 + 1) (by simp) (.int .i64 x.e) |>.setCell (g := gb) (o := off + j * 3 + 2) (by simp) (.int .i64 x.n)
            replace G3 : Aside _ := G3
            replace K3 : Aside _ := K3
            clear HX I hBl GA KA GB G1 G2 hs1 hs2 hL1 hL2 hL1' hL2' hxy hq hb01 hbd hcall HP
            rw [show decide (q < 0) = true from decide_eq_true hq0]
            clear hq0
            go_upto_region 6 with fail
            refine wp_region_noPanic ?_
            refine region_L (fun w' => SwS w' gb off j x y) 15 (by kernel_rfl) (hS0) (fun hHeld => ?_)
            refine anyL_take (i := 0) (v := ?_) rfl (by kernel_rfl) (by kernel_rfl) (by kernel_rfl) (by kernel_rfl) (by kernel_rfl) (fun _ _ _ h => h) (Or.inl ⟨by rfl, ?_⟩) (by assumption) ?_
            rotate_left
            · (intro w0 hSw; (try dsimp only at hSw); go_simp; first | done | with_reducible rfl)
            try simp only [Act.put, List.setIfInBounds_toArray, List.set_cons_zero, List.set_cons_succ]
            refine anyL_take (i := 1) (v := ?_) rfl (by kernel_rfl) (by kernel_rfl) (by kernel_rfl) (by kernel_rfl) (by kernel_rfl) (fun _ _ _ h => h) (Or.inl ⟨by rfl, ?_⟩) (by assumption) ?_
            rotate_left
            · (intro w0 hSw; (try dsimp only at hSw); go_simp; first | done | with_reducible rfl)
            try simp only [Act.put, List.setIfInBounds_toArray, List.set_cons_zero, List.set_cons_succ]
            refine anyL_free (i := 2) (v := ?_) rfl (by kernel_rfl) (by kernel_rfl) (by kernel_rfl) (by kernel_rfl) (fun _ _ _ h => h) (Or.inl ⟨by rfl, ?_⟩) (by assumption) ?_
            rotate_left
            · (intro w0 _; go_simp; first | done | with_reducible rfl)
            try simp only [Act.put, List.setIfInBounds_toArray, List.set_cons_zero, List.set_cons_succ]
            refine anyL_free (i := 3) (v := ?_) rfl (by kernel_rfl) (by kernel_rfl) (by kernel_rfl) (by kernel_rfl) (fun _ _ _ h => h) (Or.inl ⟨by rfl, ?_⟩) (by assumption) ?_
            rotate_left
            · (intro w0 _; go_simp; first | done | with_reducible rfl)
            try simp only [Act.put, List.setIfInBounds_toArray, List.set_cons_zero, List.set_cons_succ]
            refine anyL_free (i := 4) (v := ?_) rfl (by kernel_rfl) (by kernel_rfl) (by kernel_rfl) (by kernel_rfl) (fun _ _ _ h => h) (Or.inl ⟨by rfl, ?_⟩) (by assumption) ?_
            rotate_left
            · (intro w0 _; go_simp; first | done | with_reducible rfl)
            try simp only [Act.put, List.setIfInBounds_toArray, List.set_cons_zero, List.set_cons_succ]
            refine anyL_take (i := 5) (v := ?_) rfl (by kernel_rfl) (by kernel_rfl) (by kernel_rfl) (by kernel_rfl) (by kernel_rfl) (fun _ _ _ h => h) (Or.inl ⟨by rfl, ?_⟩) (by assumption) ?_
            rotate_left
            · (intro w0 hSw; (try dsimp only at hSw); go_simp; first | done | with_reducible rfl)
            try simp only [Act.put, List.setIfInBounds_toArray, List.set_cons_zero, List.set_cons_succ]
            refine anyL_take (i := 6) (v := ?_) rfl (by kernel_rfl) (by kernel_rfl) (by kernel_rfl) (by kernel_rfl) (by kernel_rfl) (fun _ _ _ h => h) (Or.inl ⟨by rfl, ?_⟩) (by assumption) ?_
            rotate_left
            · (intro w0 hSw; (try dsimp only at hSw); go_simp; first | done | with_reducible rfl)
            try simp only [Act.put, List.setIfInBounds_toArray, List.set_cons_zero, List.set_cons_succ]
            refine anyL_take (i := 7) (v := ?_) rfl (by kernel_rfl) (by kernel_rfl) (by kernel_rfl) (by kernel_rfl) (by kernel_rfl) (fun _ _ _ h => h) (Or.inl ⟨by rfl, ?_⟩) (by assumption) ?_
            rotate_left
            · (intro w0 hSw; (try dsimp only at hSw); go_simp; first | done | with_reducible rfl)
            try simp only [Act.put, List.setIfInBounds_toArray, List.set_cons_zero, List.set_cons_succ]
            refine anyL_take (i := 8) (v := ?_) rfl (by kernel_rfl) (by kernel_rfl) (by kernel_rfl) (by kernel_rfl) (by kernel_rfl) (fun _ _ _ h => h) (Or.inl ⟨by rfl, ?_⟩) (by assumption) ?_
            rotate_left
            · (intro w0 hSw; (try dsimp only at hSw); go_simp; first | done | with_reducible rfl)
            try simp only [Act.put, List.setIfInBounds_toArray, List.set_cons_zero, List.set_cons_succ]
            refine anyL_take (i := 9) (v := ?_) rfl (by kernel_rfl) (by kernel_rfl) (by kernel_rfl) (by kernel_rfl) (by kernel_rfl) (fun _ _ _ h => h) (Or.inl ⟨by rfl, ?_⟩) (by assumption) ?_
            rotate_left
            · (intro w0 hSw; (try dsimp only at hSw); go_simp; first | done | with_reducible rfl)
            try simp only [Act.put, List.setIfInBounds_toArray, List.set_cons_zero, List.set_cons_succ]
            refine anyL_free (i := 10) (v := ?_) rfl (by kernel_rfl) (by kernel_rfl) (by kernel_rfl) (by kernel_rfl) (fun _ _ _ h => h) (Or.inl ⟨by rfl, ?_⟩) (by assumption) ?_
            rotate_left
            · (intro w0 _; go_simp; first | done | with_reducible rfl)
            try simp only [Act.put, List.setIfInBounds_toArray, List.set_cons_zero, List.set_cons_succ]
            refine anyL_free (i := 11) (v := ?_) rfl (by kernel_rfl) (by kernel_rfl) (by kernel_rfl) (by kernel_rfl) (fun _ _ _ h => h) (Or.inl ⟨by rfl, ?_⟩) (by assumption) ?_
            rotate_left
            · (intro w0 _; go_simp; first | done | with_reducible rfl)
            try simp only [Act.put, List.setIfInBounds_toArray, List.set_cons_zero, List.set_cons_succ]
            refine anyL_free (i := 12) (v := ?_) rfl (by kernel_rfl) (by kernel_rfl) (by kernel_rfl) (by kernel_rfl) (fun _ _ _ h => h) (Or.inl ⟨by rfl, ?_⟩) (by assumption) ?_
            rotate_left
            · (intro w0 _; go_simp; first | done | with_reducible rfl)
            try simp only [Act.put, List.setIfInBounds_toArray, List.set_cons_zero, List.set_cons_succ]
            refine anyL_take (i := 13) (v := ?_) rfl (by kernel_rfl) (by kernel_rfl) (by kernel_rfl) (by kernel_rfl) (by kernel_rfl) (fun _ _ _ h => h) (Or.inl ⟨by rfl, ?_⟩) (by assumption) ?_
            rotate_left
            · (intro w0 hSw; (try dsimp only at hSw); go_simp; first | done | with_reducible rfl)
            try simp only [Act.put, List.setIfInBounds_toArray, List.set_cons_zero, List.set_cons_succ]
            refine anyL_take (i := 14) (v := ?_) rfl (by kernel_rfl) (by kernel_rfl) (by kernel_rfl) (by kernel_rfl) (by kernel_rfl) (fun _ _ _ h => h) (Or.inl ⟨by rfl, ?_⟩) (by assumption) ?_
            rotate_left
            · (intro w0 hSw; (try dsimp only at hSw); go_simp; first | done | with_reducible rfl)
            try simp only [Act.put, List.setIfInBounds_toArray, List.set_cons_zero, List.set_cons_succ]
            refine anyL_one (i := 15) (by kernel_rfl) rfl (fun K hK => ?_)
            go_simp
            refine hK.out _ _ (fun h => absurd h (by decide +kernel)) (fun _ => ?_)
            clear hK K
            try simp only [Act.put, List.setIfInBounds_toArray, List.set_cons_zero, List.set_cons_succ]
            refine anyL_one (i := 16) (by kernel_rfl) rfl (fun K hK => ?_)
            go_simp
            refine hK.out _ _ (fun h => absurd h (by decide +kernel)) (fun _ => ?_)
            clear hK K
            try simp only [Act.put, List.setIfInBounds_toArray, List.set_cons_zero, List.set_cons_succ]
            refine anyL_one (i := 17) (by kernel_rfl) rfl (fun K hK => ?_)
            go_simp
            refine hK.out _ _ (fun h => absurd h (by decide +kernel)) (fun _ => ?_)
            clear hK K
            try simp only [Act.put, List.setIfInBounds_toArray, List.set_cons_zero, List.set_cons_succ]
            refine anyL_done (by kernel_rfl) ?_ _
            refine NoPanic.normal ?_
            try simp only [Act.put, List.setIfInBounds_toArray, List.set_cons_zero, List.set_cons_succ]
            go_wp2
            go_roundg j
            case measure => omega
            case rel => exact ⟨j, A', y :: B, by go_num, by omega, Nat.le_refl _, hA', I1, hB1, heap_below G3.out (Below.refl _ _).drew (heap_lt G3.out), K3.out.below (Below.refl _ _).drew⟩
          · have hq0 : ¬ q < 0 := fun h => hxy (hq.1 h)
            have HR : Hid (Row ((A' ++ [y]) ++ x :: B)) := I.out.placed hxy
            clear I hBl GA KA GB hcall HP hS0 hbd
            rw [show decide (q < 0) = false from decide_eq_false hq0]
            clear hq0
            go_wp2
            go_roundg (n + 1 - (i + 1))
            case measure => omega
            case rel => exact HX.out _ _ hb01 (by omega) (Nat.le_refl _) HR.out
    · have hin : i = n ∨ i = n + 1 := by omega
      have HY : Aside (Row ys) := by
        have := Y.out.1
        rwa [List.take_of_length_le (by have := Y.out.2.1; omega)] at this
      go_wp2
      have h0 : off = 0 := hoff.out.symm
      subst h0
      exact bodyPost_end (v := .tuple #[]) (by simp [results, go_sem]) rfl ⟨rfl, ys, HY.out, Y.out.2.2.1, Y.out.2.1, G.out, KK.out⟩

end Go.Proofs.Ytbokdcdnandgbae
namespace Go.Proofs.Ytbokdcdnandgbae
open Go.RowKit Go.Shelf

set_option maxHeartbeats 2000000 in
theorem pdq (g : Nat) (lb : Array Value) (v : Value) (n : Nat) (lim : Int) (w : World) (R : World → Prop) (hv : ∃ a c, v = .slice a n c) (hn : n ≤ 12)
    (hs : Calls Try.prog 106 #[v, .int .i64 0, .int .i64 n, .func (.func g) #[] lb] w fun e w' => e = .returned (.tuple #[]) ∧ R w') :
    Calls Try.prog 94 #[v, .int .i64 0, .int .i64 n, .int .i64 lim, .func (.func g) #[] lb] w fun e w' => e = .returned (.tuple #[]) ∧ R w' := by
  obtain ⟨a, c, rfl⟩ := hv
  have hn' : (n : Int) ≤ 12 := by omega
  go_enter Try.func94, Try.ntmps94
  go_wp2_with fail
  refine wp_loop_once ?_
  go_wp2_with fail
  refine hs.mono ?_
  rintro e w1 ⟨rfl, hR⟩
  go_wp2
  exact bodyPost_ret (v := .tuple #[]) (by simp [results, go_sem]) rfl ⟨rfl, hR⟩

set_option maxHeartbeats 4000000 in
set_option maxRecDepth 100000 in
theorem bitsLen64 (n : Nat) (hn : n ≤ 12) (w : World) : Calls Try.prog 115 #[.int .u64 n] w fun e w' => ∃ q : Int, e = .returned (.int .i64 q) ∧ w' = w := by
  obtain rfl | rfl | rfl | rfl | rfl | rfl | rfl | rfl | rfl | rfl | rfl | rfl | rfl : n = 0 ∨ n = 1 ∨ n = 2 ∨ n = 3 ∨ n = 4 ∨ n = 5 ∨ n = 6 ∨ n = 7 ∨ n = 8 ∨ n = 9 ∨ n = 10 ∨ n = 11 ∨ n = 12 := by omega
  all_goals
    go_enter Try.func115, Try.ntmps115
    go_wp2
    go_ret
    exact ⟨_, rfl, rfl⟩

set_option maxHeartbeats 2000000 in
theorem bitsLen (n : Nat) (hn : n ≤ 12) (w : World) : Calls Try.prog 95 #[.int .u64 n] w fun e w' => ∃ q : Int, e = .returned (.int .i64 q) ∧ w' = w := by
  have hl := bitsLen64 n hn w
  go_enter Try.func95, Try.ntmps95
  go_wp2_with fail
  refine hl.mono ?_
  rintro e w1 ⟨q, rfl, rfl⟩
  go_wp2
  go_ret
  exact ⟨_, rfl, rfl⟩

set_option maxHeartbeats 2000000 in
theorem sortF (g : Nat) (lb : Array Value) (v : Value) (n : Nat) (w : World) (R : World → Prop) (hv : ∃ a c, v = .slice a n c) (hn : n ≤ 12)
    (hs : Calls Try.prog 106 #[v, .int .i64 0, .int .i64 n, .func (.func g) #[] lb] w fun e w' => e = .returned (.tuple #[]) ∧ R w') :
    Calls Try.prog 71 #[v, .func (.func g) #[] lb] w fun e w' => e = .returned (.tuple #[]) ∧ R w' := by
  have hp := fun lim => pdq g lb v n lim w R hv hn hs
  have hl := bitsLen n hn w
  obtain ⟨a, c, rfl⟩ := hv
  have hn' : (n : Int) ≤ 12 := by omega
  clear hs
  go_enter Try.func71, Try.ntmps71
  go_wp2_with fail
  refine hl.mono ?_
  rintro e w1 ⟨q, rfl, rfl⟩
  go_wp2_with fail
  refine (hp _).mono ?_
  rintro e w2 ⟨rfl, hR⟩
  go_wp2
  exact bodyPost_end (v := .tuple #[]) (by simp [results, go_sem]) rfl ⟨rfl, hR⟩

end Go.Proofs.Ytbokdcdnandgbae
namespace Go.Proofs.Ytbokdcdnandgbae
open Go.RowKit Go.Shelf

set_option maxHeartbeats 1000000 in
theorem isort0 (g : Nat) (lb : Array Value) (a : Option Addr) (c : Nat) (w : World) :
    Calls Try.prog 106 #[.slice a 0 c, .int .i64 0, .int .i64 (0 : Nat), .func (.func g) #[] lb] w fun e w' => e = .returned (.tuple #[]) ∧ w' = w := by
  go_enter Try.func106, Try.ntmps106
  go_wp2_with fail
  refine wp_loop_once ?_
  go_wp2
  exact bodyPost_end (v := .tuple #[]) (by simp [results, go_sem]) rfl ⟨rfl, rfl⟩

theorem srt_apart : ∀ {l : Int} {js : List Jb}, Srt l js → js.Pairwise (fun y z => y.i ≠ z.i)
  | _, [], _ => List.Pairwise.nil
  | _, x :: r, h => List.Pairwise.cons (fun y hy => by have := Srt.above h.2 y hy; omega) (srt_apart h.2)

/-- The jobs that are due, in the book's order. -/
def late (t : Int) (js : List Jb) : List Jb := js.filter fun y => decide (y.n ≤ t)

theorem late_row {js ys : List Jb} {rs : List Rg} {t : Int} (hok : Ok js rs) (hr : Row ys) (hm : ∀ z, z ∈ ys ↔ z ∈ late t js) : ys = dueOf js t := by
  refine row_ext hr (dueOf_row t hok.srt) fun z => ?_
  rw [hm z, dueOf_mem, late, List.mem_filter]
  simp

end Go.Proofs.Ytbokdcdnandgbae
