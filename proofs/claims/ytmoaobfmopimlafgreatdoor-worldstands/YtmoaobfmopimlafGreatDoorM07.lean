/- For the law. -/
import Derived.Test.YtmoaobfmopimlafGreatDoorM06
import Derived.Lib.ParseIntBTie
import Derived.Lib.SplitLaws
import Derived.Maps.AppendAt
import Derived.OwnWalk
set_option linter.unusedSimpArgs false
set_option linter.unusedVariables false
namespace Go.Proofs.YtmoaobfmopimlafGreatDoor
open Go.RowKit
abbrev Rc.val (r : Rc) : Value := .agg #[.int .i64 r.k, .int .i64 r.a, .int .i64 r.p, .int .i64 r.e.k, .int .i64 r.e.j, .int .i64 r.e.v, .int .i64 r.e.t, .int .i64 r.e.c]
abbrev boxRc (r : Rc) : Obj := .cells #[.int .i64 r.k, .int .i64 r.a, .int .i64 r.p, .int .i64 r.e.k, .int .i64 r.e.j, .int .i64 r.e.v, .int .i64 r.e.t, .int .i64 r.e.c] 94
def Rc.same (r q : Rc) : Bool := decide (r.k = q.k ∧ r.a = q.a ∧ r.p = q.p) && !unlike r.e.k r.e.j r.e.v r.e.t r.e.c q.e.k q.e.j q.e.v q.e.t q.e.c
theorem eqIn_rec (r q : Rc) (w : World) : (Op.equalIn 10000 94 r.val q.val).run Tryz.prog w = .ok (r.same q) w := by
 have u3 := Tryz.underlying3
 have a3 := Tryz.isAgg3
 have z3 := Tryz.sizeOf3
 have hS : Tryz.prog.underlying 94 = some (.struct (Tryz.prog.fieldsOf 94)) := by kernel_rfl
 have hp : Tryz.prog.stoodInHeld 94 = false := by kernel_rfl
 rw [show (10000 : Nat) = 9999 + 1 from rfl, run_equalIn_agg w 9999 94 _ _ hS hp]
 simp only [Program.fieldsOf, Tryz.underlying94]
 go_simp
 unfold Rc.same
 by_cases h1 : r.k = q.k <;> by_cases h2 : r.a = q.a <;> by_cases h3 : r.p = q.p <;> simp [h1, h2, h3]
 unfold unlike
 by_cases k1 : r.e.k = q.e.k <;> by_cases k2 : r.e.j = q.e.j <;> by_cases k3 : r.e.v = q.e.v <;> by_cases k4 : r.e.t = q.e.t <;> by_cases k5 : r.e.c = q.e.c <;> simp [k1, k2, k3, k4, k5]
theorem eqlR (r q : Rc) (w : World) : (binOp .eql 94 r.val q.val).run Tryz.prog w = .ok (.bool (r.same q)) w := by
 rw [run_eql_struct, eqIn_rec]
 rfl
theorem step_below1 {w a b : World} (h : Below w.heap.size w a) (hb : Below a.heap.size a b) : Below w.heap.size w b := h.trans (hb.mono h.size)
theorem eight_stores {W : World} {b : Nat} {q : Rc} (h : W.heap[b]? = some (boxRc q)) (r : Rc) :
  ((((((((W.setCell ⟨b, 0, none⟩ (.int .i64 r.k)).setCell ⟨b, 1, none⟩ (.int .i64 r.a)).setCell ⟨b, 2, none⟩ (.int .i64 r.p)).setCell ⟨b, 3, none⟩ (.int .i64 r.e.k)).setCell ⟨b, 4, none⟩ (.int .i64 r.e.j)).setCell ⟨b, 5, none⟩ (.int .i64 r.e.v)).setCell ⟨b, 6, none⟩ (.int .i64 r.e.t)).setCell ⟨b, 7, none⟩ (.int .i64 r.e.c)).heap[b]? = some (boxRc r) := by
 have h1 := Joins.block_setCell h (i := 0) (.int .i64 r.k)
 have h2 := Joins.block_setCell h1 (i := 1) (.int .i64 r.a)
 have h3 := Joins.block_setCell h2 (i := 2) (.int .i64 r.p)
 have h4 := Joins.block_setCell h3 (i := 3) (.int .i64 r.e.k)
 have h5 := Joins.block_setCell h4 (i := 4) (.int .i64 r.e.j)
 have h6 := Joins.block_setCell h5 (i := 5) (.int .i64 r.e.v)
 have h7 := Joins.block_setCell h6 (i := 6) (.int .i64 r.e.t)
 have h8 := Joins.block_setCell h7 (i := 7) (.int .i64 r.e.c)
 simp only [List.setIfInBounds_toArray, List.set_cons_zero, List.set_cons_succ] at h8
 exact h8
theorem below_eight {B : Nat} {a W : World} {b : Nat} (h : Below B a W) (hb : B ≤ b) (v0 v1 v2 v3 v4 v5 v6 v7 : Value) :
  Below B a ((((((((W.setCell ⟨b, 0, none⟩ v0).setCell ⟨b, 1, none⟩ v1).setCell ⟨b, 2, none⟩ v2).setCell ⟨b, 3, none⟩ v3).setCell ⟨b, 4, none⟩ v4).setCell ⟨b, 5, none⟩ v5).setCell ⟨b, 6, none⟩ v6).setCell ⟨b, 7, none⟩ v7) :=
 (((((((h.setCell hb _).setCell hb _).setCell hb _).setCell hb _).setCell hb _).setCell hb _).setCell hb _).setCell hb _
section
open Go.ChangeShapes
open Go.WideShapes
open Go.ChangeAt
open Go.ChangeMaps (open_string shut_string)
theorem cR : Tryz.prog.cellsOf 94 = 8 := by kernel_rfl
section
variable {H : Type} {enc : TypeId × Value → H} {w : World} {base : Nat} {spare : Nat → Bool} {held : Bool}
end
end
def sealL : List UInt8 := [115, 101, 97, 108, 32]
def Rc.txt (r : Rc) : List UInt8 := if r.k = 2 then sealL ++ Lib.itoa r.p else Lib.itoa r.a ++ ([58, 32] ++ r.e.txt)
def Rc.ptx (r : Rc) : List UInt8 := if r.chk = 0 then r.txt else []
def Rc.fin (r : Rc) : Rc × Int := if r.chk = 0 then (r, 0) else (Rc.zero, r.chk)
def rcRead (l : List UInt8) : Rc × Int :=
 if sealL.isPrefixOf l = true then (match numOf (l.drop 5) with | none => (Rc.zero, 1) | some p => (⟨2, 0, p, En.zero⟩ : Rc).fin)
 else if (Lib.cut l [58, 32]).2.2 = false then (Rc.zero, 1)
 else match numOf (Lib.cut l [58, 32]).1 with
  | none => (Rc.zero, 1)
  | some a => if ¬ (prs (Lib.cut l [58, 32]).2.1).2 = 0 then (Rc.zero, (prs (Lib.cut l [58, 32]).2.1).2) else (⟨1, a, 0, (prs (Lib.cut l [58, 32]).2.1).1⟩ : Rc).fin
theorem itoa_digits (x : Int) (h0 : 0 ≤ x) : ∀ c, c ∈ Lib.itoa x → 48 ≤ c.toNat ∧ c.toNat ≤ 57 := by
 intro c hc
 have e : Lib.itoa x = Lib.decDigits x.toNat := by
  unfold Lib.itoa
  rw [if_neg (by omega)]
 rw [e] at hc
 exact dec_mem _ c hc
theorem itoa_ne (x : Int) (h0 : 0 ≤ x) : Lib.itoa x ≠ [] := by
 have e : Lib.itoa x = Lib.decDigits x.toNat := by
  unfold Lib.itoa
  rw [if_neg (by omega)]
 rw [e]
 exact dec_ne _
theorem occAt_colon (a b : List UInt8) : Lib.occAt (a ++ ([58, 32] ++ b)) [58, 32] a.length = true := by
 unfold Lib.occAt
 rw [List.drop_left]
 simp
theorem occAt_nocolon (l : List UInt8) (i : Nat) (h : ∀ x, l[i]? = some x → x ≠ 58) : Lib.occAt l [58, 32] i = false := by
 unfold Lib.occAt
 rcases hd : l.drop i with _ | ⟨x, r⟩
 ·rfl
 ·have hx : l[i]? = some x := by
   have := List.getElem?_drop (xs := l) (i := i) (j := 0)
   rw [hd] at this
   simpa using this.symm
  have hne : ((58 : UInt8) == x) = false := by
   rw [beq_eq_false_iff_ne]; exact fun e => h x hx e.symm
  show (((58 : UInt8) == x) && ([32] : List UInt8).isPrefixOf r) = false
  rw [hne]; rfl
theorem cut_colon (a b : List UInt8) (h : (58 : UInt8) ∉ a) : Lib.cut (a ++ ([58, 32] ++ b)) [58, 32] = (a, b, true) := by
 have hi : Lib.index (a ++ ([58, 32] ++ b)) [58, 32] = a.length := Lib.index_first (by simp) (occAt_colon a b) (fun j hj => occAt_nocolon _ _ (fun x hx => by
  rw [List.getElem?_append_left hj] at hx
  exact fun e => h (e ▸ List.mem_of_getElem? hx)))
 unfold Lib.cut
 rw [hi, if_pos (by omega)]
 simp
theorem cut_colon_back (l a b : List UInt8) (h : Lib.cut l [58, 32] = (a, b, true)) : l = a ++ ([58, 32] ++ b) := by
 unfold Lib.cut at h
 rcases Lib.index_spec l [58, 32] with ⟨h1, _⟩ | ⟨i, h1, h2, h3, _⟩
 ·rw [h1, if_neg (by omega)] at h; cases h
 ·rw [h1, if_pos (by omega)] at h
  simp only [Int.toNat_natCast, List.length_cons, List.length_nil, Prod.mk.injEq] at h
  obtain ⟨rfl, rfl, _⟩ := h
  unfold Lib.occAt at h3
  have hp := List.isPrefixOf_iff_prefix.1 h3
  obtain ⟨t, ht⟩ := hp
  have : l.drop (i + (0 + 1 + 1)) = t := by
   rw [← List.drop_drop, ← ht]
   rfl
  rw [this, ht, List.take_append_drop]
theorem seal_prefix {l : List UInt8} (h : sealL.isPrefixOf l = true) : l = sealL ++ l.drop 5 := by
 obtain ⟨t, rfl⟩ := List.isPrefixOf_iff_prefix.1 h
 rfl
theorem read_txt {r : Rc} (h : r.chk = 0) : rcRead r.txt = (r, 0) := by
 by_cases hk : r.k = 2
 ·obtain ⟨hp, hr⟩ := Rc.seal h hk
  have hn := numOf_itoa r.p (by omega) (by omega)
  unfold rcRead Rc.txt
  rw [if_pos hk, if_pos (List.isPrefixOf_iff_prefix.2 ⟨_, rfl⟩), show (sealL ++ Lib.itoa r.p).drop 5 = Lib.itoa r.p from rfl, hn]
  show Rc.fin _ = _
  rw [← hr, Rc.fin, if_pos h]
 ·obtain ⟨h1, ha, hp, he⟩ := Rc.write h hk
  have hd := itoa_digits r.a ha.1
  have hno : (58 : UInt8) ∉ Lib.itoa r.a := fun hm => by
   have := hd 58 hm
   simp at this
  have hpre : ¬ sealL.isPrefixOf (Lib.itoa r.a ++ ([58, 32] ++ r.e.txt)) = true := fun hm => by
   obtain ⟨t, ht⟩ := List.isPrefixOf_iff_prefix.1 hm
   cases hi : Lib.itoa r.a with
   | nil => exact itoa_ne r.a ha.1 hi
   | cons c cs =>
    rw [hi] at ht
    have hc : (115 : UInt8) = c := by
     have := congrArg (fun l => l[0]?) ht
     simpa [sealL] using this
    have := hd c (by rw [hi]; simp)
    rw [← hc] at this
    simp at this
  unfold rcRead Rc.txt
  rw [if_neg hk, if_neg hpre, cut_colon _ _ hno, if_neg (by simp)]
  simp only
  rw [numOf_itoa r.a ha.1 (by omega), prs_txt he]
  simp only
  rw [if_neg (by simp)]
  have hr : (⟨1, r.a, 0, r.e⟩ : Rc) = r := by cases r; simp_all
  rw [hr, Rc.fin, if_pos h]
theorem fin_zero {r : Rc} (h : r.fin.2 = 0) : r.chk = 0 ∧ r.fin = (r, 0) := by
 unfold Rc.fin at h ⊢
 by_cases hc : r.chk = 0
 ·rw [if_pos hc]; exact ⟨hc, rfl⟩
 ·rw [if_neg hc] at h; exact absurd h hc
theorem txt_read {l : List UInt8} (h : (rcRead l).2 = 0) : (rcRead l).1.chk = 0 ∧ (rcRead l).1.txt = l := by
 unfold rcRead at h ⊢
 by_cases hp : sealL.isPrefixOf l = true
 ·rw [if_pos hp] at h ⊢
  cases hn : numOf (l.drop 5) with
  | none => rw [hn] at h; cases h
  | some p =>
   rw [hn] at h
   obtain ⟨h1, h2⟩ := fin_zero h
   simp only
   rw [h2]
   refine ⟨h1, ?_⟩
   show Rc.txt _ = l
   unfold Rc.txt
   rw [if_pos rfl]
   show sealL ++ Lib.itoa p = l
   rw [itoa_numOf _ _ hn]
   exact (seal_prefix hp).symm
 ·rw [if_neg hp] at h ⊢
  cases hc : (Lib.cut l [58, 32]).2.2 with
  | false => rw [hc, if_pos rfl] at h; cases h
  | true =>
   rw [hc, if_neg (by simp)] at h
   rw [if_neg (by simp)]
   cases hn : numOf (Lib.cut l [58, 32]).1 with
   | none => rw [hn] at h; cases h
   | some a =>
    rw [hn] at h
    simp only at h ⊢
    by_cases he : (prs (Lib.cut l [58, 32]).2.1).2 = 0
    ·rw [if_neg (by simpa using he)] at h ⊢
     obtain ⟨h1, h2⟩ := fin_zero h
     rw [h2]
     refine ⟨h1, ?_⟩
     show Rc.txt _ = l
     unfold Rc.txt
     rw [if_neg (by simp)]
     show Lib.itoa a ++ ([58, 32] ++ (prs (Lib.cut l [58, 32]).2.1).1.txt) = l
     rw [(txt_prs he).2, itoa_numOf _ _ hn]
     exact (cut_colon_back l _ _ (by rw [← hc])).symm
    ·rw [if_pos he] at h
     exact absurd h he
theorem itoa_any (n : Int) (w : World) (hL : Laid w) (h0 : -9223372036854775808 ≤ n) (h1 : n ≤ 9223372036854775807) :
  Calls Tryz.prog 126 #[.int .i64 n] w fun e w' => e = .returned (.string ⟨(Lib.itoa n).toArray⟩) ∧ Below w.heap.size w w' :=
 (Tryz.strconv_Itoa n h0 h1 w hL.pow).mono fun _ _ ⟨he, hw⟩ => ⟨he, below_itoa hw⟩
theorem data_append (a b : ByteArray) : (a ++ b).data.toList = a.data.toList ++ b.data.toList := by
 simp [ByteArray.data_append]
def words (l : List UInt8) : List (List UInt8) := Lib.splitK [32] 0 (Lib.count l [32]) l
theorem bytes_eta (s : ByteArray) : s = ⟨s.data.toList.toArray⟩ := by
 obtain ⟨⟨x⟩⟩ := s; rfl
theorem occAt_nl (a b : List UInt8) : Lib.occAt (a ++ 10 :: b) [10] a.length = true := by
 unfold Lib.occAt
 rw [List.drop_left]
 simp
theorem nl_index_no {l : List UInt8} (h : (Lib.cut l [10]).2.2 = false) : Lib.index l [10] = -1 := by
 unfold Lib.cut at h
 split at h
 ·cases h
 ·rename_i h'
  have := Lib.index_ge l [10]
  omega
theorem nl_back (l a b : List UInt8) (h : Lib.cut l [10] = (a, b, true)) : l = a ++ 10 :: b := by
 unfold Lib.cut at h
 rcases Lib.index_spec l [10] with ⟨h1, _⟩ | ⟨i, h1, h2, h3, _⟩
 ·rw [h1, if_neg (by omega)] at h; cases h
 ·rw [h1, if_pos (by omega)] at h
  simp only [Int.toNat_natCast, List.length_cons, List.length_nil, Prod.mk.injEq] at h
  obtain ⟨rfl, rfl, _⟩ := h
  unfold Lib.occAt at h3
  rcases hd : l.drop i with _ | ⟨x, r⟩
  ·rw [hd] at h3; cases h3
  ·rw [hd] at h3
   simp at h3
   subst h3
   have : l.drop (i + 1) = r := by rw [← List.drop_drop, hd]; rfl
   rw [show i + (0 + 1) = i + 1 from rfl, this, ← hd, List.take_append_drop]
theorem nl_whole (l a b : List UInt8) (h : Lib.cut l [10] = (a, b, false)) : a = l := by
 unfold Lib.cut at h
 split at h
 ·cases h
 ·injection h with h _; exact h.symm
theorem nl_first {l a b : List UInt8} (h : Lib.cut l [10] = (a, b, true)) : (10 : UInt8) ∉ a ∧ Lib.index l [10] = a.length := by
 have hl := nl_back l a b h
 unfold Lib.cut at h
 rcases Lib.index_spec l [10] with ⟨h1, _⟩ | ⟨i, h1, h2, _, h4⟩
 ·rw [h1, if_neg (by omega)] at h; cases h
 ·rw [h1, if_pos (by omega)] at h
  simp only [Int.toNat_natCast, Prod.mk.injEq] at h
  obtain ⟨ha, _, _⟩ := h
  have hal : a.length = i := by rw [← ha, List.length_take]; omega
  refine ⟨fun hm => ?_, by rw [h1, hal]⟩
  obtain ⟨j, hj, e⟩ := List.getElem_of_mem hm
  have h5 := h4 j (by omega)
  unfold Lib.occAt at h5
  have : l.drop j = 10 :: (a.drop (j + 1) ++ 10 :: b) := by
   rw [hl, List.drop_append_of_le_length (by omega), List.drop_eq_getElem_cons hj, e]
   rfl
  rw [this] at h5
  cases h5
theorem occAt_nl_no (l : List UInt8) (i : Nat) (h : ∀ x, l[i]? = some x → x ≠ 10) : Lib.occAt l [10] i = false := by
 unfold Lib.occAt
 rcases hd : l.drop i with _ | ⟨x, r⟩
 ·rfl
 ·have hx : l[i]? = some x := by
   have := List.getElem?_drop (xs := l) (i := i) (j := 0)
   rw [hd] at this
   simpa using this.symm
  have hne : ((10 : UInt8) == x) = false := by
   rw [beq_eq_false_iff_ne]; exact fun e => h x hx e.symm
  show (((10 : UInt8) == x) && ([] : List UInt8).isPrefixOf r) = false
  rw [hne]; rfl
theorem cut_nl (a b : List UInt8) (h : (10 : UInt8) ∉ a) : Lib.cut (a ++ 10 :: b) [10] = (a, b, true) := by
 have hi : Lib.index (a ++ 10 :: b) [10] = a.length := Lib.index_first (by simp) (occAt_nl a b) (fun j hj => occAt_nl_no _ _ (fun x hx => by
  rw [List.getElem?_append_left hj] at hx
  exact fun e => h (e ▸ List.mem_of_getElem? hx)))
 unfold Lib.cut
 rw [hi, if_pos (by omega)]
 simp
theorem itoa_no_nl (x : Int) (h0 : 0 ≤ x) : (10 : UInt8) ∉ Lib.itoa x := by
 unfold Lib.itoa
 rw [if_neg (by omega)]
 intro h
 have := dec_mem _ _ h
 have e : (10 : UInt8).toNat = 10 := rfl
 omega
theorem words_no_nl {e : En} (h : e.chk = 0) : ∀ x, x ∈ e.words → (10 : UInt8) ∉ x := by
 obtain ⟨b0, b1, b2⟩ := nums_range h
 intro x hx
 have hx := List.mem_of_mem_take hx
 simp only [List.mem_cons, List.not_mem_nil, or_false] at hx
 rcases hx with rfl | rfl | rfl | rfl
 ·unfold nameL
  split
  ·decide
  split
  ·decide
  split <;> decide
 ·exact itoa_no_nl _ b0.1
 ·exact itoa_no_nl _ b1.1
 ·exact itoa_no_nl _ b2.1
theorem join_no_nl : ∀ (ws : List (List UInt8)), (∀ x, x ∈ ws → (10 : UInt8) ∉ x) → (10 : UInt8) ∉ Lib.join ws [32]
 | [], _ => by rw [Lib.join_nil]; simp
 | [x], h => by rw [Lib.join_one]; exact h x (by simp)
 | x :: y :: r, h => by
  have hj : Lib.join (x :: y :: r) [32] = x ++ 32 :: Lib.join (y :: r) [32] := by
   rw [Lib.join_cons, Lib.join_cons]
   simp [Lib.joinTail]
  have ih := join_no_nl (y :: r) (fun z hz => h z (List.mem_cons_of_mem _ hz))
  rw [hj]
  intro hm
  rcases List.mem_append.1 hm with hm | hm
  ·exact h x (by simp) hm
  ·rcases List.mem_cons.1 hm with hm | hm
   ·cases hm
   ·exact ih hm
theorem txt_no_nl {e : En} (h : e.chk = 0) : (10 : UInt8) ∉ e.txt := join_no_nl _ (words_no_nl h)
def dl (most : Nat) : Nat → List UInt8 → List Rc → Nat → List Rc × Nat × Int
 | 0, _, acc, n => (acc, n, 0)
 | f + 1, l, acc, n => if l = [] then (acc, n, 0) else if (Lib.cut l [10]).2.2 = false then (acc, n, 9) else if (rcRead (Lib.cut l [10]).1).2 ≠ 0 then (acc, n, (rcRead (Lib.cut l [10]).1).2)
   else if most ≤ acc.length then (acc, n, 2) else dl most f (Lib.cut l [10]).2.1 (acc ++ [(rcRead (Lib.cut l [10]).1).1]) (n + (Lib.cut l [10]).1.length + 1)
def linesOf (l : List UInt8) (most : Nat) : List Rc × Nat × Int := dl most (l.length + 1) l [] 0
theorem dl_nil (most f : Nat) (acc : List Rc) (n : Nat) : dl most (f + 1) [] acc n = (acc, n, 0) := by rw [dl, if_pos rfl]
theorem dl_torn (most f : Nat) (acc : List Rc) (n : Nat) {l a b : List UInt8} (hl : l ≠ []) (h : Lib.cut l [10] = (a, b, false)) : dl most (f + 1) l acc n = (acc, n, 9) := by rw [dl, if_neg hl, if_pos (by rw [h])]
theorem dl_bad (most f : Nat) (acc : List Rc) (n : Nat) {l a b : List UInt8} (hl : l ≠ []) (h : Lib.cut l [10] = (a, b, true)) (hp : (rcRead a).2 ≠ 0) : dl most (f + 1) l acc n = (acc, n, (rcRead a).2) := by
 rw [dl, if_neg hl, if_neg (by rw [h]; simp), h, if_pos hp]
theorem dl_many (most f : Nat) (acc : List Rc) (n : Nat) {l a b : List UInt8} (hl : l ≠ []) (h : Lib.cut l [10] = (a, b, true)) (hp : (rcRead a).2 = 0) (hm : most ≤ acc.length) : dl most (f + 1) l acc n = (acc, n, 2) := by
 rw [dl, if_neg hl, if_neg (by rw [h]; simp), h, if_neg (by simp [hp]), if_pos hm]
theorem dl_more (most f : Nat) (acc : List Rc) (n : Nat) {l a b : List UInt8} (hl : l ≠ []) (h : Lib.cut l [10] = (a, b, true)) (hp : (rcRead a).2 = 0) (hm : ¬ most ≤ acc.length) : dl most (f + 1) l acc n = dl most f b (acc ++ [(rcRead a).1]) (n + a.length + 1) := by
 rw [dl, if_neg hl, if_neg (by rw [h]; simp), h, if_neg (by simp [hp]), if_neg hm]
theorem dl_fuel (most : Nat) : ∀ (f f' : Nat) (l : List UInt8) (acc : List Rc) (n : Nat), l.length < f → l.length < f' → dl most f l acc n = dl most f' l acc n
 | 0, _, _, _, _, h, _ => by omega
 | _, 0, _, _, _, _, h => by omega
 | f + 1, f' + 1, l, acc, n, h, h' => by
  by_cases hl : l = []
  ·subst hl; rw [dl_nil, dl_nil]
  ·rcases hc : Lib.cut l [10] with ⟨a, b, g⟩
   cases g with
   | false => rw [dl_torn _ _ _ _ hl hc, dl_torn _ _ _ _ hl hc]
   | true =>
    by_cases hp : (rcRead a).2 = 0
    ·by_cases hm : most ≤ acc.length
     ·rw [dl_many _ _ _ _ hl hc hp hm, dl_many _ _ _ _ hl hc hp hm]
     ·rw [dl_more _ _ _ _ hl hc hp hm, dl_more _ _ _ _ hl hc hp hm]
      have hb := nl_back l a b hc
      have : b.length < l.length := by rw [hb]; simp; omega
      exact dl_fuel most f f' b _ _ (by omega) (by omega)
    ·rw [dl_bad _ _ _ _ hl hc hp, dl_bad _ _ _ _ hl hc hp]
theorem dl_spec (most : Nat) : ∀ (f : Nat) (l : List UInt8) (acc : List Rc) (n : Nat), acc.length ≤ most → (dl most f l acc n).1.length ≤ most ∧ n ≤ (dl most f l acc n).2.1 ∧ (dl most f l acc n).2.1 ≤ n + l.length
 | 0, l, acc, n, h => ⟨h, Nat.le_refl _, Nat.le_add_right _ _⟩
 | f + 1, l, acc, n, h => by
  by_cases hl : l = []
  ·subst hl; rw [dl_nil]; exact ⟨h, Nat.le_refl _, Nat.le_add_right _ _⟩
  ·rcases hc : Lib.cut l [10] with ⟨a, b, g⟩
   cases g with
   | false => rw [dl_torn _ _ _ _ hl hc]; exact ⟨h, Nat.le_refl _, Nat.le_add_right _ _⟩
   | true =>
    by_cases hp : (rcRead a).2 = 0
    ·by_cases hm : most ≤ acc.length
     ·rw [dl_many _ _ _ _ hl hc hp hm]; exact ⟨h, Nat.le_refl _, Nat.le_add_right _ _⟩
     ·rw [dl_more _ _ _ _ hl hc hp hm]
      have hb := nl_back l a b hc
      have hbl : l.length = a.length + 1 + b.length := by rw [hb]; simp; omega
      obtain ⟨h1, h2, h3⟩ := dl_spec most f b (acc ++ [(rcRead a).1]) (n + a.length + 1) (by simp; omega)
      exact ⟨h1, by omega, by omega⟩
    ·rw [dl_bad _ _ _ _ hl hc hp]; exact ⟨h, Nat.le_refl _, Nat.le_add_right _ _⟩
theorem lines_len (l : List UInt8) (most : Nat) : (linesOf l most).1.length ≤ most ∧ (linesOf l most).2.1 ≤ l.length := by
 obtain ⟨h1, _, h3⟩ := dl_spec most (l.length + 1) l [] 0 (Nat.zero_le _)
 exact ⟨h1, by unfold linesOf; omega⟩
def ckDisk (s t : List UInt8) : Int := if 30000 < s.length ∨ 30000 - s.length < t.length then 2 else (linesOf s 160).2.2
theorem ckDisk_zero {s t : List UInt8} : ckDisk s t = 0 ↔ s.length + t.length ≤ 30000 ∧ (linesOf s 160).2.2 = 0 := by
 unfold ckDisk
 split
 ·exact ⟨fun h => (by cases h), fun h => (by omega)⟩
 ·exact ⟨fun h => ⟨by omega, h⟩, fun h => h.2⟩
abbrev Dk := List UInt8 × List UInt8
def putOn (s t : List UInt8) (c : Rc) : Dk × Int := if c.chk ≠ 0 then (([], []), c.chk) else if 30000 < s.length + t.length + c.txt.length + 1 then (([], []), 2) else ((s, t ++ (c.txt ++ [10])), 0)
def synced (s t : List UInt8) : Dk × Int := if ckDisk (s ++ t) [] ≠ 0 then (([], []), ckDisk (s ++ t) []) else ((s ++ t, []), 0)
def recovered (s t : List UInt8) : Dk × List Rc := ((s ++ t.take (linesOf t (160 - (linesOf s 160).1.length)).2.1, []), (linesOf s 160).1 ++ (linesOf t (160 - (linesOf s 160).1.length)).1)
def dput (s t : List UInt8) (c : Rc) : Dk × Int := if ckDisk s t ≠ 0 then (([], []), ckDisk s t) else putOn s t c
def dsync (s t : List UInt8) : Dk × Int := if ckDisk s t ≠ 0 then (([], []), ckDisk s t) else synced s t
def dcrash (s t : List UInt8) (n : Int) : Dk × Int := if ckDisk s t ≠ 0 then (([], []), ckDisk s t) else if n < 0 ∨ (t.length : Int) < n then (([], []), 3) else ((s, t.take n.toNat), 0)
def drecover (s t : List UInt8) : Dk × List Rc × Int := if ckDisk s t ≠ 0 then (([], []), [], ckDisk s t) else ((recovered s t).1, (recovered s t).2, 0)
def rtxt (rs : List Rc) : List UInt8 := rs.flatMap fun c => c.txt ++ [10]
theorem rtxt_cons (c : Rc) (r : List Rc) : rtxt (c :: r) = c.txt ++ 10 :: rtxt r := by simp [rtxt]
theorem rtxt_append (a b : List Rc) : rtxt (a ++ b) = rtxt a ++ rtxt b := by simp [rtxt]
theorem rc_no_nl {r : Rc} (h : r.chk = 0) : (10 : UInt8) ∉ r.txt := by
 unfold Rc.txt
 by_cases hk : r.k = 2
 ·rw [if_pos hk]
  obtain ⟨hp, _⟩ := Rc.seal h hk
  intro hm
  rcases List.mem_append.1 hm with hm | hm
  ·revert hm; decide
  ·exact itoa_no_nl r.p (by omega) hm
 ·rw [if_neg hk]
  obtain ⟨_, ha, _, he⟩ := Rc.write h hk
  intro hm
  rcases List.mem_append.1 hm with hm | hm
  ·exact itoa_no_nl r.a (by omega) hm
  ·rcases List.mem_append.1 hm with hm | hm
   ·revert hm; decide
   ·exact txt_no_nl he hm
theorem nl_cut {l : List UInt8} (h : (10 : UInt8) ∉ l) : ∃ b, Lib.cut l [10] = (l, b, false) := by
 rcases hc : Lib.cut l [10] with ⟨a, b, g⟩
 cases g with
 | false => obtain rfl := nl_whole l a b hc; exact ⟨b, rfl⟩
 | true =>
  have := nl_back l a b hc
  exact absurd (by rw [this]; simp) h
theorem dl_one (most f : Nat) (acc : List Rc) (n : Nat) {c : Rc} (h : c.chk = 0) (rest : List UInt8) (hm : acc.length < most) : dl most (f + 1) (c.txt ++ 10 :: rest) acc n = dl most f rest (acc ++ [c]) (n + c.txt.length + 1) := by
 have hr := read_txt h
 rw [dl_more most f acc n (by simp) (cut_nl c.txt rest (rc_no_nl h)) (by rw [hr]) (by omega), hr]
theorem dl_lines (most : Nat) : ∀ (rs : List Rc) (f f' : Nat) (acc : List Rc) (n : Nat) (rest : List UInt8), (∀ c, c ∈ rs → c.chk = 0) → acc.length + rs.length ≤ most → (rtxt rs ++ rest).length < f → rest.length < f' →
  dl most f (rtxt rs ++ rest) acc n = dl most f' rest (acc ++ rs) (n + (rtxt rs).length)
 | [], f, f', acc, n, rest, _, _, h1, h2 => by
  simp only [rtxt, List.flatMap_nil, List.nil_append, List.append_nil, List.length_nil, Nat.add_zero] at h1 ⊢
  exact dl_fuel most f f' rest acc n h1 h2
 | c :: r, 0, _, _, _, _, _, _, h1, _ => by omega
 | c :: r, f + 1, f', acc, n, rest, hr, hl, h1, h2 => by
  rw [List.length_cons] at hl
  rw [rtxt_cons, List.append_assoc, List.cons_append] at h1 ⊢
  rw [dl_one most f acc n (hr c (by simp)) _ (by omega)]
  simp only [List.length_append, List.length_cons] at h1
  rw [dl_lines most r f f' (acc ++ [c]) _ rest (fun d hd => hr d (List.mem_cons_of_mem _ hd)) (by simp; omega) (by simp; omega) h2]
  rw [List.append_assoc, List.length_append, List.length_cons]
  congr 1
  omega
theorem lines_all {rs : List Rc} (h : ∀ c, c ∈ rs → c.chk = 0) {most : Nat} (hm : rs.length ≤ most) : linesOf (rtxt rs) most = (rs, (rtxt rs).length, 0) := by
 have := dl_lines most rs ((rtxt rs).length + 1) 1 [] 0 [] h (by simpa using hm) (by simp) (by simp)
 rw [List.append_nil] at this
 unfold linesOf
 rw [this, dl_nil]
 simp
theorem dl_torn_lines (most : Nat) : ∀ (rs : List Rc) (k f : Nat) (acc : List Rc) (n : Nat), (∀ c, c ∈ rs → c.chk = 0) → acc.length + rs.length ≤ most → ((rtxt rs).take k).length < f →
  ∃ j e, j ≤ rs.length ∧ dl most f ((rtxt rs).take k) acc n = (acc ++ rs.take j, n + (rtxt (rs.take j)).length, e) ∧ (rtxt (rs.take j)).length ≤ k
 | [], k, 0, acc, n, _, _, h => by omega
 | [], k, f + 1, acc, n, _, _, _ => ⟨0, 0, Nat.le_refl _, by simp [rtxt, dl_nil], by simp [rtxt]⟩
 | c :: r, k, 0, acc, n, _, _, h => by omega
 | c :: r, k, f + 1, acc, n, hr, hl, h => by
  have hc := hr c (by simp)
  rw [List.length_cons] at hl
  by_cases hk : k ≤ c.txt.length
  ·refine ⟨0, ?_⟩
   have e : (rtxt (c :: r)).take k = c.txt.take k := by
    rw [rtxt_cons, List.take_append_of_le_length hk]
   rw [e]
   by_cases hn : c.txt.take k = []
   ·exact ⟨0, Nat.zero_le _, by rw [hn, dl_nil]; simp [rtxt], by simp [rtxt]⟩
   ·obtain ⟨b, hb⟩ := nl_cut (l := c.txt.take k) (fun hm => rc_no_nl hc (List.mem_of_mem_take hm))
    exact ⟨9, Nat.zero_le _, by rw [dl_torn _ _ _ _ hn hb]; simp [rtxt], by simp [rtxt]⟩
  ·have e : (rtxt (c :: r)).take k = c.txt ++ 10 :: (rtxt r).take (k - c.txt.length - 1) := by
    rw [rtxt_cons, List.take_append, List.take_of_length_le (by omega)]
    congr 1
    rw [show k - c.txt.length = (k - c.txt.length - 1) + 1 by omega, List.take_succ_cons]
    simp
   rw [e] at h ⊢
   rw [dl_one most f acc n hc _ (by omega)]
   simp only [List.length_append, List.length_cons] at h
   obtain ⟨j, e', hj, he, hjk⟩ := dl_torn_lines most r (k - c.txt.length - 1) f (acc ++ [c]) (n + c.txt.length + 1) (fun d hd => hr d (List.mem_cons_of_mem _ hd)) (by simp; omega) (by omega)
   refine ⟨j + 1, e', by simp; omega, ?_, ?_⟩
   ·rw [he, List.take_succ_cons, rtxt_cons]
    simp only [List.append_assoc, List.cons_append, List.nil_append, List.length_append, List.length_cons]
    congr 2
    omega
   ·rw [List.take_succ_cons, rtxt_cons, List.length_append, List.length_cons]
    omega
theorem lines_torn {rs : List Rc} (h : ∀ c, c ∈ rs → c.chk = 0) {most : Nat} (hm : rs.length ≤ most) (k : Nat) : ∃ j e, j ≤ rs.length ∧ linesOf ((rtxt rs).take k) most = (rs.take j, (rtxt (rs.take j)).length, e) ∧ (rtxt (rs.take j)).length ≤ k := by
 obtain ⟨j, e, hj, he, hk⟩ := dl_torn_lines most rs k (((rtxt rs).take k).length + 1) [] 0 h (by simpa using hm) (Nat.lt_succ_self _)
 exact ⟨j, e, hj, by unfold linesOf; rw [he]; simp, hk⟩
end Go.Proofs.YtmoaobfmopimlafGreatDoor
