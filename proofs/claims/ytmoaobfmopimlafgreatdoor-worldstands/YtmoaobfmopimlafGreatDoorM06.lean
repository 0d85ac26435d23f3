/- For the law. -/
import Derived.Test.YtmoaobfmopimlafGreatDoorM05
import Derived.Lib.AtoiAllCases
import Derived.Lib.IndexMore
import Derived.Lib.ItoaNum
import Derived.OpenShut
import Derived.LaidMore
import Derived.Lay
import Derived.Lib.LaidTab
import Derived.Stop.LaidErr
import Derived.Deep.DeepHandedRow
import Derived.ChangeMaps5
import Derived.Carry
set_option linter.unusedSimpArgs false
set_option linter.unusedVariables false
namespace Go.Proofs.YtmoaobfmopimlafGreatDoor
open Go.RowKit
theorem read_any (l : List UInt8) (w : World) (hL : Laid w) (hl : l.length ≤ 30000) :
  Calls Tryz.prog 288 #[.string ⟨l.toArray⟩] w fun e w' => e = .returned (rdV (rd l)) ∧ Below w.heap.size w w' := by
 cases hs : spl 4 l with
 | none =>
  have hr : rd l = none := by rw [rd, hs]; rfl
  rw [hr]
  exact read_none l w hL hl hs
 | some ws =>
  have hr : rd l = rdW ws := by rw [rd, hs]; rfl
  rw [hr]
  have hkr := kindOf_range (ws.getD 0 [])
  have hc := spl_count 4 l ws hs
  have hcn : ∀ k : Int, cntOf k = 0 ∨ cntOf k = 1 ∨ cntOf k = 3 := by
   intro k; unfold cntOf
   split
   ·simp
   split
   ·simp
   split <;> simp
  by_cases hbad : kindOf (ws.getD 0 []) < 0 ∨ ws.length ≠ 1 + cntOf (kindOf (ws.getD 0 []))
  ·have hn : rdW ws = none := by rw [rdW, if_pos hbad]
   rw [hn]
   refine read_bad l ws _ _ _ w hL hl hs rfl rfl rfl (by omega) (by have := hcn (kindOf (ws.getD 0 [])); omega) ?_
   by_cases h0 : kindOf (ws.getD 0 []) < 0
   ·exact Or.inl h0
   ·refine Or.inr ⟨by omega, by omega, ?_⟩
    have := hbad.resolve_left h0
    rw [bne_iff_ne]; omega
  ·have hk0 : 0 ≤ kindOf (ws.getD 0 []) := by omega
   have hk3 : kindOf (ws.getD 0 []) ≤ 3 := by omega
   have hn : ws.length = 1 + cntOf (kindOf (ws.getD 0 [])) := by omega
   rcases hcn (kindOf (ws.getD 0 [])) with h | h | h
   ·exact read_go0 l ws _ w hL hl hs rfl hk0 hk3 h (by omega)
   ·exact read_go1 l ws _ w hL hl hs rfl hk0 hk3 h (by omega)
   ·exact read_go3 l ws _ w hL hl hs rfl hk0 hk3 h (by omega)
def rdEn (r : Int × Int × Int × Int) : En := ⟨r.1, bJob r.1 r.2.1, bEvery r.1 r.2.2.1, bTime r.1 r.2.2.1 r.2.2.2, bClient r.1 r.2.2.2⟩
def prs (l : List UInt8) : En × Int :=
 if 30000 < l.length then (En.zero, 2) else match rd l with
  | none => (En.zero, 1)
  | some r => if (rdEn r).chk = 0 then (rdEn r, 0) else (En.zero, (rdEn r).chk)
theorem parse_long (s : ByteArray) (w : World) (hs : 30000 < (s.size : Int)) :
  Calls Tryz.prog 270 #[.string s] w fun e w' => e = .returned (.tuple #[z5, .int .i64 2]) ∧ Below w.heap.size w w' := by
 go_enter Tryz.func270, Tryz.ntmps270
 go_wp2
 exact ret_entry Tryz.results270 rfl rfl rfl (heap_new _ _) ⟨rfl, grew (Below.refl _ _) _⟩
theorem parse_none (l : List UInt8) (w : World) (hL : Laid w) (hl : l.length ≤ 30000) (hr : rd l = none) :
  Calls Tryz.prog 270 #[.string ⟨l.toArray⟩] w fun e w' => e = .returned (.tuple #[z5, .int .i64 1]) ∧ Below w.heap.size w w' := by
 have hrd := fun W hW => read_any l W hW hl
 rw [hr] at hrd
 have hle : (l.length : Int) ≤ 30000 := by omega
 clear hr hl
 go_enter Tryz.func270, Tryz.ntmps270
 go_wp2_with fail
 refine (hrd _ (hL.later (grew (Below.refl _ _) _))).mono ?_
 rintro e w1 ⟨rfl, hb⟩
 have hR : w1.heap[w.heap.size]? = some (boxE 0 0 0 0 0) := by rw [hb.block _ (by simp)]; exact heap_new _ _
 have hb1 : Below w.heap.size w w1 := (grew (Below.refl _ _) _).trans (hb.mono (by simp))
 have hlt : w.heap.size < w1.heap.size := by have := hb.size; simp at this; omega
 clear hb hrd
 have c0 := fun i => Joins.cell_of_block hR i
 have c1 := fun i => Joins.unfrozen_of_block hR i
 go_wp2
 refine ret_entry Tryz.results270 rfl rfl rfl (heap_old (five_stores hR 0 0 0 0 0) _) ⟨rfl, ?_⟩
 exact grew (below_five hb1 (Nat.le_refl _) _ _ _ _ _) _
set_option maxHeartbeats 1000000 in
theorem parse_good (l : List UInt8) (k j v t c : Int) (w : World) (hL : Laid w) (hl : l.length ≤ 30000) (hr : rdV (rd l) = .tuple #[ev k j v t c, .bool true]) (hc : chk k j v t c = 0) :
  Calls Tryz.prog 270 #[.string ⟨l.toArray⟩] w fun e w' => e = .returned (.tuple #[ev k j v t c, .int .i64 0]) ∧ Below w.heap.size w w' := by
 have hrd := fun W hW => read_any l W hW hl
 rw [hr] at hrd
 have hch := fun W => check_any k j v t c W
 rw [hc] at hch
 have hle : (l.length : Int) ≤ 30000 := by omega
 clear hr hl hc
 go_enter Tryz.func270, Tryz.ntmps270
 go_wp2_with fail
 refine (hrd _ (hL.later (grew (Below.refl _ _) _))).mono ?_
 rintro e w1 ⟨rfl, hb⟩
 have hR : w1.heap[w.heap.size]? = some (boxE 0 0 0 0 0) := by rw [hb.block _ (by simp)]; exact heap_new _ _
 have hb1 : Below w.heap.size w w1 := (grew (Below.refl _ _) _).trans (hb.mono (by simp))
 have hlt : w.heap.size < w1.heap.size := by have := hb.size; simp at this; omega
 clear hb hrd
 go_wp2_with fail
 refine (hch _).mono ?_
 rintro e w2 ⟨rfl, hb2⟩
 clear hch
 have hE2 : w2.heap[w1.heap.size]? = some (boxE k j v t c) := by rw [hb2.block _ (by simp)]; exact heap_new _ _
 have hR2 : w2.heap[w.heap.size]? = some (boxE 0 0 0 0 0) := by rw [hb2.block _ (by simp; omega)]; exact heap_old hR _
 have hbb : Below w.heap.size w w2 := (grew hb1 _).trans (hb2.mono (by simp; omega))
 generalize w1.heap.size = eb at *
 clear hb2 hb1 hR
 have c0 := fun i => Joins.cell_of_block hR2 i
 have c1 := fun i => Joins.unfrozen_of_block hR2 i
 have c2 := fun i => Joins.cell_of_block hE2 i
 go_wp2
 exact ret_entry Tryz.results270 rfl rfl rfl (five_stores hR2 k j v t c) ⟨rfl, below_five hbb (Nat.le_refl _) _ _ _ _ _⟩
set_option maxHeartbeats 1000000 in
theorem parse_bad (l : List UInt8) (k j v t c : Int) (n : Int) (w : World) (hL : Laid w) (hl : l.length ≤ 30000) (hr : rdV (rd l) = .tuple #[ev k j v t c, .bool true]) (hc : chk k j v t c = n) (hz : (n != 0) = true) :
  Calls Tryz.prog 270 #[.string ⟨l.toArray⟩] w fun e w' => e = .returned (.tuple #[z5, .int .i64 n]) ∧ Below w.heap.size w w' := by
 have hrd := fun W hW => read_any l W hW hl
 rw [hr] at hrd
 have hch := fun W => check_any k j v t c W
 rw [hc] at hch
 have hle : (l.length : Int) ≤ 30000 := by omega
 clear hr hl hc
 go_enter Tryz.func270, Tryz.ntmps270
 go_wp2_with fail
 refine (hrd _ (hL.later (grew (Below.refl _ _) _))).mono ?_
 rintro e w1 ⟨rfl, hb⟩
 have hR : w1.heap[w.heap.size]? = some (boxE 0 0 0 0 0) := by rw [hb.block _ (by simp)]; exact heap_new _ _
 have hb1 : Below w.heap.size w w1 := (grew (Below.refl _ _) _).trans (hb.mono (by simp))
 have hlt : w.heap.size < w1.heap.size := by have := hb.size; simp at this; omega
 clear hb hrd
 go_wp2_with fail
 refine (hch _).mono ?_
 rintro e w2 ⟨rfl, hb2⟩
 clear hch
 have hE2 : w2.heap[w1.heap.size]? = some (boxE k j v t c) := by rw [hb2.block _ (by simp)]; exact heap_new _ _
 have hR2 : w2.heap[w.heap.size]? = some (boxE 0 0 0 0 0) := by rw [hb2.block _ (by simp; omega)]; exact heap_old hR _
 have hbb : Below w.heap.size w w2 := (grew hb1 _).trans (hb2.mono (by simp; omega))
 generalize w1.heap.size = eb at *
 clear hb2 hb1 hR
 have c0 := fun i => Joins.cell_of_block hR2 i
 have c1 := fun i => Joins.unfrozen_of_block hR2 i
 have c2 := fun i => Joins.cell_of_block hE2 i
 go_wp2
 exact ret_entry Tryz.results270 rfl rfl rfl (five_stores hR2 0 0 0 0 0) ⟨rfl, below_five hbb (Nat.le_refl _) _ _ _ _ _⟩
theorem parse_any (s : ByteArray) (w : World) (hL : Laid w) :
  Calls Tryz.prog 270 #[.string s] w fun e w' => e = .returned (.tuple #[(prs s.data.toList).1.val, .int .i64 (prs s.data.toList).2]) ∧ Below w.heap.size w w' := by
 by_cases hs : 30000 < s.data.toList.length
 ·have hp : prs s.data.toList = (En.zero, 2) := if_pos hs
  rw [hp]
  exact parse_long s w (by rw [Lib.size_eq]; omega)
 ·obtain ⟨⟨l⟩⟩ := s
  have hs' : ¬ 30000 < l.length := hs
  show Calls Tryz.prog 270 #[.string ⟨l.toArray⟩] w fun e w' => e = .returned (.tuple #[(prs l).1.val, .int .i64 (prs l).2]) ∧ Below w.heap.size w w'
  cases hr : rd l with
  | none =>
   have hp : prs l = (En.zero, 1) := by rw [prs, if_neg hs', hr]
   rw [hp]
   exact parse_none l w hL (by omega) hr
  | some r =>
   have hp : prs l = if (rdEn r).chk = 0 then (rdEn r, 0) else (En.zero, (rdEn r).chk) := by rw [prs, if_neg hs', hr]
   rw [hp]
   by_cases h0 : (rdEn r).chk = 0
   ·rw [if_pos h0]
    exact parse_good l (rdEn r).k (rdEn r).j (rdEn r).v (rdEn r).t (rdEn r).c w hL (by omega) (by rw [hr]; rfl) h0
   ·rw [if_neg h0]
    exact parse_bad l (rdEn r).k (rdEn r).j (rdEn r).v (rdEn r).t (rdEn r).c (rdEn r).chk w hL (by omega) (by rw [hr]; rfl) rfl (by rw [bne_iff_ne]; exact h0)
open Go.RowKit

/-! ### words -/
theorem occAt_sp (a b : List UInt8) : Lib.occAt (a ++ 32 :: b) [32] a.length = true := by
 unfold Lib.occAt
 rw [List.drop_left]
 simp
theorem occAt_no (l : List UInt8) (i : Nat) (h : ∀ x, l[i]? = some x → x ≠ 32) : Lib.occAt l [32] i = false := by
 unfold Lib.occAt
 rcases hd : l.drop i with _ | ⟨x, r⟩
 ·rfl
 ·have hx : l[i]? = some x := by
   have := List.getElem?_drop (xs := l) (i := i) (j := 0)
   rw [hd] at this
   simpa using this.symm
  have hne : ((32 : UInt8) == x) = false := by
   rw [beq_eq_false_iff_ne]; exact fun e => h x hx e.symm
  show (((32 : UInt8) == x) && ([] : List UInt8).isPrefixOf r) = false
  rw [hne]; rfl
theorem cut_sp (a b : List UInt8) (h : (32 : UInt8) ∉ a) : Lib.cut (a ++ 32 :: b) [32] = (a, b, true) := by
 have hi : Lib.index (a ++ 32 :: b) [32] = a.length := Lib.index_first (by simp) (occAt_sp a b) (fun j hj => occAt_no _ _ (fun x hx => by
  rw [List.getElem?_append_left hj] at hx
  exact fun e => h (e ▸ List.mem_of_getElem? hx)))
 unfold Lib.cut
 rw [hi, if_pos (by omega)]
 simp
theorem cut_none (a : List UInt8) (h : (32 : UInt8) ∉ a) : Lib.cut a [32] = (a, [], false) := by
 have hi : Lib.index a [32] = -1 := Lib.index_none (fun j _ => occAt_no _ _ (fun x hx e => h (e ▸ List.mem_of_getElem? hx)))
 unfold Lib.cut
 rw [hi, if_neg (by omega)]
theorem cut_back (l a b : List UInt8) (h : Lib.cut l [32] = (a, b, true)) : l = a ++ 32 :: b := by
 unfold Lib.cut at h
 rcases Lib.index_spec l [32] with ⟨h1, _⟩ | ⟨i, h1, h2, h3, _⟩
 ·rw [h1, if_neg (by omega)] at h; cases h
 ·rw [h1, if_pos (by omega)] at h
  simp only [Int.toNat_natCast, List.length_cons, List.length_nil, Prod.mk.injEq] at h
  obtain ⟨rfl, rfl, _⟩ := h
  unfold Lib.occAt at h3
  rcases hd : l.drop i with _ | ⟨x, r⟩
  ·rw [hd] at h3; cases h3
  ·rw [hd] at h3
   simp at h3
   subst h3
   have : l.drop (i + 1) = r := by rw [← List.drop_drop, hd]; rfl
   rw [show i + (0 + 1) = i + 1 from rfl, this, ← hd, List.take_append_drop]
theorem cut_whole (l a b : List UInt8) (h : Lib.cut l [32] = (a, b, false)) : a = l := by
 unfold Lib.cut at h
 split at h
 ·cases h
 ·injection h with h _; exact h.symm
theorem spl_join : ∀ (f : Nat) (ws : List (List UInt8)), ws ≠ [] → ws.length ≤ f → (∀ x, x ∈ ws → (32 : UInt8) ∉ x) → spl f (Lib.join ws [32]) = some ws
 | 0, ws, h, hl, _ => by cases ws with
  | nil => exact absurd rfl h
  | cons _ _ => simp at hl
 | f + 1, [], h, _, _ => absurd rfl h
 | f + 1, [x], _, _, hn => by
  rw [Lib.join_one]
  rw [spl_no f (cut_none x (hn x (by simp)))]
 | f + 1, x :: y :: r, _, hl, hn => by
  have hj : Lib.join (x :: y :: r) [32] = x ++ 32 :: Lib.join (y :: r) [32] := by
   rw [Lib.join_cons, Lib.join_cons]
   simp [Lib.joinTail]
  rw [hj, spl_yes f (cut_sp x _ (hn x (by simp))), spl_join f (y :: r) (by simp) (by simp at hl ⊢; omega) (fun z hz => hn z (List.mem_cons_of_mem _ hz))]
  rfl
theorem join_spl : ∀ (f : Nat) (l : List UInt8) (ws : List (List UInt8)), spl f l = some ws → Lib.join ws [32] = l
 | 0, _, _, h => by cases h
 | f + 1, l, ws, h => by
  rcases hc : Lib.cut l [32] with ⟨a, b, g⟩
  cases g with
  | true =>
   rw [spl_yes f hc] at h
   obtain ⟨ws', h', rfl⟩ := Option.map_eq_some_iff.1 h
   have ih := join_spl f b ws' h'
   have hne := (spl_count f b ws' h').1
   cases ws' with
   | nil => simp at hne
   | cons y r =>
    have hj : Lib.join (a :: y :: r) [32] = a ++ 32 :: Lib.join (y :: r) [32] := by
     rw [Lib.join_cons, Lib.join_cons]
     simp [Lib.joinTail]
    rw [hj, ih, cut_back l a b hc]
  | false =>
   rw [spl_no f hc] at h
   cases h
   rw [Lib.join_one]
   exact cut_whole l a b hc
/-! ### numerals -/
theorem dec_mem (u : Nat) : ∀ x, x ∈ Lib.decDigits u → 48 ≤ x.toNat ∧ x.toNat ≤ 57 := by
 induction u using Nat.strongRecOn with
 | _ u ih =>
  intro x hx
  rw [Lib.decDigits] at hx
  split at hx
  ·rename_i h
   rw [List.mem_singleton] at hx
   subst hx
   simp only [UInt8.toNat_ofNat']
   omega
  ·rename_i h
   rcases List.mem_append.1 hx with hx | hx
   ·exact ih (u / 10) (by omega) x hx
   ·rw [List.mem_singleton] at hx
    subst hx
    simp only [UInt8.toNat_ofNat']
    omega
theorem dec_ne (u : Nat) : Lib.decDigits u ≠ [] := by
 rw [Lib.decDigits]
 split <;> simp
theorem parse_snoc (c : UInt8) : ∀ (l : List UInt8) (acc a : Nat), Lib.parseUint10 acc l = .ok a → Lib.parseUint10 acc (l ++ [c]) = Lib.parseUint10 a [c]
 | [], acc, a, h => by
  simp only [Lib.parseUint10] at h
  injection h with h
  subst h; rfl
 | x :: r, acc, a, h => by
  rw [List.cons_append]
  rw [Lib.parseUint10] at h ⊢
  split at h
  ·rename_i hx
   rw [if_pos hx]
   split at h
   ·cases h
   ·rename_i h1
    rw [if_neg h1]
    split at h
    ·cases h
    ·rename_i h2
     rw [if_neg h2]
     exact parse_snoc c r _ a h
  ·cases h
theorem parse_dec (u : Nat) : u < 1000000000000000000 → Lib.parseUint10 0 (Lib.decDigits u) = .ok u := by
 induction u using Nat.strongRecOn with
 | _ u ih =>
  intro hu
  rw [Lib.decDigits]
  split
  ·rename_i h
   have e : (UInt8.ofNat (48 + u)).toNat = 48 + u := by simp only [UInt8.toNat_ofNat']; omega
   simp only [Lib.parseUint10, e]
   rw [if_pos (by omega), if_neg (by omega), if_neg (by omega)]
   congr 1; omega
  ·rename_i h
   have e : (UInt8.ofNat (48 + u % 10)).toNat = 48 + u % 10 := by simp only [UInt8.toNat_ofNat']; omega
   rw [parse_snoc _ _ _ _ (ih (u / 10) (by omega) (by omega))]
   simp only [Lib.parseUint10, e]
   rw [if_pos (by omega), if_neg (by omega), if_neg (by omega)]
   congr 1; omega
theorem atoi_dec (u : Nat) (hu : u < 1000000000000000000) : Lib.atoiAll (Lib.decDigits u) = .ok (u : Int) := by
 have hp := parse_dec u hu
 rcases hd : Lib.decDigits u with _ | ⟨c, r⟩
 ·exact absurd hd (dec_ne u)
 ·have hc := dec_mem u c (by rw [hd]; simp)
  rw [Lib.atoiAll_plain c r (by omega) (by omega)]
  rw [← hd]
  unfold Lib.parseMag
  rw [if_neg (dec_ne u), hp]
  show Lib.signless (.ok u) = _
  simp only [Lib.signless]
  rw [if_neg (by omega)]
theorem numOf_itoa (x : Int) (h0 : 0 ≤ x) (h1 : x < 1000000000000000000) : numOf (Lib.itoa x) = some x := by
 obtain ⟨u, rfl⟩ := Int.eq_ofNat_of_zero_le h0
 have hi : Lib.itoa (u : Int) = Lib.decDigits u := by unfold Lib.itoa; rw [if_neg (by omega)]; simp
 have ha := atoi_dec u (by omega)
 unfold numOf
 rw [hi, ha]
 simp only [hi, if_true]
theorem itoa_no_sp (x : Int) (h0 : 0 ≤ x) : (32 : UInt8) ∉ Lib.itoa x := by
 unfold Lib.itoa
 rw [if_neg (by omega)]
 intro h
 have := dec_mem _ _ h
 have e : (32 : UInt8).toNat = 32 := rfl
 omega
theorem itoa_numOf (l : List UInt8) (x : Int) (h : numOf l = some x) : Lib.itoa x = l := by
 unfold numOf at h
 split at h
 ·split at h
  ·rename_i hi; injection h with h; subst h; exact hi
  ·cases h
 ·cases h
def nameL (k : Int) : List UInt8 := if k = 0 then [106, 117, 110, 107] else if k = 1 then [112, 117, 116] else if k = 2 then [100, 114, 111, 112] else [114, 105, 110, 103]
def En.n0 (e : En) : Int := num0 e.k e.j
def En.n1 (e : En) : Int := num1 e.k e.v e.t
def En.n2 (e : En) : Int := num2 e.k e.t e.c
def En.words (e : En) : List (List UInt8) := [nameL e.k, Lib.itoa e.n0, Lib.itoa e.n1, Lib.itoa e.n2].take (1 + cntOf e.k)
def En.txt (e : En) : List UInt8 := Lib.join e.words [32]
def En.ptx (e : En) : List UInt8 := if e.chk = 0 then e.txt else []
theorem chk_zero {e : En} (h : e.chk = 0) : 0 ≤ e.k ∧ e.k ≤ 3 ∧ inR e.j e.v e.t e.c = true ∧ lost e.k e.j e.v e.t e.c = false ∧ ¬ (e.k = 1 ∧ e.v = 0) := by
 unfold En.chk chk at h
 split at h
 ·cases h
 rename_i h1
 split at h
 ·cases h
 rename_i h2
 split at h
 ·cases h
 rename_i h3
 split at h
 ·cases h
 rename_i h4
 exact ⟨by omega, by omega, by simpa using h2, by simpa using h3, h4⟩
theorem nums_range {e : En} (h : e.chk = 0) : (0 ≤ e.n0 ∧ e.n0 ≤ 100000) ∧ (0 ≤ e.n1 ∧ e.n1 ≤ 100000) ∧ (0 ≤ e.n2 ∧ e.n2 ≤ 100000) := by
 obtain ⟨_, _, hr, _, _⟩ := chk_zero h
 have hr := of_decide_eq_true hr
 unfold En.n0 En.n1 En.n2 num0 num1 num2
 refine ⟨?_, ?_, ?_⟩
 ·split <;> omega
 ·split
  ·omega
  ·split <;> omega
 ·split
  ·omega
  ·split <;> omega
theorem Laid.nam {W : World} (h : Laid W) (k : Int) (h0 : 0 ≤ k) (h3 : k ≤ 3) : W.cell? ⟨1, k.toNat, none⟩ = some (.string ⟨(nameL k).toArray⟩) := by
 obtain ⟨c0, c1, c2, c3⟩ := h.name
 have : k = 0 ∨ k = 1 ∨ k = 2 ∨ k = 3 := by omega
 rcases this with rfl | rfl | rfl | rfl
 ·exact c0
 ·exact c1
 ·exact c2
 ·exact c3
theorem cnt_le (k : Int) : cntOf k ≤ 3 := by
 unfold cntOf
 split
 ·omega
 split
 ·omega
 split <;> omega
theorem nameL_len (k : Int) : (nameL k).length ≤ 30 := by
 unfold nameL
 split
 ·simp
 split
 ·simp
 split <;> simp
theorem print_any (e : En) (w : World) (hL : Laid w) :
  Calls Tryz.prog 196 #[e.val] w fun r w' => r = .returned (.tuple #[.string ⟨e.ptx.toArray⟩, .int .i64 e.chk]) ∧ Below w.heap.size w w' := by
 by_cases h : e.chk = 0
 ·obtain ⟨h0, h3, _, _, _⟩ := chk_zero h
  obtain ⟨b0, b1, b2⟩ := nums_range h
  have hp := print_ok e.k e.j e.v e.t e.c ⟨(nameL e.k).toArray⟩ (cntOf e.k) e.n0 e.n1 e.n2 w hL h0 h3 (cnt_le _) (nameL_len _) h rfl rfl rfl b0 b1 b2 (fun W hW => hW.nam e.k h0 h3) (fun W hW => hW.cnt e.k h0 h3)
  rw [En.ptx, if_pos h, h]
  exact hp
 ·rw [En.ptx, if_neg h]
  exact print_bad e.k e.j e.v e.t e.c w (by rw [bne_iff_ne]; exact h)
theorem words_no_sp {e : En} (h : e.chk = 0) : ∀ x, x ∈ e.words → (32 : UInt8) ∉ x := by
 obtain ⟨b0, b1, b2⟩ := nums_range h
 intro x hx
 have hx := List.mem_of_mem_take hx
 simp only [List.mem_cons, List.not_mem_nil, or_false] at hx
 rcases hx with rfl | rfl | rfl | rfl
 ·unfold nameL
  split
  ·decide
  split
  ·decide
  split <;> decide
 ·exact itoa_no_sp _ b0.1
 ·exact itoa_no_sp _ b1.1
 ·exact itoa_no_sp _ b2.1
theorem words_len (e : En) : e.words.length = 1 + cntOf e.k := by
 have := cnt_le e.k
 unfold En.words
 rw [List.length_take]
 simp
 omega
theorem spl_txt {e : En} (h : e.chk = 0) : spl 4 e.txt = some e.words := by
 have hl := words_len e
 have := cnt_le e.k
 exact spl_join 4 e.words (fun e => by rw [e] at hl; simp at hl; omega) (by omega) (words_no_sp h)
theorem kindOf_nameL (k : Int) (h0 : 0 ≤ k) (h3 : k ≤ 3) : kindOf (nameL k) = k := by
 have : k = 0 ∨ k = 1 ∨ k = 2 ∨ k = 3 := by omega
 rcases this with rfl | rfl | rfl | rfl <;> decide
theorem nameL_kindOf (l : List UInt8) (h : 0 ≤ kindOf l) : nameL (kindOf l) = l := by
 unfold kindOf at h ⊢
 split
 ·rename_i e; rw [e]; rfl
 split
 ·rename_i e; rw [e]; rfl
 split
 ·rename_i e; rw [e]; rfl
 split
 ·rename_i e; rw [e]; rfl
 ·simp_all
theorem words_at {e : En} (h : e.chk = 0) : e.words.getD 0 [] = nameL e.k ∧ nAt e.words 1 = some e.n0 ∧ nAt e.words 2 = some e.n1 ∧ nAt e.words 3 = some e.n2 := by
 obtain ⟨b0, b1, b2⟩ := nums_range h
 obtain ⟨h0, h3, _, _, _⟩ := chk_zero h
 have r0 := numOf_itoa e.n0 b0.1 (by omega)
 have r1 := numOf_itoa e.n1 b1.1 (by omega)
 have r2 := numOf_itoa e.n2 b2.1 (by omega)
 have hk : e.k = 0 ∨ e.k = 1 ∨ e.k = 2 ∨ e.k = 3 := by omega
 have z0 : e.k = 0 → e.n0 = 0 := fun h => by simp [En.n0, num0, h]
 have z1 : e.k = 0 ∨ e.k = 2 → e.n1 = 0 := fun h => by rcases h with h | h <;> simp [En.n1, num1, h]
 have z2 : e.k = 0 ∨ e.k = 2 → e.n2 = 0 := fun h => by rcases h with h | h <;> simp [En.n2, num2, h]
 unfold En.words
 rcases hk with hk | hk | hk | hk
 ·rw [show cntOf e.k = 0 by rw [hk]; rfl, z0 hk, z1 (Or.inl hk), z2 (Or.inl hk)]
  exact ⟨rfl, rfl, rfl, rfl⟩
 ·rw [show cntOf e.k = 3 by rw [hk]; rfl]
  exact ⟨rfl, r0, r1, r2⟩
 ·rw [show cntOf e.k = 1 by rw [hk]; rfl, z1 (Or.inr hk), z2 (Or.inr hk)]
  exact ⟨rfl, r0, rfl, rfl⟩
 ·rw [show cntOf e.k = 3 by rw [hk]; rfl]
  exact ⟨rfl, r0, r1, r2⟩
theorem txt_len (e : En) (h : e.chk = 0) : e.txt.length ≤ 200 := by
 obtain ⟨b0, b1, b2⟩ := nums_range h
 have l0 := Lib.itoa_length_le e.n0 (by omega) (by omega)
 have l1 := Lib.itoa_length_le e.n1 (by omega) (by omega)
 have l2 := Lib.itoa_length_le e.n2 (by omega) (by omega)
 have ln := nameL_len e.k
 have hc := cnt_le e.k
 unfold En.txt En.words
 generalize cntOf e.k = n at hc ⊢
 have hn' : n = 0 ∨ n = 1 ∨ n = 2 ∨ n = 3 := by omega
 rcases hn' with rfl | rfl | rfl | rfl
 all_goals
  simp only [List.take, Lib.join_cons, Lib.joinTail, List.map_cons, List.map_nil, List.flatten_cons, List.flatten_nil, List.length_append, List.length_cons, List.length_nil, List.nil_append, List.cons_append]
  omega
theorem prs_txt {e : En} (h : e.chk = 0) : prs e.txt = (e, 0) := by
 obtain ⟨h0, h3, _, hl, _⟩ := chk_zero h
 obtain ⟨w0, w1, w2, w3⟩ := words_at h
 have hr : rd e.txt = some (e.k, e.n0, e.n1, e.n2) := by
  rw [rd, spl_txt h]
  exact rdW_some (by rw [w0]; exact kindOf_nameL _ h0 h3) h0 (words_len e) w1 w2 w3
 have he : rdEn (e.k, e.n0, e.n1, e.n2) = e := by
  obtain ⟨_, u1, u2, u3, u4⟩ := unlike_false hl
  cases e
  simp only [rdEn, En.n0, En.n1, En.n2] at *
  simp only [u1, u2, u3, u4]
 have hlen := txt_len e h
 rw [prs, if_neg (by omega), hr]
 simp only [he, h, if_true]
theorem txt_prs {l : List UInt8} (h : (prs l).2 = 0) : (prs l).1.chk = 0 ∧ (prs l).1.txt = l := by
 unfold prs at h ⊢
 split at h
 ·cases h
 rename_i hlen
 rw [if_neg hlen]
 cases hr : rd l with
 | none => rw [hr] at h; cases h
 | some r =>
  rw [hr] at h
  simp only at h ⊢
  split at h
  case isFalse h0 => exact absurd h h0
  rename_i h0
  rw [if_pos h0]
  refine ⟨h0, ?_⟩
  obtain ⟨ws, hs, hw⟩ := Option.bind_eq_some_iff.1 hr
  have hj := join_spl 4 l ws hs
  unfold rdW at hw
  split at hw
  ·cases hw
  rename_i hc
  obtain ⟨a, ha, hw⟩ := Option.bind_eq_some_iff.1 hw
  obtain ⟨b, hb, hw⟩ := Option.bind_eq_some_iff.1 hw
  obtain ⟨c, hc', hw⟩ := Option.bind_eq_some_iff.1 hw
  cases hw
  have hkr := kindOf_range (ws.getD 0 [])
  have hn := nameL_kindOf (ws.getD 0 []) (by omega)
  have hlen : ws.length = 1 + cntOf (kindOf (ws.getD 0 [])) := by omega
  generalize hk : kindOf (ws.getD 0 []) = k at *
  rw [← hj]
  unfold En.txt
  congr 1
  unfold En.words En.n0 En.n1 En.n2 rdEn
  simp only
  have hk' : k = 0 ∨ k = 1 ∨ k = 2 ∨ k = 3 := by omega
  rcases hk' with rfl | rfl | rfl | rfl
  ·match ws, hlen with
   | [x], _ => exact congrArg (fun y => [y]) hn
  ·match ws, hlen with
   | [x, y, z, u], _ =>
    have ea := itoa_numOf _ _ ha
    have eb := itoa_numOf _ _ hb
    have ec := itoa_numOf _ _ hc'
    simp only [bJob, bEvery, bTime, num0, num1, num2, if_true, true_or]
    show [_, _, _, _] = _
    rw [ea, eb, ec, hn]; rfl
  ·match ws, hlen with
   | [x, y], _ =>
    have ea := itoa_numOf _ _ ha
    show [_, _] = _
    rw [hn]
    show [_, Lib.itoa a] = _
    rw [ea]; rfl
  ·match ws, hlen with
   | [x, y, z, u], _ =>
    have ea := itoa_numOf _ _ ha
    have eb := itoa_numOf _ _ hb
    have ec := itoa_numOf _ _ hc'
    show [_, Lib.itoa a, Lib.itoa b, Lib.itoa c] = _
    rw [ea, eb, ec, hn]; rfl
theorem eql_entry (k j v t c k' j' v' t' c' : Int) (w : World) :
  (binOp .eql 27 (ev k j v t c) (ev k' j' v' t' c')).run Tryz.prog w = .ok (.bool (!unlike k j v t c k' j' v' t' c')) w := by
 have u3 := Tryz.underlying3
 have a3 := Tryz.isAgg3
 have z3 := Tryz.sizeOf3
 have hS : Tryz.prog.underlying 27 = some (.struct (Tryz.prog.fieldsOf 27)) := by kernel_rfl
 have hp : Tryz.prog.stoodInHeld 27 = false := by kernel_rfl
 rw [run_eql_struct, show (10000 : Nat) = 9999 + 1 from rfl, run_equalIn_agg w 9999 27 _ _ hS hp]
 simp only [Program.fieldsOf, Tryz.underlying27]
 go_simp
 unfold unlike
 by_cases h1 : k = k' <;> by_cases h2 : j = j' <;> by_cases h3 : v = v' <;> by_cases h4 : t = t' <;> by_cases h5 : c = c' <;> simp [h1, h2, h3, h4, h5]
def e1 : En := ⟨1, 2, 5, 10, 0⟩
section
open Go.ChangeShapes
open Go.WideShapes
open Go.ChangeAt
theorem own : ownKnob Tryz.prog.godebug = none := by kernel_rfl
theorem laidOut : laidOutB Tryz.prog = true := by kernel_rfl
theorem cI : Tryz.prog.cellsOf 3 = 1 := by kernel_rfl
theorem cS : Tryz.prog.cellsOf 9 = 1 := by kernel_rfl
theorem cU : Tryz.prog.cellsOf 217 = 1 := by kernel_rfl
theorem gNamesT : (Tryz.prog.globals[1]?).map (·.type) = some 238 := by kernel_rfl
theorem gCountsT : (Tryz.prog.globals[2]?).map (·.type) = some 240 := by kernel_rfl
theorem gPowT : (Tryz.prog.globals[3]?).map (·.type) = some 258 := by kernel_rfl
theorem gSynT : (Tryz.prog.globals[6]?).map (·.type) = some 209 := by kernel_rfl
theorem gRngT : (Tryz.prog.globals[7]?).map (·.type) = some 209 := by kernel_rfl
theorem bytes_of {s : ByteArray} {l : List UInt8} (h : s.data.toList = l) : s = ⟨l.toArray⟩ := by
 obtain ⟨⟨x⟩⟩ := s
 subst h; rfl
theorem names_of {W : World} {rest : List (String × DataW Unit)} (h : laidMet Tryz.prog (("carillon/entry.names", Rows.laid_carillon_entry_names) :: rest) W) :
  W.var? Tryz.prog "carillon/entry.names" = some #[.string bJunk, .string bPut, .string bDrop, .string bRing] := by
 obtain ⟨ps, ⟨g, t, cs, fuel, p, q, hg, ht, hv, hd, _, _⟩, _⟩ := h
 obtain rfl := Option.some.inj (gNames.symm.trans hg)
 obtain rfl := Option.some.inj (gNamesT.symm.trans ht)
 obtain ⟨xs, m, _, ex, hcl, hl, hel⟩ := DataW.trod_array Tryz.underlying238 hd
 rw [cS] at hel
 rw [show Tryz.prog.cellsOf 238 = 4 by kernel_rfl] at hcl
 obtain ⟨l⟩ := cs
 match xs, hl, l, hcl with
 | [x0, x1, x2, x3], _, [y0, y1, y2, y3], _ =>
  obtain ⟨s0, e0, f0, _⟩ := DataW.trod_string Tryz.underlying9 (hel 0 (by omega))
  obtain ⟨s1, e1, f1, _⟩ := DataW.trod_string Tryz.underlying9 (hel 1 (by omega))
  obtain ⟨s2, e2, f2, _⟩ := DataW.trod_string Tryz.underlying9 (hel 2 (by omega))
  obtain ⟨s3, e3, f3, _⟩ := DataW.trod_string Tryz.underlying9 (hel 3 (by omega))
  simp at e0 e1 e2 e3
  subst e0 e1 e2 e3 f0 f1 f2 f3
  have ex := (Prod.mk.inj ex).1
  simp only [Rows.laid_carillon_entry_names, List.map_cons, List.map_nil, DataW.agg.injEq, List.cons.injEq, DataW.lit.injEq, Lit.string.injEq, and_true] at ex
  obtain ⟨h0, h1, h2, h3⟩ := ex
  rw [hv, bytes_of h0.symm, bytes_of h1.symm, bytes_of h2.symm, bytes_of h3.symm]
theorem counts_of {W : World} {rest : List (String × DataW Unit)} (h : laidMet Tryz.prog (("carillon/entry.counts", Rows.laid_carillon_entry_counts) :: rest) W) :
  W.var? Tryz.prog "carillon/entry.counts" = some #[.int .i64 0, .int .i64 3, .int .i64 1, .int .i64 3] :=
 Lib.tabIs_of_head (zs := [0, 3, 1, 3]) gCounts gCountsT Tryz.underlying240 Tryz.underlying3 cI (by kernel_rfl) h
theorem pow_of {W : World} {rest : List (String × DataW Unit)} (h : laidMet Tryz.prog (("internal/strconv.uint64pow10", Rows.laid_internal_strconv_uint64pow10) :: rest) W) :
  Lib.TabIs Tryz.prog W "internal/strconv.uint64pow10" .u64 Lib.pow10Tab :=
 Lib.tabIs_of_head (zs := Lib.pow10Tab) gPow gPowT Tryz.underlying258 Tryz.underlying217 cU (by kernel_rfl) h
theorem cErr : Tryz.prog.cellsOf 298 = 1 := by kernel_rfl
theorem star : "*" ++ "errors.errorString" = "*errors.errorString" := by decide
theorem rowErr (u : TypeId) (h : Tryz.prog.typeName? 3 u = some "*errors.errorString") : u = 296 :=
 typeName_ptr_named (nm := "errors.errorString") (by rw [star]; kernel_rfl) (by kernel_rfl) (by decide) u (by rw [star]; exact h)
theorem syn_of {W : World} {rest : List (String × DataW Unit)} (h : laidMet Tryz.prog (("strconv.ErrSyntax", Rows.laid_strconv_ErrSyntax) :: rest) W) : ∃ tp p, W.var? Tryz.prog "strconv.ErrSyntax" = some #[.iface tp p] := by
 obtain ⟨a0, s0, hv0, -, -, -⟩ := laid_sentinel h gSyn gSynT Tryz.underlying209 rowErr Tryz.underlying296 Tryz.underlying298 rfl rfl Tryz.underlying9 cErr cS
 exact ⟨_, _, hv0⟩
theorem rng_of {W : World} {rest : List (String × DataW Unit)} (h : laidMet Tryz.prog (("strconv.ErrRange", Rows.laid_strconv_ErrRange) :: rest) W) : ∃ tp p, W.var? Tryz.prog "strconv.ErrRange" = some #[.iface tp p] := by
 obtain ⟨a0, s0, hv0, -, -, -⟩ := laid_sentinel h gRng gRngT Tryz.underlying209 rowErr Tryz.underlying296 Tryz.underlying298 rfl rfl Tryz.underlying9 cErr cS
 exact ⟨_, _, hv0⟩
theorem most_of {W : World} (h : W.ShapedOpen Tryz.prog) : ∃ m, W.cell? ⟨0, 0, none⟩ = some (.int .i64 m) := Tryz.laysM145.s1_3 W h
section
variable {H : Type} {enc : TypeId × Value → H} {w : World} {base : Nat} {spare : Nat → Bool} {held : Bool}
end
end
structure Rc where (k : Int) (a : Int) (p : Int) (e : En)
def Rc.zero : Rc := ⟨0, 0, 0, En.zero⟩
def En.some_ (e : En) : Bool := unlike e.k e.j e.v e.t e.c 0 0 0 0 0
theorem En.some_no {e : En} (h : e.some_ = false) : e = En.zero := by
 obtain ⟨h1, h2, h3, h4, h5⟩ := unlike_false h
 cases e
 simp_all [En.zero]
def Rc.chk (r : Rc) : Int :=
 if r.k = 2 then (if ¬(1 ≤ r.p ∧ r.p ≤ 20) then 3 else if ¬ r.a = 0 ∨ r.e.some_ = true then 4 else 0)
 else if ¬ r.k = 1 then 4 else if ¬(0 ≤ r.a ∧ r.a ≤ 59) then 3 else if ¬ r.p = 0 then 4 else r.e.chk
theorem Rc.seal {r : Rc} (h : r.chk = 0) (hk : r.k = 2) : (1 ≤ r.p ∧ r.p ≤ 20) ∧ r = ⟨2, 0, r.p, En.zero⟩ := by
 unfold Rc.chk at h
 rw [if_pos hk] at h
 split at h
 ·cases h
 ·rename_i h1
  split at h
  ·cases h
  ·rename_i h2
   have h3 : r.a = 0 := Classical.byContradiction fun e => h2 (Or.inl e)
   have h4 : r.e.some_ = false := by
    cases hs : r.e.some_ with
    | true => exact absurd (Or.inr hs) h2
    | false => rfl
   have h5 := En.some_no h4
   refine ⟨by simpa using h1, ?_⟩
   cases r
   simp_all
theorem Rc.write {r : Rc} (h : r.chk = 0) (hk : ¬ r.k = 2) : r.k = 1 ∧ (0 ≤ r.a ∧ r.a ≤ 59) ∧ r.p = 0 ∧ r.e.chk = 0 := by
 unfold Rc.chk at h
 rw [if_neg hk] at h
 split at h
 ·cases h
 ·rename_i h1
  split at h
  ·cases h
  ·rename_i h2
   split at h
   ·cases h
   ·rename_i h3
    exact ⟨by simpa using h1, by simpa using h2, by simpa using h3, h⟩
end Go.Proofs.YtmoaobfmopimlafGreatDoor
