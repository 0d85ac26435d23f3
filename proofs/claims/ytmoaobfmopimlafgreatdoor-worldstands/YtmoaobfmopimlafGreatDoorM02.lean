/- For the law. -/
import Derived.Test.YtmoaobfmopimlafGreatDoorM01
import Derived.Maps.AppendAt
import Derived.OwnWalk
import Derived.Lib.AppendZerosOnto
import Derived.Deep.Upon
import Derived.Laws.OwnMore
import Derived.Lib.ItoaMem
import Derived.Laws.IdiomStrings
import Derived.Deep.Slices
import Derived.SizedLaws
import Derived.Deep.CutBlock
import Derived.Laws.CopyOwn
set_option linter.unusedSimpArgs false
set_option linter.unusedVariables false
set_option maxHeartbeats 16000000
set_option maxRecDepth 100000
namespace Go.Proofs.YtmoaobfmopimlafGreatDoor
open Go Go.ChangeShapes Go.WideShapes Go.ChangeAt Go.RowKit
theorem bytes_eta (s : ByteArray) : s = ⟨s.data.toList.toArray⟩ := by
 obtain ⟨⟨x⟩⟩ := s; rfl
theorem occAt_nl (a b : List UInt8) : Lib.occAt (a ++ 10 :: b) [10] a.length = true := by
 unfold Lib.occAt
 rw [List.drop_left]
 simp
theorem nl_index_no {l : List UInt8} (h : (Lib.cut l [10]).2.2 = false) : Lib.index l [10] = -1 := by
 unfold Lib.cut at h
 split at h
 · cases h
 · rename_i h'
  have := Lib.index_ge l [10]
  omega
theorem nl_back (l a b : List UInt8) (h : Lib.cut l [10] = (a, b, true)) : l = a ++ 10 :: b := by
 unfold Lib.cut at h
 rcases Lib.index_spec l [10] with ⟨h1, _⟩ | ⟨i, h1, h2, h3, _⟩
 · rw [h1, if_neg (by omega)] at h; cases h
 · rw [h1, if_pos (by omega)] at h
  simp only [Int.toNat_natCast, List.length_cons, List.length_nil, Prod.mk.injEq] at h
  obtain ⟨rfl, rfl, _⟩ := h
  unfold Lib.occAt at h3
  rcases hd : l.drop i with _ | ⟨x, r⟩
  · rw [hd] at h3; cases h3
  · rw [hd] at h3
   simp at h3
   subst h3
   have : l.drop (i + 1) = r := by rw [← List.drop_drop, hd]; rfl
   rw [show i + (0 + 1) = i + 1 from rfl, this, ← hd, List.take_append_drop]
theorem nl_whole (l a b : List UInt8) (h : Lib.cut l [10] = (a, b, false)) : a = l := by
 unfold Lib.cut at h
 split at h
 · cases h
 · injection h with h _; exact h.symm
theorem nl_first {l a b : List UInt8} (h : Lib.cut l [10] = (a, b, true)) : (10 : UInt8) ∉ a ∧ Lib.index l [10] = a.length := by
 have hl := nl_back l a b h
 unfold Lib.cut at h
 rcases Lib.index_spec l [10] with ⟨h1, _⟩ | ⟨i, h1, h2, _, h4⟩
 · rw [h1, if_neg (by omega)] at h; cases h
 · rw [h1, if_pos (by omega)] at h
  simp only [Int.toNat_natCast, Prod.mk.injEq] at h
  obtain ⟨ha, _, _⟩ := h
  have hal : a.length = i := by rw [← ha, List.length_take]; omega
  refine ⟨fun hm => ?_, by rw [h1, hal]⟩
  obtain ⟨j, hj, e⟩ := List.getElem_of_mem hm
  have h5 := h4 j (by omega)
  unfold Lib.occAt at h5
  have : l.drop j = 10 :: (a.drop (j + 1) ++ 10 :: b) := by
   rw [hl, List.drop_append_of_le_length (by omega), List.drop_eq_getElem_cons hj, e]
   rfl
  rw [this] at h5
  cases h5
theorem occAt_nl_no (l : List UInt8) (i : Nat) (h : ∀ x, l[i]? = some x → x ≠ 10) : Lib.occAt l [10] i = false := by
 unfold Lib.occAt
 rcases hd : l.drop i with _ | ⟨x, r⟩
 · rfl
 · have hx : l[i]? = some x := by
   have := List.getElem?_drop (xs := l) (i := i) (j := 0)
   rw [hd] at this
   simpa using this.symm
  have hne : ((10 : UInt8) == x) = false := by
   rw [beq_eq_false_iff_ne]; exact fun e => h x hx e.symm
  show (((10 : UInt8) == x) && ([] : List UInt8).isPrefixOf r) = false
  rw [hne]; rfl
theorem cut_nl (a b : List UInt8) (h : (10 : UInt8) ∉ a) : Lib.cut (a ++ 10 :: b) [10] = (a, b, true) := by
 have hi : Lib.index (a ++ 10 :: b) [10] = a.length := Lib.index_first (by simp) (occAt_nl a b) (fun j hj => occAt_nl_no _ _ (fun x hx => by
  rw [List.getElem?_append_left hj] at hx
  exact fun e => h (e ▸ List.mem_of_getElem? hx)))
 unfold Lib.cut
 rw [hi, if_pos (by omega)]
 simp
theorem itoa_no_nl (x : Int) (h0 : 0 ≤ x) : (10 : UInt8) ∉ Lib.itoa x := by
 unfold Lib.itoa
 rw [if_neg (by omega)]
 intro h
 have := dec_mem _ _ h
 have e : (10 : UInt8).toNat = 10 := rfl
 omega
theorem words_no_nl {e : En} (h : e.chk = 0) : ∀ x, x ∈ e.words → (10 : UInt8) ∉ x := by
 obtain ⟨b0, b1, b2⟩ := nums_range h
 intro x hx
 have hx := List.mem_of_mem_take hx
 simp only [List.mem_cons, List.not_mem_nil, or_false] at hx
 rcases hx with rfl | rfl | rfl | rfl
 · unfold nameL
  split
  · decide
  split
  · decide
  split <;> decide
 · exact itoa_no_nl _ b0.1
 · exact itoa_no_nl _ b1.1
 · exact itoa_no_nl _ b2.1
theorem join_no_nl : ∀ (ws : List (List UInt8)), (∀ x, x ∈ ws → (10 : UInt8) ∉ x) → (10 : UInt8) ∉ Lib.join ws [32]
 | [], _ => by rw [Lib.join_nil]; simp
 | [x], h => by rw [Lib.join_one]; exact h x (by simp)
 | x :: y :: r, h => by
  have hj : Lib.join (x :: y :: r) [32] = x ++ 32 :: Lib.join (y :: r) [32] := by
   rw [Lib.join_cons, Lib.join_cons]
   simp [Lib.joinTail]
  have ih := join_no_nl (y :: r) (fun z hz => h z (List.mem_cons_of_mem _ hz))
  rw [hj]
  intro hm
  rcases List.mem_append.1 hm with hm | hm
  · exact h x (by simp) hm
  · rcases List.mem_cons.1 hm with hm | hm
   · cases hm
   · exact ih hm
theorem txt_no_nl {e : En} (h : e.chk = 0) : (10 : UInt8) ∉ e.txt := join_no_nl _ (words_no_nl h)
def dl (most : Nat) : Nat → List UInt8 → List Rc → Nat → List Rc × Nat × Int
 | 0, _, acc, n => (acc, n, 0)
 | f + 1, l, acc, n => if l = [] then (acc, n, 0) else if (Lib.cut l [10]).2.2 = false then (acc, n, 9) else if (rcRead (Lib.cut l [10]).1).2 ≠ 0 then (acc, n, (rcRead (Lib.cut l [10]).1).2)
   else if most ≤ acc.length then (acc, n, 2) else dl most f (Lib.cut l [10]).2.1 (acc ++ [(rcRead (Lib.cut l [10]).1).1]) (n + (Lib.cut l [10]).1.length + 1)
def linesOf (l : List UInt8) (most : Nat) : List Rc × Nat × Int := dl most (l.length + 1) l [] 0
theorem dl_nil (most f : Nat) (acc : List Rc) (n : Nat) : dl most (f + 1) [] acc n = (acc, n, 0) := by rw [dl, if_pos rfl]
theorem dl_torn (most f : Nat) (acc : List Rc) (n : Nat) {l a b : List UInt8} (hl : l ≠ []) (h : Lib.cut l [10] = (a, b, false)) : dl most (f + 1) l acc n = (acc, n, 9) := by rw [dl, if_neg hl, if_pos (by rw [h])]
theorem dl_bad (most f : Nat) (acc : List Rc) (n : Nat) {l a b : List UInt8} (hl : l ≠ []) (h : Lib.cut l [10] = (a, b, true)) (hp : (rcRead a).2 ≠ 0) : dl most (f + 1) l acc n = (acc, n, (rcRead a).2) := by
 rw [dl, if_neg hl, if_neg (by rw [h]; simp), h, if_pos hp]
theorem dl_many (most f : Nat) (acc : List Rc) (n : Nat) {l a b : List UInt8} (hl : l ≠ []) (h : Lib.cut l [10] = (a, b, true)) (hp : (rcRead a).2 = 0) (hm : most ≤ acc.length) : dl most (f + 1) l acc n = (acc, n, 2) := by
 rw [dl, if_neg hl, if_neg (by rw [h]; simp), h, if_neg (by simp [hp]), if_pos hm]
theorem dl_more (most f : Nat) (acc : List Rc) (n : Nat) {l a b : List UInt8} (hl : l ≠ []) (h : Lib.cut l [10] = (a, b, true)) (hp : (rcRead a).2 = 0) (hm : ¬ most ≤ acc.length) : dl most (f + 1) l acc n = dl most f b (acc ++ [(rcRead a).1]) (n + a.length + 1) := by
 rw [dl, if_neg hl, if_neg (by rw [h]; simp), h, if_neg (by simp [hp]), if_neg hm]
theorem dl_fuel (most : Nat) : ∀ (f f' : Nat) (l : List UInt8) (acc : List Rc) (n : Nat), l.length < f → l.length < f' → dl most f l acc n = dl most f' l acc n
 | 0, _, _, _, _, h, _ => by omega
 | _, 0, _, _, _, _, h => by omega
 | f + 1, f' + 1, l, acc, n, h, h' => by
  by_cases hl : l = []
  · subst hl; rw [dl_nil, dl_nil]
  · rcases hc : Lib.cut l [10] with ⟨a, b, g⟩
   cases g with
   | false => rw [dl_torn _ _ _ _ hl hc, dl_torn _ _ _ _ hl hc]
   | true =>
    by_cases hp : (rcRead a).2 = 0
    · by_cases hm : most ≤ acc.length
     · rw [dl_many _ _ _ _ hl hc hp hm, dl_many _ _ _ _ hl hc hp hm]
     · rw [dl_more _ _ _ _ hl hc hp hm, dl_more _ _ _ _ hl hc hp hm]
      have hb := nl_back l a b hc
      have : b.length < l.length := by rw [hb]; simp; omega
      exact dl_fuel most f f' b _ _ (by omega) (by omega)
    · rw [dl_bad _ _ _ _ hl hc hp, dl_bad _ _ _ _ hl hc hp]
theorem dl_spec (most : Nat) : ∀ (f : Nat) (l : List UInt8) (acc : List Rc) (n : Nat), acc.length ≤ most → (dl most f l acc n).1.length ≤ most ∧ n ≤ (dl most f l acc n).2.1 ∧ (dl most f l acc n).2.1 ≤ n + l.length
 | 0, l, acc, n, h => ⟨h, Nat.le_refl _, Nat.le_add_right _ _⟩
 | f + 1, l, acc, n, h => by
  by_cases hl : l = []
  · subst hl; rw [dl_nil]; exact ⟨h, Nat.le_refl _, Nat.le_add_right _ _⟩
  · rcases hc : Lib.cut l [10] with ⟨a, b, g⟩
   cases g with
   | false => rw [dl_torn _ _ _ _ hl hc]; exact ⟨h, Nat.le_refl _, Nat.le_add_right _ _⟩
   | true =>
    by_cases hp : (rcRead a).2 = 0
    · by_cases hm : most ≤ acc.length
     · rw [dl_many _ _ _ _ hl hc hp hm]; exact ⟨h, Nat.le_refl _, Nat.le_add_right _ _⟩
     · rw [dl_more _ _ _ _ hl hc hp hm]
      have hb := nl_back l a b hc
      have hbl : l.length = a.length + 1 + b.length := by rw [hb]; simp; omega
      obtain ⟨h1, h2, h3⟩ := dl_spec most f b (acc ++ [(rcRead a).1]) (n + a.length + 1) (by simp; omega)
      exact ⟨h1, by omega, by omega⟩
    · rw [dl_bad _ _ _ _ hl hc hp]; exact ⟨h, Nat.le_refl _, Nat.le_add_right _ _⟩
theorem lines_len (l : List UInt8) (most : Nat) : (linesOf l most).1.length ≤ most ∧ (linesOf l most).2.1 ≤ l.length := by
 obtain ⟨h1, _, h3⟩ := dl_spec most (l.length + 1) l [] 0 (Nat.zero_le _)
 exact ⟨h1, by unfold linesOf; omega⟩
def ckDisk (s t : List UInt8) : Int := if 30000 < s.length ∨ 30000 - s.length < t.length then 2 else (linesOf s 160).2.2
theorem ckDisk_zero {s t : List UInt8} : ckDisk s t = 0 ↔ s.length + t.length ≤ 30000 ∧ (linesOf s 160).2.2 = 0 := by
 unfold ckDisk
 split
 · exact ⟨fun h => (by cases h), fun h => (by omega)⟩
 · exact ⟨fun h => ⟨by omega, h⟩, fun h => h.2⟩
abbrev Dk := List UInt8 × List UInt8
def putOn (s t : List UInt8) (c : Rc) : Dk × Int := if c.chk ≠ 0 then (([], []), c.chk) else if 30000 < s.length + t.length + c.txt.length + 1 then (([], []), 2) else ((s, t ++ (c.txt ++ [10])), 0)
def synced (s t : List UInt8) : Dk × Int := if ckDisk (s ++ t) [] ≠ 0 then (([], []), ckDisk (s ++ t) []) else ((s ++ t, []), 0)
def recovered (s t : List UInt8) : Dk × List Rc := ((s ++ t.take (linesOf t (160 - (linesOf s 160).1.length)).2.1, []), (linesOf s 160).1 ++ (linesOf t (160 - (linesOf s 160).1.length)).1)
def dput (s t : List UInt8) (c : Rc) : Dk × Int := if ckDisk s t ≠ 0 then (([], []), ckDisk s t) else putOn s t c
def dsync (s t : List UInt8) : Dk × Int := if ckDisk s t ≠ 0 then (([], []), ckDisk s t) else synced s t
def dcrash (s t : List UInt8) (n : Int) : Dk × Int := if ckDisk s t ≠ 0 then (([], []), ckDisk s t) else if n < 0 ∨ (t.length : Int) < n then (([], []), 3) else ((s, t.take n.toNat), 0)
def drecover (s t : List UInt8) : Dk × List Rc × Int := if ckDisk s t ≠ 0 then (([], []), [], ckDisk s t) else ((recovered s t).1, (recovered s t).2, 0)
def rtxt (rs : List Rc) : List UInt8 := rs.flatMap fun c => c.txt ++ [10]
theorem rtxt_cons (c : Rc) (r : List Rc) : rtxt (c :: r) = c.txt ++ 10 :: rtxt r := by simp [rtxt]
theorem rtxt_append (a b : List Rc) : rtxt (a ++ b) = rtxt a ++ rtxt b := by simp [rtxt]
theorem rc_no_nl {r : Rc} (h : r.chk = 0) : (10 : UInt8) ∉ r.txt := by
 unfold Rc.txt
 by_cases hk : r.k = 2
 · rw [if_pos hk]
  obtain ⟨hp, _⟩ := Rc.seal h hk
  intro hm
  rcases List.mem_append.1 hm with hm | hm
  · revert hm; decide
  · exact itoa_no_nl r.p (by omega) hm
 · rw [if_neg hk]
  obtain ⟨_, ha, _, he⟩ := Rc.write h hk
  intro hm
  rcases List.mem_append.1 hm with hm | hm
  · exact itoa_no_nl r.a (by omega) hm
  · rcases List.mem_append.1 hm with hm | hm
   · revert hm; decide
   · exact txt_no_nl he hm
theorem nl_cut {l : List UInt8} (h : (10 : UInt8) ∉ l) : ∃ b, Lib.cut l [10] = (l, b, false) := by
 rcases hc : Lib.cut l [10] with ⟨a, b, g⟩
 cases g with
 | false => obtain rfl := nl_whole l a b hc; exact ⟨b, rfl⟩
 | true =>
  have := nl_back l a b hc
  exact absurd (by rw [this]; simp) h
theorem dl_one (most f : Nat) (acc : List Rc) (n : Nat) {c : Rc} (h : c.chk = 0) (rest : List UInt8) (hm : acc.length < most) : dl most (f + 1) (c.txt ++ 10 :: rest) acc n = dl most f rest (acc ++ [c]) (n + c.txt.length + 1) := by
 have hr := read_txt h
 rw [dl_more most f acc n (by simp) (cut_nl c.txt rest (rc_no_nl h)) (by rw [hr]) (by omega), hr]
theorem dl_lines (most : Nat) : ∀ (rs : List Rc) (f f' : Nat) (acc : List Rc) (n : Nat) (rest : List UInt8), (∀ c, c ∈ rs → c.chk = 0) → acc.length + rs.length ≤ most → (rtxt rs ++ rest).length < f → rest.length < f' →
  dl most f (rtxt rs ++ rest) acc n = dl most f' rest (acc ++ rs) (n + (rtxt rs).length)
 | [], f, f', acc, n, rest, _, _, h1, h2 => by
  simp only [rtxt, List.flatMap_nil, List.nil_append, List.append_nil, List.length_nil, Nat.add_zero] at h1 ⊢
  exact dl_fuel most f f' rest acc n h1 h2
 | c :: r, 0, _, _, _, _, _, _, h1, _ => by omega
 | c :: r, f + 1, f', acc, n, rest, hr, hl, h1, h2 => by
  rw [List.length_cons] at hl
  rw [rtxt_cons, List.append_assoc, List.cons_append] at h1 ⊢
  rw [dl_one most f acc n (hr c (by simp)) _ (by omega)]
  simp only [List.length_append, List.length_cons] at h1
  rw [dl_lines most r f f' (acc ++ [c]) _ rest (fun d hd => hr d (List.mem_cons_of_mem _ hd)) (by simp; omega) (by simp; omega) h2]
  rw [List.append_assoc, List.length_append, List.length_cons]
  congr 1
  omega
theorem lines_all {rs : List Rc} (h : ∀ c, c ∈ rs → c.chk = 0) {most : Nat} (hm : rs.length ≤ most) : linesOf (rtxt rs) most = (rs, (rtxt rs).length, 0) := by
 have := dl_lines most rs ((rtxt rs).length + 1) 1 [] 0 [] h (by simpa using hm) (by simp) (by simp)
 rw [List.append_nil] at this
 unfold linesOf
 rw [this, dl_nil]
 simp
theorem dl_torn_lines (most : Nat) : ∀ (rs : List Rc) (k f : Nat) (acc : List Rc) (n : Nat), (∀ c, c ∈ rs → c.chk = 0) → acc.length + rs.length ≤ most → ((rtxt rs).take k).length < f →
  ∃ j e, j ≤ rs.length ∧ dl most f ((rtxt rs).take k) acc n = (acc ++ rs.take j, n + (rtxt (rs.take j)).length, e) ∧ (rtxt (rs.take j)).length ≤ k
 | [], k, 0, acc, n, _, _, h => by omega
 | [], k, f + 1, acc, n, _, _, _ => ⟨0, 0, Nat.le_refl _, by simp [rtxt, dl_nil], by simp [rtxt]⟩
 | c :: r, k, 0, acc, n, _, _, h => by omega
 | c :: r, k, f + 1, acc, n, hr, hl, h => by
  have hc := hr c (by simp)
  rw [List.length_cons] at hl
  by_cases hk : k ≤ c.txt.length
  · refine ⟨0, ?_⟩
   have e : (rtxt (c :: r)).take k = c.txt.take k := by
    rw [rtxt_cons, List.take_append_of_le_length hk]
   rw [e]
   by_cases hn : c.txt.take k = []
   · exact ⟨0, Nat.zero_le _, by rw [hn, dl_nil]; simp [rtxt], by simp [rtxt]⟩
   · obtain ⟨b, hb⟩ := nl_cut (l := c.txt.take k) (fun hm => rc_no_nl hc (List.mem_of_mem_take hm))
    exact ⟨9, Nat.zero_le _, by rw [dl_torn _ _ _ _ hn hb]; simp [rtxt], by simp [rtxt]⟩
  · have e : (rtxt (c :: r)).take k = c.txt ++ 10 :: (rtxt r).take (k - c.txt.length - 1) := by
    rw [rtxt_cons, List.take_append, List.take_of_length_le (by omega)]
    congr 1
    rw [show k - c.txt.length = (k - c.txt.length - 1) + 1 by omega, List.take_succ_cons]
    simp
   rw [e] at h ⊢
   rw [dl_one most f acc n hc _ (by omega)]
   simp only [List.length_append, List.length_cons] at h
   obtain ⟨j, e', hj, he, hjk⟩ := dl_torn_lines most r (k - c.txt.length - 1) f (acc ++ [c]) (n + c.txt.length + 1) (fun d hd => hr d (List.mem_cons_of_mem _ hd)) (by simp; omega) (by omega)
   refine ⟨j + 1, e', by simp; omega, ?_, ?_⟩
   · rw [he, List.take_succ_cons, rtxt_cons]
    simp only [List.append_assoc, List.cons_append, List.nil_append, List.length_append, List.length_cons]
    congr 2
    omega
   · rw [List.take_succ_cons, rtxt_cons, List.length_append, List.length_cons]
    omega
theorem lines_torn {rs : List Rc} (h : ∀ c, c ∈ rs → c.chk = 0) {most : Nat} (hm : rs.length ≤ most) (k : Nat) : ∃ j e, j ≤ rs.length ∧ linesOf ((rtxt rs).take k) most = (rs.take j, (rtxt (rs.take j)).length, e) ∧ (rtxt (rs.take j)).length ≤ k := by
 obtain ⟨j, e, hj, he, hk⟩ := dl_torn_lines most rs k (((rtxt rs).take k).length + 1) [] 0 h (by simpa using hm) (Nat.lt_succ_self _)
 exact ⟨j, e, hj, by unfold linesOf; rw [he]; simp, hk⟩
section
variable {α : Type} {cs : α → List Value} {k : Nat}
def RowAt (cs : α → List Value) (k : Nat) (w : World) (b off : Nat) (xs : List α) : Prop := ∀ j x, xs[j]? = some x → ∀ i v, (cs x)[i]? = some v → w.cell? ⟨b, off + j * k + i, none⟩ = some v
theorem RowAt.later {w w' : World} {b off : Nat} {xs : List α} (h : RowAt cs k w b off xs) (hb : Below w.heap.size w w') : RowAt cs k w' b off xs :=
 fun j e hj i v hi => cell_later hb (h j e hj i v hi)
def SlOf (cs : α → List Value) (k : Nat) (w : World) (v : Value) (xs : List α) : Prop := ∃ a c, v = .slice a xs.length c ∧ (xs.length = 0 ∨ ∃ b off, a = some ⟨b, off, none⟩ ∧ RowAt cs k w b off xs)
theorem SlOf.later {w w' : World} {v : Value} {xs : List α} (h : SlOf cs k w v xs) (hb : Below w.heap.size w w') : SlOf cs k w' v xs := by
 obtain ⟨a, c, hv, h⟩ := h
 refine ⟨a, c, hv, ?_⟩
 rcases h with h | ⟨b, off, ha, hE⟩
 · exact Or.inl h
 · exact Or.inr ⟨b, off, ha, hE.later hb⟩
theorem SlOf.nil {w : World} (a : Option Addr) (c : Nat) : SlOf cs k w (.slice a 0 c) [] := ⟨a, c, rfl, Or.inl rfl⟩
theorem row_flat (hk : ∀ x, (cs x).length = k) : ∀ (xs : List α) (j : Nat) (x : α), xs[j]? = some x → ∀ i v, (cs x)[i]? = some v → (xs.flatMap cs)[j * k + i]? = some v
 | [], j, e, h, _, _, _ => by simp at h
 | x :: r, 0, e, h, i, v, hi => by
  simp at h; subst h
  have hlt : i < k := by
   have := (List.getElem?_eq_some_iff.1 hi).1
   rwa [hk] at this
  rw [List.flatMap_cons, Nat.zero_mul, Nat.zero_add, List.getElem?_append_left (by rw [hk]; exact hlt)]
  exact hi
 | x :: r, j + 1, e, h, i, v, hi => by
  have ih := row_flat hk r j e (by simpa using h) i v hi
  have e1 : (j + 1) * k + i = k + (j * k + i) := by rw [Nat.add_mul]; omega
  rw [List.flatMap_cons, e1, List.getElem?_append_right (by rw [hk]; omega), hk, Nat.add_sub_cancel_left]
  exact ih
theorem row_len (hk : ∀ x, (cs x).length = k) : ∀ (xs : List α), (xs.flatMap cs).length = xs.length * k
 | [] => by simp
 | x :: r => by rw [List.flatMap_cons, List.length_append, row_len hk r, hk, List.length_cons, Nat.add_mul]; omega
theorem slOf_of_owns (hk : ∀ x, (cs x).length = k) {w : World} {base : Nat} {T : TypeId} {v : Value} {xs : List α} (h : w.ownsRow base T k v xs.length (xs.flatMap cs)) : SlOf cs k w v xs := by
 rcases h.2 with ⟨hv, hn⟩ | ⟨g, cap, cur, hv, _, hg, hle, _, hsz, htake⟩
 · exact ⟨none, 0, by rw [hv, hn], Or.inl hn⟩
 · refine ⟨some ⟨g, 0, none⟩, cap, hv, Or.inr ⟨g, 0, rfl, fun j e hj i u hi => ?_⟩⟩
  have hf := row_flat hk xs j e hj i u hi
  rw [← htake, List.getElem?_take] at hf
  split at hf
  · rw [Joins.cell_of_block hg, Nat.zero_add]
   simpa using hf
  · cases hf
theorem slOf_lit (hk : ∀ x, (cs x).length = k) {w : World} {b c : Nat} {xs : List α} {A : Array Value} {T : TypeId} (hb : w.heap[b]? = some (.cells A T)) (h : A.toList = xs.flatMap cs) : SlOf cs k w (.slice (some ⟨b, 0, none⟩) xs.length c) xs := by
 refine ⟨_, c, rfl, Or.inr ⟨b, 0, rfl, fun j e hj i u hi => ?_⟩⟩
 rw [Joins.cell_of_block hb, Nat.zero_add, ← Array.getElem?_toList, h]
 exact row_flat hk xs j e hj i u hi
theorem SlOf.form {w : World} {v : Value} {xs : List α} (h : SlOf cs k w v xs) (h0 : 0 < xs.length) : ∃ b off c, v = .slice (some ⟨b, off, none⟩) xs.length c ∧ RowAt cs k w b off xs := by
 obtain ⟨a, c, rfl, hc⟩ := h
 rcases hc with hc | ⟨b, off, rfl, hE⟩
 · omega
 · exact ⟨b, off, c, rfl, hE⟩
theorem SlOf.at {w : World} {a : Option Addr} {n c : Nat} {xs : List α} (h : SlOf cs k w (.slice a n c) xs) (h0 : 0 < n) : ∃ b off, a = some ⟨b, off, none⟩ ∧ RowAt cs k w b off xs := by
 obtain ⟨a', c', e, hc⟩ := h
 injection e with e1 e2 e3
 subst e1
 rcases hc with hc | ⟨b, off, rfl, hE⟩
 · omega
 · exact ⟨b, off, rfl, hE⟩
theorem SlOf.len {w : World} {a : Option Addr} {n c : Nat} {xs : List α} (h : SlOf cs k w (.slice a n c) xs) : xs.length = n := by
 obtain ⟨a', c', e, _⟩ := h
 injection e with _ e2 _
 exact e2.symm
theorem rows_flat (hk : ∀ x, (cs x).length = k) {w : World} {b : Nat} : ∀ (xs : List α) (off : Nat), RowAt cs k w b off xs → ∀ j u, (xs.flatMap cs)[j]? = some u → w.cell? ⟨b, off + j, none⟩ = some u
 | [], _, _, j, u, h => by simp at h
 | x :: r, off, hE, j, u, h => by
  rw [List.flatMap_cons] at h
  by_cases hj : j < k
  · rw [List.getElem?_append_left (by rw [hk]; exact hj)] at h
   have := hE 0 x rfl j u h
   rwa [Nat.zero_mul, Nat.add_zero] at this
  · rw [List.getElem?_append_right (by rw [hk]; omega), hk] at h
   have ih := rows_flat hk r (off + k) (fun m e hm i v hi => by
    have := hE (m + 1) e (by simpa using hm) i v hi
    rwa [show off + (m + 1) * k + i = off + k + m * k + i by rw [Nat.add_mul]; omega] at this) (j - k) u h
   rwa [show off + k + (j - k) = off + j by omega] at ih
theorem RowAt.take {w : World} {b off : Nat} {xs : List α} (h : RowAt cs k w b off xs) (n : Nat) : RowAt cs k w b off (xs.take n) := fun j x hj => by
 rw [List.getElem?_take] at hj
 split at hj
 · exact h j x hj
 · cases hj
theorem RowAt.drop {w : World} {b off : Nat} {xs : List α} (h : RowAt cs k w b off xs) (n : Nat) : RowAt cs k w b (off + n * k) (xs.drop n) := fun j x hj i v hi => by
 rw [List.getElem?_drop] at hj
 have := h (n + j) x hj i v hi
 rwa [show off + (n + j) * k + i = off + n * k + j * k + i by rw [Nat.add_mul]; omega] at this
end
def Roomy (v : Value) : Prop := ∃ a n c, v = .slice a n c ∧ n ≤ c
theorem owns_roomy {w : World} {base : Nat} {e : TypeId} {size : Nat} {v : Value} {n : Nat} {xs : List Value} (h : w.ownsRow base e size v n xs) : Roomy v := by
 rcases h.2 with ⟨h1, _⟩ | ⟨g, cap, cur, h1, _, _, h4, _⟩
 · exact ⟨none, 0, 0, h1, Nat.le_refl _⟩
 · exact ⟨_, n, cap, h1, h4⟩
def Typed (t : TypeId) (w : World) (v : Value) : Prop := ∀ b, some b = v.ownBlock → ∃ cur, w.heap[b]? = some (.cells cur t)
theorem Typed.nil {t : TypeId} {w : World} {n c : Nat} : Typed t w (.slice none n c) := fun b h => by cases h
theorem Typed.later {t : TypeId} {w w' : World} {v : Value} (h : Typed t w v) (hb : Below w.heap.size w w') : Typed t w' v := fun b e => by
 obtain ⟨cur, hc⟩ := h b e
 exact ⟨cur, heap_below hc hb (heap_lt hc)⟩
theorem Typed.setCell {t : TypeId} {w : World} {v : Value} (h : Typed t w v) (g i : Nat) (u : Value) : Typed t (w.setCell ⟨g, i, none⟩ u) v := fun b e => by
 obtain ⟨cur, hc⟩ := h b e
 by_cases hg : b = g
 · subst hg
  exact ⟨_, Joins.block_setCell hc u⟩
 · exact ⟨cur, by rw [Below.heap_setCell _ _ _ _ (by exact hg)]; exact hc⟩
theorem typed_block {t : TypeId} {w : World} {b : Nat} {cur : Array Value} (h : w.heap[b]? = some (.cells cur t)) (off n c : Nat) : Typed t w (.slice (some ⟨b, off, none⟩) n c) := fun b' e => by
 obtain rfl : b' = b := Option.some.inj e
 exact ⟨cur, h⟩
theorem typed_owns {t : TypeId} {w : World} {base size : Nat} {v : Value} {n : Nat} {xs : List Value} (h : w.ownsRow base t size v n xs) : Typed t w v := fun b hb => by
 rcases h.2 with ⟨h1, _⟩ | ⟨g, cap, cur, h1, _, h3, _⟩
 · rw [h1] at hb; cases hb
 · rw [h1] at hb
  obtain rfl : b = g := Option.some.inj hb
  exact ⟨cur, h3⟩
theorem SlOf.other {α : Type} {cs : α → List Value} {k : Nat} {w : World} {v : Value} {xs : List α} {t t' : TypeId} (h : SlOf cs k w v xs) (ht : Typed t w v) {B : Nat} {cur : Array Value} (hB : w.heap[B]? = some (.cells cur t')) (hne : t ≠ t') (i : Nat) (u : Value) : SlOf cs k (w.setCell ⟨B, i, none⟩ u) v xs := by
 obtain ⟨a, c, rfl, hc⟩ := h
 refine ⟨a, c, rfl, ?_⟩
 rcases hc with hc | ⟨b, off, rfl, hE⟩
 · exact Or.inl hc
 · refine Or.inr ⟨b, off, rfl, fun j x hj i' v' hi' => ?_⟩
  have hne' : b ≠ B := fun e => by
   obtain ⟨cur', hc'⟩ := ht b rfl
   rw [e, hB] at hc'
   injection hc' with hc'
   injection hc' with _ h2
   exact hne h2.symm
  rw [World.cell?_of_block (Below.heap_setCell _ _ _ _ (by exact hne'))]
  exact hE j x hj i' v' hi'
def bt (b : UInt8) : List Value := [.int .u8 b.toNat]
theorem bt_one (b : UInt8) : (bt b).length = 1 := rfl
abbrev ByteSl (w : World) (v : Value) (l : List UInt8) : Prop := SlOf bt 1 w v l
theorem infoY : (Tryz.prog.info? 5).map (fun i => (i.zero, i.size, i.bytes)) = some (some (Value.int .u8 0), 1, 1) := by kernel_rfl
theorem oneY (es : List UInt8) : ∀ u ∈ es.flatMap bt, u.oneCell' = true := fun u hu => by
 obtain ⟨e, _, he⟩ := List.mem_flatMap.1 hu
 simp only [bt, List.mem_cons, List.not_mem_nil, or_false] at he
 subst he; rfl
theorem str_of {W : World} {v : Value} {l : List UInt8} (h : ByteSl W v l) : (convert 45 9 v).run Tryz.prog W = .ok (.string ⟨l.toArray⟩) W := by
 obtain ⟨a, c, rfl, hc⟩ := h
 rcases hc with h0 | ⟨b, off, rfl, hE⟩
 · obtain rfl : l = [] := List.length_eq_zero_iff.1 h0
  show (convert 45 9 (.slice a 0 c)).run Tryz.prog W = _
  rw [run_convert_bytes_string W _ _ _ a 0 c Tryz.underlying45 Tryz.underlying5 Tryz.underlying9]
  cases a <;> rfl
 · refine run_convert_bytes_back W _ _ _ ⟨b, off, none⟩ c l Tryz.underlying45 Tryz.underlying5 Tryz.underlying9 (fun j hj => ?_)
  rw [Lib.add_plain]
  have := hE j l[j] (List.getElem?_eq_getElem hj) 0 _ rfl
  rwa [Nat.mul_one, Nat.add_zero] at this
section
open scoped Classical
def Rc.cells (r : Rc) : List Value := [.int .i64 r.k, .int .i64 r.a, .int .i64 r.p, .int .i64 r.e.k, .int .i64 r.e.j, .int .i64 r.e.v, .int .i64 r.e.t, .int .i64 r.e.c]
theorem Rc.eight (r : Rc) : r.cells.length = 8 := rfl
abbrev RecSl (w : World) (v : Value) (l : List Rc) : Prop := SlOf Rc.cells 8 w v l
theorem infoC : (Tryz.prog.info? 94).map (fun i => (i.zero, i.size, i.bytes)) = some (some (Rc.zero.val), 8, 64) := by kernel_rfl
theorem oneC (es : List Rc) : ∀ u ∈ es.flatMap Rc.cells, u.oneCell' = true := fun u hu => by
 obtain ⟨e, _, he⟩ := List.mem_flatMap.1 hu
 simp only [Rc.cells, List.mem_cons, List.not_mem_nil, or_false] at he
 rcases he with rfl | rfl | rfl | rfl | rfl | rfl | rfl | rfl <;> rfl
theorem appendC {w : World} {ops : Array Oper} {rest : List Oper} {o : Oper} {a : Act} {Q : Exit → Act → World → Prop} (hgd : o.guard = none) (s x : Operand)
  (ho : o.op = .call { callee := .builtin .append, args := #[s, x], argTypes := #[86, 86] })
  (base : Nat) (v u : Value) (n : Nat) (xs : List Value) (hs : a.eval s = v) (hown : w.ownsRow base 94 8 v n xs)
  (es : List Rc) (hx : a.eval x = u) (hes : SlOf Rc.cells 8 w u es) (hlen : n + es.length ≤ 1000000) (hbase : base ≤ w.heap.size)
  (h : ∀ v' w', w'.ownsRow base 94 8 v' (n + es.length) (xs ++ es.flatMap Rc.cells) → w.grownBy w' v.ownBlock → wpList Tryz.prog ops Q rest (a.put o.dst v') w') : wpList Tryz.prog ops Q (o :: rest) a w := by
 obtain ⟨i0, hi, hz0, hz1, hz2⟩ := info_parts infoC
 obtain ⟨ao, c, rfl, hcase⟩ := hes
 by_cases hz : es.length = 0
 · obtain rfl : es = [] := List.length_eq_zero_iff.1 hz
  refine Lib.wpList_append_run w hgd s x _ _ ho v _ hs hx v w ?_ (h v w (by simpa using hown) ⟨rfl, rfl, rfl, Nat.le_refl _, fun _ _ _ => rfl⟩)
  have hsrc : Src Tryz.prog i0.size 86 (.slice ao 0 c) 0 [] w := by
   cases ao with
   | none => exact Src.ofNil w Tryz.underlying86 c
   | some ad => exact Src.ofSlice w Tryz.underlying86 ad 0 c [] (by simp) (by simp) (by simp)
  rcases hown.2 with ⟨rfl, _⟩ | ⟨g, cap, cur, rfl, _, _, hle, _⟩
  · exact run_append_nothing w _ _ _ _ i0 Tryz.underlying86 hi none 0 0 (Nat.le_refl _) _ hsrc
  · exact run_append_nothing w _ _ _ _ i0 Tryz.underlying86 hi _ n cap hle _ hsrc
 · rcases hcase with h0 | ⟨b, off, rfl, hE⟩
  · exact absurd h0 hz
  · exact wpList_append_own w hgd s x _ ho base _ i0 (Rc.zero.val) 8 64 Tryz.underlying86 hi hz0 hz1 hz2 rfl (by decide) v n xs hs hown ⟨b, off, none⟩ es.length c (es.flatMap Rc.cells) hx (row_len Rc.eight es)
    (fun j u hj => by rw [Lib.add_plain]; exact rows_flat Rc.eight es off hE j u hj) (oneC es) (by unfold maxLen; omega) (by omega) hbase fun v' w' h1 h2 _ => h v' w' h1 h2
end
abbrev nilB : Value := .slice none 0 0
abbrev boxD (v1 v2 : Value) : Obj := .cells #[v1, v2] 47
def Value.isNum : Value → Bool
 | .int _ _ => true
 | _ => false
theorem SlOf.apart {α : Type} {cs : α → List Value} {k : Nat} (hcs : ∀ (x : α) (i : Nat) (v : Value), (cs x)[i]? = some v → Value.isNum v = true) {w : World} {v : Value} {xs : List α} (h : SlOf cs k w v xs) {B : Nat} {A : Array Value} {T : TypeId}
  (hB : w.heap[B]? = some (.cells A T)) (hA : ∀ u, u ∈ A.toList → Value.isNum u = false) (i : Nat) (u : Value) : SlOf cs k (w.setCell ⟨B, i, none⟩ u) v xs := by
 obtain ⟨a, c, rfl, hc⟩ := h
 refine ⟨a, c, rfl, ?_⟩
 rcases hc with hc | ⟨b, off, rfl, hE⟩
 · exact Or.inl hc
 · refine Or.inr ⟨b, off, rfl, fun j x hj i' v' hi' => ?_⟩
  have hcell := hE j x hj i' v' hi'
  have hne : b ≠ B := fun e => by
   rw [e, Joins.cell_of_block hB] at hcell
   have h1 := hcs x i' v' hi'
   have h2 := hA v' (Array.mem_toList_iff.2 (Array.mem_of_getElem? hcell))
   rw [h1] at h2; cases h2
  have hh : (w.setCell ⟨B, i, none⟩ u).heap[b]? = w.heap[b]? := Below.heap_setCell _ _ _ _ (by show b ≠ B; exact hne)
  have : (w.setCell ⟨B, i, none⟩ u).cell? ⟨b, off + j * k + i', none⟩ = w.cell? ⟨b, off + j * k + i', none⟩ := by simp only [World.cell?, hh]
  rw [this]; exact hcell
theorem bt_num (x : UInt8) (i : Nat) (v : Value) (h : (bt x)[i]? = some v) : Value.isNum v = true := by
 have := List.mem_of_getElem? h
 simp [bt] at this
 subst this; rfl
theorem slices_num {a1 a2 : Option Addr} {n1 n2 c1 c2 : Nat} : ∀ u, u ∈ (#[Value.slice a1 n1 c1, .slice a2 n2 c2] : Array Value).toList → Value.isNum u = false := fun u hu => by
 simp at hu
 rcases hu with rfl | rfl <;> rfl
theorem disk_stored {W : World} {b : Nat} {v1 v2 : Value} (h : W.heap[b]? = some (boxD v1 v2)) (u1 u2 : Value) : ((W.setCell ⟨b, 0, none⟩ u1).setCell ⟨b, 1, none⟩ u2).heap[b]? = some (boxD u1 u2) := by
 have h0 : (W.setCell ⟨b, 0, none⟩ u1).heap[b]? = some (boxD u1 v2) := by rw [Joins.block_setCell h]; rfl
 rw [Joins.block_setCell h0]; rfl
theorem below_two {B : Nat} {a W : World} {b : Nat} (h : Below B a W) (hb : B ≤ b) (u1 u2 : Value) : Below B a ((W.setCell ⟨b, 0, none⟩ u1).setCell ⟨b, 1, none⟩ u2) :=
 (h.setCell (p := ⟨b, 0, none⟩) hb _).setCell (p := ⟨b, 1, none⟩) hb _
theorem bytes_two {W : World} {b : Nat} {a1 a2 e1 e2 : Option Addr} {n1 n2 c1 c2 m1 m2 d1 d2 : Nat} (hb : W.heap[b]? = some (boxD (.slice a1 n1 c1) (.slice a2 n2 c2))) {α : Type} {cs : α → List Value} {k : Nat} (hcs : ∀ (x : α) (i : Nat) (v : Value), (cs x)[i]? = some v → Value.isNum v = true) {v : Value} {l : List α} (h : SlOf cs k W v l) :
  SlOf cs k ((W.setCell ⟨b, 0, none⟩ (.slice e1 m1 d1)).setCell ⟨b, 1, none⟩ (.slice e2 m2 d2)) v l := by
 have h0 : (W.setCell ⟨b, 0, none⟩ (.slice e1 m1 d1)).heap[b]? = some (boxD (.slice e1 m1 d1) (.slice a2 n2 c2)) := by rw [Joins.block_setCell hb]; rfl
 exact (h.apart hcs hb slices_num 0 _).apart hcs h0 slices_num 1 _
theorem rc_num (x : Rc) (i : Nat) (v : Value) (h : (Rc.cells x)[i]? = some v) : Value.isNum v = true := by
 have := List.mem_of_getElem? h
 simp only [Rc.cells, List.mem_cons, List.not_mem_nil, or_false] at this
 rcases this with rfl | rfl | rfl | rfl | rfl | rfl | rfl | rfl <;> rfl
theorem cell_other {w : World} {b g : Nat} (hne : g ≠ b) (i j : Nat) (v : Value) : (w.setCell ⟨b, i, none⟩ v).cell? ⟨g, j, none⟩ = w.cell? ⟨g, j, none⟩ := by
 have hh : (w.setCell ⟨b, i, none⟩ v).heap[g]? = w.heap[g]? := Below.heap_setCell _ _ _ _ (by show g ≠ b; exact hne)
 simp only [World.cell?, hh]
theorem SlOf.upto {α : Type} {cs : α → List Value} {k : Nat} {w : World} {a : Option Addr} {n c : Nat} {xs : List α} (h : SlOf cs k w (.slice a n c) xs) (m : Nat) (hm : m ≤ n) : SlOf cs k w (.slice a m c) (xs.take m) := by
 obtain ⟨a', c', e, hc⟩ := h
 injection e with e1 e2 e3
 subst e1 e2 e3
 refine ⟨a, c, by rw [List.length_take, Nat.min_eq_left hm], ?_⟩
 rcases hc with hc | ⟨b, off, ha, hE⟩
 · exact Or.inl (by rw [List.length_take]; omega)
 · exact Or.inr ⟨b, off, ha, hE.take m⟩
structure DiskR (w : World) (v1 v2 : Value) (d : Dk) : Prop where
 safe : ByteSl w v1 d.1
 wait : ByteSl w v2 d.2
 room1 : Roomy v1
 room2 : Roomy v2
theorem DiskR.later {w w' : World} {v1 v2 : Value} {d : Dk} (h : DiskR w v1 v2 d) (hb : Below w.heap.size w w') : DiskR w' v1 v2 d := ⟨h.safe.later hb, h.wait.later hb, h.room1, h.room2⟩
theorem dk_nil_lines (most : Nat) : linesOf [] most = ([], 0, 0) := dl_nil most 0 [] 0
def c2 : Rc := ⟨2, 0, 2, En.zero⟩
def c3 : Rc := ⟨2, 0, 3, En.zero⟩
def L2 : List UInt8 := [115, 101, 97, 108, 32, 50, 10]
def L3 : List UInt8 := [115, 101, 97, 108, 32, 51, 10]
theorem c2_chk : c2.chk = 0 := by decide
theorem c3_chk : c3.chk = 0 := by decide
theorem c2_txt : c2.txt ++ [10] = L2 := by kernel_rfl
theorem c3_txt : c3.txt ++ [10] = L3 := by kernel_rfl
theorem c2_rows : rtxt [c2] = L2 := by rw [rtxt, List.flatMap_cons, List.flatMap_nil, List.append_nil, c2_txt]
theorem L2_lines (most : Nat) (h : 1 ≤ most) : linesOf L2 most = ([c2], 7, 0) := by
 have := lines_all (rs := [c2]) (fun c hc => by simp at hc; rw [hc]; exact c2_chk) (most := most) h
 rw [c2_rows] at this
 exact this
theorem f1 : dput [] [] c2 = (([], L2), 0) := by
 have h0 : ckDisk [] [] = 0 := ckDisk_zero.2 ⟨by simp, by rw [dk_nil_lines]⟩
 have hl : c2.txt.length + 1 = 7 := by have := congrArg List.length c2_txt; rw [List.length_append] at this; exact this
 rw [dput, if_neg (by simp [h0]), putOn, if_neg (by simp [c2_chk]), if_neg (by simp; omega), c2_txt]
 rfl
theorem f2 : dsync [] L2 = ((L2, []), 0) := by
 have h0 : ckDisk [] L2 = 0 := ckDisk_zero.2 ⟨by decide, by rw [dk_nil_lines]⟩
 have h1 : ckDisk ([] ++ L2) [] = 0 := ckDisk_zero.2 ⟨by decide, by rw [List.nil_append, L2_lines _ (by decide)]⟩
 rw [dsync, if_neg (by simp [h0]), synced, if_neg (by rw [h1]; simp), List.nil_append]
theorem f3 : dput L2 [] c3 = ((L2, L3), 0) := by
 have h0 : ckDisk L2 [] = 0 := ckDisk_zero.2 ⟨by decide, by rw [L2_lines _ (by decide)]⟩
 have hl : c3.txt.length + 1 = 7 := by have := congrArg List.length c3_txt; rw [List.length_append] at this; exact this
 have hl2 : L2.length = 7 := rfl
 rw [dput, if_neg (by simp [h0]), putOn, if_neg (by simp [c3_chk]), if_neg (by rw [hl2]; simp; omega), c3_txt]
 rfl
theorem f4 : dcrash L2 L3 4 = ((L2, [115, 101, 97, 108]), 0) := by
 have h0 : ckDisk L2 L3 = 0 := ckDisk_zero.2 ⟨by decide, by rw [L2_lines _ (by decide)]⟩
 rw [dcrash, if_neg (by simp [h0]), if_neg (by decide)]
 rfl
theorem f5 : drecover L2 [115, 101, 97, 108] = ((L2, []), [c2], 0) := by
 have h0 : ckDisk L2 [115, 101, 97, 108] = 0 := ckDisk_zero.2 ⟨by decide, by rw [L2_lines _ (by decide)]⟩
 obtain ⟨b, hb⟩ := nl_cut (l := [115, 101, 97, 108]) (by decide)
 have h1 : ∀ most, linesOf [115, 101, 97, 108] most = ([], 0, 9) := fun most => dl_torn most _ [] 0 (by simp) hb
 rw [drecover, if_neg (by simp [h0]), recovered, L2_lines _ (by decide), h1]
 rfl
abbrev topLen : Nat := 140737488351232
def Near (W W' : World) (v1 v2 u : Value) : Prop := ∀ b, u.ownBlock = some b → (W.heap.size ≤ b ∧ b < W'.heap.size) ∨ v1.ownBlock = some b ∨ v2.ownBlock = some b
abbrev AnsR (f : Nat) (v1 v2 : Value) (args : Array Value) (w : World) (r : Dk × Int) : Prop :=
 Calls Tryz.prog f args w fun e w' => ∃ u1 u2, e = .returned (.tuple #[.agg #[u1, u2], .int .i64 r.2]) ∧ DiskR w' u1 u2 r.1 ∧ Below w.heap.size w w' ∧ Near w w' v1 v2 u1 ∧ Near w w' v1 v2 u2
theorem cellsY : Tryz.prog.cellsOf 5 = 1 := by kernel_rfl
theorem cellsD : Tryz.prog.cellsOf 47 = 2 := by kernel_rfl
theorem cellsLY : Tryz.prog.cellsOf 45 = 1 := by kernel_rfl
section
variable {H : Type} {enc : TypeId × Value → H} {w : World} {base : Nat} {spare : Nat → Bool} {held : Bool}
theorem trodY {fuel : Nat} {cs : List Value} {x : DataW H × List MemPlace} (h : DataW.trod enc Tryz.prog w base spare held fuel 5 cs = some x) : ∃ b : UInt8, cs = bt b := by
 obtain ⟨n, rfl, _, hw⟩ := DataW.trod_int Tryz.underlying5 h
 have hr : 0 ≤ n ∧ n < 256 := by
  have e1 : IntKind.u8.min = 0 := by decide
  have e2 : IntKind.u8.max = 255 := by decide
  simp [Lit.wf] at hw
  omega
 exact ⟨UInt8.ofNat n.toNat, by simp [bt]; omega⟩
theorem one_sl {t e : TypeId} {fuel : Nat} {c0 : Value} {x : DataW H × List MemPlace} (ht : Tryz.prog.underlying t = some (.slice e)) (h : DataW.trod enc Tryz.prog w base spare held fuel t [c0] = some x) : ∃ a l c, c0 = .slice a l c := by
 rcases Deep.open_slice ht h with ⟨hcs, _⟩ | ⟨a, len, cap, m, n, D, Pl, hcs, _⟩
 · exact ⟨_, _, _, by simpa using hcs⟩
 · exact ⟨_, _, _, by simpa using hcs⟩
theorem openY {fuel : Nat} {a0 : Option Addr} {len0 cap0 : Nat} {x : DataW H × List MemPlace} (hf : DataW.trod enc Tryz.prog w base spare held fuel 45 [.slice a0 len0 cap0] = some x) :
  ∃ es : List UInt8, SlOf bt 1 w (.slice a0 len0 cap0) es ∧ es.length ≤ maxLen ∧ len0 ≤ cap0 := by
 rcases Deep.open_slice Tryz.underlying45 hf with ⟨hcs, _⟩ | ⟨a, len, cap, m, n, D, Pl, hcs, _, hl, hm, hmm, _, hel⟩
 · simp at hcs
  obtain ⟨rfl, rfl, rfl⟩ := hcs
  exact ⟨[], ⟨none, 0, rfl, Or.inl rfl⟩, Nat.zero_le _, Nat.le_refl _⟩
 · simp at hcs
  obtain ⟨rfl, rfl, rfl⟩ := hcs
  rw [cellsY] at hel
  have hlm : len0 ≤ m := by rw [hmm]; split <;> omega
  have hE : ∀ i, i < len0 → ∃ e : UInt8, ∀ j u, (bt e)[j]? = some u → w.cell? ((a.add (i * 1)).add j) = some u := fun i hi => by
   obtain ⟨cs', h1, h2⟩ := hel i (by omega)
   obtain ⟨e, rfl⟩ := trodY h2
   refine ⟨e, fun j u hj => ?_⟩
   have hlt : j < 1 := by
    have := (List.getElem?_eq_some_iff.1 hj).1
    simpa [bt] using this
   exact ((World.cells?_some h1).2.2 j hlt).trans hj
  obtain ⟨E, hE⟩ := @Deep.choose_lt UInt8 ⟨0⟩ len0 _ hE
  have hlen : ((List.range len0).map E).length = len0 := by simp
  refine ⟨(List.range len0).map E, ⟨some a, cap0, by rw [hlen], ?_⟩, by rw [hlen]; omega, hl⟩
  rw [hlen]
  by_cases hz : len0 = 0
  · exact Or.inl hz
  · right
   obtain ⟨b, off, spot⟩ := a
   have hspot : spot = none := by
    have := World.cell?_spot (hE 0 (by omega) 0 _ rfl)
    simpa [Addr.add] using this
   subst hspot
   refine ⟨b, off, rfl, fun j e hj i u hi => ?_⟩
   have hjl : j < len0 := by
    have := (List.getElem?_eq_some_iff.1 hj).1
    rwa [hlen] at this
   have he : E j = e := by simpa [hjl] using hj
   have := hE j hjl i u (by rw [he]; exact hi)
   rw [Deep.add_add, Lib.add_plain] at this
   rw [Nat.add_assoc]
   exact this
theorem lenY {fuel : Nat} {a0 : Option Addr} {len0 cap0 : Nat} {x : DataW H × List MemPlace} (hf : DataW.trod enc Tryz.prog w base spare held fuel 45 [.slice a0 len0 cap0] = some x) (hs : ∀ n ∈ DataW.weights Tryz.prog 45 x.1, n ≤ reachBytes) : len0 ≤ topLen := by
 rcases Deep.open_slice Tryz.underlying45 hf with ⟨hcs, _⟩ | ⟨a, len, cap, m, n, D, Pl, hcs, _, hl, hm, hmm, hx, hel⟩
 · simp at hcs
  obtain ⟨rfl, rfl, rfl⟩ := hcs
  exact Nat.zero_le _
 · simp at hcs
  obtain ⟨rfl, rfl, rfl⟩ := hcs
  have h1 := hs ((len0 + (m - len0)) * Tryz.prog.bytesOf 5) (by rw [hx]; simp [DataW.weights, Tryz.underlying45])
  rw [show Tryz.prog.bytesOf 5 = 1 by kernel_rfl] at h1
  have h2 : reachBytes = 140737488351232 := by decide
  show len0 ≤ 140737488351232
  omega
end
theorem openI {H : Type} {enc : TypeId × Value → H} {w : World} {base : Nat} {spare : Nat → Bool} {held : Bool} {r : Reach} {b0 : Nat} {v : Value} {d : DataW H} {p : List MemPlace} (hv : Value.okWide Tryz.prog w r b0 3 v) (h : DataW.Trod enc Tryz.prog w base spare held 3 v d p) : ∃ n, v = .int .i64 n := by
 obtain ⟨n, rfl, _⟩ := open_int Tryz.underlying3 hv h
 exact ⟨n, rfl⟩
structure Un where (p : Int) (cells : List En)
def Un.zero : Un := ⟨0, []⟩
def blankE : En := ⟨4, 0, 0, 0, 0⟩
def En.isB (e : En) : Bool := !unlike e.k e.j e.v e.t e.c 4 0 0 0 0
theorem En.isB_eq {e : En} : e.isB = true ↔ e = blankE := by
 unfold En.isB
 constructor
 · intro h
  obtain ⟨h1, h2, h3, h4, h5⟩ := unlike_false (by simpa using h)
  cases e
  simp_all [blankE]
 · rintro rfl
  decide
theorem blank_isB : blankE.isB = true := by decide
theorem blank_chk : blankE.chk = 4 := by decide
def ckCells : List En → Int
 | [] => 0
 | c :: r => if c.isB = true then ckCells r else if c.chk ≠ 0 then c.chk else ckCells r
def Un.ck (u : Un) : Int := if ¬(1 ≤ u.p ∧ u.p ≤ 20) then 3 else if ¬ u.cells.length = 60 then 4 else ckCells u.cells
theorem Un.ck_zero {u : Un} : u.ck = 0 ↔ (1 ≤ u.p ∧ u.p ≤ 20) ∧ u.cells.length = 60 ∧ ckCells u.cells = 0 := by
 unfold Un.ck
 split
 · rename_i h
  exact ⟨fun h' => (by cases h'), fun h' => absurd h'.1 h⟩
 · split
  · rename_i h
   exact ⟨fun h' => (by cases h'), fun h' => absurd h'.2.1 h⟩
  · rename_i h1 h2
   exact ⟨fun h' => ⟨by simpa using h1, by simpa using h2, h'⟩, fun h' => h'.2.2⟩
theorem ckCells_zero : ∀ {l : List En}, ckCells l = 0 ↔ ∀ c, c ∈ l → c.isB = true ∨ c.chk = 0
 | [] => ⟨fun _ c hc => (by cases hc), fun _ => rfl⟩
 | c :: r => by
  rw [ckCells]
  have ih := ckCells_zero (l := r)
  by_cases hb : c.isB = true
  · rw [if_pos hb, ih]
   exact ⟨fun h x hx => (List.mem_cons.1 hx).elim (fun e => Or.inl (e ▸ hb)) (h x), fun h x hx => h x (List.mem_cons_of_mem _ hx)⟩
  · rw [if_neg hb]
   by_cases hc : c.chk = 0
   · rw [if_neg (by simpa using hc), ih]
    exact ⟨fun h x hx => (List.mem_cons.1 hx).elim (fun e => Or.inr (e ▸ hc)) (h x), fun h x hx => h x (List.mem_cons_of_mem _ hx)⟩
   · rw [if_pos hc]
    exact ⟨fun h => absurd h hc, fun h => (h c (by simp)).elim (fun h' => absurd h' hb) id⟩
def unew : Un := ⟨1, List.replicate 60 blankE⟩
theorem unew_ck : unew.ck = 0 := Un.ck_zero.2 ⟨by decide, by simp [unew], ckCells_zero.2 fun c hc => Or.inl (by
 rw [List.eq_of_mem_replicate hc]; exact blank_isB)⟩
def uwrite (u : Un) (r : Rc) : Un × Int :=
 if r.k = 2 then (if r.p ≤ u.p then (Un.zero, 8) else (⟨r.p, u.cells⟩, 0))
 else if (u.cells.getD r.a.toNat blankE).isB = false then (Un.zero, 6) else (⟨u.p, u.cells.set r.a.toNat r.e⟩, 0)
def unext (u : Un) (r : Rc) : Un × Int := if u.ck ≠ 0 then (Un.zero, u.ck) else if r.chk ≠ 0 then (Un.zero, r.chk) else uwrite u r
theorem unext_ok {u : Un} {r : Rc} (h : (unext u r).2 = 0) : u.ck = 0 ∧ r.chk = 0 ∧ ((r.k = 2 ∧ u.p < r.p ∧ r.p ≤ 20 ∧ (unext u r).1 = ⟨r.p, u.cells⟩) ∨ (r.k = 1 ∧ (0 ≤ r.a ∧ r.a ≤ 59) ∧ u.cells[r.a.toNat]? = some blankE ∧ r.e.chk = 0 ∧ (unext u r).1 = ⟨u.p, u.cells.set r.a.toNat r.e⟩)) := by
 unfold unext at h ⊢
 by_cases h1 : u.ck = 0
 · rw [if_neg (by simpa using h1)] at h ⊢
  by_cases h2 : r.chk = 0
  · rw [if_neg (by simpa using h2)] at h ⊢
   refine ⟨h1, h2, ?_⟩
   unfold uwrite at h ⊢
   by_cases hk : r.k = 2
   · rw [if_pos hk] at h ⊢
    by_cases hp : r.p ≤ u.p
    · rw [if_pos hp] at h; cases h
    · rw [if_neg hp]
     exact Or.inl ⟨hk, by omega, (Rc.seal h2 hk).1.2, rfl⟩
   · rw [if_neg hk] at h ⊢
    obtain ⟨g1, g2, _, g4⟩ := Rc.write h2 hk
    by_cases hb : (u.cells.getD r.a.toNat blankE).isB = false
    · rw [if_pos hb] at h; cases h
    · rw [if_neg hb]
     have hl : r.a.toNat < u.cells.length := by have := (Un.ck_zero.1 h1).2.1; omega
     have he : u.cells[r.a.toNat]? = some blankE := by
      rw [List.getElem?_eq_getElem hl]
      have hb' : (u.cells.getD r.a.toNat blankE).isB = true := by simpa using hb
      rw [List.getD_eq_getElem?_getD, List.getElem?_eq_getElem hl] at hb'
      exact congrArg some (En.isB_eq.1 hb')
     exact Or.inr ⟨g1, g2, he, g4, rfl⟩
  · rw [if_pos h2] at h; exact absurd h h2
 · rw [if_pos h1] at h; exact absurd h h1
theorem unext_ck {u : Un} {r : Rc} (h : (unext u r).2 = 0) : (unext u r).1.ck = 0 := by
 obtain ⟨h1, h2, hw⟩ := unext_ok h
 obtain ⟨g1, g2, g3⟩ := Un.ck_zero.1 h1
 rcases hw with ⟨_, hp, hp2, e⟩ | ⟨_, ha, hb, hc, e⟩ <;> rw [e]
 · exact Un.ck_zero.2 ⟨⟨by show 1 ≤ r.p; omega, hp2⟩, g2, g3⟩
 · refine Un.ck_zero.2 ⟨g1, by rw [List.length_set]; exact g2, ckCells_zero.2 fun c hcm => ?_⟩
  rcases List.mem_or_eq_of_mem_set hcm with hcm | rfl
  · exact ckCells_zero.1 g3 c hcm
  · exact Or.inr hc
theorem unext_stands {u : Un} {r : Rc} (h : (unext u r).2 = 0) (k : Nat) {c : En} (hc : u.cells[k]? = some c) :
  (unext u r).1.cells[k]? = some c ∨ (c = blankE ∧ r.k = 1 ∧ r.a = k ∧ (unext u r).1.cells[k]? = some r.e) := by
 obtain ⟨_, _, hw⟩ := unext_ok h
 rcases hw with ⟨_, _, _, e⟩ | ⟨hk, ha, hb, _, e⟩ <;> rw [e]
 · exact Or.inl hc
 · by_cases hka : r.a.toNat = k
  · subst hka
   rw [hb] at hc
   refine Or.inr ⟨(Option.some.inj hc).symm, hk, by omega, ?_⟩
   have hl := (List.getElem?_eq_some_iff.1 hb).1
   show (u.cells.set r.a.toNat r.e)[r.a.toNat]? = _
   rw [List.getElem?_set_self hl]
  · left
   show (u.cells.set r.a.toNat r.e)[k]? = _
   rw [List.getElem?_set_ne hka]
   exact hc
def ufold : Un → List Rc → Un × Int
 | u, [] => (u, 0)
 | u, r :: l => if (unext u r).2 ≠ 0 then (Un.zero, (unext u r).2) else ufold (unext u r).1 l
def unitOf (l : List Rc) : Un × Int := if 160 < l.length then (Un.zero, 2) else ufold unew l
theorem ufold_snoc : ∀ (l : List Rc) (u : Un) (r : Rc), (ufold u l).2 = 0 → (unext (ufold u l).1 r).2 = 0 → ufold u (l ++ [r]) = ((unext (ufold u l).1 r).1, 0)
 | [], u, r, _, h => by
  have h' : (unext u r).2 = 0 := h
  show (if (unext u r).2 ≠ 0 then (Un.zero, (unext u r).2) else ufold (unext u r).1 []) = ((unext u r).1, 0)
  rw [if_neg (by simpa using h')]
  rfl
 | x :: l, u, r, h1, h2 => by
  rw [ufold] at h1 h2
  rw [List.cons_append, ufold]
  by_cases hx : (unext u x).2 = 0
  · rw [if_neg (by simpa using hx)] at h1 h2 ⊢
   rw [ufold_snoc l _ r h1 h2, ufold, if_neg (by simpa using hx)]
  · rw [if_pos hx] at h1; exact absurd h1 hx
section
open scoped Classical
theorem En.five (e : En) : e.cells.length = 5 := rfl
theorem eq_lenE (a1 a2 : Option Addr) (n m c d : Nat) (w : World) (h : ((n : Int) != (m : Int)) = true) :
  Calls Tryz.prog 35 #[.slice a1 n c, .slice a2 m d] w fun e w' => e = .returned (.bool false) ∧ w' = w := by
 go_enter Tryz.func35, Tryz.ntmps35
 go_wp2
 go_ret
 exact ⟨rfl, rfl⟩
theorem eq_someE (a1 a2 : Option Addr) (c d n : Nat) (es fs : List En) (w : World) (hn : n ≤ 9223372036854775807) (h1 : es.length = n) (h2 : fs.length = n) (hE : SlOf En.cells 5 w (.slice a1 n c) es) (hF : SlOf En.cells 5 w (.slice a2 n d) fs) :
  Calls Tryz.prog 35 #[.slice a1 n c, .slice a2 n d] w fun r w' => ∃ bb, r = .returned (.bool bb) ∧ (bb = true ↔ es = fs) ∧ ∃ q, w' = w.drewN q := by
 have H1 : Hid (es.length = n) := h1
 have H2 : Hid (fs.length = n) := h2
 have HE : Hid (SlOf En.cells 5 w (.slice a1 n c) es) := hE
 have HF : Hid (SlOf En.cells 5 w (.slice a2 n d) fs) := hF
 clear h1 h2 hE hF
 go_enter Tryz.func35, Tryz.ntmps35
 go_wp2
 go_loopg [13] n (fun g s13 wr => ∃ k q : Nat, k ≤ n ∧ n - k ≤ g ∧ s13 = .int .i64 k ∧ wr = w.drewN q ∧ Hid (es.take k = fs.take k))
 case atStart => exact ⟨0, 0, Nat.zero_le _, by omega, rfl, rfl, rfl⟩
 case round =>
  obtain ⟨k, q, hk, hg, rfl, rfl, heq⟩ := hrel
  by_cases hlt : k < n
  · obtain ⟨e, he⟩ : ∃ e, es[k]? = some e := ⟨es[k]'(by have := H1.out; omega), List.getElem?_eq_getElem _⟩
   obtain ⟨f, hf⟩ : ∃ f, fs[k]? = some f := ⟨fs[k]'(by have := H2.out; omega), List.getElem?_eq_getElem _⟩
   obtain ⟨b1, o1, rfl, hE⟩ := HE.out.at (by omega)
   obtain ⟨b2, o2, rfl, hF⟩ := HF.out.at (by omega)
   have c0 : w.cell? ⟨b1, o1 + k * 5, none⟩ = some (.int .i64 e.k) := hE k e he 0 _ rfl
   have c1 : w.cell? ⟨b1, o1 + k * 5 + 1, none⟩ = some (.int .i64 e.j) := hE k e he 1 _ rfl
   have c2 : w.cell? ⟨b1, o1 + k * 5 + 2, none⟩ = some (.int .i64 e.v) := hE k e he 2 _ rfl
   have c3 : w.cell? ⟨b1, o1 + k * 5 + 3, none⟩ = some (.int .i64 e.t) := hE k e he 3 _ rfl
   have c4 : w.cell? ⟨b1, o1 + k * 5 + 4, none⟩ = some (.int .i64 e.c) := hE k e he 4 _ rfl
   have d0 : w.cell? ⟨b2, o2 + k * 5, none⟩ = some (.int .i64 f.k) := hF k f hf 0 _ rfl
   have d1 : w.cell? ⟨b2, o2 + k * 5 + 1, none⟩ = some (.int .i64 f.j) := hF k f hf 1 _ rfl
   have d2 : w.cell? ⟨b2, o2 + k * 5 + 2, none⟩ = some (.int .i64 f.v) := hF k f hf 2 _ rfl
   have d3 : w.cell? ⟨b2, o2 + k * 5 + 3, none⟩ = some (.int .i64 f.t) := hF k f hf 3 _ rfl
   have d4 : w.cell? ⟨b2, o2 + k * 5 + 4, none⟩ = some (.int .i64 f.c) := hF k f hf 4 _ rfl
   have hne := fun W => neq_entry e.k e.j e.v e.t e.c f.k f.j f.v f.t f.c W
   by_cases hef : e = f
   · rw [show unlike e.k e.j e.v e.t e.c f.k f.j f.v f.t f.c = false by rw [hef]; simp [unlike]] at hne
    have hnext : Hid (es.take (k + 1) = fs.take (k + 1)) := by rw [Hid, List.take_add_one, List.take_add_one, he, hf, heq.out, hef]
    clear hef he hf heq hE hF HE HF
    go_wp2_with fail
    go_quiet (fail)
    go_wp2
    go_roundg (n - (k + 1))
    case measure => omega
    case rel => exact ⟨k + 1, _, by omega, by omega, by go_num, rfl, hnext⟩
   · rw [show unlike e.k e.j e.v e.t e.c f.k f.j f.v f.t f.c = true by rw [← Bool.not_eq_false]; exact fun h => hef (en_eq h)] at hne
    have hdiff : Hid (¬ es = fs) := fun e' => by
     rw [e'] at he
     exact hef (Option.some.inj (he.symm.trans hf))
    clear hef he hf heq hE hF HE HF
    go_wp2_with fail
    go_quiet (fail)
    go_wp2
    go_ret
    exact ⟨false, rfl, ⟨fun h => (by cases h), fun h => absurd h hdiff.out⟩, _, World.drewN_drewN _ _ _⟩
  · have hkn : k = n := by omega
   subst hkn
   have hsame : Hid (es = fs) := by
    have h := heq.out
    rw [List.take_of_length_le (by have := H1.out; omega), List.take_of_length_le (by have := H2.out; omega)] at h
    exact h
   clear heq HE HF
   go_wp2
   go_ret
   exact ⟨true, rfl, ⟨fun _ => hsame.out, fun _ => rfl⟩, q, rfl⟩
theorem equalE (v1 v2 : Value) (es fs : List En) (w : World) (h1 : SlOf En.cells 5 w v1 es) (h2 : SlOf En.cells 5 w v2 fs) (hn1 : es.length ≤ 9223372036854775807) :
  Calls Tryz.prog 35 #[v1, v2] w fun r w' => r = .returned (.bool (decide (es = fs))) ∧ Below w.heap.size w w' := by
 have h1' := h1
 have h2' := h2
 obtain ⟨a1, c1, rfl, _⟩ := h1
 obtain ⟨a2, c2, rfl, _⟩ := h2
 by_cases hl : es.length = fs.length
 · rw [← hl] at h2' ⊢
  refine (eq_someE a1 a2 c1 c2 es.length es fs w hn1 rfl hl.symm h1' h2').mono ?_
  rintro r w' ⟨bb, rfl, hbb, q, rfl⟩
  have hd : decide (es = fs) = bb := by cases bb with | true => exact decide_eq_true (hbb.1 rfl) | false => exact decide_eq_false (fun h => by have := hbb.2 h; cases this)
  exact ⟨by rw [hd], below_drewN (Below.refl _ _) _⟩
 · rw [decide_eq_false (fun h => hl (congrArg List.length h))]
  exact (eq_lenE a1 a2 _ _ c1 c2 w (by rw [bne_iff_ne]; omega)).mono fun r w' ⟨hr, hw⟩ => ⟨hr, by rw [hw]; exact Below.refl _ _⟩
theorem infoE : (Tryz.prog.info? 27).map (fun i => (i.zero, i.size, i.bytes)) = some (some (ev 0 0 0 0 0), 5, 40) := by kernel_rfl
theorem oneE (es : List En) : ∀ u ∈ es.flatMap En.cells, u.oneCell' = true := fun u hu => by
 obtain ⟨e, _, he⟩ := List.mem_flatMap.1 hu
 simp only [En.cells, List.mem_cons, List.not_mem_nil, or_false] at he
 rcases he with rfl | rfl | rfl | rfl | rfl <;> rfl
end
abbrev boxU (p : Int) (v : Value) : Obj := .cells #[.int .i64 p, v] 44
structure UnitAt (w : World) (v : Value) (u : Un) : Prop where
 ents : EntSl w v u.cells
 room : Roomy v
theorem UnitAt.later {w w' : World} {v : Value} {u : Un} (h : UnitAt w v u) (hb : Below w.heap.size w w') : UnitAt w' v u := ⟨h.ents.later hb, h.room⟩
abbrev topN : Nat := 9223372036854775807
theorem drop_en {es : List En} {k : Nat} {x : En} (h : es[k]? = some x) : es.drop k = x :: es.drop (k + 1) := by
 have hlt := (List.getElem?_eq_some_iff.1 h).1
 rw [List.drop_eq_getElem_cons hlt, (List.getElem?_eq_some_iff.1 h).2]
abbrev BeS (W w : World) (b : Nat) (x : En) : Prop :=
 Below W.heap.size W w ∧ w.cell? ⟨b, 0, none⟩ = some (.int .i64 x.k) ∧ w.cell? ⟨b, 1, none⟩ = some (.int .i64 x.j) ∧ w.cell? ⟨b, 2, none⟩ = some (.int .i64 x.v) ∧ w.cell? ⟨b, 3, none⟩ = some (.int .i64 x.t) ∧ w.cell? ⟨b, 4, none⟩ = some (.int .i64 x.c)
theorem beS_step {W w w' : World} {b : Nat} {x : En} (h : BeS W w b x) (hb : Below w.heap.size w w') : BeS W w' b x :=
 ⟨h.1.trans (hb.mono h.1.size), cell_later hb h.2.1, cell_later hb h.2.2.1, cell_later hb h.2.2.2.1, cell_later hb h.2.2.2.2.1, cell_later hb h.2.2.2.2.2⟩
theorem beS_of {w : World} {b : Nat} {x : En} (h : w.heap[b]? = some (boxE x.k x.j x.v x.t x.c)) : BeS w w b x :=
 ⟨Below.refl _ _, Joins.cell_of_block h 0, Joins.cell_of_block h 1, Joins.cell_of_block h 2, Joins.cell_of_block h 3, Joins.cell_of_block h 4⟩
set_option maxRecDepth 100000
theorem cellsUE : Tryz.prog.cellsOf 27 = 5 := by kernel_rfl
theorem cellsUI : Tryz.prog.cellsOf 3 = 1 := by kernel_rfl
theorem cellsULE : Tryz.prog.cellsOf 42 = 1 := by kernel_rfl
section
variable {H : Type} {enc : TypeId × Value → H} {w : World} {base : Nat} {spare : Nat → Bool} {held : Bool}
theorem trodUE {fuel : Nat} {cs : List Value} {x : DataW H × List MemPlace} (h : DataW.trod enc Tryz.prog w base spare held fuel 27 cs = some x) : ∃ e : En, cs = e.cells := by
 obtain ⟨xs, n, _, hx, hcl, hlen, hel⟩ := DataW.trod_struct Tryz.underlying27 h
 rw [cellsUE] at hcl
 match xs, hlen, cs, hcl with
 | [y0, y1, y2, y3, y4], _, [c0, c1, c2, c3, c4], _ =>
  have k0 : DataW.trod enc Tryz.prog w base spare held n 3 (List.take (Tryz.prog.cellsOf 3) (List.drop 0 [c0, c1, c2, c3, c4])) = some y0 := hel 0 _ rfl
  have k1 : DataW.trod enc Tryz.prog w base spare held n 3 (List.take (Tryz.prog.cellsOf 3) (List.drop 1 [c0, c1, c2, c3, c4])) = some y1 := hel 1 _ rfl
  have k2 : DataW.trod enc Tryz.prog w base spare held n 3 (List.take (Tryz.prog.cellsOf 3) (List.drop 2 [c0, c1, c2, c3, c4])) = some y2 := hel 2 _ rfl
  have k3 : DataW.trod enc Tryz.prog w base spare held n 3 (List.take (Tryz.prog.cellsOf 3) (List.drop 3 [c0, c1, c2, c3, c4])) = some y3 := hel 3 _ rfl
  have k4 : DataW.trod enc Tryz.prog w base spare held n 3 (List.take (Tryz.prog.cellsOf 3) (List.drop 4 [c0, c1, c2, c3, c4])) = some y4 := hel 4 _ rfl
  rw [cellsUI] at k0 k1 k2 k3 k4
  obtain ⟨a0, e0, _, _⟩ := DataW.trod_int Tryz.underlying3 k0
  obtain ⟨a1, e1, _, _⟩ := DataW.trod_int Tryz.underlying3 k1
  obtain ⟨a2, e2, _, _⟩ := DataW.trod_int Tryz.underlying3 k2
  obtain ⟨a3, e3, _, _⟩ := DataW.trod_int Tryz.underlying3 k3
  obtain ⟨a4, e4, _, _⟩ := DataW.trod_int Tryz.underlying3 k4
  simp at e0 e1 e2 e3 e4
  subst e0 e1 e2 e3 e4
  exact ⟨⟨a0, a1, a2, a3, a4⟩, rfl⟩
theorem trodUEs {fuel : Nat} {c0 : Value} {x : DataW H × List MemPlace} (hf : DataW.trod enc Tryz.prog w base spare held fuel 42 [c0] = some x) :
  ∃ (es : List En) (a : Option Addr) (n c : Nat), c0 = .slice a n c ∧ SlOf En.cells 5 w (.slice a n c) es ∧ n ≤ c ∧ es.length ≤ maxLen := by
 rcases Deep.open_slice Tryz.underlying42 hf with ⟨hcs, _⟩ | ⟨a, len0, cap0, m, n, D, Pl, hcs, _, hl, hm, hmm, _, hel⟩
 · refine ⟨[], none, 0, 0, by simpa using hcs, ⟨none, 0, rfl, Or.inl rfl⟩, Nat.le_refl _, Nat.zero_le _⟩
 · rw [cellsUE] at hel
  have hlm : len0 ≤ m := by rw [hmm]; split <;> omega
  have hE : ∀ i, i < len0 → ∃ e : En, ∀ j u, (En.cells e)[j]? = some u → w.cell? ((a.add (i * 5)).add j) = some u := fun i hi => by
   obtain ⟨cs', h1, h2⟩ := hel i (by omega)
   obtain ⟨e, rfl⟩ := trodUE h2
   refine ⟨e, fun j u hj => ?_⟩
   have hlt : j < 5 := by
    have := (List.getElem?_eq_some_iff.1 hj).1
    simpa [En.cells] using this
   exact ((World.cells?_some h1).2.2 j hlt).trans hj
  obtain ⟨E, hE⟩ := @Deep.choose_lt En ⟨En.zero⟩ len0 _ hE
  have hlen : ((List.range len0).map E).length = len0 := by simp
  refine ⟨(List.range len0).map E, some a, len0, cap0, by simpa using hcs, ⟨some a, cap0, by rw [hlen], ?_⟩, hl, by rw [hlen]; omega⟩
  rw [hlen]
  by_cases hz : len0 = 0
  · exact Or.inl hz
  · right
   obtain ⟨b, off, spot⟩ := a
   have hspot : spot = none := by
    have := World.cell?_spot (hE 0 (by omega) 0 _ rfl)
    simpa [Addr.add] using this
   subst hspot
   refine ⟨b, off, rfl, fun j e hj i u hi => ?_⟩
   have hjl : j < len0 := by
    have := (List.getElem?_eq_some_iff.1 hj).1
    rwa [hlen] at this
   have he : E j = e := by simpa [hjl] using hj
   have := hE j hjl i u (by rw [he]; exact hi)
   rw [Deep.add_add, Lib.add_plain] at this
   rw [Nat.add_assoc]
   exact this
theorem trodUU {fuel : Nat} {c0 c1 : Value} {x : DataW H × List MemPlace} (h : DataW.trod enc Tryz.prog w base spare held fuel 44 [c0, c1] = some x) : ∃ u : Un, c0 = .int .i64 u.p ∧ UnitAt w c1 u ∧ u.cells.length ≤ maxLen := by
 obtain ⟨xs, n, _, hx, _, hlen, hel⟩ := DataW.trod_struct Tryz.underlying44 h
 match xs, hlen with
 | [y0, y1], _ =>
  have k0 : DataW.trod enc Tryz.prog w base spare held n 3 (List.take (Tryz.prog.cellsOf 3) (List.drop 0 [c0, c1])) = some y0 := hel 0 _ rfl
  have k1 : DataW.trod enc Tryz.prog w base spare held n 42 (List.take (Tryz.prog.cellsOf 42) (List.drop 1 [c0, c1])) = some y1 := hel 1 _ rfl
  rw [cellsUI] at k0
  rw [cellsULE] at k1
  have k1' : DataW.trod enc Tryz.prog w base spare held n 42 [c1] = some y1 := k1
  obtain ⟨p0, e0, _, _⟩ := DataW.trod_int Tryz.underlying3 k0
  obtain ⟨es, a, m, c, rfl, h1, h2, h3⟩ := trodUEs k1'
  simp at e0
  subst e0
  exact ⟨⟨p0, es⟩, rfl, ⟨h1, ⟨_, _, _, rfl, h2⟩⟩, h3⟩
end
structure Jb where (i : Int) (e : Int) (n : Int)
structure Rg where (j : Int) (t : Int) (c : Int)
def Jb.bad (x : Jb) : Bool := !(decide (0 ≤ x.i ∧ x.i ≤ 5) && decide (1 ≤ x.e ∧ x.e ≤ 100) && decide (0 ≤ x.n ∧ x.n ≤ 100100))
def Rg.bad (x : Rg) : Bool := !(decide (0 ≤ x.j ∧ x.j ≤ 5) && decide (0 ≤ x.t ∧ x.t ≤ 100000) && decide (0 ≤ x.c ∧ x.c ≤ 2))
theorem Jb.good {x : Jb} (h : x.bad = false) : (0 ≤ x.i ∧ x.i ≤ 5) ∧ (1 ≤ x.e ∧ x.e ≤ 100) ∧ (0 ≤ x.n ∧ x.n ≤ 100100) := by
 simp only [Jb.bad, Bool.not_eq_false', Bool.and_eq_true, decide_eq_true_eq] at h
 exact ⟨h.1.1, h.1.2, h.2⟩
theorem Jb.good_of {x : Jb} (h : (0 ≤ x.i ∧ x.i ≤ 5) ∧ (1 ≤ x.e ∧ x.e ≤ 100) ∧ (0 ≤ x.n ∧ x.n ≤ 100100)) : x.bad = false := by
 simp only [Jb.bad, Bool.not_eq_false', Bool.and_eq_true, decide_eq_true_eq]
 exact ⟨⟨h.1, h.2.1⟩, h.2.2⟩
theorem Rg.good {x : Rg} (h : x.bad = false) : (0 ≤ x.j ∧ x.j ≤ 5) ∧ (0 ≤ x.t ∧ x.t ≤ 100000) ∧ (0 ≤ x.c ∧ x.c ≤ 2) := by
 simp only [Rg.bad, Bool.not_eq_false', Bool.and_eq_true, decide_eq_true_eq] at h
 exact ⟨h.1.1, h.1.2, h.2⟩
theorem Rg.good_of {x : Rg} (h : (0 ≤ x.j ∧ x.j ≤ 5) ∧ (0 ≤ x.t ∧ x.t ≤ 100000) ∧ (0 ≤ x.c ∧ x.c ≤ 2)) : x.bad = false := by
 simp only [Rg.bad, Bool.not_eq_false', Bool.and_eq_true, decide_eq_true_eq]
 exact ⟨⟨h.1, h.2.1⟩, h.2.2⟩
def ckJobs : Int → List Jb → Int
 | _, [] => 0
 | l, x :: r => if x.bad = true then 3 else if x.i ≤ l then 6 else ckJobs x.i r
def ckRungs : List Rg → Int
 | [] => 0
 | x :: r => if x.bad = true then 3 else ckRungs r
def ckBook (js : List Jb) (rs : List Rg) : Int := if 6 < js.length ∨ 60 < rs.length then 2 else if ckJobs (-1) js ≠ 0 then ckJobs (-1) js else ckRungs rs
def Srt : Int → List Jb → Prop
 | _, [] => True
 | l, x :: r => l < x.i ∧ Srt x.i r
theorem ckJobs_zero : ∀ (l : Int) (js : List Jb), ckJobs l js = 0 ↔ Srt l js ∧ ∀ x, x ∈ js → x.bad = false
 | l, [] => by simp [ckJobs, Srt]
 | l, x :: r => by
  have ih := ckJobs_zero x.i r
  rw [ckJobs, Srt]
  by_cases hb : x.bad = true
  · rw [if_pos hb]
   constructor
   · intro h; cases h
   · rintro ⟨_, h⟩; have := h x (by simp); rw [this] at hb; cases hb
  · rw [if_neg hb]
   by_cases hl : x.i ≤ l
   · rw [if_pos hl]
    constructor
    · intro h; cases h
    · rintro ⟨⟨h, _⟩, _⟩; omega
   · rw [if_neg hl, ih]
    constructor
    · rintro ⟨h1, h2⟩
     refine ⟨⟨by omega, h1⟩, fun y hy => ?_⟩
     rcases List.mem_cons.1 hy with rfl | hy
     · simpa using hb
     · exact h2 y hy
    · rintro ⟨⟨_, h1⟩, h2⟩
     exact ⟨h1, fun y hy => h2 y (List.mem_cons_of_mem _ hy)⟩
theorem ckRungs_zero : ∀ (rs : List Rg), ckRungs rs = 0 ↔ ∀ x, x ∈ rs → x.bad = false
 | [] => by simp [ckRungs]
 | x :: r => by
  have ih := ckRungs_zero r
  rw [ckRungs]
  by_cases hb : x.bad = true
  · rw [if_pos hb]
   constructor
   · intro h; cases h
   · intro h; have := h x (by simp); rw [this] at hb; cases hb
  · rw [if_neg hb, ih]
   constructor
   · intro h y hy
    rcases List.mem_cons.1 hy with rfl | hy
    · simpa using hb
    · exact h y hy
   · exact fun h y hy => h y (List.mem_cons_of_mem _ hy)
structure Ok (js : List Jb) (rs : List Rg) : Prop where
 few : js.length ≤ 6
 room : rs.length ≤ 60
 srt : Srt (-1) js
 jobs : ∀ x, x ∈ js → x.bad = false
 rungs : ∀ x, x ∈ rs → x.bad = false
theorem ckBook_zero {js : List Jb} {rs : List Rg} : ckBook js rs = 0 ↔ Ok js rs := by
 unfold ckBook
 by_cases hm : 6 < js.length ∨ 60 < rs.length
 · rw [if_pos hm]
  exact ⟨fun h => absurd h (by decide), fun h => absurd h.few (by have := h.room; omega)⟩
 · rw [if_neg hm]
  by_cases hj : ckJobs (-1) js = 0
  · rw [if_neg (by simpa using hj), ckRungs_zero]
   have := (ckJobs_zero _ _).1 hj
   exact ⟨fun h => ⟨by omega, by omega, this.1, this.2, h⟩, fun h => h.rungs⟩
  · rw [if_pos hj]
   exact ⟨fun h => absurd h hj, fun h => absurd ((ckJobs_zero _ _).2 ⟨h.srt, h.jobs⟩) hj⟩
theorem Srt.mono {l l' : Int} {js : List Jb} (h : Srt l js) (hl : l' ≤ l) : Srt l' js := by
 cases js with
 | nil => trivial
 | cons x r => exact ⟨by have := h.1; omega, h.2⟩
theorem Srt.above : ∀ {l : Int} {js : List Jb}, Srt l js → ∀ x, x ∈ js → l < x.i
 | _, [], _, x, hx => by cases hx
 | l, y :: r, h, x, hx => by
  rcases List.mem_cons.1 hx with rfl | hx
  · exact h.1
  · have := Srt.above h.2 x hx; have := h.1; omega
def tab (js : List Jb) (i : Int) : Option Jb := js.find? fun x => x.i == i
theorem tab_id {js : List Jb} {i : Int} {x : Jb} (h : tab js i = some x) : x.i = i ∧ x ∈ js := by
 refine ⟨?_, List.mem_of_find?_eq_some h⟩
 have := List.find?_some h
 simpa using this
theorem tab_none {js : List Jb} {i : Int} : tab js i = none ↔ ∀ x, x ∈ js → x.i ≠ i := by
 simp [tab, List.find?_eq_none]
theorem tab_mem : ∀ {l : Int} {js : List Jb}, Srt l js → ∀ x, x ∈ js → tab js x.i = some x
 | _, [], _, x, hx => by cases hx
 | l, y :: r, h, x, hx => by
  rcases List.mem_cons.1 hx with rfl | hx
  · simp [tab]
  · have hlt := Srt.above h.2 x hx
   have hne : (y.i == x.i) = false := by rw [beq_eq_false_iff_ne]; omega
   rw [tab, List.find?_cons, hne]
   exact tab_mem h.2 x hx
def alt (js : List Jb) (i : Int) (v : Option Jb) : List Jb := js.filter (fun x => decide (x.i < i)) ++ v.toList ++ js.filter (fun x => decide (i < x.i))
theorem srt_append : ∀ {l m : Int} {a b : List Jb}, Srt l a → (∀ x, x ∈ a → x.i ≤ m) → l ≤ m → Srt m b → Srt l (a ++ b)
 | l, m, [], b, _, _, hl, hb => hb.mono hl
 | l, m, x :: r, b, ha, hm, hl, hb => ⟨ha.1, srt_append ha.2 (fun y hy => hm y (List.mem_cons_of_mem _ hy)) (hm x (by simp)) hb⟩
theorem srt_filter : ∀ {l : Int} {js : List Jb} (p : Jb → Bool), Srt l js → Srt l (js.filter p)
 | _, [], _, _ => trivial
 | l, x :: r, p, h => by
  rw [List.filter_cons]
  split
  · exact ⟨h.1, srt_filter p h.2⟩
  · exact (srt_filter p h.2).mono (by have := h.1; omega)
theorem srt_above {l m : Int} : ∀ {js : List Jb}, Srt l js → (∀ x, x ∈ js → m < x.i) → Srt m js
 | [], _, _ => trivial
 | x :: r, h, hm => ⟨hm x (by simp), h.2⟩
theorem alt_mem {js : List Jb} {i : Int} {v : Option Jb} {x : Jb} : x ∈ alt js i v ↔ (x ∈ js ∧ x.i ≠ i) ∨ v = some x := by
 simp only [alt, List.mem_append, List.mem_filter, decide_eq_true_eq, Option.mem_toList]
 constructor
 · rintro ((⟨h, h'⟩ | h) | ⟨h, h'⟩)
  · exact Or.inl ⟨h, by omega⟩
  · exact Or.inr h
  · exact Or.inl ⟨h, by omega⟩
 · rintro (⟨h, h'⟩ | h)
  · rcases Int.lt_or_gt_of_ne h' with h'' | h''
   · exact Or.inl (Or.inl ⟨h, h''⟩)
   · exact Or.inr ⟨h, h''⟩
  · exact Or.inl (Or.inr h)
theorem alt_srt {l : Int} {js : List Jb} {i : Int} {v : Option Jb} (h : Srt l js) (hi : l < i) (hv : ∀ x, v = some x → x.i = i) : Srt l (alt js i v) := by
 have h3 : Srt i (js.filter (fun x => decide (i < x.i))) := srt_above (srt_filter _ h) (fun x hx => by simpa using (List.mem_filter.1 hx).2)
 rw [alt, List.append_assoc]
 refine srt_append (m := i - 1) (srt_filter _ h) (fun x hx => by have := (List.mem_filter.1 hx).2; simp at this; omega) (by omega) ?_
 cases v with
 | none => exact h3.mono (by omega)
 | some x =>
  have := hv x rfl
  exact ⟨by omega, by rw [this]; exact h3⟩
theorem srt_ext : ∀ {l l' : Int} {a b : List Jb}, Srt l a → Srt l' b → (∀ x, x ∈ a ↔ x ∈ b) → a = b
 | _, _, [], [], _, _, _ => rfl
 | _, _, [], y :: s, _, _, h => absurd ((h y).2 (by simp)) (by simp)
 | _, _, x :: r, [], _, _, h => absurd ((h x).1 (by simp)) (by simp)
 | l, l', x :: r, y :: s, ha, hb, h => by
  have hxy : x = y := by
   rcases List.mem_cons.1 ((h x).1 (by simp)) with e | hx
   · exact e
   · rcases List.mem_cons.1 ((h y).2 (by simp)) with e | hy
    · exact e.symm
    · have h1 := Srt.above hb.2 x hx
     have h2 := Srt.above ha.2 y hy
     omega
  subst hxy
  congr 1
  refine srt_ext ha.2 hb.2 fun z => ?_
  constructor
  · intro hz
   rcases List.mem_cons.1 ((h z).1 (List.mem_cons_of_mem _ hz)) with rfl | h'
   · have := Srt.above ha.2 z hz; omega
   · exact h'
  · intro hz
   rcases List.mem_cons.1 ((h z).2 (List.mem_cons_of_mem _ hz)) with rfl | h'
   · have := Srt.above hb.2 z hz; omega
   · exact h'
theorem srt_len : ∀ {l : Int} {js : List Jb}, Srt l js → (∀ x, x ∈ js → x.i ≤ 5) → (js.length : Int) ≤ if l < 5 then 5 - l else 0
 | l, [], _, _ => by simp; split <;> omega
 | l, x :: r, h, hb => by
  have h1 := hb x (by simp)
  have ih := srt_len h.2 (fun y hy => hb y (List.mem_cons_of_mem _ hy))
  have := h.1
  rw [if_pos (by omega), List.length_cons]
  split at ih <;> omega
def step (js : List Jb) (rs : List Rg) (x : En) : List Jb × List Rg :=
 if x.k = 1 then (match tab js x.j with | none => (alt js x.j (some ⟨x.j, x.v, x.t⟩), rs) | some _ => (js, rs))
 else if x.k = 2 then (alt js x.j none, rs)
 else if x.k = 3 then (match tab js x.j with | none => (js, rs) | some y => if y.n = x.t ∧ rs.length < 60 then (alt js x.j (some ⟨x.j, y.e, x.t + y.e⟩), rs ++ [⟨x.j, x.t, x.c⟩]) else (js, rs))
 else (js, rs)
def app (js : List Jb) (rs : List Rg) (x : En) : (List Jb × List Rg) × Int :=
 if ckBook js rs ≠ 0 then (([], []), ckBook js rs) else if x.chk ≠ 0 then (([], []), x.chk) else (step js rs x, 0)
def Jb.cells (x : Jb) : List Value := [.int .i64 x.i, .int .i64 x.e, .int .i64 x.n]
def Rg.cells (x : Rg) : List Value := [.int .i64 x.j, .int .i64 x.t, .int .i64 x.c]
theorem Jb.three (x : Jb) : x.cells.length = 3 := rfl
theorem Rg.three (x : Rg) : x.cells.length = 3 := rfl
abbrev JobSl (w : World) (v : Value) (js : List Jb) : Prop := SlOf Jb.cells 3 w v js
abbrev RungSl (w : World) (v : Value) (rs : List Rg) : Prop := SlOf Rg.cells 3 w v rs
abbrev boxB (v1 v2 : Value) : Obj := .cells #[v1, v2] 39
theorem ckBook_many {js : List Jb} {rs : List Rg} (h : 6 < js.length ∨ 60 < rs.length) : ckBook js rs = 2 := by rw [ckBook, if_pos h]
theorem drop_at {α : Type} {xs : List α} {k : Nat} {x : α} (h : xs[k]? = some x) : xs.drop k = x :: xs.drop (k + 1) := by
 have hlt := (List.getElem?_eq_some_iff.1 h).1
 rw [List.drop_eq_getElem_cons hlt, (List.getElem?_eq_some_iff.1 h).2]
section
open scoped Classical
abbrev valJ (a b c : Int) : Value := .agg #[.int .i64 a, .int .i64 b, .int .i64 c]
abbrev boxJ (x : Jb) : Obj := .cells #[.int .i64 x.i, .int .i64 x.e, .int .i64 x.n] 120
abbrev Jb.val (x : Jb) : Value := valJ x.i x.e x.n
theorem neqJ (a b c a' b' c' : Int) (w : World) :
  (binOp .neq 120 (valJ a b c) (valJ a' b' c')).run Tryz.prog w = .ok (.bool (!decide (a = a' ∧ b = b' ∧ c = c'))) w := by
 have u3 := Tryz.underlying3
 have a3 := Tryz.isAgg3
 have z3 := Tryz.sizeOf3
 have hS : Tryz.prog.underlying 120 = some (.struct (Tryz.prog.fieldsOf 120)) := by kernel_rfl
 have hp : Tryz.prog.stoodInHeld 120 = false := by kernel_rfl
 rw [run_neq_struct, show (10000 : Nat) = 9999 + 1 from rfl, run_equalIn_agg w 9999 120 _ _ hS hp]
 simp only [Program.fieldsOf, Tryz.underlying120]
 go_simp
 by_cases h1 : a = a' <;> by_cases h2 : b = b' <;> by_cases h3 : c = c' <;> simp [h1, h2, h3]
theorem eq_lenJ (a1 a2 : Option Addr) (n m c d : Nat) (w : World) (h : ((n : Int) != (m : Int)) = true) :
  Calls Tryz.prog 83 #[.slice a1 n c, .slice a2 m d] w fun e w' => e = .returned (.bool false) ∧ w' = w := by
 go_enter Tryz.func83, Tryz.ntmps83
 go_wp2
 go_ret
 exact ⟨rfl, rfl⟩
theorem eq_someJ (a1 a2 : Option Addr) (c d n : Nat) (es fs : List Jb) (w : World) (hn : n ≤ 9223372036854775807) (h1 : es.length = n) (h2 : fs.length = n) (hE : SlOf Jb.cells 3 w (.slice a1 n c) es) (hF : SlOf Jb.cells 3 w (.slice a2 n d) fs) :
  Calls Tryz.prog 83 #[.slice a1 n c, .slice a2 n d] w fun r w' => ∃ bb, r = .returned (.bool bb) ∧ (bb = true ↔ es = fs) ∧ ∃ q, w' = w.drewN q := by
 have H1 : Hid (es.length = n) := h1
 have H2 : Hid (fs.length = n) := h2
 have HE : Hid (SlOf Jb.cells 3 w (.slice a1 n c) es) := hE
 have HF : Hid (SlOf Jb.cells 3 w (.slice a2 n d) fs) := hF
 clear h1 h2 hE hF
 go_enter Tryz.func83, Tryz.ntmps83
 go_wp2
 go_loopg [13] n (fun g s13 wr => ∃ k q : Nat, k ≤ n ∧ n - k ≤ g ∧ s13 = .int .i64 k ∧ wr = w.drewN q ∧ Hid (es.take k = fs.take k))
 case atStart => exact ⟨0, 0, Nat.zero_le _, by omega, rfl, rfl, rfl⟩
 case round =>
  obtain ⟨k, q, hk, hg, rfl, rfl, heq⟩ := hrel
  by_cases hlt : k < n
  · obtain ⟨e, he⟩ : ∃ e, es[k]? = some e := ⟨es[k]'(by have := H1.out; omega), List.getElem?_eq_getElem _⟩
   obtain ⟨f, hf⟩ : ∃ f, fs[k]? = some f := ⟨fs[k]'(by have := H2.out; omega), List.getElem?_eq_getElem _⟩
   obtain ⟨b1, o1, rfl, hE⟩ := HE.out.at (by omega)
   obtain ⟨b2, o2, rfl, hF⟩ := HF.out.at (by omega)
   have c0 : w.cell? ⟨b1, o1 + k * 3, none⟩ = some (.int .i64 e.i) := hE k e he 0 _ rfl
   have c1 : w.cell? ⟨b1, o1 + k * 3 + 1, none⟩ = some (.int .i64 e.e) := hE k e he 1 _ rfl
   have c2 : w.cell? ⟨b1, o1 + k * 3 + 2, none⟩ = some (.int .i64 e.n) := hE k e he 2 _ rfl
   have d0 : w.cell? ⟨b2, o2 + k * 3, none⟩ = some (.int .i64 f.i) := hF k f hf 0 _ rfl
   have d1 : w.cell? ⟨b2, o2 + k * 3 + 1, none⟩ = some (.int .i64 f.e) := hF k f hf 1 _ rfl
   have d2 : w.cell? ⟨b2, o2 + k * 3 + 2, none⟩ = some (.int .i64 f.n) := hF k f hf 2 _ rfl
   have hne := fun W => neqJ e.i e.e e.n f.i f.e f.n W
   by_cases hef : e = f
   · rw [decide_eq_true (by rw [hef]; exact ⟨rfl, rfl, rfl⟩)] at hne
    have hnext : Hid (es.take (k + 1) = fs.take (k + 1)) := by rw [Hid, List.take_add_one, List.take_add_one, he, hf, heq.out, hef]
    clear hef he hf heq hE hF HE HF
    go_wp2_with fail
    go_quiet (fail)
    go_wp2
    go_roundg (n - (k + 1))
    case measure => omega
    case rel => exact ⟨k + 1, _, by omega, by omega, by go_num, rfl, hnext⟩
   · rw [decide_eq_false (fun h => hef (by cases e; cases f; simp_all))] at hne
    have hdiff : Hid (¬ es = fs) := fun e' => by
     rw [e'] at he
     exact hef (Option.some.inj (he.symm.trans hf))
    clear hef he hf heq hE hF HE HF
    go_wp2_with fail
    go_quiet (fail)
    go_wp2
    go_ret
    exact ⟨false, rfl, ⟨fun h => (by cases h), fun h => absurd h hdiff.out⟩, _, World.drewN_drewN _ _ _⟩
  · have hkn : k = n := by omega
   subst hkn
   have hsame : Hid (es = fs) := by
    have h := heq.out
    rw [List.take_of_length_le (by have := H1.out; omega), List.take_of_length_le (by have := H2.out; omega)] at h
    exact h
   clear heq HE HF
   go_wp2
   go_ret
   exact ⟨true, rfl, ⟨fun _ => hsame.out, fun _ => rfl⟩, q, rfl⟩
theorem equalJ (v1 v2 : Value) (es fs : List Jb) (w : World) (h1 : SlOf Jb.cells 3 w v1 es) (h2 : SlOf Jb.cells 3 w v2 fs) (hn1 : es.length ≤ 9223372036854775807) :
  Calls Tryz.prog 83 #[v1, v2] w fun r w' => r = .returned (.bool (decide (es = fs))) ∧ Below w.heap.size w w' := by
 have h1' := h1
 have h2' := h2
 obtain ⟨a1, c1, rfl, _⟩ := h1
 obtain ⟨a2, c2, rfl, _⟩ := h2
 by_cases hl : es.length = fs.length
 · rw [← hl] at h2' ⊢
  refine (eq_someJ a1 a2 c1 c2 es.length es fs w hn1 rfl hl.symm h1' h2').mono ?_
  rintro r w' ⟨bb, rfl, hbb, q, rfl⟩
  have hd : decide (es = fs) = bb := by cases bb with | true => exact decide_eq_true (hbb.1 rfl) | false => exact decide_eq_false (fun h => by have := hbb.2 h; cases this)
  exact ⟨by rw [hd], below_drewN (Below.refl _ _) _⟩
 · rw [decide_eq_false (fun h => hl (congrArg List.length h))]
  exact (eq_lenJ a1 a2 _ _ c1 c2 w (by rw [bne_iff_ne]; omega)).mono fun r w' ⟨hr, hw⟩ => ⟨hr, by rw [hw]; exact Below.refl _ _⟩
theorem infoJ : (Tryz.prog.info? 120).map (fun i => (i.zero, i.size, i.bytes)) = some (some (valJ 0 0 0), 3, 24) := by kernel_rfl
theorem oneJ (es : List Jb) : ∀ u ∈ es.flatMap Jb.cells, u.oneCell' = true := fun u hu => by
 obtain ⟨e, _, he⟩ := List.mem_flatMap.1 hu
 simp only [Jb.cells, List.mem_cons, List.not_mem_nil, or_false] at he
 rcases he with rfl | rfl | rfl <;> rfl
theorem cellsJ : Tryz.prog.cellsOf 120 = 3 := by kernel_rfl
theorem cellsIJ : Tryz.prog.cellsOf 3 = 1 := by kernel_rfl
section
variable {H : Type} {enc : TypeId × Value → H} {w : World} {base : Nat} {spare : Nat → Bool} {held : Bool}
theorem trodJ {fuel : Nat} {cs : List Value} {x : DataW H × List MemPlace} (h : DataW.trod enc Tryz.prog w base spare held fuel 120 cs = some x) : ∃ e : Jb, cs = e.cells ∧ x.2 = [] := by
 obtain ⟨xs, n, _, hx, hcl, hlen, hel⟩ := DataW.trod_struct Tryz.underlying120 h
 rw [cellsJ] at hcl
 match xs, hlen, cs, hcl with
 | [y0, y1, y2], _, [c0, c1, c2], _ =>
  have k0 : DataW.trod enc Tryz.prog w base spare held n 3 (List.take (Tryz.prog.cellsOf 3) (List.drop 0 [c0, c1, c2])) = some y0 := hel 0 _ rfl
  have k1 : DataW.trod enc Tryz.prog w base spare held n 3 (List.take (Tryz.prog.cellsOf 3) (List.drop 1 [c0, c1, c2])) = some y1 := hel 1 _ rfl
  have k2 : DataW.trod enc Tryz.prog w base spare held n 3 (List.take (Tryz.prog.cellsOf 3) (List.drop 2 [c0, c1, c2])) = some y2 := hel 2 _ rfl
  rw [cellsIJ] at k0 k1 k2
  obtain ⟨a0, e0, f0, _⟩ := DataW.trod_int Tryz.underlying3 k0
  obtain ⟨a1, e1, f1, _⟩ := DataW.trod_int Tryz.underlying3 k1
  obtain ⟨a2, e2, f2, _⟩ := DataW.trod_int Tryz.underlying3 k2
  simp at e0 e1 e2
  subst e0 e1 e2
  subst f0 f1 f2
  exact ⟨⟨a0, a1, a2⟩, rfl, by rw [hx]; rfl⟩
theorem openJ {fuel : Nat} {a0 : Option Addr} {len0 cap0 : Nat} {x : DataW H × List MemPlace} (hf : DataW.trod enc Tryz.prog w base spare held fuel 36 [.slice a0 len0 cap0] = some x) :
  ∃ es : List Jb, SlOf Jb.cells 3 w (.slice a0 len0 cap0) es ∧ es.length ≤ maxLen := by
 rcases Deep.open_slice Tryz.underlying36 hf with ⟨hcs, _⟩ | ⟨a, len, cap, m, n, D, Pl, hcs, _, hl, hm, hmm, _, hel⟩
 · simp at hcs
  obtain ⟨rfl, rfl, rfl⟩ := hcs
  exact ⟨[], ⟨none, 0, rfl, Or.inl rfl⟩, Nat.zero_le _⟩
 · simp at hcs
  obtain ⟨rfl, rfl, rfl⟩ := hcs
  rw [cellsJ] at hel
  have hlm : len0 ≤ m := by rw [hmm]; split <;> omega
  have hE : ∀ i, i < len0 → ∃ e : Jb, ∀ j u, e.cells[j]? = some u → w.cell? ((a.add (i * 3)).add j) = some u := fun i hi => by
   obtain ⟨cs', h1, h2⟩ := hel i (by omega)
   obtain ⟨e, rfl, _⟩ := trodJ h2
   refine ⟨e, fun j u hj => ?_⟩
   have hlt : j < 3 := by
    have := (List.getElem?_eq_some_iff.1 hj).1
    simpa [Jb.cells] using this
   exact ((World.cells?_some h1).2.2 j hlt).trans hj
  obtain ⟨E, hE⟩ := @Deep.choose_lt Jb ⟨⟨0, 0, 0⟩⟩ len0 _ hE
  have hlen : ((List.range len0).map E).length = len0 := by simp
  refine ⟨(List.range len0).map E, ⟨some a, cap0, by rw [hlen], ?_⟩, by rw [hlen]; omega⟩
  rw [hlen]
  by_cases hz : len0 = 0
  · exact Or.inl hz
  · right
   obtain ⟨b, off, spot⟩ := a
   have hspot : spot = none := by
    have := World.cell?_spot (hE 0 (by omega) 0 _ rfl)
    simpa [Addr.add] using this
   subst hspot
   refine ⟨b, off, rfl, fun j e hj i u hi => ?_⟩
   have hjl : j < len0 := by
    have := (List.getElem?_eq_some_iff.1 hj).1
    rwa [hlen] at this
   have he : E j = e := by simpa [hjl] using hj
   have := hE j hjl i u (by rw [he]; exact hi)
   rw [Deep.add_add, Lib.add_plain] at this
   rw [Nat.add_assoc]
   exact this
end
end
section
open scoped Classical
abbrev valR (a b c : Int) : Value := .agg #[.int .i64 a, .int .i64 b, .int .i64 c]
abbrev Rg.val (x : Rg) : Value := valR x.j x.t x.c
theorem neqR (a b c a' b' c' : Int) (w : World) :
  (binOp .neq 76 (valR a b c) (valR a' b' c')).run Tryz.prog w = .ok (.bool (!decide (a = a' ∧ b = b' ∧ c = c'))) w := by
 have u3 := Tryz.underlying3
 have a3 := Tryz.isAgg3
 have z3 := Tryz.sizeOf3
 have hS : Tryz.prog.underlying 76 = some (.struct (Tryz.prog.fieldsOf 76)) := by kernel_rfl
 have hp : Tryz.prog.stoodInHeld 76 = false := by kernel_rfl
 rw [run_neq_struct, show (10000 : Nat) = 9999 + 1 from rfl, run_equalIn_agg w 9999 76 _ _ hS hp]
 simp only [Program.fieldsOf, Tryz.underlying76]
 go_simp
 by_cases h1 : a = a' <;> by_cases h2 : b = b' <;> by_cases h3 : c = c' <;> simp [h1, h2, h3]
theorem eq_lenR (a1 a2 : Option Addr) (n m c d : Nat) (w : World) (h : ((n : Int) != (m : Int)) = true) :
  Calls Tryz.prog 84 #[.slice a1 n c, .slice a2 m d] w fun e w' => e = .returned (.bool false) ∧ w' = w := by
 go_enter Tryz.func84, Tryz.ntmps84
 go_wp2
 go_ret
 exact ⟨rfl, rfl⟩
theorem eq_someR (a1 a2 : Option Addr) (c d n : Nat) (es fs : List Rg) (w : World) (hn : n ≤ 9223372036854775807) (h1 : es.length = n) (h2 : fs.length = n) (hE : SlOf Rg.cells 3 w (.slice a1 n c) es) (hF : SlOf Rg.cells 3 w (.slice a2 n d) fs) :
  Calls Tryz.prog 84 #[.slice a1 n c, .slice a2 n d] w fun r w' => ∃ bb, r = .returned (.bool bb) ∧ (bb = true ↔ es = fs) ∧ ∃ q, w' = w.drewN q := by
 have H1 : Hid (es.length = n) := h1
 have H2 : Hid (fs.length = n) := h2
 have HE : Hid (SlOf Rg.cells 3 w (.slice a1 n c) es) := hE
 have HF : Hid (SlOf Rg.cells 3 w (.slice a2 n d) fs) := hF
 clear h1 h2 hE hF
 go_enter Tryz.func84, Tryz.ntmps84
 go_wp2
 go_loopg [13] n (fun g s13 wr => ∃ k q : Nat, k ≤ n ∧ n - k ≤ g ∧ s13 = .int .i64 k ∧ wr = w.drewN q ∧ Hid (es.take k = fs.take k))
 case atStart => exact ⟨0, 0, Nat.zero_le _, by omega, rfl, rfl, rfl⟩
 case round =>
  obtain ⟨k, q, hk, hg, rfl, rfl, heq⟩ := hrel
  by_cases hlt : k < n
  · obtain ⟨e, he⟩ : ∃ e, es[k]? = some e := ⟨es[k]'(by have := H1.out; omega), List.getElem?_eq_getElem _⟩
   obtain ⟨f, hf⟩ : ∃ f, fs[k]? = some f := ⟨fs[k]'(by have := H2.out; omega), List.getElem?_eq_getElem _⟩
   obtain ⟨b1, o1, rfl, hE⟩ := HE.out.at (by omega)
   obtain ⟨b2, o2, rfl, hF⟩ := HF.out.at (by omega)
   have c0 : w.cell? ⟨b1, o1 + k * 3, none⟩ = some (.int .i64 e.j) := hE k e he 0 _ rfl
   have c1 : w.cell? ⟨b1, o1 + k * 3 + 1, none⟩ = some (.int .i64 e.t) := hE k e he 1 _ rfl
   have c2 : w.cell? ⟨b1, o1 + k * 3 + 2, none⟩ = some (.int .i64 e.c) := hE k e he 2 _ rfl
   have d0 : w.cell? ⟨b2, o2 + k * 3, none⟩ = some (.int .i64 f.j) := hF k f hf 0 _ rfl
   have d1 : w.cell? ⟨b2, o2 + k * 3 + 1, none⟩ = some (.int .i64 f.t) := hF k f hf 1 _ rfl
   have d2 : w.cell? ⟨b2, o2 + k * 3 + 2, none⟩ = some (.int .i64 f.c) := hF k f hf 2 _ rfl
   have hne := fun W => neqR e.j e.t e.c f.j f.t f.c W
   by_cases hef : e = f
   · rw [decide_eq_true (by rw [hef]; exact ⟨rfl, rfl, rfl⟩)] at hne
    have hnext : Hid (es.take (k + 1) = fs.take (k + 1)) := by rw [Hid, List.take_add_one, List.take_add_one, he, hf, heq.out, hef]
    clear hef he hf heq hE hF HE HF
    go_wp2_with fail
    go_quiet (fail)
    go_wp2
    go_roundg (n - (k + 1))
    case measure => omega
    case rel => exact ⟨k + 1, _, by omega, by omega, by go_num, rfl, hnext⟩
   · rw [decide_eq_false (fun h => hef (by cases e; cases f; simp_all))] at hne
    have hdiff : Hid (¬ es = fs) := fun e' => by
     rw [e'] at he
     exact hef (Option.some.inj (he.symm.trans hf))
    clear hef he hf heq hE hF HE HF
    go_wp2_with fail
    go_quiet (fail)
    go_wp2
    go_ret
    exact ⟨false, rfl, ⟨fun h => (by cases h), fun h => absurd h hdiff.out⟩, _, World.drewN_drewN _ _ _⟩
  · have hkn : k = n := by omega
   subst hkn
   have hsame : Hid (es = fs) := by
    have h := heq.out
    rw [List.take_of_length_le (by have := H1.out; omega), List.take_of_length_le (by have := H2.out; omega)] at h
    exact h
   clear heq HE HF
   go_wp2
   go_ret
   exact ⟨true, rfl, ⟨fun _ => hsame.out, fun _ => rfl⟩, q, rfl⟩
theorem equalR (v1 v2 : Value) (es fs : List Rg) (w : World) (h1 : SlOf Rg.cells 3 w v1 es) (h2 : SlOf Rg.cells 3 w v2 fs) (hn1 : es.length ≤ 9223372036854775807) :
  Calls Tryz.prog 84 #[v1, v2] w fun r w' => r = .returned (.bool (decide (es = fs))) ∧ Below w.heap.size w w' := by
 have h1' := h1
 have h2' := h2
 obtain ⟨a1, c1, rfl, _⟩ := h1
 obtain ⟨a2, c2, rfl, _⟩ := h2
 by_cases hl : es.length = fs.length
 · rw [← hl] at h2' ⊢
  refine (eq_someR a1 a2 c1 c2 es.length es fs w hn1 rfl hl.symm h1' h2').mono ?_
  rintro r w' ⟨bb, rfl, hbb, q, rfl⟩
  have hd : decide (es = fs) = bb := by cases bb with | true => exact decide_eq_true (hbb.1 rfl) | false => exact decide_eq_false (fun h => by have := hbb.2 h; cases this)
  exact ⟨by rw [hd], below_drewN (Below.refl _ _) _⟩
 · rw [decide_eq_false (fun h => hl (congrArg List.length h))]
  exact (eq_lenR a1 a2 _ _ c1 c2 w (by rw [bne_iff_ne]; omega)).mono fun r w' ⟨hr, hw⟩ => ⟨hr, by rw [hw]; exact Below.refl _ _⟩
theorem infoR : (Tryz.prog.info? 76).map (fun i => (i.zero, i.size, i.bytes)) = some (some (valR 0 0 0), 3, 24) := by kernel_rfl
theorem oneR (es : List Rg) : ∀ u ∈ es.flatMap Rg.cells, u.oneCell' = true := fun u hu => by
 obtain ⟨e, _, he⟩ := List.mem_flatMap.1 hu
 simp only [Rg.cells, List.mem_cons, List.not_mem_nil, or_false] at he
 rcases he with rfl | rfl | rfl <;> rfl
theorem cellsR : Tryz.prog.cellsOf 76 = 3 := by kernel_rfl
theorem cellsIR : Tryz.prog.cellsOf 3 = 1 := by kernel_rfl
section
variable {H : Type} {enc : TypeId × Value → H} {w : World} {base : Nat} {spare : Nat → Bool} {held : Bool}
theorem trodR {fuel : Nat} {cs : List Value} {x : DataW H × List MemPlace} (h : DataW.trod enc Tryz.prog w base spare held fuel 76 cs = some x) : ∃ e : Rg, cs = e.cells ∧ x.2 = [] := by
 obtain ⟨xs, n, _, hx, hcl, hlen, hel⟩ := DataW.trod_struct Tryz.underlying76 h
 rw [cellsR] at hcl
 match xs, hlen, cs, hcl with
 | [y0, y1, y2], _, [c0, c1, c2], _ =>
  have k0 : DataW.trod enc Tryz.prog w base spare held n 3 (List.take (Tryz.prog.cellsOf 3) (List.drop 0 [c0, c1, c2])) = some y0 := hel 0 _ rfl
  have k1 : DataW.trod enc Tryz.prog w base spare held n 3 (List.take (Tryz.prog.cellsOf 3) (List.drop 1 [c0, c1, c2])) = some y1 := hel 1 _ rfl
  have k2 : DataW.trod enc Tryz.prog w base spare held n 3 (List.take (Tryz.prog.cellsOf 3) (List.drop 2 [c0, c1, c2])) = some y2 := hel 2 _ rfl
  rw [cellsIR] at k0 k1 k2
  obtain ⟨a0, e0, f0, _⟩ := DataW.trod_int Tryz.underlying3 k0
  obtain ⟨a1, e1, f1, _⟩ := DataW.trod_int Tryz.underlying3 k1
  obtain ⟨a2, e2, f2, _⟩ := DataW.trod_int Tryz.underlying3 k2
  simp at e0 e1 e2
  subst e0 e1 e2
  subst f0 f1 f2
  exact ⟨⟨a0, a1, a2⟩, rfl, by rw [hx]; rfl⟩
theorem openR {fuel : Nat} {a0 : Option Addr} {len0 cap0 : Nat} {x : DataW H × List MemPlace} (hf : DataW.trod enc Tryz.prog w base spare held fuel 37 [.slice a0 len0 cap0] = some x) :
  ∃ es : List Rg, SlOf Rg.cells 3 w (.slice a0 len0 cap0) es ∧ es.length ≤ maxLen := by
 rcases Deep.open_slice Tryz.underlying37 hf with ⟨hcs, _⟩ | ⟨a, len, cap, m, n, D, Pl, hcs, _, hl, hm, hmm, _, hel⟩
 · simp at hcs
  obtain ⟨rfl, rfl, rfl⟩ := hcs
  exact ⟨[], ⟨none, 0, rfl, Or.inl rfl⟩, Nat.zero_le _⟩
 · simp at hcs
  obtain ⟨rfl, rfl, rfl⟩ := hcs
  rw [cellsR] at hel
  have hlm : len0 ≤ m := by rw [hmm]; split <;> omega
  have hE : ∀ i, i < len0 → ∃ e : Rg, ∀ j u, e.cells[j]? = some u → w.cell? ((a.add (i * 3)).add j) = some u := fun i hi => by
   obtain ⟨cs', h1, h2⟩ := hel i (by omega)
   obtain ⟨e, rfl, _⟩ := trodR h2
   refine ⟨e, fun j u hj => ?_⟩
   have hlt : j < 3 := by
    have := (List.getElem?_eq_some_iff.1 hj).1
    simpa [Rg.cells] using this
   exact ((World.cells?_some h1).2.2 j hlt).trans hj
  obtain ⟨E, hE⟩ := @Deep.choose_lt Rg ⟨⟨0, 0, 0⟩⟩ len0 _ hE
  have hlen : ((List.range len0).map E).length = len0 := by simp
  refine ⟨(List.range len0).map E, ⟨some a, cap0, by rw [hlen], ?_⟩, by rw [hlen]; omega⟩
  rw [hlen]
  by_cases hz : len0 = 0
  · exact Or.inl hz
  · right
   obtain ⟨b, off, spot⟩ := a
   have hspot : spot = none := by
    have := World.cell?_spot (hE 0 (by omega) 0 _ rfl)
    simpa [Addr.add] using this
   subst hspot
   refine ⟨b, off, rfl, fun j e hj i u hi => ?_⟩
   have hjl : j < len0 := by
    have := (List.getElem?_eq_some_iff.1 hj).1
    rwa [hlen] at this
   have he : E j = e := by simpa [hjl] using hj
   have := hE j hjl i u (by rw [he]; exact hi)
   rw [Deep.add_add, Lib.add_plain] at this
   rw [Nat.add_assoc]
   exact this
end
end
section
open scoped Classical
abbrev most : Nat := 9223372036854775807
def jobAt (js : List Jb) (id : Int) : Int := match js.findIdx? (fun x => x.i == id) with
 | some k => k
 | none => -1
end
theorem ret_book {fn : Func} {R : Ending → World → Prop} {a : Act} {W : World} {b p q : Nat} {v1 v2 y : Value} (hf : fn.results = #[.cell p 39, .tmp q]) (hd : a.defers = [])
  (h2 : a.tmps.getD p undef = .pointer (some ⟨b, 0, none⟩)) (h3 : a.tmps.getD q undef = y) (hR : W.heap[b]? = some (boxB v1 v2)) (hp : R (.returned (.tuple #[.agg #[v1, v2], y])) W) :
  bodyPost Tryz.prog fn R .ret a W := by
 have c0 := fun i => Joins.cell_of_block hR i
 refine bodyPost_ret (v := .tuple #[.agg #[v1, v2], y]) ?_ hd hp
 rw [results_cell_tmp hf, h2, h3]
 simp [go_sem, c0]
abbrev nil0 : Value := .slice none 0 0
theorem En.right {x : En} (h : x.chk = 0) : (0 ≤ x.k ∧ x.k ≤ 3) ∧ (0 ≤ x.j ∧ x.j ≤ 5) ∧ (0 ≤ x.v ∧ x.v ≤ 100) ∧ (0 ≤ x.t ∧ x.t ≤ 100000) ∧ (0 ≤ x.c ∧ x.c ≤ 2) ∧ (x.k = 1 → 1 ≤ x.v) := by
 unfold En.chk YtmoaobfmopimlafGreatDoor.chk at h
 split at h
 · cases h
 · split at h
  · cases h
  · split at h
   · cases h
   · split at h
    · cases h
    · rename_i h1 h2 h3 h4
     have h2' : inR x.j x.v x.t x.c = true := by simpa using h2
     have h5 := of_decide_eq_true h2'
     refine ⟨by omega, by omega, by omega, by omega, by omega, by omega⟩
theorem bk_slices {w : World} {v1 v2 : Value} {js : List Jb} {rs : List Rg} (h1 : JobSl w v1 js) (h2 : RungSl w v2 rs) : ∃ a1 c1 a2 c2, v1 = .slice a1 js.length c1 ∧ v2 = .slice a2 rs.length c2 := by
 obtain ⟨a1, c1, e1, _⟩ := h1
 obtain ⟨a2, c2, e2, _⟩ := h2
 exact ⟨a1, c1, a2, c2, e1, e2⟩
abbrev Answers (fn : FuncId) (args : Array Value) (w : World) (r : (List Jb × List Rg) × Int) : Prop :=
 Calls Tryz.prog fn args w fun e w' => ∃ u1 u2, e = .returned (.tuple #[.agg #[u1, u2], .int .i64 r.2]) ∧ JobSl w' u1 r.1.1 ∧ RungSl w' u2 r.1.2 ∧ Below w.heap.size w w'
theorem zero_book {fn : FuncId} {args : Array Value} {w : World} {n : Int} (h : Calls Tryz.prog fn args w fun e w' => e = .returned (.tuple #[.agg #[nil0, nil0], .int .i64 n]) ∧ Below w.heap.size w w') : Answers fn args w (([], []), n) :=
 h.mono fun _ _ ⟨he, hb⟩ => ⟨nil0, nil0, he, SlOf.nil _ _, SlOf.nil _ _, hb⟩
theorem zero_typed {fn : FuncId} {args : Array Value} {w : World} {n : Int} (h : Calls Tryz.prog fn args w fun e w' => e = .returned (.tuple #[.agg #[nil0, nil0], .int .i64 n]) ∧ Below w.heap.size w w') :
  Calls Tryz.prog fn args w fun e w' => ∃ u1 u2, e = .returned (.tuple #[.agg #[u1, u2], .int .i64 n]) ∧ JobSl w' u1 [] ∧ RungSl w' u2 [] ∧ Below w.heap.size w w' ∧ Roomy u2 ∧ Typed 120 w' u1 ∧ Typed 76 w' u2 :=
 h.mono fun _ _ ⟨he, hb⟩ => ⟨nil0, nil0, he, SlOf.nil _ _, SlOf.nil _ _, hb, ⟨none, 0, 0, rfl, Nat.le_refl _⟩, Typed.nil, Typed.nil⟩
theorem SlOf.beside {α : Type} {cs : α → List Value} {k : Nat} (hcs : ∀ (x : α) (i : Nat) (v : Value), (cs x)[i]? = some v → ∃ n, v = Value.int .i64 n) {w : World} {v : Value} {xs : List α} (h : SlOf cs k w v xs) {B n1 n2 c1 c2 : Nat} {a1 a2 : Option Addr}
  (hB : w.heap[B]? = some (boxB (.slice a1 n1 c1) (.slice a2 n2 c2))) (i : Nat) (u : Value) : SlOf cs k (w.setCell ⟨B, i, none⟩ u) v xs := by
 obtain ⟨a, c, rfl, hc⟩ := h
 refine ⟨a, c, rfl, ?_⟩
 rcases hc with hc | ⟨b, off, rfl, hE⟩
 · exact Or.inl hc
 · refine Or.inr ⟨b, off, rfl, fun j x hj i' v' hi' => ?_⟩
  have hcell := hE j x hj i' v' hi'
  have hne : b ≠ B := fun e => by
   obtain ⟨n, rfl⟩ := hcs x i' v' hi'
   rw [e, Joins.cell_of_block hB] at hcell
   have h2 : ∀ (m : Nat), #[Value.slice a1 n1 c1, Value.slice a2 n2 c2][m]? = some (Value.int .i64 n) → False := fun m hm => by
    match m, hm with
    | 0, hm => simp at hm
    | 1, hm => simp at hm
    | m + 2, hm => simp at hm
   exact h2 _ hcell
  have hh : (w.setCell ⟨B, i, none⟩ u).heap[b]? = w.heap[b]? := Below.heap_setCell _ _ _ _ (by show b ≠ B; exact hne)
  have : (w.setCell ⟨B, i, none⟩ u).cell? ⟨b, off + j * k + i', none⟩ = w.cell? ⟨b, off + j * k + i', none⟩ := by simp only [World.cell?, hh]
  rw [this]; exact hcell
theorem Jb.ints (x : Jb) (i : Nat) (v : Value) (h : x.cells[i]? = some v) : ∃ n, v = .int .i64 n := by
 match i, h with
 | 0, h => exact ⟨_, (Option.some.inj h).symm⟩
 | 1, h => exact ⟨_, (Option.some.inj h).symm⟩
 | 2, h => exact ⟨_, (Option.some.inj h).symm⟩
 | i + 3, h => simp [Jb.cells] at h
theorem Rg.ints (x : Rg) (i : Nat) (v : Value) (h : x.cells[i]? = some v) : ∃ n, v = .int .i64 n := by
 match i, h with
 | 0, h => exact ⟨_, (Option.some.inj h).symm⟩
 | 1, h => exact ⟨_, (Option.some.inj h).symm⟩
 | 2, h => exact ⟨_, (Option.some.inj h).symm⟩
 | i + 3, h => simp [Rg.cells] at h
theorem step_below {w a b : World} (h : Below w.heap.size w a) (hb : Below a.heap.size a b) : Below w.heap.size w b := h.trans (hb.mono h.size)
set_option maxRecDepth 100000
theorem cellsE : Tryz.prog.cellsOf 27 = 5 := by kernel_rfl
theorem cellsLJ : Tryz.prog.cellsOf 36 = 1 := by kernel_rfl
theorem cellsLR : Tryz.prog.cellsOf 37 = 1 := by kernel_rfl
section
variable {H : Type} {enc : TypeId × Value → H} {w : World} {base : Nat} {spare : Nat → Bool} {held : Bool}
theorem trodE {fuel : Nat} {cs : List Value} {x : DataW H × List MemPlace} (h : DataW.trod enc Tryz.prog w base spare held fuel 27 cs = some x) : ∃ e : En, cs = e.cells := by
 obtain ⟨xs, n, _, hx, hcl, hlen, hel⟩ := DataW.trod_struct Tryz.underlying27 h
 rw [cellsE] at hcl
 match xs, hlen, cs, hcl with
 | [y0, y1, y2, y3, y4], _, [c0, c1, c2, c3, c4], _ =>
  have k0 : DataW.trod enc Tryz.prog w base spare held n 3 (List.take (Tryz.prog.cellsOf 3) (List.drop 0 [c0, c1, c2, c3, c4])) = some y0 := hel 0 _ rfl
  have k1 : DataW.trod enc Tryz.prog w base spare held n 3 (List.take (Tryz.prog.cellsOf 3) (List.drop 1 [c0, c1, c2, c3, c4])) = some y1 := hel 1 _ rfl
  have k2 : DataW.trod enc Tryz.prog w base spare held n 3 (List.take (Tryz.prog.cellsOf 3) (List.drop 2 [c0, c1, c2, c3, c4])) = some y2 := hel 2 _ rfl
  have k3 : DataW.trod enc Tryz.prog w base spare held n 3 (List.take (Tryz.prog.cellsOf 3) (List.drop 3 [c0, c1, c2, c3, c4])) = some y3 := hel 3 _ rfl
  have k4 : DataW.trod enc Tryz.prog w base spare held n 3 (List.take (Tryz.prog.cellsOf 3) (List.drop 4 [c0, c1, c2, c3, c4])) = some y4 := hel 4 _ rfl
  rw [cellsIJ] at k0 k1 k2 k3 k4
  obtain ⟨a0, e0, _, _⟩ := DataW.trod_int Tryz.underlying3 k0
  obtain ⟨a1, e1, _, _⟩ := DataW.trod_int Tryz.underlying3 k1
  obtain ⟨a2, e2, _, _⟩ := DataW.trod_int Tryz.underlying3 k2
  obtain ⟨a3, e3, _, _⟩ := DataW.trod_int Tryz.underlying3 k3
  obtain ⟨a4, e4, _, _⟩ := DataW.trod_int Tryz.underlying3 k4
  simp at e0 e1 e2 e3 e4
  subst e0 e1 e2 e3 e4
  exact ⟨⟨a0, a1, a2, a3, a4⟩, rfl⟩
theorem one_slice {t e : TypeId} {fuel : Nat} {c0 : Value} {x : DataW H × List MemPlace} (ht : Tryz.prog.underlying t = some (.slice e)) (h : DataW.trod enc Tryz.prog w base spare held fuel t [c0] = some x) : ∃ a l c, c0 = .slice a l c := by
 rcases Deep.open_slice ht h with ⟨hcs, _⟩ | ⟨a, len, cap, m, n, D, Pl, hcs, _⟩
 · exact ⟨_, _, _, by simpa using hcs⟩
 · exact ⟨_, _, _, by simpa using hcs⟩
end
theorem alt_ok {js : List Jb} {rs rs' : List Rg} (hok : Ok js rs) {i : Int} {o : Option Jb} (i0 : 0 ≤ i) (i5 : i ≤ 5) (ho : ∀ y, o = some y → y.i = i ∧ y.bad = false) (hr : rs'.length ≤ 60) (hb : ∀ r, r ∈ rs' → r.bad = false) : Ok (alt js i o) rs' := by
 have hs : Srt (-1) (alt js i o) := alt_srt hok.srt (by omega) (fun y hy => (ho y hy).1)
 have hg : ∀ y, y ∈ alt js i o → y.bad = false := fun y hy => by
  rcases alt_mem.1 hy with ⟨h, _⟩ | h
  · exact hok.jobs y h
  · exact (ho y h).2
 refine ⟨?_, hr, hs, hg, hb⟩
 have := srt_len hs (fun y hy => (Jb.good (hg y hy)).1.2)
 rw [if_pos (by omega)] at this
 omega
theorem step_ways {js : List Jb} {rs : List Rg} {x : En} (hx : x.chk = 0) :
  (step js rs x = (js, rs) ∧ (x.k = 1 → ∃ y, tab js x.j = some y) ∧ x.k ≠ 2 ∧ (x.k = 3 → ∀ y, tab js x.j = some y → ¬ (y.n = x.t ∧ rs.length < 60))) ∨
  (x.k = 1 ∧ tab js x.j = none ∧ step js rs x = (alt js x.j (some ⟨x.j, x.v, x.t⟩), rs)) ∨
  (x.k = 2 ∧ step js rs x = (alt js x.j none, rs)) ∨
  (x.k = 3 ∧ ∃ y, tab js x.j = some y ∧ y.n = x.t ∧ rs.length < 60 ∧ step js rs x = (alt js x.j (some ⟨x.j, y.e, x.t + y.e⟩), rs ++ [⟨x.j, x.t, x.c⟩])) := by
 have hX := En.right hx
 have hk : x.k = 0 ∨ x.k = 1 ∨ x.k = 2 ∨ x.k = 3 := by omega
 rcases hk with hk | hk | hk | hk
 · exact Or.inl ⟨by rw [step, if_neg (by omega), if_neg (by omega), if_neg (by omega)], fun h => by omega, by omega, fun h => by omega⟩
 · cases ht : tab js x.j with
  | none => exact Or.inr (Or.inl ⟨hk, rfl, by rw [step, if_pos hk, ht]⟩)
  | some y => exact Or.inl ⟨by rw [step, if_pos hk, ht], fun _ => ⟨y, rfl⟩, by omega, fun h => by omega⟩
 · exact Or.inr (Or.inr (Or.inl ⟨hk, by rw [step, if_neg (by omega), if_pos hk]⟩))
 · cases ht : tab js x.j with
  | none => exact Or.inl ⟨by rw [step, if_neg (by omega), if_neg (by omega), if_pos hk, ht], fun h => by omega, by omega, fun _ y h => by cases h⟩
  | some y =>
   by_cases hc : y.n = x.t ∧ rs.length < 60
   · refine Or.inr (Or.inr (Or.inr ⟨hk, y, rfl, hc.1, hc.2, ?_⟩))
    rw [step, if_neg (by omega), if_neg (by omega), if_pos hk, ht]
    exact if_pos hc
   · refine Or.inl ⟨?_, fun h => by omega, by omega, fun _ z h => by cases h; exact hc⟩
    rw [step, if_neg (by omega), if_neg (by omega), if_pos hk, ht]
    exact if_neg hc
theorem step_ok {js : List Jb} {rs : List Rg} {x : En} (hok : Ok js rs) (hx : x.chk = 0) : Ok (step js rs x).1 (step js rs x).2 := by
 have hX := En.right hx
 have j0 := hX.2.1.1
 have j5 := hX.2.1.2
 rcases step_ways (js := js) (rs := rs) hx with ⟨h, _⟩ | ⟨hk, _, h⟩ | ⟨_, h⟩ | ⟨hk, y, hy, hn, hr, h⟩
 · rw [h]; exact hok
 · rw [h]
  refine alt_ok hok j0 j5 (fun y e => ?_) hok.room hok.rungs
  cases e
  exact ⟨rfl, Jb.good_of ⟨hX.2.1, ⟨hX.2.2.2.2.2 hk, hX.2.2.1.2⟩, ⟨hX.2.2.2.1.1, by have := hX.2.2.2.1.2; show x.t ≤ 100100; omega⟩⟩⟩
 · rw [h]
  exact alt_ok hok j0 j5 (fun y e => by cases e) hok.room hok.rungs
 · rw [h]
  have hg := Jb.good (hok.jobs y (tab_id hy).2)
  refine alt_ok hok j0 j5 (fun z e => ?_) (by rw [List.length_append]; simp; omega) (fun r hr => ?_)
  · cases e
   refine ⟨rfl, Jb.good_of ⟨hX.2.1, hg.2.1, ?_⟩⟩
   have := hX.2.2.2.1; have := hg.2.1
   show 0 ≤ x.t + y.e ∧ x.t + y.e ≤ 100100
   omega
  · rcases List.mem_append.1 hr with hr | hr
   · exact hok.rungs r hr
   · obtain rfl : r = ⟨x.j, x.t, x.c⟩ := by simpa using hr
    exact Rg.good_of ⟨hX.2.1, hX.2.2.2.1, hX.2.2.2.2.1⟩
theorem jobAt_ways (js : List Jb) (id : Int) : (jobAt js id = -1 ∧ tab js id = none) ∨ ∃ (k : Nat) (z : Jb), jobAt js id = k ∧ js[k]? = some z ∧ tab js id = some z := by
 induction js with
 | nil => exact Or.inl ⟨rfl, rfl⟩
 | cons y r ih =>
  by_cases he : y.i = id
  · refine Or.inr ⟨0, y, ?_, rfl, ?_⟩
   · rw [jobAt, List.findIdx?_cons, if_pos (by simpa using he)]
   · rw [tab, List.find?_cons, show (y.i == id) = true by simpa using he]
  · have hb : (y.i == id) = false := by simpa using he
   rcases ih with ⟨h1, h2⟩ | ⟨k, z, h1, h2, h3⟩
   · refine Or.inl ⟨?_, ?_⟩
    · rw [jobAt] at h1 ⊢
     rw [List.findIdx?_cons, if_neg (by simpa using he)]
     cases hf : r.findIdx? (fun x => x.i == id) with
     | none => rfl
     | some q => rw [hf] at h1; exact absurd h1 (by show ¬ ((q : Int) = -1); omega)
    · rw [tab, List.find?_cons, hb]; exact h2
   · refine Or.inr ⟨k + 1, z, ?_, by simpa using h2, ?_⟩
    · rw [jobAt] at h1 ⊢
     rw [List.findIdx?_cons, if_neg (by simpa using he)]
     cases hf : r.findIdx? (fun x => x.i == id) with
     | none => rw [hf] at h1; exact absurd h1 (by show ¬ ((-1 : Int) = k); omega)
     | some q =>
      rw [hf] at h1
      have h1' : (q : Int) = k := h1
      show ((q + 1 : Nat) : Int) = ((k + 1 : Nat) : Int)
      omega
    · rw [tab, List.find?_cons, hb]; exact h3
theorem app_ok {js : List Jb} {rs : List Rg} {x : En} (h : (app js rs x).2 = 0) : Ok js rs ∧ x.chk = 0 ∧ app js rs x = (step js rs x, 0) := by
 unfold app at h ⊢
 by_cases h1 : ckBook js rs = 0
 · rw [if_neg (by simpa using h1)] at h ⊢
  by_cases h2 : x.chk = 0
  · rw [if_neg (by simpa using h2)]
   exact ⟨ckBook_zero.1 h1, h2, rfl⟩
  · rw [if_pos h2] at h; exact absurd h h2
 · rw [if_pos h1] at h; exact absurd h h1
def Jb.ahead (x y : Jb) : Prop := x.n < y.n ∨ (x.n = y.n ∧ x.i < y.i)
def Row : List Jb → Prop
 | [] => True
 | x :: r => (∀ y, y ∈ r → x.ahead y) ∧ Row r
theorem row_ext : ∀ {a b : List Jb}, Row a → Row b → (∀ x, x ∈ a ↔ x ∈ b) → a = b
 | [], [], _, _, _ => rfl
 | [], y :: s, _, _, h => absurd ((h y).2 (by simp)) (by simp)
 | x :: r, [], _, _, h => absurd ((h x).1 (by simp)) (by simp)
 | x :: r, y :: s, ha, hb, h => by
  have hxy : x = y := by
   rcases List.mem_cons.1 ((h x).1 (by simp)) with e | hx
   · exact e
   · rcases List.mem_cons.1 ((h y).2 (by simp)) with e | hy
    · exact e.symm
    · have h1 := hb.1 x hx
     have h2 := ha.1 y hy
     unfold Jb.ahead at h1 h2
     omega
  subst hxy
  have irr : ∀ z : Jb, ¬ z.ahead z := fun z hz => by unfold Jb.ahead at hz; omega
  congr 1
  refine row_ext ha.2 hb.2 fun z => ?_
  constructor
  · intro hz
   rcases List.mem_cons.1 ((h z).1 (List.mem_cons_of_mem _ hz)) with rfl | h'
   · exact absurd (ha.1 z hz) (irr z)
   · exact h'
  · intro hz
   rcases List.mem_cons.1 ((h z).2 (List.mem_cons_of_mem _ hz)) with rfl | h'
   · exact absurd (hb.1 z hz) (irr z)
   · exact h'
def into (x : Jb) : List Jb → List Jb
 | [] => [x]
 | y :: r => if x.n < y.n ∨ (x.n = y.n ∧ x.i < y.i) then x :: y :: r else y :: into x r
theorem into_mem (x z : Jb) : ∀ l : List Jb, z ∈ into x l ↔ z = x ∨ z ∈ l
 | [] => by simp [into]
 | y :: r => by
  rw [into]
  split
  · simp
  · rw [List.mem_cons, into_mem x z r, List.mem_cons]
   constructor
   · rintro (h | h | h)
    · exact Or.inr (Or.inl h)
    · exact Or.inl h
    · exact Or.inr (Or.inr h)
   · rintro (h | h | h)
    · exact Or.inr (Or.inl h)
    · exact Or.inl h
    · exact Or.inr (Or.inr h)
theorem into_row (x : Jb) : ∀ {l : List Jb}, Row l → (∀ y, y ∈ l → y.i ≠ x.i) → Row (into x l)
 | [], _, _ => ⟨fun _ h => absurd h (by simp), trivial⟩
 | y :: r, h, hd => by
  rw [into]
  split
  · rename_i hxy
   refine ⟨fun z hz => ?_, h⟩
   rcases List.mem_cons.1 hz with rfl | hz
   · exact hxy
   · have := h.1 z hz
    unfold Jb.ahead at this ⊢
    omega
  · rename_i hxy
   refine ⟨fun z hz => ?_, into_row x h.2 (fun z hz => hd z (List.mem_cons_of_mem _ hz))⟩
   rcases (into_mem x z r).1 hz with rfl | hz
   · have := hd y (by simp)
    unfold Jb.ahead
    omega
   · exact h.1 z hz
def dueOf : List Jb → Int → List Jb
 | [], _ => []
 | x :: r, t => if x.n ≤ t then into x (dueOf r t) else dueOf r t
theorem dueOf_mem (t : Int) (z : Jb) : ∀ js : List Jb, z ∈ dueOf js t ↔ z ∈ js ∧ z.n ≤ t
 | [] => by simp [dueOf]
 | x :: r => by
  rw [dueOf]
  split
  · rename_i h
   rw [into_mem, dueOf_mem t z r, List.mem_cons]
   constructor
   · rintro (rfl | ⟨h1, h2⟩)
    · exact ⟨Or.inl rfl, h⟩
    · exact ⟨Or.inr h1, h2⟩
   · rintro ⟨h1 | h1, h2⟩
    · exact Or.inl h1
    · exact Or.inr ⟨h1, h2⟩
  · rename_i h
   rw [dueOf_mem t z r, List.mem_cons]
   constructor
   · rintro ⟨h1, h2⟩; exact ⟨Or.inr h1, h2⟩
   · rintro ⟨rfl | h1, h2⟩
    · exact absurd h2 h
    · exact ⟨h1, h2⟩
theorem dueOf_row (t : Int) : ∀ {l : Int} {js : List Jb}, Srt l js → Row (dueOf js t)
 | _, [], _ => trivial
 | l, x :: r, h => by
  rw [dueOf]
  split
  · exact into_row x (dueOf_row t h.2) (fun y hy => by have := h.2.above y ((dueOf_mem t y r).1 hy).1; omega)
  · exact dueOf_row t h.2
structure Cl where (p : Int) (d : Int) (e : En) (a : Int) (l : Int) (n : Int) (js : List Jb) (rs : List Rg)
def Cl.zero : Cl := ⟨0, 0, En.zero, 0, 0, 0, [], []⟩
def En.ne (x y : En) : Bool := unlike x.k x.j x.v x.t x.c y.k y.j y.v y.t y.c
theorem ne_self (x : En) : x.ne x = false := by simp [En.ne, unlike]
theorem ne_false {x y : En} : x.ne y = false ↔ x = y := ⟨en_eq, fun h => by rw [h]; exact ne_self y⟩
def Cl.out (c : Cl) : Bool := !(decide (1 ≤ c.p ∧ c.p ≤ 20) && (decide (0 ≤ c.d ∧ c.d ≤ 2) && (decide (0 ≤ c.a ∧ c.a ≤ 59) && (decide (0 ≤ c.l ∧ c.l ≤ 2) && decide (0 ≤ c.n ∧ c.n ≤ 60)))))
def Cl.odd (c : Cl) : Bool := if c.d = 0 then decide (0 < c.a) || (decide (0 < c.l) || c.e.ne En.zero) else if c.d = 1 then decide (0 < c.a) || (decide (0 < c.l) || decide (c.e.k = 0)) else false
def Cl.ck (c : Cl) : Int := if c.out = true then 3 else if c.e.chk ≠ 0 then c.e.chk else if c.odd = true then 4 else ckBook c.js c.rs
theorem Cl.good {c : Cl} (h : c.out = false) : (1 ≤ c.p ∧ c.p ≤ 20) ∧ (0 ≤ c.d ∧ c.d ≤ 2) ∧ (0 ≤ c.a ∧ c.a ≤ 59) ∧ (0 ≤ c.l ∧ c.l ≤ 2) ∧ (0 ≤ c.n ∧ c.n ≤ 60) := by
 simp only [Cl.out, Bool.not_eq_false', Bool.and_eq_true, decide_eq_true_eq] at h
 exact h
theorem Cl.good_of {c : Cl} (h : (1 ≤ c.p ∧ c.p ≤ 20) ∧ (0 ≤ c.d ∧ c.d ≤ 2) ∧ (0 ≤ c.a ∧ c.a ≤ 59) ∧ (0 ≤ c.l ∧ c.l ≤ 2) ∧ (0 ≤ c.n ∧ c.n ≤ 60)) : c.out = false := by
 simp only [Cl.out, Bool.not_eq_false', Bool.and_eq_true, decide_eq_true_eq]
 exact h
theorem Cl.ck_zero {c : Cl} : c.ck = 0 ↔ c.out = false ∧ c.e.chk = 0 ∧ c.odd = false ∧ Ok c.js c.rs := by
 rw [← ckBook_zero, Cl.ck]
 cases c.out with
 | true => simp
 | false =>
  rw [if_neg (by simp)]
  by_cases he : c.e.chk = 0
  · rw [if_neg (by simpa using he)]
   cases c.odd with
   | true => simp
   | false => simp [he]
  · rw [if_pos he]
   simp [he]
def wantOf (c : Cl) (x : En) : Cl × Int :=
 if c.ck ≠ 0 then (Cl.zero, c.ck) else if c.d ≠ 0 then (Cl.zero, 7) else if x.chk ≠ 0 then (Cl.zero, x.chk) else if x.k = 0 then (Cl.zero, 4)
 else (⟨c.p, 1, x, c.a, c.l, c.n, c.js, c.rs⟩, 0)
def ringOf (c : Cl) (me j t : Int) : Cl × Int :=
 if c.ck ≠ 0 then (Cl.zero, c.ck) else if c.d ≠ 0 then (Cl.zero, 7) else if t < 0 ∨ 100000 < t then (Cl.zero, 3)
 else match tab c.js j with
  | none => (Cl.zero, 5)
  | some z => if t < z.n then (Cl.zero, 5) else wantOf c ⟨3, j, 0, z.n, me⟩
def placeOf (q : Int) (c : Cl) (a : Int) : Cl × Int :=
 if c.ck ≠ 0 then (Cl.zero, c.ck) else if c.d ≠ q then (Cl.zero, 7) else if ¬ (0 ≤ a ∧ a ≤ 59) then (Cl.zero, 5)
 else (⟨c.p, 2, c.e, a, c.l, c.n, c.js, c.rs⟩, 0)
def hearOf (c : Cl) (x : En) : Cl × Int :=
 if c.ck ≠ 0 then (Cl.zero, c.ck) else if x.chk ≠ 0 then (Cl.zero, x.chk) else if c.d ≠ 2 then (Cl.zero, 7)
 else if c.e.k ≠ 0 ∧ c.e.ne x = true then (⟨c.p, 1, c.e, 0, 0, c.n, c.js, c.rs⟩, 0)
 else if c.l = 2 then (⟨c.p, 0, En.zero, 0, 0, c.n, c.js, c.rs⟩, 0)
 else (⟨c.p, c.d, x, c.a, c.l + 1, c.n, c.js, c.rs⟩, 0)
def playOf (c : Cl) (x : En) : Cl × Int :=
 if c.ck ≠ 0 then (Cl.zero, c.ck) else if c.n = 60 then (Cl.zero, 2) else if (app c.js c.rs x).2 ≠ 0 then (Cl.zero, (app c.js c.rs x).2)
 else (⟨c.p, c.d, c.e, c.a, c.l, c.n + 1, (app c.js c.rs x).1.1, (app c.js c.rs x).1.2⟩, 0)
def learnOf (c : Cl) (p : Int) : Cl × Int :=
 if c.ck ≠ 0 then (Cl.zero, c.ck) else if ¬ (1 ≤ p ∧ p ≤ 20) then (Cl.zero, 3) else if p ≤ c.p then (Cl.zero, 8)
 else (⟨p, c.d, c.e, c.a, c.l, c.n, c.js, c.rs⟩, 0)
theorem rests {c : Cl} (h : c.ck = 0) (hd : c.d = 0) : c = ⟨c.p, 0, En.zero, 0, 0, c.n, c.js, c.rs⟩ := by
 obtain ⟨ho, _, hf, _⟩ := Cl.ck_zero.1 h
 have hg := Cl.good ho
 rw [Cl.odd, if_pos hd] at hf
 simp only [Bool.or_eq_false_iff, decide_eq_false_iff_not] at hf
 have he := ne_false.1 hf.2.2
 obtain ⟨p, d, e, a, l, n, js, rs⟩ := c
 simp only at hd he hf hg
 obtain rfl : a = 0 := by omega
 obtain rfl : l = 0 := by omega
 rw [hd, he]
theorem play_ok {c : Cl} {x : En} (h : (playOf c x).2 = 0) : c.ck = 0 ∧ c.n ≠ 60 ∧ (app c.js c.rs x).2 = 0 ∧ (playOf c x) = (⟨c.p, c.d, c.e, c.a, c.l, c.n + 1, (app c.js c.rs x).1.1, (app c.js c.rs x).1.2⟩, 0) ∧ (playOf c x).1.ck = 0 := by
 unfold playOf at h ⊢
 by_cases h1 : c.ck = 0
 · rw [if_neg (by simpa using h1)] at h ⊢
  by_cases h2 : c.n = 60
  · rw [if_pos h2] at h; cases h
  · rw [if_neg h2] at h ⊢
   by_cases h3 : (app c.js c.rs x).2 = 0
   · rw [if_neg (by simpa using h3)]
    refine ⟨h1, h2, h3, rfl, ?_⟩
    obtain ⟨ho, he, hf, hb⟩ := Cl.ck_zero.1 h1
    have hg := Cl.good ho
    obtain ⟨_, hx, happ⟩ := app_ok h3
    refine Cl.ck_zero.2 ⟨Cl.good_of ⟨hg.1, hg.2.1, hg.2.2.1, hg.2.2.2.1, ?_⟩, he, hf, ?_⟩
    · show 0 ≤ c.n + 1 ∧ c.n + 1 ≤ 60; omega
    · show Ok (app c.js c.rs x).1.1 (app c.js c.rs x).1.2
     rw [happ]; exact step_ok hb hx
   · rw [if_pos h3] at h; exact absurd h h3
 · rw [if_pos h1] at h; exact absurd h h1
theorem fill_ok {c : Cl} (h : c.ck = 0) {a : Int} (ha : 0 ≤ a ∧ a ≤ 59) : ((placeOf 0 c a).2 = 0 ↔ c.d = 0) ∧ (c.d = 0 → placeOf 0 c a = (⟨c.p, 2, En.zero, a, 0, c.n, c.js, c.rs⟩, 0) ∧ (placeOf 0 c a).1.ck = 0) := by
 have hk : c.d = 0 → placeOf 0 c a = (⟨c.p, 2, En.zero, a, 0, c.n, c.js, c.rs⟩, 0) ∧ (placeOf 0 c a).1.ck = 0 := fun hd => by
  have e : placeOf 0 c a = (⟨c.p, 2, En.zero, a, 0, c.n, c.js, c.rs⟩, 0) := by
   rw [placeOf, if_neg (by simpa using h), if_neg (by simpa using hd), if_neg (by simpa using ha)]
   have := rests h hd
   rw [this]
  refine ⟨e, ?_⟩
  rw [e]
  obtain ⟨ho, _, _, hb⟩ := Cl.ck_zero.1 h
  have hg := Cl.good ho
  exact Cl.ck_zero.2 ⟨Cl.good_of ⟨hg.1, (show (0 : Int) ≤ 2 ∧ (2 : Int) ≤ 2 by decide), ha, (show (0 : Int) ≤ 0 ∧ (0 : Int) ≤ 2 by decide), hg.2.2.2.2⟩, (show En.zero.chk = 0 by decide), rfl, hb⟩
 refine ⟨⟨fun h2 => ?_, fun hd => by rw [(hk hd).1]⟩, hk⟩
 by_cases hd : c.d = 0
 · exact hd
 · rw [placeOf, if_neg (by simpa using h), if_pos hd] at h2
  cases h2
theorem ring_ok {c : Cl} {me j t : Int} (h : (ringOf c me j t).2 = 0) : c.ck = 0 ∧ c.d = 0 ∧ (0 ≤ t ∧ t ≤ 100000) ∧ (0 ≤ me ∧ me ≤ 2) ∧ ∃ z, tab c.js j = some z ∧ z.n ≤ t ∧ (⟨3, j, 0, z.n, me⟩ : En).chk = 0 ∧ ringOf c me j t = (⟨c.p, 1, ⟨3, j, 0, z.n, me⟩, 0, 0, c.n, c.js, c.rs⟩, 0) := by
 unfold ringOf at h ⊢
 by_cases h1 : c.ck = 0
 · rw [if_neg (by simpa using h1)] at h ⊢
  by_cases h2 : c.d = 0
  · rw [if_neg (by simpa using h2)] at h ⊢
   by_cases h3 : t < 0 ∨ 100000 < t
   · rw [if_pos h3] at h; cases h
   · rw [if_neg h3] at h ⊢
    cases hz : tab c.js j with
    | none => rw [hz] at h; cases h
    | some z =>
     rw [hz] at h
     by_cases h4 : t < z.n
     · simp only [if_pos h4] at h; cases h
     · simp only [if_neg h4] at h ⊢
      rw [wantOf, if_neg (by simpa using h1), if_neg (by simpa using h2)] at h ⊢
      by_cases h5 : (⟨3, j, 0, z.n, me⟩ : En).chk = 0
      · rw [if_neg (by simpa using h5), if_neg (show ¬ (3 : Int) = 0 by decide)]
       have hr := En.right h5
       refine ⟨h1, h2, by omega, hr.2.2.2.2.1, z, rfl, by omega, h5, ?_⟩
       have := rests h1 h2
       rw [this]
      · rw [if_pos h5] at h; exact absurd h h5
  · rw [if_pos h2] at h; cases h
 · rw [if_pos h1] at h; exact absurd h h1
abbrev boxC (c : Cl) (v1 v2 : Value) : Obj := .cells #[.int .i64 c.p, .int .i64 c.d, .int .i64 c.e.k, .int .i64 c.e.j, .int .i64 c.e.v, .int .i64 c.e.t, .int .i64 c.e.c, .int .i64 c.a, .int .i64 c.l, .int .i64 c.n, v1, v2] 41
abbrev Cl.val (c : Cl) (v1 v2 : Value) : Value := .agg #[.int .i64 c.p, .int .i64 c.d, .int .i64 c.e.k, .int .i64 c.e.j, .int .i64 c.e.v, .int .i64 c.e.t, .int .i64 c.e.c, .int .i64 c.a, .int .i64 c.l, .int .i64 c.n, v1, v2]
abbrev BkAt (w : World) (v1 v2 : Value) (c : Cl) : Prop := JobSl w v1 c.js ∧ RungSl w v2 c.rs
theorem bkAt_later {w w' : World} {v1 v2 : Value} {c : Cl} (h : BkAt w v1 v2 c) (hb : Below w.heap.size w w') : BkAt w' v1 v2 c := ⟨h.1.later hb, h.2.later hb⟩
abbrev AnsX (f : FuncId) (args : Array Value) (w : World) (r : Cl × Int) (u1 u2 : Value) : Prop :=
 Calls Tryz.prog f args w fun e w' => e = .returned (.tuple #[r.1.val u1 u2, .int .i64 r.2]) ∧ Below w.heap.size w w'
section
open scoped Classical
noncomputable def sameC (c x : Cl) : Bool := (c.p == x.p) && ((c.d == x.d) && (!(c.e.ne x.e) && ((c.a == x.a) && ((c.l == x.l) && ((c.n == x.n) && (decide (c.js = x.js) && decide (c.rs = x.rs)))))))
theorem sameC_self (c : Cl) : sameC c c = true := by simp [sameC, ne_self]
theorem sameC_eq {c x : Cl} (h : sameC c x = true) : c = x := by
 simp only [sameC, Bool.and_eq_true, beq_iff_eq, Bool.not_eq_true', decide_eq_true_eq] at h
 obtain ⟨h1, h2, h3, h4, h5, h6, h7, h8⟩ := h
 obtain ⟨p, d, e, a, l, n, js, rs⟩ := c
 obtain ⟨p', d', e', a', l', n', js', rs'⟩ := x
 simp only at *
 rw [h1, h2, ne_false.1 h3, h4, h5, h6, h7, h8]
theorem ret_client {fn : Func} {R : Ending → World → Prop} {a : Act} {W : World} {b p q : Nat} {c : Cl} {v1 v2 y : Value} (hf : fn.results = #[.cell p 41, .tmp q]) (hd : a.defers = [])
  (h2 : a.tmps.getD p undef = .pointer (some ⟨b, 0, none⟩)) (h3 : a.tmps.getD q undef = y) (hR : W.heap[b]? = some (boxC c v1 v2)) (hp : R (.returned (.tuple #[c.val v1 v2, y])) W) :
  bodyPost Tryz.prog fn R .ret a W := by
 have c0 := fun i => Joins.cell_of_block hR i
 refine bodyPost_ret (v := .tuple #[c.val v1 v2, y]) ?_ hd hp
 rw [results_cell_tmp hf, h2, h3]
 simp [go_sem, c0]
def st12 (W : World) (b : Nat) (c : Cl) (v1 v2 : Value) : World :=
 (((((((((((W.setCell ⟨b, 0, none⟩ (.int .i64 c.p)).setCell ⟨b, 1, none⟩ (.int .i64 c.d)).setCell ⟨b, 2, none⟩ (.int .i64 c.e.k)).setCell ⟨b, 3, none⟩ (.int .i64 c.e.j)).setCell ⟨b, 4, none⟩ (.int .i64 c.e.v)).setCell ⟨b, 5, none⟩ (.int .i64 c.e.t)).setCell ⟨b, 6, none⟩ (.int .i64 c.e.c)).setCell ⟨b, 7, none⟩ (.int .i64 c.a)).setCell ⟨b, 8, none⟩ (.int .i64 c.l)).setCell ⟨b, 9, none⟩ (.int .i64 c.n)).setCell ⟨b, 10, none⟩ v1).setCell ⟨b, 11, none⟩ v2
theorem st12_box {W : World} {b : Nat} {q : Cl} {u1 u2 : Value} (h : W.heap[b]? = some (boxC q u1 u2)) (c : Cl) (v1 v2 : Value) : (st12 W b c v1 v2).heap[b]? = some (boxC c v1 v2) := by
 have g0 := Joins.block_setCell h (i := 0) (.int .i64 c.p)
 have g1 := Joins.block_setCell g0 (i := 1) (.int .i64 c.d)
 have g2 := Joins.block_setCell g1 (i := 2) (.int .i64 c.e.k)
 have g3 := Joins.block_setCell g2 (i := 3) (.int .i64 c.e.j)
 have g4 := Joins.block_setCell g3 (i := 4) (.int .i64 c.e.v)
 have g5 := Joins.block_setCell g4 (i := 5) (.int .i64 c.e.t)
 have g6 := Joins.block_setCell g5 (i := 6) (.int .i64 c.e.c)
 have g7 := Joins.block_setCell g6 (i := 7) (.int .i64 c.a)
 have g8 := Joins.block_setCell g7 (i := 8) (.int .i64 c.l)
 have g9 := Joins.block_setCell g8 (i := 9) (.int .i64 c.n)
 have g10 := Joins.block_setCell g9 (i := 10) (v1)
 have g11 := Joins.block_setCell g10 (i := 11) (v2)
 simp only [List.setIfInBounds_toArray, List.set_cons_zero, List.set_cons_succ] at g11
 exact g11
theorem st12_below {B : Nat} {a W : World} {b : Nat} (h : Below B a W) (hb : B ≤ b) (c : Cl) (v1 v2 : Value) : Below B a (st12 W b c v1 v2) :=
 ((((((((((((h).setCell (p := ⟨b, 0, none⟩) hb _).setCell (p := ⟨b, 1, none⟩) hb _).setCell (p := ⟨b, 2, none⟩) hb _).setCell (p := ⟨b, 3, none⟩) hb _).setCell (p := ⟨b, 4, none⟩) hb _).setCell (p := ⟨b, 5, none⟩) hb _).setCell (p := ⟨b, 6, none⟩) hb _).setCell (p := ⟨b, 7, none⟩) hb _).setCell (p := ⟨b, 8, none⟩) hb _).setCell (p := ⟨b, 9, none⟩) hb _).setCell (p := ⟨b, 10, none⟩) hb _).setCell (p := ⟨b, 11, none⟩) hb _
theorem ret_st {fn : Func} {R : Ending → World → Prop} {a : Act} {W : World} {p q : Nat} {y : Value} (W0 : World) (b : Nat) (c : Cl) (v1 v2 : Value) {o : Cl} {u1 u2 : Value} (hf : fn.results = #[.cell p 41, .tmp q]) (hd : a.defers = [])
  (h2 : a.tmps.getD p undef = .pointer (some ⟨b, 0, none⟩)) (h3 : a.tmps.getD q undef = y) (hR : W0.heap[b]? = some (boxC o u1 u2)) (hW : W = st12 W0 b c v1 v2) (hp : R (.returned (.tuple #[c.val v1 v2, y])) (st12 W0 b c v1 v2)) :
  bodyPost Tryz.prog fn R .ret a W := by
 rw [hW]
 exact ret_client hf hd h2 h3 (st12_box hR c v1 v2) hp
end
set_option maxRecDepth 100000
theorem cellsCl : Tryz.prog.cellsOf 41 = 12 := by kernel_rfl
section
variable {H : Type} {enc : TypeId × Value → H} {w : World} {base : Nat} {spare : Nat → Bool} {held : Bool}
theorem trodBk {fuel : Nat} {c0 c1 : Value} {x : DataW H × List MemPlace} (hf : DataW.trod enc Tryz.prog w base spare held fuel 39 [c0, c1] = some x) :
  ∃ (js : List Jb) (rs : List Rg), JobSl w c0 js ∧ RungSl w c1 rs ∧ js.length ≤ maxLen ∧ rs.length ≤ maxLen := by
 obtain ⟨xs, n, _, hx, _, hlen, hel⟩ := DataW.trod_struct Tryz.underlying39 hf
 match xs, hlen with
 | [y0, y1], _ =>
  have k0 : DataW.trod enc Tryz.prog w base spare held n 36 (List.take (Tryz.prog.cellsOf 36) (List.drop 0 [c0, c1])) = some y0 := hel 0 _ rfl
  have k1 : DataW.trod enc Tryz.prog w base spare held n 37 (List.take (Tryz.prog.cellsOf 37) (List.drop 1 [c0, c1])) = some y1 := hel 1 _ rfl
  rw [cellsLJ] at k0
  rw [cellsLR] at k1
  have k0' : DataW.trod enc Tryz.prog w base spare held n 36 [c0] = some y0 := k0
  have k1' : DataW.trod enc Tryz.prog w base spare held n 37 [c1] = some y1 := k1
  obtain ⟨a1, l1, q1, rfl⟩ := one_slice Tryz.underlying36 k0'
  obtain ⟨a2, l2, q2, rfl⟩ := one_slice Tryz.underlying37 k1'
  obtain ⟨js, hj, hjl⟩ := openJ k0'
  obtain ⟨rs, hr, hrl⟩ := openR k1'
  exact ⟨js, rs, hj, hr, hjl, hrl⟩
end
section
open scoped Classical
def Within (u a : List En) : Prop := ∀ (k : Nat) (c : En), u[k]? = some c → c.isB = true ∨ a[k]? = some c
noncomputable def ck3 (u0 u1 u2 : Un) : Int := if u0.ck ≠ 0 then u0.ck else if u1.ck ≠ 0 then u1.ck else if u2.ck ≠ 0 then u2.ck else if ¬ Within u1.cells u0.cells then 4 else if ¬ Within u2.cells u1.cells then 4 else 0
noncomputable def ckChain : List Un → Int
 | [u0, u1, u2] => ck3 u0 u1 u2
 | _ => 4
theorem ckChain_zero {us : List Un} : ckChain us = 0 ↔ ∃ u0 u1 u2, us = [u0, u1, u2] ∧ u0.ck = 0 ∧ u1.ck = 0 ∧ u2.ck = 0 ∧ Within u1.cells u0.cells ∧ Within u2.cells u1.cells := by
 constructor
 · intro h
  match us, h with
  | [u0, u1, u2], h =>
   change ck3 u0 u1 u2 = 0 at h
   unfold ck3 at h
   by_cases h0 : u0.ck = 0
   · rw [if_neg (by simpa using h0)] at h
    by_cases h1 : u1.ck = 0
    · rw [if_neg (by simpa using h1)] at h
     by_cases h2 : u2.ck = 0
     · rw [if_neg (by simpa using h2)] at h
      by_cases g1 : Within u1.cells u0.cells
      · rw [if_neg (by simpa using g1)] at h
       by_cases g2 : Within u2.cells u1.cells
       · exact ⟨u0, u1, u2, rfl, h0, h1, h2, g1, g2⟩
       · rw [if_pos g2] at h; cases h
      · rw [if_pos g1] at h; cases h
     · rw [if_pos h2] at h; exact absurd h h2
    · rw [if_pos h1] at h; exact absurd h h1
   · rw [if_pos h0] at h; exact absurd h h0
 · rintro ⟨u0, u1, u2, rfl, h0, h1, h2, g1, g2⟩
  show ck3 u0 u1 u2 = 0
  unfold ck3
  rw [if_neg (by simpa using h0), if_neg (by simpa using h1), if_neg (by simpa using h2), if_neg (by simpa using g1), if_neg (by simpa using g2)]
theorem ckChain_len {us : List Un} (h : ckChain us = 0) : us.length = 3 := by
 obtain ⟨u0, u1, u2, rfl, _⟩ := ckChain_zero.1 h
 rfl
def plc (us : List Un) (k a : Nat) : En := (us.getD k Un.zero).cells.getD a blankE
noncomputable def linkOf (us : List Un) (k a : Int) (x : En) (ep : Int) : Rc × En × Int :=
 if ckChain us ≠ 0 then (Rc.zero, En.zero, ckChain us)
 else if ¬ (0 ≤ k ∧ k ≤ 2) ∨ ¬ (0 ≤ a ∧ a ≤ 59) then (Rc.zero, En.zero, 5)
 else if x.chk ≠ 0 then (Rc.zero, En.zero, x.chk)
 else if (us.getD k.toNat Un.zero).p ≠ ep then (Rc.zero, En.zero, 8)
 else if 1 ≤ k ∧ ¬ x = plc us (k.toNat - 1) a.toNat then (Rc.zero, En.zero, 7)
 else if (plc us k.toNat a.toNat).isB = false then (Rc.zero, plc us k.toNat a.toNat, 0)
 else (⟨1, a, 0, x⟩, x, 0)
noncomputable def readOf (us : List Un) (a : Int) : En × Int :=
 if ckChain us ≠ 0 then (En.zero, ckChain us)
 else if ¬ (0 ≤ a ∧ a ≤ 59) then (En.zero, 5)
 else if (plc us 2 a.toNat).isB = true then (En.zero, 7)
 else (plc us 2 a.toNat, 0)
theorem linkOf_ok {us : List Un} {k a : Int} {x : En} {ep : Int} (h : (linkOf us k a x ep).2.2 = 0) :
  ckChain us = 0 ∧ (0 ≤ k ∧ k ≤ 2) ∧ (0 ≤ a ∧ a ≤ 59) ∧ x.chk = 0 ∧ (us.getD k.toNat Un.zero).p = ep ∧ (1 ≤ k → x = plc us (k.toNat - 1) a.toNat) ∧
  (((plc us k.toNat a.toNat).isB = false ∧ linkOf us k a x ep = (Rc.zero, plc us k.toNat a.toNat, 0)) ∨ ((plc us k.toNat a.toNat).isB = true ∧ linkOf us k a x ep = (⟨1, a, 0, x⟩, x, 0))) := by
 unfold linkOf at h ⊢
 by_cases h1 : ckChain us = 0
 · rw [if_neg (by simpa using h1)] at h ⊢
  by_cases h2 : ¬ (0 ≤ k ∧ k ≤ 2) ∨ ¬ (0 ≤ a ∧ a ≤ 59)
  · rw [if_pos h2] at h; cases h
  · rw [if_neg h2] at h ⊢
   by_cases h3 : x.chk = 0
   · rw [if_neg (by simpa using h3)] at h ⊢
    by_cases h4 : (us.getD k.toNat Un.zero).p = ep
    · rw [if_neg (by simpa using h4)] at h ⊢
     by_cases h5 : 1 ≤ k ∧ ¬ x = plc us (k.toNat - 1) a.toNat
     · rw [if_pos h5] at h; cases h
     · rw [if_neg h5] at h ⊢
      refine ⟨h1, by omega, by omega, h3, h4, fun hk => Classical.byContradiction fun hn => h5 ⟨hk, hn⟩, ?_⟩
      cases hb : (plc us k.toNat a.toNat).isB with
      | false => exact Or.inl ⟨rfl, by rw [if_pos rfl]⟩
      | true => exact Or.inr ⟨rfl, by rw [if_neg (by simp)]⟩
    · rw [if_pos h4] at h; cases h
   · rw [if_pos h3] at h; exact absurd h h3
 · rw [if_pos h1] at h; exact absurd h h1
theorem plc_some {us : List Un} {k a : Nat} {u : Un} (hk : us[k]? = some u) (hu : u.ck = 0) (ha : a < 60) : u.cells[a]? = some (plc us k a) := by
 have hl : u.cells.length = 60 := (Un.ck_zero.1 hu).2.1
 have e : us.getD k Un.zero = u := by rw [List.getD_eq_getElem?_getD, hk]; rfl
 unfold plc
 rw [e, List.getD_eq_getElem?_getD, List.getElem?_eq_getElem (by omega)]
 rfl
theorem within_at {u a : List En} (h : Within u a) {k : Nat} {c : En} (hc : u[k]? = some c) (hb : c.isB = false) : a[k]? = some c :=
 (h k c hc).resolve_left (by rw [hb]; simp)
theorem within_set {u a : List En} (h : Within u a) {k : Nat} {x : En} (hx : a[k]? = some x) : Within (u.set k x) a := fun j c hc => by
 by_cases hj : k = j
 · subst hj
  have hl := (List.getElem?_eq_some_iff.1 hc).1
  rw [List.length_set] at hl
  rw [List.getElem?_set_self hl] at hc
  rw [← Option.some.inj hc]
  exact Or.inr hx
 · rw [List.getElem?_set_ne hj] at hc
  exact h j c hc
theorem cell_chk {u : Un} (hu : u.ck = 0) {k : Nat} {c : En} (hc : u.cells[k]? = some c) (hb : c.isB = false) : c.chk = 0 :=
 (ckCells_zero.1 (Un.ck_zero.1 hu).2.2 c (List.mem_of_getElem? hc)).resolve_left (by rw [hb]; simp)
theorem chk_notB {x : En} (h : x.chk = 0) : x.isB = false := by
 cases hb : x.isB with
 | false => rfl
 | true => rw [En.isB_eq.1 hb, blank_chk] at h; cases h
theorem unext_write {u : Un} (hu : u.ck = 0) {a : Nat} (ha : a < 60) {x : En} (hx : x.chk = 0) (hb : u.cells[a]? = some blankE) : unext u ⟨1, (a : Int), 0, x⟩ = (⟨u.p, u.cells.set a x⟩, 0) := by
 have hr : Rc.chk ⟨1, (a : Int), 0, x⟩ = 0 := by
  unfold Rc.chk
  rw [if_neg (by simp), if_neg (by simp), if_neg (by simp; omega), if_neg (by simp)]
  exact hx
 rw [unext, if_neg (by simpa using hu), if_neg (by simpa using hr), uwrite, if_neg (by simp)]
 show (if (u.cells.getD ((a : Int).toNat) blankE).isB = false then (Un.zero, (6 : Int)) else (⟨u.p, u.cells.set ((a : Int).toNat) x⟩, 0)) = _
 rw [Int.toNat_natCast, List.getD_eq_getElem?_getD, hb]
 show (if blankE.isB = false then (Un.zero, (6 : Int)) else (⟨u.p, u.cells.set a x⟩, 0)) = _
 rw [if_neg (by simp [blank_isB])]
end
theorem dl_whole (most : Nat) : ∀ (f f' f2 : Nat) (l t : List UInt8) (acc : List Rc) (n : Nat), l.length < f → (l ++ t).length < f' → t.length < f2 → (dl most f l acc n).2.2 = 0 →
  dl most f' (l ++ t) acc n = dl most f2 t (dl most f l acc n).1 (dl most f l acc n).2.1 ∧ (dl most f l acc n).2.1 = n + l.length
 | 0, _, _, _, _, _, _, h, _, _, _ => by omega
 | _, 0, _, _, _, _, _, _, h, _, _ => by omega
 | f + 1, f' + 1, f2, l, t, acc, n, h, h', h2, hz => by
  by_cases hl : l = []
  · subst hl
   rw [dl_nil, List.nil_append]
   exact ⟨dl_fuel most (f' + 1) f2 t acc n (by simpa using h') h2, rfl⟩
  · rcases hc : Lib.cut l [10] with ⟨a, b, g⟩
   cases g with
   | false => rw [dl_torn _ _ _ _ hl hc] at hz; cases hz
   | true =>
    have hb := nl_back l a b hc
    have hbl : l.length = a.length + 1 + b.length := by rw [hb]; simp; omega
    have hna : (10 : UInt8) ∉ a := (nl_first hc).1
    have hc' : Lib.cut (l ++ t) [10] = (a, b ++ t, true) := by
     rw [hb, List.append_assoc, List.cons_append]
     exact cut_nl a (b ++ t) hna
    have hlt : l ++ t ≠ [] := by rw [hb]; simp
    rw [List.length_append] at h'
    by_cases hp : (rcRead a).2 = 0
    · by_cases hm : most ≤ acc.length
     · rw [dl_many _ _ _ _ hl hc hp hm] at hz; cases hz
     · rw [dl_more _ _ _ _ hl hc hp hm] at hz ⊢
      rw [dl_more _ _ _ _ hlt hc' hp hm]
      obtain ⟨h3, h4⟩ := dl_whole most f f' f2 b t _ _ (by omega) (by rw [List.length_append]; omega) h2 hz
      exact ⟨h3, by rw [h4]; omega⟩
    · rw [dl_bad _ _ _ _ hl hc hp] at hz
     exact absurd hz hp
theorem dl_ahead (most : Nat) (pre : List Rc) (k : Nat) (hpre : pre.length ≤ most) : ∀ (f : Nat) (t : List UInt8) (acc : List Rc) (n : Nat),
  dl most f t (pre ++ acc) (k + n) = (pre ++ (dl (most - pre.length) f t acc n).1, k + (dl (most - pre.length) f t acc n).2.1, (dl (most - pre.length) f t acc n).2.2)
 | 0, _, _, _ => rfl
 | f + 1, t, acc, n => by
  by_cases hl : t = []
  · subst hl; rw [dl_nil, dl_nil]
  · rcases hc : Lib.cut t [10] with ⟨a, b, g⟩
   cases g with
   | false => rw [dl_torn _ _ _ _ hl hc, dl_torn _ _ _ _ hl hc]
   | true =>
    by_cases hp : (rcRead a).2 = 0
    · by_cases hm : most - pre.length ≤ acc.length
     · rw [dl_many _ _ _ _ hl hc hp hm, dl_many _ _ _ _ hl hc hp (by rw [List.length_append]; omega)]
     · rw [dl_more _ _ _ _ hl hc hp hm, dl_more _ _ _ _ hl hc hp (by rw [List.length_append]; omega)]
      have := dl_ahead most pre k hpre f b (acc ++ [(rcRead a).1]) (n + a.length + 1)
      rw [← this, List.append_assoc]
      congr 1
      omega
    · rw [dl_bad _ _ _ _ hl hc hp, dl_bad _ _ _ _ hl hc hp]
theorem lines_zero {s : List UInt8} (h : (linesOf s 160).2.2 = 0) : (linesOf s 160).2.1 = s.length := by
 have := (dl_whole 160 (s.length + 1) (s.length + 1) 1 s [] [] 0 (by omega) (by simp) (by simp) h).2
 unfold linesOf
 omega
theorem lines_both {s t : List UInt8} (h : (linesOf s 160).2.2 = 0) : (linesOf (s ++ t) 160).1 = (recovered s t).2 ∧ (s ++ t).take (linesOf (s ++ t) 160).2.1 = (recovered s t).1.1 ∧ (linesOf (s ++ t) 160).2.1 ≤ (s ++ t).length := by
 have h1 := (dl_whole 160 (s.length + 1) ((s ++ t).length + 1) (t.length + 1) s t [] 0 (by omega) (by omega) (by omega) h).1
 have hz := lines_zero h
 have hlen := (lines_len s 160).1
 have h2 := dl_ahead 160 (linesOf s 160).1 s.length hlen (t.length + 1) t [] 0
 have e : linesOf (s ++ t) 160 = ((linesOf s 160).1 ++ (linesOf t (160 - (linesOf s 160).1.length)).1, s.length + (linesOf t (160 - (linesOf s 160).1.length)).2.1, (linesOf t (160 - (linesOf s 160).1.length)).2.2) := by
  have hz' : (dl 160 (s.length + 1) s [] 0).2.1 = s.length := hz
  rw [hz'] at h1
  rw [List.append_nil, Nat.add_zero] at h2
  exact h1.trans h2
 refine ⟨by rw [e]; rfl, ?_, (lines_len (s ++ t) 160).2⟩
 rw [e]
 show (s ++ t).take (s.length + _) = s ++ t.take _
 rw [List.take_append]
 congr 1
 · rw [List.take_of_length_le (by omega)]
 · congr 1
  omega
def headIs (c : En) : List En → Bool
 | [] => false
 | x :: _ => !c.ne x
def withinB : List En → List En → Bool
 | [], _ => true
 | c :: r, a => (c.isB || headIs c a) && withinB r a.tail
theorem withinB_iff : ∀ (u a : List En), withinB u a = true ↔ Within u a
 | [], a => ⟨fun _ k c h => by simp at h, fun _ => rfl⟩
 | c :: r, a => by
  rw [withinB, Bool.and_eq_true, withinB_iff r a.tail]
  constructor
  · rintro ⟨h1, h2⟩ k x hx
   cases k with
   | zero =>
    obtain rfl : c = x := by simpa using hx
    rcases Bool.or_eq_true_iff.1 h1 with h | h
    · exact Or.inl h
    · cases a with
     | nil => cases h
     | cons y t =>
      have : c.ne y = false := by simpa [headIs] using h
      exact Or.inr (by rw [ne_false.1 this]; rfl)
   | succ k =>
    have := h2 k x (by simpa using hx)
    rcases this with h | h
    · exact Or.inl h
    · right
     cases a with
     | nil => simp at h
     | cons y t => simpa using h
  · intro h
   refine ⟨?_, fun k x hx => ?_⟩
   · rcases h 0 c rfl with h | h
    · rw [h]; rfl
    · cases a with
     | nil => simp at h
     | cons y t =>
      obtain rfl : y = c := by simpa using h
      rw [headIs, ne_self]; simp
   · rcases h (k + 1) x (by simpa using hx) with h | h
    · exact Or.inl h
    · right
     cases a with
     | nil => simp at h
     | cons y t => simpa using h
theorem within_refl (u : List En) : Within u u := fun _ _ h => Or.inr h
theorem within_trans {u v x : List En} (h : Within u v) (h' : Within v x) : Within u x := fun k c hc => by
 rcases h k c hc with h1 | h1
 · exact Or.inl h1
 · exact h' k c h1
def eqEs : List En → List En → Bool
 | [], [] => true
 | x :: r, y :: s => !x.ne y && eqEs r s
 | _, _ => false
theorem eqEs_iff : ∀ (a b : List En), eqEs a b = true ↔ a = b
 | [], [] => ⟨fun _ => rfl, fun _ => rfl⟩
 | [], _ :: _ => ⟨fun h => (by cases h), fun h => (by cases h)⟩
 | _ :: _, [] => ⟨fun h => (by cases h), fun h => (by cases h)⟩
 | x :: r, y :: s => by
  rw [eqEs, Bool.and_eq_true, eqEs_iff r s]
  constructor
  · rintro ⟨h1, h2⟩
   have : x.ne y = false := by simpa using h1
   rw [ne_false.1 this, h2]
  · intro h
   injection h with h1 h2
   exact ⟨by rw [h1, ne_self]; rfl, h2⟩
def Un.same (a b : Un) : Bool := decide (a.p = b.p) && eqEs a.cells b.cells
theorem Un.same_iff {a b : Un} : a.same b = true ↔ a = b := by
 rw [Un.same, Bool.and_eq_true, eqEs_iff, decide_eq_true_eq]
 constructor
 · rintro ⟨h1, h2⟩
  cases a; cases b
  simp_all
 · rintro rfl
  exact ⟨rfl, rfl⟩
structure Nd where (u : Un) (s : List UInt8) (w : List UInt8) (up : Bool)
def Nd.zero : Nd := ⟨Un.zero, [], [], false⟩
def recov (s t : List UInt8) : Un × Int := if ckDisk s t ≠ 0 then (Un.zero, ckDisk s t) else unitOf (recovered s t).2
def Nd.ck (n : Nd) : Int :=
 if ckDisk n.s n.w ≠ 0 then ckDisk n.s n.w else if n.up = true ∧ 0 < n.w.length then 4 else if (recov n.s []).2 ≠ 0 then (recov n.s []).2
 else if n.u.same (recov n.s []).1 = false then 4 else (recov n.s n.w).2
def Nd.whole (n : Nd) : Un := (recov n.s n.w).1
def behindB : Option (List En) → List En → Bool
 | none, _ => true
 | some l, u => withinB u l
def ckNds : Option (List En) → List Nd → Int
 | _, [] => 0
 | a, n :: r => if n.ck ≠ 0 then n.ck else if behindB a n.whole.cells = false then 4 else ckNds (some n.u.cells) r
def plcN (ns : List Nd) (k a : Nat) : En := plc (ns.map Nd.u) k a
def Cl.lost (ns : List Nd) (c : Cl) : Bool := decide (c.d = 2) && (decide (0 < c.l) && (plcN ns (c.l.toNat - 1) c.a.toNat).ne c.e)
def ckCls (ns : List Nd) : List Cl → Int
 | [] => 0
 | c :: r => if c.ck ≠ 0 then c.ck else if c.lost ns = true then 4 else ckCls ns r
structure Wd where (ns : List Nd) (tip : Int) (cs : List Cl) (t : Int)
def Wd.zero : Wd := ⟨[], 0, [], 0⟩
def Wd.ck (w : Wd) : Int :=
 if ¬ (w.ns.length = 3 ∧ w.cs.length = 3) then 4 else if ¬ ((0 ≤ w.tip ∧ w.tip ≤ 60) ∧ (0 ≤ w.t ∧ w.t ≤ 100000)) then 3
 else if ckNds none w.ns ≠ 0 then ckNds none w.ns else ckCls w.ns w.cs
def cnew : Cl := ⟨1, 0, En.zero, 0, 0, 0, [], []⟩
def nnew : Nd := ⟨unew, [], [], true⟩
def wnew : Wd := ⟨[nnew, nnew, nnew], 0, [cnew, cnew, cnew], 0⟩
structure Hp where (k : Int) (c : Int) (n : Int) (j : Int) (p : Int) (e : En)
def Nd.write (n : Nd) (r : Rc) : Nd × Int :=
 if (unext n.u r).2 ≠ 0 then (n, (unext n.u r).2) else if (dput n.s n.w r).2 ≠ 0 then (n, (dput n.s n.w r).2)
 else if (dsync (dput n.s n.w r).1.1 (dput n.s n.w r).1.2).2 ≠ 0 then (n, (dsync (dput n.s n.w r).1.1 (dput n.s n.w r).1.2).2)
 else (⟨(unext n.u r).1, (dsync (dput n.s n.w r).1.1 (dput n.s n.w r).1.2).1.1, (dsync (dput n.s n.w r).1.1 (dput n.s n.w r).1.2).1.2, n.up⟩, 0)
def Nd.writeAny (n : Nd) (r : Rc) : Nd × Int := if r.k = 0 then (n, 0) else n.write r
def Nd.boot (n : Nd) : Nd × Int :=
 if n.up = true then (n, 7) else if (recov n.s n.w).2 ≠ 0 then (n, (recov n.s n.w).2) else (⟨(recov n.s n.w).1, (recovered n.s n.w).1.1, [], true⟩, 0)
def keptOf (k : Int) (n : Nat) : Nat := min (max k 0).toNat n
def Nd.tear (n : Nd) (r : Rc) (k : Int) : Nd × Int :=
 if r.k = 0 then (n, 6) else if (dput n.s n.w r).2 ≠ 0 then (n, (dput n.s n.w r).2)
 else (⟨n.u, (dput n.s n.w r).1.1, (dput n.s n.w r).1.2.take (keptOf k (dput n.s n.w r).1.2.length), false⟩, 0)
def Wd.us (w : Wd) : List Un := w.ns.map Nd.u
def Wd.nd (w : Wd) (k : Int) : Nd := w.ns.getD k.toNat Nd.zero
def Wd.cl (w : Wd) (k : Int) : Cl := w.cs.getD k.toNat Cl.zero
def Wd.putN (w : Wd) (k : Int) (n : Nd) : Wd := ⟨w.ns.set k.toNat n, w.tip, w.cs, w.t⟩
def Wd.putC (w : Wd) (k : Int) (c : Cl) : Wd := ⟨w.ns, w.tip, w.cs.set k.toNat c, w.t⟩
def Wd.onN (w : Wd) (k : Int) (r : Nd × Int) : Wd × Int := if r.2 ≠ 0 then (w, r.2) else (w.putN k r.1, 0)
def Wd.onC (w : Wd) (k : Int) (r : Cl × Int) : Wd × Int := if r.2 ≠ 0 then (w, r.2) else (w.putC k r.1, 0)
def readIn (us : List Un) (a : Int) : En × Int :=
 if ¬ (0 ≤ a ∧ a ≤ 59) then (En.zero, 5) else if (plc us 2 a.toNat).isB = true then (En.zero, 7) else (plc us 2 a.toNat, 0)
def linkIn (us : List Un) (k a : Int) (x : En) (ep : Int) : Rc × En × Int :=
 if ¬ (0 ≤ k ∧ k ≤ 2) ∨ ¬ (0 ≤ a ∧ a ≤ 59) then (Rc.zero, En.zero, 5)
 else if x.chk ≠ 0 then (Rc.zero, En.zero, x.chk)
 else if (us.getD k.toNat Un.zero).p ≠ ep then (Rc.zero, En.zero, 8)
 else if 1 ≤ k ∧ x.ne (plc us (k.toNat - 1) a.toNat) = true then (Rc.zero, En.zero, 7)
 else if (plc us k.toNat a.toNat).isB = false then (Rc.zero, plc us k.toNat a.toNat, 0)
 else (⟨1, a, 0, x⟩, x, 0)
theorem readOf_in {us : List Un} (h : ckChain us = 0) (a : Int) : readOf us a = readIn us a := by
 rw [readOf, if_neg (by simpa using h)]; rfl
theorem linkOf_in {us : List Un} (h : ckChain us = 0) (k a : Int) (x : En) (ep : Int) : linkOf us k a x ep = linkIn us k a x ep := by
 rw [linkOf, if_neg (by simpa using h), linkIn]
 congr 4
 rw [← ne_false (x := x)]
 cases x.ne (plc us (k.toNat - 1) a.toNat) <;> simp
def tipOf (w : Wd) (n : Int) : Wd × Int := if ¬ (0 ≤ n ∧ n ≤ 60) then (w, 3) else (⟨w.ns, n, w.cs, w.t⟩, 0)
def tickOf (w : Wd) (n : Int) : Wd × Int := if ¬ (1 ≤ n ∧ n ≤ 100000 - w.t) then (w, 3) else (⟨w.ns, w.tip, w.cs, w.t + n⟩, 0)
def learnAt (w : Wd) (c p : Int) : Wd × Int := if ¬ (0 ≤ c ∧ c ≤ 2) then (w, 5) else w.onC c (learnOf (w.cl c) p)
def atNode (w : Wd) (x : Hp) : Wd × Int :=
 if ¬ (0 ≤ x.n ∧ x.n ≤ 2) then (w, 5) else if x.k = 13 then w.onN x.n (w.nd x.n).boot else if (w.nd x.n).up = false then (w, 7)
 else if x.k = 8 then w.onN x.n ((w.nd x.n).write ⟨2, 0, x.p, En.zero⟩) else if x.k = 9 then learnAt w x.c (w.nd x.n).u.p
 else (w.putN x.n ⟨(w.nd x.n).u, (w.nd x.n).s, (w.nd x.n).w, false⟩, 0)
def playAt (w : Wd) (c : Cl) : Cl × Int :=
 if c.n = 60 then (Cl.zero, 2) else if (w.nd 2).up = false then (Cl.zero, 7) else if (readIn w.us c.n).2 ≠ 0 then (Cl.zero, (readIn w.us c.n).2) else playOf c (readIn w.us c.n).1
def doesAt (w : Wd) (c : Cl) (x : Hp) : Cl × Int :=
 if x.k = 1 then (if x.e.k = 3 then (Cl.zero, 4) else wantOf c x.e) else if x.k = 2 then ringOf c x.c x.j w.t
 else if x.k = 3 then (if w.tip = 60 then (Cl.zero, 2) else placeOf 1 c w.tip) else if x.k = 6 then placeOf 0 c x.n else if x.k = 7 then playAt w c
 else (cnew, 0)
def atClient (w : Wd) (x : Hp) : Wd × Int :=
 if ¬ (0 ≤ x.c ∧ x.c ≤ 2) then (w, 5) else if (doesAt w (w.cl x.c) x).2 ≠ 0 then (w, (doesAt w (w.cl x.c) x).2)
 else (⟨w.ns, if x.k = 3 then w.tip + 1 else w.tip, w.cs.set x.c.toNat (doesAt w (w.cl x.c) x).1, w.t⟩, 0)
def hearAt (w : Wd) (who : Int) (c : Cl) (n : Nd) (r : Rc) (s : En) : Wd × Int :=
 if (n.writeAny r).2 ≠ 0 then (w, (n.writeAny r).2) else if (hearOf c s).2 ≠ 0 then (w, (hearOf c s).2) else ((w.putN c.l (n.writeAny r).1).putC who (hearOf c s).1, 0)
def goAt (w : Wd) (x : Hp) (c : Cl) (n : Nd) (L : Rc × En × Int) : Wd × Int :=
 if L.2.2 ≠ 0 then (w, L.2.2) else if x.k = 15 then w.onN c.l (n.tear L.1 x.n) else if x.k = 5 then w.onN c.l (n.writeAny L.1) else hearAt w x.c c n L.1 L.2.1
def atLink (w : Wd) (x : Hp) : Wd × Int :=
 if ¬ (0 ≤ x.c ∧ x.c ≤ 2) then (w, 5) else if (w.cl x.c).d ≠ 2 ∨ (w.nd (w.cl x.c).l).up = false then (w, 7)
 else goAt w x (w.cl x.c) (w.nd (w.cl x.c).l) (linkIn w.us (w.cl x.c).l (w.cl x.c).a (w.cl x.c).e (w.cl x.c).p)
def happened (w : Wd) (x : Hp) : Wd × Int :=
 if x.k = 10 then tipOf w x.n else if x.k = 11 then tickOf w x.n else if x.k = 8 ∨ x.k = 9 ∨ x.k = 12 ∨ x.k = 13 then atNode w x
 else if x.k = 4 ∨ x.k = 5 ∨ x.k = 15 then atLink w x else if x.k = 1 ∨ x.k = 2 ∨ x.k = 3 ∨ x.k = 6 ∨ x.k = 7 ∨ x.k = 14 then atClient w x else (w, 4)
def doOf (w : Wd) (x : Hp) : Wd × Int := if w.ck ≠ 0 then (Wd.zero, w.ck) else if (happened w x).2 ≠ 0 then (Wd.zero, (happened w x).2) else happened w x
def runL : Wd → List Hp → Wd × List Int
 | w, [] => (w, [])
 | w, x :: r => ((runL (happened w x).1 r).1, (happened w x).2 :: (runL (happened w x).1 r).2)
def runOf (w : Wd) (l : List Hp) : Wd × List Int × Int := if w.ck ≠ 0 then (Wd.zero, [], w.ck) else if 150 < l.length then (Wd.zero, [], 2) else ((runL w l).1, (runL w l).2, 0)
abbrev BkT (w : World) (v1 v2 : Value) (c : Cl) : Prop := BkAt w v1 v2 c ∧ (Typed 120 w v1 ∧ Typed 76 w v2)
theorem bkT_later {w w' : World} {v1 v2 : Value} {c : Cl} (h : BkT w v1 v2 c) (hb : Below w.heap.size w w') : BkT w' v1 v2 c := ⟨bkAt_later h.1 hb, h.2.1.later hb, h.2.2.later hb⟩
theorem bkT_nil (w : World) {c : Cl} (h : c.js = []) (h' : c.rs = []) : BkT w nil0 nil0 c := ⟨⟨by rw [h]; exact SlOf.nil _ _, by rw [h']; exact SlOf.nil _ _⟩, Typed.nil, Typed.nil⟩
theorem bkT_cong {w : World} {v1 v2 : Value} {c x : Cl} (h : BkT w v1 v2 c) (hj : x.js = c.js) (hr : x.rs = c.rs) : BkT w v1 v2 x := ⟨⟨by rw [hj]; exact h.1.1, by rw [hr]; exact h.1.2⟩, h.2⟩
abbrev boxZ : Obj := .cells #[.int .i64 0, .int .i64 0, .int .i64 0, .int .i64 0, .int .i64 0, .int .i64 0, .int .i64 0, .int .i64 0, .int .i64 0, .int .i64 0, .slice none 0 0, .slice none 0 0] 41
def IsC (w : World) (b : Nat) : Prop := ∃ cur, w.heap[b]? = some (.cells cur 41)
theorem isC_of {w : World} {b : Nat} {c : Cl} {v1 v2 : Value} (h : w.heap[b]? = some (boxC c v1 v2)) : IsC w b := ⟨_, h⟩
theorem isC_set {w : World} {b : Nat} (h : IsC w b) (i : Nat) (u : Value) : IsC (w.setCell ⟨b, i, none⟩ u) b := by
 obtain ⟨cur, h⟩ := h
 exact ⟨_, Joins.block_setCell h u⟩
theorem bkT_set {w : World} {b : Nat} {v1 v2 : Value} {c : Cl} (hb : IsC w b) (h : BkT w v1 v2 c) (i : Nat) (u : Value) : BkT (w.setCell ⟨b, i, none⟩ u) v1 v2 c := by
 obtain ⟨cur, hb⟩ := hb
 exact ⟨⟨h.1.1.other h.2.1 hb (by decide) i u, h.1.2.other h.2.2 hb (by decide) i u⟩, h.2.1.setCell _ _ _, h.2.2.setCell _ _ _⟩
theorem bkT_both {w : World} {b : Nat} {v1 v2 : Value} {c : Cl} (h : IsC w b ∧ BkT w v1 v2 c) (i : Nat) (u : Value) : IsC (w.setCell ⟨b, i, none⟩ u) b ∧ BkT (w.setCell ⟨b, i, none⟩ u) v1 v2 c := ⟨isC_set h.1 i u, bkT_set h.1 h.2 i u⟩
theorem bkT_st12 {w : World} {b : Nat} {v1 v2 : Value} {c : Cl} (hb : IsC w b) (h : BkT w v1 v2 c) (x : Cl) (u1 u2 : Value) : BkT (st12 w b x u1 u2) v1 v2 c := by
 have h0 : IsC w b ∧ BkT w v1 v2 c := ⟨hb, h⟩
 have h1 := bkT_both h0 0 (.int .i64 x.p)
 have h2 := bkT_both h1 1 (.int .i64 x.d)
 have h3 := bkT_both h2 2 (.int .i64 x.e.k)
 have h4 := bkT_both h3 3 (.int .i64 x.e.j)
 have h5 := bkT_both h4 4 (.int .i64 x.e.v)
 have h6 := bkT_both h5 5 (.int .i64 x.e.t)
 have h7 := bkT_both h6 6 (.int .i64 x.e.c)
 have h8 := bkT_both h7 7 (.int .i64 x.a)
 have h9 := bkT_both h8 8 (.int .i64 x.l)
 have h10 := bkT_both h9 9 (.int .i64 x.n)
 have h11 := bkT_both h10 10 (u1)
 have h12 := bkT_both h11 11 (u2)
 exact h12.2
abbrev AnsT (f : FuncId) (args : Array Value) (w : World) (r : Cl × Int) : Prop :=
 Calls Tryz.prog f args w fun e w' => ∃ u1 u2, e = .returned (.tuple #[r.1.val u1 u2, .int .i64 r.2]) ∧ BkT w' u1 u2 r.1 ∧ Below w.heap.size w w'
theorem ansT_zero {f : FuncId} {args : Array Value} {w : World} {n : Int} (h : AnsX f args w (Cl.zero, n) nil0 nil0) : AnsT f args w (Cl.zero, n) :=
 h.mono fun _ _ ⟨he, hB⟩ => ⟨nil0, nil0, he, bkT_nil _ rfl rfl, hB⟩
theorem ret1_client {fn : Func} {R : Ending → World → Prop} {a : Act} {W : World} {b p : Nat} {c : Cl} {v1 v2 : Value} (hf : fn.results = #[.cell p 41]) (hd : a.defers = [])
  (h2 : a.tmps.getD p undef = .pointer (some ⟨b, 0, none⟩)) (hR : W.heap[b]? = some (boxC c v1 v2)) (hp : R (.returned (c.val v1 v2)) W) :
  bodyPost Tryz.prog fn R .ret a W := by
 have c0 := fun i => Joins.cell_of_block hR i
 refine bodyPost_ret (v := c.val v1 v2) ?_ hd hp
 simp only [results, hf]
 simp at h2
 simp [go_sem, c0, h2]
theorem ret1_st {fn : Func} {R : Ending → World → Prop} {a : Act} {W : World} {p : Nat} (W0 : World) (b : Nat) (c : Cl) (v1 v2 : Value) {o : Cl} {u1 u2 : Value} (hf : fn.results = #[.cell p 41]) (hd : a.defers = [])
  (h2 : a.tmps.getD p undef = .pointer (some ⟨b, 0, none⟩)) (hR : W0.heap[b]? = some (boxC o u1 u2)) (hW : W = st12 W0 b c v1 v2) (hp : R (.returned (c.val v1 v2)) (st12 W0 b c v1 v2)) :
  bodyPost Tryz.prog fn R .ret a W := by
 rw [hW]
 exact ret1_client hf hd h2 (st12_box hR c v1 v2) hp
section
variable {P : Program}
theorem copy_cells (w : World) (dT sT ty elem : TypeId) (g o dLen dCap : Nat) (a : Addr) (sLen sCap : Nat) (cur : List Value) (t : TypeId) (k : Nat) (cs : List Value)
  (hu : P.underlying dT = some (.slice elem)) (hs : (P.info? elem).map (·.size) = some k)
  (hg : w.heap[g]? = some (.cells cur.toArray t (0, 0))) (hn : cs.length = Nat.min sLen dLen * k)
  (hsrc : ∀ j v, cs[j]? = some v → w.cell? (a.add j) = some v) (hfit : o + cs.length ≤ cur.length) (h1 : ∀ v ∈ cs, v.oneCell' = true) :
  (Builtin.copy_ #[dT, sT] ty #[.slice (some ⟨g, o, none⟩) dLen dCap, .slice (some a) sLen sCap]).run P w =
   .ok (goInt (Nat.min sLen dLen)) (w.setRow g (splice cur o cs).toArray) := by
 have hl := run_firstCells_some (P := P) w k (Nat.min sLen dLen) a sLen sCap cs hn hsrc
 have hst := run_storeCells_at P g o t cs 0 cur.toArray w hg (by simpa using hfit) h1
 cases hq : P.info? elem with
 | none => simp [hq] at hs
 | some i =>
  have hi : i.size = k := by simpa [hq] using hs
  simp only [Nat.add_zero] at hst
  simp [Builtin.copy_, run_underlying hu, Builtin.lenOf, sizeOf, typeInfo, hq, hi, hl, hst, splice]
theorem copy_nothing (w : World) (dT sT ty elem : TypeId) (d a : Option Addr) (dLen dCap sLen sCap k : Nat) (hu : P.underlying dT = some (.slice elem)) (hs : (P.info? elem).map (·.size) = some k) (hn : Nat.min sLen dLen = 0) :
  (Builtin.copy_ #[dT, sT] ty #[.slice d dLen dCap, .slice a sLen sCap]).run P w = .ok (goInt 0) w := by
 cases hq : P.info? elem with
 | none => simp [hq] at hs
 | some i =>
  have hf : (Builtin.firstCells i.size 0 (.slice a sLen sCap)).run P w = .ok #[] w := by
   cases a with
   | none => exact run_firstCells_none w i.size 0 sLen sCap
   | some a => exact run_firstCells_some w i.size 0 a sLen sCap [] (by simp) (fun j v h => by simp at h)
  cases d <;> simp [Builtin.copy_, run_underlying hu, Builtin.lenOf, sizeOf, typeInfo, hq, hn, hf, storeCells]
theorem wpList_copyK {w : World} {ops : Array Oper} {rest : List Oper} {o : Oper} {a : Act} {Q : Exit → Act → World → Prop} (hgd : o.guard = none) (d s : Operand) (dT sT : TypeId)
  (ho : o.op = .call { callee := .builtin .copy, args := #[d, s], argTypes := #[dT, sT] }) (elem : TypeId) (k : Nat) (hu : P.underlying dT = some (.slice elem)) (hsz : (P.info? elem).map (·.size) = some k)
  (dp sp : Option Addr) (dLen dCap sLen sCap : Nat) (hd : a.eval d = .slice dp dLen dCap) (hs : a.eval s = .slice sp sLen sCap)
  (g off : Nat) (cur : List Value) (t : TypeId) (hg : w.heap[g]? = some (.cells cur.toArray t (0, 0))) (cs : List Value) (hn : cs.length = Nat.min sLen dLen * k)
  (hpos : 0 < Nat.min sLen dLen → dp = some ⟨g, off, none⟩ ∧ ∃ ad, sp = some ad ∧ ∀ j v, cs[j]? = some v → w.cell? (ad.add j) = some v)
  (hfit : off + cs.length ≤ cur.length) (h1 : ∀ v ∈ cs, v.oneCell' = true) (B : Nat) (w0 : World) (hb : Below B w0 w) (hBg : B ≤ g)
  (h : ∀ w', Hid (w'.heap[g]? = some (.cells (splice cur off cs).toArray t (0, 0))) → Below B w0 w' → wpList P ops Q rest (a.put o.dst (goInt (Nat.min sLen dLen))) w') :
  wpList P ops Q (o :: rest) a w := by
 refine wpList_plain hgd fun K hK => ?_
 by_cases h0 : Nat.min sLen dLen = 0
 · obtain rfl : cs = [] := List.eq_nil_of_length_eq_zero (by rw [hn, h0, Nat.zero_mul])
  have hrun := copy_nothing (P := P) w dT sT o.type elem dp sp dLen dCap sLen sCap k hu hsz h0
  unfold Oper.wp
  simp [execOp, ho, resolve, invoke, builtin, hd, hs, hrun, Result.andThen]
  rw [h0] at h
  exact hK _ _ (h w (show _ = _ by simpa [splice] using hg) hb)
 · obtain ⟨rfl, ad, rfl, hsrc⟩ := hpos (by omega)
  have hrun := copy_cells (P := P) w dT sT o.type elem g off dLen dCap ad sLen sCap cur t k cs hu hsz hg hn hsrc hfit h1
  unfold Oper.wp
  simp [execOp, ho, resolve, invoke, builtin, hd, hs, hrun, Result.andThen]
  exact hK _ _ (h _ (show _ = _ from setRow_heap w g _ _ t _ hg) (below_setRow hb hBg _))
theorem step_copyK {ops : Array Oper} {o : Oper} {a : Act} {w : World} {K : Act → World → Prop} {Q : Exit → Act → World → Prop} {E : Prop} (hgd : o.guard = none) (d s : Operand) (dT sT : TypeId)
  (ho : o.op = .call { callee := .builtin .copy, args := #[d, s], argTypes := #[dT, sT] }) (elem : TypeId) (k : Nat) (hu : P.underlying dT = some (.slice elem)) (hsz : (P.info? elem).map (·.size) = some k)
  (dp sp : Option Addr) (dLen dCap sLen sCap : Nat) (hd : a.eval d = .slice dp dLen dCap) (hs : a.eval s = .slice sp sLen sCap)
  (g off : Nat) (cur : List Value) (t : TypeId) (hg : w.heap[g]? = some (.cells cur.toArray t (0, 0))) (cs : List Value) (hn : cs.length = Nat.min sLen dLen * k)
  (hpos : 0 < Nat.min sLen dLen → dp = some ⟨g, off, none⟩ ∧ ∃ ad, sp = some ad ∧ ∀ j v, cs[j]? = some v → w.cell? (ad.add j) = some v)
  (hfit : off + cs.length ≤ cur.length) (h1 : ∀ v ∈ cs, v.oneCell' = true) (B : Nat) (w0 : World) (hb : Below B w0 w) (hBg : B ≤ g)
  (h : ∀ w', Hid (w'.heap[g]? = some (.cells (splice cur off cs).toArray t (0, 0))) → Below B w0 w' → K (a.put o.dst (goInt (Nat.min sLen dLen))) w') :
  if Region.wanted o (yielded ops a.tmps) = true then Oper.wp P o a w K Q else E := by
 have hw : Region.wanted o (yielded ops a.tmps) = true := by simp [Region.wanted, hgd]
 rw [if_pos hw]
 by_cases h0 : Nat.min sLen dLen = 0
 · obtain rfl : cs = [] := List.eq_nil_of_length_eq_zero (by rw [hn, h0, Nat.zero_mul])
  have hrun := copy_nothing (P := P) w dT sT o.type elem dp sp dLen dCap sLen sCap k hu hsz h0
  unfold Oper.wp
  simp [execOp, ho, resolve, invoke, builtin, hd, hs, hrun, Result.andThen]
  rw [h0] at h
  exact h w (show _ = _ by simpa [splice] using hg) hb
 · obtain ⟨rfl, ad, rfl, hsrc⟩ := hpos (by omega)
  have hrun := copy_cells (P := P) w dT sT o.type elem g off dLen dCap ad sLen sCap cur t k cs hu hsz hg hn hsrc hfit h1
  unfold Oper.wp
  simp [execOp, ho, resolve, invoke, builtin, hd, hs, hrun, Result.andThen]
  exact h _ (show _ = _ from setRow_heap w g _ _ t _ hg) (below_setRow hb hBg _)
end
theorem splice_all {α : Type} {L cs : List α} (h : L.length = cs.length) : splice L 0 cs = cs := by
 simp [splice, ← h]
theorem sizeE : (Tryz.prog.info? 27).map (·.size) = some 5 := by kernel_rfl
end Go.Proofs.YtmoaobfmopimlafGreatDoor
