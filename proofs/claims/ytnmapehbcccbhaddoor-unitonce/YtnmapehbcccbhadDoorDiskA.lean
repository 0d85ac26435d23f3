/- Disks: lines of records; what is wrong with a disk, what is put on it, synced, left, recovered; plain facts. -/
import Derived.Test.YtnmapehbcccbhadDoorNoteA
import Derived.Test.YtnmapehbcccbhadDoorRefN
namespace Go.Proofs.YtnmapehbcccbhadDoor
open Go.RowKit

/-- Records of a text, line by line, as far as they are whole (and no more than most): these, how many bytes they have, what is wrong with the next one. -/
def dl (most : Nat) : Nat → List UInt8 → List Rc → Nat → List Rc × Nat × Int
  | 0, _, acc, n => (acc, n, 0)
  | f + 1, l, acc, n => if l = [] then (acc, n, 0) else if (Lib.cut l [10]).2.2 = false then (acc, n, 9) else if (rcRead (Lib.cut l [10]).1).2 ≠ 0 then (acc, n, (rcRead (Lib.cut l [10]).1).2)
      else if most ≤ acc.length then (acc, n, 2) else dl most f (Lib.cut l [10]).2.1 (acc ++ [(rcRead (Lib.cut l [10]).1).1]) (n + (Lib.cut l [10]).1.length + 1)

def linesOf (l : List UInt8) (most : Nat) : List Rc × Nat × Int := dl most (l.length + 1) l [] 0

theorem dl_nil (most f : Nat) (acc : List Rc) (n : Nat) : dl most (f + 1) [] acc n = (acc, n, 0) := by rw [dl, if_pos rfl]
theorem dl_torn (most f : Nat) (acc : List Rc) (n : Nat) {l a b : List UInt8} (hl : l ≠ []) (h : Lib.cut l [10] = (a, b, false)) : dl most (f + 1) l acc n = (acc, n, 9) := by rw [dl, if_neg hl, if_pos (by rw [h])]
theorem dl_bad (most f : Nat) (acc : List Rc) (n : Nat) {l a b : List UInt8} (hl : l ≠ []) (h : Lib.cut l [10] = (a, b, true)) (hp : (rcRead a).2 ≠ 0) : dl most (f + 1) l acc n = (acc, n, (rcRead a).2) := by
  rw [dl, if_neg hl, if_neg (by rw [h]; simp), h, if_pos hp]
theorem dl_many (most f : Nat) (acc : List Rc) (n : Nat) {l a b : List UInt8} (hl : l ≠ []) (h : Lib.cut l [10] = (a, b, true)) (hp : (rcRead a).2 = 0) (hm : most ≤ acc.length) : dl most (f + 1) l acc n = (acc, n, 2) := by
  rw [dl, if_neg hl, if_neg (by rw [h]; simp), h, if_neg (by simp [hp]), if_pos hm]
theorem dl_more (most f : Nat) (acc : List Rc) (n : Nat) {l a b : List UInt8} (hl : l ≠ []) (h : Lib.cut l [10] = (a, b, true)) (hp : (rcRead a).2 = 0) (hm : ¬ most ≤ acc.length) : dl most (f + 1) l acc n = dl most f b (acc ++ [(rcRead a).1]) (n + a.length + 1) := by
  rw [dl, if_neg hl, if_neg (by rw [h]; simp), h, if_neg (by simp [hp]), if_neg hm]

/-- Enough is enough. -/
theorem dl_fuel (most : Nat) : ∀ (f f' : Nat) (l : List UInt8) (acc : List Rc) (n : Nat), l.length < f → l.length < f' → dl most f l acc n = dl most f' l acc n
  | 0, _, _, _, _, h, _ => by omega
  | _, 0, _, _, _, _, h => by omega
  | f + 1, f' + 1, l, acc, n, h, h' => by
    by_cases hl : l = []
    · subst hl; rw [dl_nil, dl_nil]
    · rcases hc : Lib.cut l [10] with ⟨a, b, g⟩
      cases g with
      | false => rw [dl_torn _ _ _ _ hl hc, dl_torn _ _ _ _ hl hc]
      | true =>
        by_cases hp : (rcRead a).2 = 0
        · by_cases hm : most ≤ acc.length
          · rw [dl_many _ _ _ _ hl hc hp hm, dl_many _ _ _ _ hl hc hp hm]
          · rw [dl_more _ _ _ _ hl hc hp hm, dl_more _ _ _ _ hl hc hp hm]
            have hb := nl_back l a b hc
            have : b.length < l.length := by rw [hb]; simp; omega
            exact dl_fuel most f f' b _ _ (by omega) (by omega)
        · rw [dl_bad _ _ _ _ hl hc hp, dl_bad _ _ _ _ hl hc hp]

/-- What is read stands in front of the text; it is right, and no more than there is room. -/
theorem dl_spec (most : Nat) : ∀ (f : Nat) (l : List UInt8) (acc : List Rc) (n : Nat), acc.length ≤ most → (dl most f l acc n).1.length ≤ most ∧ n ≤ (dl most f l acc n).2.1 ∧ (dl most f l acc n).2.1 ≤ n + l.length
  | 0, l, acc, n, h => ⟨h, Nat.le_refl _, Nat.le_add_right _ _⟩
  | f + 1, l, acc, n, h => by
    by_cases hl : l = []
    · subst hl; rw [dl_nil]; exact ⟨h, Nat.le_refl _, Nat.le_add_right _ _⟩
    · rcases hc : Lib.cut l [10] with ⟨a, b, g⟩
      cases g with
      | false => rw [dl_torn _ _ _ _ hl hc]; exact ⟨h, Nat.le_refl _, Nat.le_add_right _ _⟩
      | true =>
        by_cases hp : (rcRead a).2 = 0
        · by_cases hm : most ≤ acc.length
          · rw [dl_many _ _ _ _ hl hc hp hm]; exact ⟨h, Nat.le_refl _, Nat.le_add_right _ _⟩
          · rw [dl_more _ _ _ _ hl hc hp hm]
            have hb := nl_back l a b hc
            have hbl : l.length = a.length + 1 + b.length := by rw [hb]; simp; omega
            obtain ⟨h1, h2, h3⟩ := dl_spec most f b (acc ++ [(rcRead a).1]) (n + a.length + 1) (by simp; omega)
            exact ⟨h1, by omega, by omega⟩
        · rw [dl_bad _ _ _ _ hl hc hp]; exact ⟨h, Nat.le_refl _, Nat.le_add_right _ _⟩

theorem lines_len (l : List UInt8) (most : Nat) : (linesOf l most).1.length ≤ most ∧ (linesOf l most).2.1 ≤ l.length := by
  obtain ⟨h1, _, h3⟩ := dl_spec most (l.length + 1) l [] 0 (Nat.zero_le _)
  exact ⟨h1, by unfold linesOf; omega⟩

/-- A disk: what is safe, what waits. -/
def ckDisk (s t : List UInt8) : Int := if 30000 < s.length ∨ 30000 - s.length < t.length then 2 else (linesOf s 160).2.2

theorem ckDisk_zero {s t : List UInt8} : ckDisk s t = 0 ↔ s.length + t.length ≤ 30000 ∧ (linesOf s 160).2.2 = 0 := by
  unfold ckDisk
  split
  · exact ⟨fun h => (by cases h), fun h => (by omega)⟩
  · exact ⟨fun h => ⟨by omega, h⟩, fun h => h.2⟩

abbrev Dk := List UInt8 × List UInt8

/-- Put on a right disk. -/
def putOn (s t : List UInt8) (c : Rc) : Dk × Int := if c.chk ≠ 0 then (([], []), c.chk) else if 30000 < s.length + t.length + c.txt.length + 1 then (([], []), 2) else ((s, t ++ (c.txt ++ [10])), 0)
/-- A right disk synced. -/
def synced (s t : List UInt8) : Dk × Int := if ckDisk (s ++ t) [] ≠ 0 then (([], []), ckDisk (s ++ t) []) else ((s ++ t, []), 0)
/-- What of a right disk's waiting goes behind what is safe; all records then. -/
def recovered (s t : List UInt8) : Dk × List Rc := ((s ++ t.take (linesOf t (160 - (linesOf s 160).1.length)).2.1, []), (linesOf s 160).1 ++ (linesOf t (160 - (linesOf s 160).1.length)).1)

def dput (s t : List UInt8) (c : Rc) : Dk × Int := if ckDisk s t ≠ 0 then (([], []), ckDisk s t) else putOn s t c
def dsync (s t : List UInt8) : Dk × Int := if ckDisk s t ≠ 0 then (([], []), ckDisk s t) else synced s t
def dcrash (s t : List UInt8) (n : Int) : Dk × Int := if ckDisk s t ≠ 0 then (([], []), ckDisk s t) else if n < 0 ∨ (t.length : Int) < n then (([], []), 3) else ((s, t.take n.toNat), 0)
def drecover (s t : List UInt8) : Dk × List Rc × Int := if ckDisk s t ≠ 0 then (([], []), [], ckDisk s t) else ((recovered s t).1, (recovered s t).2, 0)

/-- Records as lines. -/
def rtxt (rs : List Rc) : List UInt8 := rs.flatMap fun c => c.txt ++ [10]

theorem rtxt_cons (c : Rc) (r : List Rc) : rtxt (c :: r) = c.txt ++ 10 :: rtxt r := by simp [rtxt]
theorem rtxt_append (a b : List Rc) : rtxt (a ++ b) = rtxt a ++ rtxt b := by simp [rtxt]

theorem rc_no_nl {r : Rc} (h : r.chk = 0) : (10 : UInt8) ∉ r.txt := by
  unfold Rc.txt
  by_cases hk : r.k = 2
  · rw [if_pos hk]
    obtain ⟨hp, _⟩ := Rc.seal h hk
    intro hm
    rcases List.mem_append.1 hm with hm | hm
    · revert hm; decide
    · exact itoa_no_nl r.p (by omega) hm
  · rw [if_neg hk]
    obtain ⟨_, ha, _, he⟩ := Rc.write h hk
    intro hm
    rcases List.mem_append.1 hm with hm | hm
    · exact itoa_no_nl r.a (by omega) hm
    · rcases List.mem_append.1 hm with hm | hm
      · revert hm; decide
      · exact txt_no_nl he hm

theorem nl_cut {l : List UInt8} (h : (10 : UInt8) ∉ l) : ∃ b, Lib.cut l [10] = (l, b, false) := by
  rcases hc : Lib.cut l [10] with ⟨a, b, g⟩
  cases g with
  | false => obtain rfl := nl_whole l a b hc; exact ⟨b, rfl⟩
  | true =>
    have := nl_back l a b hc
    exact absurd (by rw [this]; simp) h

theorem dl_one (most f : Nat) (acc : List Rc) (n : Nat) {c : Rc} (h : c.chk = 0) (rest : List UInt8) (hm : acc.length < most) : dl most (f + 1) (c.txt ++ 10 :: rest) acc n = dl most f rest (acc ++ [c]) (n + c.txt.length + 1) := by
  have hr := read_txt h
  rw [dl_more most f acc n (by simp) (cut_nl c.txt rest (rc_no_nl h)) (by rw [hr]) (by omega), hr]

/-- Whole lines of right records are read. -/
theorem dl_lines (most : Nat) : ∀ (rs : List Rc) (f f' : Nat) (acc : List Rc) (n : Nat) (rest : List UInt8), (∀ c, c ∈ rs → c.chk = 0) → acc.length + rs.length ≤ most → (rtxt rs ++ rest).length < f → rest.length < f' →
    dl most f (rtxt rs ++ rest) acc n = dl most f' rest (acc ++ rs) (n + (rtxt rs).length)
  | [], f, f', acc, n, rest, _, _, h1, h2 => by
    simp only [rtxt, List.flatMap_nil, List.nil_append, List.append_nil, List.length_nil, Nat.add_zero] at h1 ⊢
    exact dl_fuel most f f' rest acc n h1 h2
  | c :: r, 0, _, _, _, _, _, _, h1, _ => by omega
  | c :: r, f + 1, f', acc, n, rest, hr, hl, h1, h2 => by
    rw [List.length_cons] at hl
    rw [rtxt_cons, List.append_assoc, List.cons_append] at h1 ⊢
    rw [dl_one most f acc n (hr c (by simp)) _ (by omega)]
    simp only [List.length_append, List.length_cons] at h1
    rw [dl_lines most r f f' (acc ++ [c]) _ rest (fun d hd => hr d (List.mem_cons_of_mem _ hd)) (by simp; omega) (by simp; omega) h2]
    rw [List.append_assoc, List.length_append, List.length_cons]
    congr 1
    omega

theorem lines_all {rs : List Rc} (h : ∀ c, c ∈ rs → c.chk = 0) {most : Nat} (hm : rs.length ≤ most) : linesOf (rtxt rs) most = (rs, (rtxt rs).length, 0) := by
  have := dl_lines most rs ((rtxt rs).length + 1) 1 [] 0 [] h (by simpa using hm) (by simp) (by simp)
  rw [List.append_nil] at this
  unfold linesOf
  rw [this, dl_nil]
  simp

/-- Of torn lines the beginning is read. -/
theorem dl_torn_lines (most : Nat) : ∀ (rs : List Rc) (k f : Nat) (acc : List Rc) (n : Nat), (∀ c, c ∈ rs → c.chk = 0) → acc.length + rs.length ≤ most → ((rtxt rs).take k).length < f →
    ∃ j e, j ≤ rs.length ∧ dl most f ((rtxt rs).take k) acc n = (acc ++ rs.take j, n + (rtxt (rs.take j)).length, e) ∧ (rtxt (rs.take j)).length ≤ k
  | [], k, 0, acc, n, _, _, h => by omega
  | [], k, f + 1, acc, n, _, _, _ => ⟨0, 0, Nat.le_refl _, by simp [rtxt, dl_nil], by simp [rtxt]⟩
  | c :: r, k, 0, acc, n, _, _, h => by omega
  | c :: r, k, f + 1, acc, n, hr, hl, h => by
    have hc := hr c (by simp)
    rw [List.length_cons] at hl
    by_cases hk : k ≤ c.txt.length
    · refine ⟨0, ?_⟩
      have e : (rtxt (c :: r)).take k = c.txt.take k := by
        rw [rtxt_cons, List.take_append_of_le_length hk]
      rw [e]
      by_cases hn : c.txt.take k = []
      · exact ⟨0, Nat.zero_le _, by rw [hn, dl_nil]; simp [rtxt], by simp [rtxt]⟩
      · obtain ⟨b, hb⟩ := nl_cut (l := c.txt.take k) (fun hm => rc_no_nl hc (List.mem_of_mem_take hm))
        exact ⟨9, Nat.zero_le _, by rw [dl_torn _ _ _ _ hn hb]; simp [rtxt], by simp [rtxt]⟩
    · have e : (rtxt (c :: r)).take k = c.txt ++ 10 :: (rtxt r).take (k - c.txt.length - 1) := by
        rw [rtxt_cons, List.take_append, List.take_of_length_le (by omega)]
        congr 1
        rw [show k - c.txt.length = (k - c.txt.length - 1) + 1 by omega, List.take_succ_cons]
        simp
      rw [e] at h ⊢
      rw [dl_one most f acc n hc _ (by omega)]
      simp only [List.length_append, List.length_cons] at h
      obtain ⟨j, e', hj, he, hjk⟩ := dl_torn_lines most r (k - c.txt.length - 1) f (acc ++ [c]) (n + c.txt.length + 1) (fun d hd => hr d (List.mem_cons_of_mem _ hd)) (by simp; omega) (by omega)
      refine ⟨j + 1, e', by simp; omega, ?_, ?_⟩
      · rw [he, List.take_succ_cons, rtxt_cons]
        simp only [List.append_assoc, List.cons_append, List.nil_append, List.length_append, List.length_cons]
        congr 2
        omega
      · rw [List.take_succ_cons, rtxt_cons, List.length_append, List.length_cons]
        omega

theorem lines_torn {rs : List Rc} (h : ∀ c, c ∈ rs → c.chk = 0) {most : Nat} (hm : rs.length ≤ most) (k : Nat) : ∃ j e, j ≤ rs.length ∧ linesOf ((rtxt rs).take k) most = (rs.take j, (rtxt (rs.take j)).length, e) ∧ (rtxt (rs.take j)).length ≤ k := by
  obtain ⟨j, e, hj, he, hk⟩ := dl_torn_lines most rs k (((rtxt rs).take k).length + 1) [] 0 h (by simpa using hm) (Nat.lt_succ_self _)
  exact ⟨j, e, hj, by unfold linesOf; rw [he]; simp, hk⟩

theorem rtxt_take (rs : List Rc) (j : Nat) : (rtxt rs).take (rtxt (rs.take j)).length = rtxt (rs.take j) := by
  have e : rtxt rs = rtxt (rs.take j) ++ rtxt (rs.drop j) := by rw [← rtxt_append, List.take_append_drop]
  rw [e, List.take_left']
  rfl

end Go.Proofs.YtnmapehbcccbhadDoor
