/- Records: what is wrong with one, its text, what is read of a text; plain facts. -/
import Derived.Test.YtnmapehbcccbhadDoorEntryL
import Derived.Test.YtnmapehbcccbhadDoorRecA
namespace Go.Proofs.YtnmapehbcccbhadDoor
open Go.RowKit

def sealL : List UInt8 := [115, 101, 97, 108, 32]

/-- Its text. -/
def Rc.txt (r : Rc) : List UInt8 := if r.k = 2 then sealL ++ Lib.itoa r.p else Lib.itoa r.a ++ ([58, 32] ++ r.e.txt)

/-- What Print answers. -/
def Rc.ptx (r : Rc) : List UInt8 := if r.chk = 0 then r.txt else []

def Rc.fin (r : Rc) : Rc × Int := if r.chk = 0 then (r, 0) else (Rc.zero, r.chk)

/-- What is read of a text of few enough bytes. -/
def rcRead (l : List UInt8) : Rc × Int :=
  if sealL.isPrefixOf l = true then (match numOf (l.drop 5) with | none => (Rc.zero, 1) | some p => (⟨2, 0, p, En.zero⟩ : Rc).fin)
  else if (Lib.cut l [58, 32]).2.2 = false then (Rc.zero, 1)
  else match numOf (Lib.cut l [58, 32]).1 with
    | none => (Rc.zero, 1)
    | some a => if ¬ (prs (Lib.cut l [58, 32]).2.1).2 = 0 then (Rc.zero, (prs (Lib.cut l [58, 32]).2.1).2) else (⟨1, a, 0, (prs (Lib.cut l [58, 32]).2.1).1⟩ : Rc).fin

/-- What Parse answers. -/
def rcPrs (l : List UInt8) : Rc × Int := if 30000 < l.length then (Rc.zero, 2) else rcRead l

theorem itoa_digits (x : Int) (h0 : 0 ≤ x) : ∀ c, c ∈ Lib.itoa x → 48 ≤ c.toNat ∧ c.toNat ≤ 57 := by
  intro c hc
  have e : Lib.itoa x = Lib.decDigits x.toNat := by
    unfold Lib.itoa
    rw [if_neg (by omega)]
  rw [e] at hc
  exact dec_mem _ c hc

theorem itoa_ne (x : Int) (h0 : 0 ≤ x) : Lib.itoa x ≠ [] := by
  have e : Lib.itoa x = Lib.decDigits x.toNat := by
    unfold Lib.itoa
    rw [if_neg (by omega)]
  rw [e]
  exact dec_ne _

theorem occAt_colon (a b : List UInt8) : Lib.occAt (a ++ ([58, 32] ++ b)) [58, 32] a.length = true := by
  unfold Lib.occAt
  rw [List.drop_left]
  simp

theorem occAt_nocolon (l : List UInt8) (i : Nat) (h : ∀ x, l[i]? = some x → x ≠ 58) : Lib.occAt l [58, 32] i = false := by
  unfold Lib.occAt
  rcases hd : l.drop i with _ | ⟨x, r⟩
  · rfl
  · have hx : l[i]? = some x := by
      have := List.getElem?_drop (xs := l) (i := i) (j := 0)
      rw [hd] at this
      simpa using this.symm
    have hne : ((58 : UInt8) == x) = false := by
      rw [beq_eq_false_iff_ne]; exact fun e => h x hx e.symm
    show (((58 : UInt8) == x) && ([32] : List UInt8).isPrefixOf r) = false
    rw [hne]; rfl

theorem cut_colon (a b : List UInt8) (h : (58 : UInt8) ∉ a) : Lib.cut (a ++ ([58, 32] ++ b)) [58, 32] = (a, b, true) := by
  have hi : Lib.index (a ++ ([58, 32] ++ b)) [58, 32] = a.length := Lib.index_first (by simp) (occAt_colon a b) (fun j hj => occAt_nocolon _ _ (fun x hx => by
    rw [List.getElem?_append_left hj] at hx
    exact fun e => h (e ▸ List.mem_of_getElem? hx)))
  unfold Lib.cut
  rw [hi, if_pos (by omega)]
  simp

theorem cut_colon_back (l a b : List UInt8) (h : Lib.cut l [58, 32] = (a, b, true)) : l = a ++ ([58, 32] ++ b) := by
  unfold Lib.cut at h
  rcases Lib.index_spec l [58, 32] with ⟨h1, _⟩ | ⟨i, h1, h2, h3, _⟩
  · rw [h1, if_neg (by omega)] at h; cases h
  · rw [h1, if_pos (by omega)] at h
    simp only [Int.toNat_natCast, List.length_cons, List.length_nil, Prod.mk.injEq] at h
    obtain ⟨rfl, rfl, _⟩ := h
    unfold Lib.occAt at h3
    have hp := List.isPrefixOf_iff_prefix.1 h3
    obtain ⟨t, ht⟩ := hp
    have : l.drop (i + (0 + 1 + 1)) = t := by
      rw [← List.drop_drop, ← ht]
      rfl
    rw [this, ht, List.take_append_drop]

theorem seal_prefix {l : List UInt8} (h : sealL.isPrefixOf l = true) : l = sealL ++ l.drop 5 := by
  obtain ⟨t, rfl⟩ := List.isPrefixOf_iff_prefix.1 h
  rfl

/-- What is printed is read. -/
theorem read_txt {r : Rc} (h : r.chk = 0) : rcRead r.txt = (r, 0) := by
  by_cases hk : r.k = 2
  · obtain ⟨hp, hr⟩ := Rc.seal h hk
    have hn := numOf_itoa r.p (by omega) (by omega)
    unfold rcRead Rc.txt
    rw [if_pos hk, if_pos (List.isPrefixOf_iff_prefix.2 ⟨_, rfl⟩), show (sealL ++ Lib.itoa r.p).drop 5 = Lib.itoa r.p from rfl, hn]
    show Rc.fin _ = _
    rw [← hr, Rc.fin, if_pos h]
  · obtain ⟨h1, ha, hp, he⟩ := Rc.write h hk
    have hd := itoa_digits r.a ha.1
    have hno : (58 : UInt8) ∉ Lib.itoa r.a := fun hm => by
      have := hd 58 hm
      simp at this
    have hpre : ¬ sealL.isPrefixOf (Lib.itoa r.a ++ ([58, 32] ++ r.e.txt)) = true := fun hm => by
      obtain ⟨t, ht⟩ := List.isPrefixOf_iff_prefix.1 hm
      cases hi : Lib.itoa r.a with
      | nil => exact itoa_ne r.a ha.1 hi
      | cons c cs =>
        rw [hi] at ht
        have hc : (115 : UInt8) = c := by
          have := congrArg (fun l => l[0]?) ht
          simpa [sealL] using this
        have := hd c (by rw [hi]; simp)
        rw [← hc] at this
        simp at this
    unfold rcRead Rc.txt
    rw [if_neg hk, if_neg hpre, cut_colon _ _ hno, if_neg (by simp)]
    simp only
    rw [numOf_itoa r.a ha.1 (by omega), prs_txt he]
    simp only
    rw [if_neg (by simp)]
    have hr : (⟨1, r.a, 0, r.e⟩ : Rc) = r := by cases r; simp_all
    rw [hr, Rc.fin, if_pos h]

theorem fin_zero {r : Rc} (h : r.fin.2 = 0) : r.chk = 0 ∧ r.fin = (r, 0) := by
  unfold Rc.fin at h ⊢
  by_cases hc : r.chk = 0
  · rw [if_pos hc]; exact ⟨hc, rfl⟩
  · rw [if_neg hc] at h; exact absurd h hc

/-- What is read is printed as it was. -/
theorem txt_read {l : List UInt8} (h : (rcRead l).2 = 0) : (rcRead l).1.chk = 0 ∧ (rcRead l).1.txt = l := by
  unfold rcRead at h ⊢
  by_cases hp : sealL.isPrefixOf l = true
  · rw [if_pos hp] at h ⊢
    cases hn : numOf (l.drop 5) with
    | none => rw [hn] at h; cases h
    | some p =>
      rw [hn] at h
      obtain ⟨h1, h2⟩ := fin_zero h
      simp only
      rw [h2]
      refine ⟨h1, ?_⟩
      show Rc.txt _ = l
      unfold Rc.txt
      rw [if_pos rfl]
      show sealL ++ Lib.itoa p = l
      rw [itoa_numOf _ _ hn]
      exact (seal_prefix hp).symm
  · rw [if_neg hp] at h ⊢
    cases hc : (Lib.cut l [58, 32]).2.2 with
    | false => rw [hc, if_pos rfl] at h; cases h
    | true =>
      rw [hc, if_neg (by simp)] at h
      rw [if_neg (by simp)]
      cases hn : numOf (Lib.cut l [58, 32]).1 with
      | none => rw [hn] at h; cases h
      | some a =>
        rw [hn] at h
        simp only at h ⊢
        by_cases he : (prs (Lib.cut l [58, 32]).2.1).2 = 0
        · rw [if_neg (by simpa using he)] at h ⊢
          obtain ⟨h1, h2⟩ := fin_zero h
          rw [h2]
          refine ⟨h1, ?_⟩
          show Rc.txt _ = l
          unfold Rc.txt
          rw [if_neg (by simp)]
          show Lib.itoa a ++ ([58, 32] ++ (prs (Lib.cut l [58, 32]).2.1).1.txt) = l
          rw [(txt_prs he).2, itoa_numOf _ _ hn]
          exact (cut_colon_back l _ _ (by rw [← hc])).symm
        · rw [if_pos he] at h
          exact absurd h he

end Go.Proofs.YtnmapehbcccbhadDoor
