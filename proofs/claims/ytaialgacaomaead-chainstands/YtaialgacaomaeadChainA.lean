/- Chains of units: what is wrong with one, what comes of an entry that is written, what is read; plain facts. -/
import Derived.Test.YtaialgacaomaeadUnitA
namespace Go.Proofs.Ytaialgacaomaead
open Go.RowKit
open scoped Classical

/-- One row of places has nothing but what another one has. -/
def Within (u a : List En) : Prop := ∀ (k : Nat) (c : En), u[k]? = some c → c.isB = true ∨ a[k]? = some c

noncomputable def ck3 (u0 u1 u2 : Un) : Int := if u0.ck ≠ 0 then u0.ck else if u1.ck ≠ 0 then u1.ck else if u2.ck ≠ 0 then u2.ck else if ¬ Within u1.cells u0.cells then 4 else if ¬ Within u2.cells u1.cells then 4 else 0

noncomputable def ckChain : List Un → Int
  | [u0, u1, u2] => ck3 u0 u1 u2
  | _ => 4

theorem ckChain_zero {us : List Un} : ckChain us = 0 ↔ ∃ u0 u1 u2, us = [u0, u1, u2] ∧ u0.ck = 0 ∧ u1.ck = 0 ∧ u2.ck = 0 ∧ Within u1.cells u0.cells ∧ Within u2.cells u1.cells := by
  constructor
  · intro h
    match us, h with
    | [u0, u1, u2], h =>
      change ck3 u0 u1 u2 = 0 at h
      unfold ck3 at h
      by_cases h0 : u0.ck = 0
      · rw [if_neg (by simpa using h0)] at h
        by_cases h1 : u1.ck = 0
        · rw [if_neg (by simpa using h1)] at h
          by_cases h2 : u2.ck = 0
          · rw [if_neg (by simpa using h2)] at h
            by_cases g1 : Within u1.cells u0.cells
            · rw [if_neg (by simpa using g1)] at h
              by_cases g2 : Within u2.cells u1.cells
              · exact ⟨u0, u1, u2, rfl, h0, h1, h2, g1, g2⟩
              · rw [if_pos g2] at h; cases h
            · rw [if_pos g1] at h; cases h
          · rw [if_pos h2] at h; exact absurd h h2
        · rw [if_pos h1] at h; exact absurd h h1
      · rw [if_pos h0] at h; exact absurd h h0
  · rintro ⟨u0, u1, u2, rfl, h0, h1, h2, g1, g2⟩
    show ck3 u0 u1 u2 = 0
    unfold ck3
    rw [if_neg (by simpa using h0), if_neg (by simpa using h1), if_neg (by simpa using h2), if_neg (by simpa using g1), if_neg (by simpa using g2)]

theorem ckChain_len {us : List Un} (h : ckChain us = 0) : us.length = 3 := by
  obtain ⟨u0, u1, u2, rfl, _⟩ := ckChain_zero.1 h
  rfl

/-- The place of a unit. -/
def plc (us : List Un) (k a : Nat) : En := (us.getD k Un.zero).cells.getD a blankE

/-- What comes of an entry that is to be written. -/
noncomputable def linkOf (us : List Un) (k a : Int) (x : En) (ep : Int) : Rc × En × Int :=
  if ckChain us ≠ 0 then (Rc.zero, En.zero, ckChain us)
  else if ¬ (0 ≤ k ∧ k ≤ 2) ∨ ¬ (0 ≤ a ∧ a ≤ 59) then (Rc.zero, En.zero, 5)
  else if x.chk ≠ 0 then (Rc.zero, En.zero, x.chk)
  else if (us.getD k.toNat Un.zero).p ≠ ep then (Rc.zero, En.zero, 8)
  else if 1 ≤ k ∧ ¬ x = plc us (k.toNat - 1) a.toNat then (Rc.zero, En.zero, 7)
  else if (plc us k.toNat a.toNat).isB = false then (Rc.zero, plc us k.toNat a.toNat, 0)
  else (⟨1, a, 0, x⟩, x, 0)

/-- What is read. -/
noncomputable def readOf (us : List Un) (a : Int) : En × Int :=
  if ckChain us ≠ 0 then (En.zero, ckChain us)
  else if ¬ (0 ≤ a ∧ a ≤ 59) then (En.zero, 5)
  else if (plc us 2 a.toNat).isB = true then (En.zero, 7)
  else (plc us 2 a.toNat, 0)

/-- The ways of an entry that goes through. -/
theorem linkOf_ok {us : List Un} {k a : Int} {x : En} {ep : Int} (h : (linkOf us k a x ep).2.2 = 0) :
    ckChain us = 0 ∧ (0 ≤ k ∧ k ≤ 2) ∧ (0 ≤ a ∧ a ≤ 59) ∧ x.chk = 0 ∧ (us.getD k.toNat Un.zero).p = ep ∧ (1 ≤ k → x = plc us (k.toNat - 1) a.toNat) ∧
    (((plc us k.toNat a.toNat).isB = false ∧ linkOf us k a x ep = (Rc.zero, plc us k.toNat a.toNat, 0)) ∨ ((plc us k.toNat a.toNat).isB = true ∧ linkOf us k a x ep = (⟨1, a, 0, x⟩, x, 0))) := by
  unfold linkOf at h ⊢
  by_cases h1 : ckChain us = 0
  · rw [if_neg (by simpa using h1)] at h ⊢
    by_cases h2 : ¬ (0 ≤ k ∧ k ≤ 2) ∨ ¬ (0 ≤ a ∧ a ≤ 59)
    · rw [if_pos h2] at h; cases h
    · rw [if_neg h2] at h ⊢
      by_cases h3 : x.chk = 0
      · rw [if_neg (by simpa using h3)] at h ⊢
        by_cases h4 : (us.getD k.toNat Un.zero).p = ep
        · rw [if_neg (by simpa using h4)] at h ⊢
          by_cases h5 : 1 ≤ k ∧ ¬ x = plc us (k.toNat - 1) a.toNat
          · rw [if_pos h5] at h; cases h
          · rw [if_neg h5] at h ⊢
            refine ⟨h1, by omega, by omega, h3, h4, fun hk => Classical.byContradiction fun hn => h5 ⟨hk, hn⟩, ?_⟩
            cases hb : (plc us k.toNat a.toNat).isB with
            | false => exact Or.inl ⟨rfl, by rw [if_pos rfl]⟩
            | true => exact Or.inr ⟨rfl, by rw [if_neg (by simp)]⟩
        · rw [if_pos h4] at h; cases h
      · rw [if_pos h3] at h; exact absurd h h3
  · rw [if_pos h1] at h; exact absurd h h1

theorem readOf_ok {us : List Un} {a : Int} (h : (readOf us a).2 = 0) : ckChain us = 0 ∧ (0 ≤ a ∧ a ≤ 59) ∧ (plc us 2 a.toNat).isB = false ∧ readOf us a = (plc us 2 a.toNat, 0) := by
  unfold readOf at h ⊢
  by_cases h1 : ckChain us = 0
  · rw [if_neg (by simpa using h1)] at h ⊢
    by_cases h2 : 0 ≤ a ∧ a ≤ 59
    · rw [if_neg (by simpa using h2)] at h ⊢
      cases hb : (plc us 2 a.toNat).isB with
      | true => rw [hb, if_pos rfl] at h; cases h
      | false =>
        rw [if_neg (by simp)]
        exact ⟨h1, h2, rfl, rfl⟩
    · rw [if_pos h2] at h; cases h
  · rw [if_pos h1] at h; exact absurd h h1

theorem readOf_at {us : List Un} {a : Int} (h1 : ckChain us = 0) (h2 : 0 ≤ a ∧ a ≤ 59) (h3 : (plc us 2 a.toNat).isB = false) : readOf us a = (plc us 2 a.toNat, 0) := by
  unfold readOf
  rw [if_neg (by simpa using h1), if_neg (by simpa using h2), if_neg (by simp [h3])]

/-- A place within a right unit. -/
theorem plc_some {us : List Un} {k a : Nat} {u : Un} (hk : us[k]? = some u) (hu : u.ck = 0) (ha : a < 60) : u.cells[a]? = some (plc us k a) := by
  have hl : u.cells.length = 60 := (Un.ck_zero.1 hu).2.1
  have e : us.getD k Un.zero = u := by rw [List.getD_eq_getElem?_getD, hk]; rfl
  unfold plc
  rw [e, List.getD_eq_getElem?_getD, List.getElem?_eq_getElem (by omega)]
  rfl

theorem within_at {u a : List En} (h : Within u a) {k : Nat} {c : En} (hc : u[k]? = some c) (hb : c.isB = false) : a[k]? = some c :=
  (h k c hc).resolve_left (by rw [hb]; simp)

theorem within_set {u a : List En} (h : Within u a) {k : Nat} {x : En} (hx : a[k]? = some x) : Within (u.set k x) a := fun j c hc => by
  by_cases hj : k = j
  · subst hj
    have hl := (List.getElem?_eq_some_iff.1 hc).1
    rw [List.length_set] at hl
    rw [List.getElem?_set_self hl] at hc
    rw [← Option.some.inj hc]
    exact Or.inr hx
  · rw [List.getElem?_set_ne hj] at hc
    exact h j c hc

theorem within_ahead {u a : List En} (h : Within u a) {k : Nat} (hx : a[k]? = some blankE) (x : En) : Within u (a.set k x) := fun j c hc => by
  rcases h j c hc with h1 | h1
  · exact Or.inl h1
  · by_cases hj : k = j
    · subst hj
      rw [hx] at h1
      rw [← Option.some.inj h1]
      exact Or.inl blank_isB
    · right
      rw [List.getElem?_set_ne hj]
      exact h1

/-- What stands at a right unit's place is right. -/
theorem cell_chk {u : Un} (hu : u.ck = 0) {k : Nat} {c : En} (hc : u.cells[k]? = some c) (hb : c.isB = false) : c.chk = 0 :=
  (ckCells_zero.1 (Un.ck_zero.1 hu).2.2 c (List.mem_of_getElem? hc)).resolve_left (by rw [hb]; simp)

theorem chk_notB {x : En} (h : x.chk = 0) : x.isB = false := by
  cases hb : x.isB with
  | false => rfl
  | true => rw [En.isB_eq.1 hb, blank_chk] at h; cases h

/-- A write at a blank place is taken. -/
theorem unext_write {u : Un} (hu : u.ck = 0) {a : Nat} (ha : a < 60) {x : En} (hx : x.chk = 0) (hb : u.cells[a]? = some blankE) : unext u ⟨1, (a : Int), 0, x⟩ = (⟨u.p, u.cells.set a x⟩, 0) := by
  have hr : Rc.chk ⟨1, (a : Int), 0, x⟩ = 0 := by
    unfold Rc.chk
    rw [if_neg (by simp), if_neg (by simp), if_neg (by simp; omega), if_neg (by simp)]
    exact hx
  rw [unext, if_neg (by simpa using hu), if_neg (by simpa using hr), uwrite, if_neg (by simp)]
  show (if (u.cells.getD ((a : Int).toNat) blankE).isB = false then (Un.zero, (6 : Int)) else (⟨u.p, u.cells.set ((a : Int).toNat) x⟩, 0)) = _
  rw [Int.toNat_natCast, List.getD_eq_getElem?_getD, hb]
  show (if blankE.isB = false then (Un.zero, (6 : Int)) else (⟨u.p, u.cells.set a x⟩, 0)) = _
  rw [if_neg (by simp [blank_isB])]

/-- A chain with one place written stays one. -/
theorem chain_set {us : List Un} (h : ckChain us = 0) {k a : Nat} (hk : k < 3) (ha : a < 60) {u : Un} (hu : us[k]? = some u) (hb : u.cells[a]? = some blankE) {x : En} (hx : x.chk = 0) (hl : 1 ≤ k → x = plc us (k - 1) a) :
    ckChain (us.set k ⟨u.p, u.cells.set a x⟩) = 0 := by
  obtain ⟨u0, u1, u2, rfl, c0, c1, c2, g1, g2⟩ := ckChain_zero.1 h
  have hk' : k = 0 ∨ k = 1 ∨ k = 2 := by omega
  have ck : u.ck = 0 → (⟨u.p, u.cells.set a x⟩ : Un).ck = 0 := fun hu0 => by
    have := unext_ck (u := u) (r := ⟨1, (a : Int), 0, x⟩) (by rw [unext_write hu0 ha hx hb])
    rwa [unext_write hu0 ha hx hb] at this
  rcases hk' with rfl | rfl | rfl
  · obtain rfl : u0 = u := by simpa using hu
    exact ckChain_zero.2 ⟨_, u1, u2, rfl, ck c0, c1, c2, within_ahead g1 hb x, g2⟩
  · obtain rfl : u1 = u := by simpa using hu
    have hx1 := hl (by omega)
    have h0 : u0.cells[a]? = some x := by rw [hx1]; exact plc_some (us := [u0, u1, u2]) (k := 0) rfl c0 ha
    exact ckChain_zero.2 ⟨u0, _, u2, rfl, c0, ck c1, c2, within_set g1 h0, within_ahead g2 hb x⟩
  · obtain rfl : u2 = u := by simpa using hu
    have hx1 := hl (by omega)
    have h0 : u1.cells[a]? = some x := by rw [hx1]; exact plc_some (us := [u0, u1, u2]) (k := 1) rfl c1 ha
    exact ckChain_zero.2 ⟨u0, u1, _, rfl, c0, c1, ck c2, g1, within_set g2 h0⟩

/-- What the last unit has, all have. -/
theorem chain_all {us : List Un} (h : ckChain us = 0) {a : Nat} (ha : a < 60) (hb : (plc us 2 a).isB = false) : ∀ (k : Nat) (u : Un), us[k]? = some u → u.cells[a]? = some (plc us 2 a) := by
  obtain ⟨u0, u1, u2, rfl, c0, c1, c2, g1, g2⟩ := ckChain_zero.1 h
  have h2 : u2.cells[a]? = some (plc [u0, u1, u2] 2 a) := plc_some rfl c2 ha
  have h1 := within_at g2 h2 hb
  have h0 := within_at g1 h1 hb
  intro k u hu
  match k with
  | 0 => obtain rfl : u0 = u := by simpa using hu
         exact h0
  | 1 => obtain rfl : u1 = u := by simpa using hu
         exact h1
  | 2 => obtain rfl : u2 = u := by simpa using hu
         exact h2
  | k + 3 => simp at hu

/-- Behind a write all that was read is read. -/
theorem read_set {us : List Un} (h : ckChain us = 0) {k a : Nat} (hk : k < 3) (ha : a < 60) {u : Un} (hu : us[k]? = some u) (hb : u.cells[a]? = some blankE) {x : En} (hx : x.chk = 0) (hl : 1 ≤ k → x = plc us (k - 1) a)
    {i : Nat} (hi : i < 60) (hr : (plc us 2 i).isB = false) : plc (us.set k ⟨u.p, u.cells.set a x⟩) 2 i = plc us 2 i := by
  have hs := chain_set h hk ha hu hb hx hl
  obtain ⟨u0, u1, u2, rfl, c0, c1, c2, g1, g2⟩ := ckChain_zero.1 h
  have hk' : k = 0 ∨ k = 1 ∨ k = 2 := by omega
  rcases hk' with rfl | rfl | rfl
  · rfl
  · rfl
  · obtain rfl : u2 = u := by simpa using hu
    have h2 : u2.cells[i]? = some (plc [u0, u1, u2] 2 i) := plc_some rfl c2 hi
    have hne : a ≠ i := fun e => by
      subst e
      rw [hb] at h2
      rw [← Option.some.inj h2, blank_isB] at hr; cases hr
    have h3 : (⟨u2.p, u2.cells.set a x⟩ : Un).cells[i]? = some (plc ([u0, u1, u2].set 2 ⟨u2.p, u2.cells.set a x⟩) 2 i) := by
      obtain ⟨v0, v1, v2, e, _, _, d2, _⟩ := ckChain_zero.1 hs
      have e2 : (⟨u2.p, u2.cells.set a x⟩ : Un) = v2 := by
        have := congrArg (fun l : List Un => l[2]?) e
        simpa using this
      exact plc_some rfl (e2 ▸ d2) hi
    have h4 : (u2.cells.set a x)[i]? = u2.cells[i]? := List.getElem?_set_ne hne
    have h5 : u2.cells[i]? = some (plc ([u0, u1, u2].set 2 ⟨u2.p, u2.cells.set a x⟩) 2 i) := h4.symm.trans h3
    exact (Option.some.inj (h2.symm.trans h5)).symm

end Go.Proofs.Ytaialgacaomaead
