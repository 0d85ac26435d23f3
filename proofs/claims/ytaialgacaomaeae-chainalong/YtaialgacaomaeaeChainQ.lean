/- Plain facts for ChainAlong: what is written at all units, one behind the other. -/
import Derived.Test.YtaialgacaomaeaeChainK
namespace Go.Proofs.Ytaialgacaomaeae
open Go.RowKit
open scoped Classical

/-- What stands when so many units have been written: it is a chain, all those have x, and x is what stood at the first one, if something did. -/
structure Along (us ms : List Un) (aa k : Nat) (x : En) : Prop where
  ck : ckChain ms = 0
  all : ∀ (j : Nat) (u : Un), j < k → ms[j]? = some u → u.cells[aa]? = some x
  chk : 0 < k → x.chk = 0
  start : k = 0 → ms = us
  first : 0 < k → (plc us 0 aa).isB = true ∨ x = plc us 0 aa

theorem along_zero {us : List Un} (h : ckChain us = 0) (aa : Nat) (x : En) : Along us us aa 0 x :=
  ⟨h, fun _ _ hj => absurd hj (Nat.not_lt_zero _), fun h => absurd h (Nat.lt_irrefl _), fun _ => rfl, fun h => absurd h (Nat.lt_irrefl _)⟩

/-- An entry that has gone through the units ahead goes through. -/
theorem along_ok {us ms : List Un} {aa k : Nat} {x : En} {u : Un} (h : Along us ms aa k x) (hk : k < 3) (ha : aa < 60) (hu : ms[k]? = some u) (h0 : 0 < k) : (linkOf ms (k : Int) (aa : Int) x u.p).2.2 = 0 := by
  obtain ⟨v, hv, hvc⟩ := chain_unit h.ck (k := k - 1) (by omega)
  have hx : x = plc ms (k - 1) aa := by
    have h1 := h.all (k - 1) v (by omega) hv
    have h2 := plc_some hv hvc ha
    exact Option.some.inj (h1.symm.trans h2)
  unfold linkOf
  rw [if_neg (by simp [h.ck]), if_neg (by omega), if_neg (by simp [h.chk h0])]
  have hp : (ms.getD ((k : Int).toNat) Un.zero).p = u.p := by
    rw [Int.toNat_natCast, List.getD_eq_getElem?_getD, hu]; rfl
  rw [if_neg (by simp only [hp, ne_eq, not_true, not_false_eq_true]), if_neg (by rw [Int.toNat_natCast, Int.toNat_natCast]; exact fun hh => hh.2 hx)]
  split <;> rfl

/-- One unit more. -/
theorem along_step {us ms : List Un} {aa k : Nat} {x : En} {u : Un} {r : Rc} {s : En} (h : Along us ms aa k x) (hk : k < 3) (ha : aa < 60) (hu : ms[k]? = some u) (hl : linkOf ms (k : Int) (aa : Int) x u.p = (r, s, 0)) :
    (r = Rc.zero ∧ Along us ms aa (k + 1) s) ∨ (r = ⟨1, (aa : Int), 0, x⟩ ∧ s = x ∧ unext u ⟨1, (aa : Int), 0, x⟩ = (⟨u.p, u.cells.set aa x⟩, 0) ∧ Along us (ms.set k ⟨u.p, u.cells.set aa x⟩) aa (k + 1) s) := by
  obtain ⟨kk, a2, u2, e1, e2, hkk, haa, hu2, huc, _, hw⟩ := st_facts hl
  obtain rfl : k = kk := by omega
  obtain rfl : aa = a2 := by omega
  obtain rfl : u = u2 := Option.some.inj (hu.symm.trans hu2)
  rcases hw with ⟨hr, hs, hb⟩ | ⟨hr, hs, hx, hbl, hn, hc, _⟩
  · refine Or.inl ⟨hr, ?_⟩
    have hxs : 0 < k → x = s := fun h0 => by
      obtain ⟨v, hv, hvc⟩ := chain_unit h.ck (k := k - 1) (by omega)
      have h1 := h.all (k - 1) v (by omega) hv
      have h2 : v.cells[aa]? = some s := by
        obtain ⟨u0, u1, u2', e, c0, c1, c2, g1, g2⟩ := ckChain_zero.1 h.ck
        subst e
        have hk' : k = 1 ∨ k = 2 := by omega
        rcases hk' with rfl | rfl
        · obtain rfl : u1 = u := by simpa using hu
          obtain rfl : u0 = v := by simpa using hv
          exact within_at g1 hs hb
        · obtain rfl : u2' = u := by simpa using hu
          obtain rfl : u1 = v := by simpa using hv
          exact within_at g2 hs hb
      exact Option.some.inj (h1.symm.trans h2)
    refine ⟨h.ck, fun j v hj hv => ?_, fun _ => cell_chk huc hs hb, fun e => absurd e (Nat.succ_ne_zero _), fun _ => ?_⟩
    · by_cases hjk : j = k
      · subst hjk
        obtain rfl : u = v := Option.some.inj (hu.symm.trans hv)
        exact hs
      · rw [← hxs (by omega)]
        exact h.all j v (by omega) hv
    · by_cases h0 : 0 < k
      · rw [← hxs h0]
        exact h.first h0
      · obtain rfl : k = 0 := by omega
        right
        have e := h.start rfl
        subst e
        have h2 := plc_some hu huc ha
        exact Option.some.inj (hs.symm.trans h2)
  · refine Or.inr ⟨hr, hs, hn, ?_⟩
    subst hs
    have hlen := (List.getElem?_eq_some_iff.1 hu).1
    have hlu := (List.getElem?_eq_some_iff.1 hbl).1
    refine ⟨hc, fun j v hj hv => ?_, fun _ => hx, fun e => absurd e (Nat.succ_ne_zero _), fun _ => ?_⟩
    · by_cases hjk : k = j
      · subst hjk
        rw [List.getElem?_set_self hlen] at hv
        rw [← Option.some.inj hv]
        exact List.getElem?_set_self hlu
      · rw [List.getElem?_set_ne hjk] at hv
        exact h.all j v (by omega) hv
    · by_cases h0 : 0 < k
      · exact h.first h0
      · obtain rfl : k = 0 := by omega
        left
        have e := h.start rfl
        subst e
        have h2 := plc_some hu huc ha
        rw [← Option.some.inj (hbl.symm.trans h2)]
        exact blank_isB

/-- All three have it: it is read. -/
theorem along_read {us ms : List Un} {aa : Nat} {x : En} (h : Along us ms aa 3 x) (ha : aa < 60) : readOf ms (aa : Int) = (x, 0) := by
  obtain ⟨u, hu, huc⟩ := chain_unit h.ck (k := 2) (by omega)
  have h1 := h.all 2 u (by omega) hu
  have h2 := plc_some hu huc ha
  have hx : x = plc ms 2 aa := Option.some.inj (h1.symm.trans h2)
  have hb : (plc ms 2 ((aa : Int).toNat)).isB = false := by rw [Int.toNat_natCast, ← hx]; exact chk_notB (h.chk (by omega))
  rw [readOf_at h.ck (by omega) hb, Int.toNat_natCast, ← hx]

/-- The last guard: nothing stood there, or it is that. -/
theorem along_last {us ms : List Un} {aa : Nat} {x : En} (h : Along us ms aa 3 x) : (plc us 0 aa).k = 4 ∨ x = plc us 0 aa := by
  rcases h.first (by omega) with hb | hb
  · left
    rw [En.isB_eq.1 hb]
    rfl
  · exact Or.inr hb

end Go.Proofs.Ytaialgacaomaeae
