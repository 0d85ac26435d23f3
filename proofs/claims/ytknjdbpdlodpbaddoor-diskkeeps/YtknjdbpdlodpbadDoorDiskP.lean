/- Slices of bytes and of records, disks, numbers among the arguments. -/
import Derived.Test.YtknjdbpdlodpbadDoorRecArg
import Derived.Test.YtknjdbpdlodpbadDoorDiskF
import Derived.OpenShut
import Derived.ProofKit
import Derived.Deep.Slices
import Derived.SizedLaws
import Derived.Deep.DeepHandedRow
import Derived.ChangeMaps5
import Derived.Carry
namespace Go.Proofs.YtknjdbpdlodpbadDoor
open Go.ChangeShapes Go.WideShapes Go.ChangeAt Go.RowKit

theorem cellsY : Tryd.prog.cellsOf 5 = 1 := by kernel_rfl
theorem cellsC : Tryd.prog.cellsOf 30 = 8 := by kernel_rfl
theorem cellsD : Tryd.prog.cellsOf 26 = 2 := by kernel_rfl
theorem cellsLY : Tryd.prog.cellsOf 24 = 1 := by kernel_rfl
theorem ary2 {α : Type} {cs : Array α} (h : cs.size = 2) : ∃ c0 c1, cs = #[c0, c1] := by
  obtain ⟨l⟩ := cs
  match l, h with
  | [c0, c1], _ => exact ⟨c0, c1, rfl⟩

section
variable {H : Type} {enc : TypeId × Value → H} {w : World} {base : Nat} {spare : Nat → Bool} {held : Bool}

theorem trodY {fuel : Nat} {cs : List Value} {x : DataW H × List MemPlace} (h : DataW.trod enc Tryd.prog w base spare held fuel 5 cs = some x) : ∃ b : UInt8, cs = bt b := by
  obtain ⟨n, rfl, _, hw⟩ := DataW.trod_int Tryd.underlying5 h
  have hr : 0 ≤ n ∧ n < 256 := by
    have e1 : IntKind.u8.min = 0 := by decide
    have e2 : IntKind.u8.max = 255 := by decide
    simp [Lit.wf] at hw
    omega
  exact ⟨UInt8.ofNat n.toNat, by simp [bt]; omega⟩

theorem trodC {fuel : Nat} {cs : List Value} {x : DataW H × List MemPlace} (h : DataW.trod enc Tryd.prog w base spare held fuel 30 cs = some x) : ∃ q : Rc, cs = q.cells := trod_rec h

theorem one_sl {t e : TypeId} {fuel : Nat} {c0 : Value} {x : DataW H × List MemPlace} (ht : Tryd.prog.underlying t = some (.slice e)) (h : DataW.trod enc Tryd.prog w base spare held fuel t [c0] = some x) : ∃ a l c, c0 = .slice a l c := by
  rcases Deep.open_slice ht h with ⟨hcs, _⟩ | ⟨a, len, cap, m, n, D, Pl, hcs, _⟩
  · exact ⟨_, _, _, by simpa using hcs⟩
  · exact ⟨_, _, _, by simpa using hcs⟩

set_option maxRecDepth 100000 in
theorem openY {fuel : Nat} {a0 : Option Addr} {len0 cap0 : Nat} {x : DataW H × List MemPlace} (hf : DataW.trod enc Tryd.prog w base spare held fuel 24 [.slice a0 len0 cap0] = some x) :
    ∃ es : List UInt8, SlOf bt 1 w (.slice a0 len0 cap0) es ∧ es.length ≤ maxLen ∧ len0 ≤ cap0 := by
  rcases Deep.open_slice Tryd.underlying24 hf with ⟨hcs, _⟩ | ⟨a, len, cap, m, n, D, Pl, hcs, _, hl, hm, hmm, _, hel⟩
  · simp at hcs
    obtain ⟨rfl, rfl, rfl⟩ := hcs
    exact ⟨[], ⟨none, 0, rfl, Or.inl rfl⟩, Nat.zero_le _, Nat.le_refl _⟩
  · simp at hcs
    obtain ⟨rfl, rfl, rfl⟩ := hcs
    rw [cellsY] at hel
    have hlm : len0 ≤ m := by rw [hmm]; split <;> omega
    have hE : ∀ i, i < len0 → ∃ e : UInt8, ∀ j u, (bt e)[j]? = some u → w.cell? ((a.add (i * 1)).add j) = some u := fun i hi => by
      obtain ⟨cs', h1, h2⟩ := hel i (by omega)
      obtain ⟨e, rfl⟩ := trodY h2
      refine ⟨e, fun j u hj => ?_⟩
      have hlt : j < 1 := by
        have := (List.getElem?_eq_some_iff.1 hj).1
        simpa [bt] using this
      exact ((World.cells?_some h1).2.2 j hlt).trans hj
    obtain ⟨E, hE⟩ := @Deep.choose_lt UInt8 ⟨0⟩ len0 _ hE
    have hlen : ((List.range len0).map E).length = len0 := by simp
    refine ⟨(List.range len0).map E, ⟨some a, cap0, by rw [hlen], ?_⟩, by rw [hlen]; omega, hl⟩
    rw [hlen]
    by_cases hz : len0 = 0
    · exact Or.inl hz
    · right
      obtain ⟨b, off, spot⟩ := a
      have hspot : spot = none := by
        have := World.cell?_spot (hE 0 (by omega) 0 _ rfl)
        simpa [Addr.add] using this
      subst hspot
      refine ⟨b, off, rfl, fun j e hj i u hi => ?_⟩
      have hjl : j < len0 := by
        have := (List.getElem?_eq_some_iff.1 hj).1
        rwa [hlen] at this
      have he : E j = e := by simpa [hjl] using hj
      have := hE j hjl i u (by rw [he]; exact hi)
      rw [Deep.add_add, Lib.add_plain] at this
      rw [Nat.add_assoc]
      exact this

set_option maxRecDepth 100000 in
theorem openC {fuel : Nat} {a0 : Option Addr} {len0 cap0 : Nat} {x : DataW H × List MemPlace} (hf : DataW.trod enc Tryd.prog w base spare held fuel 22 [.slice a0 len0 cap0] = some x) :
    ∃ es : List Rc, SlOf Rc.cells 8 w (.slice a0 len0 cap0) es ∧ es.length ≤ maxLen ∧ len0 ≤ cap0 := by
  rcases Deep.open_slice Tryd.underlying22 hf with ⟨hcs, _⟩ | ⟨a, len, cap, m, n, D, Pl, hcs, _, hl, hm, hmm, _, hel⟩
  · simp at hcs
    obtain ⟨rfl, rfl, rfl⟩ := hcs
    exact ⟨[], ⟨none, 0, rfl, Or.inl rfl⟩, Nat.zero_le _, Nat.le_refl _⟩
  · simp at hcs
    obtain ⟨rfl, rfl, rfl⟩ := hcs
    rw [cellsC] at hel
    have hlm : len0 ≤ m := by rw [hmm]; split <;> omega
    have hE : ∀ i, i < len0 → ∃ e : Rc, ∀ j u, (Rc.cells e)[j]? = some u → w.cell? ((a.add (i * 8)).add j) = some u := fun i hi => by
      obtain ⟨cs', h1, h2⟩ := hel i (by omega)
      obtain ⟨e, rfl⟩ := trodC h2
      refine ⟨e, fun j u hj => ?_⟩
      have hlt : j < 8 := by
        have := (List.getElem?_eq_some_iff.1 hj).1
        simpa [Rc.cells] using this
      exact ((World.cells?_some h1).2.2 j hlt).trans hj
    obtain ⟨E, hE⟩ := @Deep.choose_lt Rc ⟨Rc.zero⟩ len0 _ hE
    have hlen : ((List.range len0).map E).length = len0 := by simp
    refine ⟨(List.range len0).map E, ⟨some a, cap0, by rw [hlen], ?_⟩, by rw [hlen]; omega, hl⟩
    rw [hlen]
    by_cases hz : len0 = 0
    · exact Or.inl hz
    · right
      obtain ⟨b, off, spot⟩ := a
      have hspot : spot = none := by
        have := World.cell?_spot (hE 0 (by omega) 0 _ rfl)
        simpa [Addr.add] using this
      subst hspot
      refine ⟨b, off, rfl, fun j e hj i u hi => ?_⟩
      have hjl : j < len0 := by
        have := (List.getElem?_eq_some_iff.1 hj).1
        rwa [hlen] at this
      have he : E j = e := by simpa [hjl] using hj
      have := hE j hjl i u (by rw [he]; exact hi)
      rw [Deep.add_add, Lib.add_plain] at this
      rw [Nat.add_assoc]
      exact this

set_option maxRecDepth 100000 in
/-- How long a slice of bytes may be. -/
theorem lenY {fuel : Nat} {a0 : Option Addr} {len0 cap0 : Nat} {x : DataW H × List MemPlace} (hf : DataW.trod enc Tryd.prog w base spare held fuel 24 [.slice a0 len0 cap0] = some x) (hs : ∀ n ∈ DataW.weights Tryd.prog 24 x.1, n ≤ reachBytes) : len0 ≤ topLen := by
  rcases Deep.open_slice Tryd.underlying24 hf with ⟨hcs, _⟩ | ⟨a, len, cap, m, n, D, Pl, hcs, _, hl, hm, hmm, hx, hel⟩
  · simp at hcs
    obtain ⟨rfl, rfl, rfl⟩ := hcs
    exact Nat.zero_le _
  · simp at hcs
    obtain ⟨rfl, rfl, rfl⟩ := hcs
    have h1 := hs ((len0 + (m - len0)) * Tryd.prog.bytesOf 5) (by rw [hx]; simp [DataW.weights, Tryd.underlying24])
    rw [show Tryd.prog.bytesOf 5 = 1 by kernel_rfl] at h1
    have h2 : reachBytes = 140737488351232 := by decide
    show len0 ≤ 140737488351232
    omega

set_option maxRecDepth 100000 in
/-- A disk that was handed in. -/
theorem openDk {r : Reach} {b0 : Nat} {v : Value} {d : DataW H} {p : List MemPlace} (hv : Value.okWide Tryd.prog w r b0 26 v) (h : DataW.Trod enc Tryd.prog w base spare held 26 v d p) (hs : ∀ n ∈ DataW.weights Tryd.prog 26 d, n ≤ reachBytes) :
    ∃ (a1 a2 : Option Addr) (n1 n2 q1 q2 : Nat) (x : Dk), v = .agg #[.slice a1 n1 q1, .slice a2 n2 q2] ∧ DiskR w (.slice a1 n1 q1) (.slice a2 n2 q2) x ∧ x.1.length = n1 ∧ x.2.length = n2 ∧ n1 ≤ topLen ∧ n2 ≤ topLen := by
  obtain ⟨cs, rfl, hsz⟩ := okWide_struct Tryd.underlying26 hv
  obtain ⟨c0, c1, rfl⟩ := ary2 (hsz.trans cellsD)
  obtain ⟨fuel, hf⟩ := h
  obtain ⟨xs, n, _, hx, _, hlen, hel⟩ := DataW.trod_struct Tryd.underlying26 hf
  match xs, hlen with
  | [y0, y1], _ =>
    have k0 : DataW.trod enc Tryd.prog w base spare held n 24 (List.take (Tryd.prog.cellsOf 24) (List.drop 0 [c0, c1])) = some y0 := hel 0 _ rfl
    have k1 : DataW.trod enc Tryd.prog w base spare held n 24 (List.take (Tryd.prog.cellsOf 24) (List.drop 1 [c0, c1])) = some y1 := hel 1 _ rfl
    rw [cellsLY] at k0 k1
    have k0' : DataW.trod enc Tryd.prog w base spare held n 24 [c0] = some y0 := k0
    have k1' : DataW.trod enc Tryd.prog w base spare held n 24 [c1] = some y1 := k1
    obtain ⟨a1, l1, q1, rfl⟩ := one_sl Tryd.underlying24 k0'
    obtain ⟨a2, l2, q2, rfl⟩ := one_sl Tryd.underlying24 k1'
    obtain ⟨s, hs', _, hr1⟩ := openY k0'
    obtain ⟨t, ht, _, hr2⟩ := openY k1'
    have e1 := hs'.len
    have e2 := ht.len
    have hw : DataW.weights Tryd.prog 26 d = DataW.weights Tryd.prog 24 y0.1 ++ DataW.weights Tryd.prog 24 y1.1 := by
      have hd : d = .agg [y0.1, y1.1] := by injection hx
      rw [hd]
      simp only [DataW.weights, Tryd.underlying26]
      simp [DataW.weightsEach]
    have b1 := lenY k0' (fun n hn => hs n (by rw [hw]; exact List.mem_append_left _ hn))
    have b2 := lenY k1' (fun n hn => hs n (by rw [hw]; exact List.mem_append_right _ hn))
    exact ⟨a1, a2, l1, l2, q1, q2, (s, t), rfl, ⟨hs', ht, ⟨_, _, _, rfl, hr1⟩, ⟨_, _, _, rfl, hr2⟩⟩, e1, e2, b1, b2⟩

set_option maxRecDepth 100000 in
/-- A slice of records that was handed in. -/
theorem openRs {r : Reach} {b0 : Nat} {v : Value} {d : DataW H} {p : List MemPlace} (hv : Value.okWide Tryd.prog w r b0 22 v) (h : DataW.Trod enc Tryd.prog w base spare held 22 v d p) :
    ∃ (es : List Rc) (a : Option Addr) (n c : Nat), v = .slice a n c ∧ RecSl w (.slice a n c) es ∧ n ≤ c := by
  obtain ⟨a0, len0, cap0, rfl⟩ := okWide_slice Tryd.underlying22 hv
  obtain ⟨fuel, hf⟩ := h
  obtain ⟨es, hes, _, hr⟩ := openC hf
  exact ⟨es, a0, len0, cap0, rfl, hes, hr⟩
end

set_option maxRecDepth 100000 in
theorem openI {H : Type} {enc : TypeId × Value → H} {w : World} {base : Nat} {spare : Nat → Bool} {held : Bool} {r : Reach} {b0 : Nat} {v : Value} {d : DataW H} {p : List MemPlace} (hv : Value.okWide Tryd.prog w r b0 3 v) (h : DataW.Trod enc Tryd.prog w base spare held 3 v d p) : ∃ n, v = .int .i64 n := by
  obtain ⟨n, rfl, _⟩ := open_int Tryd.underlying3 hv h
  exact ⟨n, rfl⟩

end Go.Proofs.YtknjdbpdlodpbadDoor
