/- UnitOnce: what its round holds; plain facts. The walk of UnitOnce, given the contracts of packages unit and disk. -/
import Derived.Test.YtnmapehbcccbhadDoorUnitD
import Derived.Test.YtnmapehbcccbhadDoorUnitG
import Derived.Test.YtnmapehbcccbhadDoorUnitH
import Derived.Test.YtnmapehbcccbhadDoorDiskG
import Derived.Deep.QuietTactic
import Derived.BigQuiet
import Derived.Deep.CutBlock
namespace Go.Proofs.YtnmapehbcccbhadDoor
open Go.RowKit

/-- What stands at a place behind a record that was taken. -/
theorem once_cases {U : Un} {r : Rc} (h : (unext U r).2 = 0) {k : Nat} {c : En} (hc : U.cells[k]? = some c) :
    ∃ y, (unext U r).1.cells[k]? = some y ∧ (y = c ∨ (c = blankE ∧ r.k = 1 ∧ r.a = (k : Int) ∧ y = r.e ∧ unlike r.e.k r.e.j r.e.v r.e.t r.e.c 4 0 0 0 0 = true)) := by
  rcases unext_stands h k hc with h1 | ⟨h1, h2, h3, h4⟩
  · exact ⟨c, h1, Or.inl rfl⟩
  · refine ⟨r.e, h4, Or.inr ⟨h1, h2, h3, rfl, ?_⟩⟩
    obtain ⟨_, _, hw⟩ := unext_ok h
    rcases hw with ⟨hk, _⟩ | ⟨_, _, _, he, _⟩
    · omega
    · have hb : r.e.isB = false := by
        cases hb : r.e.isB with
        | false => rfl
        | true => rw [En.isB_eq.1 hb, blank_chk] at he; cases he
      unfold En.isB at hb
      simpa using hb

/-- Bytes lie in no unit's box. -/
theorem bytes_apartU {W : World} {v : Value} {l : List UInt8} (h : ByteSl W v l) {B : Nat} {p : Int} {a : Option Addr} {n c : Nat} (hB : W.heap[B]? = some (boxU p (.slice a n c))) (i : Nat) (x : Value) : ByteSl (W.setCell ⟨B, i, none⟩ x) v l := by
  obtain ⟨a', c', hv, hc⟩ := h
  refine ⟨a', c', hv, ?_⟩
  rcases hc with hc | ⟨b, off, ha, hE⟩
  · exact Or.inl hc
  · refine Or.inr ⟨b, off, ha, fun j e hj i' u hi => ?_⟩
    have hcell := hE j e hj i' u hi
    have hne : b ≠ B := fun e' => by
      rw [e', Joins.cell_of_block hB] at hcell
      have hu := List.mem_of_getElem? hi
      simp [bt] at hu
      subst hu
      have hm := Array.mem_of_getElem? hcell
      simp at hm
    rw [cell_setOther hne]
    exact hcell

theorem disk_apartU {W : World} {v1 v2 : Value} {d : Dk} (h : DiskR W v1 v2 d) {B : Nat} {p x : Int} {a a' : Option Addr} {n c n' c' : Nat} (hB : W.heap[B]? = some (boxU p (.slice a n c))) : DiskR ((W.setCell ⟨B, 0, none⟩ (.int .i64 x)).setCell ⟨B, 1, none⟩ (.slice a' n' c')) v1 v2 d := by
  have h0 : (W.setCell ⟨B, 0, none⟩ (.int .i64 x)).heap[B]? = some (boxU x (.slice a n c)) := by rw [Joins.block_setCell hB]; rfl
  exact ⟨bytes_apartU (bytes_apartU h.safe hB 0 _) h0 1 _, bytes_apartU (bytes_apartU h.wait hB 0 _) h0 1 _, h.room1, h.room2⟩

theorem unit_apartD {W : World} {v : Value} {u : Un} (h : UnitAt W v u) {B : Nat} {v1 v2 : Value} (hB : W.heap[B]? = some (boxD v1 v2)) (u1 u2 : Value) : UnitAt ((W.setCell ⟨B, 0, none⟩ u1).setCell ⟨B, 1, none⟩ u2) v u := by
  have h0 : (W.setCell ⟨B, 0, none⟩ u1).heap[B]? = some (boxD u1 v2) := by rw [Joins.block_setCell hB]; rfl
  exact ⟨ents_apart (ents_apart h.ents hB 0 _) h0 1 _, h.room⟩

/-- Package disk, as far as UnitOnce asks. -/
structure Disks3 : Prop where
  put : ∀ (v1 v2 : Value) (d : Dk) (c : Rc) (W : World), Laid W → DiskR W v1 v2 d → d.1.length ≤ topLen → d.2.length ≤ topLen → AnsR 7 v1 v2 #[.agg #[v1, v2], c.val] W (dput d.1 d.2 c)
  sync : ∀ (v1 v2 : Value) (d : Dk) (W : World), Laid W → DiskR W v1 v2 d → d.1.length ≤ topLen → d.2.length ≤ topLen → AnsR 8 v1 v2 #[.agg #[v1, v2]] W (dsync d.1 d.2)
  recover : ∀ (v1 v2 : Value) (d : Dk) (W : World), Laid W → DiskR W v1 v2 d → d.1.length ≤ topLen → d.2.length ≤ topLen →
    Calls Tryd.prog 11 #[.agg #[v1, v2]] W fun e w' => ∃ u1 u2 u3, e = .returned (.tuple #[.agg #[u1, u2], u3, .int .i64 (drecover d.1 d.2).2.2]) ∧ DiskR w' u1 u2 (drecover d.1 d.2).1 ∧ RecSl w' u3 (drecover d.1 d.2).2.1 ∧ Below W.heap.size W w' ∧ Roomy u3

/-- What UnitOnce's round holds: the unit in its box, the disk in its box. -/
structure OnAt (w W : World) (ub db : Nat) (U : Un) (rs : List Rc) (a b1 b2 : Option Addr) (n c m1 m2 q1 q2 : Nat) : Prop where
  ubox : W.heap[ub]? = some (boxU U.p (.slice a n c))
  unit : UnitAt W (.slice a n c) U
  disk : BoxR w W db b1 b2 m1 m2 q1 q2 (rtxt rs, [])
  base : w.heap.size ≤ ub
  far : ub ≠ db

theorem OnAt.later {w W W' : World} {ub db : Nat} {U : Un} {rs : List Rc} {a b1 b2 : Option Addr} {n c m1 m2 q1 q2 : Nat} (h : OnAt w W ub db U rs a b1 b2 n c m1 m2 q1 q2) (hb : Below W.heap.size W W') : OnAt w W' ub db U rs a b1 b2 n c m1 m2 q1 q2 :=
  ⟨heap_below h.ubox hb (heap_lt h.ubox), h.unit.later hb, h.disk.later hb, h.base, h.far⟩

/-- u = v. -/
theorem OnAt.store {w W : World} {ub db : Nat} {U V : Un} {rs : List Rc} {a b1 b2 a' : Option Addr} {n c m1 m2 q1 q2 n' c' : Nat} (hL : Laid w) (h : OnAt w W ub db U rs a b1 b2 n c m1 m2 q1 q2) (hV : UnitAt W (.slice a' n' c') V) :
    OnAt w ((W.setCell ⟨ub, 0, none⟩ (.int .i64 V.p)).setCell ⟨ub, 1, none⟩ (.slice a' n' c')) ub db V rs a' b1 b2 n' c' m1 m2 q1 q2 := by
  have hbl := below_two2 h.disk.below h.base (.int .i64 V.p) (.slice a' n' c')
  refine ⟨unit_stored h.ubox _ _, unit_apart hV h.ubox _ _, ⟨?_, disk_apartU h.disk.disk h.ubox, hbl, h.disk.base, hL.later hbl⟩, h.base, h.far⟩
  rw [Below.heap_setCell _ _ _ _ (by show db ≠ ub; exact h.far.symm), Below.heap_setCell _ _ _ _ (by show db ≠ ub; exact h.far.symm)]
  exact h.disk.box

/-- What stands where UnitOnce's outer loop turns. -/
def OnSt (w W : World) (ub db k : Nat) : Prop :=
  ∃ (U : Un) (rs : List Rc) (a b1 b2 : Option Addr) (n c m1 m2 q1 q2 : Nat), OnAt w W ub db U rs a b1 b2 n c m1 m2 q1 q2 ∧ (∀ x, x ∈ rs → x.chk = 0) ∧ rs.length ≤ k ∧ ufold unew rs = (U, 0) ∧ U.ck = 0

/-- What stands within a round: the record and what it made of the unit, in their boxes. -/
structure RdAt (w W : World) (ub db rb vb : Nat) (U V : Un) (x : Rc) (D : Dk) (a b1 b2 a3 : Option Addr) (n c m1 m2 q1 q2 n3 c3 : Nat) : Prop where
  ubox : W.heap[ub]? = some (boxU U.p (.slice a n c))
  unit : UnitAt W (.slice a n c) U
  disk : BoxR w W db b1 b2 m1 m2 q1 q2 D
  base : w.heap.size ≤ ub
  far : ub ≠ db
  rbox : W.heap[rb]? = some (boxRc x)
  vbox : W.heap[vb]? = some (boxU V.p (.slice a3 n3 c3))
  vunit : UnitAt W (.slice a3 n3 c3) V
  rfar : rb ≠ db
  vfar : vb ≠ db

theorem RdAt.later {w W W' : World} {ub db rb vb : Nat} {U V : Un} {x : Rc} {D : Dk} {a b1 b2 a3 : Option Addr} {n c m1 m2 q1 q2 n3 c3 : Nat} (h : RdAt w W ub db rb vb U V x D a b1 b2 a3 n c m1 m2 q1 q2 n3 c3) (hb : Below W.heap.size W W') : RdAt w W' ub db rb vb U V x D a b1 b2 a3 n c m1 m2 q1 q2 n3 c3 :=
  ⟨heap_below h.ubox hb (heap_lt h.ubox), h.unit.later hb, h.disk.later hb, h.base, h.far, heap_below h.rbox hb (heap_lt h.rbox), heap_below h.vbox hb (heap_lt h.vbox), h.vunit.later hb, h.rfar, h.vfar⟩

/-- d = .. -/
theorem RdAt.put {w W : World} {ub db rb vb : Nat} {U V : Un} {x : Rc} {D D' : Dk} {a b1 b2 a3 e1 e2 : Option Addr} {n c m1 m2 q1 q2 n3 c3 j1 j2 s1 s2 : Nat} (hL : Laid w) (h : RdAt w W ub db rb vb U V x D a b1 b2 a3 n c m1 m2 q1 q2 n3 c3) (hd : DiskR W (.slice e1 j1 s1) (.slice e2 j2 s2) D') :
    RdAt w ((W.setCell ⟨db, 0, none⟩ (.slice e1 j1 s1)).setCell ⟨db, 1, none⟩ (.slice e2 j2 s2)) ub db rb vb U V x D' a e1 e2 a3 n c j1 j2 s1 s2 n3 c3 := by
  have ot : ∀ g, g ≠ db → ((W.setCell ⟨db, 0, none⟩ (.slice e1 j1 s1)).setCell ⟨db, 1, none⟩ (.slice e2 j2 s2)).heap[g]? = W.heap[g]? := fun g hg => by
    rw [Below.heap_setCell _ _ _ _ (by show g ≠ db; exact hg), Below.heap_setCell _ _ _ _ (by show g ≠ db; exact hg)]
  exact ⟨(ot ub h.far).trans h.ubox, unit_apartD h.unit h.disk.box _ _, h.disk.store hL hd, h.base, h.far, (ot rb h.rfar).trans h.rbox, (ot vb h.vfar).trans h.vbox, unit_apartD h.vunit h.disk.box _ _, h.rfar, h.vfar⟩

/-- u = v. -/
theorem RdAt.take {w W : World} {ub db rb vb : Nat} {U V : Un} {x : Rc} {rs : List Rc} {a b1 b2 a3 : Option Addr} {n c m1 m2 q1 q2 n3 c3 : Nat} (hL : Laid w) (h : RdAt w W ub db rb vb U V x (rtxt rs, []) a b1 b2 a3 n c m1 m2 q1 q2 n3 c3) :
    OnAt w ((W.setCell ⟨ub, 0, none⟩ (.int .i64 V.p)).setCell ⟨ub, 1, none⟩ (.slice a3 n3 c3)) ub db V rs a3 b1 b2 n3 c3 m1 m2 q1 q2 :=
  OnAt.store hL ⟨h.ubox, h.unit, h.disk, h.base, h.far⟩ h.vunit

end Go.Proofs.YtnmapehbcccbhadDoor
namespace Go.Proofs.YtnmapehbcccbhadDoor
open Go.RowKit
open scoped Classical

set_option linter.unusedSimpArgs false in
set_option maxHeartbeats 8000000 in
set_option maxRecDepth 100000 in
theorem unitOnce_at (hK : Units) (hD : Disks3) (a : Option Addr) (n c : Nat) (l : List Rc) (w : World) (hL : Laid w) (hv : RecSl w (.slice a n c) l) (hnc : n ≤ c) (m : Nat) (hm : min n 80 = m) :
    Calls Tryd.prog 4 #[.slice a n c] w fun e w' => e = .returned (.bool true) ∧ Below w.heap.size w w' := by
  have HK : Aside Units := hK
  have HD : Aside Disks3 := hD
  have HL : Aside (Laid w) := hL
  have HV : Aside (RecSl w (.slice a m c) (l.take m)) := hv.upto m (by omega)
  have k1 := stood_any hK w
  have hmi : min (n : Int) 80 = (m : Int) := by omega
  have hmc : (m : Int) ≤ (c : Int) := by omega
  have hm0 : (0 : Int) ≤ (m : Int) := by omega
  have HM : Hid (m ≤ 80 ∧ m ≤ n) := ⟨by omega, by omega⟩
  have HLN : Hid ((l.take m).length = m) := by
    have := hv.len
    rw [Hid, List.length_take]; omega
  clear hK hD hL hv
  go_enter Tryd.func4, Tryd.ntmps4
  go_wp2_with fail
  refine k1.mono ?_
  rintro e w1 ⟨rfl, hb1⟩
  clear k1
  go_wp2_with fail
  refine (HK.out.new w1).mono ?_
  rintro e w2 ⟨v2, rfl, hU2, hb2⟩
  obtain ⟨a2, n2, c2, rfl, _⟩ := id hU2.room
  have hB2 := step_below1 hb1 hb2
  clear hb1 hb2
  go_wp2_with fail
  have hU3 := hU2.later (grew (grew (Below.refl w2.heap.size w2) (boxU 1 (.slice a2 n2 c2))) (boxD nilB nilB))
  have hO : OnAt w ((w2.alloc (boxU 1 (.slice a2 n2 c2))).alloc (boxD nilB nilB)) w2.heap.size (w2.heap.size + 1) unew [] a2 none none n2 c2 0 0 0 0 := by
    have hbu := grew hB2 (boxU 1 (.slice a2 n2 c2))
    have hbx := BoxR.new HL.out hbu (nilR _)
    rw [World.size_alloc] at hbx
    exact ⟨heap_old (heap_new _ _) _, hU3, hbx, hB2.size, by omega⟩
  have HS0 : Aside (OnSt w ((w2.alloc (boxU 1 (.slice a2 n2 c2))).alloc (boxD nilB nilB)) w2.heap.size (w2.heap.size + 1) 0) := ⟨unew, [], a2, none, none, n2, c2, 0, 0, 0, 0, hO, fun x hx => (by cases hx), Nat.le_refl _, rfl, unew_ck⟩
  clear hU2 hU3 hO hB2
  generalize w2.heap.size = ub at *
  go_loopw [25] (fun i wr => ∃ k : Nat, k ≤ m ∧ i = .int .i64 k ∧ OnSt w wr ub (ub + 1) k) (fun i _ => m - (intOf i).toNat)
  case atStart => exact ⟨0, Nat.zero_le _, rfl, HS0.out⟩
  case round =>
    clear HS0
    obtain ⟨k, hk, rfl, U, rs, a1, b1, b2, n1, cu, m1, m2, q1, q2, hO, hgood, hlen, hfold, hck⟩ := hrel
    by_cases hlt : k < m
    · obtain ⟨x, hx⟩ : ∃ x, (l.take m)[k]? = some x := ⟨(l.take m)[k]'(by have := HLN.out; omega), List.getElem?_eq_getElem _⟩
      obtain ⟨b, off, rfl, hE0⟩ := HV.out.at (by omega)
      have hE := hE0.later hO.disk.below
      have r0 : wr.cell? ⟨b, off + k * 8, none⟩ = some (.int .i64 x.k) := hE k x hx 0 _ rfl
      have r1 : wr.cell? ⟨b, off + k * 8 + 1, none⟩ = some (.int .i64 x.a) := hE k x hx 1 _ rfl
      have r2 : wr.cell? ⟨b, off + k * 8 + 2, none⟩ = some (.int .i64 x.p) := hE k x hx 2 _ rfl
      have r3 : wr.cell? ⟨b, off + k * 8 + 3, none⟩ = some (.int .i64 x.e.k) := hE k x hx 3 _ rfl
      have r4 : wr.cell? ⟨b, off + k * 8 + 4, none⟩ = some (.int .i64 x.e.j) := hE k x hx 4 _ rfl
      have r5 : wr.cell? ⟨b, off + k * 8 + 5, none⟩ = some (.int .i64 x.e.v) := hE k x hx 5 _ rfl
      have r6 : wr.cell? ⟨b, off + k * 8 + 6, none⟩ = some (.int .i64 x.e.t) := hE k x hx 6 _ rfl
      have r7 : wr.cell? ⟨b, off + k * 8 + 7, none⟩ = some (.int .i64 x.e.c) := hE k x hx 7 _ rfl
      have hO1 := hO.later (grew (Below.refl wr.heap.size wr) (boxRc x))
      have hr1 := heap_new wr (boxRc x)
      have hkn := HK.out.next _ U x _ hO1.unit (by rw [(Un.ck_zero.1 hck).2.1]; decide)
      have z0 : ∀ i, wr.cell? ⟨ub, i, none⟩ = #[Value.int .i64 U.p, .slice a1 n1 cu][i]? := fun i => Joins.cell_of_block hO.ubox i
      have hubl := heap_lt hO.ubox
      have hdb : ub + 1 < wr.heap.size := heap_lt hO.disk.box
      have hone : Hid ((unext U x).2 = 0 → x.chk = 0 ∧ (unext U x).1.ck = 0 ∧ U.p ≤ (unext U x).1.p ∧ ufold unew (rs ++ [x]) = ((unext U x).1, 0) ∧ (∀ (j : Nat) (cc : En), U.cells[j]? = some cc → ∃ y, (unext U x).1.cells[j]? = some y ∧ (y = cc ∨ (cc = blankE ∧ x.k = 1 ∧ x.a = (j : Int) ∧ y = x.e ∧ unlike x.e.k x.e.j x.e.v x.e.t x.e.c 4 0 0 0 0 = true)))) := fun h0 =>
        ⟨(unext_ok h0).2.1, unext_ck h0, unext_epoch h0, by have h1 := ufold_snoc rs unew x (by rw [hfold]) (by rw [hfold]; exact h0); rw [h1, hfold], fun j cc hcc => once_cases h0 hcc⟩
      obtain ⟨⟨V, f⟩, hun⟩ : ∃ q, unext U x = q := ⟨_, rfl⟩
      rw [hun] at hkn hone
      replace hone : Hid (f = 0 → x.chk = 0 ∧ V.ck = 0 ∧ U.p ≤ V.p ∧ ufold unew (rs ++ [x]) = (V, 0) ∧ (∀ (j : Nat) (cc : En), U.cells[j]? = some cc → ∃ y, V.cells[j]? = some y ∧ (y = cc ∨ (cc = blankE ∧ x.k = 1 ∧ x.a = (j : Int) ∧ y = x.e ∧ unlike x.e.k x.e.j x.e.v x.e.t x.e.c 4 0 0 0 0 = true)))) := hone
      have HO1 : Aside _ := hO1
      have HR1 : Aside _ := hr1
      have HG : Hid ((∀ z, z ∈ rs → z.chk = 0) ∧ rs.length ≤ k ∧ ufold unew rs = (U, 0) ∧ U.ck = 0) := ⟨hgood, hlen, hfold, hck⟩
      clear hE hE0 hx hO hO1 hr1 hun hgood hlen hfold hck
      go_wp2_with fail
      refine hkn.mono ?_
      rintro e w3 ⟨v3, rfl, hV3, hb3⟩
      obtain ⟨a3, n3, cv, rfl, _⟩ := id hV3.room
      have hbb := grew hb3 (boxU V.p (.slice a3 n3 cv))
      have HO3 : Aside _ := HO1.out.later hbb
      have HR3 : Aside _ := heap_below HR1.out hbb (heap_lt HR1.out)
      have HV3 : Aside _ := hV3.later (grew (Below.refl w3.heap.size w3) (boxU V.p (.slice a3 n3 cv)))
      have HX3 : Aside _ := heap_new w3 (boxU V.p (.slice a3 n3 cv))
      have hrv : wr.heap.size < w3.heap.size := by have := hb3.size; simp at this; omega
      clear hkn hV3 hb3 hbb HO1 HR1 r0 r1 r2 r3 r4 r5 r6 r7 z0
      go_upto_region 9 with fail
      generalize w3.alloc (boxU V.p (.slice a3 n3 cv)) = Y at *
      generalize w3.heap.size = vb at *
      generalize wr.heap.size = rb at *
      by_cases hf : f = 0
      · obtain ⟨hxc, hVc, hVp, hVf, hst⟩ := hone.out hf
        have hO3 := HO3.out
        have hR : RdAt w Y ub (ub + 1) rb vb U V x (rtxt rs, []) a1 b1 b2 a3 n1 cu m1 m2 q1 q2 n3 cv := ⟨hO3.ubox, hO3.unit, hO3.disk, hO3.base, hO3.far, HR3.out, HX3.out, HV3.out, by omega, by omega⟩
        have HR0 : Aside _ := hR
        have HST : Aside (∀ (j : Nat) (cc : En), U.cells[j]? = some cc → ∃ y, V.cells[j]? = some y ∧ (y = cc ∨ (cc = blankE ∧ x.k = 1 ∧ x.a = (j : Int) ∧ y = x.e ∧ unlike x.e.k x.e.j x.e.v x.e.t x.e.c 4 0 0 0 0 = true))) := hst
        have HVF : Hid (x.chk = 0 ∧ V.ck = 0 ∧ ufold unew (rs ++ [x]) = (V, 0)) := ⟨hxc, hVc, hVf⟩
        have hUl : U.cells.length = 60 := (Un.ck_zero.1 HG.out.2.2.2).2.1
        have hVl : V.cells.length = 60 := (Un.ck_zero.1 hVc).2.1
        have hn1 : n1 = 60 := by have := SlOf.len (cs := En.cells) (k := 5) hR.unit.ents; omega
        have hn3 : n3 = 60 := by have := SlOf.len (cs := En.cells) (k := 5) hR.vunit.ents; omega
        have hlt2 : decide (V.p < U.p) = false := by rw [decide_eq_false_iff_not]; omega
        have hkc := HK.out.check _ V Y hR.vunit (by rw [hVl]; decide)
        rw [hVc] at hkc
        have z7 : ∀ i, Y.cell? ⟨vb, i, none⟩ = #[Value.int .i64 V.p, .slice a3 n3 cv][i]? := fun i => Joins.cell_of_block hR.vbox i
        have hfb : (f != 0) = false := by rw [hf]; rfl
        subst hn1 hn3
        clear hone HO3 HR3 HV3 HX3 hst hO3 hR hf hxc hVc hVf hubl
        go_wp2_with fail
        refine hkc.mono ?_
        rintro e w4 ⟨rfl, hb4⟩
        have HR4 : Aside _ := HR0.out.later hb4
        have z7 : ∀ i, w4.cell? ⟨vb, i, none⟩ = #[Value.int .i64 V.p, .slice a3 60 cv][i]? := fun i => Joins.cell_of_block HR4.out.vbox i
        have z3 : ∀ i, w4.cell? ⟨ub, i, none⟩ = #[Value.int .i64 U.p, .slice a1 60 cu][i]? := fun i => Joins.cell_of_block HR4.out.ubox i
        clear hkc hb4 HR0
        go_wp2
        obtain ⟨bu, ou, e1', hEu⟩ := SlOf.at (cs := En.cells) (k := 5) HR4.out.unit.ents (by omega)
        obtain ⟨bv, ov, e3', hEv⟩ := SlOf.at (cs := En.cells) (k := 5) HR4.out.vunit.ents (by omega)
        subst e1' e3'
        have HEu : Aside (RowAt En.cells 5 w4 bu ou U.cells) := hEu
        have HEv : Aside (RowAt En.cells 5 w4 bv ov V.cells) := hEv
        have HUV : Hid (U.cells.length = 60 ∧ V.cells.length = 60) := ⟨hUl, hVl⟩
        clear hEu hEv z7 z3 hUl hVl
        go_loopw [50] (fun i wi => ∃ j : Nat, j ≤ 60 ∧ i = .int .i64 j ∧ Below w4.heap.size w4 wi) (fun i _ => 60 - (intOf i).toNat)
        case atStart => exact ⟨0, Nat.zero_le _, rfl, Below.refl _ _⟩
        case round =>
          obtain ⟨j, hj, rfl, hBi⟩ := hrel
          by_cases hjl : j < 60
          · obtain ⟨cc, hcc⟩ : ∃ cc, U.cells[j]? = some cc := ⟨U.cells[j]'(by have := HUV.out.1; omega), List.getElem?_eq_getElem _⟩
            obtain ⟨y, hy, hyc⟩ := HST.out j cc hcc
            have hEu := RowAt.later HEu.out hBi
            have hEv := RowAt.later HEv.out (grew hBi (boxE cc.k cc.j cc.v cc.t cc.c))
            have c0 : wr.cell? ⟨bu, ou + j * 5, none⟩ = some (.int .i64 cc.k) := hEu j cc hcc 0 _ rfl
            have c1 : wr.cell? ⟨bu, ou + j * 5 + 1, none⟩ = some (.int .i64 cc.j) := hEu j cc hcc 1 _ rfl
            have c2 : wr.cell? ⟨bu, ou + j * 5 + 2, none⟩ = some (.int .i64 cc.v) := hEu j cc hcc 2 _ rfl
            have c3 : wr.cell? ⟨bu, ou + j * 5 + 3, none⟩ = some (.int .i64 cc.t) := hEu j cc hcc 3 _ rfl
            have c4 : wr.cell? ⟨bu, ou + j * 5 + 4, none⟩ = some (.int .i64 cc.c) := hEu j cc hcc 4 _ rfl
            have d0 : (wr.alloc (boxE cc.k cc.j cc.v cc.t cc.c)).cell? ⟨bv, ov + j * 5, none⟩ = some (.int .i64 y.k) := hEv j y hy 0 _ rfl
            have d1 : (wr.alloc (boxE cc.k cc.j cc.v cc.t cc.c)).cell? ⟨bv, ov + j * 5 + 1, none⟩ = some (.int .i64 y.j) := hEv j y hy 1 _ rfl
            have d2 : (wr.alloc (boxE cc.k cc.j cc.v cc.t cc.c)).cell? ⟨bv, ov + j * 5 + 2, none⟩ = some (.int .i64 y.v) := hEv j y hy 2 _ rfl
            have d3 : (wr.alloc (boxE cc.k cc.j cc.v cc.t cc.c)).cell? ⟨bv, ov + j * 5 + 3, none⟩ = some (.int .i64 y.t) := hEv j y hy 3 _ rfl
            have d4 : (wr.alloc (boxE cc.k cc.j cc.v cc.t cc.c)).cell? ⟨bv, ov + j * 5 + 4, none⟩ = some (.int .i64 y.c) := hEv j y hy 4 _ rfl
            have hRi := HR4.out.later (grew hBi (boxE cc.k cc.j cc.v cc.t cc.c))
            have zc : ∀ i, (wr.alloc (boxE cc.k cc.j cc.v cc.t cc.c)).cell? ⟨wr.heap.size, i, none⟩ = #[Value.int .i64 cc.k, .int .i64 cc.j, .int .i64 cc.v, .int .i64 cc.t, .int .i64 cc.c][i]? := fun i => Joins.cell_of_block (heap_new _ _) i
            have zv : ∀ i, (wr.alloc (boxE cc.k cc.j cc.v cc.t cc.c)).cell? ⟨vb, i, none⟩ = #[Value.int .i64 V.p, .slice (some ⟨bv, ov, none⟩) 60 cv][i]? := fun i => Joins.cell_of_block hRi.vbox i
            have zr : ∀ i, (wr.alloc (boxE cc.k cc.j cc.v cc.t cc.c)).cell? ⟨rb, i, none⟩ = #[Value.int .i64 x.k, .int .i64 x.a, .int .i64 x.p, .int .i64 x.e.k, .int .i64 x.e.j, .int .i64 x.e.v, .int .i64 x.e.t, .int .i64 x.e.c][i]? := fun i => Joins.cell_of_block hRi.rbox i
            have HBi : Aside (Below w4.heap.size w4 (wr.alloc (boxE cc.k cc.j cc.v cc.t cc.c))) := grew hBi _
            have hj60 : (j : Int) < 60 := by omega
            have hj0 : (0 : Int) ≤ (j : Int) := by omega
            clear hEu hEv hRi hBi hcc hy
            go_upto_region 15 with fail
            generalize wr.alloc (boxE cc.k cc.j cc.v cc.t cc.c) = Z at *
            generalize wr.heap.size = cb at *
            clear c0 c1 c2 c3 c4
            have hn1 := fun W => neq_entry y.k y.j y.v y.t y.c cc.k cc.j cc.v cc.t cc.c W
            have hn2 := fun W => neq_entry y.k y.j y.v y.t y.c x.e.k x.e.j x.e.v x.e.t x.e.c W
            rcases hyc with rfl | ⟨rfl, hxk, hxa, rfl, hul⟩
            · rw [show unlike y.k y.j y.v y.t y.c y.k y.j y.v y.t y.c = false by simp [unlike]] at hn1
              by_cases h4 : y.k = 4
              · have h4a : (y.k != 4) = false := by rw [h4]; rfl
                have h4b : (y.k == 4) = true := by rw [h4]; rfl
                clear h4
                go_quiet (fail)
                go_wp2
                go_roundw
                case rel => exact ⟨j + 1, by omega, by go_num, below_drewN HBi.out _⟩
                case measure => simp [intOf]; omega
              · have h4a : (y.k != 4) = true := by rw [bne_iff_ne]; exact h4
                have h4b : (y.k == 4) = false := by rw [beq_eq_false_iff_ne]; exact h4
                clear h4
                go_quiet (fail)
                go_wp2
                go_roundw
                case rel => exact ⟨j + 1, by omega, by go_num, below_drewN HBi.out _⟩
                case measure => simp [intOf]; omega
            · simp only [blankE] at zc hn1
              rw [hul] at hn1
              rw [show unlike x.e.k x.e.j x.e.v x.e.t x.e.c x.e.k x.e.j x.e.v x.e.t x.e.c = false by simp [unlike]] at hn2
              have hx1 : (x.k != 1) = false := by rw [hxk]; rfl
              have hx2 : (x.a != (j : Int)) = false := by rw [hxa]; simp
              clear hxk hxa hul
              go_quiet (fail)
              go_wp2
              go_roundw
              case rel => exact ⟨j + 1, by omega, by go_num, below_drewN HBi.out _⟩
              case measure => simp [intOf]; omega
          · obtain rfl : j = 60 := by omega
            have hRi := HR4.out.later hBi
            have zd : ∀ i, wr.cell? ⟨ub + 1, i, none⟩ = #[Value.slice b1 m1 q1, .slice b2 m2 q2][i]? := fun i => Joins.cell_of_block hRi.disk.box i
            have zr : ∀ i, wr.cell? ⟨rb, i, none⟩ = #[Value.int .i64 x.k, .int .i64 x.a, .int .i64 x.p, .int .i64 x.e.k, .int .i64 x.e.j, .int .i64 x.e.v, .int .i64 x.e.t, .int .i64 x.e.c][i]? := fun i => Joins.cell_of_block hRi.rbox i
            have hln : (rtxt rs).length ≤ 80 * 301 := by
              have h1 := rtxt_len rs HG.out.1
              have h2 := HG.out.2.1
              have h3 := HM.out.1
              have h4 : rs.length * 301 ≤ 80 * 301 := Nat.mul_le_mul_right _ (by omega)
              omega
            have hrl : rs.length < 80 := by have := HG.out.2.1; have := HM.out.1; omega
            have kp := HD.out.put _ _ (rtxt rs, []) x wr hRi.disk.laid hRi.disk.disk (by show (rtxt rs).length ≤ topLen; unfold topLen; omega) (Nat.zero_le _)
            rw [show dput (rtxt rs, ([] : List UInt8)).1 (rtxt rs, ([] : List UInt8)).2 x = _ from once_put HG.out.1 HVF.out.1 hrl] at kp
            have hxl : (x.txt ++ [10]).length ≤ topLen := by
              have := rc_len300 HVF.out.1
              rw [List.length_append]; show x.txt.length + 1 ≤ topLen; unfold topLen; omega
            have HRi : Aside _ := hRi
            have HLE : Hid ((rtxt rs).length ≤ 80 * 301 ∧ rs.length < 80 ∧ (x.txt ++ [10]).length ≤ topLen) := ⟨hln, hrl, hxl⟩
            clear hRi hBi hln hrl hxl HR4 HST HEu HEv HUV
            go_wp2_with fail
            refine kp.mono ?_
            rintro e w5 ⟨u5, u5', rfl, hd5, hb5, _⟩
            obtain ⟨e1, s1, e2, s2, rfl, rfl⟩ := hd5.forms
            dsimp only at hd5 ⊢
            obtain ⟨j1, hj1⟩ : ∃ j1 : Nat, (rtxt rs).length = j1 := ⟨_, rfl⟩
            obtain ⟨j2, hj2⟩ : ∃ j2 : Nat, (x.txt ++ [10]).length = j2 := ⟨_, rfl⟩
            rw [hj1, hj2] at hd5 ⊢
            have hR5 := HRi.out.later hb5
            have y5 : ∀ i, w5.cell? ⟨ub + 1, i, none⟩ = #[Value.slice b1 m1 q1, .slice b2 m2 q2][i]? := fun i => Joins.cell_of_block hR5.disk.box i
            have f5 : ∀ i, w5.frozen? ⟨ub + 1, i, none⟩ = false := fun i => Joins.unfrozen_of_block hR5.disk.box i
            have HR6 : Aside _ := hR5.put HL.out hd5
            clear kp hb5 hd5 hR5 zd zr HRi hj1 hj2
            go_upto_region 19 with fail
            generalize (w5.setCell ⟨ub + 1, 0, none⟩ (.slice e1 j1 s1)).setCell ⟨ub + 1, 1, none⟩ (.slice e2 j2 s2) = W6 at *
            clear y5 f5
            have zd : ∀ i, W6.cell? ⟨ub + 1, i, none⟩ = #[Value.slice e1 j1 s1, .slice e2 j2 s2][i]? := fun i => Joins.cell_of_block HR6.out.disk.box i
            have ks := HD.out.sync _ _ (rtxt rs, x.txt ++ [10]) W6 HR6.out.disk.laid HR6.out.disk.disk (by have := HLE.out.1; show (rtxt rs).length ≤ topLen; unfold topLen; omega) HLE.out.2.2
            rw [show dsync (rtxt rs, x.txt ++ [10]).1 (rtxt rs, x.txt ++ [10]).2 = _ from once_sync HG.out.1 HVF.out.1 HLE.out.2.1] at ks
            go_wp2_with fail
            refine ks.mono ?_
            rintro e w7 ⟨u7, u7', rfl, hd7, hb7, _⟩
            obtain ⟨g1, t1, g2, t2, rfl, rfl⟩ := hd7.forms
            dsimp only at hd7 ⊢
            obtain ⟨i1, hi1⟩ : ∃ i1 : Nat, (rtxt (rs ++ [x])).length = i1 := ⟨_, rfl⟩
            obtain ⟨i2, hi2⟩ : ∃ i2 : Nat, ([] : List UInt8).length = i2 := ⟨_, rfl⟩
            rw [hi1, hi2] at hd7 ⊢
            have hR7 := HR6.out.later hb7
            have y7 : ∀ i, w7.cell? ⟨ub + 1, i, none⟩ = #[Value.slice e1 j1 s1, .slice e2 j2 s2][i]? := fun i => Joins.cell_of_block hR7.disk.box i
            have f7 : ∀ i, w7.frozen? ⟨ub + 1, i, none⟩ = false := fun i => Joins.unfrozen_of_block hR7.disk.box i
            have HR8 : Aside _ := hR7.put HL.out hd7
            clear ks hb7 hd7 hR7 zd HR6 hi1 hi2
            go_upto_region 22 with fail
            generalize (w7.setCell ⟨ub + 1, 0, none⟩ (.slice g1 i1 t1)).setCell ⟨ub + 1, 1, none⟩ (.slice g2 i2 t2) = W8 at *
            clear y7 f7
            have zv : ∀ i, W8.cell? ⟨vb, i, none⟩ = #[Value.int .i64 V.p, .slice (some ⟨bv, ov, none⟩) 60 cv][i]? := fun i => Joins.cell_of_block HR8.out.vbox i
            have zu : ∀ i, W8.cell? ⟨ub, i, none⟩ = #[Value.int .i64 U.p, .slice (some ⟨bu, ou, none⟩) 60 cu][i]? := fun i => Joins.cell_of_block HR8.out.ubox i
            have fu : ∀ i, W8.frozen? ⟨ub, i, none⟩ = false := fun i => Joins.unfrozen_of_block HR8.out.ubox i
            have HS9 : Aside (OnSt w _ ub (ub + 1) (k + 1)) := ⟨V, rs ++ [x], _, _, _, _, _, _, _, _, _, HR8.out.take HL.out, good_snoc HG.out.1 HVF.out.1, by have := HG.out.2.1; simp; omega, HVF.out.2.2, HVF.out.2.1⟩
            clear HR8
            go_wp2
            go_roundw
            case rel => exact ⟨k + 1, by omega, by go_num, HS9.out⟩
            case measure => simp [intOf]; omega
      · have hfb : (f != 0) = true := by rw [bne_iff_ne]; exact hf
        clear hone hf
        go_wp2
        go_roundw
        case rel => exact ⟨k + 1, by omega, by go_num, U, rs, a1, b1, b2, n1, cu, m1, m2, q1, q2, HO3.out, HG.out.1, by have := HG.out.2.1; omega, HG.out.2.2.1, HG.out.2.2.2⟩
        case measure => simp [intOf]; omega
    · obtain rfl : k = m := by omega
      have zd : ∀ i, wr.cell? ⟨ub + 1, i, none⟩ = #[Value.slice b1 m1 q1, .slice b2 m2 q2][i]? := fun i => Joins.cell_of_block hO.disk.box i
      have hrl : rs.length ≤ 80 := by have := HM.out.1; omega
      have hln : (rtxt rs).length ≤ 80 * 301 := by
        have h1 := rtxt_len rs hgood
        have h4 : rs.length * 301 ≤ 80 * 301 := Nat.mul_le_mul_right _ (by omega)
        omega
      have kr := HD.out.recover _ _ (rtxt rs, []) wr hO.disk.laid hO.disk.disk (by show (rtxt rs).length ≤ topLen; unfold topLen; omega) (Nat.zero_le _)
      rw [show drecover (rtxt rs, ([] : List UInt8)).1 (rtxt rs, ([] : List UInt8)).2 = _ from once_recover hgood hrl] at kr
      have hof : unitOf rs = (U, 0) := by rw [unitOf, if_neg (by omega), hfold]
      have hUl : U.cells.length ≤ topN := by rw [(Un.ck_zero.1 hck).2.1]; decide
      have HO : Aside _ := hO
      have HF : Hid (unitOf rs = (U, 0) ∧ U.cells.length ≤ topN ∧ rs.length ≤ 80) := ⟨hof, hUl, hrl⟩
      clear hO hgood hlen hfold hck hrl hln hof hUl
      go_wp2_with fail
      refine kr.mono ?_
      rintro e w5 ⟨u5, u5', u6, rfl, hd5, hm5, hb5, hroom⟩
      obtain ⟨e1, s1, e2, s2, rfl, rfl⟩ := hd5.forms
      dsimp only at hd5 hm5 ⊢
      obtain ⟨j1, hj1⟩ : ∃ j1 : Nat, (rtxt rs).length = j1 := ⟨_, rfl⟩
      obtain ⟨j2, hj2⟩ : ∃ j2 : Nat, ([] : List UInt8).length = j2 := ⟨_, rfl⟩
      rw [hj1, hj2] at hd5 ⊢
      obtain ⟨am, nm, cm, rfl, hnm⟩ := hroom
      have hbb := grew hb5 (boxD (.slice e1 j1 s1) (.slice e2 j2 s2))
      have HO5 : Aside _ := HO.out.later hbb
      have kv := HK.out.replay _ rs (w5.alloc (boxD (.slice e1 j1 s1) (.slice e2 j2 s2))) (SlOf.later hm5 (grew (Below.refl _ _) _)) ⟨_, _, _, rfl, hnm⟩ (by have := HF.out.2.2; show rs.length ≤ topN; unfold topN; omega)
      rw [HF.out.1] at kv
      clear kr hb5 hbb hd5 hm5 zd HO hj1 hj2 hnm
      go_wp2_with fail
      refine kv.mono ?_
      rintro e w6 ⟨v6, rfl, hU6, hb6⟩
      obtain ⟨a6, n6, c6, rfl, _⟩ := id hU6.room
      have hbb := grew hb6 (boxU U.p (.slice a6 n6 c6))
      have HO6 : Aside _ := HO5.out.later hbb
      have HX6 : Aside _ := heap_new w6 (boxU U.p (.slice a6 n6 c6))
      have HU6 : Aside _ := hU6.later (grew (Below.refl w6.heap.size w6) (boxU U.p (.slice a6 n6 c6)))
      clear kv hb6 hbb hU6 HO5
      go_upto_region 28 with fail
      generalize w6.alloc (boxU U.p (.slice a6 n6 c6)) = Y at *
      generalize w6.heap.size = vb at *
      have zu : ∀ i, Y.cell? ⟨ub, i, none⟩ = #[Value.int .i64 U.p, .slice a1 n1 cu][i]? := fun i => Joins.cell_of_block HO6.out.ubox i
      have zv : ∀ i, Y.cell? ⟨vb, i, none⟩ = #[Value.int .i64 U.p, .slice a6 n6 c6][i]? := fun i => Joins.cell_of_block HX6.out i
      have ks := HK.out.same _ _ U U Y HO6.out.unit HU6.out HF.out.2.1 HF.out.2.1
      rw [decide_eq_true rfl] at ks
      go_wp2_with fail
      refine ks.mono ?_
      rintro e w7 ⟨rfl, hb7⟩
      have HB7 : Aside (Below w.heap.size w w7) := HO6.out.disk.below.trans (hb7.mono HO6.out.disk.below.size)
      clear ks hb7 HO6 HX6 HU6 zu zv
      go_wp2
      go_ret
      exact ⟨rfl, HB7.out⟩

/-- UnitOnce, at every row of records. -/
theorem unitOnce_any (hK : Units) (hD : Disks3) (v : Value) (l : List Rc) (w : World) (hL : Laid w) (hv : RecSl w v l) (hr : Roomy v) :
    Calls Tryd.prog 4 #[v] w fun e w' => e = .returned (.bool true) ∧ Below w.heap.size w w' := by
  obtain ⟨a, n, c, rfl, hnc⟩ := hr
  exact unitOnce_at hK hD a n c l w hL hv hnc _ rfl

end Go.Proofs.YtnmapehbcccbhadDoor
