/- The walk of DiskKeeps, given package disk's contracts. -/
import Derived.Test.YtknjdbpdlodpbadDoorDiskI
import Derived.Test.YtknjdbpdlodpbadDoorLast
namespace Go.Proofs.YtknjdbpdlodpbadDoor
open Go.RowKit
open scoped Classical

set_option maxHeartbeats 1000000 in
theorem at_any (k n : Int) (h0 : 1 ≤ n) (h1 : n ≤ 40000) (w : World) :
    Calls Tryd.prog 9 #[.int .i64 k, .int .i64 n] w fun e w' => (∃ r : Nat, e = .returned (.int .i64 r) ∧ (r : Int) < n) ∧ w' = w := by
  have hz : (n == 0) = false := by rw [beq_eq_false_iff_ne]; omega
  have hz' : n ≠ 0 := by omega
  have hm1 : -n < Int.tmod k n := by have := Int.lt_tmod_of_pos k (show 0 < n by omega); omega
  have hm2 : Int.tmod k n < n := Int.tmod_lt_of_pos k (by omega)
  obtain ⟨t, ht⟩ : ∃ t, Int.tmod k n = t := ⟨_, rfl⟩
  have hw : IntKind.i64.wrap (Int.tmod k n) = t := by rw [ht, IntKind.wrap_i64]; omega
  rw [ht] at hm1 hm2
  by_cases hneg : t < 0
  · have hw2 : IntKind.i64.wrap (t + n) = t + n := by rw [IntKind.wrap_i64]; omega
    go_enter Tryd.func9, Tryd.ntmps9
    go_wp2
    go_ret
    exact ⟨⟨(t + n).toNat, by simp; omega, by omega⟩, rfl⟩
  · have hpos : 0 ≤ t := by omega
    go_enter Tryd.func9, Tryd.ntmps9
    go_wp2
    go_ret
    exact ⟨⟨t.toNat, by simp; omega, by omega⟩, rfl⟩

theorem sync_rows {A : List Rc} (h : ∀ c, c ∈ A → c.chk = 0) (hl : A.length ≤ 20) (hck : ckDisk [] (rtxt A) = 0) : dsync [] (rtxt A) = ((rtxt A, []), 0) := by
  have h1 := (ckDisk_zero.1 hck).1
  have h2 : ckDisk ([] ++ rtxt A) [] = 0 := ckDisk_zero.2 ⟨by simpa using h1, by rw [List.nil_append, lines_all h (by omega)]⟩
  rw [dsync, if_neg (by rw [hck]; simp), synced, if_neg (by rw [h2]; simp), List.nil_append]

theorem crash_rows {s t : List UInt8} (hck : ckDisk s t = 0) (r : Nat) (hr : r ≤ t.length) : dcrash s t r = ((s, t.take r), 0) := by
  rw [dcrash, if_neg (by rw [hck]; simp), if_neg (by omega)]
  rfl

theorem ck_take {s t : List UInt8} (hck : ckDisk s t = 0) (r : Nat) : ckDisk s (t.take r) = 0 := by
  obtain ⟨h1, h2⟩ := ckDisk_zero.1 hck
  exact ckDisk_zero.2 ⟨by rw [List.length_take]; omega, h2⟩

theorem recover_rows {A B : List Rc} (hA : ∀ c, c ∈ A → c.chk = 0) (hB : ∀ c, c ∈ B → c.chk = 0) (lA : A.length ≤ 20) (lB : B.length ≤ 20) (hck : ckDisk (rtxt A) (rtxt B) = 0) (r : Nat) :
    ∃ j, j ≤ B.length ∧ drecover (rtxt A) ((rtxt B).take r) = ((rtxt (A ++ B.take j), []), A ++ B.take j, 0) ∧ ckDisk (rtxt (A ++ B.take j)) [] = 0 := by
  obtain ⟨j, e, hj, he, hk⟩ := lines_torn hB (most := 160 - A.length) (by omega) r
  have hg : ∀ c, c ∈ A ++ B.take j → c.chk = 0 := fun c hc => (List.mem_append.1 hc).elim (hA c) (fun h => hB c (List.mem_of_mem_take h))
  have e1 : ((rtxt B).take r).take (rtxt (B.take j)).length = rtxt (B.take j) := by rw [List.take_take, Nat.min_eq_left hk, rtxt_take]
  have hlen : (rtxt (A ++ B.take j)).length ≤ 30000 := by
    have h1 := (ckDisk_zero.1 hck).1
    have h2 : (rtxt (B.take j)).length ≤ (rtxt B).length := by rw [← rtxt_take B j, List.length_take]; omega
    rw [rtxt_append, List.length_append]
    omega
  refine ⟨j, hj, ?_, ckDisk_zero.2 ⟨by simpa using hlen, by rw [lines_all hg (by rw [List.length_append, List.length_take]; omega)]⟩⟩
  rw [drecover, if_neg (by rw [ck_take hck]; simp), recovered, lines_all hA (by omega), he]
  simp only
  rw [e1, rtxt_append]

theorem recover_again {C : List Rc} (h : ∀ c, c ∈ C → c.chk = 0) (hl : C.length ≤ 160) (hck : ckDisk (rtxt C) [] = 0) : drecover (rtxt C) [] = ((rtxt C, []), C, 0) := by
  rw [drecover, if_neg (by rw [hck]; simp), recovered, lines_all h hl, dk_nil_lines]
  simp

/-- The two cells of the disk's box. -/
abbrev PtD (w : World) (b : Nat) (v1 v2 : Value) : Prop := w.cell? ⟨b, 0, none⟩ = some v1 ∧ w.cell? ⟨b, 1, none⟩ = some v2

theorem Wst.recs {w W wr : World} {D : Nat} {l : Value} {m : Nat} {out : List Rc} {S T : List UInt8} {b1 b2 : Option Addr} {m1 m2 q1 q2 : Nat} (h : Wst w W wr D l m out S T b1 b2 m1 m2 q1 q2) : RecSl wr l out := by
  have hrow := h.row
  rw [← h.len] at hrow
  exact slOf_of_owns Rc.eight hrow

set_option linter.unusedSimpArgs false in
set_option maxHeartbeats 8000000 in
set_option maxRecDepth 100000 in
theorem diskKeeps_at (hK : Disks) (a1 a2 : Option Addr) (n1 n2 q1 q2 : Nat) (cs ds : List Rc) (n : Int) (w : World) (hL : Laid w) (hv1 : RecSl w (.slice a1 n1 q1) cs) (hv2 : RecSl w (.slice a2 n2 q2) ds) (hr1 : n1 ≤ q1) (hr2 : n2 ≤ q2) :
    Calls Tryd.prog 3 #[.slice a1 n1 q1, .slice a2 n2 q2, .int .i64 n] w fun e w' => e = .returned (.bool true) ∧ Below w.heap.size w w' := by
  have HK : Aside Disks := hK
  have HL : Aside (Laid w) := hL
  have HV1 : Aside _ := hv1
  have HV2 : Aside _ := hv2
  have hf := filed_any hK w hL
  clear hK hL hv1 hv2
  go_enter Tryd.func3, Tryd.ntmps3
  go_wp2_with fail
  refine hf.mono ?_
  rintro e w1 ⟨rfl, hb1⟩
  have B0 : BoxR w (w1.alloc (boxD nilB nilB)) w1.heap.size none none 0 0 0 0 ([], []) := BoxR.new HL.out hb1 (nilR w1)
  have hwr := write_at HK.out w _ HL.out w1.heap.size none none 0 0 0 0 [] [] B0 (ckDisk_zero.2 ⟨by simp, by rw [dk_nil_lines]⟩) a1 n1 q1 cs (SlOf.later HV1.out B0.below) hr1 (fun g hg => by cases hg) (fun g hg => by cases hg)
  have eg : ∀ args w, (callFunc 5 args).run Tryd.prog w = .ok (.enter 5 args) w := enters_of Tryd.func5 (by kernel_rfl) rfl
  clear hf hb1 B0
  go_wp2_with fail
  refine hwr.mono ?_
  rintro e w2 ⟨ua, mA, A, b1, b2, m1, m2, s1, s2, rfl, hmA, WA⟩
  generalize w1.heap.size = D at *
  obtain ⟨aa, ca, rfl⟩ : ∃ aa ca, ua = .slice aa mA ca := by
    rcases WA.row.2 with ⟨h1, h2⟩ | ⟨g, cap, cur, h1, _⟩
    · exact ⟨none, 0, by rw [h1, h2]⟩
    · exact ⟨_, cap, h1⟩
  have hckA : ckDisk [] (rtxt A) = 0 := WA.ck
  have k := HK.out.sync _ _ ([], [] ++ rtxt A) w2 WA.box.laid WA.box.disk (by simp) (by have := (ckDisk_zero.1 hckA).1; simp at this ⊢; unfold topLen; omega)
  dsimp only at k
  rw [List.nil_append, sync_rows WA.good (by have := WA.len; omega) hckA] at k
  have zD : ∀ i, w2.cell? ⟨D, i, none⟩ = #[Value.slice b1 m1 s1, .slice b2 m2 s2][i]? := fun i => Joins.cell_of_block WA.box.box i
  have HA : Aside (A.length = mA ∧ mA ≤ 20 ∧ (∀ c, c ∈ A → c.chk = 0) ∧ ckDisk [] (rtxt A) = 0) := ⟨WA.len, hmA, WA.good, hckA⟩
  clear hwr
  go_wp2_with fail
  refine k.mono ?_
  rintro e w3 ⟨u1, u2, rfl, hd, hb, near1, near2⟩
  obtain ⟨e1, t1, e2, t2, rfl, rfl⟩ := hd.forms
  dsimp only at hd near1 near2 ⊢
  obtain ⟨j1, hj1⟩ : ∃ j1, (rtxt A).length = j1 := ⟨_, rfl⟩
  obtain ⟨j2, hj2⟩ : ∃ j2, ([] : List UInt8).length = j2 := ⟨_, rfl⟩
  rw [hj1] at hd near1 ⊢
  rw [hj2] at hd near2 ⊢
  have W3 := WA.later hb
  have B3 := W3.box.store HL.out hd
  have RA3 := bytes_two (e1 := e1) (e2 := e2) (m1 := j1) (m2 := j2) (d1 := t1) (d2 := t2) W3.box.box rc_num W3.recs
  have z3 : ∀ i, w3.cell? ⟨D, i, none⟩ = #[Value.slice b1 m1 s1, .slice b2 m2 s2][i]? := fun i => Joins.cell_of_block W3.box.box i
  have f3 : ∀ i, w3.frozen? ⟨D, i, none⟩ = false := fun i => Joins.unfrozen_of_block W3.box.box i
  have inn : ∀ (ee : Option Addr) (jj tt : Nat), Near w2 w3 (.slice b1 m1 s1) (.slice b2 m2 s2) (.slice ee jj tt) → ∀ g, (Value.slice ee jj tt).ownBlock = some g → g < ((w3.setCell ⟨D, 0, none⟩ (.slice e1 j1 t1)).setCell ⟨D, 1, none⟩ (.slice e2 j2 t2)).heap.size := fun ee jj tt hn g hg => by
    have hg3 : g < w3.heap.size := by
      rcases hn g hg with h | h | h
      · exact h.2
      · exact W3.in1 g h
      · exact W3.in2 g h
    simpa using hg3
  have hckA2 : ckDisk (rtxt A) [] = 0 := ckDisk_zero.2 ⟨by have := (ckDisk_zero.1 hckA).1; simpa using this, by rw [lines_all HA.out.2.2.1 (by have := HA.out.1; have := HA.out.2.1; omega)]⟩
  have hwr2 := write_at HK.out w _ HL.out D e1 e2 j1 j2 t1 t2 (rtxt A) [] B3 hckA2 a2 n2 q2 ds (SlOf.later HV2.out B3.below) hr2 (inn e1 j1 t1 near1) (inn e2 j2 t2 near2)
  have HB3 : Aside _ := B3.box
  have HRA3 : Aside _ := RA3
  clear k hd hb near1 near2 hj1 hj2 W3 B3 RA3 inn zD WA hckA
  go_wp2_with fail
  refine hwr2.mono ?_
  rintro e w4 ⟨ub, mB, B, c1, c2, v1, v2, p1, p2, rfl, hmB, WB⟩
  obtain ⟨ab, cb, rfl⟩ : ∃ ab cb, ub = .slice ab mB cb := by
    rcases WB.row.2 with ⟨h1, h2⟩ | ⟨g, cap, cur, h1, _⟩
    · exact ⟨none, 0, by rw [h1, h2]⟩
    · exact ⟨_, cap, h1⟩
  have RA4 : RecSl w4 (.slice aa mA ca) A := SlOf.rest Rc.eight (by decide) rc_num HRA3.out HB3.out WB.rest
  have RB4 : RecSl w4 (.slice ab mB cb) B := WB.recs
  have hckB : ckDisk (rtxt A) (rtxt B) = 0 := WB.ck
  have HBo : Aside (B.length = mB ∧ mB ≤ 20 ∧ (∀ c, c ∈ B → c.chk = 0) ∧ ckDisk (rtxt A) (rtxt B) = 0) := ⟨WB.len, hmB, WB.good, hckB⟩
  have B4 : BoxR w w4 D c1 c2 v1 v2 p1 p2 (rtxt A, rtxt B) := WB.box
  have hv2 : v2 = (rtxt B).length := by have := B4.disk.wait.len; exact this.symm
  have hl4 : v2 ≤ 30000 := by have := (ckDisk_zero.1 hckB).1; omega
  have R4 : Aside (RecSl w4 (.slice aa mA ca) A ∧ RecSl w4 (.slice ab mB cb) B) := ⟨RA4, RB4⟩
  have hS0 : PtD w4 D (.slice c1 v1 p1) (.slice c2 v2 p2) := ⟨Joins.cell_of_block B4.box 0, Joins.cell_of_block B4.box 1⟩
  have hatc := fun W => at_any n ((v2 : Int) + 1) (by omega) (by omega) W
  have hwp : IntKind.i64.wrap ((v2 : Int) + 1) = (v2 : Int) + 1 := by rw [IntKind.wrap_i64]; omega
  have HVL : Hid (v2 = (rtxt B).length) := hv2
  clear hwr2 WB RA4 RB4 hckB HB3 HRA3 z3 f3 hckA2 hv2
  go_wp2_with fail
  refine wp_region_noPanic ?_
  refine region_L (fun w' => PtD w' D (.slice c1 v1 p1) (.slice c2 v2 p2)) 11 (by kernel_rfl) hS0 (fun hHeld => ?_)
  refine anyL_take (i := 0) (oi := ?oi0) (v := ?v0) ?hi0 ?hs0 ?hf0 ?hr0 ?hL0 ?hl0 ?hQ0 (Or.inl ⟨?hw0, ?hy0⟩) (by assumption) ?h0
  case hi0 => (simp only [List.getElem?_toArray, List.getElem?_cons_succ, List.getElem?_cons_zero]; rfl)
  case hs0 => kernel_rfl
  case hf0 => kernel_rfl
  case hr0 => kernel_rfl
  case hL0 => kernel_rfl
  case hl0 => kernel_rfl
  case hw0 => rfl
  case hy0 => (intro w0 hSw; (try dsimp only at hSw); go_simp; first | done | with_reducible rfl)
  case hQ0 => exact fun _ _ _ h => h
  try simp only [Act.put, List.setIfInBounds_toArray, List.set_cons_zero, List.set_cons_succ]
  refine anyL_take (i := 1) (oi := ?oi1) (v := ?v1) ?hi1 ?hs1 ?hf1 ?hr1 ?hL1 ?hl1 ?hQ1 (Or.inl ⟨?hw1, ?hy1⟩) (by assumption) ?h1
  case hi1 => (simp only [List.getElem?_toArray, List.getElem?_cons_succ, List.getElem?_cons_zero]; rfl)
  case hs1 => kernel_rfl
  case hf1 => kernel_rfl
  case hr1 => kernel_rfl
  case hL1 => kernel_rfl
  case hl1 => kernel_rfl
  case hw1 => rfl
  case hy1 => (intro w0 hSw; (try dsimp only at hSw); go_simp; first | done | with_reducible rfl)
  case hQ1 => exact fun _ _ _ h => h
  try simp only [Act.put, List.setIfInBounds_toArray, List.set_cons_zero, List.set_cons_succ]
  refine anyL_take (i := 2) (oi := ?oi2) (v := ?v2) ?hi2 ?hs2 ?hf2 ?hr2 ?hL2 ?hl2 ?hQ2 (Or.inl ⟨?hw2, ?hy2⟩) (by assumption) ?h2
  case hi2 => (simp only [List.getElem?_toArray, List.getElem?_cons_succ, List.getElem?_cons_zero]; rfl)
  case hs2 => kernel_rfl
  case hf2 => kernel_rfl
  case hr2 => kernel_rfl
  case hL2 => kernel_rfl
  case hl2 => kernel_rfl
  case hw2 => rfl
  case hy2 => (intro w0 hSw; (try dsimp only at hSw); go_simp; first | done | with_reducible rfl)
  case hQ2 => exact fun _ _ _ h => h
  try simp only [Act.put, List.setIfInBounds_toArray, List.set_cons_zero, List.set_cons_succ]
  refine anyL_take (i := 3) (oi := ?oi3) (v := ?v3) ?hi3 ?hs3 ?hf3 ?hr3 ?hL3 ?hl3 ?hQ3 (Or.inl ⟨?hw3, ?hy3⟩) (by assumption) ?h3
  case hi3 => (simp only [List.getElem?_toArray, List.getElem?_cons_succ, List.getElem?_cons_zero]; rfl)
  case hs3 => kernel_rfl
  case hf3 => kernel_rfl
  case hr3 => kernel_rfl
  case hL3 => kernel_rfl
  case hl3 => kernel_rfl
  case hw3 => rfl
  case hy3 => (intro w0 hSw; (try dsimp only at hSw); go_simp; first | done | with_reducible rfl)
  case hQ3 => exact fun _ _ _ h => h
  try simp only [Act.put, List.setIfInBounds_toArray, List.set_cons_zero, List.set_cons_succ]
  refine anyL_take (i := 4) (oi := ?oi4) (v := ?v4) ?hi4 ?hs4 ?hf4 ?hr4 ?hL4 ?hl4 ?hQ4 (Or.inl ⟨?hw4, ?hy4⟩) (by assumption) ?h4
  case hi4 => (simp only [List.getElem?_toArray, List.getElem?_cons_succ, List.getElem?_cons_zero]; rfl)
  case hs4 => kernel_rfl
  case hf4 => kernel_rfl
  case hr4 => kernel_rfl
  case hL4 => kernel_rfl
  case hl4 => kernel_rfl
  case hw4 => rfl
  case hy4 => (intro w0 hSw; (try dsimp only at hSw); go_simp; first | done | with_reducible rfl)
  case hQ4 => exact fun _ _ _ h => h
  try simp only [Act.put, List.setIfInBounds_toArray, List.set_cons_zero, List.set_cons_succ]
  refine anyL_take (i := 5) (oi := ?oi5) (v := ?v5) ?hi5 ?hs5 ?hf5 ?hr5 ?hL5 ?hl5 ?hQ5 (Or.inl ⟨?hw5, ?hy5⟩) (by assumption) ?h5
  case hi5 => (simp only [List.getElem?_toArray, List.getElem?_cons_succ, List.getElem?_cons_zero]; rfl)
  case hs5 => kernel_rfl
  case hf5 => kernel_rfl
  case hr5 => kernel_rfl
  case hL5 => kernel_rfl
  case hl5 => kernel_rfl
  case hw5 => rfl
  case hy5 => (intro w0 hSw; (try dsimp only at hSw); go_simp; first | done | with_reducible rfl)
  case hQ5 => exact fun _ _ _ h => h
  try simp only [Act.put, List.setIfInBounds_toArray, List.set_cons_zero, List.set_cons_succ]
  have B4d := B4.later (Below.refl _ w4).drew
  have R4d : RecSl w4.drew (.slice aa mA ca) A ∧ RecSl w4.drew (.slice ab mB cb) B := ⟨SlOf.later R4.out.1 (Below.refl _ w4).drew, SlOf.later R4.out.2 (Below.refl _ w4).drew⟩
  clear B4 R4 hS0
  generalize w4.drew = X4 at *
  refine anyL_one (i := 6) (o := ?o6) (by kernel_rfl) ?hi6 ?step6
  case hi6 => (simp only [List.getElem?_toArray, List.getElem?_cons_succ, List.getElem?_cons_zero]; rfl)
  intro K hK
  go_simp
  refine (hatc _).mono ?_
  rintro e w5 ⟨⟨r, rfl, hr⟩, rfl⟩
  refine hK.out _ _ (fun _ => hHeld) (fun hNext => ?_)
  clear hK K hNext
  try simp only [Act.put, List.setIfInBounds_toArray, List.set_cons_zero, List.set_cons_succ]
  have hrl : r ≤ (rtxt B).length := by have := HVL.out; omega
  have hlB := HVL.out
  have kc := HK.out.crash _ _ (rtxt A, rtxt B) (r : Int) _ B4d.laid B4d.disk (by have := (ckDisk_zero.1 HBo.out.2.2.2).1; show (rtxt A).length ≤ topLen; unfold topLen; omega) (by show (rtxt B).length ≤ topLen; unfold topLen; omega)
  dsimp only at kc
  rw [crash_rows HBo.out.2.2.2 r hrl] at kc
  clear hatc hlB hrl
  refine anyL_one (i := 7) (o := ?o7) (by kernel_rfl) ?hi7 ?step7
  case hi7 => (simp only [List.getElem?_toArray, List.getElem?_cons_succ, List.getElem?_cons_zero]; rfl)
  intro K hK
  go_simp
  refine kc.mono ?_
  rintro e w6 ⟨u1, u2, rfl, hd, hb, _, _⟩
  refine hK.out _ _ (fun _ => ⟨cell_later hb hHeld.1, cell_later hb hHeld.2⟩) (fun hNext2 => ?_)
  replace hNext2 := hNext2 (by kernel_rfl)
  clear hK K hHeld
  try simp only [Act.put, List.setIfInBounds_toArray, List.set_cons_zero, List.set_cons_succ]
  obtain ⟨e1, t1, e2, t2, rfl, rfl⟩ := hd.forms
  dsimp only at hd ⊢
  obtain ⟨j1, hj1⟩ : ∃ j1, (rtxt A).length = j1 := ⟨_, rfl⟩
  obtain ⟨j2, hj2⟩ : ∃ j2, ((rtxt B).take r).length = j2 := ⟨_, rfl⟩
  rw [hj1, hj2] at hd ⊢
  have B6' := B4d.later hb
  have B6 := B6'.store HL.out hd
  have RA6 := bytes_two (e1 := e1) (e2 := e2) (m1 := j1) (m2 := j2) (d1 := t1) (d2 := t2) B6'.box rc_num (SlOf.later R4d.1 hb)
  have RB6 := bytes_two (e1 := e1) (e2 := e2) (m1 := j1) (m2 := j2) (d1 := t1) (d2 := t2) B6'.box rc_num (SlOf.later R4d.2 hb)
  have z6 : ∀ i, w6.cell? ⟨D, i, none⟩ = #[Value.slice c1 v1 p1, .slice c2 v2 p2][i]? := fun i => Joins.cell_of_block B6'.box i
  have f6 : ∀ i, w6.frozen? ⟨D, i, none⟩ = false := fun i => Joins.unfrozen_of_block B6'.box i
  have R6 : Aside (RecSl ((w6.setCell ⟨D, 0, none⟩ (.slice e1 j1 t1)).setCell ⟨D, 1, none⟩ (.slice e2 j2 t2)) (.slice aa mA ca) A ∧ RecSl ((w6.setCell ⟨D, 0, none⟩ (.slice e1 j1 t1)).setCell ⟨D, 1, none⟩ (.slice e2 j2 t2)) (.slice ab mB cb) B) := ⟨RA6, RB6⟩
  have HB6 : Aside (BoxR w ((w6.setCell ⟨D, 0, none⟩ (.slice e1 j1 t1)).setCell ⟨D, 1, none⟩ (.slice e2 j2 t2)) D e1 e2 j1 j2 t1 t2 (rtxt A, (rtxt B).take r)) := B6
  clear kc hd hb B6' B6 RA6 RB6 B4d R4d hj1 hj2
  refine anyL_take (i := 8) (oi := ?oi8) (v := ?v8) ?hi8 ?hs8 ?hf8 ?hr8 ?hL8 ?hl8 ?hQ8 (Or.inl ⟨?hw8, ?hy8⟩) (by assumption) ?h8
  case hi8 => (simp only [List.getElem?_toArray, List.getElem?_cons_succ, List.getElem?_cons_zero]; rfl)
  case hs8 => kernel_rfl
  case hf8 => kernel_rfl
  case hr8 => kernel_rfl
  case hL8 => kernel_rfl
  case hl8 => kernel_rfl
  case hw8 => rfl
  case hy8 => (intro w0 hSw; (try dsimp only at hSw); go_simp; first | done | with_reducible rfl)
  case hQ8 => exact fun _ _ _ h => h
  try simp only [Act.put, List.setIfInBounds_toArray, List.set_cons_zero, List.set_cons_succ]
  refine anyL_take (i := 9) (oi := ?oi9) (v := ?v9) ?hi9 ?hs9 ?hf9 ?hr9 ?hL9 ?hl9 ?hQ9 (Or.inl ⟨?hw9, ?hy9⟩) (by assumption) ?h9
  case hi9 => (simp only [List.getElem?_toArray, List.getElem?_cons_succ, List.getElem?_cons_zero]; rfl)
  case hs9 => kernel_rfl
  case hf9 => kernel_rfl
  case hr9 => kernel_rfl
  case hL9 => kernel_rfl
  case hl9 => kernel_rfl
  case hw9 => rfl
  case hy9 => (intro w0 hSw; (try dsimp only at hSw); go_simp; first | done | with_reducible rfl)
  case hQ9 => exact fun _ _ _ h => h
  try simp only [Act.put, List.setIfInBounds_toArray, List.set_cons_zero, List.set_cons_succ]
  refine anyL_free (i := 10) (oi := ?oi10) (v := ?v10) ?hi10 ?hs10 ?hf10 ?hr10 ?hL10 ?hQ10 (Or.inl ⟨?hw10, ?hy10⟩) (by assumption) ?h10
  case hi10 => (simp only [List.getElem?_toArray, List.getElem?_cons_succ, List.getElem?_cons_zero]; rfl)
  case hs10 => kernel_rfl
  case hf10 => kernel_rfl
  case hr10 => kernel_rfl
  case hL10 => kernel_rfl
  case hw10 => rfl
  case hy10 => (intro w0 _; go_simp; first | done | with_reducible rfl)
  case hQ10 => exact fun _ _ _ h => h
  try simp only [Act.put, List.setIfInBounds_toArray, List.set_cons_zero, List.set_cons_succ]
  refine anyL_one (i := 11) (o := ?o11) (by kernel_rfl) ?hi11 ?step11
  case hi11 => (simp only [List.getElem?_toArray, List.getElem?_cons_succ, List.getElem?_cons_zero]; rfl)
  intro K hK
  go_simp
  refine hK.out _ _ (fun h => absurd h (by decide +kernel)) (fun _ => ?_)
  clear hK K
  try simp only [Act.put, List.setIfInBounds_toArray, List.set_cons_zero, List.set_cons_succ]
  refine anyL_one (i := 12) (o := ?o12) (by kernel_rfl) ?hi12 ?step12
  case hi12 => (simp only [List.getElem?_toArray, List.getElem?_cons_succ, List.getElem?_cons_zero]; rfl)
  intro K hK
  go_simp
  refine hK.out _ _ (fun h => absurd h (by decide +kernel)) (fun _ => ?_)
  clear hK K
  try simp only [Act.put, List.setIfInBounds_toArray, List.set_cons_zero, List.set_cons_succ]
  refine anyL_done (by kernel_rfl) ?_ _
  refine NoPanic.normal ?_
  try simp only [Act.put, List.setIfInBounds_toArray, List.set_cons_zero, List.set_cons_succ]
  clear hNext2 z6 f6
  have z7 : ∀ i, ((w6.setCell ⟨D, 0, none⟩ (.slice e1 j1 t1)).setCell ⟨D, 1, none⟩ (.slice e2 j2 t2)).cell? ⟨D, i, none⟩ = #[Value.slice e1 j1 t1, .slice e2 j2 t2][i]? := fun i => Joins.cell_of_block HB6.out.box i
  obtain ⟨j, hjB, hrec, hckC⟩ := recover_rows HA.out.2.2.1 HBo.out.2.2.1 (by have := HA.out.1; have := HA.out.2.1; omega) (by have := HBo.out.1; have := HBo.out.2.1; omega) HBo.out.2.2.2 r
  have kr := HK.out.recover _ _ (rtxt A, (rtxt B).take r) _ HB6.out.laid HB6.out.disk (by have := (ckDisk_zero.1 HBo.out.2.2.2).1; show (rtxt A).length ≤ topLen; unfold topLen; omega) (by have := (ckDisk_zero.1 HBo.out.2.2.2).1; show ((rtxt B).take r).length ≤ topLen; rw [List.length_take]; unfold topLen; omega)
  dsimp only at kr
  rw [hrec] at kr
  obtain ⟨C, hC⟩ : ∃ C, A ++ B.take j = C := ⟨_, rfl⟩
  rw [hC] at kr hckC
  have HCC : Aside (C = A ++ B.take j ∧ j ≤ B.length ∧ ckDisk (rtxt C) [] = 0) := ⟨hC.symm, hjB, hckC⟩
  have hgC : Aside (∀ c, c ∈ C → c.chk = 0) := fun c hc => by
    rw [← hC] at hc
    exact (List.mem_append.1 hc).elim (HA.out.2.2.1 c) (fun h => HBo.out.2.2.1 c (List.mem_of_mem_take h))
  have hlC : C.length = mA + j := by rw [← hC, List.length_append, List.length_take, HA.out.1]; omega
  clear hC hckC hrec
  go_wp2_with fail
  refine kr.mono ?_
  rintro e w7 ⟨u1, u2, u3, rfl, hd, hl, hb⟩
  obtain ⟨g1, x1, g2, x2, rfl, rfl⟩ := hd.forms
  obtain ⟨al, cl, rfl, _⟩ := id hl
  dsimp only at hd hl ⊢
  rw [hlC] at hl ⊢
  obtain ⟨i1, hi1⟩ : ∃ i1, (rtxt C).length = i1 := ⟨_, rfl⟩
  have hn0 : ([] : List UInt8).length = 0 := rfl
  rw [hi1, hn0] at hd ⊢
  have hgr := grew (Below.refl w7.heap.size w7) (boxD (.slice g1 i1 x1) (.slice g2 0 x2))
  have B7 : BoxR w (w7.alloc (boxD (.slice g1 i1 x1) (.slice g2 0 x2))) w7.heap.size g1 g2 i1 0 x1 x2 (rtxt C, []) := BoxR.new HL.out (HB6.out.below.trans (hb.mono HB6.out.below.size)) hd
  have R7 : Aside (RecSl (w7.alloc (boxD (.slice g1 i1 x1) (.slice g2 0 x2))) (.slice aa mA ca) A ∧ RecSl (w7.alloc (boxD (.slice g1 i1 x1) (.slice g2 0 x2))) (.slice ab mB cb) B ∧ RecSl (w7.alloc (boxD (.slice g1 i1 x1) (.slice g2 0 x2))) (.slice al (mA + j) cl) C) := ⟨SlOf.later (SlOf.later R6.out.1 hb) hgr, SlOf.later (SlOf.later R6.out.2 hb) hgr, SlOf.later hl hgr⟩
  have hjm : j ≤ mB := by have := HBo.out.1; omega
  have hA20 := HA.out.2.1
  have hB20 := HBo.out.2.1
  clear kr hb hd hl hgr z7 R6 HB6 hi1 hn0
  have hgr := grew (Below.refl (w7.alloc (boxD (.slice g1 i1 x1) (.slice g2 0 x2))).heap.size (w7.alloc (boxD (.slice g1 i1 x1) (.slice g2 0 x2)))) (.cells #[.slice aa mA ca, .slice ab mB cb] 22)
  have hnew : ((w7.alloc (boxD (.slice g1 i1 x1) (.slice g2 0 x2))).alloc (.cells #[.slice aa mA ca, .slice ab mB cb] 22)).heap[w7.heap.size + 1]? = some (.cells #[.slice aa mA ca, .slice ab mB cb] 22) := by
    have := heap_new (w7.alloc (boxD (.slice g1 i1 x1) (.slice g2 0 x2))) (.cells #[.slice aa mA ca, .slice ab mB cb] 22)
    rwa [World.size_alloc] at this
  have kcc := concatC (w7.heap.size + 1) (.slice aa mA ca) (.slice ab mB cb) A B _ hnew (SlOf.later R7.out.1 hgr) (SlOf.later R7.out.2.1 hgr) (by have := HA.out.1; have := HBo.out.1; omega)
  have B8 := B7.later hgr
  have R8 : Aside (RecSl ((w7.alloc (boxD (.slice g1 i1 x1) (.slice g2 0 x2))).alloc (.cells #[.slice aa mA ca, .slice ab mB cb] 22)) (.slice al (mA + j) cl) C) := SlOf.later R7.out.2.2 hgr
  clear hgr hnew B7 R7
  have hd1 : decide (((mA + j : Nat) : Int) < (mA : Int)) = false := by rw [decide_eq_false_iff_not]; omega
  have hd2 : decide ((mA : Int) + (mB : Int) < ((mA + j : Nat) : Int)) = false := by rw [decide_eq_false_iff_not]; omega
  have hjw : ((mA + j : Nat) : Int) = (mA : Int) + (j : Int) := by omega
  obtain ⟨ml, hml⟩ : ∃ ml, mA + j = ml := ⟨_, rfl⟩
  rw [hml] at hd1 hd2 R8 hlC hjw ⊢
  have HML : Hid (mA + j = ml) := hml
  have hle1 : mA ≤ ml := by omega
  have hle2 : ml ≤ mA + mB := by omega
  clear hjw hml
  go_wp2_with fail
  refine kcc.mono ?_
  rintro e w8 ⟨uc, rfl, hcc, hb8, hroom⟩
  have B9 := B8.later hb8
  have RC9 : RecSl w8 (.slice al ml cl) C := SlOf.later R8.out hb8
  obtain ⟨ac, qc, rfl, _⟩ := id hcc
  have hrm : (A ++ B).length ≤ qc := by
    obtain ⟨a', n', c', e', h'⟩ := hroom
    injection e' with _ e2 e3
    rw [← e2, ← e3] at h'
    exact h'
  have hlAB : (A ++ B).length = mA + mB := by rw [List.length_append, HA.out.1, HBo.out.1]
  obtain ⟨mc, hmc⟩ : ∃ mc, (A ++ B).length = mc := ⟨_, rfl⟩
  have hup := SlOf.upto hcc ml (by have := HML.out; omega)
  have htk : (A ++ B).take ml = C := by
    rw [HCC.out.1, ← HML.out, List.take_append, HA.out.1, List.take_of_length_le (by have := HA.out.1; omega), Nat.add_sub_cancel_left]
  rw [htk] at hup
  rw [hmc] at hrm ⊢
  have hmq : (ml : Int) ≤ (qc : Int) := by have := HML.out; omega
  have hm0 : (0 : Int) ≤ (ml : Int) := by omega
  have ke := equalC (.slice al ml cl) (.slice ac ml qc) C C w8 RC9 hup (by have := HML.out; omega)
  rw [decide_eq_true rfl] at ke
  have z9 : ∀ i, w8.cell? ⟨w7.heap.size, i, none⟩ = #[Value.slice g1 i1 x1, .slice g2 0 x2][i]? := fun i => Joins.cell_of_block B9.box i
  have RC9' : Aside (RecSl w8 (.slice al ml cl) C) := RC9
  clear kcc hcc hb8 hroom B8 R8 RC9 hup htk hlAB hmc hrm
  go_wp2_with fail
  refine ke.mono ?_
  rintro e w9 ⟨rfl, hb9⟩
  have B10 := B9.later hb9
  have RC10 : Aside (RecSl w9 (.slice al ml cl) C) := SlOf.later RC9'.out hb9
  have kr2 := HK.out.recover _ _ (rtxt C, []) w9 B10.laid B10.disk (by have := (ckDisk_zero.1 HCC.out.2.2).1; show (rtxt C).length ≤ topLen; unfold topLen; omega) (by simp)
  dsimp only at kr2
  rw [recover_again hgC.out (by have := HML.out; omega) HCC.out.2.2] at kr2
  have z10 : ∀ i, w9.cell? ⟨w7.heap.size, i, none⟩ = #[Value.slice g1 i1 x1, .slice g2 0 x2][i]? := fun i => Joins.cell_of_block B10.box i
  clear ke hb9 B9 RC9' z9
  go_wp2_with fail
  refine kr2.mono ?_
  rintro e y0 ⟨u1, u2, u3, rfl, hd, hl, hb⟩
  obtain ⟨h1, k1, h2, k2, rfl, rfl⟩ := hd.forms
  obtain ⟨am, cm, rfl, _⟩ := id hl
  dsimp only at hd hl ⊢
  rw [hlC] at hl ⊢
  obtain ⟨o1, ho1⟩ : ∃ o1, (rtxt C).length = o1 := ⟨_, rfl⟩
  have hn0 : ([] : List UInt8).length = 0 := rfl
  rw [ho1, hn0] at hd ⊢
  have hgr := grew (Below.refl y0.heap.size y0) (boxD (.slice h1 o1 k1) (.slice h2 0 k2))
  have B11 := (B10.later hb).later hgr
  have hbq : (y0.alloc (boxD (.slice h1 o1 k1) (.slice h2 0 k2))).heap[y0.heap.size]? = some (boxD (.slice h1 o1 k1) (.slice h2 0 k2)) := heap_new _ _
  have ks := HK.out.same _ _ _ _ (rtxt C, []) (rtxt C, []) _ (hd.later hgr) B11.disk (by have := (ckDisk_zero.1 HCC.out.2.2).1; show (rtxt C).length ≤ topLen; unfold topLen; omega) (by simp) (by have := (ckDisk_zero.1 HCC.out.2.2).1; show (rtxt C).length ≤ topLen; unfold topLen; omega) (by simp)
  rw [decide_eq_true rfl] at ks
  have RR : Aside (RecSl (y0.alloc (boxD (.slice h1 o1 k1) (.slice h2 0 k2))) (.slice al ml cl) C ∧ RecSl (y0.alloc (boxD (.slice h1 o1 k1) (.slice h2 0 k2))) (.slice am ml cm) C) := ⟨SlOf.later (SlOf.later RC10.out hb) hgr, SlOf.later hl hgr⟩
  have z11 : ∀ i, (y0.alloc (boxD (.slice h1 o1 k1) (.slice h2 0 k2))).cell? ⟨w7.heap.size, i, none⟩ = #[Value.slice g1 i1 x1, .slice g2 0 x2][i]? := fun i => Joins.cell_of_block B11.box i
  have hw7 : w7.heap.size < y0.heap.size := heap_lt (B10.later hb).box
  clear kr2 hb hd hl hgr B10 RC10 z10 ho1 hn0
  go_wp2_with fail
  refine ks.mono ?_
  rintro e y1 ⟨rfl, hb⟩
  have B12 := B11.later hb
  have ke2 := equalC (.slice am ml cm) (.slice al ml cl) C C y1 (SlOf.later RR.out.2 hb) (SlOf.later RR.out.1 hb) (by have := HML.out; omega)
  rw [decide_eq_true rfl] at ke2
  clear ks hb B11 RR z11 hbq
  go_wp2_with fail
  refine ke2.mono ?_
  rintro e y2 ⟨rfl, hb⟩
  have B13 := B12.later hb
  have z13 : ∀ i, y2.cell? ⟨w7.heap.size, i, none⟩ = #[Value.slice g1 i1 x1, .slice g2 0 x2][i]? := fun i => Joins.cell_of_block B13.box i
  have HE : Aside (Below w.heap.size w y2) := B13.below
  clear ke2 hb B12 B13
  go_wp2
  go_ret
  exact ⟨rfl, HE.out⟩

end Go.Proofs.YtknjdbpdlodpbadDoor
