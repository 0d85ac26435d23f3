/- The walk of NoteBack, given package note's contracts. -/
import Derived.Test.YtijcohldgjcjgacDoorNoteG
namespace Go.Proofs.YtijcohldgjcjgacDoor
open Go.RowKit

theorem rtxt_len {r : Rc} (h : r.chk = 0) : r.txt.length ≤ 300 := by
  unfold Rc.txt
  by_cases hk : r.k = 2
  · have hp := (Rc.seal h hk).1
    have := Lib.itoa_length_le r.p (by omega) (by omega)
    have h5 : sealL.length = 5 := rfl
    rw [if_pos hk, List.length_append]
    omega
  · obtain ⟨_, ha, _, he⟩ := Rc.write h hk
    have := Lib.itoa_length_le r.a (by omega) (by omega)
    have := txt_len r.e he
    rw [if_neg hk, List.length_append, List.length_append]
    simp
    omega

theorem prs_ptx {r : Rc} (h : r.chk = 0) : rcPrs r.ptx = (r, 0) := by
  have := rtxt_len h
  rw [Rc.ptx, if_pos h, rcPrs, if_neg (by omega)]
  exact read_txt h

theorem ptx_ne {r q : Rc} (h : r.chk = 0) (h' : q.chk = 0) (hne : ¬ r = q) : ¬ r.ptx = q.ptx := fun e => hne (by
  have h1 := prs_ptx h
  rw [e, prs_ptx h'] at h1
  exact (Prod.ext_iff.1 h1).1.symm)

/-- What is read is printed as it was. -/
theorem ptx_prs {l : List UInt8} (h : (rcPrs l).2 = 0) : (rcPrs l).1.chk = 0 ∧ (rcPrs l).1.ptx = l := by
  unfold rcPrs at h ⊢
  by_cases hl : 30000 < l.length
  · rw [if_pos hl] at h; cases h
  · rw [if_neg hl] at h ⊢
    obtain ⟨h1, h2⟩ := txt_read h
    exact ⟨h1, by rw [Rc.ptx, if_pos h1]; exact h2⟩

set_option maxHeartbeats 2000000 in
set_option maxRecDepth 100000 in
theorem back_same_ok (hK : Notes) (r : Rc) (s : ByteArray) (w : World) (hL : Laid w) (hr : r.chk = 0) (hs : (rcPrs s.data.toList).2 = 0) :
    Calls Tryd.prog 4 #[r.val, r.val, .string s] w fun e w' => e = .returned (.bool true) ∧ Below w.heap.size w w' := by
  have hpr := fun W hW => hK.print r W hW
  have hpq := fun W hW => hK.print r W hW
  have hnt := fun W hW => noted_any hK W hW
  have hpa := fun W hW => hK.parse s W hW
  have hpt : ∀ W, Laid W → Calls Tryd.prog 6 #[.string ⟨r.ptx.toArray⟩] W fun e w' => e = .returned (.tuple #[r.val, .int .i64 0]) ∧ Below W.heap.size W w' := fun W hW => by
    have := hK.parse ⟨r.ptx.toArray⟩ W hW
    rw [show rcPrs (⟨r.ptx.toArray⟩ : ByteArray).data.toList = (r, 0) from prs_ptx hr] at this
    exact this
  have hnr : ∀ W, (binOp .neq 25 r.val r.val).run Tryd.prog W = .ok (.bool false) W := fun W => (neqR r r W).trans (by rw [same_self]; rfl)
  rw [hr] at hpr hpq
  have her : ∀ W, (binOp .eql 25 r.val r.val).run Tryd.prog W = .ok (.bool true) W := fun W => (eqlR r r W).trans (by rw [same_self])
  clear hr
  have hpx := fun W hW => hK.print (rcPrs s.data.toList).1 W hW
  rw [(ptx_prs hs).1, (ptx_prs hs).2, ← bytes_eta s] at hpx
  rw [hs] at hpa
  generalize (rcPrs s.data.toList).1 = y at *
  clear hK
  have K0 := keptR_first w r
  have Q0 := keptR_new K0.below r
  have K0' := K0.alloc (boxRc r)
  rw [World.size_alloc] at Q0
  generalize r.ptx = px at *
  clear hs
  go_enter Tryd.func4, Tryd.ntmps4
  go_wp2_with fail
  refine (hpr _ (hL.later K0'.below)).mono ?_
  rintro e w1 ⟨rfl, hb1⟩
  have K1 := K0'.later hb1
  have Q1 := Q0.later hb1
  have cq1 := Q1.cx
  clear hb1 K0 K0' Q0 hpr
  go_wp2_with fail
  clear cq1
  refine (hpq _ (hL.later K1.below)).mono ?_
  rintro e w2 ⟨rfl, hb2⟩
  have K2 := K1.later hb2
  have Q2 := Q1.later hb2
  clear hb2 K1 Q1 hpq
  go_wp2_with fail
  refine (hnt _ (hL.later K2.below)).mono ?_
  rintro e w3 ⟨rfl, hb3⟩
  have K3 := K2.later hb3
  have Q3 := Q2.later hb3
  have cr3 := K3.cx
  have cq3 := Q3.cx
  clear hb3 K2 Q2 hnt
  go_wp2_with fail
  clear cr3 cq3
  refine (hpt _ (hL.later K3.below)).mono ?_
  rintro e w4 ⟨rfl, hb4⟩
  have K4 := (K3.later hb4).alloc (boxRc r)
  have X4 := keptR_new (K3.later hb4).below r
  have cr4 := (K3.later hb4).cx
  have ltr := (K3.later hb4).lt
  clear hb4 K3 Q3 hpt
  go_wp2_with fail
  clear cr4
  refine (hpa _ (hL.later K4.below)).mono ?_
  rintro e w5 ⟨rfl, hb5⟩
  have K5 := K4.later hb5
  clear hb5 K4 X4 hpa
  have HB5 : Aside (Below w.heap.size w (w5.alloc (boxRc y))) := grew K5.below _
  go_wp2_with fail
  refine (hpx _ (hL.later HB5.out)).mono ?_
  rintro e w6 ⟨rfl, hb6⟩
  have HB6 : Aside (Below w.heap.size w w6) := step_below1 HB5.out hb6
  clear hb6 hpx K5 HB5 hL
  go_wp2
  go_ret
  exact ⟨by simp, HB6.out⟩

set_option maxHeartbeats 2000000 in
set_option maxRecDepth 100000 in
theorem back_same_no (hK : Notes) (r : Rc) (s : ByteArray) (w : World) (hL : Laid w) (hr : r.chk = 0) (hs : ¬ (rcPrs s.data.toList).2 = 0) :
    Calls Tryd.prog 4 #[r.val, r.val, .string s] w fun e w' => e = .returned (.bool true) ∧ Below w.heap.size w w' := by
  have hpr := fun W hW => hK.print r W hW
  have hpq := fun W hW => hK.print r W hW
  have hnt := fun W hW => noted_any hK W hW
  have hpa := fun W hW => hK.parse s W hW
  have hpt : ∀ W, Laid W → Calls Tryd.prog 6 #[.string ⟨r.ptx.toArray⟩] W fun e w' => e = .returned (.tuple #[r.val, .int .i64 0]) ∧ Below W.heap.size W w' := fun W hW => by
    have := hK.parse ⟨r.ptx.toArray⟩ W hW
    rw [show rcPrs (⟨r.ptx.toArray⟩ : ByteArray).data.toList = (r, 0) from prs_ptx hr] at this
    exact this
  have hnr : ∀ W, (binOp .neq 25 r.val r.val).run Tryd.prog W = .ok (.bool false) W := fun W => (neqR r r W).trans (by rw [same_self]; rfl)
  rw [hr] at hpr hpq
  have her : ∀ W, (binOp .eql 25 r.val r.val).run Tryd.prog W = .ok (.bool true) W := fun W => (eqlR r r W).trans (by rw [same_self])
  clear hr
  have hsb : ((rcPrs s.data.toList).2 != 0) = true := by rw [bne_iff_ne]; exact hs
  generalize (rcPrs s.data.toList).2 = g at *
  generalize (rcPrs s.data.toList).1 = y at *
  clear hK
  have K0 := keptR_first w r
  have Q0 := keptR_new K0.below r
  have K0' := K0.alloc (boxRc r)
  rw [World.size_alloc] at Q0
  generalize r.ptx = px at *
  clear hs
  go_enter Tryd.func4, Tryd.ntmps4
  go_wp2_with fail
  refine (hpr _ (hL.later K0'.below)).mono ?_
  rintro e w1 ⟨rfl, hb1⟩
  have K1 := K0'.later hb1
  have Q1 := Q0.later hb1
  have cq1 := Q1.cx
  clear hb1 K0 K0' Q0 hpr
  go_wp2_with fail
  clear cq1
  refine (hpq _ (hL.later K1.below)).mono ?_
  rintro e w2 ⟨rfl, hb2⟩
  have K2 := K1.later hb2
  have Q2 := Q1.later hb2
  clear hb2 K1 Q1 hpq
  go_wp2_with fail
  refine (hnt _ (hL.later K2.below)).mono ?_
  rintro e w3 ⟨rfl, hb3⟩
  have K3 := K2.later hb3
  have Q3 := Q2.later hb3
  have cr3 := K3.cx
  have cq3 := Q3.cx
  clear hb3 K2 Q2 hnt
  go_wp2_with fail
  clear cr3 cq3
  refine (hpt _ (hL.later K3.below)).mono ?_
  rintro e w4 ⟨rfl, hb4⟩
  have K4 := (K3.later hb4).alloc (boxRc r)
  have X4 := keptR_new (K3.later hb4).below r
  have cr4 := (K3.later hb4).cx
  have ltr := (K3.later hb4).lt
  clear hb4 K3 Q3 hpt
  go_wp2_with fail
  clear cr4
  refine (hpa _ (hL.later K4.below)).mono ?_
  rintro e w5 ⟨rfl, hb5⟩
  have K5 := K4.later hb5
  clear hb5 K4 X4 hpa
  have HB5 : Aside (Below w.heap.size w (w5.alloc (boxRc y))) := grew K5.below _
  clear K5 hL
  go_wp2
  go_ret
  exact ⟨rfl, HB5.out⟩

set_option maxHeartbeats 2000000 in
set_option maxRecDepth 100000 in
theorem back_other_ok (hK : Notes) (r q : Rc) (s : ByteArray) (w : World) (hL : Laid w) (hr : r.chk = 0) (hq : q.chk = 0) (hne : ¬ r = q) (hs : (rcPrs s.data.toList).2 = 0) :
    Calls Tryd.prog 4 #[r.val, q.val, .string s] w fun e w' => e = .returned (.bool true) ∧ Below w.heap.size w w' := by
  have hpr := fun W hW => hK.print r W hW
  have hpq := fun W hW => hK.print q W hW
  have hnt := fun W hW => noted_any hK W hW
  have hpa := fun W hW => hK.parse s W hW
  have hpt : ∀ W, Laid W → Calls Tryd.prog 6 #[.string ⟨r.ptx.toArray⟩] W fun e w' => e = .returned (.tuple #[r.val, .int .i64 0]) ∧ Below W.heap.size W w' := fun W hW => by
    have := hK.parse ⟨r.ptx.toArray⟩ W hW
    rw [show rcPrs (⟨r.ptx.toArray⟩ : ByteArray).data.toList = (r, 0) from prs_ptx hr] at this
    exact this
  have hnr : ∀ W, (binOp .neq 25 r.val r.val).run Tryd.prog W = .ok (.bool false) W := fun W => (neqR r r W).trans (by rw [same_self]; rfl)
  rw [hr] at hpr
  rw [hq] at hpq
  have hpne := ptx_ne hr hq hne
  have her : ∀ W, (binOp .eql 25 r.val q.val).run Tryd.prog W = .ok (.bool false) W := fun W => (eqlR r q W).trans (by rw [show r.same q = false from by (cases h : r.same q with | true => exact absurd (same_eq.1 h) hne | false => rfl)])
  have hbb : (r.ptx == q.ptx) = false := by rw [beq_eq_false_iff_ne]; exact hpne
  clear hpne
  clear hne hq
  clear hr
  have hpx := fun W hW => hK.print (rcPrs s.data.toList).1 W hW
  rw [(ptx_prs hs).1, (ptx_prs hs).2, ← bytes_eta s] at hpx
  rw [hs] at hpa
  generalize (rcPrs s.data.toList).1 = y at *
  clear hK
  have K0 := keptR_first w r
  have Q0 := keptR_new K0.below q
  have K0' := K0.alloc (boxRc q)
  rw [World.size_alloc] at Q0
  generalize r.ptx = px at *
  generalize q.ptx = qx at *
  clear hs
  go_enter Tryd.func4, Tryd.ntmps4
  go_wp2_with fail
  refine (hpr _ (hL.later K0'.below)).mono ?_
  rintro e w1 ⟨rfl, hb1⟩
  have K1 := K0'.later hb1
  have Q1 := Q0.later hb1
  have cq1 := Q1.cx
  clear hb1 K0 K0' Q0 hpr
  go_wp2_with fail
  clear cq1
  refine (hpq _ (hL.later K1.below)).mono ?_
  rintro e w2 ⟨rfl, hb2⟩
  have K2 := K1.later hb2
  have Q2 := Q1.later hb2
  clear hb2 K1 Q1 hpq
  go_wp2_with fail
  refine (hnt _ (hL.later K2.below)).mono ?_
  rintro e w3 ⟨rfl, hb3⟩
  have K3 := K2.later hb3
  have Q3 := Q2.later hb3
  have cr3 := K3.cx
  have cq3 := Q3.cx
  clear hb3 K2 Q2 hnt
  go_wp2_with fail
  clear cr3 cq3
  refine (hpt _ (hL.later K3.below)).mono ?_
  rintro e w4 ⟨rfl, hb4⟩
  have K4 := (K3.later hb4).alloc (boxRc r)
  have X4 := keptR_new (K3.later hb4).below r
  have cr4 := (K3.later hb4).cx
  have ltr := (K3.later hb4).lt
  clear hb4 K3 Q3 hpt
  go_wp2_with fail
  clear cr4
  refine (hpa _ (hL.later K4.below)).mono ?_
  rintro e w5 ⟨rfl, hb5⟩
  have K5 := K4.later hb5
  clear hb5 K4 X4 hpa
  have HB5 : Aside (Below w.heap.size w (w5.alloc (boxRc y))) := grew K5.below _
  go_wp2_with fail
  refine (hpx _ (hL.later HB5.out)).mono ?_
  rintro e w6 ⟨rfl, hb6⟩
  have HB6 : Aside (Below w.heap.size w w6) := step_below1 HB5.out hb6
  clear hb6 hpx K5 HB5 hL
  go_wp2
  go_ret
  exact ⟨by simp, HB6.out⟩

set_option maxHeartbeats 2000000 in
set_option maxRecDepth 100000 in
theorem back_other_no (hK : Notes) (r q : Rc) (s : ByteArray) (w : World) (hL : Laid w) (hr : r.chk = 0) (hq : q.chk = 0) (hne : ¬ r = q) (hs : ¬ (rcPrs s.data.toList).2 = 0) :
    Calls Tryd.prog 4 #[r.val, q.val, .string s] w fun e w' => e = .returned (.bool true) ∧ Below w.heap.size w w' := by
  have hpr := fun W hW => hK.print r W hW
  have hpq := fun W hW => hK.print q W hW
  have hnt := fun W hW => noted_any hK W hW
  have hpa := fun W hW => hK.parse s W hW
  have hpt : ∀ W, Laid W → Calls Tryd.prog 6 #[.string ⟨r.ptx.toArray⟩] W fun e w' => e = .returned (.tuple #[r.val, .int .i64 0]) ∧ Below W.heap.size W w' := fun W hW => by
    have := hK.parse ⟨r.ptx.toArray⟩ W hW
    rw [show rcPrs (⟨r.ptx.toArray⟩ : ByteArray).data.toList = (r, 0) from prs_ptx hr] at this
    exact this
  have hnr : ∀ W, (binOp .neq 25 r.val r.val).run Tryd.prog W = .ok (.bool false) W := fun W => (neqR r r W).trans (by rw [same_self]; rfl)
  rw [hr] at hpr
  rw [hq] at hpq
  have hpne := ptx_ne hr hq hne
  have her : ∀ W, (binOp .eql 25 r.val q.val).run Tryd.prog W = .ok (.bool false) W := fun W => (eqlR r q W).trans (by rw [show r.same q = false from by (cases h : r.same q with | true => exact absurd (same_eq.1 h) hne | false => rfl)])
  have hbb : (r.ptx == q.ptx) = false := by rw [beq_eq_false_iff_ne]; exact hpne
  clear hpne
  clear hne hq
  clear hr
  have hsb : ((rcPrs s.data.toList).2 != 0) = true := by rw [bne_iff_ne]; exact hs
  generalize (rcPrs s.data.toList).2 = g at *
  generalize (rcPrs s.data.toList).1 = y at *
  clear hK
  have K0 := keptR_first w r
  have Q0 := keptR_new K0.below q
  have K0' := K0.alloc (boxRc q)
  rw [World.size_alloc] at Q0
  generalize r.ptx = px at *
  generalize q.ptx = qx at *
  clear hs
  go_enter Tryd.func4, Tryd.ntmps4
  go_wp2_with fail
  refine (hpr _ (hL.later K0'.below)).mono ?_
  rintro e w1 ⟨rfl, hb1⟩
  have K1 := K0'.later hb1
  have Q1 := Q0.later hb1
  have cq1 := Q1.cx
  clear hb1 K0 K0' Q0 hpr
  go_wp2_with fail
  clear cq1
  refine (hpq _ (hL.later K1.below)).mono ?_
  rintro e w2 ⟨rfl, hb2⟩
  have K2 := K1.later hb2
  have Q2 := Q1.later hb2
  clear hb2 K1 Q1 hpq
  go_wp2_with fail
  refine (hnt _ (hL.later K2.below)).mono ?_
  rintro e w3 ⟨rfl, hb3⟩
  have K3 := K2.later hb3
  have Q3 := Q2.later hb3
  have cr3 := K3.cx
  have cq3 := Q3.cx
  clear hb3 K2 Q2 hnt
  go_wp2_with fail
  clear cr3 cq3
  refine (hpt _ (hL.later K3.below)).mono ?_
  rintro e w4 ⟨rfl, hb4⟩
  have K4 := (K3.later hb4).alloc (boxRc r)
  have X4 := keptR_new (K3.later hb4).below r
  have cr4 := (K3.later hb4).cx
  have ltr := (K3.later hb4).lt
  clear hb4 K3 Q3 hpt
  go_wp2_with fail
  clear cr4
  refine (hpa _ (hL.later K4.below)).mono ?_
  rintro e w5 ⟨rfl, hb5⟩
  have K5 := K4.later hb5
  clear hb5 K4 X4 hpa
  have HB5 : Aside (Below w.heap.size w (w5.alloc (boxRc y))) := grew K5.below _
  clear K5 hL
  go_wp2
  go_ret
  exact ⟨rfl, HB5.out⟩

set_option maxHeartbeats 2000000 in
set_option maxRecDepth 100000 in
theorem back_badq_ok (hK : Notes) (r q : Rc) (s : ByteArray) (w : World) (hL : Laid w) (hr : r.chk = 0) (hq : ¬ q.chk = 0) (hs : (rcPrs s.data.toList).2 = 0) :
    Calls Tryd.prog 4 #[r.val, q.val, .string s] w fun e w' => e = .returned (.bool true) ∧ Below w.heap.size w w' := by
  have hpr := fun W hW => hK.print r W hW
  have hpq := fun W hW => hK.print q W hW
  have hnt := fun W hW => noted_any hK W hW
  have hpa := fun W hW => hK.parse s W hW
  have hpt : ∀ W, Laid W → Calls Tryd.prog 6 #[.string ⟨r.ptx.toArray⟩] W fun e w' => e = .returned (.tuple #[r.val, .int .i64 0]) ∧ Below W.heap.size W w' := fun W hW => by
    have := hK.parse ⟨r.ptx.toArray⟩ W hW
    rw [show rcPrs (⟨r.ptx.toArray⟩ : ByteArray).data.toList = (r, 0) from prs_ptx hr] at this
    exact this
  have hnr : ∀ W, (binOp .neq 25 r.val r.val).run Tryd.prog W = .ok (.bool false) W := fun W => (neqR r r W).trans (by rw [same_self]; rfl)
  rw [hr] at hpr
  have hqb : (q.chk == 0) = false := by rw [beq_eq_false_iff_ne]; exact hq
  generalize q.chk = d2 at *
  clear hq
  clear hr
  have hpx := fun W hW => hK.print (rcPrs s.data.toList).1 W hW
  rw [(ptx_prs hs).1, (ptx_prs hs).2, ← bytes_eta s] at hpx
  rw [hs] at hpa
  generalize (rcPrs s.data.toList).1 = y at *
  clear hK
  have K0 := keptR_first w r
  have Q0 := keptR_new K0.below q
  have K0' := K0.alloc (boxRc q)
  rw [World.size_alloc] at Q0
  generalize r.ptx = px at *
  generalize q.ptx = qx at *
  clear hs
  go_enter Tryd.func4, Tryd.ntmps4
  go_wp2_with fail
  refine (hpr _ (hL.later K0'.below)).mono ?_
  rintro e w1 ⟨rfl, hb1⟩
  have K1 := K0'.later hb1
  have Q1 := Q0.later hb1
  have cq1 := Q1.cx
  clear hb1 K0 K0' Q0 hpr
  go_wp2_with fail
  clear cq1
  refine (hpq _ (hL.later K1.below)).mono ?_
  rintro e w2 ⟨rfl, hb2⟩
  have K2 := K1.later hb2
  have Q2 := Q1.later hb2
  clear hb2 K1 Q1 hpq
  go_wp2_with fail
  refine (hnt _ (hL.later K2.below)).mono ?_
  rintro e w3 ⟨rfl, hb3⟩
  have K3 := K2.later hb3
  have Q3 := Q2.later hb3
  have cr3 := K3.cx
  have cq3 := Q3.cx
  clear hb3 K2 Q2 hnt
  go_wp2_with fail
  clear cr3 cq3
  refine (hpt _ (hL.later K3.below)).mono ?_
  rintro e w4 ⟨rfl, hb4⟩
  have K4 := (K3.later hb4).alloc (boxRc r)
  have X4 := keptR_new (K3.later hb4).below r
  have cr4 := (K3.later hb4).cx
  have ltr := (K3.later hb4).lt
  clear hb4 K3 Q3 hpt
  go_wp2_with fail
  clear cr4
  refine (hpa _ (hL.later K4.below)).mono ?_
  rintro e w5 ⟨rfl, hb5⟩
  have K5 := K4.later hb5
  clear hb5 K4 X4 hpa
  have HB5 : Aside (Below w.heap.size w (w5.alloc (boxRc y))) := grew K5.below _
  go_wp2_with fail
  refine (hpx _ (hL.later HB5.out)).mono ?_
  rintro e w6 ⟨rfl, hb6⟩
  have HB6 : Aside (Below w.heap.size w w6) := step_below1 HB5.out hb6
  clear hb6 hpx K5 HB5 hL
  go_wp2
  go_ret
  exact ⟨by simp, HB6.out⟩

set_option maxHeartbeats 2000000 in
set_option maxRecDepth 100000 in
theorem back_badq_no (hK : Notes) (r q : Rc) (s : ByteArray) (w : World) (hL : Laid w) (hr : r.chk = 0) (hq : ¬ q.chk = 0) (hs : ¬ (rcPrs s.data.toList).2 = 0) :
    Calls Tryd.prog 4 #[r.val, q.val, .string s] w fun e w' => e = .returned (.bool true) ∧ Below w.heap.size w w' := by
  have hpr := fun W hW => hK.print r W hW
  have hpq := fun W hW => hK.print q W hW
  have hnt := fun W hW => noted_any hK W hW
  have hpa := fun W hW => hK.parse s W hW
  have hpt : ∀ W, Laid W → Calls Tryd.prog 6 #[.string ⟨r.ptx.toArray⟩] W fun e w' => e = .returned (.tuple #[r.val, .int .i64 0]) ∧ Below W.heap.size W w' := fun W hW => by
    have := hK.parse ⟨r.ptx.toArray⟩ W hW
    rw [show rcPrs (⟨r.ptx.toArray⟩ : ByteArray).data.toList = (r, 0) from prs_ptx hr] at this
    exact this
  have hnr : ∀ W, (binOp .neq 25 r.val r.val).run Tryd.prog W = .ok (.bool false) W := fun W => (neqR r r W).trans (by rw [same_self]; rfl)
  rw [hr] at hpr
  have hqb : (q.chk == 0) = false := by rw [beq_eq_false_iff_ne]; exact hq
  generalize q.chk = d2 at *
  clear hq
  clear hr
  have hsb : ((rcPrs s.data.toList).2 != 0) = true := by rw [bne_iff_ne]; exact hs
  generalize (rcPrs s.data.toList).2 = g at *
  generalize (rcPrs s.data.toList).1 = y at *
  clear hK
  have K0 := keptR_first w r
  have Q0 := keptR_new K0.below q
  have K0' := K0.alloc (boxRc q)
  rw [World.size_alloc] at Q0
  generalize r.ptx = px at *
  generalize q.ptx = qx at *
  clear hs
  go_enter Tryd.func4, Tryd.ntmps4
  go_wp2_with fail
  refine (hpr _ (hL.later K0'.below)).mono ?_
  rintro e w1 ⟨rfl, hb1⟩
  have K1 := K0'.later hb1
  have Q1 := Q0.later hb1
  have cq1 := Q1.cx
  clear hb1 K0 K0' Q0 hpr
  go_wp2_with fail
  clear cq1
  refine (hpq _ (hL.later K1.below)).mono ?_
  rintro e w2 ⟨rfl, hb2⟩
  have K2 := K1.later hb2
  have Q2 := Q1.later hb2
  clear hb2 K1 Q1 hpq
  go_wp2_with fail
  refine (hnt _ (hL.later K2.below)).mono ?_
  rintro e w3 ⟨rfl, hb3⟩
  have K3 := K2.later hb3
  have Q3 := Q2.later hb3
  have cr3 := K3.cx
  have cq3 := Q3.cx
  clear hb3 K2 Q2 hnt
  go_wp2_with fail
  clear cr3 cq3
  refine (hpt _ (hL.later K3.below)).mono ?_
  rintro e w4 ⟨rfl, hb4⟩
  have K4 := (K3.later hb4).alloc (boxRc r)
  have X4 := keptR_new (K3.later hb4).below r
  have cr4 := (K3.later hb4).cx
  have ltr := (K3.later hb4).lt
  clear hb4 K3 Q3 hpt
  go_wp2_with fail
  clear cr4
  refine (hpa _ (hL.later K4.below)).mono ?_
  rintro e w5 ⟨rfl, hb5⟩
  have K5 := K4.later hb5
  clear hb5 K4 X4 hpa
  have HB5 : Aside (Below w.heap.size w (w5.alloc (boxRc y))) := grew K5.below _
  clear K5 hL
  go_wp2
  go_ret
  exact ⟨rfl, HB5.out⟩

set_option maxHeartbeats 2000000 in
set_option maxRecDepth 100000 in
theorem back_badr_ok (hK : Notes) (r q : Rc) (s : ByteArray) (w : World) (hL : Laid w) (hr : ¬ r.chk = 0) (hs : (rcPrs s.data.toList).2 = 0) :
    Calls Tryd.prog 4 #[r.val, q.val, .string s] w fun e w' => e = .returned (.bool true) ∧ Below w.heap.size w w' := by
  have hpr := fun W hW => hK.print r W hW
  have hpq := fun W hW => hK.print q W hW
  have hnt := fun W hW => noted_any hK W hW
  have hpa := fun W hW => hK.parse s W hW
  have hrb : (r.chk == 0) = false := by rw [beq_eq_false_iff_ne]; exact hr
  generalize r.chk = d1 at *
  generalize q.chk = d2 at *
  clear hr
  have hpx := fun W hW => hK.print (rcPrs s.data.toList).1 W hW
  rw [(ptx_prs hs).1, (ptx_prs hs).2, ← bytes_eta s] at hpx
  rw [hs] at hpa
  generalize (rcPrs s.data.toList).1 = y at *
  clear hK
  have K0 := keptR_first w r
  have Q0 := keptR_new K0.below q
  have K0' := K0.alloc (boxRc q)
  rw [World.size_alloc] at Q0
  generalize r.ptx = px at *
  generalize q.ptx = qx at *
  clear hs
  go_enter Tryd.func4, Tryd.ntmps4
  go_wp2_with fail
  refine (hpr _ (hL.later K0'.below)).mono ?_
  rintro e w1 ⟨rfl, hb1⟩
  have K1 := K0'.later hb1
  have Q1 := Q0.later hb1
  have cq1 := Q1.cx
  clear hb1 K0 K0' Q0 hpr
  go_wp2_with fail
  clear cq1
  refine (hpq _ (hL.later K1.below)).mono ?_
  rintro e w2 ⟨rfl, hb2⟩
  have K2 := K1.later hb2
  have Q2 := Q1.later hb2
  clear hb2 K1 Q1 hpq
  go_wp2_with fail
  refine (hnt _ (hL.later K2.below)).mono ?_
  rintro e w3 ⟨rfl, hb3⟩
  have K3 := K2.later hb3
  have Q3 := Q2.later hb3
  have cr3 := K3.cx
  have cq3 := Q3.cx
  clear hb3 K2 Q2 hnt
  go_wp2_with fail
  clear cr3 cq3
  refine (hpa _ (hL.later K3.below)).mono ?_
  rintro e w5 ⟨rfl, hb5⟩
  have K5 := K3.later hb5
  clear hb5 K3 Q3 hpa
  have HB5 : Aside (Below w.heap.size w (w5.alloc (boxRc y))) := grew K5.below _
  go_wp2_with fail
  refine (hpx _ (hL.later HB5.out)).mono ?_
  rintro e w6 ⟨rfl, hb6⟩
  have HB6 : Aside (Below w.heap.size w w6) := step_below1 HB5.out hb6
  clear hb6 hpx K5 HB5 hL
  go_wp2
  go_ret
  exact ⟨by simp, HB6.out⟩

set_option maxHeartbeats 2000000 in
set_option maxRecDepth 100000 in
theorem back_badr_no (hK : Notes) (r q : Rc) (s : ByteArray) (w : World) (hL : Laid w) (hr : ¬ r.chk = 0) (hs : ¬ (rcPrs s.data.toList).2 = 0) :
    Calls Tryd.prog 4 #[r.val, q.val, .string s] w fun e w' => e = .returned (.bool true) ∧ Below w.heap.size w w' := by
  have hpr := fun W hW => hK.print r W hW
  have hpq := fun W hW => hK.print q W hW
  have hnt := fun W hW => noted_any hK W hW
  have hpa := fun W hW => hK.parse s W hW
  have hrb : (r.chk == 0) = false := by rw [beq_eq_false_iff_ne]; exact hr
  generalize r.chk = d1 at *
  generalize q.chk = d2 at *
  clear hr
  have hsb : ((rcPrs s.data.toList).2 != 0) = true := by rw [bne_iff_ne]; exact hs
  generalize (rcPrs s.data.toList).2 = g at *
  generalize (rcPrs s.data.toList).1 = y at *
  clear hK
  have K0 := keptR_first w r
  have Q0 := keptR_new K0.below q
  have K0' := K0.alloc (boxRc q)
  rw [World.size_alloc] at Q0
  generalize r.ptx = px at *
  generalize q.ptx = qx at *
  clear hs
  go_enter Tryd.func4, Tryd.ntmps4
  go_wp2_with fail
  refine (hpr _ (hL.later K0'.below)).mono ?_
  rintro e w1 ⟨rfl, hb1⟩
  have K1 := K0'.later hb1
  have Q1 := Q0.later hb1
  have cq1 := Q1.cx
  clear hb1 K0 K0' Q0 hpr
  go_wp2_with fail
  clear cq1
  refine (hpq _ (hL.later K1.below)).mono ?_
  rintro e w2 ⟨rfl, hb2⟩
  have K2 := K1.later hb2
  have Q2 := Q1.later hb2
  clear hb2 K1 Q1 hpq
  go_wp2_with fail
  refine (hnt _ (hL.later K2.below)).mono ?_
  rintro e w3 ⟨rfl, hb3⟩
  have K3 := K2.later hb3
  have Q3 := Q2.later hb3
  have cr3 := K3.cx
  have cq3 := Q3.cx
  clear hb3 K2 Q2 hnt
  go_wp2_with fail
  clear cr3 cq3
  refine (hpa _ (hL.later K3.below)).mono ?_
  rintro e w5 ⟨rfl, hb5⟩
  have K5 := K3.later hb5
  clear hb5 K3 Q3 hpa
  have HB5 : Aside (Below w.heap.size w (w5.alloc (boxRc y))) := grew K5.below _
  clear K5 hL
  go_wp2
  go_ret
  exact ⟨rfl, HB5.out⟩

theorem noteBack_any (hK : Notes) (r q : Rc) (s : ByteArray) (w : World) (hL : Laid w) :
    Calls Tryd.prog 4 #[r.val, q.val, .string s] w fun e w' => e = .returned (.bool true) ∧ Below w.heap.size w w' := by
  by_cases hs : (rcPrs s.data.toList).2 = 0
  · by_cases hr : r.chk = 0
    · by_cases hq : q.chk = 0
      · by_cases he : r = q
        · subst he; exact back_same_ok hK r s w hL hr hs
        · exact back_other_ok hK r q s w hL hr hq he hs
      · exact back_badq_ok hK r q s w hL hr hq hs
    · exact back_badr_ok hK r q s w hL hr hs
  · by_cases hr : r.chk = 0
    · by_cases hq : q.chk = 0
      · by_cases he : r = q
        · subst he; exact back_same_no hK r s w hL hr hs
        · exact back_other_no hK r q s w hL hr hq he hs
      · exact back_badq_no hK r q s w hL hr hq hs
    · exact back_badr_no hK r q s w hL hr hs

end Go.Proofs.YtijcohldgjcjgacDoor
