/- The reference's linesOf. -/
import Derived.Test.YtknjdbpdlodpbacGreatDoorDiskW
import Derived.Test.YtknjdbpdlodpbacGreatDoorNoteF
import Derived.OwnWalk
namespace Go.Proofs.YtknjdbpdlodpbacGreatDoor
open Go.RowKit

set_option maxHeartbeats 2000000 in
set_option maxRecDepth 100000 in
/-- The reference's linesOf. -/
theorem ref_lines (l : List UInt8) (most : Nat) (hmo : most ≤ 160) (w : World) (hL : Laid w) (hl : l.length ≤ 30000) :
    Calls Tryz.prog 21 #[.string ⟨l.toArray⟩, .int .i64 most] w fun e w' => ∃ v, e = .returned (.tuple #[v, .int .i64 (linesOf l most).2.1, .int .i64 (linesOf l most).2.2]) ∧ RecSl w' v (linesOf l most).1 ∧ Below w.heap.size w w' := by
  have hsp := lines_ref l w hL.most hl
  have HR : Hid (linesOf l most = dl most (l.length + 1) l [] 0) := rfl
  obtain ⟨ps, hps⟩ : ∃ ps, pcs l = ps := ⟨_, rfl⟩
  have HP : Hid (ps.drop 0 = pcs l) := by rw [Hid, ← hps]; rfl
  rw [hps] at hsp
  have hlen : Hid (ps.length ≤ 40000) := by
    have h2 : (Lib.splitB ⟨#[10]⟩ 1 (Lib.countB ⟨l.toArray⟩ ⟨#[10]⟩) ⟨l.toArray⟩).map (·.data.toList) = pcs l := Lib.splitB_data ⟨#[10]⟩ 1 _ ⟨l.toArray⟩
    have h1 := Lib.splitB_length_le ⟨#[10]⟩ 1 (Lib.countB ⟨l.toArray⟩ ⟨#[10]⟩) ⟨l.toArray⟩
    have hc := Lib.countB_le ⟨#[10]⟩ (by decide) l.length ⟨l.toArray⟩ (by rw [Lib.size_eq]; exact Nat.le_refl _)
    have hs : (⟨l.toArray⟩ : ByteArray).size = l.length := by rw [Lib.size_eq]
    rw [← hps, ← h2, Hid, List.length_map]
    omega
  have hP4 : ps.length ≤ 40000 := hlen.out
  obtain ⟨P, hP⟩ : ∃ P, ps.length = P := ⟨_, rfl⟩
  rw [hP] at hsp hP4
  have HPL : Hid (ps.length = P) := hP
  clear hP hlen hps
  go_enter Tryz.func21, Tryz.ntmps21
  go_wp2_with fail
  refine hsp.mono ?_
  rintro e w1 ⟨rfl, hw1⟩
  clear hsp
  go_wp2
  have hB0 : Below w.heap.size w w1 := by rw [hw1]; exact grew (Below.refl _ _) _
  have hW0 : w1.heap[w.heap.size]? = some (.cells (wvals ps) 9) := by rw [hw1]; exact heap_new _ _
  have HI : Hid (_ ∧ _) := ⟨hB0, hW0⟩
  have hw1' := hw1.symm
  clear hB0 hW0 hw1
  rw [hw1']
  clear hw1'
  go_loopw [7, 8, 16] (fun v z i wr => ∃ (n f cnt m : Nat) (acc : List Rc) (r : List UInt8) (ao : Option Addr) (cv : Nat), i = .int .i64 n ∧ z = .int .i64 cnt ∧ v = .slice ao m cv ∧ wr.ownsRow (w.heap.size + 1) 28 8 (.slice ao m cv) m (acc.flatMap Rc.cells) ∧ Hid (acc.length = m) ∧
    m ≤ most ∧ wr.heap[w.heap.size]? = some (.cells (wvals ps) 9) ∧ Below w.heap.size w wr ∧ cnt + r.length ≤ 30000 ∧ Hid (ps.drop n = pcs r ∧ r.length < f ∧ linesOf l most = dl most f r acc cnt)) (fun _ _ i _ => P - (intOf i).toNat)
  case atStart => exact ⟨0, l.length + 1, 0, 0, [], l, none, 0, rfl, rfl, rfl, World.ownsRow_nil _ _ _ _, rfl, Nat.zero_le _, HI.out.2, HI.out.1, by omega, HP.out, Nat.lt_succ_self _, HR.out⟩
  case round =>
    clear HI HR HP
    obtain ⟨n, f, cnt, m, acc, r, ao, cv, rfl, rfl, rfl, hown, HM, hacc, hWb, hB, hr3, hst⟩ := hrel
    obtain ⟨f', hf'⟩ : ∃ f', f = f' + 1 := ⟨f - 1, by have := hst.out.2.1; omega⟩
    subst hf'
    rcases hc : Lib.cut r [10] with ⟨a, b, g⟩
    have hLr := hL.later hB
    have HO : Aside (RecSl wr (.slice ao m cv) acc) := by
      have hh := hown
      rw [← HM.out] at hh
      have := slOf_of_owns Rc.eight hh
      rwa [HM.out] at this
    cases g with
    | false =>
      have hpr : ps.drop n = [r] := by rw [hst.out.1, pcs_no hc]
      have hnP : n < ps.length := by
        rcases Nat.lt_or_ge n ps.length with h | h
        · exact h
        · rw [List.drop_of_length_le h] at hpr; cases hpr
      have hget : ps.getD n [] = r := by
        rw [List.drop_eq_getElem_cons hnP] at hpr
        rw [List.getD_eq_getElem?_getD, List.getElem?_eq_getElem hnP]
        exact (List.cons.inj hpr).1
      have cW : wr.cell? ⟨w.heap.size, n, none⟩ = some (.string ⟨r.toArray⟩) := by
        rw [Joins.cell_of_block hWb, wvals_at ps n hnP, hget]
      have hlt : (n : Int) < P := by have := HPL.out; omega
      by_cases hre : r = []
      · have HF : Hid (linesOf l most = (acc, cnt, 0)) := by rw [Hid, hst.out.2.2, hre]; exact dl_nil _ _ _ _
        have hemp : r.isEmpty = true := by rw [hre]; rfl
        clear hst hpr hget hnP hre hown
        go_wp2
        go_ret3
        exact ⟨.slice ao m cv, by rw [HF.out]; rfl, by rw [HF.out]; exact HO.out, hB⟩
      · have HF : Hid (linesOf l most = (acc, cnt, 9)) := by rw [Hid, hst.out.2.2]; exact dl_torn _ _ _ _ hre hc
        have hemp : r.isEmpty = false := by cases r with | nil => exact absurd rfl hre | cons _ _ => rfl
        have hsu := fun W => Tryz.strings_HasSuffix ⟨r.toArray⟩ ⟨#[10]⟩ W (by rw [Lib.size_eq]; show r.length ≤ _; omega)
        rw [show Lib.hasSuffix (⟨r.toArray⟩ : ByteArray).data.toList (⟨#[10]⟩ : ByteArray).data.toList = false from suffix_no (nl_none (l := r) (by rw [hc]))] at hsu
        clear hst hpr hget hown hnP hre
        go_wp2_with (go_at_call 33; refine (hsu _).mono ?_; rintro e w2 ⟨rfl, rfl⟩)
        go_ret3
        exact ⟨.slice ao m cv, by rw [HF.out]; rfl, by rw [HF.out]; exact HO.out, hB⟩
    | true =>
      have hrab := nl_back r a b hc
      have hpr : ps.drop n = (a ++ [10]) :: pcs b := by rw [hst.out.1, pcs_yes hc]
      have hnP : n < ps.length := by
        rcases Nat.lt_or_ge n ps.length with h | h
        · exact h
        · rw [List.drop_of_length_le h] at hpr; cases hpr
      have hget : ps.getD n [] = a ++ [10] := by
        rw [List.drop_eq_getElem_cons hnP] at hpr
        rw [List.getD_eq_getElem?_getD, List.getElem?_eq_getElem hnP]
        exact (List.cons.inj hpr).1
      have hdr : ps.drop (n + 1) = pcs b := by
        rw [List.drop_eq_getElem_cons hnP] at hpr
        exact (List.cons.inj hpr).2
      have hbl : r.length = a.length + 1 + b.length := by rw [hrab]; simp; omega
      have hal : a.length ≤ 30000 := by omega
      obtain ⟨x, hx⟩ : ∃ x, a ++ [10] = x := ⟨_, rfl⟩
      have hxl : (x.length : Int) = a.length + 1 := by rw [← hx]; simp
      have hemp : x.isEmpty = false := by rw [← hx]; cases a <;> rfl
      have hsu := fun W => Tryz.strings_HasSuffix ⟨x.toArray⟩ ⟨#[10]⟩ W (by rw [Lib.size_eq]; show x.length ≤ _; omega)
      rw [show Lib.hasSuffix (⟨x.toArray⟩ : ByteArray).data.toList (⟨#[10]⟩ : ByteArray).data.toList = true by rw [← hx]; exact suffix_nl a] at hsu
      have hsl : ∀ W, (Instr.slice 9 (.string ⟨x.toArray⟩) none (some (.int .i64 ((x.length : Int) - 1))) none).run Tryz.prog W = .ok (.string ⟨a.toArray⟩) W := fun W => by rw [← hx]; exact run_but_last a 10 _ W (by simp)
      have hl1 : (1 : Int) ≤ x.length := by omega
      have hl2 : (x.length : Int) ≤ 30001 := by omega
      have cW : wr.cell? ⟨w.heap.size, n, none⟩ = some (.string ⟨x.toArray⟩) := by
        rw [Joins.cell_of_block hWb, wvals_at ps n hnP, hget, hx]
      have hlt : (n : Int) < P := by have := HPL.out; omega
      have hrne : r ≠ [] := by rw [hrab]; simp
      have hrr := fun W hW => ref_recRead a W hW hal
      have hF1 : Hid ((rcRead a).2 ≠ 0 → linesOf l most = (acc, cnt, (rcRead a).2)) := fun h => by rw [hst.out.2.2]; exact dl_bad _ _ _ _ hrne hc h
      have hF2 : Hid ((rcRead a).2 = 0 → most ≤ m → linesOf l most = (acc, cnt, 2)) := fun h h' => by rw [hst.out.2.2]; exact dl_many _ _ _ _ hrne hc h (by rw [HM.out]; exact h')
      have hF3 : Hid ((rcRead a).2 = 0 → ¬ most ≤ m → linesOf l most = dl most f' b (acc ++ [(rcRead a).1]) (cnt + a.length + 1)) := fun h h' => by rw [hst.out.2.2]; exact dl_more _ _ _ _ hrne hc h (by rw [HM.out]; exact h')
      have hfb : Hid (b.length < f') := by have := hst.out.2.1; exact (show b.length < f' by omega)
      have HD : Hid (ps.drop (n + 1) = pcs b) := hdr
      have hb3 : cnt + a.length + 1 + b.length ≤ 30000 := by omega
      have hsum : IntKind.i64.wrap ((cnt : Int) + (x.length : Int)) = ((cnt + a.length + 1 : Nat) : Int) := by rw [IntKind.wrap_i64]; omega
      clear hst hpr hget hnP hrab hdr hx hrne hc hbl hr3 hxl
      generalize (rcRead a).1 = y at *
      generalize (rcRead a).2 = cd at *
      go_wp2_with fail
      refine (hsu _).mono ?_
      rintro e w2 ⟨rfl, rfl⟩
      go_wp2_with fail
      refine (hrr _ hLr).mono ?_
      rintro e w3 ⟨rfl, hB3⟩
      have hB3' := hB.trans (hB3.mono hB.size)
      have hW3 := heap_below hWb hB3 (heap_lt hWb)
      have hO3 := ownsRow_later hown hB3
      have HO3 : Aside (RecSl w3 (.slice ao m cv) acc) := HO.out.later hB3
      have hn1 : w.heap.size + 1 ≤ w3.heap.size := heap_lt hW3
      clear hrr hsl cW hWb hB hown hB3 hsu HO hLr
      by_cases hcd : cd = 0
      · subst hcd
        by_cases hm : most ≤ m
        · have HF : Hid (linesOf l most = (acc, cnt, 2)) := hF2.out rfl hm
          have hmi : (most : Int) ≤ (m : Int) := by omega
          have hmd : decide ((most : Int) ≤ (m : Int)) = true := decide_eq_true hmi
          clear hF1 hF2 hF3 hm
          go_wp2
          go_ret3
          exact ⟨.slice ao m cv, by rw [HF.out]; rfl, by rw [HF.out]; exact HO3.out.later (grew (Below.refl _ _) _), grew hB3' _⟩
        · have HF : Hid (linesOf l most = dl most f' b (acc ++ [y]) (cnt + a.length + 1)) := hF3.out rfl hm
          have hmi : (m : Int) < (most : Int) := by omega
          have hmd : decide ((most : Int) ≤ (m : Int)) = false := by rw [decide_eq_false_iff_not]; omega
          have hes : Hid (RecSl ((w3.alloc (boxRc y)).alloc (boxRc y)) (.slice (some ⟨w3.heap.size + 1, 0, none⟩) 1 1) [y]) := by
            have := slOf_lit Rc.eight (w := (w3.alloc (boxRc y)).alloc (boxRc y)) (c := 1) (xs := [y]) (heap_new (w3.alloc (boxRc y)) (boxRc y)) rfl
            rwa [World.size_alloc] at this
          have own3 : Hid (((w3.alloc (boxRc y)).alloc (boxRc y)).ownsRow (w.heap.size + 1) 28 8 (.slice ao m cv) m (acc.flatMap Rc.cells)) := (hO3.alloc _).alloc _
          clear hF1 hF2 hF3 hm HO3
          go_wp2_with (at_builtin; refine appendC rfl _ _ rfl (w.heap.size + 1) _ _ m _ rfl own3.out [y] rfl hes.out (by simp; omega) (by simp only [World.size_alloc]; omega) ?_; intro v' w4 hown' hgrow)
          have hB4 : Below w.heap.size w w4 := (grew (grew hB3' _) _).grown hgrow (by simp only [World.size_alloc]; omega) (fun q hq => by have := (hO3.lt q hq).1; omega)
          have hW4 : w4.heap[w.heap.size]? = some (.cells (wvals ps) 9) := by
            rw [hgrow.block _ (by simp only [World.size_alloc]; omega) (fun e => by have := (hO3.lt _ e.symm).1; omega)]; exact heap_old (heap_old hW3 _) _
          obtain ⟨g4, cap4, hv4⟩ := Joins.ownsRow_form hown' (by simp)
          rw [hv4] at hown'
          have hO4 : w4.ownsRow (w.heap.size + 1) 28 8 (.slice (some ⟨g4, 0, none⟩) (m + 1) cap4) (m + 1) ((acc ++ [y]).flatMap Rc.cells) := by
            rw [List.flatMap_append]
            simpa using hown'
          have HM4 : Hid ((acc ++ [y]).length = m + 1) := by rw [Hid, List.length_append, HM.out]; rfl
          go_roundw
          case rel => exact ⟨n + 1, f', cnt + a.length + 1, m + 1, acc ++ [y], b, some ⟨g4, 0, none⟩, cap4, by go_num, by first | rfl | (rw [hsum]), by rw [hv4]; rfl, hO4, HM4, by omega, hW4, hB4, by omega, HD.out, hfb.out, HF.out⟩
          case measure => simp [intOf]; omega
      · have HF : Hid (linesOf l most = (acc, cnt, cd)) := hF1.out hcd
        have hcb : (cd == 0) = false := by rw [beq_eq_false_iff_ne]; exact hcd
        have hcn : (cd != 0) = true := by rw [bne_iff_ne]; exact hcd
        clear hF1 hF2 hF3 hcd
        go_wp2
        go_ret3
        exact ⟨.slice ao m cv, by rw [HF.out]; rfl, by rw [HF.out]; exact HO3.out.later (grew (Below.refl _ _) _), grew hB3' _⟩

end Go.Proofs.YtknjdbpdlodpbacGreatDoor
