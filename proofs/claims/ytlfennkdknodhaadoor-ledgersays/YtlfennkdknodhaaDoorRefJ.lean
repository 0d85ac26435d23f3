/- The reference's LedgerRead. -/
import Derived.Test.YtlfennkdknodhaaDoorRefI
namespace Go.Proofs.YtlfennkdknodhaaDoor
open Go.RowKit

/-- What is read of a ledger's text, behind the entries that were read. -/
def lread : Nat → List UInt8 → List En → List En × Int
  | 0, _, acc => (acc, 0)
  | f + 1, l, acc => if l = [] then (acc, 0) else if (Lib.cut l [10]).2.2 = false then ([], 9) else if (prs (Lib.cut l [10]).1).2 ≠ 0 then ([], (prs (Lib.cut l [10]).1).2)
      else if acc.length = 60 then ([], 2) else lread f (Lib.cut l [10]).2.1 (acc ++ [(prs (Lib.cut l [10]).1).1])

def ledRead (l : List UInt8) : List En × Int := lread (l.length + 1) l []

theorem lread_nil (f : Nat) (acc : List En) : lread (f + 1) [] acc = (acc, 0) := by rw [lread, if_pos rfl]
theorem lread_torn (f : Nat) (acc : List En) {l a b : List UInt8} (hl : l ≠ []) (h : Lib.cut l [10] = (a, b, false)) : lread (f + 1) l acc = ([], 9) := by rw [lread, if_neg hl, if_pos (by rw [h])]
theorem lread_bad (f : Nat) (acc : List En) {l a b : List UInt8} (hl : l ≠ []) (h : Lib.cut l [10] = (a, b, true)) (hp : (prs a).2 ≠ 0) : lread (f + 1) l acc = ([], (prs a).2) := by
  rw [lread, if_neg hl, if_neg (by rw [h]; simp), h, if_pos hp]
theorem lread_many (f : Nat) (acc : List En) {l a b : List UInt8} (hl : l ≠ []) (h : Lib.cut l [10] = (a, b, true)) (hp : (prs a).2 = 0) (hm : acc.length = 60) : lread (f + 1) l acc = ([], 2) := by
  rw [lread, if_neg hl, if_neg (by rw [h]; simp), h, if_neg (by simp [hp]), if_pos hm]
theorem lread_more (f : Nat) (acc : List En) {l a b : List UInt8} (hl : l ≠ []) (h : Lib.cut l [10] = (a, b, true)) (hp : (prs a).2 = 0) (hm : acc.length ≠ 60) : lread (f + 1) l acc = lread f b (acc ++ [(prs a).1]) := by
  rw [lread, if_neg hl, if_neg (by rw [h]; simp), h, if_neg (by simp [hp]), if_neg hm]

theorem infoEntry : (Tryd.prog.info? 23).map (fun i => (i.zero, i.size, i.bytes)) = some (some (ev 0 0 0 0 0), 5, 40) := by kernel_rfl

theorem cells_new (w : World) (e : En) (T : TypeId) : ∀ j u, e.cells[j]? = some u → (w.alloc (.cells #[.int .i64 e.k, .int .i64 e.j, .int .i64 e.v, .int .i64 e.t, .int .i64 e.c] T)).cell? ((⟨w.heap.size, 0, none⟩ : Addr).add j) = some u := by
  intro j u hj
  rw [Lib.add_plain, Nat.zero_add, World.cell?_alloc_at _ _ _ _ rfl]
  simpa [En.cells] using hj

/-- The last byte of a text. -/
theorem run_last (a : List UInt8) (z : UInt8) (n : Int) (w : World) (hn : n = a.length) :
    (Instr.index 9 (.string ⟨(a ++ [z]).toArray⟩) (.int .i64 n)).run Tryd.prog w = .ok (.int .u8 z.toNat) w := by
  subst hn
  rw [run_index_string (h := Tryd.underlying9)]
  have hsz : (⟨(a ++ [z]).toArray⟩ : ByteArray).size = a.length + 1 := by rw [Lib.size_eq]; simp
  rw [dif_pos ⟨by omega, by rw [hsz]; omega⟩]
  refine congrArg (fun b : UInt8 => Result.ok (Value.int .u8 (b.toNat : Int)) w) ?_
  show ((a ++ [z]).toArray)[((a.length : Nat) : Int).toNat]'_ = z
  simp

/-- A text but its last byte. -/
theorem run_but_last (a : List UInt8) (z : UInt8) (n : Int) (w : World) (hn : n = a.length) :
    (Instr.slice 9 (.string ⟨(a ++ [z]).toArray⟩) none (some (.int .i64 n)) none).run Tryd.prog w = .ok (.string ⟨a.toArray⟩) w := by
  subst hn
  have hsz : (⟨(a ++ [z]).toArray⟩ : ByteArray).size = a.length + 1 := by rw [Lib.size_eq]; simp
  rw [run_slice_string_h (ht := Tryd.underlying9) (h0 := by omega) (h2 := by rw [hsz]; omega)]
  refine congrArg (fun b : ByteArray => Result.ok (Value.string b) w) ?_
  rw [bytes_eta (ByteArray.extract _ _ _), Lib.extract_data]
  simp

set_option maxHeartbeats 4000000 in
theorem ref_ledRead (l : List UInt8) (w : World) (hL : Laid w) (hl : l.length ≤ 30000) :
    Calls Tryd.prog 18 #[.string ⟨l.toArray⟩] w fun e w' => ∃ v, e = .returned (.tuple #[v, .int .i64 (ledRead l).2]) ∧ w'.ownsRow (w.heap.size + 1) 23 5 v (ledRead l).1.length ((ledRead l).1.flatMap En.cells) ∧ Below w.heap.size w w' := by
  obtain ⟨i0, hi, hz0, hz1, hz2⟩ := info_parts infoEntry
  have hsp := lines_ref l w hL.most hl
  have HR : Hid (ledRead l = lread (l.length + 1) l []) := rfl
  obtain ⟨ps, hps⟩ : ∃ ps, pcs l = ps := ⟨_, rfl⟩
  have HP : Hid (ps.drop 0 = pcs l) := by rw [Hid, ← hps]; rfl
  rw [hps] at hsp
  have hlen : Hid (ps.length ≤ 40000) := by
    have h2 : (Lib.splitB ⟨#[10]⟩ 1 (Lib.countB ⟨l.toArray⟩ ⟨#[10]⟩) ⟨l.toArray⟩).map (·.data.toList) = pcs l := Lib.splitB_data ⟨#[10]⟩ 1 _ ⟨l.toArray⟩
    have h1 := Lib.splitB_length_le ⟨#[10]⟩ 1 (Lib.countB ⟨l.toArray⟩ ⟨#[10]⟩) ⟨l.toArray⟩
    have hc := Lib.countB_le ⟨#[10]⟩ (by decide) l.length ⟨l.toArray⟩ (by rw [Lib.size_eq]; exact Nat.le_refl _)
    have hs : (⟨l.toArray⟩ : ByteArray).size = l.length := by rw [Lib.size_eq]
    rw [← hps, ← h2, Hid, List.length_map]
    omega
  have hP4 : ps.length ≤ 40000 := hlen.out
  obtain ⟨P, hP⟩ : ∃ P, ps.length = P := ⟨_, rfl⟩
  rw [hP] at hsp hP4
  have HPL : Hid (ps.length = P) := hP
  clear hP hlen hps
  go_enter Tryd.func18, Tryd.ntmps18
  go_wp2_with fail
  refine hsp.mono ?_
  rintro e w1 ⟨rfl, hw1⟩
  clear hsp
  go_wp2
  have hB0 : Below w.heap.size w w1 := by rw [hw1]; exact grew (Below.refl _ _) _
  have hW0 : w1.heap[w.heap.size]? = some (.cells (wvals ps) 9) := by rw [hw1]; exact heap_new _ _
  have HI : Hid (_ ∧ _) := ⟨hB0, hW0⟩
  have hw1' := hw1.symm
  clear hB0 hW0 hw1
  rw [hw1']
  clear hw1'
  go_loopw [4, 12] (fun v i wr => ∃ (n f : Nat) (acc : List En) (r : List UInt8) (ao : Option Addr) (cv : Nat), i = .int .i64 n ∧ v = .slice ao acc.length cv ∧ wr.ownsRow (w.heap.size + 1) 23 5 (.slice ao acc.length cv) acc.length (acc.flatMap En.cells) ∧
    acc.length ≤ 60 ∧ wr.heap[w.heap.size]? = some (.cells (wvals ps) 9) ∧ Below w.heap.size w wr ∧ r.length ≤ 30000 ∧ Hid (ps.drop n = pcs r ∧ r.length < f ∧ ledRead l = lread f r acc)) (fun _ i _ => P - (intOf i).toNat)
  case atStart => exact ⟨0, l.length + 1, [], l, none, 0, rfl, rfl, World.ownsRow_nil _ _ _ _, by simp, HI.out.2, HI.out.1, hl, HP.out, Nat.lt_succ_self _, HR.out⟩
  case round =>
    clear HI HR HP
    obtain ⟨n, f, acc, r, ao, cv, rfl, rfl, hown, hacc, hWb, hB, hr3, hst⟩ := hrel
    obtain ⟨f', hf'⟩ : ∃ f', f = f' + 1 := ⟨f - 1, by have := hst.out.2.1; omega⟩
    subst hf'
    rcases hc : Lib.cut r [10] with ⟨a, b, g⟩
    have hLr := hL.later hB
    cases g with
    | false =>
      have hpr : ps.drop n = [r] := by rw [hst.out.1, pcs_no hc]
      have hnP : n < ps.length := by
        rcases Nat.lt_or_ge n ps.length with h | h
        · exact h
        · rw [List.drop_of_length_le h] at hpr; cases hpr
      have hget : ps.getD n [] = r := by
        rw [List.drop_eq_getElem_cons hnP] at hpr
        rw [List.getD_eq_getElem?_getD, List.getElem?_eq_getElem hnP]
        exact (List.cons.inj hpr).1
      have cW : wr.cell? ⟨w.heap.size, n, none⟩ = some (.string ⟨r.toArray⟩) := by
        rw [Joins.cell_of_block hWb, wvals_at ps n hnP, hget]
      have hlt : (n : Int) < P := by have := HPL.out; omega
      by_cases hre : r = []
      · have HF : Hid (ledRead l = (acc, 0)) := by rw [Hid, hst.out.2.2, hre]; exact lread_nil _ _
        have hemp : r.isEmpty = true := by rw [hre]; rfl
        clear hst hpr hget hnP hre hi hz0 hz1 hz2
        go_wp2
        go_ret2
        exact ⟨.slice ao acc.length cv, by rw [HF.out]; rfl, by rw [HF.out]; exact hown, hB⟩
      · have HF : Hid (ledRead l = ([], 9)) := by rw [Hid, hst.out.2.2]; exact lread_torn _ _ hre hc
        have hemp : r.isEmpty = false := by cases r with | nil => exact absurd rfl hre | cons _ _ => rfl
        have hl1 : (1 : Int) ≤ r.length := by cases r with | nil => exact absurd rfl hre | cons _ _ => simp only [List.length_cons]; omega
        have hl2 : (r.length : Int) ≤ 30000 := by omega
        obtain ⟨r0, z, hrz⟩ : ∃ r0 z, r = r0 ++ [z] := ⟨r.dropLast, r.getLast hre, (List.dropLast_concat_getLast hre).symm⟩
        have hix : ∀ W, (Instr.index 9 (.string ⟨r.toArray⟩) (.int .i64 ((r.length : Int) - 1))).run Tryd.prog W = .ok (.int .u8 z.toNat) W := fun W => by rw [hrz]; exact run_last r0 z _ W (by simp)
        have hz10 : ((z.toNat : Int) != 10) = true := by
          have h10 := nl_none (l := r) (by rw [hc])
          rw [bne_iff_ne]
          intro e
          have : z = 10 := UInt8.toNat_inj.1 (by have : (10 : UInt8).toNat = 10 := rfl; omega)
          exact h10 (by rw [hrz, this]; simp)
        clear hst hpr hget hown hnP hre hi hz0 hz1 hz2 hrz
        go_wp2
        go_ret2
        exact ⟨.slice none 0 0, by rw [HF.out]; rfl, by rw [HF.out]; exact World.ownsRow_nil _ _ _ _, hB⟩
    | true =>
      have hrab := nl_back r a b hc
      have hpr : ps.drop n = (a ++ [10]) :: pcs b := by rw [hst.out.1, pcs_yes hc]
      have hnP : n < ps.length := by
        rcases Nat.lt_or_ge n ps.length with h | h
        · exact h
        · rw [List.drop_of_length_le h] at hpr; cases hpr
      have hget : ps.getD n [] = a ++ [10] := by
        rw [List.drop_eq_getElem_cons hnP] at hpr
        rw [List.getD_eq_getElem?_getD, List.getElem?_eq_getElem hnP]
        exact (List.cons.inj hpr).1
      have hdr : ps.drop (n + 1) = pcs b := by
        rw [List.drop_eq_getElem_cons hnP] at hpr
        exact (List.cons.inj hpr).2
      have hbl : b.length < r.length := by rw [hrab]; simp; omega
      have hal : a.length ≤ 30000 := by rw [hrab] at hr3; simp at hr3; omega
      obtain ⟨x, hx⟩ : ∃ x, a ++ [10] = x := ⟨_, rfl⟩
      have hxl : (x.length : Int) = a.length + 1 := by rw [← hx]; simp
      have hemp : x.isEmpty = false := by rw [← hx]; cases a <;> rfl
      have hix : ∀ W, (Instr.index 9 (.string ⟨x.toArray⟩) (.int .i64 ((x.length : Int) - 1))).run Tryd.prog W = .ok (.int .u8 10) W := fun W => by rw [← hx]; exact run_last a 10 _ W (by simp)
      have hsl : ∀ W, (Instr.slice 9 (.string ⟨x.toArray⟩) none (some (.int .i64 ((x.length : Int) - 1))) none).run Tryd.prog W = .ok (.string ⟨a.toArray⟩) W := fun W => by rw [← hx]; exact run_but_last a 10 _ W (by simp)
      have hl1 : (1 : Int) ≤ x.length := by omega
      have hl2 : (x.length : Int) ≤ 30001 := by omega
      have cW : wr.cell? ⟨w.heap.size, n, none⟩ = some (.string ⟨x.toArray⟩) := by
        rw [Joins.cell_of_block hWb, wvals_at ps n hnP, hget, hx]
      have hlt : (n : Int) < P := by have := HPL.out; omega
      have hrne : r ≠ [] := by rw [hrab]; simp
      have hrr := fun W hW => ref_read a W hW hal
      have hF1 : Hid ((prs a).2 ≠ 0 → ledRead l = ([], (prs a).2)) := fun h => by rw [hst.out.2.2]; exact lread_bad _ _ hrne hc h
      have hF2 : Hid ((prs a).2 = 0 → acc.length = 60 → ledRead l = ([], 2)) := fun h h' => by rw [hst.out.2.2]; exact lread_many _ _ hrne hc h h'
      have hF3 : Hid ((prs a).2 = 0 → acc.length ≠ 60 → ledRead l = lread f' b (acc ++ [(prs a).1])) := fun h h' => by rw [hst.out.2.2]; exact lread_more _ _ hrne hc h h'
      have hfb : Hid (b.length < f') := by have := hst.out.2.1; exact (show b.length < f' by omega)
      have HD : Hid (ps.drop (n + 1) = pcs b) := hdr
      have hb3 : b.length ≤ 30000 := by omega
      clear hst hpr hget hnP hrab hdr hx hrne hc hxl hbl
      generalize (prs a).1 = y at *
      generalize (prs a).2 = cd at *
      go_wp2_with fail
      refine (hrr _ hLr).mono ?_
      rintro e w3 ⟨rfl, hB3⟩
      have hB3' := hB.trans (hB3.mono hB.size)
      have hW3 := heap_below hWb hB3 (heap_lt hWb)
      have hO3 := ownsRow_later hown hB3
      have hn1 : w.heap.size + 1 ≤ w3.heap.size := heap_lt hW3
      clear hrr hix hsl cW hWb hB hown hB3
      by_cases hcd : cd = 0
      · subst hcd
        by_cases hm : acc.length = 60
        · have HF := hF2.out rfl hm
          have HF : Hid (ledRead l = ([], 2)) := HF
          have hmi : ((acc.length : Int) == 60) = true := by rw [beq_iff_eq]; omega
          clear hF1 hF2 hF3 hm hi hz0 hz1 hz2
          generalize acc.length = m at *
          go_wp2
          go_ret2
          exact ⟨.slice none 0 0, by rw [HF.out]; rfl, by rw [HF.out]; exact World.ownsRow_nil _ _ _ _, grew hB3' _⟩
        · have HF : Hid (ledRead l = lread f' b (acc ++ [y])) := hF3.out rfl hm
          have hmi : ((acc.length : Int) == 60) = false := by rw [beq_eq_false_iff_ne]; omega
          have hm60 : acc.length + 1 ≤ 60 := by omega
          clear hF1 hF2 hF3 hm
          generalize hml : acc.length = m at *
          have HM : Hid (acc.length = m) := hml
          clear hml
          go_wp2_with (first
            | (at_builtin; refine wpList_append_own _ rfl _ _ 34 rfl (w.heap.size + 1) 23 i0 (ev 0 0 0 0 0) 5 40 Tryd.underlying34 hi hz0 hz1 hz2 rfl (by decide) _ _ _ rfl ((hO3.alloc _).alloc _) ⟨w3.heap.size + 1, 0, none⟩ 1 1 y.cells rfl rfl ?_ ?_ (by unfold maxLen; omega) (by omega) (by simp; omega) ?_; rotate_left 2; intro v' w4 hown' hgrow hnil))
          case refine_1 =>
            intro j u hj
            have := cells_new (w3.alloc (boxE y.k y.j y.v y.t y.c)) y 23 j u hj
            rwa [World.size_alloc] at this
          case refine_2 =>
            intro u hu
            simp only [En.cells, List.mem_cons, List.not_mem_nil, or_false] at hu
            rcases hu with rfl | rfl | rfl | rfl | rfl <;> rfl
          have hB4 : Below w.heap.size w w4 := (grew (grew hB3' _) _).grown hgrow (by simp; omega) (fun q hq => by have := (hO3.lt q hq).1; omega)
          have hW4 : w4.heap[w.heap.size]? = some (.cells (wvals ps) 9) := by
            rw [hgrow.block _ (by simp; omega) (fun e => by have := (hO3.lt _ e.symm).1; omega)]; exact heap_old (heap_old hW3 _) _
          obtain ⟨g4, cap4, hv4⟩ := Joins.ownsRow_form hown' (by omega)
          rw [hv4] at hown'
          have hlen : (acc ++ [y]).length = m + 1 := by rw [List.length_append, HM.out]; rfl
          have hO4 : w4.ownsRow (w.heap.size + 1) 23 5 (.slice (some ⟨g4, 0, none⟩) (acc ++ [y]).length cap4) (acc ++ [y]).length ((acc ++ [y]).flatMap En.cells) := by
            rw [hlen, List.flatMap_append]
            simpa using hown'
          go_roundw
          case rel => exact ⟨n + 1, f', acc ++ [y], b, some ⟨g4, 0, none⟩, cap4, by go_num, by rw [hv4, hlen], hO4, by rw [hlen]; exact hm60, hW4, hB4, hb3, HD.out, hfb.out, HF.out⟩
          case measure => simp [intOf]; omega
      · have HF : Hid (ledRead l = ([], cd)) := hF1.out hcd
        have hcb : (cd == 0) = false := by rw [beq_eq_false_iff_ne]; exact hcd
        have hcn : (cd != 0) = true := by rw [bne_iff_ne]; exact hcd
        clear hF1 hF2 hF3 hcd hi hz0 hz1 hz2
        go_wp2
        go_ret2
        exact ⟨.slice none 0 0, by rw [HF.out]; rfl, by rw [HF.out]; exact World.ownsRow_nil _ _ _ _, grew hB3' _⟩

end Go.Proofs.YtlfennkdknodhaaDoor
