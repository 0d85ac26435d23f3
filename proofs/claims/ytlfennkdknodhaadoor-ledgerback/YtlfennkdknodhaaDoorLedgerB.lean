/- The walk of package ledger's Parse. -/
import Derived.Test.YtlfennkdknodhaaDoorLedgerA
namespace Go.Proofs.YtlfennkdknodhaaDoor
open Go.RowKit

theorem nlcut (r a b : List UInt8) (f : Bool) (w : World) (hL : ∃ m, w.cell? ⟨2, 0, none⟩ = some (.int .i64 m)) (hr : r.length ≤ 30000) (hc : Lib.cut r [10] = (a, b, f)) :
    Calls Tryd.prog 35 #[.string ⟨r.toArray⟩, .string ⟨#[10]⟩] w fun e w' => e = .returned (.tuple #[.string ⟨a.toArray⟩, .string ⟨b.toArray⟩, .bool f]) ∧ Below w.heap.size w w' := by
  obtain ⟨m, hm⟩ := hL
  have h := Tryd.strings_Cut ⟨r.toArray⟩ ⟨#[10]⟩ m w (by simp [Lib.size_eq]; omega) hm
  rw [show Lib.cut (⟨r.toArray⟩ : ByteArray).data.toList (⟨#[10]⟩ : ByteArray).data.toList = (a, b, f) from hc] at h
  refine h.mono ?_
  rintro e w' ⟨rfl, n, rfl⟩
  exact ⟨rfl, below_drewN (Below.refl _ _) _⟩

theorem led_long (l : List UInt8) (w : World) (hs : 30000 < (l.length : Int)) :
    Calls Tryd.prog 15 #[.string ⟨l.toArray⟩] w fun e w' => e = .returned (.tuple #[.slice none 0 0, .int .i64 2]) ∧ w' = w := by
  go_enter Tryd.func15, Tryd.ntmps15
  go_wp2
  go_ret2
  exact ⟨rfl, rfl⟩

set_option maxHeartbeats 4000000 in
theorem led_short (l : List UInt8) (w : World) (hL : Laid w) (hl : l.length ≤ 30000) :
    Calls Tryd.prog 15 #[.string ⟨l.toArray⟩] w fun e w' => ∃ v, e = .returned (.tuple #[v, .int .i64 (ledRead l).2]) ∧ w'.ownsRow w.heap.size 23 5 v (ledRead l).1.length ((ledRead l).1.flatMap En.cells) ∧ Below w.heap.size w w' := by
  have HR : Hid (ledRead l = lread (l.length + 1) l []) := rfl
  have hli : (l.length : Int) ≤ 30000 := by omega
  have HL : Hid (l.length ≤ 30000) := hl
  clear hl
  go_enter Tryd.func15, Tryd.ntmps15
  go_wp2
  go_loopw [4, 5] (fun v s wr => ∃ (f : Nat) (acc : List En) (r : List UInt8) (ao : Option Addr) (cv : Nat), s = .string ⟨r.toArray⟩ ∧ v = .slice ao acc.length cv ∧ wr.ownsRow w.heap.size 23 5 (.slice ao acc.length cv) acc.length (acc.flatMap En.cells) ∧
    acc.length ≤ 60 ∧ Below w.heap.size w wr ∧ r.length ≤ 30000 ∧ Hid (r.length < f ∧ ledRead l = lread f r acc)) (fun _ s _ => match s with | .string x => x.size | _ => 0)
  case atStart => exact ⟨l.length + 1, [], l, none, 0, rfl, rfl, World.ownsRow_nil _ _ _ _, by simp, Below.refl _ _, HL.out, Nat.lt_succ_self _, HR.out⟩
  case round =>
    clear HR
    obtain ⟨f, acc, r, ao, cv, rfl, rfl, hown, hacc, hB, hr3, hst⟩ := hrel
    obtain ⟨f', hf'⟩ : ∃ f', f = f' + 1 := ⟨f - 1, by have := hst.out.1; omega⟩
    subst hf'
    have hLr := hL.later hB
    by_cases hre : r = []
    · subst hre
      have HF : Hid (ledRead l = (acc, 0)) := by rw [Hid, hst.out.2]; exact lread_nil _ _
      clear hst hLr
      go_wp2
      go_ret2
      exact ⟨_, by rw [HF.out]; rfl, by rw [HF.out]; exact hown, hB⟩
    · have hne : r.isEmpty = false := by cases r with | nil => exact absurd rfl hre | cons _ _ => rfl
      rcases hc : Lib.cut r [10] with ⟨a, b, g⟩
      have hcu := fun W hW => nlcut r a b g W hW hr3 hc
      cases g with
      | false =>
        have HF : Hid (ledRead l = ([], 9)) := by rw [Hid, hst.out.2]; exact lread_torn _ _ hre hc
        clear hst
        go_wp2_with fail
        refine (hcu _ hLr.most).mono ?_
        rintro e w3 ⟨rfl, hb3⟩
        have hB3 := hB.trans (hb3.mono hB.size)
        clear hcu hb3
        go_wp2
        go_ret2
        exact ⟨.slice none 0 0, by rw [HF.out]; rfl, by rw [HF.out]; exact World.ownsRow_nil _ _ _ _, hB3⟩
      | true =>
        have hrab := nl_back r a b hc
        have hbl : b.length < r.length := by rw [hrab]; simp; omega
        have hal : a.length ≤ 30000 := by rw [hrab] at hr3; simp at hr3; omega
        have hpr := fun W hW => parse_any ⟨a.toArray⟩ W hW
        have hF1 : Hid ((prs a).2 ≠ 0 → ledRead l = ([], (prs a).2)) := fun h => by rw [hst.out.2]; exact lread_bad _ _ hre hc h
        have hF2 : Hid ((prs a).2 = 0 → acc.length = 60 → ledRead l = ([], 2)) := fun h h' => by rw [hst.out.2]; exact lread_many _ _ hre hc h h'
        have hF3 : Hid ((prs a).2 = 0 → acc.length ≠ 60 → ledRead l = lread f' b (acc ++ [(prs a).1])) := fun h h' => by rw [hst.out.2]; exact lread_more _ _ hre hc h h'
        have hfb : Hid (b.length < f') := by have := hst.out.1; exact (show b.length < f' by omega)
        have hb3 : b.length ≤ 30000 := by omega
        have hszb : (⟨b.toArray⟩ : ByteArray).size < (⟨r.toArray⟩ : ByteArray).size := by rw [Lib.size_eq, Lib.size_eq]; exact hbl
        change ∀ W, Laid W → Calls Tryd.prog 8 #[.string ⟨a.toArray⟩] W fun e w' => e = .returned (.tuple #[(prs a).1.val, .int .i64 (prs a).2]) ∧ Below W.heap.size W w' at hpr
        clear hst hrab hc hbl hre
        generalize (prs a).1 = y at *
        generalize (prs a).2 = cd at *
        go_wp2_with fail
        refine (hcu _ hLr.most).mono ?_
        rintro e w2 ⟨rfl, hb2⟩
        have hB2 := hB.trans (hb2.mono hB.size)
        have hO2 := ownsRow_later hown hb2
        clear hcu hb2 hown hB hLr
        go_wp2_with fail
        refine (hpr _ (hL.later hB2)).mono ?_
        rintro e w3 ⟨rfl, hB3⟩
        have hB3' := hB2.trans (hB3.mono hB2.size)
        have hO3 := ownsRow_later hO2 hB3
        clear hpr hB2 hO2 hB3
        have hn1 : w.heap.size ≤ w3.heap.size := hB3'.size
        by_cases hcd : cd = 0
        · subst hcd
          by_cases hm : acc.length = 60
          · have HF : Hid (ledRead l = ([], 2)) := hF2.out rfl hm
            have hmi : ((acc.length : Int) == 60) = true := by rw [beq_iff_eq]; omega
            clear hF1 hF2 hF3 hm
            generalize acc.length = m at *
            go_wp2
            go_ret2
            exact ⟨.slice none 0 0, by rw [HF.out]; rfl, by rw [HF.out]; exact World.ownsRow_nil _ _ _ _, grew hB3' _⟩
          · have HF : Hid (ledRead l = lread f' b (acc ++ [y])) := hF3.out rfl hm
            have hmi : ((acc.length : Int) == 60) = false := by rw [beq_eq_false_iff_ne]; omega
            have hm60 : acc.length + 1 ≤ 60 := by omega
            clear hF1 hF2 hF3 hm
            generalize hml : acc.length = m at *
            have HM : Hid (acc.length = m) := hml
            clear hml
            obtain ⟨i0, hi, hz0, hz1, hz2⟩ := info_parts infoEntry
            go_wp2_with (first
              | (at_builtin; refine wpList_append_own _ rfl _ _ 34 rfl w.heap.size 23 i0 (ev 0 0 0 0 0) 5 40 Tryd.underlying34 hi hz0 hz1 hz2 rfl (by decide) _ _ _ rfl ((hO3.alloc _).alloc _) ⟨w3.heap.size + 1, 0, none⟩ 1 1 y.cells rfl rfl ?_ ?_ (by unfold maxLen; omega) (by omega) (by simp; omega) ?_; rotate_left 2; intro v' w4 hown' hgrow hnil))
            case refine_1 =>
              intro j u hj
              have := cells_new (w3.alloc (boxE y.k y.j y.v y.t y.c)) y 23 j u hj
              rwa [World.size_alloc] at this
            case refine_2 =>
              intro u hu
              simp only [En.cells, List.mem_cons, List.not_mem_nil, or_false] at hu
              rcases hu with rfl | rfl | rfl | rfl | rfl <;> rfl
            have hB4 : Below w.heap.size w w4 := (grew (grew hB3' _) _).grown hgrow (by simp; omega) (fun q hq => by have := (hO3.lt q hq).1; omega)
            obtain ⟨g4, cap4, hv4⟩ := Joins.ownsRow_form hown' (by omega)
            rw [hv4] at hown'
            have hlen : (acc ++ [y]).length = m + 1 := by rw [List.length_append, HM.out]; rfl
            have hO4 : w4.ownsRow w.heap.size 23 5 (.slice (some ⟨g4, 0, none⟩) (acc ++ [y]).length cap4) (acc ++ [y]).length ((acc ++ [y]).flatMap En.cells) := by
              rw [hlen, List.flatMap_append]
              simpa using hown'
            go_wp2
            go_roundw
            case rel => exact ⟨f', acc ++ [y], b, some ⟨g4, 0, none⟩, cap4, rfl, by rw [hv4, hlen], hO4, by rw [hlen]; exact hm60, hB4, hb3, hfb.out, HF.out⟩
            case measure => exact hszb
        · have HF : Hid (ledRead l = ([], cd)) := hF1.out hcd
          have hcn : (cd != 0) = true := by rw [bne_iff_ne]; exact hcd
          clear hF1 hF2 hF3 hcd
          go_wp2
          go_ret2
          exact ⟨.slice none 0 0, by rw [HF.out]; rfl, by rw [HF.out]; exact World.ownsRow_nil _ _ _ _, grew hB3' _⟩

/-- Parse, at every text. -/
theorem reads_any : Reads := by
  intro l w hL
  by_cases hl : 30000 < l.length
  · rw [lparse, if_pos hl]
    refine (led_long l w (by omega)).mono ?_
    rintro e w' ⟨rfl, rfl⟩
    exact ⟨_, rfl, ⟨none, 0, rfl, Or.inl rfl⟩, Below.refl _ _⟩
  · rw [lparse, if_neg hl]
    refine (led_short l w hL (by omega)).mono ?_
    rintro e w' ⟨v, rfl, h1, h2⟩
    exact ⟨v, rfl, entSl_of_owns h1, h2⟩

end Go.Proofs.YtlfennkdknodhaaDoor
