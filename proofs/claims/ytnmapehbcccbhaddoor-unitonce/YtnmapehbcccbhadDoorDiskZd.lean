/- Package disk's read. Package disk's Check and Same. -/
import Derived.Test.YtnmapehbcccbhadDoorDiskZa
import Derived.Test.YtnmapehbcccbhadDoorDiskZb
import Derived.Test.YtnmapehbcccbhadDoorNoteZ
import Derived.OwnWalk
namespace Go.Proofs.YtnmapehbcccbhadDoor
open Go.RowKit

theorem bytesOf_back (l : List UInt8) : Lib.bytesOf (l.map fun x => (x.toNat : Int)) = l := by
  unfold Lib.bytesOf
  rw [List.map_map]
  conv => rhs; rw [← List.map_id l]
  apply List.map_congr_left
  intro x _
  simp

/-- bytes.IndexByte at a line feed. -/
theorem idx_nl (l : List UInt8) (b off c : Nat) (w : World) (h : RowAt bt 1 w b off l) :
    Calls Tryd.prog 38 #[.slice (some ⟨b, off, none⟩) l.length c, .int .u8 10] w fun e w' => e = .returned (.int .i64 (Lib.indexByte l 10)) ∧ w' = w := by
  have k := Tryd.bytes_IndexByte b off l.length c (l.map fun x => (x.toNat : Int)) 10 w (by simp) (fun i hi => by
    have := h i l[i] (List.getElem?_eq_getElem hi) 0 _ rfl
    rw [Nat.mul_one, Nat.add_zero] at this
    rw [this, List.getD_eq_getElem?_getD, List.getElem?_map, List.getElem?_eq_getElem hi]
    rfl)
  rw [bytesOf_back] at k
  exact k

theorem nl_at {l a b : List UInt8} (h : Lib.cut l [10] = (a, b, true)) : Lib.indexByte l 10 = a.length := by rw [← Lib.index_one]; exact (nl_first h).2
theorem nl_at_none {l a b : List UInt8} (h : Lib.cut l [10] = (a, b, false)) : Lib.indexByte l 10 = -1 := by rw [← Lib.index_one]; exact nl_index_no (by rw [h])

theorem elemY : Tryd.prog.underlying 24 = some (.slice (Tryd.prog.elem 24)) := by kernel_rfl
theorem oneBy (W : World) : (sizeOf (Tryd.prog.elem 24)).run Tryd.prog W = .ok 1 W := by kernel_rfl

/-- A slice's rest; a piece of it. -/
theorem sl_rest (b off n c t : Nat) (ht : t < n) (hc : n ≤ c) (W : World) : (Instr.slice 24 (.slice (some ⟨b, off, none⟩) n c) (some (.int .i64 t)) none none).run Tryd.prog W = .ok (.slice (some ⟨b, off + t, none⟩) (n - t) (c - t)) W := by
  rw [run_slice_l (ht := elemY) (h0 := by omega) (h1 := by omega)]
  have hne : ¬ c = t := by omega
  rw [oneBy]
  simp [Result.andThen, sliced, Lib.add_plain, hne]

theorem sl_piece (b off n c t u : Nat) (ht : t < n) (hu : t + u ≤ n) (hc : n ≤ c) (W : World) : (Instr.slice 24 (.slice (some ⟨b, off, none⟩) n c) (some (.int .i64 t)) (some (.int .i64 ((t + u : Nat) : Int))) none).run Tryd.prog W = .ok (.slice (some ⟨b, off + t, none⟩) u (c - t)) W := by
  rw [run_slice_lh (ht := elemY) (h0 := by omega) (h1 := by omega) (h2 := by omega)]
  have hne : ¬ c = t := by omega
  rw [oneBy]
  have e : t + u - t = u := by omega
  simp only [Result.andThen, sliced, Int.toNat_natCast, Lib.add_plain, Nat.mul_one, if_neg hne, Option.map_some, e]

set_option maxHeartbeats 2000000 in
set_option maxRecDepth 100000 in
theorem read_at (b off n c : Nat) (l : List UInt8) (w : World) (hL : Laid w) (hT : RowAt bt 1 w b off l) (hn : l.length = n) (hn0 : 0 < n) (hc : n ≤ c) (hl : n ≤ 30000) :
    Calls Tryd.prog 25 #[.slice (some ⟨b, off, none⟩) n c] w fun e w' => ∃ v, e = .returned (.tuple #[v, .int .i64 (linesOf l 160).2.1, .int .i64 (linesOf l 160).2.2]) ∧ w'.ownsRow w.heap.size 30 8 v (linesOf l 160).1.length ((linesOf l 160).1.flatMap Rc.cells) ∧ Below w.heap.size w w' := by
  have HR : Hid (linesOf l 160 = dl 160 (l.length + 1) l [] 0) := rfl
  have HT : Hid (RowAt bt 1 w b off l) := hT
  have HN : Hid (l.length = n) := hn
  have HF0 : Hid (l.length < l.length + 1) := Nat.lt_succ_self _
  clear hT hn
  go_enter Tryd.func25, Tryd.ntmps25
  go_wp2
  go_loopw [5, 6] (fun v z wr => ∃ (f cnt m : Nat) (acc : List Rc) (r : List UInt8) (ao : Option Addr) (cv : Nat), z = .int .i64 cnt ∧ v = .slice ao m cv ∧ wr.ownsRow w.heap.size 30 8 (.slice ao m cv) m (acc.flatMap Rc.cells) ∧ Hid (acc.length = m) ∧
    m ≤ 160 ∧ Below w.heap.size w wr ∧ Hid (cnt + r.length = n) ∧ Hid (l.drop cnt = r ∧ r.length < f ∧ linesOf l 160 = dl 160 f r acc cnt)) (fun _ z _ => n - (intOf z).toNat)
  case atStart => exact ⟨l.length + 1, 0, 0, [], l, none, 0, rfl, rfl, World.ownsRow_nil _ _ _ _, rfl, Nat.zero_le _, Below.refl _ _, by rw [Hid, Nat.zero_add]; exact HN.out, rfl, HF0.out, HR.out⟩
  case round =>
    clear HR HF0
    obtain ⟨f, cnt, m, acc, r, ao, cv, rfl, rfl, hown, HM, hacc, hB, hr3, hst⟩ := hrel
    have hLr := hL.later hB
    by_cases hr : r = []
    · have hcn : cnt = n := by have := hr3.out; rw [hr] at this; simpa using this
      obtain ⟨f', hf'⟩ : ∃ f', f = f' + 1 := ⟨f - 1, by have := hst.out.2.1; omega⟩
      have HF : Hid (linesOf l 160 = (acc, cnt, 0)) := by rw [Hid, hst.out.2.2, hr, hf']; exact dl_nil _ _ _ _
      have hge : (n : Int) ≤ (cnt : Int) := by omega
      have HO : Aside _ := hown
      clear hst hr hown hr3 hcn
      go_wp2
      go_ret3
      exact ⟨.slice ao m cv, by rw [HF.out]; rfl, by rw [HF.out]; show wr.ownsRow _ _ _ _ acc.length _; rw [HM.out]; exact HO.out, hB⟩
    · have hcn : cnt < n := by
        have := hr3.out
        have : 0 < r.length := List.length_pos_iff.2 hr
        omega
      have hlt : (cnt : Int) < (n : Int) := by omega
      have hrow : RowAt bt 1 wr b (off + cnt) r := by
        have := (HT.out.later hB).drop cnt
        rw [hst.out.1, Nat.mul_one] at this
        exact this
      have hidx := idx_nl r b (off + cnt) (c - cnt) wr hrow
      have hsl := fun W => sl_rest b off n c cnt hcn hc W
      rw [show n - cnt = r.length by have := hr3.out; omega] at hsl
      have hrl : r.length ≤ 30000 := by have := hr3.out; omega
      rcases hcut : Lib.cut r [10] with ⟨a, z, g⟩
      cases g with
      | false =>
        obtain ⟨f', hf'⟩ : ∃ f', f = f' + 1 := ⟨f - 1, by have := hst.out.2.1; omega⟩
        have HF : Hid (linesOf l 160 = (acc, cnt, 9)) := by rw [Hid, hst.out.2.2, hf']; exact dl_torn _ _ _ _ hr hcut
        rw [nl_at_none hcut] at hidx
        have HO : Aside _ := hown
        clear hst hr hown hr3 hcut hrow
        generalize r.length = k at *
        go_wp2_with fail
        refine hidx.mono ?_
        rintro e w2 ⟨rfl, rfl⟩
        clear hidx hsl
        go_wp2
        go_ret3
        exact ⟨.slice ao m cv, by rw [HF.out]; rfl, by rw [HF.out]; show World.ownsRow _ _ _ _ _ acc.length _; rw [HM.out]; exact HO.out, hB⟩
      | true =>
        have hra := nl_back r a z hcut
        have hlen : r.length = a.length + 1 + z.length := by rw [hra]; simp; omega
        rw [nl_at hcut] at hidx
        have hal : a.length ≤ 30000 := by omega
        have hpiece := fun W => sl_piece b off n c cnt a.length hcn (by have := hr3.out; omega) hc W
        rw [Int.natCast_add] at hpiece
        have hta : r.take a.length = a := by rw [hra, List.take_left']; rfl
        have hby : ByteSl wr (.slice (some ⟨b, off + cnt, none⟩) a.length (c - cnt)) a := by
          have := hrow.take a.length
          rw [hta] at this
          exact ⟨_, _, rfl, Or.inr ⟨b, off + cnt, rfl, this⟩⟩
        have hcv := str_of hby
        have hps := fun W hW => noteParse_few a W hW hal
        obtain ⟨f', hf'⟩ : ∃ f', f = f' + 1 := ⟨f - 1, by have := hst.out.2.1; omega⟩
        subst hf'
        have hF1 : Hid ((rcRead a).2 ≠ 0 → linesOf l 160 = (acc, cnt, (rcRead a).2)) := fun h => by rw [hst.out.2.2]; exact dl_bad _ _ _ _ hr hcut h
        have hF2 : Hid ((rcRead a).2 = 0 → m = 160 → linesOf l 160 = (acc, cnt, 2)) := fun h h' => by rw [hst.out.2.2]; exact dl_many _ _ _ _ hr hcut h (by rw [HM.out]; omega)
        have hF3 : Hid ((rcRead a).2 = 0 → ¬ m = 160 → linesOf l 160 = dl 160 f' z (acc ++ [(rcRead a).1]) (cnt + a.length + 1)) := fun h h' => by rw [hst.out.2.2]; exact dl_more _ _ _ _ hr hcut h (by rw [HM.out]; omega)
        have HZ : Hid (l.drop (cnt + a.length + 1) = z ∧ z.length < f' ∧ cnt + a.length + 1 + z.length = n) := by
          refine ⟨?_, by have := hst.out.2.1; omega, by have := hr3.out; omega⟩
          rw [show cnt + a.length + 1 = cnt + (a.length + 1) by omega, ← List.drop_drop, hst.out.1, hra]
          rw [show a ++ 10 :: z = (a ++ [10]) ++ z by simp, List.drop_left']
          simp
        have HO : Aside (wr.ownsRow w.heap.size 30 8 (.slice ao m cv) m (acc.flatMap Rc.cells)) := hown
        have hsum1 : IntKind.i64.wrap ((cnt : Int) + ((a.length : Int) + 1)) = ((cnt + a.length + 1 : Nat) : Int) := by rw [IntKind.wrap_i64]; omega
        have hcb : cnt ≤ 30000 := by omega
        clear hst hr hown hr3 hcut hrow hra hlen hta hby
        generalize r.length = k at *
        generalize (rcRead a).1 = y at *
        generalize (rcRead a).2 = cd at *
        generalize a.length = al at *
        go_wp2_with fail
        refine hidx.mono ?_
        rintro e w2 ⟨rfl, rfl⟩
        clear hidx hsl
        go_wp2_with fail
        refine (hps _ hLr).mono ?_
        rintro e w3 ⟨rfl, hB3⟩
        have hB3' := hB.trans (hB3.mono hB.size)
        have HO3 : Aside (w3.ownsRow w.heap.size 30 8 (.slice ao m cv) m (acc.flatMap Rc.cells)) := ownsRow_later HO.out hB3
        clear hps hpiece hcv hB hB3 HO hLr
        by_cases hcd : cd = 0
        · subst hcd
          by_cases hm : m = 160
          · have HF : Hid (linesOf l 160 = (acc, cnt, 2)) := hF2.out rfl hm
            have hmb : ((m : Int) == 160) = true := by rw [hm]; rfl
            have HOA : Aside ((w3.alloc (boxRc y)).ownsRow w.heap.size 30 8 (.slice ao m cv) m (acc.flatMap Rc.cells)) := ownsRow_later HO3.out (grew (Below.refl _ _) _)
            clear hF1 hF2 hF3 hm
            go_wp2
            go_ret3
            exact ⟨.slice ao m cv, by rw [HF.out]; rfl, by rw [HF.out]; show World.ownsRow _ _ _ _ _ acc.length _; rw [HM.out]; exact HOA.out, grew hB3' _⟩
          · have HF : Hid (linesOf l 160 = dl 160 f' z (acc ++ [y]) (cnt + al + 1)) := hF3.out rfl hm
            have hmb : ((m : Int) == 160) = false := by rw [beq_eq_false_iff_ne]; omega
            have hm1 : m + 1 ≤ 160 := by omega
            have hes : Hid (RecSl ((w3.alloc (boxRc y)).alloc (boxRc y)) (.slice (some ⟨w3.heap.size + 1, 0, none⟩) 1 1) [y]) := by
              have := slOf_lit Rc.eight (w := (w3.alloc (boxRc y)).alloc (boxRc y)) (c := 1) (xs := [y]) (heap_new (w3.alloc (boxRc y)) (boxRc y)) rfl
              rwa [World.size_alloc] at this
            have own3 : Hid (((w3.alloc (boxRc y)).alloc (boxRc y)).ownsRow w.heap.size 30 8 (.slice ao m cv) m (acc.flatMap Rc.cells)) := (HO3.out.alloc _).alloc _
            clear hF1 hF2 hF3 hm
            go_wp2_with (at_builtin; refine appendC rfl _ _ rfl w.heap.size _ _ m _ rfl own3.out [y] rfl hes.out (by simp; omega) (by have := hB3'.size; simp only [World.size_alloc]; omega) ?_; intro v' w4 hown' hgrow)
            have hB4 : Below w.heap.size w w4 := (grew (grew hB3' _) _).grown hgrow (by have := hB3'.size; simp only [World.size_alloc]; omega) (fun q hq => by have := (HO3.out.lt q hq).1; omega)
            obtain ⟨g4, cap4, hv4⟩ := Joins.ownsRow_form hown' (by simp)
            rw [hv4] at hown'
            have hO4 : w4.ownsRow w.heap.size 30 8 (.slice (some ⟨g4, 0, none⟩) (m + 1) cap4) (m + 1) ((acc ++ [y]).flatMap Rc.cells) := by
              rw [List.flatMap_append]
              simpa using hown'
            have HM4 : Hid ((acc ++ [y]).length = m + 1) := by rw [Hid, List.length_append, HM.out]; rfl
            go_roundw
            case rel => exact ⟨f', cnt + al + 1, m + 1, acc ++ [y], z, some ⟨g4, 0, none⟩, cap4, by first | rfl | (rw [hsum1]) | (go_num), by rw [hv4]; rfl, hO4, HM4, hm1, hB4, HZ.out.2.2, ⟨HZ.out.1, HZ.out.2.1, HF.out⟩⟩
            case measure => have := HZ.out.2.2; simp [intOf]; omega
        · have HF : Hid (linesOf l 160 = (acc, cnt, cd)) := hF1.out hcd
          have hcn2 : (cd != 0) = true := by rw [bne_iff_ne]; exact hcd
          have HOA : Aside ((w3.alloc (boxRc y)).ownsRow w.heap.size 30 8 (.slice ao m cv) m (acc.flatMap Rc.cells)) := ownsRow_later HO3.out (grew (Below.refl _ _) _)
          clear hF1 hF2 hF3 hcd
          go_wp2
          go_ret3
          exact ⟨.slice ao m cv, by rw [HF.out]; rfl, by rw [HF.out]; show World.ownsRow _ _ _ _ _ acc.length _; rw [HM.out]; exact HOA.out, grew hB3' _⟩

end Go.Proofs.YtnmapehbcccbhadDoor
namespace Go.Proofs.YtnmapehbcccbhadDoor
open Go.RowKit

/-- read, at every slice. -/
theorem diskRead_any (v : Value) (l : List UInt8) (w : World) (hL : Laid w) (h : ByteSl w v l) (hr : Roomy v) (hl : l.length ≤ 30000) :
    Calls Tryd.prog 25 #[v] w fun e w' => ∃ u, e = .returned (.tuple #[u, .int .i64 (linesOf l 160).2.1, .int .i64 (linesOf l 160).2.2]) ∧ w'.ownsRow w.heap.size 30 8 u (linesOf l 160).1.length ((linesOf l 160).1.flatMap Rc.cells) ∧ Below w.heap.size w w' := by
  by_cases h0 : l = []
  · subst h0
    obtain ⟨a, c, rfl, _⟩ := h
    have e : linesOf [] 160 = ([], 0, 0) := dl_nil _ _ _ _
    rw [e]
    go_enter Tryd.func25, Tryd.ntmps25
    go_wp2
    go_loopw [5, 6] (fun v z wr => v = nilB ∧ z = .int .i64 0 ∧ wr = w) (fun _ _ _ => 0)
    case atStart => exact ⟨rfl, rfl, rfl⟩
    case round =>
      obtain ⟨rfl, rfl, rfl⟩ := hrel
      go_wp2
      go_ret3
      exact ⟨nilB, rfl, World.ownsRow_nil _ _ _ _, Below.refl _ _⟩
  · obtain ⟨a, n, c, rfl, hc⟩ := hr
    have hn := h.len
    have hn0 : 0 < n := by rw [← hn]; exact List.length_pos_iff.2 h0
    obtain ⟨b, off, rfl, hE⟩ := h.at hn0
    exact read_at b off n c l w hL hE hn hn0 hc (by omega)

set_option maxHeartbeats 1000000 in
set_option maxRecDepth 100000 in
theorem diskCheck_any (v1 v2 : Value) (d : Dk) (w : World) (hL : Laid w) (h : DiskR w v1 v2 d) (hn1 : d.1.length ≤ topLen) (hn2 : d.2.length ≤ topLen) :
    Calls Tryd.prog 21 #[.agg #[v1, v2]] w fun e w' => e = .returned (.int .i64 (ckDisk d.1 d.2)) ∧ Below w.heap.size w w' := by
  obtain ⟨s, t⟩ := d
  dsimp only at hn1 hn2 ⊢
  have hB := grew (Below.refl w.heap.size w) (boxD v1 v2)
  have hrd := fun hl => diskRead_any v1 s _ (hL.later hB) (h.safe.later hB) h.room1 hl
  obtain ⟨a1, c1, rfl, _⟩ := h.safe
  obtain ⟨a2, c2, rfl, _⟩ := h.wait
  clear h
  dsimp only at hrd ⊢
  change s.length ≤ 140737488351232 at hn1
  change t.length ≤ 140737488351232 at hn2
  by_cases hk : 30000 < s.length + t.length
  · have hr : ckDisk s t = 2 := by rw [ckDisk, if_pos (by omega)]
    rw [hr]
    clear hr hrd
    generalize s.length = n at *
    generalize t.length = m at *
    have h1 : 30000 < (n : Int) + (m : Int) := by omega
    go_enter Tryd.func21, Tryd.ntmps21
    go_wp2
    go_ret
    exact ⟨rfl, grew (Below.refl _ _) _⟩
  · have hr : ckDisk s t = (linesOf s 160).2.2 := by rw [ckDisk, if_neg (by omega)]
    have hcall := hrd (by omega)
    rw [hr]
    clear hr hrd
    generalize (linesOf s 160).2.2 = d at *
    generalize (linesOf s 160).2.1 = z at *
    generalize (linesOf s 160).1 = rs at *
    generalize s.length = n at *
    generalize t.length = m at *
    have h1 : (n : Int) + (m : Int) ≤ 30000 := by omega
    have h2 : (n : Int) ≤ 30000 := by omega
    have h3 : (m : Int) ≤ 30000 := by omega
    go_enter Tryd.func21, Tryd.ntmps21
    go_wp2_with (go_at_call 25; refine hcall.mono ?_; rintro e w1 ⟨u, rfl, _, hb1⟩)
    go_ret
    exact ⟨rfl, hB.trans (hb1.mono hB.size)⟩

set_option maxHeartbeats 2000000 in
theorem diskSame_any (v1 v2 u1 u2 : Value) (d x : Dk) (w : World) (h1 : DiskR w v1 v2 d) (h2 : DiskR w u1 u2 x) :
    Calls Tryd.prog 14 #[.agg #[v1, v2], .agg #[u1, u2]] w fun e w' => e = .returned (.bool (decide (d = x))) ∧ Below w.heap.size w w' := by
  obtain ⟨s, t⟩ := d
  obtain ⟨s', t'⟩ := x
  have hB := grew (grew (Below.refl w.heap.size w) (boxD v1 v2)) (boxD u1 u2)
  have e1 := bytesEqual v1 u1 s s' _ (h1.safe.later hB) (h2.safe.later hB)
  have e2 := bytesEqual v2 u2 t t' _ (h1.wait.later hB) (h2.wait.later hB)
  obtain ⟨a1, c1, rfl, _⟩ := h1.safe
  obtain ⟨a2, c2, rfl, _⟩ := h1.wait
  obtain ⟨a3, c3, rfl, _⟩ := h2.safe
  obtain ⟨a4, c4, rfl, _⟩ := h2.wait
  have hd : decide ((s, t) = (s', t')) = (decide (s = s') && decide (t = t')) := by
    by_cases g1 : s = s' <;> by_cases g2 : t = t' <;> simp [g1, g2]
  rw [hd]
  have HB : Aside _ := hB
  clear h1 h2 hd hB
  dsimp only at e1 e2 ⊢
  generalize decide (s = s') = b1 at *
  generalize decide (t = t') = b2 at *
  generalize s.length = n1 at *
  generalize t.length = n2 at *
  generalize s'.length = n3 at *
  generalize t'.length = n4 at *
  go_enter Tryd.func14, Tryd.ntmps14
  go_wp2_with fail
  refine e1.mono ?_
  rintro e w1 ⟨rfl, hw1⟩
  subst hw1
  cases b1 with
  | false =>
    clear e1 e2
    go_wp2
    go_ret
    exact ⟨rfl, HB.out⟩
  | true =>
    clear e1
    go_wp2_with fail
    refine e2.mono ?_
    rintro e w2 ⟨rfl, hw2⟩
    subst hw2
    clear e2
    go_wp2
    go_ret
    exact ⟨rfl, HB.out⟩

end Go.Proofs.YtnmapehbcccbhadDoor
