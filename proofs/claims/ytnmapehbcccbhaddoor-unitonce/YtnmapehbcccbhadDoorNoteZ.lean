/- Package note's Print; strings.CutPrefix; read. Package note's read and Parse; its contracts. -/
import Derived.Test.YtnmapehbcccbhadDoorNoteZa
import Derived.Deep.Cut
namespace Go.Proofs.YtnmapehbcccbhadDoor
open Go.RowKit

abbrev sealBy : ByteArray := ⟨#[115, 101, 97, 108, 32]⟩

theorem litePre (l : List UInt8) (w : World) : Calls Tryd.prog 76 #[.string ⟨l.toArray⟩, .string sealBy] w fun e w' => e = .returned (.bool (sealL.isPrefixOf l)) ∧ w' = w := Tryd.stringslite_HasPrefix ⟨l.toArray⟩ sealBy w

theorem liteCut_yes (l : List UInt8) (w : World) (hp : sealL.isPrefixOf l = true) (hl : l.length ≤ 30000) :
    Calls Tryd.prog 65 #[.string ⟨l.toArray⟩, .string sealBy] w fun e w' => e = .returned (.tuple #[.string ⟨(l.drop 5).toArray⟩, .bool true]) ∧ w' = w := by
  have hpr := litePre l w
  rw [hp] at hpr
  have hlen5 : 5 ≤ l.length := by have := congrArg List.length (seal_prefix hp); rw [List.length_append] at this; have h5 : sealL.length = 5 := rfl; omega
  have hsl := ext_from l 5
  have hl5 : (5 : Int) ≤ (l.length : Int) := by omega
  generalize l.drop 5 = l5 at *
  clear hp hlen5
  go_enter Tryd.func65, Tryd.ntmps65
  go_wp2_with fail
  refine hpr.mono ?_
  rintro e w1 ⟨rfl, rfl⟩
  go_wp2
  go_ret2
  exact ⟨rfl, rfl⟩

theorem liteCut_no (l : List UInt8) (w : World) (hp : sealL.isPrefixOf l = false) :
    Calls Tryd.prog 65 #[.string ⟨l.toArray⟩, .string sealBy] w fun e w' => e = .returned (.tuple #[.string ⟨l.toArray⟩, .bool false]) ∧ w' = w := by
  have hpr := litePre l w
  rw [hp] at hpr
  clear hp
  go_enter Tryd.func65, Tryd.ntmps65
  go_wp2_with fail
  refine hpr.mono ?_
  rintro e w1 ⟨rfl, rfl⟩
  go_wp2
  go_ret2
  exact ⟨rfl, rfl⟩

theorem cutPre_yes (l : List UInt8) (w : World) (hp : sealL.isPrefixOf l = true) (hl : l.length ≤ 30000) :
    Calls Tryd.prog 55 #[.string ⟨l.toArray⟩, .string sealBy] w fun e w' => e = .returned (.tuple #[.string ⟨(l.drop 5).toArray⟩, .bool true]) ∧ w' = w := by
  have hpr := liteCut_yes l w hp hl
  clear hp hl
  go_enter Tryd.func55, Tryd.ntmps55
  go_wp2_with fail
  refine hpr.mono ?_
  rintro e w1 ⟨rfl, rfl⟩
  go_wp2
  go_ret2
  exact ⟨rfl, rfl⟩

theorem cutPre_no (l : List UInt8) (w : World) (hp : sealL.isPrefixOf l = false) :
    Calls Tryd.prog 55 #[.string ⟨l.toArray⟩, .string sealBy] w fun e w' => e = .returned (.tuple #[.string ⟨l.toArray⟩, .bool false]) ∧ w' = w := by
  have hpr := liteCut_no l w hp
  clear hp
  go_enter Tryd.func55, Tryd.ntmps55
  go_wp2_with fail
  refine hpr.mono ?_
  rintro e w1 ⟨rfl, rfl⟩
  go_wp2
  go_ret2
  exact ⟨rfl, rfl⟩

set_option maxHeartbeats 4000000 in
set_option maxRecDepth 100000 in
/-- Print, at every record. -/
theorem notePrint_any (r : Rc) (w : World) (hL : Laid w) :
    Calls Tryd.prog 22 #[r.val] w fun e w' => e = .returned (.tuple #[.string ⟨r.ptx.toArray⟩, .int .i64 r.chk]) ∧ Below w.heap.size w w' := by
  have hB0 := grew (Below.refl w.heap.size w) (boxRc r)
  have hck := noteCheck_any r (w.alloc (boxRc r))
  have hx0 : (w.alloc (boxRc r)).heap[w.heap.size]? = some (boxRc r) := heap_new _ _
  have hL0 := hL.later hB0
  have HB0 : Aside _ := hB0
  have HL0 : Aside _ := hL0
  have HX0 : Aside _ := hx0
  clear hB0 hL0 hx0
  by_cases hz : r.chk = 0
  · have HP : Hid (r.ptx = r.txt) := by rw [Hid, Rc.ptx, if_pos hz]
    rw [HP.out, hz]
    rw [hz] at hck
    by_cases hk : r.k = 2
    · have hp := (Rc.seal hz hk).1
      have HT : Hid (r.txt = sealL ++ Lib.itoa r.p) := by rw [Hid, Rc.txt, if_pos hk]
      have hit := fun W hW => itoa_any r.p W hW (by omega) (by omega)
      have hlen := Lib.itoa_length_le r.p (by omega) (by omega)
      have hkb : (r.k == 2) = true := by rw [hk]; rfl
      generalize Lib.itoa r.p = px at *
      have hd1 : ¬ (9223372036854775807 < 5 + px.length) := by omega
      have hd3 : 5 + px.length ≤ 9223372036854775807 := by omega
      clear hz hk
      go_enter Tryd.func22, Tryd.ntmps22
      go_wp2_with fail
      refine hck.mono ?_
      rintro e w1 ⟨rfl, hb1⟩
      have hx1 := heap_below HX0.out hb1 (heap_lt HX0.out)
      have z1 : ∀ i, w1.cell? ⟨w.heap.size, i, none⟩ = #[Value.int .i64 r.k, .int .i64 r.a, .int .i64 r.p, .int .i64 r.e.k, .int .i64 r.e.j, .int .i64 r.e.v, .int .i64 r.e.t, .int .i64 r.e.c][i]? := fun i => Joins.cell_of_block hx1 i
      have HB1 : Aside (Below w.heap.size w w1) := step_below1 HB0.out hb1
      have hit1 := hit w1 (HL0.out.later hb1)
      clear hck hx1 hb1 hit HB0 HL0 HX0 hL
      go_wp2_with fail
      refine hit1.mono ?_
      rintro e w2 ⟨rfl, hb2⟩
      have HB2 : Aside (Below w.heap.size w w2) := step_below1 HB1.out hb2
      clear hit1 hb2 HB1 z1
      go_wp2
      refine ret_pair (p := 2) (q := 3) rfl rfl rfl rfl ⟨tup_str ?_, HB2.out⟩
      rw [HT.out, data_append]
      rfl
    · obtain ⟨h1, ha, hp, he⟩ := Rc.write hz hk
      have HT : Hid (r.txt = Lib.itoa r.a ++ ([58, 32] ++ r.e.txt)) := by rw [Hid, Rc.txt, if_neg hk]
      have hit := fun W hW => itoa_any r.a W hW (by omega) (by omega)
      have htx := fun W hW => print_any r.e W hW
      rw [En.ptx, if_pos he, he] at htx
      have hlen := Lib.itoa_length_le r.a (by omega) (by omega)
      have hlen2 := txt_len r.e he
      have hkb : (r.k == 2) = false := by rw [beq_eq_false_iff_ne]; exact hk
      generalize Lib.itoa r.a = px at *
      generalize r.e.txt = tx at *
      have hd1 : ¬ (9223372036854775807 < px.length + 2) := by omega
      have hd2 : ¬ (9223372036854775807 < px.length + 2 + tx.length) := by omega
      have hd3 : px.length + 2 ≤ 9223372036854775807 := by omega
      have hd4 : px.length + 2 + tx.length ≤ 9223372036854775807 := by omega
      have hd5 : ¬ (9223372036854775807 < px.length + (2 + tx.length)) := by omega
      have hd6 : px.length + (2 + tx.length) ≤ 9223372036854775807 := by omega
      clear hz h1 hp he hk
      go_enter Tryd.func22, Tryd.ntmps22
      go_wp2_with fail
      refine hck.mono ?_
      rintro e w1 ⟨rfl, hb1⟩
      have hx1 := heap_below HX0.out hb1 (heap_lt HX0.out)
      have z1 : ∀ i, w1.cell? ⟨w.heap.size, i, none⟩ = #[Value.int .i64 r.k, .int .i64 r.a, .int .i64 r.p, .int .i64 r.e.k, .int .i64 r.e.j, .int .i64 r.e.v, .int .i64 r.e.t, .int .i64 r.e.c][i]? := fun i => Joins.cell_of_block hx1 i
      have HB1 : Aside (Below w.heap.size w w1) := step_below1 HB0.out hb1
      have HL1 : Aside (Laid w1) := HL0.out.later hb1
      have HX1 : Aside _ := hx1
      clear hck hx1 hb1 HB0 HL0 HX0 hL
      go_wp2_with fail
      refine (htx _ HL1.out).mono ?_
      rintro e w2 ⟨rfl, hb2⟩
      have hx2 := heap_below HX1.out hb2 (heap_lt HX1.out)
      have HB2 : Aside (Below w.heap.size w w2) := step_below1 HB1.out hb2
      have HL2 : Aside (Laid w2) := HL1.out.later hb2
      clear z1 hb2 htx HB1 HL1 HX1
      have z1 : ∀ i, w2.cell? ⟨w.heap.size, i, none⟩ = #[Value.int .i64 r.k, .int .i64 r.a, .int .i64 r.p, .int .i64 r.e.k, .int .i64 r.e.j, .int .i64 r.e.v, .int .i64 r.e.t, .int .i64 r.e.c][i]? := fun i => Joins.cell_of_block hx2 i
      clear hx2
      go_wp2_with fail
      refine (hit _ HL2.out).mono ?_
      rintro e w3 ⟨rfl, hb3⟩
      have HB3 : Aside (Below w.heap.size w w3) := step_below1 HB2.out hb3
      clear z1 hb3 hit HB2 HL2
      go_wp2
      refine ret_pair (p := 2) (q := 3) rfl rfl rfl rfl ⟨tup_str ?_, HB3.out⟩
      rw [HT.out, data_append, data_append]
      simp
  · have HP : Hid (r.ptx = []) := by rw [Hid, Rc.ptx, if_neg hz]
    rw [HP.out]
    have hzb : (r.chk != 0) = true := by rw [bne_iff_ne]; exact hz
    generalize r.chk = d at *
    go_enter Tryd.func22, Tryd.ntmps22
    go_wp2_with fail
    refine hck.mono ?_
    rintro e w1 ⟨rfl, hb1⟩
    have HB1 : Aside (Below w.heap.size w w1) := step_below1 HB0.out hb1
    clear hck hb1 HB0 HL0 HX0 hL
    go_wp2
    exact ret_pair (p := 2) (q := 3) rfl rfl rfl rfl ⟨rfl, HB1.out⟩

/-- What is read of a seal's word; of a write's words; of a text, ahead of the check. -/
def rdSeal (l : List UInt8) : Rc × Int := match numOf l with | none => (Rc.zero, 1) | some p => (⟨2, 0, p, En.zero⟩, 0)
def rdWrite (a b : List UInt8) : Rc × Int := match numOf a with | none => (Rc.zero, 1) | some x => if ¬ (prs b).2 = 0 then (Rc.zero, (prs b).2) else (⟨1, x, 0, (prs b).1⟩, 0)
def rdRaw (l : List UInt8) : Rc × Int :=
  if sealL.isPrefixOf l = true then rdSeal (l.drop 5) else if (Lib.cut l [58, 32]).2.2 = false then (Rc.zero, 1) else rdWrite (Lib.cut l [58, 32]).1 (Lib.cut l [58, 32]).2.1

theorem read_raw (l : List UInt8) : rcRead l = if ¬ (rdRaw l).2 = 0 then (Rc.zero, (rdRaw l).2) else (rdRaw l).1.fin := by
  unfold rcRead rdRaw
  by_cases hp : sealL.isPrefixOf l = true
  · rw [if_pos hp, if_pos hp]
    unfold rdSeal
    cases numOf (l.drop 5) with
    | none => rfl
    | some p => rfl
  · rw [if_neg hp, if_neg hp]
    by_cases hc : (Lib.cut l [58, 32]).2.2 = false
    · rw [if_pos hc, if_pos hc]; rfl
    · rw [if_neg hc, if_neg hc]
      unfold rdWrite
      cases numOf (Lib.cut l [58, 32]).1 with
      | none => rfl
      | some a =>
        simp only
        by_cases he : (prs (Lib.cut l [58, 32]).2.1).2 = 0
        · have hn : ¬ ¬ (prs (Lib.cut l [58, 32]).2.1).2 = 0 := fun h => h he
          simp only [if_neg hn]
          rfl
        · simp only [if_pos he]

set_option maxHeartbeats 4000000 in
set_option maxRecDepth 100000 in
theorem readSeal_any (l : List UInt8) (w : World) (hL : Laid w) (hl : l.length ≤ 30000) :
    Calls Tryd.prog 56 #[.string ⟨l.toArray⟩] w fun e w' => e = .returned (.tuple #[(rdSeal l).1.val, .int .i64 (rdSeal l).2]) ∧ Below w.heap.size w w' := by
  have hnu := note_number ⟨l.toArray⟩ (w.alloc (boxRc Rc.zero)) (hL.later (grew (Below.refl _ _) _)) (by rw [Lib.size_eq]; exact hl)
  rw [show (⟨l.toArray⟩ : ByteArray).data.toList = l from rfl] at hnu
  have HX0 : Aside ((w.alloc (boxRc Rc.zero)).heap[w.heap.size]? = some (boxRc Rc.zero)) := heap_new _ _
  have HB0 : Aside (Below w.heap.size w (w.alloc (boxRc Rc.zero))) := grew (Below.refl _ _) _
  clear hL hl
  cases hn : numOf l with
  | none =>
    have HF : Hid (rdSeal l = (Rc.zero, 1)) := by rw [Hid, rdSeal, hn]
    rw [HF.out]
    rw [hn] at hnu
    clear hn HF
    go_enter Tryd.func56, Tryd.ntmps56
    go_wp2_with fail
    refine hnu.mono ?_
    rintro e w1 ⟨rfl, hb1⟩
    have y0 := heap_below HX0.out hb1 (heap_lt HX0.out)
    have HB1 : Aside (Below w.heap.size w w1) := step_below1 HB0.out hb1
    have HX1 : Aside _ := y0
    have z0 : ∀ i, w1.cell? ⟨w.heap.size, i, none⟩ = #[Value.int .i64 0, .int .i64 0, .int .i64 0, .int .i64 0, .int .i64 0, .int .i64 0, .int .i64 0, .int .i64 0][i]? := fun i => Joins.cell_of_block y0 i
    have f0 : ∀ i, w1.frozen? ⟨w.heap.size, i, none⟩ = false := fun i => Joins.unfrozen_of_block y0 i
    clear hb1 y0 HX0 HB0 hnu
    go_wp2
    exact ret_rec (p := 2) (q := 3) Tryd.results56 rfl rfl rfl (eight_stores HX1.out Rc.zero) ⟨rfl, below_eight HB1.out (Nat.le_refl _) _ _ _ _ _ _ _ _⟩
  | some p =>
    have HF : Hid (rdSeal l = (⟨2, 0, p, En.zero⟩, 0)) := by rw [Hid, rdSeal, hn]
    rw [HF.out]
    rw [hn] at hnu
    clear hn HF
    go_enter Tryd.func56, Tryd.ntmps56
    go_wp2_with fail
    refine hnu.mono ?_
    rintro e w1 ⟨rfl, hb1⟩
    have y0 := heap_below HX0.out hb1 (heap_lt HX0.out)
    have HB1 : Aside (Below w.heap.size w w1) := step_below1 HB0.out hb1
    have HX1 : Aside _ := y0
    have z0 : ∀ i, w1.cell? ⟨w.heap.size, i, none⟩ = #[Value.int .i64 0, .int .i64 0, .int .i64 0, .int .i64 0, .int .i64 0, .int .i64 0, .int .i64 0, .int .i64 0][i]? := fun i => Joins.cell_of_block y0 i
    have f0 : ∀ i, w1.frozen? ⟨w.heap.size, i, none⟩ = false := fun i => Joins.unfrozen_of_block y0 i
    clear hb1 y0 HX0 HB0 hnu
    go_wp2
    exact ret_rec (p := 2) (q := 3) Tryd.results56 rfl rfl rfl (eight_stores HX1.out ⟨2, 0, p, En.zero⟩) ⟨rfl, below_eight HB1.out (Nat.le_refl _) _ _ _ _ _ _ _ _⟩

set_option maxHeartbeats 4000000 in
set_option maxRecDepth 100000 in
theorem readWrite_any (l m : List UInt8) (w : World) (hL : Laid w) (hl : l.length ≤ 30000) :
    Calls Tryd.prog 58 #[.string ⟨l.toArray⟩, .string ⟨m.toArray⟩] w fun e w' => e = .returned (.tuple #[(rdWrite l m).1.val, .int .i64 (rdWrite l m).2]) ∧ Below w.heap.size w w' := by
  have hnu := note_number ⟨l.toArray⟩ (w.alloc (boxRc Rc.zero)) (hL.later (grew (Below.refl _ _) _)) (by rw [Lib.size_eq]; exact hl)
  rw [show (⟨l.toArray⟩ : ByteArray).data.toList = l from rfl] at hnu
  have hps := fun W hW => parse_any ⟨m.toArray⟩ W hW
  have HX0 : Aside ((w.alloc (boxRc Rc.zero)).heap[w.heap.size]? = some (boxRc Rc.zero)) := heap_new _ _
  have HB0 : Aside (Below w.heap.size w (w.alloc (boxRc Rc.zero))) := grew (Below.refl _ _) _
  have HL : Aside (Laid w) := hL
  clear hL hl
  cases hn : numOf l with
  | none =>
    have HF : Hid (rdWrite l m = (Rc.zero, 1)) := by rw [Hid, rdWrite, hn]
    rw [HF.out]
    rw [hn] at hnu
    clear hn HF hps
    go_enter Tryd.func58, Tryd.ntmps58
    go_wp2_with fail
    refine hnu.mono ?_
    rintro e w1 ⟨rfl, hb1⟩
    have y0 := heap_below HX0.out hb1 (heap_lt HX0.out)
    have HB1 : Aside (Below w.heap.size w w1) := step_below1 HB0.out hb1
    have HX1 : Aside _ := y0
    have z0 : ∀ i, w1.cell? ⟨w.heap.size, i, none⟩ = #[Value.int .i64 0, .int .i64 0, .int .i64 0, .int .i64 0, .int .i64 0, .int .i64 0, .int .i64 0, .int .i64 0][i]? := fun i => Joins.cell_of_block y0 i
    have f0 : ∀ i, w1.frozen? ⟨w.heap.size, i, none⟩ = false := fun i => Joins.unfrozen_of_block y0 i
    clear hb1 y0 HX0 HB0 hnu HL
    go_wp2
    exact ret_rec (p := 4) (q := 5) Tryd.results58 rfl rfl rfl (eight_stores HX1.out Rc.zero) ⟨rfl, below_eight HB1.out (Nat.le_refl _) _ _ _ _ _ _ _ _⟩
  | some x =>
    have HF : Hid (rdWrite l m = if ¬ (prs m).2 = 0 then (Rc.zero, (prs m).2) else (⟨1, x, 0, (prs m).1⟩, 0)) := by rw [Hid, rdWrite, hn]
    rw [HF.out]
    rw [hn] at hnu
    change ∀ W, Laid W → Calls _ _ _ _ fun e w' => e = .returned (.tuple #[(prs m).1.val, .int .i64 (prs m).2]) ∧ _ at hps
    generalize (prs m).1 = y at *
    generalize (prs m).2 = f at *
    obtain ⟨rr, HRR⟩ : ∃ rr, Hid ((if ¬ f = 0 then (Rc.zero, f) else ((⟨1, x, 0, y⟩ : Rc), 0)) = rr) := ⟨_, rfl⟩
    rw [HRR.out]
    clear hn HF
    go_enter Tryd.func58, Tryd.ntmps58
    go_wp2_with fail
    refine hnu.mono ?_
    rintro e w1 ⟨rfl, hb1⟩
    have y0 := heap_below HX0.out hb1 (heap_lt HX0.out)
    have HB1 : Aside (Below w.heap.size w w1) := step_below1 HB0.out hb1
    have HX1 : Aside _ := y0
    have hL1 := HL.out.later HB1.out
    clear hb1 y0 HX0 HB0 hnu HL
    go_wp2_with fail
    refine (hps _ hL1).mono ?_
    rintro e w2 ⟨rfl, hb2⟩
    have y0 := heap_below HX1.out hb2 (heap_lt HX1.out)
    have HB2 : Aside (Below w.heap.size w (w2.alloc (boxE y.k y.j y.v y.t y.c))) := grew (step_below1 HB1.out hb2) _
    have HX2 : Aside ((w2.alloc (boxE y.k y.j y.v y.t y.c)).heap[w.heap.size]? = some (boxRc Rc.zero)) := heap_old y0 _
    have HY2 : Aside ((w2.alloc (boxE y.k y.j y.v y.t y.c)).heap[w2.heap.size]? = some (boxE y.k y.j y.v y.t y.c)) := heap_new _ _
    clear hb2 y0 HX1 HB1 hps hL1
    go_upto_region 5 with fail
    generalize w2.alloc (boxE y.k y.j y.v y.t y.c) = V at *
    generalize w2.heap.size = eb at *
    have z0 : ∀ i, V.cell? ⟨w.heap.size, i, none⟩ = #[Value.int .i64 0, .int .i64 0, .int .i64 0, .int .i64 0, .int .i64 0, .int .i64 0, .int .i64 0, .int .i64 0][i]? := fun i => Joins.cell_of_block HX2.out i
    have f0 : ∀ i, V.frozen? ⟨w.heap.size, i, none⟩ = false := fun i => Joins.unfrozen_of_block HX2.out i
    have z1 : ∀ i, V.cell? ⟨eb, i, none⟩ = #[Value.int .i64 y.k, .int .i64 y.j, .int .i64 y.v, .int .i64 y.t, .int .i64 y.c][i]? := fun i => Joins.cell_of_block HY2.out i
    by_cases hf : f = 0
    · have hfb : (f != 0) = false := by rw [hf]; rfl
      have HF3 : Hid (rr = (⟨1, x, 0, y⟩, 0)) := by rw [Hid, ← HRR.out, if_neg (by simpa using hf)]
      clear hf HRR
      go_wp2
      exact ret_rec (p := 4) (q := 5) Tryd.results58 rfl rfl rfl (eight_stores HX2.out ⟨1, x, 0, y⟩) ⟨by rw [HF3.out]; rfl, below_eight HB2.out (Nat.le_refl _) _ _ _ _ _ _ _ _⟩
    · have hfb : (f != 0) = true := by rw [bne_iff_ne]; exact hf
      have HF3 : Hid (rr = (Rc.zero, f)) := by rw [Hid, ← HRR.out, if_pos hf]
      clear hf HRR
      go_wp2
      exact ret_rec (p := 4) (q := 5) Tryd.results58 rfl rfl rfl (eight_stores HX2.out Rc.zero) ⟨by rw [HF3.out]; rfl, below_eight HB2.out (Nat.le_refl _) _ _ _ _ _ _ _ _⟩

end Go.Proofs.YtnmapehbcccbhadDoor
namespace Go.Proofs.YtnmapehbcccbhadDoor
open Go.RowKit

theorem cutColon (l : List UInt8) (w : World) (hL : Laid w) (hl : l.length ≤ 30000) :
    Calls Tryd.prog 57 #[.string ⟨l.toArray⟩, .string ⟨#[58, 32]⟩] w fun e w' => e = .returned (.tuple #[.string ⟨(Lib.cut l [58, 32]).1.toArray⟩, .string ⟨(Lib.cut l [58, 32]).2.1.toArray⟩, .bool (Lib.cut l [58, 32]).2.2]) ∧ Below w.heap.size w w' := by
  obtain ⟨m, hm⟩ := hL.most
  have h := Tryd.strings_Cut ⟨l.toArray⟩ ⟨#[58, 32]⟩ m w (by simp [Lib.size_eq]; omega) hm
  refine h.mono ?_
  rintro e w' ⟨he, q, rfl⟩
  exact ⟨he, below_drewN (Below.refl _ _) _⟩

theorem cut_fst_len (l s : List UInt8) : (Lib.cut l s).1.length ≤ l.length := by
  unfold Lib.cut
  split
  · simp only [List.length_take]; omega
  · exact Nat.le_refl _

theorem tuple_pair {r : Rc × Int} : (Value.tuple #[r.1.val, .int .i64 r.2]) = .tuple #[r.1.val, .int .i64 r.2] := rfl

set_option maxHeartbeats 4000000 in
set_option maxRecDepth 100000 in
theorem noteRead_any (l : List UInt8) (w : World) (hL : Laid w) (hl : l.length ≤ 30000) :
    Calls Tryd.prog 50 #[.string ⟨l.toArray⟩] w fun e w' => e = .returned (.tuple #[(rdRaw l).1.val, .int .i64 (rdRaw l).2]) ∧ Below w.heap.size w w' := by
  have HX0 : Aside ((w.alloc (boxRc Rc.zero)).heap[w.heap.size]? = some (boxRc Rc.zero)) := heap_new _ _
  have HB0 : Aside (Below w.heap.size w (w.alloc (boxRc Rc.zero))) := grew (Below.refl _ _) _
  have HL : Aside (Laid w) := hL
  cases hp : sealL.isPrefixOf l with
  | true =>
    have hcp := cutPre_yes l (w.alloc (boxRc Rc.zero)) hp hl
    have HF : Hid (rdRaw l = rdSeal (l.drop 5)) := by rw [Hid, rdRaw, if_pos hp]
    rw [HF.out]
    have hrs := readSeal_any (l.drop 5) (w.alloc (boxRc Rc.zero)) (hL.later HB0.out) (by rw [List.length_drop]; omega)
    generalize l.drop 5 = l5 at *
    generalize (rdSeal l5).1 = y at *
    generalize (rdSeal l5).2 = f at *
    clear hp HF hL hl HL
    go_enter Tryd.func50, Tryd.ntmps50
    go_wp2_with fail
    refine hcp.mono ?_
    rintro e w1 ⟨rfl, rfl⟩
    clear hcp
    go_wp2_with fail
    refine hrs.mono ?_
    rintro e w1 ⟨rfl, hb1⟩
    have y0 := heap_below HX0.out hb1 (heap_lt HX0.out)
    have HB1 : Aside (Below w.heap.size w w1) := step_below1 HB0.out hb1
    have HX1 : Aside _ := y0
    have z0 : ∀ i, w1.cell? ⟨w.heap.size, i, none⟩ = #[Value.int .i64 0, .int .i64 0, .int .i64 0, .int .i64 0, .int .i64 0, .int .i64 0, .int .i64 0, .int .i64 0][i]? := fun i => Joins.cell_of_block y0 i
    have f0 : ∀ i, w1.frozen? ⟨w.heap.size, i, none⟩ = false := fun i => Joins.unfrozen_of_block y0 i
    clear hb1 y0 HX0 HB0 hrs
    go_wp2
    exact ret_rec (p := 2) (q := 3) Tryd.results50 rfl rfl rfl (eight_stores HX1.out y) ⟨rfl, below_eight HB1.out (Nat.le_refl _) _ _ _ _ _ _ _ _⟩
  | false =>
    have hcp := cutPre_no l (w.alloc (boxRc Rc.zero)) hp
    have hcc := cutColon l (w.alloc (boxRc Rc.zero)) (hL.later HB0.out) hl
    have HF : Hid (rdRaw l = if (Lib.cut l [58, 32]).2.2 = false then (Rc.zero, 1) else rdWrite (Lib.cut l [58, 32]).1 (Lib.cut l [58, 32]).2.1) := by rw [Hid, rdRaw, if_neg (by rw [hp]; simp)]
    have hal := Nat.le_trans (cut_fst_len l [58, 32]) hl
    generalize (Lib.cut l [58, 32]).1 = la at *
    generalize (Lib.cut l [58, 32]).2.1 = lb at *
    generalize (Lib.cut l [58, 32]).2.2 = bb at *
    clear hp hL hl
    cases bb with
    | false =>
      rw [if_pos rfl] at HF
      rw [HF.out]
      clear hal HL HF
      go_enter Tryd.func50, Tryd.ntmps50
      go_wp2_with fail
      refine hcp.mono ?_
      rintro e w1 ⟨rfl, rfl⟩
      clear hcp
      go_wp2_with fail
      refine hcc.mono ?_
      rintro e w1 ⟨rfl, hb1⟩
      have y0 := heap_below HX0.out hb1 (heap_lt HX0.out)
      have HB1 : Aside (Below w.heap.size w w1) := step_below1 HB0.out hb1
      have HX1 : Aside _ := y0
      have z0 : ∀ i, w1.cell? ⟨w.heap.size, i, none⟩ = #[Value.int .i64 0, .int .i64 0, .int .i64 0, .int .i64 0, .int .i64 0, .int .i64 0, .int .i64 0, .int .i64 0][i]? := fun i => Joins.cell_of_block y0 i
      have f0 : ∀ i, w1.frozen? ⟨w.heap.size, i, none⟩ = false := fun i => Joins.unfrozen_of_block y0 i
      clear hb1 y0 HX0 HB0 hcc
      go_wp2
      exact ret_rec (p := 2) (q := 3) Tryd.results50 rfl rfl rfl (eight_stores HX1.out Rc.zero) ⟨rfl, below_eight HB1.out (Nat.le_refl _) _ _ _ _ _ _ _ _⟩
    | true =>
      rw [if_neg (by simp)] at HF
      rw [HF.out]
      have hrw := fun W hW => readWrite_any la lb W hW hal
      generalize (rdWrite la lb).1 = y at *
      generalize (rdWrite la lb).2 = f at *
      clear hal HF
      go_enter Tryd.func50, Tryd.ntmps50
      go_wp2_with fail
      refine hcp.mono ?_
      rintro e w1 ⟨rfl, rfl⟩
      clear hcp
      go_wp2_with fail
      refine hcc.mono ?_
      rintro e w1 ⟨rfl, hb1⟩
      have y0 := heap_below HX0.out hb1 (heap_lt HX0.out)
      have HB1 : Aside (Below w.heap.size w w1) := step_below1 HB0.out hb1
      have HX1 : Aside _ := y0
      have hL1 := HL.out.later HB1.out
      clear hb1 y0 HX0 HB0 hcc HL
      go_wp2_with fail
      refine (hrw _ hL1).mono ?_
      rintro e w2 ⟨rfl, hb2⟩
      have y0 := heap_below HX1.out hb2 (heap_lt HX1.out)
      have HB2 : Aside (Below w.heap.size w w2) := step_below1 HB1.out hb2
      have HX2 : Aside _ := y0
      have z0 : ∀ i, w2.cell? ⟨w.heap.size, i, none⟩ = #[Value.int .i64 0, .int .i64 0, .int .i64 0, .int .i64 0, .int .i64 0, .int .i64 0, .int .i64 0, .int .i64 0][i]? := fun i => Joins.cell_of_block y0 i
      have f0 : ∀ i, w2.frozen? ⟨w.heap.size, i, none⟩ = false := fun i => Joins.unfrozen_of_block y0 i
      clear hb2 y0 HX1 HB1 hrw hL1
      go_wp2
      exact ret_rec (p := 2) (q := 3) Tryd.results50 rfl rfl rfl (eight_stores HX2.out y) ⟨rfl, below_eight HB2.out (Nat.le_refl _) _ _ _ _ _ _ _ _⟩

set_option maxHeartbeats 4000000 in
set_option maxRecDepth 100000 in
theorem noteParse_few (l : List UInt8) (w : World) (hL : Laid w) (hl : l.length ≤ 30000) :
    Calls Tryd.prog 39 #[.string ⟨l.toArray⟩] w fun e w' => e = .returned (.tuple #[(rcRead l).1.val, .int .i64 (rcRead l).2]) ∧ Below w.heap.size w w' := by
  have HX0 : Aside ((w.alloc (boxRc Rc.zero)).heap[w.heap.size]? = some (boxRc Rc.zero)) := heap_new _ _
  have HB0 : Aside (Below w.heap.size w (w.alloc (boxRc Rc.zero))) := grew (Below.refl _ _) _
  have hrd := noteRead_any l (w.alloc (boxRc Rc.zero)) (hL.later HB0.out) hl
  have HF : Hid (rcRead l = if ¬ (rdRaw l).2 = 0 then (Rc.zero, (rdRaw l).2) else (rdRaw l).1.fin) := read_raw l
  rw [HF.out]
  generalize (rdRaw l).1 = y at *
  generalize (rdRaw l).2 = f at *
  have hle : (l.length : Int) ≤ 30000 := by omega
  have hck := fun W => noteCheck_any y W
  have HC : Hid (y.fin = if y.chk = 0 then (y, 0) else (Rc.zero, y.chk)) := rfl
  generalize y.chk = d at *
  obtain ⟨rr, HRR⟩ : ∃ rr, Hid ((if ¬ f = 0 then (Rc.zero, f) else y.fin) = rr) := ⟨_, rfl⟩
  rw [HRR.out]
  clear hL hl HF
  go_enter Tryd.func39, Tryd.ntmps39
  go_wp2_with fail
  refine hrd.mono ?_
  rintro e w1 ⟨rfl, hb1⟩
  have y0 := heap_below HX0.out hb1 (heap_lt HX0.out)
  have HB1 : Aside (Below w.heap.size w (w1.alloc (boxRc y))) := grew (step_below1 HB0.out hb1) _
  have HX1 : Aside ((w1.alloc (boxRc y)).heap[w.heap.size]? = some (boxRc Rc.zero)) := heap_old y0 _
  have HY1 : Aside ((w1.alloc (boxRc y)).heap[w1.heap.size]? = some (boxRc y)) := heap_new _ _
  clear hb1 y0 HX0 HB0 hrd
  go_upto_region 4 with fail
  generalize w1.alloc (boxRc y) = V at *
  generalize w1.heap.size = yb at *
  have z0 : ∀ i, V.cell? ⟨w.heap.size, i, none⟩ = #[Value.int .i64 0, .int .i64 0, .int .i64 0, .int .i64 0, .int .i64 0, .int .i64 0, .int .i64 0, .int .i64 0][i]? := fun i => Joins.cell_of_block HX1.out i
  have f0 : ∀ i, V.frozen? ⟨w.heap.size, i, none⟩ = false := fun i => Joins.unfrozen_of_block HX1.out i
  have z1 : ∀ i, V.cell? ⟨yb, i, none⟩ = #[Value.int .i64 y.k, .int .i64 y.a, .int .i64 y.p, .int .i64 y.e.k, .int .i64 y.e.j, .int .i64 y.e.v, .int .i64 y.e.t, .int .i64 y.e.c][i]? := fun i => Joins.cell_of_block HY1.out i
  by_cases hf : f = 0
  · have hfb : (f != 0) = false := by rw [hf]; rfl
    have HF3 : Hid (rr = y.fin) := by rw [Hid, ← HRR.out, if_neg (by simpa using hf)]
    clear hf HRR
    go_wp2_with fail
    refine (hck _).mono ?_
    rintro e w5 ⟨rfl, hb5⟩
    have y0 := heap_below HX1.out hb5 (heap_lt HX1.out)
    have y1 := heap_below HY1.out hb5 (heap_lt HY1.out)
    have HB5 : Aside (Below w.heap.size w w5) := step_below1 HB1.out hb5
    have HR5 : Aside _ := y0
    clear z0 f0 z1 hb5 HX1 HY1 HB1 hck
    have z0 : ∀ i, w5.cell? ⟨w.heap.size, i, none⟩ = #[Value.int .i64 0, .int .i64 0, .int .i64 0, .int .i64 0, .int .i64 0, .int .i64 0, .int .i64 0, .int .i64 0][i]? := fun i => Joins.cell_of_block y0 i
    have f0 : ∀ i, w5.frozen? ⟨w.heap.size, i, none⟩ = false := fun i => Joins.unfrozen_of_block y0 i
    have z1 : ∀ i, w5.cell? ⟨yb, i, none⟩ = #[Value.int .i64 y.k, .int .i64 y.a, .int .i64 y.p, .int .i64 y.e.k, .int .i64 y.e.j, .int .i64 y.e.v, .int .i64 y.e.t, .int .i64 y.e.c][i]? := fun i => Joins.cell_of_block y1 i
    clear y0 y1
    by_cases hd : d = 0
    · subst hd
      have HF2 : Hid (y.fin = (y, 0)) := by rw [Hid, HC.out, if_pos rfl]
      clear HC
      go_wp2
      exact ret_rec (p := 2) (q := 3) Tryd.results39 rfl rfl rfl (eight_stores HR5.out y) ⟨by rw [HF3.out, HF2.out]; rfl, below_eight HB5.out (Nat.le_refl _) _ _ _ _ _ _ _ _⟩
    · have HF2 : Hid (y.fin = (Rc.zero, d)) := by rw [Hid, HC.out, if_neg hd]
      have hdb : (d != 0) = true := by rw [bne_iff_ne]; exact hd
      clear HC
      go_wp2
      exact ret_rec (p := 2) (q := 3) Tryd.results39 rfl rfl rfl (eight_stores HR5.out Rc.zero) ⟨by rw [HF3.out, HF2.out]; rfl, below_eight HB5.out (Nat.le_refl _) _ _ _ _ _ _ _ _⟩
  · have hfb : (f != 0) = true := by rw [bne_iff_ne]; exact hf
    have HF3 : Hid (rr = (Rc.zero, f)) := by rw [Hid, ← HRR.out, if_pos hf]
    clear HC hck hf HRR
    go_wp2
    exact ret_rec (p := 2) (q := 3) Tryd.results39 rfl rfl rfl (eight_stores HX1.out Rc.zero) ⟨by rw [HF3.out]; rfl, below_eight HB1.out (Nat.le_refl _) _ _ _ _ _ _ _ _⟩

theorem noteParse_long (s : ByteArray) (w : World) (hs : 30000 < (s.size : Int)) :
    Calls Tryd.prog 39 #[.string s] w fun e w' => e = .returned (.tuple #[Rc.zero.val, .int .i64 2]) ∧ Below w.heap.size w w' := by
  go_enter Tryd.func39, Tryd.ntmps39
  go_wp2
  exact ret_rec (p := 2) (q := 3) (r := Rc.zero) Tryd.results39 rfl rfl rfl (heap_new _ _) ⟨rfl, grew (Below.refl _ _) _⟩

theorem noteParse_any (s : ByteArray) (w : World) (hL : Laid w) :
    Calls Tryd.prog 39 #[.string s] w fun e w' => e = .returned (.tuple #[(rcPrs s.data.toList).1.val, .int .i64 (rcPrs s.data.toList).2]) ∧ Below w.heap.size w w' := by
  by_cases hs : 30000 < s.data.toList.length
  · have hp : rcPrs s.data.toList = (Rc.zero, 2) := if_pos hs
    rw [hp]
    exact noteParse_long s w (by rw [Lib.size_eq]; omega)
  · obtain ⟨⟨l⟩⟩ := s
    have hs' : ¬ 30000 < l.length := hs
    have hp : rcPrs l = rcRead l := if_neg hs'
    show Calls Tryd.prog 39 #[.string ⟨l.toArray⟩] w fun e w' => e = .returned (.tuple #[(rcPrs l).1.val, .int .i64 (rcPrs l).2]) ∧ Below w.heap.size w w'
    rw [hp]
    exact noteParse_few l w hL (by omega)

/-- Package note keeps what the laws ask of it. -/
theorem notes_any : Notes where
  check := fun r W _ => noteCheck_any r W
  print := notePrint_any
  parse := noteParse_any

end Go.Proofs.YtnmapehbcccbhadDoor
