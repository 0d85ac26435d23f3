/- Package note's Print; strings.CutPrefix; read. -/
import Derived.Test.YtijcohldgjcjgacDoorNoteZa
namespace Go.Proofs.YtijcohldgjcjgacDoor
open Go.RowKit

abbrev sealBy : ByteArray := ⟨#[115, 101, 97, 108, 32]⟩

theorem litePre (l : List UInt8) (w : World) : Calls Tryd.prog 33 #[.string ⟨l.toArray⟩, .string sealBy] w fun e w' => e = .returned (.bool (sealL.isPrefixOf l)) ∧ w' = w := Tryd.stringslite_HasPrefix ⟨l.toArray⟩ sealBy w

theorem liteCut_yes (l : List UInt8) (w : World) (hp : sealL.isPrefixOf l = true) (hl : l.length ≤ 30000) :
    Calls Tryd.prog 44 #[.string ⟨l.toArray⟩, .string sealBy] w fun e w' => e = .returned (.tuple #[.string ⟨(l.drop 5).toArray⟩, .bool true]) ∧ w' = w := by
  have hpr := litePre l w
  rw [hp] at hpr
  have hlen5 : 5 ≤ l.length := by have := congrArg List.length (seal_prefix hp); rw [List.length_append] at this; have h5 : sealL.length = 5 := rfl; omega
  have hsl := ext_from l 5
  have hl5 : (5 : Int) ≤ (l.length : Int) := by omega
  generalize l.drop 5 = l5 at *
  clear hp hlen5
  go_enter Tryd.func44, Tryd.ntmps44
  go_wp2_with fail
  refine hpr.mono ?_
  rintro e w1 ⟨rfl, rfl⟩
  go_wp2
  go_ret2
  exact ⟨rfl, rfl⟩

theorem liteCut_no (l : List UInt8) (w : World) (hp : sealL.isPrefixOf l = false) :
    Calls Tryd.prog 44 #[.string ⟨l.toArray⟩, .string sealBy] w fun e w' => e = .returned (.tuple #[.string ⟨l.toArray⟩, .bool false]) ∧ w' = w := by
  have hpr := litePre l w
  rw [hp] at hpr
  clear hp
  go_enter Tryd.func44, Tryd.ntmps44
  go_wp2_with fail
  refine hpr.mono ?_
  rintro e w1 ⟨rfl, rfl⟩
  go_wp2
  go_ret2
  exact ⟨rfl, rfl⟩

theorem cutPre_yes (l : List UInt8) (w : World) (hp : sealL.isPrefixOf l = true) (hl : l.length ≤ 30000) :
    Calls Tryd.prog 27 #[.string ⟨l.toArray⟩, .string sealBy] w fun e w' => e = .returned (.tuple #[.string ⟨(l.drop 5).toArray⟩, .bool true]) ∧ w' = w := by
  have hpr := liteCut_yes l w hp hl
  clear hp hl
  go_enter Tryd.func27, Tryd.ntmps27
  go_wp2_with fail
  refine hpr.mono ?_
  rintro e w1 ⟨rfl, rfl⟩
  go_wp2
  go_ret2
  exact ⟨rfl, rfl⟩

theorem cutPre_no (l : List UInt8) (w : World) (hp : sealL.isPrefixOf l = false) :
    Calls Tryd.prog 27 #[.string ⟨l.toArray⟩, .string sealBy] w fun e w' => e = .returned (.tuple #[.string ⟨l.toArray⟩, .bool false]) ∧ w' = w := by
  have hpr := liteCut_no l w hp
  clear hp
  go_enter Tryd.func27, Tryd.ntmps27
  go_wp2_with fail
  refine hpr.mono ?_
  rintro e w1 ⟨rfl, rfl⟩
  go_wp2
  go_ret2
  exact ⟨rfl, rfl⟩

set_option maxHeartbeats 4000000 in
set_option maxRecDepth 100000 in
/-- Print, at every record. -/
theorem notePrint_any (r : Rc) (w : World) (hL : Laid w) :
    Calls Tryd.prog 5 #[r.val] w fun e w' => e = .returned (.tuple #[.string ⟨r.ptx.toArray⟩, .int .i64 r.chk]) ∧ Below w.heap.size w w' := by
  have hB0 := grew (Below.refl w.heap.size w) (boxRc r)
  have hck := noteCheck_any r (w.alloc (boxRc r))
  have hx0 : (w.alloc (boxRc r)).heap[w.heap.size]? = some (boxRc r) := heap_new _ _
  have hL0 := hL.later hB0
  have HB0 : Aside _ := hB0
  have HL0 : Aside _ := hL0
  have HX0 : Aside _ := hx0
  clear hB0 hL0 hx0
  by_cases hz : r.chk = 0
  · have HP : Hid (r.ptx = r.txt) := by rw [Hid, Rc.ptx, if_pos hz]
    rw [HP.out, hz]
    rw [hz] at hck
    by_cases hk : r.k = 2
    · have hp := (Rc.seal hz hk).1
      have HT : Hid (r.txt = sealL ++ Lib.itoa r.p) := by rw [Hid, Rc.txt, if_pos hk]
      have hit := fun W hW => itoa_any r.p W hW (by omega) (by omega)
      have hlen := Lib.itoa_length_le r.p (by omega) (by omega)
      have hkb : (r.k == 2) = true := by rw [hk]; rfl
      generalize Lib.itoa r.p = px at *
      have hd1 : ¬ (9223372036854775807 < 5 + px.length) := by omega
      have hd3 : 5 + px.length ≤ 9223372036854775807 := by omega
      clear hz hk
      go_enter Tryd.func5, Tryd.ntmps5
      go_wp2_with fail
      refine hck.mono ?_
      rintro e w1 ⟨rfl, hb1⟩
      have hx1 := heap_below HX0.out hb1 (heap_lt HX0.out)
      have z1 : ∀ i, w1.cell? ⟨w.heap.size, i, none⟩ = #[Value.int .i64 r.k, .int .i64 r.a, .int .i64 r.p, .int .i64 r.e.k, .int .i64 r.e.j, .int .i64 r.e.v, .int .i64 r.e.t, .int .i64 r.e.c][i]? := fun i => Joins.cell_of_block hx1 i
      have HB1 : Aside (Below w.heap.size w w1) := step_below1 HB0.out hb1
      have hit1 := hit w1 (HL0.out.later hb1)
      clear hck hx1 hb1 hit HB0 HL0 HX0 hL
      go_wp2_with fail
      refine hit1.mono ?_
      rintro e w2 ⟨rfl, hb2⟩
      have HB2 : Aside (Below w.heap.size w w2) := step_below1 HB1.out hb2
      clear hit1 hb2 HB1 z1
      go_wp2
      refine ret_pair (p := 2) (q := 3) rfl rfl rfl rfl ⟨tup_str ?_, HB2.out⟩
      rw [HT.out, data_append]
      rfl
    · obtain ⟨h1, ha, hp, he⟩ := Rc.write hz hk
      have HT : Hid (r.txt = Lib.itoa r.a ++ ([58, 32] ++ r.e.txt)) := by rw [Hid, Rc.txt, if_neg hk]
      have hit := fun W hW => itoa_any r.a W hW (by omega) (by omega)
      have htx := fun W hW => print_any r.e W hW
      rw [En.ptx, if_pos he, he] at htx
      have hlen := Lib.itoa_length_le r.a (by omega) (by omega)
      have hlen2 := txt_len r.e he
      have hkb : (r.k == 2) = false := by rw [beq_eq_false_iff_ne]; exact hk
      generalize Lib.itoa r.a = px at *
      generalize r.e.txt = tx at *
      have hd1 : ¬ (9223372036854775807 < px.length + 2) := by omega
      have hd2 : ¬ (9223372036854775807 < px.length + 2 + tx.length) := by omega
      have hd3 : px.length + 2 ≤ 9223372036854775807 := by omega
      have hd4 : px.length + 2 + tx.length ≤ 9223372036854775807 := by omega
      have hd5 : ¬ (9223372036854775807 < px.length + (2 + tx.length)) := by omega
      have hd6 : px.length + (2 + tx.length) ≤ 9223372036854775807 := by omega
      clear hz h1 hp he hk
      go_enter Tryd.func5, Tryd.ntmps5
      go_wp2_with fail
      refine hck.mono ?_
      rintro e w1 ⟨rfl, hb1⟩
      have hx1 := heap_below HX0.out hb1 (heap_lt HX0.out)
      have z1 : ∀ i, w1.cell? ⟨w.heap.size, i, none⟩ = #[Value.int .i64 r.k, .int .i64 r.a, .int .i64 r.p, .int .i64 r.e.k, .int .i64 r.e.j, .int .i64 r.e.v, .int .i64 r.e.t, .int .i64 r.e.c][i]? := fun i => Joins.cell_of_block hx1 i
      have HB1 : Aside (Below w.heap.size w w1) := step_below1 HB0.out hb1
      have HL1 : Aside (Laid w1) := HL0.out.later hb1
      have HX1 : Aside _ := hx1
      clear hck hx1 hb1 HB0 HL0 HX0 hL
      go_wp2_with fail
      refine (htx _ HL1.out).mono ?_
      rintro e w2 ⟨rfl, hb2⟩
      have hx2 := heap_below HX1.out hb2 (heap_lt HX1.out)
      have HB2 : Aside (Below w.heap.size w w2) := step_below1 HB1.out hb2
      have HL2 : Aside (Laid w2) := HL1.out.later hb2
      clear z1 hb2 htx HB1 HL1 HX1
      have z1 : ∀ i, w2.cell? ⟨w.heap.size, i, none⟩ = #[Value.int .i64 r.k, .int .i64 r.a, .int .i64 r.p, .int .i64 r.e.k, .int .i64 r.e.j, .int .i64 r.e.v, .int .i64 r.e.t, .int .i64 r.e.c][i]? := fun i => Joins.cell_of_block hx2 i
      clear hx2
      go_wp2_with fail
      refine (hit _ HL2.out).mono ?_
      rintro e w3 ⟨rfl, hb3⟩
      have HB3 : Aside (Below w.heap.size w w3) := step_below1 HB2.out hb3
      clear z1 hb3 hit HB2 HL2
      go_wp2
      refine ret_pair (p := 2) (q := 3) rfl rfl rfl rfl ⟨tup_str ?_, HB3.out⟩
      rw [HT.out, data_append, data_append]
      simp
  · have HP : Hid (r.ptx = []) := by rw [Hid, Rc.ptx, if_neg hz]
    rw [HP.out]
    have hzb : (r.chk != 0) = true := by rw [bne_iff_ne]; exact hz
    generalize r.chk = d at *
    go_enter Tryd.func5, Tryd.ntmps5
    go_wp2_with fail
    refine hck.mono ?_
    rintro e w1 ⟨rfl, hb1⟩
    have HB1 : Aside (Below w.heap.size w w1) := step_below1 HB0.out hb1
    clear hck hb1 HB0 HL0 HX0 hL
    go_wp2
    exact ret_pair (p := 2) (q := 3) rfl rfl rfl rfl ⟨rfl, HB1.out⟩

/-- What is read of a seal's word; of a write's words; of a text, ahead of the check. -/
def rdSeal (l : List UInt8) : Rc × Int := match numOf l with | none => (Rc.zero, 1) | some p => (⟨2, 0, p, En.zero⟩, 0)
def rdWrite (a b : List UInt8) : Rc × Int := match numOf a with | none => (Rc.zero, 1) | some x => if ¬ (prs b).2 = 0 then (Rc.zero, (prs b).2) else (⟨1, x, 0, (prs b).1⟩, 0)
def rdRaw (l : List UInt8) : Rc × Int :=
  if sealL.isPrefixOf l = true then rdSeal (l.drop 5) else if (Lib.cut l [58, 32]).2.2 = false then (Rc.zero, 1) else rdWrite (Lib.cut l [58, 32]).1 (Lib.cut l [58, 32]).2.1

theorem read_raw (l : List UInt8) : rcRead l = if ¬ (rdRaw l).2 = 0 then (Rc.zero, (rdRaw l).2) else (rdRaw l).1.fin := by
  unfold rcRead rdRaw
  by_cases hp : sealL.isPrefixOf l = true
  · rw [if_pos hp, if_pos hp]
    unfold rdSeal
    cases numOf (l.drop 5) with
    | none => rfl
    | some p => rfl
  · rw [if_neg hp, if_neg hp]
    by_cases hc : (Lib.cut l [58, 32]).2.2 = false
    · rw [if_pos hc, if_pos hc]; rfl
    · rw [if_neg hc, if_neg hc]
      unfold rdWrite
      cases numOf (Lib.cut l [58, 32]).1 with
      | none => rfl
      | some a =>
        simp only
        by_cases he : (prs (Lib.cut l [58, 32]).2.1).2 = 0
        · have hn : ¬ ¬ (prs (Lib.cut l [58, 32]).2.1).2 = 0 := fun h => h he
          simp only [if_neg hn]
          rfl
        · simp only [if_pos he]

set_option maxHeartbeats 4000000 in
set_option maxRecDepth 100000 in
theorem readSeal_any (l : List UInt8) (w : World) (hL : Laid w) (hl : l.length ≤ 30000) :
    Calls Tryd.prog 28 #[.string ⟨l.toArray⟩] w fun e w' => e = .returned (.tuple #[(rdSeal l).1.val, .int .i64 (rdSeal l).2]) ∧ Below w.heap.size w w' := by
  have hnu := note_number ⟨l.toArray⟩ (w.alloc (boxRc Rc.zero)) (hL.later (grew (Below.refl _ _) _)) (by rw [Lib.size_eq]; exact hl)
  rw [show (⟨l.toArray⟩ : ByteArray).data.toList = l from rfl] at hnu
  have HX0 : Aside ((w.alloc (boxRc Rc.zero)).heap[w.heap.size]? = some (boxRc Rc.zero)) := heap_new _ _
  have HB0 : Aside (Below w.heap.size w (w.alloc (boxRc Rc.zero))) := grew (Below.refl _ _) _
  clear hL hl
  cases hn : numOf l with
  | none =>
    have HF : Hid (rdSeal l = (Rc.zero, 1)) := by rw [Hid, rdSeal, hn]
    rw [HF.out]
    rw [hn] at hnu
    clear hn HF
    go_enter Tryd.func28, Tryd.ntmps28
    go_wp2_with fail
    refine hnu.mono ?_
    rintro e w1 ⟨rfl, hb1⟩
    have y0 := heap_below HX0.out hb1 (heap_lt HX0.out)
    have HB1 : Aside (Below w.heap.size w w1) := step_below1 HB0.out hb1
    have HX1 : Aside _ := y0
    have z0 : ∀ i, w1.cell? ⟨w.heap.size, i, none⟩ = #[Value.int .i64 0, .int .i64 0, .int .i64 0, .int .i64 0, .int .i64 0, .int .i64 0, .int .i64 0, .int .i64 0][i]? := fun i => Joins.cell_of_block y0 i
    have f0 : ∀ i, w1.frozen? ⟨w.heap.size, i, none⟩ = false := fun i => Joins.unfrozen_of_block y0 i
    clear hb1 y0 HX0 HB0 hnu
    go_wp2
    exact ret_rec (p := 2) (q := 3) Tryd.results28 rfl rfl rfl (eight_stores HX1.out Rc.zero) ⟨rfl, below_eight HB1.out (Nat.le_refl _) _ _ _ _ _ _ _ _⟩
  | some p =>
    have HF : Hid (rdSeal l = (⟨2, 0, p, En.zero⟩, 0)) := by rw [Hid, rdSeal, hn]
    rw [HF.out]
    rw [hn] at hnu
    clear hn HF
    go_enter Tryd.func28, Tryd.ntmps28
    go_wp2_with fail
    refine hnu.mono ?_
    rintro e w1 ⟨rfl, hb1⟩
    have y0 := heap_below HX0.out hb1 (heap_lt HX0.out)
    have HB1 : Aside (Below w.heap.size w w1) := step_below1 HB0.out hb1
    have HX1 : Aside _ := y0
    have z0 : ∀ i, w1.cell? ⟨w.heap.size, i, none⟩ = #[Value.int .i64 0, .int .i64 0, .int .i64 0, .int .i64 0, .int .i64 0, .int .i64 0, .int .i64 0, .int .i64 0][i]? := fun i => Joins.cell_of_block y0 i
    have f0 : ∀ i, w1.frozen? ⟨w.heap.size, i, none⟩ = false := fun i => Joins.unfrozen_of_block y0 i
    clear hb1 y0 HX0 HB0 hnu
    go_wp2
    exact ret_rec (p := 2) (q := 3) Tryd.results28 rfl rfl rfl (eight_stores HX1.out ⟨2, 0, p, En.zero⟩) ⟨rfl, below_eight HB1.out (Nat.le_refl _) _ _ _ _ _ _ _ _⟩

set_option maxHeartbeats 4000000 in
set_option maxRecDepth 100000 in
theorem readWrite_any (l m : List UInt8) (w : World) (hL : Laid w) (hl : l.length ≤ 30000) :
    Calls Tryd.prog 30 #[.string ⟨l.toArray⟩, .string ⟨m.toArray⟩] w fun e w' => e = .returned (.tuple #[(rdWrite l m).1.val, .int .i64 (rdWrite l m).2]) ∧ Below w.heap.size w w' := by
  have hnu := note_number ⟨l.toArray⟩ (w.alloc (boxRc Rc.zero)) (hL.later (grew (Below.refl _ _) _)) (by rw [Lib.size_eq]; exact hl)
  rw [show (⟨l.toArray⟩ : ByteArray).data.toList = l from rfl] at hnu
  have hps := fun W hW => parse_any ⟨m.toArray⟩ W hW
  have HX0 : Aside ((w.alloc (boxRc Rc.zero)).heap[w.heap.size]? = some (boxRc Rc.zero)) := heap_new _ _
  have HB0 : Aside (Below w.heap.size w (w.alloc (boxRc Rc.zero))) := grew (Below.refl _ _) _
  have HL : Aside (Laid w) := hL
  clear hL hl
  cases hn : numOf l with
  | none =>
    have HF : Hid (rdWrite l m = (Rc.zero, 1)) := by rw [Hid, rdWrite, hn]
    rw [HF.out]
    rw [hn] at hnu
    clear hn HF hps
    go_enter Tryd.func30, Tryd.ntmps30
    go_wp2_with fail
    refine hnu.mono ?_
    rintro e w1 ⟨rfl, hb1⟩
    have y0 := heap_below HX0.out hb1 (heap_lt HX0.out)
    have HB1 : Aside (Below w.heap.size w w1) := step_below1 HB0.out hb1
    have HX1 : Aside _ := y0
    have z0 : ∀ i, w1.cell? ⟨w.heap.size, i, none⟩ = #[Value.int .i64 0, .int .i64 0, .int .i64 0, .int .i64 0, .int .i64 0, .int .i64 0, .int .i64 0, .int .i64 0][i]? := fun i => Joins.cell_of_block y0 i
    have f0 : ∀ i, w1.frozen? ⟨w.heap.size, i, none⟩ = false := fun i => Joins.unfrozen_of_block y0 i
    clear hb1 y0 HX0 HB0 hnu HL
    go_wp2
    exact ret_rec (p := 4) (q := 5) Tryd.results30 rfl rfl rfl (eight_stores HX1.out Rc.zero) ⟨rfl, below_eight HB1.out (Nat.le_refl _) _ _ _ _ _ _ _ _⟩
  | some x =>
    have HF : Hid (rdWrite l m = if ¬ (prs m).2 = 0 then (Rc.zero, (prs m).2) else (⟨1, x, 0, (prs m).1⟩, 0)) := by rw [Hid, rdWrite, hn]
    rw [HF.out]
    rw [hn] at hnu
    change ∀ W, Laid W → Calls _ _ _ _ fun e w' => e = .returned (.tuple #[(prs m).1.val, .int .i64 (prs m).2]) ∧ _ at hps
    generalize (prs m).1 = y at *
    generalize (prs m).2 = f at *
    obtain ⟨rr, HRR⟩ : ∃ rr, Hid ((if ¬ f = 0 then (Rc.zero, f) else ((⟨1, x, 0, y⟩ : Rc), 0)) = rr) := ⟨_, rfl⟩
    rw [HRR.out]
    clear hn HF
    go_enter Tryd.func30, Tryd.ntmps30
    go_wp2_with fail
    refine hnu.mono ?_
    rintro e w1 ⟨rfl, hb1⟩
    have y0 := heap_below HX0.out hb1 (heap_lt HX0.out)
    have HB1 : Aside (Below w.heap.size w w1) := step_below1 HB0.out hb1
    have HX1 : Aside _ := y0
    have hL1 := HL.out.later HB1.out
    clear hb1 y0 HX0 HB0 hnu HL
    go_wp2_with fail
    refine (hps _ hL1).mono ?_
    rintro e w2 ⟨rfl, hb2⟩
    have y0 := heap_below HX1.out hb2 (heap_lt HX1.out)
    have HB2 : Aside (Below w.heap.size w (w2.alloc (boxE y.k y.j y.v y.t y.c))) := grew (step_below1 HB1.out hb2) _
    have HX2 : Aside ((w2.alloc (boxE y.k y.j y.v y.t y.c)).heap[w.heap.size]? = some (boxRc Rc.zero)) := heap_old y0 _
    have HY2 : Aside ((w2.alloc (boxE y.k y.j y.v y.t y.c)).heap[w2.heap.size]? = some (boxE y.k y.j y.v y.t y.c)) := heap_new _ _
    clear hb2 y0 HX1 HB1 hps hL1
    go_upto_region 5 with fail
    generalize w2.alloc (boxE y.k y.j y.v y.t y.c) = V at *
    generalize w2.heap.size = eb at *
    have z0 : ∀ i, V.cell? ⟨w.heap.size, i, none⟩ = #[Value.int .i64 0, .int .i64 0, .int .i64 0, .int .i64 0, .int .i64 0, .int .i64 0, .int .i64 0, .int .i64 0][i]? := fun i => Joins.cell_of_block HX2.out i
    have f0 : ∀ i, V.frozen? ⟨w.heap.size, i, none⟩ = false := fun i => Joins.unfrozen_of_block HX2.out i
    have z1 : ∀ i, V.cell? ⟨eb, i, none⟩ = #[Value.int .i64 y.k, .int .i64 y.j, .int .i64 y.v, .int .i64 y.t, .int .i64 y.c][i]? := fun i => Joins.cell_of_block HY2.out i
    by_cases hf : f = 0
    · have hfb : (f != 0) = false := by rw [hf]; rfl
      have HF3 : Hid (rr = (⟨1, x, 0, y⟩, 0)) := by rw [Hid, ← HRR.out, if_neg (by simpa using hf)]
      clear hf HRR
      go_wp2
      exact ret_rec (p := 4) (q := 5) Tryd.results30 rfl rfl rfl (eight_stores HX2.out ⟨1, x, 0, y⟩) ⟨by rw [HF3.out]; rfl, below_eight HB2.out (Nat.le_refl _) _ _ _ _ _ _ _ _⟩
    · have hfb : (f != 0) = true := by rw [bne_iff_ne]; exact hf
      have HF3 : Hid (rr = (Rc.zero, f)) := by rw [Hid, ← HRR.out, if_pos hf]
      clear hf HRR
      go_wp2
      exact ret_rec (p := 4) (q := 5) Tryd.results30 rfl rfl rfl (eight_stores HX2.out Rc.zero) ⟨by rw [HF3.out]; rfl, below_eight HB2.out (Nat.le_refl _) _ _ _ _ _ _ _ _⟩

end Go.Proofs.YtijcohldgjcjgacDoor
