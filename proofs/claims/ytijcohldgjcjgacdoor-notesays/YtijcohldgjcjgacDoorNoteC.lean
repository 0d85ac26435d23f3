/- The reference's RecText and RecRead. -/
import Derived.Test.YtijcohldgjcjgacDoorNoteA
import Derived.Test.YtijcohldgjcjgacDoorNoteB
import Derived.Test.YtijcohldgjcjgacDoorEntryN
import Derived.Test.YtijcohldgjcjgacDoorRefE
namespace Go.Proofs.YtijcohldgjcjgacDoor
open Go.RowKit

theorem bytes_eq {a b : ByteArray} (h : a.data.toList = b.data.toList) : a = b := by
  rw [bytes_eta a, bytes_eta b, h]

theorem ret_pair {fn : Func} {R : Ending → World → Prop} {a : Act} {W : World} {p q : Nat} {x y : Value} (hf : fn.results = #[.tmp p, .tmp q]) (hd : a.defers = [])
    (h1 : a.tmps.getD p undef = x) (h2 : a.tmps.getD q undef = y) (hp : R (.returned (.tuple #[x, y])) W) : bodyPost Tryd.prog fn R .ret a W := by
  have h1' : a.tmps[p]?.getD undef = x := by simpa using h1
  have h2' : a.tmps[q]?.getD undef = y := by simpa using h2
  refine bodyPost_ret (v := .tuple #[x, y]) ?_ hd hp
  simp [results, hf, h1', h2', go_sem]

theorem tup_str {a b : ByteArray} {v : Value} (h : a.data.toList = b.data.toList) : Ending.returned (.tuple #[.string a, v]) = .returned (.tuple #[.string b, v]) := by rw [bytes_eq h]

/-- What RecText reads. -/
abbrev RtS (W w : World) (b : Nat) (r : Rc) : Prop :=
  (Laid w ∧ Below W.heap.size W w) ∧ w.cell? ⟨b, 1, none⟩ = some (.int .i64 r.a) ∧ w.cell? ⟨b, 3, none⟩ = some (.int .i64 r.e.k) ∧ w.cell? ⟨b, 4, none⟩ = some (.int .i64 r.e.j) ∧ w.cell? ⟨b, 5, none⟩ = some (.int .i64 r.e.v) ∧ w.cell? ⟨b, 6, none⟩ = some (.int .i64 r.e.t) ∧ w.cell? ⟨b, 7, none⟩ = some (.int .i64 r.e.c)

theorem rtS_step {W w w' : World} {b : Nat} {r : Rc} (h : RtS W w b r) (hb : Below w.heap.size w w') : RtS W w' b r :=
  ⟨⟨h.1.1.later hb, h.1.2.trans (hb.mono h.1.2.size)⟩, cell_later hb h.2.1, cell_later hb h.2.2.1, cell_later hb h.2.2.2.1, cell_later hb h.2.2.2.2.1, cell_later hb h.2.2.2.2.2.1, cell_later hb h.2.2.2.2.2.2⟩

theorem rtS_laid {W w : World} {b : Nat} {r : Rc} (h : RtS W w b r) : Laid w := h.1.1

set_option maxHeartbeats 4000000 in
set_option maxRecDepth 100000 in
theorem ref_recText (r : Rc) (w : World) (hL : Laid w) :
    Calls Tryd.prog 7 #[r.val] w fun e w' => e = .returned (.tuple #[.string ⟨r.ptx.toArray⟩, .int .i64 r.chk]) ∧ Below w.heap.size w w' := by
  have hB0 := grew (Below.refl w.heap.size w) (boxRc r)
  have hck := ref_chkRec r (w.alloc (boxRc r))
  have hx0 : (w.alloc (boxRc r)).heap[w.heap.size]? = some (boxRc r) := heap_new _ _
  have hL0 := hL.later hB0
  have HB0 : Aside _ := hB0
  have HL0 : Aside _ := hL0
  have HX0 : Aside _ := hx0
  clear hB0 hL0 hx0
  by_cases hz : r.chk = 0
  · have HP : Hid (r.ptx = r.txt) := by rw [Hid, Rc.ptx, if_pos hz]
    rw [HP.out, hz]
    rw [hz] at hck
    by_cases hk : r.k = 2
    · have hp := (Rc.seal hz hk).1
      have HT : Hid (r.txt = sealL ++ Lib.itoa r.p) := by rw [Hid, Rc.txt, if_pos hk]
      have hit := fun W hW => itoa_any r.p W hW (by omega) (by omega)
      have hlen := Lib.itoa_length_le r.p (by omega) (by omega)
      have hkb : (r.k == 2) = true := by rw [hk]; rfl
      generalize Lib.itoa r.p = px at *
      have hd1 : ¬ (9223372036854775807 < 5 + px.length) := by omega
      have hd3 : 5 + px.length ≤ 9223372036854775807 := by omega
      clear hz hk
      go_enter Tryd.func7, Tryd.ntmps7
      go_wp2_with fail
      refine hck.mono ?_
      rintro e w1 ⟨rfl, hb1⟩
      have hx1 := heap_below HX0.out hb1 (heap_lt HX0.out)
      have z1 : ∀ i, w1.cell? ⟨w.heap.size, i, none⟩ = #[Value.int .i64 r.k, .int .i64 r.a, .int .i64 r.p, .int .i64 r.e.k, .int .i64 r.e.j, .int .i64 r.e.v, .int .i64 r.e.t, .int .i64 r.e.c][i]? := fun i => Joins.cell_of_block hx1 i
      have HB1 : Aside (Below w.heap.size w w1) := step_below1 HB0.out hb1
      have hit1 := hit w1 (HL0.out.later hb1)
      clear hck hx1 hb1 hit HB0 HL0 HX0 hL
      go_wp2_with fail
      refine hit1.mono ?_
      rintro e w2 ⟨rfl, hb2⟩
      have HB2 : Aside (Below w.heap.size w w2) := step_below1 HB1.out hb2
      clear hit1 hb2 HB1 z1
      go_wp2
      refine ret_pair (p := 2) (q := 3) rfl rfl rfl rfl ⟨tup_str ?_, HB2.out⟩
      rw [HT.out, data_append]
      rfl
    · obtain ⟨h1, ha, hp, he⟩ := Rc.write hz hk
      have HT : Hid (r.txt = Lib.itoa r.a ++ ([58, 32] ++ r.e.txt)) := by rw [Hid, Rc.txt, if_neg hk]
      have hit := fun W hW => itoa_any r.a W hW (by omega) (by omega)
      have htx := fun W hW => ref_text r.e W hW he
      have hlen := Lib.itoa_length_le r.a (by omega) (by omega)
      have hlen2 := txt_len r.e he
      have hkb : (r.k == 2) = false := by rw [beq_eq_false_iff_ne]; exact hk
      generalize Lib.itoa r.a = px at *
      generalize r.e.txt = tx at *
      have hd1 : ¬ (9223372036854775807 < px.length + 2) := by omega
      have hd2 : ¬ (9223372036854775807 < px.length + 2 + tx.length) := by omega
      have hd3 : px.length + 2 ≤ 9223372036854775807 := by omega
      have hd4 : px.length + 2 + tx.length ≤ 9223372036854775807 := by omega
      have hd5 : ¬ (9223372036854775807 < px.length + (2 + tx.length)) := by omega
      have hd6 : px.length + (2 + tx.length) ≤ 9223372036854775807 := by omega
      clear hz h1 hp he hk
      go_enter Tryd.func7, Tryd.ntmps7
      go_wp2_with fail
      refine hck.mono ?_
      rintro e w1 ⟨rfl, hb1⟩
      have hx1 := heap_below HX0.out hb1 (heap_lt HX0.out)
      have z1 : ∀ i, w1.cell? ⟨w.heap.size, i, none⟩ = #[Value.int .i64 r.k, .int .i64 r.a, .int .i64 r.p, .int .i64 r.e.k, .int .i64 r.e.j, .int .i64 r.e.v, .int .i64 r.e.t, .int .i64 r.e.c][i]? := fun i => Joins.cell_of_block hx1 i
      have HB1 : Aside (Below w.heap.size w w1) := step_below1 HB0.out hb1
      have hS0 : RtS w1 w1 w.heap.size r := ⟨⟨HL0.out.later hb1, Below.refl _ _⟩, z1 1, z1 3, z1 4, z1 5, z1 6, z1 7⟩
      clear hck hx1 hb1 HB0 HL0 HX0 hL
      have hbd : Below w1.heap.size w1 w1.drew := (Below.refl _ _).drew
      go_wp2_with fail
      clear z1
      go_region_held3 (fun w' => RtS w1 w' w.heap.size r) (exact rtS_step (by assumption) (by assumption)) (first | (go_at_call 11; refine (hit _ (rtS_laid (by assumption))).mono ?_; rintro e w' ⟨rfl, hb'⟩) | (go_at_call 15; refine (htx _ (rtS_laid (by assumption))).mono ?_; rintro e w' ⟨rfl, hb'⟩))
      all_goals
        rename_i hS
        have HB2 : Aside (Below w.heap.size w _) := HB1.out.trans (hS.1.2.mono HB1.out.size)
        clear hS hS0 hbd hit htx HB1
        go_wp2
        refine ret_pair (p := 2) (q := 3) rfl rfl rfl rfl ⟨tup_str ?_, HB2.out⟩
        rw [HT.out, data_append, data_append]
        simp
  · have HP : Hid (r.ptx = []) := by rw [Hid, Rc.ptx, if_neg hz]
    rw [HP.out]
    have hzb : (r.chk != 0) = true := by rw [bne_iff_ne]; exact hz
    generalize r.chk = d at *
    go_enter Tryd.func7, Tryd.ntmps7
    go_wp2_with fail
    refine hck.mono ?_
    rintro e w1 ⟨rfl, hb1⟩
    have HB1 : Aside (Below w.heap.size w w1) := step_below1 HB0.out hb1
    clear hck hb1 HB0 HL0 HX0 hL
    go_wp2
    exact ret_pair (p := 2) (q := 3) rfl rfl rfl rfl ⟨rfl, HB1.out⟩

end Go.Proofs.YtijcohldgjcjgacDoor
