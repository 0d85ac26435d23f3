/- Package due: the walks of check, Count and When. -/
import Derived.Test.YtmfoonalehmjoabDueZc
import Derived.Test.YtmfoonalehmjoabBookZc
namespace Go.Proofs.Ytmfoonalehmjoab
open Go.RowKit Go.Shelf

theorem ret_two {fn : Func} {R : Ending → World → Prop} {a : Act} {W : World} {p q : Nat} {x y : Value} (hf : fn.results = #[.tmp p, .tmp q]) (hd : a.defers = [])
    (h1 : a.tmps.getD p undef = x) (h2 : a.tmps.getD q undef = y) (hp : R (.returned (.tuple #[x, y])) W) : bodyPost Try.prog fn R .ret a W := by
  have h1' : a.tmps[p]?.getD undef = x := by simpa using h1
  have h2' : a.tmps[q]?.getD undef = y := by simpa using h2
  refine bodyPost_ret (v := .tuple #[x, y]) ?_ hd hp
  simp [results, hf, h1', h2', go_sem]

set_option maxHeartbeats 2000000 in
/-- What is wrong with a book and a time. -/
theorem due_check (a1 a2 : Option Addr) (n1 n2 c1 c2 : Nat) (js : List Jb) (rs : List Rg) (t : Int) (w : World) (h1 : JobSl w (.slice a1 n1 c1) js) (h2 : RungSl w (.slice a2 n2 c2) rs) :
    Calls Try.prog 43 #[.agg #[.slice a1 n1 c1, .slice a2 n2 c2], .int .i64 t] w fun e w' => e = .returned (.int .i64 (dueErr js rs t)) ∧ Below w.heap.size w w' := by
  have hB0 := grew (Below.refl w.heap.size w) (boxB (.slice a1 n1 c1) (.slice a2 n2 c2))
  have hck := bk_check (.slice a1 n1 c1) (.slice a2 n2 c2) js rs _ (h1.later hB0) (h2.later hB0)
  have HD : Hid (dueErr js rs t = if ckBook js rs ≠ 0 then ckBook js rs else if t < 0 ∨ 100000 < t then 3 else 0) := rfl
  have HB0 : Aside _ := hB0
  generalize dueErr js rs t = d at *
  generalize ckBook js rs = n at *
  clear h1 h2 hB0
  by_cases hn : n = 0
  · subst hn
    by_cases h0 : t < 0
    · have HR : Hid (d = 3) := by rw [Hid, HD.out, if_neg (by simp), if_pos (Or.inl h0)]
      go_enter Try.func43, Try.ntmps43
      go_wp2_with fail
      refine hck.mono ?_
      rintro e w1 ⟨rfl, hb1⟩
      have HB1 : Aside _ := HB0.out.trans (hb1.mono HB0.out.size)
      clear hck HB0 hb1
      go_wp2
      go_ret
      exact ⟨by rw [HR.out]; rfl, HB1.out⟩
    · by_cases h3 : 100000 < t
      · have HR : Hid (d = 3) := by rw [Hid, HD.out, if_neg (by simp), if_pos (Or.inr h3)]
        go_enter Try.func43, Try.ntmps43
        go_wp2_with fail
        refine hck.mono ?_
        rintro e w1 ⟨rfl, hb1⟩
        have HB1 : Aside _ := HB0.out.trans (hb1.mono HB0.out.size)
        clear hck HB0 hb1
        go_wp2
        go_ret
        exact ⟨by rw [HR.out]; rfl, HB1.out⟩
      · have HR : Hid (d = 0) := by rw [Hid, HD.out, if_neg (by simp), if_neg (by omega)]
        go_enter Try.func43, Try.ntmps43
        go_wp2_with fail
        refine hck.mono ?_
        rintro e w1 ⟨rfl, hb1⟩
        have HB1 : Aside _ := HB0.out.trans (hb1.mono HB0.out.size)
        clear hck HB0 hb1
        go_wp2
        go_ret
        exact ⟨by rw [HR.out]; rfl, HB1.out⟩
  · have HR : Hid (d = n) := by rw [Hid, HD.out, if_pos hn]
    have hnb : (n != 0) = true := by rw [bne_iff_ne]; exact hn
    go_enter Try.func43, Try.ntmps43
    go_wp2_with fail
    refine hck.mono ?_
    rintro e w1 ⟨rfl, hb1⟩
    have HB1 : Aside _ := HB0.out.trans (hb1.mono HB0.out.size)
    clear hck HB0 hb1
    go_wp2
    go_ret
    exact ⟨by rw [HR.out]; rfl, HB1.out⟩

set_option maxHeartbeats 2000000 in
theorem count_bad (a1 a2 : Option Addr) (n1 n2 c1 c2 : Nat) (js : List Jb) (rs : List Rg) (t : Int) (w : World) (h1 : JobSl w (.slice a1 n1 c1) js) (h2 : RungSl w (.slice a2 n2 c2) rs) (hbad : dueErr js rs t ≠ 0) :
    Calls Try.prog 20 #[.agg #[.slice a1 n1 c1, .slice a2 n2 c2], .int .i64 t] w fun e w' => e = .returned (.tuple #[.int .i64 0, .int .i64 (dueErr js rs t)]) ∧ Below w.heap.size w w' := by
  have hB0 := grew (Below.refl w.heap.size w) (boxB (.slice a1 n1 c1) (.slice a2 n2 c2))
  have hck := due_check a1 a2 n1 n2 c1 c2 js rs t _ (h1.later hB0) (h2.later hB0)
  have hb : (dueErr js rs t != 0) = true := by rw [bne_iff_ne]; exact hbad
  have HB0 : Aside _ := hB0
  generalize dueErr js rs t = d at *
  clear h1 h2 hB0 hbad
  go_enter Try.func20, Try.ntmps20
  go_wp2_with fail
  refine hck.mono ?_
  rintro e w1 ⟨rfl, hb1⟩
  have HB1 : Aside _ := HB0.out.trans (hb1.mono HB0.out.size)
  clear hck HB0 hb1
  go_wp2
  refine ret_two (p := 4) (q := 5) rfl rfl rfl rfl ⟨rfl, HB1.out⟩

theorem dueErr_zero {js : List Jb} {rs : List Rg} {t : Int} (h : dueErr js rs t = 0) : ckBook js rs = 0 ∧ 0 ≤ t ∧ t ≤ 100000 := by
  unfold dueErr at h
  split at h
  · exact absurd h (by assumption)
  · rename_i h1
    split at h
    · cases h
    · exact ⟨by simpa using h1, by omega, by omega⟩

set_option maxHeartbeats 4000000 in
theorem count_ok (a1 a2 : Option Addr) (n1 n2 c1 c2 : Nat) (js : List Jb) (rs : List Rg) (t : Int) (w : World) (h1 : JobSl w (.slice a1 n1 c1) js) (h2 : RungSl w (.slice a2 n2 c2) rs) (hz : dueErr js rs t = 0) :
    Calls Try.prog 20 #[.agg #[.slice a1 n1 c1, .slice a2 n2 c2], .int .i64 t] w fun e w' => e = .returned (.tuple #[.int .i64 (countOf js t), .int .i64 0]) ∧ Below w.heap.size w w' := by
  have hB0 := grew (Below.refl w.heap.size w) (boxB (.slice a1 n1 c1) (.slice a2 n2 c2))
  have hck := due_check a1 a2 n1 n2 c1 c2 js rs t _ (h1.later hB0) (h2.later hB0)
  rw [hz] at hck
  obtain ⟨hz1, ht0, ht1⟩ := dueErr_zero hz
  have hok := ckBook_zero.1 hz1
  have hn : n1 ≤ 6 := by have := hok.few; rwa [h1.len] at this
  have L1 : Hid (js.length = n1) := h1.len
  have HG : Hid (∀ x, x ∈ js → (1 ≤ x.e ∧ x.e ≤ 100) ∧ (0 ≤ x.n ∧ x.n ≤ 100100)) := fun x hx => (Jb.good (hok.jobs x hx)).2
  have H1 : Hid (JobSl w (.slice a1 n1 c1) js) := h1
  have HW : Aside ((w.alloc (boxB (.slice a1 n1 c1) (.slice a2 n2 c2))).heap[w.heap.size]? = some (boxB (.slice a1 n1 c1) (.slice a2 n2 c2))) := heap_new _ _
  have HB0 : Aside _ := hB0
  clear h1 h2 hB0 hz hz1 hok
  go_enter Try.func20, Try.ntmps20
  go_wp2_with fail
  refine hck.mono ?_
  rintro e w1 ⟨rfl, hb1⟩
  have HB1 : Aside (Below w.heap.size w w1) := HB0.out.trans (hb1.mono HB0.out.size)
  have hw1 : w1.heap[w.heap.size]? = some (boxB (.slice a1 n1 c1) (.slice a2 n2 c2)) := heap_below HW.out hb1 (heap_lt HW.out)
  have z1 : ∀ i, w1.cell? ⟨w.heap.size, i, none⟩ = #[Value.slice a1 n1 c1, .slice a2 n2 c2][i]? := fun i => Joins.cell_of_block hw1 i
  clear hck HB0 hb1 HW hw1
  go_wp2
  go_loopw [7, 19] (fun l i wr => ∃ (k : Nat) (lv : Int), k ≤ n1 ∧ i = .int .i64 k ∧ l = .int .i64 lv ∧ 0 ≤ lv ∧ lv ≤ (k : Int) * 100001 ∧ Aside (Below w.heap.size w wr) ∧ Hid (countOf (js.take k) t = lv)) (fun _ i _ => n1 - (intOf i).toNat)
  case atStart => exact ⟨0, 0, Nat.zero_le _, rfl, rfl, by omega, by omega, HB1, rfl⟩
  case round =>
    obtain ⟨k, lv, hk, rfl, rfl, hl1, hl2, hB, hst⟩ := hrel
    by_cases hlt : k < n1
    · obtain ⟨x, hx⟩ : ∃ x, js[k]? = some x := ⟨js[k]'(by have := L1.out; omega), List.getElem?_eq_getElem _⟩
      obtain ⟨b, off, rfl, hE0⟩ := H1.out.at (by omega)
      have hE := hE0.later hB.out
      have c0 : wr.cell? ⟨b, off + k * 3, none⟩ = some (.int .i64 x.i) := hE k x hx 0 _ rfl
      have c1 : wr.cell? ⟨b, off + k * 3 + 1, none⟩ = some (.int .i64 x.e) := hE k x hx 1 _ rfl
      have c2 : wr.cell? ⟨b, off + k * 3 + 2, none⟩ = some (.int .i64 x.n) := hE k x hx 2 _ rfl
      obtain ⟨g1, g2⟩ := HG.out x (List.mem_of_getElem? hx)
      have hti := times_any x t (wr.alloc (boxJ x)) g1 g2 ⟨ht0, ht1⟩
      have q1 := cnt1_nonneg (t := t) g1.1
      have q2 := cnt1_le (x := x) g2.1 ht1
      have HS : Hid (countOf (js.take (k + 1)) t = lv + cnt1 x t) := by
        rw [Hid, List.take_add_one, hx, ← hst.out]
        exact countOf_snoc x (js.take k) t
      generalize cnt1 x t = q at *
      have hlk : (k : Int) * 100001 + 100001 = ((k + 1 : Nat) : Int) * 100001 := by omega
      have hl3 : lv + q ≤ 700000 := by omega
      clear hE hE0 hx hst H1
      go_wp2_with fail
      refine hti.mono ?_
      rintro e w2 ⟨rfl, hb2⟩
      have hB2 : Aside (Below w.heap.size w w2) := (grew hB.out (boxJ x)).trans (hb2.mono (by have := hB.out.size; rw [World.size_alloc]; omega))
      clear hti hb2 hB
      go_wp2
      go_roundw
      case rel => exact ⟨k + 1, lv + q, by omega, by go_num, by first | rfl | go_num, by omega, by omega, hB2, HS⟩
      case measure => simp [intOf]; omega
    · have hkn : k = n1 := by omega
      subst hkn
      have HF : Hid (countOf js t = lv) := by
        have h := hst.out
        rwa [List.take_of_length_le (by have := L1.out; omega)] at h
      clear hst H1
      go_wp2
      refine ret_two (p := 4) (q := 5) rfl rfl rfl rfl ⟨by rw [HF.out]; rfl, hB.out⟩

set_option maxHeartbeats 2000000 in
theorem when_bad (a1 a2 : Option Addr) (n1 n2 c1 c2 : Nat) (js : List Jb) (rs : List Rg) (w : World) (h1 : JobSl w (.slice a1 n1 c1) js) (h2 : RungSl w (.slice a2 n2 c2) rs) (hbad : ckBook js rs ≠ 0) :
    Calls Try.prog 21 #[.agg #[.slice a1 n1 c1, .slice a2 n2 c2]] w fun e w' => e = .returned (.tuple #[.int .i64 0, .int .i64 (ckBook js rs)]) ∧ Below w.heap.size w w' := by
  have hB0 := grew (Below.refl w.heap.size w) (boxB (.slice a1 n1 c1) (.slice a2 n2 c2))
  have hck := bk_check (.slice a1 n1 c1) (.slice a2 n2 c2) js rs _ (h1.later hB0) (h2.later hB0)
  have hb : (ckBook js rs != 0) = true := by rw [bne_iff_ne]; exact hbad
  have HB0 : Aside _ := hB0
  generalize ckBook js rs = d at *
  clear h1 h2 hB0 hbad
  go_enter Try.func21, Try.ntmps21
  go_wp2_with fail
  refine hck.mono ?_
  rintro e w1 ⟨rfl, hb1⟩
  have HB1 : Aside _ := HB0.out.trans (hb1.mono HB0.out.size)
  clear hck HB0 hb1
  go_wp2
  refine ret_two (p := 2) (q := 3) rfl rfl rfl rfl ⟨rfl, HB1.out⟩

theorem when_of_min {js : List Jb} (hg : ∀ x, x ∈ js → 0 ≤ x.n) {z : Jb} (hz : z ∈ js) (hm : ∀ y, y ∈ js → ¬ y.ahead z) : whenOf js = z.n := by
  rcases whenOf_ways js hg with ⟨h, _⟩ | ⟨y, hy, hw, hall⟩
  · rw [h] at hz; cases hz
  · have h1 := hm y hy
    have h2 := hall z hz
    unfold Jb.ahead at h1
    rw [hw]
    omega

set_option maxHeartbeats 2000000 in
set_option maxRecDepth 100000 in
theorem when_ok (a1 a2 : Option Addr) (n1 n2 c1 c2 : Nat) (js : List Jb) (rs : List Rg) (w : World) (h1 : JobSl w (.slice a1 n1 c1) js) (h2 : RungSl w (.slice a2 n2 c2) rs) (hz : ckBook js rs = 0) :
    Calls Try.prog 21 #[.agg #[.slice a1 n1 c1, .slice a2 n2 c2]] w fun e w' => e = .returned (.tuple #[.int .i64 (whenOf js), .int .i64 0]) ∧ Below w.heap.size w w' := by
  have hB0 := grew (Below.refl w.heap.size w) (boxB (.slice a1 n1 c1) (.slice a2 n2 c2))
  have hck := bk_check (.slice a1 n1 c1) (.slice a2 n2 c2) js rs _ (h1.later hB0) (h2.later hB0)
  rw [hz] at hck
  have hok := ckBook_zero.1 hz
  have hn : n1 ≤ 6 := by have := hok.few; rwa [h1.len] at this
  have L1 : Hid (js.length = n1) := h1.len
  have HG : Hid (∀ x, x ∈ js → 0 ≤ x.n) := fun x hx => (Jb.good (hok.jobs x hx)).2.2.1
  have H1 : Hid (JobSl w (.slice a1 n1 c1) js) := h1
  have HW : Aside ((w.alloc (boxB (.slice a1 n1 c1) (.slice a2 n2 c2))).heap[w.heap.size]? = some (boxB (.slice a1 n1 c1) (.slice a2 n2 c2))) := heap_new _ _
  have HB0 : Aside _ := hB0
  clear h1 h2 hB0 hz hok
  rcases Nat.eq_zero_or_pos n1 with h0 | h0
  · subst h0
    have HF : Hid (whenOf js = -1) := by rw [Hid, List.length_eq_zero_iff.1 L1.out]; rfl
    go_enter Try.func21, Try.ntmps21
    go_wp2_with fail
    refine hck.mono ?_
    rintro e w1 ⟨rfl, hb1⟩
    have HB1 : Aside (Below w.heap.size w w1) := HB0.out.trans (hb1.mono HB0.out.size)
    have hw1 : w1.heap[w.heap.size]? = some (boxB (.slice a1 0 c1) (.slice a2 n2 c2)) := heap_below HW.out hb1 (heap_lt HW.out)
    have z1 : ∀ i, w1.cell? ⟨w.heap.size, i, none⟩ = #[Value.slice a1 0 c1, .slice a2 n2 c2][i]? := fun i => Joins.cell_of_block hw1 i
    clear hck HB0 hb1 HW hw1
    go_wp2
    refine ret_two (p := 2) (q := 3) rfl rfl rfl rfl ⟨by rw [HF.out]; rfl, HB1.out⟩
  · have h0b : ((n1 : Int) == 0) = false := by rw [beq_eq_false_iff_ne]; omega
    go_enter Try.func21, Try.ntmps21
    go_wp2_with fail
    refine hck.mono ?_
    rintro e w1 ⟨rfl, hb1⟩
    have HB1 : Aside (Below w.heap.size w w1) := HB0.out.trans (hb1.mono HB0.out.size)
    have hw1 : w1.heap[w.heap.size]? = some (boxB (.slice a1 n1 c1) (.slice a2 n2 c2)) := heap_below HW.out hb1 (heap_lt HW.out)
    have z1 : ∀ i, w1.cell? ⟨w.heap.size, i, none⟩ = #[Value.slice a1 n1 c1, .slice a2 n2 c2][i]? := fun i => Joins.cell_of_block hw1 i
    have hmin := min_any (.slice a1 n1 c1) js w1 (H1.out.later HB1.out) (by have := L1.out; omega) (by have := L1.out; omega)
    clear hck HB0 hb1 HW hw1 H1
    go_wp2_with fail
    refine hmin.mono ?_
    rintro e w2 ⟨z, rfl, hz1, hz2, hb2⟩
    have HF : Hid (whenOf js = z.n) := when_of_min HG.out hz1 hz2
    have HB2 : Aside (Below w.heap.size w w2) := HB1.out.trans (hb2.mono HB1.out.size)
    clear hmin hb2 hz1 hz2 HB1
    have hfld : ∀ W, (Instr.field 41 z.val 2).run Try.prog W = .ok (.int .i64 z.n) W := fun _ => by kernel_rfl
    go_wp2
    refine ret_two (p := 2) (q := 3) rfl rfl rfl rfl ⟨by rw [HF.out]; rfl, HB2.out⟩

end Go.Proofs.Ytmfoonalehmjoab
