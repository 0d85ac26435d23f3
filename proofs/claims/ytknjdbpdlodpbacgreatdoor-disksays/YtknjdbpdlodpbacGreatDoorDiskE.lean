/- Disks in memory; the reference's CheckDisk, SameDisk, PutOn, Synced, Recovered. The reference's PutOn, Synced, Recovered. The reference's Recovered. -/
import Derived.Test.YtknjdbpdlodpbacGreatDoorDiskB
import Derived.Deep.RegionHeld3
namespace Go.Proofs.YtknjdbpdlodpbacGreatDoor
open Go.RowKit

theorem ret_disk {fn : Func} {R : Ending → World → Prop} {a : Act} {W : World} {b p q : Nat} {v1 v2 y : Value} (hf : fn.results = #[.cell p 24, .tmp q]) (hd : a.defers = [])
    (h2 : a.tmps.getD p undef = .pointer (some ⟨b, 0, none⟩)) (h3 : a.tmps.getD q undef = y) (hR : W.heap[b]? = some (boxD v1 v2)) (hp : R (.returned (.tuple #[.agg #[v1, v2], y])) W) :
    bodyPost Tryz.prog fn R .ret a W := by
  have c0 : ∀ i, W.cell? ⟨b, i, none⟩ = #[v1, v2][i]? := fun i => Joins.cell_of_block hR i
  refine bodyPost_ret (v := .tuple #[.agg #[v1, v2], y]) ?_ hd hp
  rw [results_cell_tmp hf, h2, h3]
  simp [go_sem, c0]

set_option maxHeartbeats 1000000 in
set_option maxRecDepth 100000 in
/-- The reference's CheckDisk. -/
theorem ref_ckDisk (v1 v2 : Value) (s t : List UInt8) (w : World) (hL : Laid w) (h : DiskAt w v1 v2 (s, t)) (hn1 : s.length ≤ 140737488351232) :
    Calls Tryz.prog 8 #[.agg #[v1, v2]] w fun e w' => e = .returned (.int .i64 (ckDisk s t)) ∧ Below w.heap.size w w' := by
  have hB := grew (Below.refl w.heap.size w) (boxD v1 v2)
  have hst := str_of (h.safe.later hB)
  obtain ⟨a1, c1, rfl, _⟩ := h.safe
  obtain ⟨a2, c2, rfl, _⟩ := h.wait
  clear h
  dsimp only at hst ⊢
  by_cases hk : 30000 < s.length ∨ 30000 - s.length < t.length
  · have hr : ckDisk s t = 2 := by rw [ckDisk, if_pos hk]
    rw [hr]
    clear hr hst
    generalize s.length = n at *
    generalize t.length = m at *
    by_cases h1 : 30000 < (n : Int)
    · go_enter Tryz.func8, Tryz.ntmps8
      go_wp2
      go_ret
      exact ⟨rfl, grew (Below.refl _ _) _⟩
    · have h2 : 30000 - (n : Int) < (m : Int) := by omega
      go_enter Tryz.func8, Tryz.ntmps8
      go_wp2
      go_ret
      exact ⟨rfl, grew (Below.refl _ _) _⟩
  · have hr : ckDisk s t = (linesOf s 160).2.2 := by rw [ckDisk, if_neg hk]
    have hcall := ref_lines s 160 (Nat.le_refl _) _ (hL.later hB) (by omega)
    rw [hr]
    clear hr
    generalize (linesOf s 160).2.2 = d at *
    generalize (linesOf s 160).2.1 = z at *
    generalize (linesOf s 160).1 = rs at *
    generalize s.length = n at *
    generalize t.length = m at *
    have h1 : (n : Int) ≤ 30000 := by omega
    have h2 : (m : Int) ≤ 30000 - (n : Int) := by omega
    go_enter Tryz.func8, Tryz.ntmps8
    go_wp2_with (go_at_call 21; refine hcall.mono ?_; rintro e w1 ⟨u, rfl, _, hb1⟩)
    go_ret
    exact ⟨rfl, hB.trans (hb1.mono hB.size)⟩

set_option maxHeartbeats 2000000 in
/-- The reference's SameDisk. -/
theorem ref_sameDisk (v1 v2 u1 u2 : Value) (d x : Dk) (w : World) (h1 : DiskAt w v1 v2 d) (h2 : DiskAt w u1 u2 x) (hn1 : d.1.length ≤ 140737488351232) (hn2 : d.2.length ≤ 140737488351232) :
    Calls Tryz.prog 12 #[.agg #[v1, v2], .agg #[u1, u2]] w fun e w' => e = .returned (.bool (decide (d = x))) ∧ Below w.heap.size w w' := by
  obtain ⟨s, t⟩ := d
  obtain ⟨s', t'⟩ := x
  have hB := grew (grew (Below.refl w.heap.size w) (boxD v1 v2)) (boxD u1 u2)
  have e1 := equalY v1 u1 s s' _ (h1.safe.later hB) (h2.safe.later hB) (Nat.le_trans hn1 (by decide))
  have e2 := fun W hb => equalY v2 u2 t t' W (h1.wait.later hb) (h2.wait.later hb) (Nat.le_trans hn2 (by decide))
  have hX : ((w.alloc (boxD v1 v2)).alloc (boxD u1 u2)).heap[w.heap.size]? = some (boxD v1 v2) := heap_old (heap_new _ _) _
  have hY : ((w.alloc (boxD v1 v2)).alloc (boxD u1 u2)).heap[w.heap.size + 1]? = some (boxD u1 u2) := by
    have := heap_new (w.alloc (boxD v1 v2)) (boxD u1 u2)
    rwa [World.size_alloc] at this
  have hBB : Aside _ := hB
  obtain ⟨a1, c1, rfl, _⟩ := h1.safe
  obtain ⟨a2, c2, rfl, _⟩ := h1.wait
  obtain ⟨a3, c3, rfl, _⟩ := h2.safe
  obtain ⟨a4, c4, rfl, _⟩ := h2.wait
  have hd : decide ((s, t) = (s', t')) = (decide (s = s') && decide (t = t')) := by
    by_cases g1 : s = s' <;> by_cases g2 : t = t' <;> simp [g1, g2]
  rw [hd]
  clear h1 h2 hn1 hn2 hd hB
  dsimp only at e1 e2 hX hY ⊢
  generalize decide (s = s') = b1 at *
  generalize decide (t = t') = b2 at *
  generalize s.length = n1 at *
  generalize t.length = n2 at *
  generalize s'.length = n3 at *
  generalize t'.length = n4 at *
  go_enter Tryz.func12, Tryz.ntmps12
  go_wp2_with fail
  refine e1.mono ?_
  rintro e w1 ⟨rfl, hb1⟩
  have hB1 : Aside (Below w.heap.size w w1) := hBB.out.trans (hb1.mono hBB.out.size)
  have x1 : ∀ i, w1.cell? ⟨w.heap.size, i, none⟩ = #[Value.slice a1 n1 c1, .slice a2 n2 c2][i]? := fun i => Joins.cell_of_block (heap_below hX hb1 (heap_lt hX)) i
  have y1 : ∀ i, w1.cell? ⟨w.heap.size + 1, i, none⟩ = #[Value.slice a3 n3 c3, .slice a4 n4 c4][i]? := fun i => Joins.cell_of_block (heap_below hY hb1 (heap_lt hY)) i
  have e2' := e2 w1 hB1.out
  clear e1 hb1 hX hY e2 hBB
  cases b1 with
  | false =>
    clear e2'
    go_wp2
    go_ret
    exact ⟨rfl, hB1.out⟩
  | true =>
    go_wp2_with fail
    refine e2'.mono ?_
    rintro e w2 ⟨rfl, hb2⟩
    have hB2 : Aside (Below w.heap.size w w2) := hB1.out.trans (hb2.mono hB1.out.size)
    clear e2' hb2 hB1 x1 y1
    go_wp2
    go_ret
    exact ⟨rfl, hB2.out⟩

end Go.Proofs.YtknjdbpdlodpbacGreatDoor
namespace Go.Proofs.YtknjdbpdlodpbacGreatDoor
open Go.RowKit

theorem rc_len {r : Rc} (h : r.chk = 0) : r.txt.length ≤ 300 := by
  unfold Rc.txt
  by_cases hk : r.k = 2
  · rw [if_pos hk]
    have hp := (Rc.seal h hk).1
    have hlen := Lib.itoa_length_le r.p (by omega) (by omega)
    simp [sealL]
    omega
  · rw [if_neg hk]
    obtain ⟨_, ha, _, he⟩ := Rc.write h hk
    have hlen := Lib.itoa_length_le r.a (by omega) (by omega)
    have hlen2 := txt_len r.e he
    simp
    omega

theorem ptx_len (r : Rc) : r.ptx.length ≤ 300 := by
  unfold Rc.ptx
  split
  · rename_i h; exact rc_len h
  · simp

theorem nl_bytes (l : List UInt8) : (⟨l.toArray⟩ : ByteArray) ++ ⟨#[10]⟩ = ⟨(l ++ [10]).toArray⟩ := by
  apply bytes_eq
  rw [data_append]

/-- Answers a disk and what is wrong. -/
abbrev AnsD (f : Nat) (args : Array Value) (w : World) (r : Dk × Int) : Prop :=
  Calls Tryz.prog f args w fun e w' => ∃ u1 u2, e = .returned (.tuple #[.agg #[u1, u2], .int .i64 r.2]) ∧ DiskAt w' u1 u2 r.1 ∧ Below w.heap.size w w'

set_option linter.unusedSimpArgs false in
set_option maxHeartbeats 4000000 in
set_option maxRecDepth 100000 in
theorem put_bad (a1 a2 : Option Addr) (n1 n2 c1 c2 : Nat) (s t : List UInt8) (c : Rc) (w : World) (hL : Laid w) (h : DiskAt w (.slice a1 n1 c1) (.slice a2 n2 c2) (s, t)) (hs : s.length = n1) (ht : t.length = n2) (hc : c.chk ≠ 0) :
    AnsD 13 #[.agg #[.slice a1 n1 c1, .slice a2 n2 c2], c.val] w (([], []), c.chk) := by
  have hB := grew (grew (grew (Below.refl w.heap.size w) (boxD (.slice a1 n1 c1) (.slice a2 n2 c2))) (boxRc c)) (boxD nilB nilB)
  have hbD : (((w.alloc (boxD (.slice a1 n1 c1) (.slice a2 n2 c2))).alloc (boxRc c)).alloc (boxD nilB nilB)).heap[w.heap.size]? = some (boxD (.slice a1 n1 c1) (.slice a2 n2 c2)) := heap_old (heap_old (heap_new _ _) _) _
  have hbZ : (((w.alloc (boxD (.slice a1 n1 c1) (.slice a2 n2 c2))).alloc (boxRc c)).alloc (boxD nilB nilB)).heap[w.heap.size + 2]? = some (boxD nilB nilB) := by
    have := heap_new ((w.alloc (boxD (.slice a1 n1 c1) (.slice a2 n2 c2))).alloc (boxRc c)) (boxD nilB nilB)
    rwa [World.size_alloc, World.size_alloc] at this
  have hcall := ref_recText c _ (hL.later hB)
  have HB : Aside _ := hB
  have HH : Aside (DiskAt w (.slice a1 n1 c1) (.slice a2 n2 c2) (s, t)) := h
  have HLn : Hid (s.length = n1 ∧ t.length = n2) := ⟨hs, ht⟩
  have hpl := ptx_len c
  have hcb : (c.chk != 0) = true := by rw [bne_iff_ne]; exact hc
  generalize c.chk = k at *
  clear hB h hs ht hc hL HH HLn hpl
  go_enter Tryz.func13, Tryz.ntmps13
  go_wp2_with fail
  refine hcall.mono ?_
  rintro e w1 ⟨rfl, hb1⟩
  have hB1 : Aside (Below w.heap.size w w1) := HB.out.trans (hb1.mono HB.out.size)
  have hD1 := heap_below hbD hb1 (heap_lt hbD)
  have hZ1 := heap_below hbZ hb1 (heap_lt hbZ)
  have d1 : ∀ i, w1.cell? ⟨w.heap.size, i, none⟩ = #[Value.slice a1 n1 c1, .slice a2 n2 c2][i]? := fun i => Joins.cell_of_block hD1 i
  have z1 : ∀ i, w1.cell? ⟨w.heap.size + 2, i, none⟩ = #[nilB, nilB][i]? := fun i => Joins.cell_of_block hZ1 i
  have f1 : ∀ i, w1.frozen? ⟨w.heap.size + 2, i, none⟩ = false := fun i => Joins.unfrozen_of_block hZ1 i
  have HZ : Aside (w1.heap[w.heap.size + 2]? = some (boxD nilB nilB)) := hZ1
  have hlt1 := heap_lt hZ1
  clear hcall hb1 hbD hbZ HB hZ1 hD1
  go_wp2
  exact ret_disk (v1 := nilB) (v2 := nilB) Tryz.results13 rfl rfl rfl (disk_stored HZ.out _ _) ⟨nilB, nilB, rfl, disk_nil _, below_two hB1.out (by omega) _ _⟩

set_option linter.unusedSimpArgs false in
set_option maxHeartbeats 4000000 in
set_option maxRecDepth 100000 in
theorem put_long (a1 a2 : Option Addr) (n1 n2 c1 c2 : Nat) (s t : List UInt8) (c : Rc) (w : World) (hL : Laid w) (h : DiskAt w (.slice a1 n1 c1) (.slice a2 n2 c2) (s, t)) (hs : s.length = n1) (ht : t.length = n2) (hc : c.chk = 0) (hlen : n1 + n2 ≤ 30000) (hl : 30000 < n1 + n2 + c.txt.length + 1) :
    AnsD 13 #[.agg #[.slice a1 n1 c1, .slice a2 n2 c2], c.val] w (([], []), 2) := by
  have hB := grew (grew (grew (Below.refl w.heap.size w) (boxD (.slice a1 n1 c1) (.slice a2 n2 c2))) (boxRc c)) (boxD nilB nilB)
  have hbD : (((w.alloc (boxD (.slice a1 n1 c1) (.slice a2 n2 c2))).alloc (boxRc c)).alloc (boxD nilB nilB)).heap[w.heap.size]? = some (boxD (.slice a1 n1 c1) (.slice a2 n2 c2)) := heap_old (heap_old (heap_new _ _) _) _
  have hbZ : (((w.alloc (boxD (.slice a1 n1 c1) (.slice a2 n2 c2))).alloc (boxRc c)).alloc (boxD nilB nilB)).heap[w.heap.size + 2]? = some (boxD nilB nilB) := by
    have := heap_new ((w.alloc (boxD (.slice a1 n1 c1) (.slice a2 n2 c2))).alloc (boxRc c)) (boxD nilB nilB)
    rwa [World.size_alloc, World.size_alloc] at this
  have hcall := ref_recText c _ (hL.later hB)
  have HB : Aside _ := hB
  have HH : Aside (DiskAt w (.slice a1 n1 c1) (.slice a2 n2 c2) (s, t)) := h
  have HLn : Hid (s.length = n1 ∧ t.length = n2) := ⟨hs, ht⟩
  have hpl := ptx_len c
  rw [show c.ptx = c.txt by rw [Rc.ptx, if_pos hc]] at hcall hpl
  rw [hc] at hcall
  generalize c.txt = tx at *
  have hg : 30000 < (n1 : Int) + n2 + tx.length + 1 := by omega
  clear hB h hs ht hc hL HH HLn
  go_enter Tryz.func13, Tryz.ntmps13
  go_wp2_with fail
  refine hcall.mono ?_
  rintro e w1 ⟨rfl, hb1⟩
  have hB1 : Aside (Below w.heap.size w w1) := HB.out.trans (hb1.mono HB.out.size)
  have hD1 := heap_below hbD hb1 (heap_lt hbD)
  have hZ1 := heap_below hbZ hb1 (heap_lt hbZ)
  have d1 : ∀ i, w1.cell? ⟨w.heap.size, i, none⟩ = #[Value.slice a1 n1 c1, .slice a2 n2 c2][i]? := fun i => Joins.cell_of_block hD1 i
  have z1 : ∀ i, w1.cell? ⟨w.heap.size + 2, i, none⟩ = #[nilB, nilB][i]? := fun i => Joins.cell_of_block hZ1 i
  have f1 : ∀ i, w1.frozen? ⟨w.heap.size + 2, i, none⟩ = false := fun i => Joins.unfrozen_of_block hZ1 i
  have HZ : Aside (w1.heap[w.heap.size + 2]? = some (boxD nilB nilB)) := hZ1
  have hlt1 := heap_lt hZ1
  clear hcall hb1 hbD hbZ HB hZ1 hD1
  go_wp2
  exact ret_disk (v1 := nilB) (v2 := nilB) Tryz.results13 rfl rfl rfl (disk_stored HZ.out _ _) ⟨nilB, nilB, rfl, disk_nil _, below_two hB1.out (by omega) _ _⟩

/-- What PutOn's last region reads. -/
abbrev PtS (w : World) (b : Nat) (v1 v2 : Value) : Prop := w.cell? ⟨b, 0, none⟩ = some v1 ∧ w.cell? ⟨b, 1, none⟩ = some v2
theorem ptS_step {w w' : World} {b : Nat} {v1 v2 : Value} (h : PtS w b v1 v2) (hb : Below w.heap.size w w') : PtS w' b v1 v2 := ⟨cell_later hb h.1, cell_later hb h.2⟩
theorem ptS_two {w : World} {b g : Nat} {v1 v2 : Value} (hne : b ≠ g) (h : PtS w b v1 v2) (u1 u2 : Value) : PtS ((w.setCell ⟨g, 0, none⟩ u1).setCell ⟨g, 1, none⟩ u2) b v1 v2 :=
  ⟨by rw [cell_other hne, cell_other hne]; exact h.1, by rw [cell_other hne, cell_other hne]; exact h.2⟩

set_option linter.unusedSimpArgs false in
set_option maxHeartbeats 4000000 in
set_option maxRecDepth 100000 in
theorem put_ok (a1 a2 : Option Addr) (n1 n2 c1 c2 : Nat) (s t : List UInt8) (c : Rc) (w : World) (hL : Laid w) (h : DiskAt w (.slice a1 n1 c1) (.slice a2 n2 c2) (s, t)) (hs : s.length = n1) (ht : t.length = n2) (hc : c.chk = 0) (hlen : n1 + n2 + c.txt.length + 1 ≤ 30000) :
    AnsD 13 #[.agg #[.slice a1 n1 c1, .slice a2 n2 c2], c.val] w ((s, t ++ (c.txt ++ [10])), 0) := by
  have hB := grew (grew (grew (Below.refl w.heap.size w) (boxD (.slice a1 n1 c1) (.slice a2 n2 c2))) (boxRc c)) (boxD nilB nilB)
  have hbD : (((w.alloc (boxD (.slice a1 n1 c1) (.slice a2 n2 c2))).alloc (boxRc c)).alloc (boxD nilB nilB)).heap[w.heap.size]? = some (boxD (.slice a1 n1 c1) (.slice a2 n2 c2)) := heap_old (heap_old (heap_new _ _) _) _
  have hbZ : (((w.alloc (boxD (.slice a1 n1 c1) (.slice a2 n2 c2))).alloc (boxRc c)).alloc (boxD nilB nilB)).heap[w.heap.size + 2]? = some (boxD nilB nilB) := by
    have := heap_new ((w.alloc (boxD (.slice a1 n1 c1) (.slice a2 n2 c2))).alloc (boxRc c)) (boxD nilB nilB)
    rwa [World.size_alloc, World.size_alloc] at this
  have hcall := ref_recText c _ (hL.later hB)
  have HB : Aside _ := hB
  have HH : Aside (DiskAt w (.slice a1 n1 c1) (.slice a2 n2 c2) (s, t)) := h
  have HLn : Hid (s.length = n1 ∧ t.length = n2) := ⟨hs, ht⟩
  have hpl := ptx_len c
  rw [show c.ptx = c.txt by rw [Rc.ptx, if_pos hc]] at hcall hpl
  rw [hc] at hcall
  generalize c.txt = tx at *
  have hgd : decide (30000 < (n1 : Int) + n2 + tx.length + 1) = false := by rw [decide_eq_false_iff_not]; omega
  have hg1 : n1 ≤ 30000 := by omega
  have hg2 : n2 ≤ 30000 := by omega
  have hg3 : tx.length ≤ 30000 := by omega
  have HLEN : Hid (n1 + n2 + tx.length + 1 ≤ 30000) := hlen
  clear hB h hs ht hc hL hlen hpl
  go_enter Tryz.func13, Tryz.ntmps13
  go_wp2_with fail
  refine hcall.mono ?_
  rintro e w1 ⟨rfl, hb1⟩
  have hB1 : Aside (Below w.heap.size w w1) := HB.out.trans (hb1.mono HB.out.size)
  have hD1 := heap_below hbD hb1 (heap_lt hbD)
  have hZ1 := heap_below hbZ hb1 (heap_lt hbZ)
  have d1 : ∀ i, w1.cell? ⟨w.heap.size, i, none⟩ = #[Value.slice a1 n1 c1, .slice a2 n2 c2][i]? := fun i => Joins.cell_of_block hD1 i
  have z1 : ∀ i, w1.cell? ⟨w.heap.size + 2, i, none⟩ = #[nilB, nilB][i]? := fun i => Joins.cell_of_block hZ1 i
  have f1 : ∀ i, w1.frozen? ⟨w.heap.size + 2, i, none⟩ = false := fun i => Joins.unfrozen_of_block hZ1 i
  have HZ : Aside (w1.heap[w.heap.size + 2]? = some (boxD nilB nilB)) := hZ1
  have hlt1 := heap_lt hZ1
  clear hcall hb1 hbD hbZ HB hZ1 hD1
  clear z1 f1
  go_wp2_with fail
  have hd3 : tx.length + 1 ≤ 9223372036854775807 := by have := HLEN.out; omega
  have hd4 : ¬ (9223372036854775807 < tx.length + 1) := by omega
  obtain ⟨cc, W3, hcv, hby, hb3⟩ := of_str (tx ++ [10]) w1.drew
  rw [← nl_bytes] at hcv
  have hlx : (tx ++ [10]).length = tx.length + 1 := by simp
  rw [hlx] at hcv hby
  refine wp_region_held_drew (S := fun w' => PtS w' w.heap.size (.slice a1 n1 c1) (.slice a2 n2 c2)) (by kernel_rfl) (⟨d1 0, d1 1⟩) (fun hHeld => ?_)
  refine wpAnyH_take (i := 0) (oi := ?oi0) (v := ?v0) ?hi0 ?hs0 ?hf0 ?hr0 ?hQ0 (Or.inl ⟨?hw0, ?hy0⟩) (by assumption) ?h0
  case hi0 => (simp only [List.getElem?_toArray, List.getElem?_cons_succ, List.getElem?_cons_zero]; rfl)
  case hs0 => kernel_rfl
  case hf0 => kernel_rfl
  case hr0 => kernel_rfl
  case hw0 => rfl
  case hy0 => (intro w0 hSw; (try dsimp only at hSw); go_simp; first | done | with_reducible rfl)
  case hQ0 => exact fun _ _ _ h => h
  try simp only [Act.put, List.setIfInBounds_toArray, List.set_cons_zero, List.set_cons_succ]
  refine wpAnyH_take (i := 1) (oi := ?oi1) (v := ?v1) ?hi1 ?hs1 ?hf1 ?hr1 ?hQ1 (Or.inl ⟨?hw1, ?hy1⟩) (by assumption) ?h1
  case hi1 => (simp only [List.getElem?_toArray, List.getElem?_cons_succ, List.getElem?_cons_zero]; rfl)
  case hs1 => kernel_rfl
  case hf1 => kernel_rfl
  case hr1 => kernel_rfl
  case hw1 => rfl
  case hy1 => (intro w0 hSw; (try dsimp only at hSw); go_simp; first | done | with_reducible rfl)
  case hQ1 => exact fun _ _ _ h => h
  try simp only [Act.put, List.setIfInBounds_toArray, List.set_cons_zero, List.set_cons_succ]
  refine wpAnyH_take (i := 2) (oi := ?oi2) (v := ?v2) ?hi2 ?hs2 ?hf2 ?hr2 ?hQ2 (Or.inl ⟨?hw2, ?hy2⟩) (by assumption) ?h2
  case hi2 => (simp only [List.getElem?_toArray, List.getElem?_cons_succ, List.getElem?_cons_zero]; rfl)
  case hs2 => kernel_rfl
  case hf2 => kernel_rfl
  case hr2 => kernel_rfl
  case hw2 => rfl
  case hy2 => (intro w0 hSw; (try dsimp only at hSw); go_simp; first | done | with_reducible rfl)
  case hQ2 => exact fun _ _ _ h => h
  try simp only [Act.put, List.setIfInBounds_toArray, List.set_cons_zero, List.set_cons_succ]
  refine wpAnyH_take (i := 3) (oi := ?oi3) (v := ?v3) ?hi3 ?hs3 ?hf3 ?hr3 ?hQ3 (Or.inl ⟨?hw3, ?hy3⟩) (by assumption) ?h3
  case hi3 => (simp only [List.getElem?_toArray, List.getElem?_cons_succ, List.getElem?_cons_zero]; rfl)
  case hs3 => kernel_rfl
  case hf3 => kernel_rfl
  case hr3 => kernel_rfl
  case hw3 => rfl
  case hy3 => (intro w0 hSw; (try dsimp only at hSw); go_simp; first | done | with_reducible rfl)
  case hQ3 => exact fun _ _ _ h => h
  try simp only [Act.put, List.setIfInBounds_toArray, List.set_cons_zero, List.set_cons_succ]
  refine wpAnyH_take (i := 4) (oi := ?oi4) (v := ?v4) ?hi4 ?hs4 ?hf4 ?hr4 ?hQ4 (Or.inl ⟨?hw4, ?hy4⟩) (by assumption) ?h4
  case hi4 => (simp only [List.getElem?_toArray, List.getElem?_cons_succ, List.getElem?_cons_zero]; rfl)
  case hs4 => kernel_rfl
  case hf4 => kernel_rfl
  case hr4 => kernel_rfl
  case hw4 => rfl
  case hy4 => (intro w0 hSw; (try dsimp only at hSw); go_simp; first | done | with_reducible rfl)
  case hQ4 => exact fun _ _ _ h => h
  try simp only [Act.put, List.setIfInBounds_toArray, List.set_cons_zero, List.set_cons_succ]
  refine wpAnyH_take (i := 5) (oi := ?oi5) (v := ?v5) ?hi5 ?hs5 ?hf5 ?hr5 ?hQ5 (Or.inl ⟨?hw5, ?hy5⟩) (by assumption) ?h5
  case hi5 => (simp only [List.getElem?_toArray, List.getElem?_cons_succ, List.getElem?_cons_zero]; rfl)
  case hs5 => kernel_rfl
  case hf5 => kernel_rfl
  case hr5 => kernel_rfl
  case hw5 => rfl
  case hy5 => (intro w0 hSw; (try dsimp only at hSw); go_simp; first | done | with_reducible rfl)
  case hQ5 => exact fun _ _ _ h => h
  try simp only [Act.put, List.setIfInBounds_toArray, List.set_cons_zero, List.set_cons_succ]
  refine wpAnyH_ready (rs := [6]) (by kernel_rfl) (by simp) ?_
  refine AllReadyH.cons (o := ?o6) ?hi6 ?step6 AllReadyH.nil
  case hi6 => (simp only [List.getElem?_toArray, List.getElem?_cons_succ, List.getElem?_cons_zero]; rfl)
  intro K hK
  go_simp
  refine hK.out _ _ (ptS_step hHeld hb3) (fun hHeld => ?_)
  clear hK K
  try simp only [Act.put, List.setIfInBounds_toArray, List.set_cons_zero, List.set_cons_succ]
  have hb4 : Below w1.heap.size w1 W3 := (Below.refl _ w1).drew.trans (hb3.mono (Nat.le_refl _))
  have hgr := grew (Below.refl W3.heap.size W3) (.cells #[.slice a2 n2 c2, .slice (some ⟨w1.heap.size, 0, none⟩) (tx.length + 1) cc] 22)
  have hct := concatY W3.heap.size (.slice a2 n2 c2) (.slice (some ⟨w1.heap.size, 0, none⟩) (tx.length + 1) cc) t (tx ++ [10]) _ (heap_new W3 _) ((HH.out.wait.later (hB1.out.trans (hb4.mono hB1.out.size))).later hgr) (hby.later hgr) (by have := HLEN.out; have := HLn.out.2; rw [hlx]; omega)
  refine wpAnyH_ready (rs := [7]) (by kernel_rfl) (by simp) ?_
  refine AllReadyH.cons (o := ?o7) ?hi7 ?step7 AllReadyH.nil
  case hi7 => (simp only [List.getElem?_toArray, List.getElem?_cons_succ, List.getElem?_cons_zero]; rfl)
  intro K hK
  go_simp
  refine hK.out _ _ (ptS_step hHeld hgr) (fun hHeld => ?_)
  clear hK K
  try simp only [Act.put, List.setIfInBounds_toArray, List.set_cons_zero, List.set_cons_succ]
  refine wpAnyH_ready (rs := [8]) (by kernel_rfl) (by simp) ?_
  refine AllReadyH.cons (o := ?o8) ?hi8 ?step8 AllReadyH.nil
  case hi8 => (simp only [List.getElem?_toArray, List.getElem?_cons_succ, List.getElem?_cons_zero]; rfl)
  intro K hK
  go_simp
  refine (hct).mono ?_
  rintro e W5 ⟨u5, rfl, hu5, hb5, _⟩
  refine hK.out _ _ (ptS_step hHeld hb5) (fun hHeld => ?_)
  clear hK K
  try simp only [Act.put, List.setIfInBounds_toArray, List.set_cons_zero, List.set_cons_succ]
  have hb6 : Below w1.heap.size w1 W5 := (hb4.trans (hgr.mono hb4.size)).trans (hb5.mono (by have := hb4.size; have := hgr.size; omega))
  have hZ5 := heap_below HZ.out hb6 hlt1
  have HB5 : Aside (Below w.heap.size w W5) := hB1.out.trans (hb6.mono hB1.out.size)
  have z5 : ∀ i, W5.cell? ⟨w.heap.size + 2, i, none⟩ = #[nilB, nilB][i]? := fun i => Joins.cell_of_block hZ5 i
  have f5 : ∀ i, W5.frozen? ⟨w.heap.size + 2, i, none⟩ = false := fun i => Joins.unfrozen_of_block hZ5 i
  have HZ5 : Aside _ := hZ5
  have HS5 : Aside (ByteSl W5 (.slice a1 n1 c1) s) := HH.out.safe.later HB5.out
  have HU5 : Aside (ByteSl W5 u5 (t ++ (tx ++ [10]))) := hu5
  obtain ⟨a5, c5, rfl, _⟩ := id hu5
  obtain ⟨m5, hm5⟩ : ∃ m5 : Nat, (t ++ (tx ++ [10]) : List UInt8).length = m5 := ⟨_, rfl⟩
  rw [hm5] at HU5 ⊢
  clear hm5
  clear hcv hby hb3 hct hgr hb4 hb5 hb6 hZ5 hu5 hB1 HZ HH
  refine wpAnyH_take (i := 9) (oi := ?oi9) (v := ?v9) ?hi9 ?hs9 ?hf9 ?hr9 ?hQ9 (Or.inl ⟨?hw9, ?hy9⟩) (by assumption) ?h9
  case hi9 => (simp only [List.getElem?_toArray, List.getElem?_cons_succ, List.getElem?_cons_zero]; rfl)
  case hs9 => kernel_rfl
  case hf9 => kernel_rfl
  case hr9 => kernel_rfl
  case hw9 => rfl
  case hy9 => (intro w0 hSw; (try dsimp only at hSw); go_simp; first | done | with_reducible rfl)
  case hQ9 => exact fun _ _ _ h => h
  try simp only [Act.put, List.setIfInBounds_toArray, List.set_cons_zero, List.set_cons_succ]
  refine wpAnyH_ready (rs := [10]) (by kernel_rfl) (by simp) ?_
  refine AllReadyH.cons (o := ?o10) ?hi10 ?step10 AllReadyH.nil
  case hi10 => (simp only [List.getElem?_toArray, List.getElem?_cons_succ, List.getElem?_cons_zero]; rfl)
  intro K hK
  go_simp
  refine hK.out _ _ (ptS_two (by omega) hHeld _ _) (fun hHeld => ?_)
  clear hK K
  try simp only [Act.put, List.setIfInBounds_toArray, List.set_cons_zero, List.set_cons_succ]
  refine wpAnyH_take (i := 11) (oi := ?oi11) (v := ?v11) ?hi11 ?hs11 ?hf11 ?hr11 ?hQ11 (Or.inl ⟨?hw11, ?hy11⟩) (by assumption) ?h11
  case hi11 => (simp only [List.getElem?_toArray, List.getElem?_cons_succ, List.getElem?_cons_zero]; rfl)
  case hs11 => kernel_rfl
  case hf11 => kernel_rfl
  case hr11 => kernel_rfl
  case hw11 => rfl
  case hy11 => (intro w0 hSw; (try dsimp only at hSw); go_simp; first | done | with_reducible rfl)
  case hQ11 => exact fun _ _ _ h => h
  try simp only [Act.put, List.setIfInBounds_toArray, List.set_cons_zero, List.set_cons_succ]
  refine wpAnyH_done (by kernel_rfl) ?_ _
  go_wp2
  exact ret_disk (v1 := .slice a1 n1 c1) (v2 := .slice a5 m5 c5) Tryz.results13 rfl rfl rfl (disk_stored HZ5.out _ _) ⟨_, _, rfl, ⟨bytes_two HZ5.out bt_num HS5.out, bytes_two HZ5.out bt_num HU5.out⟩, below_two HB5.out (by omega) _ _⟩

/-- The reference's PutOn, at a disk that is not too great. -/
theorem ref_putOn (v1 v2 : Value) (s t : List UInt8) (c : Rc) (w : World) (hL : Laid w) (h : DiskAt w v1 v2 (s, t)) (hlen : s.length + t.length ≤ 30000) : AnsD 13 #[.agg #[v1, v2], c.val] w (putOn s t c) := by
  have h' := h
  obtain ⟨a1, c1, rfl, _⟩ := h.safe
  obtain ⟨a2, c2, rfl, _⟩ := h.wait
  unfold putOn
  by_cases hc : c.chk = 0
  · rw [if_neg (by simpa using hc)]
    by_cases hl : 30000 < s.length + t.length + c.txt.length + 1
    · rw [if_pos hl]
      exact put_long a1 a2 _ _ c1 c2 s t c w hL h' rfl rfl hc hlen hl
    · rw [if_neg hl]
      exact put_ok a1 a2 _ _ c1 c2 s t c w hL h' rfl rfl hc (by show s.length + t.length + c.txt.length + 1 ≤ 30000; omega)
  · rw [if_pos hc]
    exact put_bad a1 a2 _ _ c1 c2 s t c w hL h' rfl rfl hc

set_option maxHeartbeats 4000000 in
set_option maxRecDepth 100000 in
theorem ref_synced_at (a1 a2 : Option Addr) (n1 n2 c1 c2 : Nat) (s t : List UInt8) (w : World) (hL : Laid w) (h : DiskAt w (.slice a1 n1 c1) (.slice a2 n2 c2) (s, t)) (hs : s.length = n1) (ht : t.length = n2) (hlen : n1 + n2 ≤ 30000) :
    AnsD 14 #[.agg #[.slice a1 n1 c1, .slice a2 n2 c2]] w (synced s t) := by
  have hB := grew (grew (Below.refl w.heap.size w) (boxD (.slice a1 n1 c1) (.slice a2 n2 c2))) (boxD nilB nilB)
  have hbD : ((w.alloc (boxD (.slice a1 n1 c1) (.slice a2 n2 c2))).alloc (boxD nilB nilB)).heap[w.heap.size]? = some (boxD (.slice a1 n1 c1) (.slice a2 n2 c2)) := heap_old (heap_new _ _) _
  have hbZ : ((w.alloc (boxD (.slice a1 n1 c1) (.slice a2 n2 c2))).alloc (boxD nilB nilB)).heap[w.heap.size + 1]? = some (boxD nilB nilB) := by
    have := heap_new (w.alloc (boxD (.slice a1 n1 c1) (.slice a2 n2 c2))) (boxD nilB nilB)
    rwa [World.size_alloc] at this
  have hgr := grew hB (.cells #[.slice a1 n1 c1, .slice a2 n2 c2] 22)
  have hct := concatY _ (.slice a1 n1 c1) (.slice a2 n2 c2) s t _ (heap_new ((w.alloc (boxD (.slice a1 n1 c1) (.slice a2 n2 c2))).alloc (boxD nilB nilB)) _) (h.safe.later hgr) (h.wait.later hgr) (by omega)
  have HB : Aside _ := hgr
  have HL : Aside (Laid w) := hL
  have hbD' := heap_old hbD (.cells #[.slice a1 n1 c1, .slice a2 n2 c2] 22)
  have hbZ' := heap_old hbZ (.cells #[.slice a1 n1 c1, .slice a2 n2 c2] 22)
  simp only [World.size_alloc] at hct
  have HLn : Hid ((s ++ t).length ≤ 30000) := by rw [Hid, List.length_append]; omega
  clear hB hbD hbZ hgr h hs ht hlen hL
  obtain ⟨rr, HRR⟩ : ∃ rr : Dk × Int, Hid (synced s t = rr) := ⟨_, rfl⟩
  rw [HRR.out]
  go_enter Tryz.func14, Tryz.ntmps14
  go_wp2_with fail
  refine hct.mono ?_
  rintro e w1 ⟨u, rfl, hu, hb1, _⟩
  have hB1 : Aside (Below w.heap.size w w1) := HB.out.trans (hb1.mono (by have := HB.out.size; simp only [World.size_alloc] at this ⊢; omega))
  have hD1 := heap_below hbD' hb1 (by omega)
  have hZ1 := heap_below hbZ' hb1 (by omega)
  have HU : Aside (ByteSl w1 u (s ++ t)) := hu
  obtain ⟨au, cu, rfl, _⟩ := id hu
  obtain ⟨m, hm⟩ : ∃ m, Hid ((s ++ t).length = m) := ⟨_, rfl⟩
  rw [hm.out] at HU HLn ⊢
  clear hct hb1 hbD' hbZ' HB hu
  have x0 : (w1.setCell ⟨w.heap.size, 0, none⟩ (.slice au m cu)).heap[w.heap.size]? = some (boxD (.slice au m cu) (.slice a2 n2 c2)) := by rw [Joins.block_setCell hD1]; rfl
  have hW2 := disk_stored hD1 (.slice au m cu) nilB
  have hB2 := below_two hB1.out (Nat.le_refl _) (.slice au m cu) nilB (b := w.heap.size)
  have hU2 : ByteSl ((w1.setCell ⟨w.heap.size, 0, none⟩ (.slice au m cu)).setCell ⟨w.heap.size, 1, none⟩ nilB) (.slice au m cu) (s ++ t) := bytes_two hD1 bt_num HU.out
  have hZ2 : ((w1.setCell ⟨w.heap.size, 0, none⟩ (.slice au m cu)).setCell ⟨w.heap.size, 1, none⟩ nilB).heap[w.heap.size + 1]? = some (boxD nilB nilB) := by
    rw [Below.heap_setCell _ _ _ _ (by show w.heap.size + 1 ≠ w.heap.size; omega), Below.heap_setCell _ _ _ _ (by show w.heap.size + 1 ≠ w.heap.size; omega)]; exact hZ1
  have hck := ref_ckDisk (.slice au m cu) nilB (s ++ t) [] _ (HL.out.later hB2) ⟨hU2, SlOf.nil _ _⟩ (by rw [hm.out]; have := HLn.out; omega)
  have d1 : ∀ i, w1.cell? ⟨w.heap.size, i, none⟩ = #[Value.slice a1 n1 c1, .slice a2 n2 c2][i]? := fun i => Joins.cell_of_block hD1 i
  have f1 : ∀ i, w1.frozen? ⟨w.heap.size, i, none⟩ = false := fun i => Joins.unfrozen_of_block hD1 i
  have HX : Aside _ := And.intro hW2 (And.intro hB2 (And.intro hU2 hZ2))
  clear hW2 hB2 hU2 hZ2 hD1 hZ1 x0 HU hB1
  obtain ⟨k, hk⟩ : ∃ k, Hid (ckDisk (s ++ t) [] = k) := ⟨_, rfl⟩
  rw [hk.out] at hck
  go_wp2_with fail
  refine hck.mono ?_
  rintro e w2 ⟨rfl, hb2⟩
  obtain ⟨gW, gB, gU, gZ⟩ := HX.out
  have hD2 := heap_below gW hb2 (heap_lt gW)
  have hZ2 := heap_below gZ hb2 (heap_lt gZ)
  have HU2 : Aside (ByteSl w2 (.slice au m cu) (s ++ t)) := gU.later hb2
  have HB2 : Aside (Below w.heap.size w w2) := gB.trans (hb2.mono gB.size)
  have d2 : ∀ i, w2.cell? ⟨w.heap.size, i, none⟩ = #[Value.slice au m cu, nilB][i]? := fun i => Joins.cell_of_block hD2 i
  have z2 : ∀ i, w2.cell? ⟨w.heap.size + 1, i, none⟩ = #[nilB, nilB][i]? := fun i => Joins.cell_of_block hZ2 i
  have f2 : ∀ i, w2.frozen? ⟨w.heap.size + 1, i, none⟩ = false := fun i => Joins.unfrozen_of_block hZ2 i
  have HZ2 : Aside (w2.heap[w.heap.size + 1]? = some (boxD nilB nilB)) := hZ2
  clear hck hb2 gW gB gU gZ hD2 hZ2 HX d1 f1
  by_cases hz : k = 0
  · subst hz
    have HF : Hid (rr = ((s ++ t, []), 0)) := by rw [Hid, ← HRR.out, synced, if_neg (by rw [hk.out]; simp)]
    go_wp2
    rw [HF.out]
    exact ret_disk (v1 := .slice au m cu) (v2 := nilB) Tryz.results14 rfl rfl rfl (disk_stored HZ2.out _ _) ⟨_, _, rfl, ⟨bytes_two HZ2.out bt_num HU2.out, SlOf.nil _ _⟩, below_two HB2.out (by omega) _ _⟩
  · have HF : Hid (rr = (([], []), k)) := by rw [Hid, ← HRR.out, synced, if_pos (by rw [hk.out]; exact hz), hk.out]
    have hzb : (k != 0) = true := by rw [bne_iff_ne]; exact hz
    clear hz
    go_wp2
    rw [HF.out]
    exact ret_disk (v1 := nilB) (v2 := nilB) Tryz.results14 rfl rfl rfl (disk_stored HZ2.out _ _) ⟨_, _, rfl, disk_nil _, below_two HB2.out (by omega) _ _⟩

theorem ref_synced (v1 v2 : Value) (s t : List UInt8) (w : World) (hL : Laid w) (h : DiskAt w v1 v2 (s, t)) (hlen : s.length + t.length ≤ 30000) : AnsD 14 #[.agg #[v1, v2]] w (synced s t) := by
  have h' := h
  obtain ⟨a1, c1, rfl, _⟩ := h.safe
  obtain ⟨a2, c2, rfl, _⟩ := h.wait
  exact ref_synced_at a1 a2 _ _ c1 c2 s t w hL h' rfl rfl hlen

end Go.Proofs.YtknjdbpdlodpbacGreatDoor
namespace Go.Proofs.YtknjdbpdlodpbacGreatDoor
open Go.RowKit

theorem ret_disk2 {fn : Func} {R : Ending → World → Prop} {a : Act} {W : World} {b p q : Nat} {v1 v2 y : Value} (hf : fn.results = #[.cell p 24, .tmp q]) (hd : a.defers = [])
    (h2 : a.tmps.getD p undef = .pointer (some ⟨b, 0, none⟩)) (h3 : a.tmps.getD q undef = y) (hR : W.heap[b]? = some (boxD v1 v2)) (hp : R (.returned (.tuple #[.agg #[v1, v2], y])) W) :
    bodyPost Tryz.prog fn R .ret a W := ret_disk hf hd h2 h3 hR hp

set_option linter.unusedSimpArgs false in
set_option maxHeartbeats 8000000 in
set_option maxRecDepth 100000 in
theorem ref_recovered_at (a1 a2 : Option Addr) (n1 n2 c1 c2 : Nat) (s t : List UInt8) (w : World) (hL : Laid w) (h : DiskAt w (.slice a1 n1 c1) (.slice a2 n2 c2) (s, t)) (hs : s.length = n1) (ht : t.length = n2) (hlen : n1 + n2 ≤ 30000) (hroom : n2 ≤ c2) :
    Calls Tryz.prog 15 #[.agg #[.slice a1 n1 c1, .slice a2 n2 c2]] w fun e w' => ∃ u1 u2 u3, e = .returned (.tuple #[.agg #[u1, u2], u3]) ∧ DiskAt w' u1 u2 (recovered s t).1 ∧ RecSl w' u3 (recovered s t).2 ∧ Below w.heap.size w w' := by
  have hB := grew (grew (Below.refl w.heap.size w) (boxD (.slice a1 n1 c1) (.slice a2 n2 c2))) (boxD nilB nilB)
  have hbD : ((w.alloc (boxD (.slice a1 n1 c1) (.slice a2 n2 c2))).alloc (boxD nilB nilB)).heap[w.heap.size]? = some (boxD (.slice a1 n1 c1) (.slice a2 n2 c2)) := heap_old (heap_new _ _) _
  have hbZ : ((w.alloc (boxD (.slice a1 n1 c1) (.slice a2 n2 c2))).alloc (boxD nilB nilB)).heap[w.heap.size + 1]? = some (boxD nilB nilB) := by
    have := heap_new (w.alloc (boxD (.slice a1 n1 c1) (.slice a2 n2 c2))) (boxD nilB nilB)
    rwa [World.size_alloc] at this
  have hcv := str_of (h.safe.later hB)
  have hcv2 := fun W hb => str_of (h.wait.later (w' := W) hb)
  have hl1 := ref_lines s 160 (Nat.le_refl _) _ (hL.later hB) (by omega)
  have hl2 := fun W hb => ref_lines t (160 - (linesOf s 160).1.length) (by omega) W (hL.later hb) (by omega)
  have g1 := (lines_len s 160).1
  have g2 := lines_len t (160 - (linesOf s 160).1.length)
  have HR : Hid (recovered s t = ((s ++ t.take (linesOf t (160 - (linesOf s 160).1.length)).2.1, []), (linesOf s 160).1 ++ (linesOf t (160 - (linesOf s 160).1.length)).1)) := rfl
  obtain ⟨rr, HRR⟩ : ∃ rr, Hid (recovered s t = rr) := ⟨_, rfl⟩
  rw [HRR.out] at HR ⊢
  generalize (linesOf s 160).2.2 = x1 at *
  generalize (linesOf s 160).2.1 = x2 at *
  obtain ⟨ls, hls⟩ : ∃ ls, (linesOf s 160).1 = ls := ⟨_, rfl⟩
  rw [hls] at hl1 hl2 g1 g2 HR
  obtain ⟨ml, hml⟩ : ∃ ml, ls.length = ml := ⟨_, rfl⟩
  rw [hml] at hl2 g1 g2 HR
  generalize (linesOf t (160 - ml)).2.2 = x3 at *
  obtain ⟨k, hk⟩ : ∃ k, (linesOf t (160 - ml)).2.1 = k := ⟨_, rfl⟩
  obtain ⟨ms, hms⟩ : ∃ ms, (linesOf t (160 - ml)).1 = ms := ⟨_, rfl⟩
  rw [hk, hms] at hl2 g2 HR
  have HB : Aside _ := hB
  have HH : Aside (DiskAt w (.slice a1 n1 c1) (.slice a2 n2 c2) (s, t)) := h
  have HG : Hid (k ≤ n2 ∧ s.length = n1 ∧ t.length = n2 ∧ n1 + n2 ≤ 30000 ∧ ls.length = ml ∧ ms.length ≤ 160) := ⟨by omega, hs, ht, hlen, hml, by omega⟩
  have hml160 : Hid (ml ≤ 160) := g1
  have hk0 : (0 : Int) ≤ (k : Int) := by omega
  have hkc : (k : Int) ≤ (c2 : Int) := by omega
  have hsub : (160 : Int) - (ml : Int) = ((160 - ml : Nat) : Int) := by omega
  have hsubw : IntKind.i64.wrap ((160 : Int) - (ml : Int)) = ((160 - ml : Nat) : Int) := by rw [IntKind.wrap_i64]; omega
  dsimp only at hcv hcv2
  clear hB h hs ht hlen hL hk hms hls hml g1 g2 hroom
  go_enter Tryz.func15, Tryz.ntmps15
  go_wp2_with fail
  refine hl1.mono ?_
  rintro e w1 ⟨ul, rfl, hul, hb1⟩
  have hB1 : Aside (Below w.heap.size w w1) := HB.out.trans (hb1.mono HB.out.size)
  have hD1 := heap_below hbD hb1 (heap_lt hbD)
  have hZ1 := heap_below hbZ hb1 (heap_lt hbZ)
  have hcw := hcv2 w1 hB1.out
  have hl2' := hl2 w1 hB1.out
  have HUl : Aside (RecSl w1 ul ls) := hul
  obtain ⟨al, cl, rfl, _⟩ := id hul
  rw [HG.out.2.2.2.2.1] at HUl ⊢
  have d1 : ∀ i, w1.cell? ⟨w.heap.size, i, none⟩ = #[Value.slice a1 n1 c1, .slice a2 n2 c2][i]? := fun i => Joins.cell_of_block hD1 i
  clear hl1 hb1 hbD hbZ HB hcv hcv2 hl2 hul
  go_wp2_with fail
  refine hl2'.mono ?_
  rintro e w2 ⟨um, rfl, hum, hb2⟩
  have hB2 : Aside (Below w.heap.size w w2) := hB1.out.trans (hb2.mono hB1.out.size)
  have hD2 := heap_below hD1 hb2 (heap_lt hD1)
  have hZ2 := heap_below hZ1 hb2 (heap_lt hZ1)
  have HUl2 : Aside (RecSl w2 (.slice al ml cl) ls) := HUl.out.later hb2
  have HUm : Aside (RecSl w2 um ms) := hum
  obtain ⟨am, cm, rfl, _⟩ := id hum
  obtain ⟨mm, hmm⟩ : ∃ mm, ms.length = mm := ⟨_, rfl⟩
  rw [hmm] at HUm ⊢
  have HMM : Hid (ms.length = mm) := hmm
  have d2 : ∀ i, w2.cell? ⟨w.heap.size, i, none⟩ = #[Value.slice a1 n1 c1, .slice a2 n2 c2][i]? := fun i => Joins.cell_of_block hD2 i
  have HZ2 : Aside (w2.heap[w.heap.size + 1]? = some (boxD nilB nilB)) := hZ2
  have hlt2 := heap_lt hZ2
  clear hl2' hb2 hcw hum hmm HUl hB1 hD1 hZ1 hD2 hZ2 d1 hsub hsubw
  go_wp2_with fail
  refine wp_region_held_drew (S := fun w' => PtS w' w.heap.size (.slice a1 n1 c1) (.slice a2 n2 c2)) (by kernel_rfl) (⟨d2 0, d2 1⟩) (fun hHeld => ?_)
  refine wpAnyH_take (i := 0) (oi := ?oi0) (v := ?v0) ?hi0 ?hs0 ?hf0 ?hr0 ?hQ0 (Or.inl ⟨?hw0, ?hy0⟩) (by assumption) ?h0
  case hi0 => (simp only [List.getElem?_toArray, List.getElem?_cons_succ, List.getElem?_cons_zero]; rfl)
  case hs0 => kernel_rfl
  case hf0 => kernel_rfl
  case hr0 => kernel_rfl
  case hw0 => rfl
  case hy0 => (intro w0 hSw; (try dsimp only at hSw); go_simp; first | done | with_reducible rfl)
  case hQ0 => exact fun _ _ _ h => h
  try simp only [Act.put, List.setIfInBounds_toArray, List.set_cons_zero, List.set_cons_succ]
  refine wpAnyH_take (i := 1) (oi := ?oi1) (v := ?v1) ?hi1 ?hs1 ?hf1 ?hr1 ?hQ1 (Or.inl ⟨?hw1, ?hy1⟩) (by assumption) ?h1
  case hi1 => (simp only [List.getElem?_toArray, List.getElem?_cons_succ, List.getElem?_cons_zero]; rfl)
  case hs1 => kernel_rfl
  case hf1 => kernel_rfl
  case hr1 => kernel_rfl
  case hw1 => rfl
  case hy1 => (intro w0 hSw; (try dsimp only at hSw); go_simp; first | done | with_reducible rfl)
  case hQ1 => exact fun _ _ _ h => h
  try simp only [Act.put, List.setIfInBounds_toArray, List.set_cons_zero, List.set_cons_succ]
  refine wpAnyH_take (i := 2) (oi := ?oi2) (v := ?v2) ?hi2 ?hs2 ?hf2 ?hr2 ?hQ2 (Or.inl ⟨?hw2, ?hy2⟩) (by assumption) ?h2
  case hi2 => (simp only [List.getElem?_toArray, List.getElem?_cons_succ, List.getElem?_cons_zero]; rfl)
  case hs2 => kernel_rfl
  case hf2 => kernel_rfl
  case hr2 => kernel_rfl
  case hw2 => rfl
  case hy2 => (intro w0 hSw; (try dsimp only at hSw); go_simp; first | done | with_reducible rfl)
  case hQ2 => exact fun _ _ _ h => h
  try simp only [Act.put, List.setIfInBounds_toArray, List.set_cons_zero, List.set_cons_succ]
  refine wpAnyH_take (i := 3) (oi := ?oi3) (v := ?v3) ?hi3 ?hs3 ?hf3 ?hr3 ?hQ3 (Or.inl ⟨?hw3, ?hy3⟩) (by assumption) ?h3
  case hi3 => (simp only [List.getElem?_toArray, List.getElem?_cons_succ, List.getElem?_cons_zero]; rfl)
  case hs3 => kernel_rfl
  case hf3 => kernel_rfl
  case hr3 => kernel_rfl
  case hw3 => rfl
  case hy3 => (intro w0 hSw; (try dsimp only at hSw); go_simp; first | done | with_reducible rfl)
  case hQ3 => exact fun _ _ _ h => h
  try simp only [Act.put, List.setIfInBounds_toArray, List.set_cons_zero, List.set_cons_succ]
  refine wpAnyH_take (i := 4) (oi := ?oi4) (v := ?v4) ?hi4 ?hs4 ?hf4 ?hr4 ?hQ4 (Or.inl ⟨?hw4, ?hy4⟩) (by assumption) ?h4
  case hi4 => (simp only [List.getElem?_toArray, List.getElem?_cons_succ, List.getElem?_cons_zero]; rfl)
  case hs4 => kernel_rfl
  case hf4 => kernel_rfl
  case hr4 => kernel_rfl
  case hw4 => rfl
  case hy4 => (intro w0 hSw; (try dsimp only at hSw); go_simp; first | done | with_reducible rfl)
  case hQ4 => exact fun _ _ _ h => h
  try simp only [Act.put, List.setIfInBounds_toArray, List.set_cons_zero, List.set_cons_succ]
  refine wpAnyH_take (i := 5) (oi := ?oi5) (v := ?v5) ?hi5 ?hs5 ?hf5 ?hr5 ?hQ5 (Or.inl ⟨?hw5, ?hy5⟩) (by assumption) ?h5
  case hi5 => (simp only [List.getElem?_toArray, List.getElem?_cons_succ, List.getElem?_cons_zero]; rfl)
  case hs5 => kernel_rfl
  case hf5 => kernel_rfl
  case hr5 => kernel_rfl
  case hw5 => rfl
  case hy5 => (intro w0 hSw; (try dsimp only at hSw); go_simp; first | done | with_reducible rfl)
  case hQ5 => exact fun _ _ _ h => h
  try simp only [Act.put, List.setIfInBounds_toArray, List.set_cons_zero, List.set_cons_succ]
  refine wpAnyH_take (i := 9) (oi := ?oi9) (v := ?v9) ?hi9 ?hs9 ?hf9 ?hr9 ?hQ9 (Or.inl ⟨?hw9, ?hy9⟩) (by assumption) ?h9
  case hi9 => (simp only [List.getElem?_toArray, List.getElem?_cons_succ, List.getElem?_cons_zero]; rfl)
  case hs9 => kernel_rfl
  case hf9 => kernel_rfl
  case hr9 => kernel_rfl
  case hw9 => rfl
  case hy9 => (intro w0 hSw; (try dsimp only at hSw); go_simp; first | done | with_reducible rfl)
  case hQ9 => exact fun _ _ _ h => h
  try simp only [Act.put, List.setIfInBounds_toArray, List.set_cons_zero, List.set_cons_succ]
  refine wpAnyH_take (i := 10) (oi := ?oi10) (v := ?v10) ?hi10 ?hs10 ?hf10 ?hr10 ?hQ10 (Or.inl ⟨?hw10, ?hy10⟩) (by assumption) ?h10
  case hi10 => (simp only [List.getElem?_toArray, List.getElem?_cons_succ, List.getElem?_cons_zero]; rfl)
  case hs10 => kernel_rfl
  case hf10 => kernel_rfl
  case hr10 => kernel_rfl
  case hw10 => rfl
  case hy10 => (intro w0 hSw; (try dsimp only at hSw); go_simp; first | done | with_reducible rfl)
  case hQ10 => exact fun _ _ _ h => h
  try simp only [Act.put, List.setIfInBounds_toArray, List.set_cons_zero, List.set_cons_succ]
  have hwt := fun W hb => ((HH.out.wait.later (w' := W) hb).upto k HG.out.1)
  have hdr : Below w.heap.size w w2.drew := hB2.out.drew
  have hZd : w2.drew.heap[w.heap.size + 1]? = some (boxD nilB nilB) := HZ2.out
  have hld : RecSl w2.drew (.slice al ml cl) ls := HUl2.out.later (Below.refl _ w2).drew
  have hmd : RecSl w2.drew (.slice am mm cm) ms := HUm.out.later (Below.refl _ w2).drew
  have hltd : w.heap.size + 1 < w2.drew.heap.size := hlt2
  clear HUl2 HUm HZ2 hB2 d2 hlt2
  generalize w2.drew = X0 at *
  refine wpAnyH_ready (rs := [6, 11]) (by kernel_rfl) (by simp) ?_
  refine AllReadyH.cons (o := ?o6p) ?hi6p ?step6p (AllReadyH.cons (o := ?o11p) ?hi11p ?step11p AllReadyH.nil)
  case hi6p => (simp only [List.getElem?_toArray, List.getElem?_cons_succ, List.getElem?_cons_zero]; rfl)
  case hi11p => (simp only [List.getElem?_toArray, List.getElem?_cons_succ, List.getElem?_cons_zero]; rfl)
  case step6p =>
    have q1 := grew (Below.refl X0.heap.size X0) (.cells #[.slice a1 n1 c1, .slice a2 k c2] 22)
    have q1w := hdr.trans (q1.mono hdr.size)
    intro K hK
    go_simp
    refine hK.out _ _ (ptS_step hHeld q1) (fun hHeld => ?_)
    clear hK K
    try simp only [Act.put, List.setIfInBounds_toArray, List.set_cons_zero, List.set_cons_succ]
    have hct := concatY X0.heap.size (.slice a1 n1 c1) (.slice a2 k c2) s (t.take k) _ (heap_new X0 _) (HH.out.safe.later q1w) (hwt _ q1w) (by have := HG.out.1; have := HG.out.2.1; have := HG.out.2.2.1; have := HG.out.2.2.2.1; rw [List.length_take]; omega)
    refine wpAnyH_ready (rs := [7, 11]) (by kernel_rfl) (by simp) ?_
    refine AllReadyH.cons (o := ?o7q) ?hi7q ?step7q (AllReadyH.cons (o := ?o11q) ?hi11q ?step11q AllReadyH.nil)
    case hi7q => (simp only [List.getElem?_toArray, List.getElem?_cons_succ, List.getElem?_cons_zero]; rfl)
    case hi11q => (simp only [List.getElem?_toArray, List.getElem?_cons_succ, List.getElem?_cons_zero]; rfl)
    case step7q =>
      intro K hK
      go_simp
      refine (hct).mono ?_
      rintro e X2 ⟨u7, rfl, hu7, hb7, _⟩
      refine hK.out _ _ (ptS_step hHeld hb7) (fun hHeld => ?_)
      clear hK K
      try simp only [Act.put, List.setIfInBounds_toArray, List.set_cons_zero, List.set_cons_succ]
      obtain ⟨a7, c7, rfl, _⟩ := id hu7
      obtain ⟨m7, hm7⟩ : ∃ m7 : Nat, (s ++ t.take k).length = m7 := ⟨_, rfl⟩
      rw [hm7] at hu7 ⊢
      clear hm7
      refine wpAnyH_take (i := 8) (oi := ?oi8a) (v := ?v8a) ?hi8a ?hs8a ?hf8a ?hr8a ?hQ8a (Or.inl ⟨?hw8a, ?hy8a⟩) (by assumption) ?h8a
      case hi8a => (simp only [List.getElem?_toArray, List.getElem?_cons_succ, List.getElem?_cons_zero]; rfl)
      case hs8a => kernel_rfl
      case hf8a => kernel_rfl
      case hr8a => kernel_rfl
      case hw8a => rfl
      case hy8a => (intro w0 hSw; (try dsimp only at hSw); go_simp; first | done | with_reducible rfl)
      case hQ8a => exact fun _ _ _ h => h
      try simp only [Act.put, List.setIfInBounds_toArray, List.set_cons_zero, List.set_cons_succ]
      have q2 : Below X0.heap.size X0 X2 := q1.trans (hb7.mono q1.size)
      have q3 := grew (Below.refl X2.heap.size X2) (.cells #[.slice al ml cl, .slice am mm cm] 34)
      have q4 : Below X0.heap.size X0 (X2.alloc (.cells #[.slice al ml cl, .slice am mm cm] 34)) := q2.trans (q3.mono q2.size)
      refine wpAnyH_ready (rs := [11]) (by kernel_rfl) (by simp) ?_
      refine AllReadyH.cons (o := ?o11a) ?hi11a ?step11a AllReadyH.nil
      case hi11a => (simp only [List.getElem?_toArray, List.getElem?_cons_succ, List.getElem?_cons_zero]; rfl)
      intro K hK
      go_simp
      refine hK.out _ _ (ptS_step hHeld q3) (fun hHeld => ?_)
      clear hK K
      try simp only [Act.put, List.setIfInBounds_toArray, List.set_cons_zero, List.set_cons_succ]
      have hcr := concatC X2.heap.size (.slice al ml cl) (.slice am mm cm) ls ms _ (heap_new X2 _) (hld.later q4) (hmd.later q4) (by have := HG.out.2.2.2.2.1; have := HG.out.2.2.2.2.2; have := HMM.out; have := hml160.out; omega)
      refine wpAnyH_ready (rs := [12]) (by kernel_rfl) (by simp) ?_
      refine AllReadyH.cons (o := ?o12a) ?hi12a ?step12a AllReadyH.nil
      case hi12a => (simp only [List.getElem?_toArray, List.getElem?_cons_succ, List.getElem?_cons_zero]; rfl)
      intro K hK
      go_simp
      refine (hcr).mono ?_
      rintro e W9 ⟨u12, rfl, hu12, hb12, _⟩
      refine hK.out _ _ (ptS_step hHeld hb12) (fun hHeld => ?_)
      clear hK K
      try simp only [Act.put, List.setIfInBounds_toArray, List.set_cons_zero, List.set_cons_succ]
      have q5 : Below X0.heap.size X0 W9 := q4.trans (hb12.mono q4.size)
      have hB9 : Below w.heap.size w W9 := hdr.trans (q5.mono hdr.size)
      have hZ9 := heap_below hZd q5 hltd
      replace hu7 : ByteSl W9 (.slice a7 m7 c7) (s ++ t.take k) := (hu7.later q3).later hb12
      clear hct hcr q1 q1w q2 q3 q4 q5 hb7 hb12 hld hmd hZd hdr hwt HH
      have HZ9 : Aside _ := hZ9
      have HB9 : Aside _ := hB9
      have HU9 : Aside (ByteSl W9 (.slice a7 m7 c7) (s ++ t.take k)) := hu7
      have HR9 : Aside (RecSl W9 u12 (ls ++ ms)) := hu12
      have z9 : ∀ i, W9.cell? ⟨w.heap.size + 1, i, none⟩ = #[nilB, nilB][i]? := fun i => Joins.cell_of_block hZ9 i
      have f9 : ∀ i, W9.frozen? ⟨w.heap.size + 1, i, none⟩ = false := fun i => Joins.unfrozen_of_block hZ9 i
      obtain ⟨a12, c12, rfl, _⟩ := id hu12
      obtain ⟨m12, hm12⟩ : ∃ m12 : Nat, (ls ++ ms).length = m12 := ⟨_, rfl⟩
      rw [hm12] at HR9 ⊢
      clear hm12 hu7 hu12 hZ9 hB9
      refine wpAnyH_ready (rs := [13]) (by kernel_rfl) (by simp) ?_
      refine AllReadyH.cons (o := ?o13a) ?hi13a ?step13a AllReadyH.nil
      case hi13a => (simp only [List.getElem?_toArray, List.getElem?_cons_succ, List.getElem?_cons_zero]; rfl)
      intro K hK
      go_simp
      refine hK.out _ _ (ptS_two (by omega) hHeld _ _) (fun hHeld => ?_)
      clear hK K
      try simp only [Act.put, List.setIfInBounds_toArray, List.set_cons_zero, List.set_cons_succ]
      refine wpAnyH_take (i := 14) (oi := ?oi14a) (v := ?v14a) ?hi14a ?hs14a ?hf14a ?hr14a ?hQ14a (Or.inl ⟨?hw14a, ?hy14a⟩) (by assumption) ?h14a
      case hi14a => (simp only [List.getElem?_toArray, List.getElem?_cons_succ, List.getElem?_cons_zero]; rfl)
      case hs14a => kernel_rfl
      case hf14a => kernel_rfl
      case hr14a => kernel_rfl
      case hw14a => rfl
      case hy14a => (intro w0 hSw; (try dsimp only at hSw); go_simp; first | done | with_reducible rfl)
      case hQ14a => exact fun _ _ _ h => h
      try simp only [Act.put, List.setIfInBounds_toArray, List.set_cons_zero, List.set_cons_succ]
      refine wpAnyH_done (by kernel_rfl) ?_ _
      go_wp2
      exact ret_disk2 (v1 := .slice a7 m7 c7) (v2 := nilB) Tryz.results15 rfl rfl rfl (disk_stored HZ9.out _ _) ⟨_, _, _, rfl, by rw [HR.out]; exact ⟨bytes_two HZ9.out bt_num HU9.out, SlOf.nil _ _⟩, by rw [HR.out]; exact bytes_two HZ9.out rc_num HR9.out, below_two HB9.out (by omega) _ _⟩
    case step11q =>
      have q3 := grew (Below.refl (X0.alloc (.cells #[.slice a1 n1 c1, .slice a2 k c2] 22)).heap.size (X0.alloc (.cells #[.slice a1 n1 c1, .slice a2 k c2] 22))) (.cells #[.slice al ml cl, .slice am mm cm] 34)
      intro K hK
      go_simp
      refine hK.out _ _ (ptS_step hHeld q3) (fun hHeld => ?_)
      clear hK K
      try simp only [Act.put, List.setIfInBounds_toArray, List.set_cons_zero, List.set_cons_succ]
      have q4 : Below X0.heap.size X0 ((X0.alloc (.cells #[.slice a1 n1 c1, .slice a2 k c2] 22)).alloc (.cells #[.slice al ml cl, .slice am mm cm] 34)) := q1.trans (q3.mono q1.size)
      have q4w := hdr.trans (q4.mono hdr.size)
      clear hct
      have hct := concatY X0.heap.size (.slice a1 n1 c1) (.slice a2 k c2) s (t.take k) _ (heap_old (heap_new X0 _) _) (HH.out.safe.later q4w) (hwt _ q4w) (by have := HG.out.1; have := HG.out.2.1; have := HG.out.2.2.1; have := HG.out.2.2.2.1; rw [List.length_take]; omega)
      refine wpAnyH_ready (rs := [7]) (by kernel_rfl) (by simp) ?_
      refine AllReadyH.cons (o := ?o7b) ?hi7b ?step7b AllReadyH.nil
      case hi7b => (simp only [List.getElem?_toArray, List.getElem?_cons_succ, List.getElem?_cons_zero]; rfl)
      intro K hK
      go_simp
      refine (hct).mono ?_
      rintro e X2 ⟨u7, rfl, hu7, hb7, _⟩
      refine hK.out _ _ (ptS_step hHeld hb7) (fun hHeld => ?_)
      clear hK K
      try simp only [Act.put, List.setIfInBounds_toArray, List.set_cons_zero, List.set_cons_succ]
      obtain ⟨a7, c7, rfl, _⟩ := id hu7
      obtain ⟨m7, hm7⟩ : ∃ m7 : Nat, (s ++ t.take k).length = m7 := ⟨_, rfl⟩
      rw [hm7] at hu7 ⊢
      clear hm7
      refine wpAnyH_take (i := 8) (oi := ?oi8b) (v := ?v8b) ?hi8b ?hs8b ?hf8b ?hr8b ?hQ8b (Or.inl ⟨?hw8b, ?hy8b⟩) (by assumption) ?h8b
      case hi8b => (simp only [List.getElem?_toArray, List.getElem?_cons_succ, List.getElem?_cons_zero]; rfl)
      case hs8b => kernel_rfl
      case hf8b => kernel_rfl
      case hr8b => kernel_rfl
      case hw8b => rfl
      case hy8b => (intro w0 hSw; (try dsimp only at hSw); go_simp; first | done | with_reducible rfl)
      case hQ8b => exact fun _ _ _ h => h
      try simp only [Act.put, List.setIfInBounds_toArray, List.set_cons_zero, List.set_cons_succ]
      have q2 : Below X0.heap.size X0 X2 := q4.trans (hb7.mono q4.size)
      have hXR : X2.heap[X0.heap.size + 1]? = some (.cells #[.slice al ml cl, .slice am mm cm] 34) := by
        have := heap_new (X0.alloc (.cells #[.slice a1 n1 c1, .slice a2 k c2] 22)) (.cells #[.slice al ml cl, .slice am mm cm] 34)
        rw [World.size_alloc] at this
        exact heap_below this hb7 (heap_lt this)
      have hcr := concatC (X0.heap.size + 1) (.slice al ml cl) (.slice am mm cm) ls ms _ (hXR) (hld.later q2) (hmd.later q2) (by have := HG.out.2.2.2.2.1; have := HG.out.2.2.2.2.2; have := HMM.out; have := hml160.out; omega)
      refine wpAnyH_ready (rs := [12]) (by kernel_rfl) (by simp) ?_
      refine AllReadyH.cons (o := ?o12b) ?hi12b ?step12b AllReadyH.nil
      case hi12b => (simp only [List.getElem?_toArray, List.getElem?_cons_succ, List.getElem?_cons_zero]; rfl)
      intro K hK
      go_simp
      refine (hcr).mono ?_
      rintro e W9 ⟨u12, rfl, hu12, hb12, _⟩
      refine hK.out _ _ (ptS_step hHeld hb12) (fun hHeld => ?_)
      clear hK K
      try simp only [Act.put, List.setIfInBounds_toArray, List.set_cons_zero, List.set_cons_succ]
      have q5 : Below X0.heap.size X0 W9 := q2.trans (hb12.mono q2.size)
      have hB9 : Below w.heap.size w W9 := hdr.trans (q5.mono hdr.size)
      have hZ9 := heap_below hZd q5 hltd
      replace hu7 : ByteSl W9 (.slice a7 m7 c7) (s ++ t.take k) := hu7.later hb12
      clear hct hcr q1 q1w q2 q3 q4 q4w q5 hb7 hb12 hld hmd hZd hdr hwt HH hXR
      have HZ9 : Aside _ := hZ9
      have HB9 : Aside _ := hB9
      have HU9 : Aside (ByteSl W9 (.slice a7 m7 c7) (s ++ t.take k)) := hu7
      have HR9 : Aside (RecSl W9 u12 (ls ++ ms)) := hu12
      have z9 : ∀ i, W9.cell? ⟨w.heap.size + 1, i, none⟩ = #[nilB, nilB][i]? := fun i => Joins.cell_of_block hZ9 i
      have f9 : ∀ i, W9.frozen? ⟨w.heap.size + 1, i, none⟩ = false := fun i => Joins.unfrozen_of_block hZ9 i
      obtain ⟨a12, c12, rfl, _⟩ := id hu12
      obtain ⟨m12, hm12⟩ : ∃ m12 : Nat, (ls ++ ms).length = m12 := ⟨_, rfl⟩
      rw [hm12] at HR9 ⊢
      clear hm12 hu7 hu12 hZ9 hB9
      refine wpAnyH_ready (rs := [13]) (by kernel_rfl) (by simp) ?_
      refine AllReadyH.cons (o := ?o13b) ?hi13b ?step13b AllReadyH.nil
      case hi13b => (simp only [List.getElem?_toArray, List.getElem?_cons_succ, List.getElem?_cons_zero]; rfl)
      intro K hK
      go_simp
      refine hK.out _ _ (ptS_two (by omega) hHeld _ _) (fun hHeld => ?_)
      clear hK K
      try simp only [Act.put, List.setIfInBounds_toArray, List.set_cons_zero, List.set_cons_succ]
      refine wpAnyH_take (i := 14) (oi := ?oi14b) (v := ?v14b) ?hi14b ?hs14b ?hf14b ?hr14b ?hQ14b (Or.inl ⟨?hw14b, ?hy14b⟩) (by assumption) ?h14b
      case hi14b => (simp only [List.getElem?_toArray, List.getElem?_cons_succ, List.getElem?_cons_zero]; rfl)
      case hs14b => kernel_rfl
      case hf14b => kernel_rfl
      case hr14b => kernel_rfl
      case hw14b => rfl
      case hy14b => (intro w0 hSw; (try dsimp only at hSw); go_simp; first | done | with_reducible rfl)
      case hQ14b => exact fun _ _ _ h => h
      try simp only [Act.put, List.setIfInBounds_toArray, List.set_cons_zero, List.set_cons_succ]
      refine wpAnyH_done (by kernel_rfl) ?_ _
      go_wp2
      exact ret_disk2 (v1 := .slice a7 m7 c7) (v2 := nilB) Tryz.results15 rfl rfl rfl (disk_stored HZ9.out _ _) ⟨_, _, _, rfl, by rw [HR.out]; exact ⟨bytes_two HZ9.out bt_num HU9.out, SlOf.nil _ _⟩, by rw [HR.out]; exact bytes_two HZ9.out rc_num HR9.out, below_two HB9.out (by omega) _ _⟩
  case step11p =>
    have q1 := grew (Below.refl X0.heap.size X0) (.cells #[.slice al ml cl, .slice am mm cm] 34)
    intro K hK
    go_simp
    refine hK.out _ _ (ptS_step hHeld q1) (fun hHeld => ?_)
    clear hK K
    try simp only [Act.put, List.setIfInBounds_toArray, List.set_cons_zero, List.set_cons_succ]
    have q3 := grew (Below.refl (X0.alloc (.cells #[.slice al ml cl, .slice am mm cm] 34)).heap.size (X0.alloc (.cells #[.slice al ml cl, .slice am mm cm] 34))) (.cells #[.slice a1 n1 c1, .slice a2 k c2] 22)
    have q4 : Below X0.heap.size X0 ((X0.alloc (.cells #[.slice al ml cl, .slice am mm cm] 34)).alloc (.cells #[.slice a1 n1 c1, .slice a2 k c2] 22)) := q1.trans (q3.mono q1.size)
    have q4w := hdr.trans (q4.mono hdr.size)
    refine wpAnyH_ready (rs := [6]) (by kernel_rfl) (by simp) ?_
    refine AllReadyH.cons (o := ?o6c) ?hi6c ?step6c AllReadyH.nil
    case hi6c => (simp only [List.getElem?_toArray, List.getElem?_cons_succ, List.getElem?_cons_zero]; rfl)
    intro K hK
    go_simp
    refine hK.out _ _ (ptS_step hHeld q3) (fun hHeld => ?_)
    clear hK K
    try simp only [Act.put, List.setIfInBounds_toArray, List.set_cons_zero, List.set_cons_succ]
    have hXB : ((X0.alloc (.cells #[.slice al ml cl, .slice am mm cm] 34)).alloc (.cells #[.slice a1 n1 c1, .slice a2 k c2] 22)).heap[X0.heap.size + 1]? = some (.cells #[.slice a1 n1 c1, .slice a2 k c2] 22) := by
      have := heap_new (X0.alloc (.cells #[.slice al ml cl, .slice am mm cm] 34)) (.cells #[.slice a1 n1 c1, .slice a2 k c2] 22)
      rwa [World.size_alloc] at this
    have hct := concatY (X0.heap.size + 1) (.slice a1 n1 c1) (.slice a2 k c2) s (t.take k) _ (hXB) (HH.out.safe.later q4w) (hwt _ q4w) (by have := HG.out.1; have := HG.out.2.1; have := HG.out.2.2.1; have := HG.out.2.2.2.1; rw [List.length_take]; omega)
    refine wpAnyH_ready (rs := [7]) (by kernel_rfl) (by simp) ?_
    refine AllReadyH.cons (o := ?o7c) ?hi7c ?step7c AllReadyH.nil
    case hi7c => (simp only [List.getElem?_toArray, List.getElem?_cons_succ, List.getElem?_cons_zero]; rfl)
    intro K hK
    go_simp
    refine (hct).mono ?_
    rintro e X2 ⟨u7, rfl, hu7, hb7, _⟩
    refine hK.out _ _ (ptS_step hHeld hb7) (fun hHeld => ?_)
    clear hK K
    try simp only [Act.put, List.setIfInBounds_toArray, List.set_cons_zero, List.set_cons_succ]
    obtain ⟨a7, c7, rfl, _⟩ := id hu7
    obtain ⟨m7, hm7⟩ : ∃ m7 : Nat, (s ++ t.take k).length = m7 := ⟨_, rfl⟩
    rw [hm7] at hu7 ⊢
    clear hm7
    refine wpAnyH_take (i := 8) (oi := ?oi8c) (v := ?v8c) ?hi8c ?hs8c ?hf8c ?hr8c ?hQ8c (Or.inl ⟨?hw8c, ?hy8c⟩) (by assumption) ?h8c
    case hi8c => (simp only [List.getElem?_toArray, List.getElem?_cons_succ, List.getElem?_cons_zero]; rfl)
    case hs8c => kernel_rfl
    case hf8c => kernel_rfl
    case hr8c => kernel_rfl
    case hw8c => rfl
    case hy8c => (intro w0 hSw; (try dsimp only at hSw); go_simp; first | done | with_reducible rfl)
    case hQ8c => exact fun _ _ _ h => h
    try simp only [Act.put, List.setIfInBounds_toArray, List.set_cons_zero, List.set_cons_succ]
    have q2 : Below X0.heap.size X0 X2 := q4.trans (hb7.mono q4.size)
    have hXR : X2.heap[X0.heap.size]? = some (.cells #[.slice al ml cl, .slice am mm cm] 34) := heap_below (heap_old (heap_new X0 (.cells #[.slice al ml cl, .slice am mm cm] 34)) (.cells #[.slice a1 n1 c1, .slice a2 k c2] 22)) hb7 (by simp only [World.size_alloc]; omega)
    have hcr := concatC X0.heap.size (.slice al ml cl) (.slice am mm cm) ls ms _ (hXR) (hld.later q2) (hmd.later q2) (by have := HG.out.2.2.2.2.1; have := HG.out.2.2.2.2.2; have := HMM.out; have := hml160.out; omega)
    refine wpAnyH_ready (rs := [12]) (by kernel_rfl) (by simp) ?_
    refine AllReadyH.cons (o := ?o12c) ?hi12c ?step12c AllReadyH.nil
    case hi12c => (simp only [List.getElem?_toArray, List.getElem?_cons_succ, List.getElem?_cons_zero]; rfl)
    intro K hK
    go_simp
    refine (hcr).mono ?_
    rintro e W9 ⟨u12, rfl, hu12, hb12, _⟩
    refine hK.out _ _ (ptS_step hHeld hb12) (fun hHeld => ?_)
    clear hK K
    try simp only [Act.put, List.setIfInBounds_toArray, List.set_cons_zero, List.set_cons_succ]
    have q5 : Below X0.heap.size X0 W9 := q2.trans (hb12.mono q2.size)
    have hB9 : Below w.heap.size w W9 := hdr.trans (q5.mono hdr.size)
    have hZ9 := heap_below hZd q5 hltd
    replace hu7 : ByteSl W9 (.slice a7 m7 c7) (s ++ t.take k) := hu7.later hb12
    clear hct hcr q1 q2 q3 q4 q4w q5 hb7 hb12 hld hmd hZd hdr hwt HH hXR hXB
    have HZ9 : Aside _ := hZ9
    have HB9 : Aside _ := hB9
    have HU9 : Aside (ByteSl W9 (.slice a7 m7 c7) (s ++ t.take k)) := hu7
    have HR9 : Aside (RecSl W9 u12 (ls ++ ms)) := hu12
    have z9 : ∀ i, W9.cell? ⟨w.heap.size + 1, i, none⟩ = #[nilB, nilB][i]? := fun i => Joins.cell_of_block hZ9 i
    have f9 : ∀ i, W9.frozen? ⟨w.heap.size + 1, i, none⟩ = false := fun i => Joins.unfrozen_of_block hZ9 i
    obtain ⟨a12, c12, rfl, _⟩ := id hu12
    obtain ⟨m12, hm12⟩ : ∃ m12 : Nat, (ls ++ ms).length = m12 := ⟨_, rfl⟩
    rw [hm12] at HR9 ⊢
    clear hm12 hu7 hu12 hZ9 hB9
    refine wpAnyH_ready (rs := [13]) (by kernel_rfl) (by simp) ?_
    refine AllReadyH.cons (o := ?o13c) ?hi13c ?step13c AllReadyH.nil
    case hi13c => (simp only [List.getElem?_toArray, List.getElem?_cons_succ, List.getElem?_cons_zero]; rfl)
    intro K hK
    go_simp
    refine hK.out _ _ (ptS_two (by omega) hHeld _ _) (fun hHeld => ?_)
    clear hK K
    try simp only [Act.put, List.setIfInBounds_toArray, List.set_cons_zero, List.set_cons_succ]
    refine wpAnyH_take (i := 14) (oi := ?oi14c) (v := ?v14c) ?hi14c ?hs14c ?hf14c ?hr14c ?hQ14c (Or.inl ⟨?hw14c, ?hy14c⟩) (by assumption) ?h14c
    case hi14c => (simp only [List.getElem?_toArray, List.getElem?_cons_succ, List.getElem?_cons_zero]; rfl)
    case hs14c => kernel_rfl
    case hf14c => kernel_rfl
    case hr14c => kernel_rfl
    case hw14c => rfl
    case hy14c => (intro w0 hSw; (try dsimp only at hSw); go_simp; first | done | with_reducible rfl)
    case hQ14c => exact fun _ _ _ h => h
    try simp only [Act.put, List.setIfInBounds_toArray, List.set_cons_zero, List.set_cons_succ]
    refine wpAnyH_done (by kernel_rfl) ?_ _
    go_wp2
    exact ret_disk2 (v1 := .slice a7 m7 c7) (v2 := nilB) Tryz.results15 rfl rfl rfl (disk_stored HZ9.out _ _) ⟨_, _, _, rfl, by rw [HR.out]; exact ⟨bytes_two HZ9.out bt_num HU9.out, SlOf.nil _ _⟩, by rw [HR.out]; exact bytes_two HZ9.out rc_num HR9.out, below_two HB9.out (by omega) _ _⟩

/-- The reference's Recovered, at a right disk. -/
theorem ref_recovered (v1 v2 : Value) (s t : List UInt8) (w : World) (hL : Laid w) (h : DiskAt w v1 v2 (s, t)) (hlen : s.length + t.length ≤ 30000) (hroom : ∃ a n c, v2 = .slice a n c ∧ n ≤ c) :
    Calls Tryz.prog 15 #[.agg #[v1, v2]] w fun e w' => ∃ u1 u2 u3, e = .returned (.tuple #[.agg #[u1, u2], u3]) ∧ DiskAt w' u1 u2 (recovered s t).1 ∧ RecSl w' u3 (recovered s t).2 ∧ Below w.heap.size w w' := by
  have h' := h
  obtain ⟨a1, c1, rfl, _⟩ := h.safe
  obtain ⟨a2, c2, rfl, _⟩ := h.wait
  obtain ⟨a, n, c, e, hc⟩ := hroom
  injection e with e1 e2 e3
  subst e1 e2 e3
  exact ref_recovered_at a1 a2 _ _ c1 c2 s t w hL h' rfl rfl hlen hc

end Go.Proofs.YtknjdbpdlodpbacGreatDoor
