/- For the law. -/
import Derived.Test.YtmoaobfmopimlafGreatDoorM21
set_option linter.unusedSimpArgs false
set_option linter.unusedVariables false
namespace Go.Proofs.YtmoaobfmopimlafGreatDoor
open Go.RowKit
theorem ret_dk {fn : Func} {R : Ending → World → Prop} {a : Act} {W : World} {b p q : Nat} {v1 v2 y : Value} (hf : fn.results = #[.cell p 47, .tmp q]) (hd : a.defers = [])
  (h2 : a.tmps.getD p undef = .pointer (some ⟨b, 0, none⟩)) (h3 : a.tmps.getD q undef = y) (hR : W.heap[b]? = some (boxD v1 v2)) (hp : R (.returned (.tuple #[.agg #[v1, v2], y])) W) :
  bodyPost Tryz.prog fn R .ret a W := by
 have c0 := fun i => Joins.cell_of_block hR i
 refine bodyPost_ret (v := .tuple #[.agg #[v1, v2], y]) ?_ hd hp
 rw [results_cell_tmp hf, h2, h3]
 simp [go_sem, c0]
def Mk (w X : World) (v : Value) (l : List UInt8) : Prop :=
 (∃ g, v = .slice (some ⟨g, 0, none⟩) l.length l.length ∧ w.heap.size ≤ g ∧ X.heap[g]? = some (.cells (l.flatMap bt).toArray 5)) ∨ (v = nilB ∧ l = [])
theorem Mk.of {w w1 X : World} {v : Value} {l : List UInt8} {g : Nat} (h : Own1 w1 X v l g) (hs : w.heap.size ≤ w1.heap.size) : Mk w X v l := Or.inl ⟨g, h.out, Nat.le_trans hs h.new, h.row⟩
theorem Mk.none (w X : World) : Mk w X nilB [] := Or.inr ⟨rfl, rfl⟩
theorem Mk.later {w X X' : World} {v : Value} {l : List UInt8} (h : Mk w X v l) (hb : Below X.heap.size X X') : Mk w X' v l := by
 rcases h with ⟨g, h1, h2, h3⟩ | h
 ·exact Or.inl ⟨g, h1, h2, heap_below h3 hb (heap_lt h3)⟩
 ·exact Or.inr h
theorem Mk.sl {w X : World} {v : Value} {l : List UInt8} (h : Mk w X v l) : ByteSl X v l := by
 rcases h with ⟨g, rfl, _, h3⟩ | ⟨rfl, rfl⟩
 ·exact slOf_lit bt_one h3 (by simp)
 ·exact SlOf.nil _ _
theorem Mk.form {w X : World} {v : Value} {l : List UInt8} (h : Mk w X v l) : ∃ a c, v = .slice a l.length c ∧ l.length ≤ c := by
 rcases h with ⟨g, rfl, _, h3⟩ | ⟨rfl, rfl⟩
 ·exact ⟨_, _, rfl, Nat.le_refl _⟩
 ·exact ⟨_, _, rfl, Nat.le_refl _⟩
theorem Mk.near {w X : World} {v : Value} {l : List UInt8} (h : Mk w X v l) (W' : World) (hs : X.heap.size = W'.heap.size) (v1 v2 : Value) : Near w W' v1 v2 v := fun b hb => by
 rcases h with ⟨g, rfl, h2, h3⟩ | ⟨rfl, _⟩
 ·have hlt := heap_lt h3
  obtain rfl : g = b := by simpa [Value.ownBlock] using hb
  exact Or.inl ⟨h2, by omega⟩
 ·cases hb
theorem answered {w X : World} {b : Nat} {x1 x2 c1 c2 : Nat} {y1 y2 : Option Addr} (hZ : X.heap[b]? = some (boxD (.slice y1 x1 c1) (.slice y2 x2 c2))) (hwb : w.heap.size ≤ b) (hB : Below w.heap.size w X) {u1 u2 : Value} {l1 l2 : List UInt8} (h1 : Mk w X u1 l1) (h2 : Mk w X u2 l2) (v1 v2 : Value) :
  DiskR ((X.setCell ⟨b, 0, none⟩ u1).setCell ⟨b, 1, none⟩ u2) u1 u2 (l1, l2) ∧ Below w.heap.size w ((X.setCell ⟨b, 0, none⟩ u1).setCell ⟨b, 1, none⟩ u2) ∧ Near w ((X.setCell ⟨b, 0, none⟩ u1).setCell ⟨b, 1, none⟩ u2) v1 v2 u1 ∧ Near w ((X.setCell ⟨b, 0, none⟩ u1).setCell ⟨b, 1, none⟩ u2) v1 v2 u2 := by
 have s1 := h1.sl
 have s2 := h2.sl
 have n1 := h1.near ((X.setCell ⟨b, 0, none⟩ u1).setCell ⟨b, 1, none⟩ u2) (by simp) v1 v2
 have n2 := h2.near ((X.setCell ⟨b, 0, none⟩ u1).setCell ⟨b, 1, none⟩ u2) (by simp) v1 v2
 obtain ⟨a, c, rfl, hc⟩ := h1.form
 obtain ⟨a', c', rfl, hc'⟩ := h2.form
 exact ⟨⟨bytes_two hZ bt_num s1, bytes_two hZ bt_num s2, ⟨_, _, _, rfl, hc⟩, ⟨_, _, _, rfl, hc'⟩⟩, below_two hB hwb _ _, n1, n2⟩
theorem map_bt : ∀ l : List UInt8, (l.map fun b => Value.int IntKind.u8 (b.toNat : Int)) = l.flatMap bt
 | [] => rfl
 | x :: r => by
  rw [List.map_cons, List.flatMap_cons, map_bt r]
  rfl
theorem of_text (l : List UInt8) (W : World) : ∃ (cap : Nat) (cur : Array Value) (fz : Nat × Nat) (W' : World), (convert 9 45 (.string ⟨l.toArray⟩)).run Tryz.prog W = .ok (.slice (some ⟨W.heap.size, 0, none⟩) l.length cap) W' ∧
  W'.heap[W.heap.size]? = some (.cells cur 5 fz) ∧ cur.size ≤ fz.1 ∧ cur.size = cap ∧ l.length ≤ cap ∧ cur.toList.take l.length = l.flatMap bt ∧ Below W.heap.size W W' := by
 have h := run_bytes_of_string (P := Tryz.prog) W 9 45 5 ⟨l.toArray⟩ Tryz.underlying9 Tryz.underlying45 Tryz.underlying5
 have hsz : (⟨l.toArray⟩ : ByteArray).size = l.length := by rw [Lib.size_eq]
 rw [hsz] at h
 have hge := grownCap_ge W l.length 0 5
 have hsize : (bytesRow ⟨l.toArray⟩ (grownCap W l.length 0 5)).size = grownCap W l.length 0 5 := by
  unfold bytesRow
  rw [hsz]
  simp
  omega
 refine ⟨_, _, _, _, h, heap_new W.drew _, Nat.le_refl _, hsize, hge, ?_, (Below.refl _ _).drew.alloc (Nat.le_refl _) _⟩
 unfold bytesRow
 have e : (l.toArray.map fun b => Value.int IntKind.u8 (b.toNat : Int)).toList = l.flatMap bt := by
  rw [Array.toList_map]
  exact map_bt l
 rw [Array.toList_append, e, List.take_left']
 have := row_len bt_one l
 omega
abbrev PtS0 (w : World) (b : Nat) (v1 v2 : Value) : Prop := w.cell? ⟨b, 0, none⟩ = some v1 ∧ w.cell? ⟨b, 1, none⟩ = some v2
theorem ptS0_step {w w' : World} {b : Nat} {v1 v2 : Value} (h : PtS0 w b v1 v2) (hb : Below w.heap.size w w') : PtS0 w' b v1 v2 := ⟨cell_later hb h.1, cell_later hb h.2⟩
theorem ptS0_two {w : World} {b g : Nat} {v1 v2 : Value} (hne : b ≠ g) (h : PtS0 w b v1 v2) (u1 u2 : Value) : PtS0 ((w.setCell ⟨g, 0, none⟩ u1).setCell ⟨g, 1, none⟩ u2) b v1 v2 :=
 ⟨by rw [cell_other hne, cell_other hne]; exact h.1, by rw [cell_other hne, cell_other hne]; exact h.2⟩
theorem put_len (r : Rc) : r.ptx.length ≤ 300 := by
 unfold Rc.ptx
 split
 ·rename_i h
  unfold Rc.txt
  by_cases hk : r.k = 2
  ·rw [if_pos hk]
   have hp := (Rc.seal h hk).1
   have hlen := Lib.itoa_length_le r.p (by omega) (by omega)
   simp [sealL]
   omega
  ·rw [if_neg hk]
   obtain ⟨_, ha, _, he⟩ := Rc.write h hk
   have hlen := Lib.itoa_length_le r.a (by omega) (by omega)
   have hlen2 := txt_len r.e he
   simp
   omega
 ·simp
set_option maxHeartbeats 8000000 in
set_option maxRecDepth 100000 in
theorem put_at (a1 a2 : Option Addr) (n1 n2 c1 c2 : Nat) (s t : List UInt8) (c : Rc) (w : World) (hL : Laid w) (h : DiskR w (.slice a1 n1 c1) (.slice a2 n2 c2) (s, t)) (hs : s.length = n1) (ht : t.length = n2) (hn1 : s.length ≤ topLen) (hn2 : t.length ≤ topLen) :
  AnsR 129 (.slice a1 n1 c1) (.slice a2 n2 c2) #[.agg #[.slice a1 n1 c1, .slice a2 n2 c2], c.val] w (dput s t c) := by
 have hB := grew (grew (grew (Below.refl w.heap.size w) (boxD (.slice a1 n1 c1) (.slice a2 n2 c2))) (boxRc c)) (boxD nilB nilB)
 have hbD : (((w.alloc (boxD (.slice a1 n1 c1) (.slice a2 n2 c2))).alloc (boxRc c)).alloc (boxD nilB nilB)).heap[w.heap.size]? = some (boxD (.slice a1 n1 c1) (.slice a2 n2 c2)) := heap_old (heap_old (heap_new _ _) _) _
 have hbC : (((w.alloc (boxD (.slice a1 n1 c1) (.slice a2 n2 c2))).alloc (boxRc c)).alloc (boxD nilB nilB)).heap[w.heap.size + 1]? = some (boxRc c) := by
  have := heap_old (heap_new (w.alloc (boxD (.slice a1 n1 c1) (.slice a2 n2 c2))) (boxRc c)) (boxD nilB nilB)
  rwa [World.size_alloc] at this
 have hbZ : (((w.alloc (boxD (.slice a1 n1 c1) (.slice a2 n2 c2))).alloc (boxRc c)).alloc (boxD nilB nilB)).heap[w.heap.size + 2]? = some (boxD nilB nilB) := by
  have := heap_new ((w.alloc (boxD (.slice a1 n1 c1) (.slice a2 n2 c2))).alloc (boxRc c)) (boxD nilB nilB)
  rwa [World.size_alloc, World.size_alloc] at this
 have hck := diskCheck_any _ _ (s, t) _ (hL.later hB) (h.later hB) hn1 hn2
 have HPR : Aside (∀ W, Laid W → Calls Tryz.prog 165 #[c.val] W fun e w' => e = .returned (.tuple #[.string ⟨c.ptx.toArray⟩, .int .i64 c.chk]) ∧ Below W.heap.size W w') := fun W hW => notePrint_any c W hW
 have HB : Aside _ := hB
 have HL : Aside (Laid w) := hL
 have HH : Aside (DiskR w (.slice a1 n1 c1) (.slice a2 n2 c2) (s, t)) := h
 have HLn : Hid (s.length = n1 ∧ t.length = n2) := ⟨hs, ht⟩
 have HPT : Hid (c.chk = 0 → c.ptx = c.txt) := fun h => by rw [Rc.ptx, if_pos h]
 obtain ⟨rr, HRR⟩ : ∃ rr, Hid (dput s t c = rr) := ⟨_, rfl⟩
 rw [HRR.out]
 have HK0 : Hid (ckDisk s t ≠ 0 → rr = (([], []), ckDisk s t)) := fun h => by rw [← HRR.out, dput, if_pos h]
 have HK1 : Hid (ckDisk s t = 0 → c.chk ≠ 0 → rr = (([], []), c.chk)) := fun h h' => by rw [← HRR.out, dput, if_neg (by rw [h]; simp), putOn, if_pos h']
 have HK2 : Hid (ckDisk s t = 0 → c.chk = 0 → 30000 < s.length + t.length + c.txt.length + 1 → rr = (([], []), 2)) := fun h h' hl => by rw [← HRR.out, dput, if_neg (by rw [h]; simp), putOn, if_neg (by rw [h']; simp), if_pos hl]
 have HK3 : Hid (ckDisk s t = 0 → c.chk = 0 → ¬ 30000 < s.length + t.length + c.txt.length + 1 → rr = ((s, t ++ (c.txt ++ [10])), 0)) := fun h h' hl => by rw [← HRR.out, dput, if_neg (by rw [h]; simp), putOn, if_neg (by rw [h']; simp), if_neg hl]
 have HKL : Hid (ckDisk s t = 0 → n1 + n2 ≤ 30000) := fun h => by have := (ckDisk_zero.1 h).1; omega
 have hTL : Hid (c.ptx.length ≤ 300) := put_len c
 change Calls _ _ _ _ fun e w' => e = .returned (.int .i64 (ckDisk s t)) ∧ _ at hck
 clear hB h hs ht hL HRR
 generalize ckDisk s t = k at *
 generalize c.chk = d at *
 go_enter Tryz.func129, Tryz.ntmps129
 have d0 : ∀ i, (((w.alloc (boxD (.slice a1 n1 c1) (.slice a2 n2 c2))).alloc (boxRc c)).alloc (boxD nilB nilB)).cell? ⟨w.heap.size, i, none⟩ = #[Value.slice a1 n1 c1, .slice a2 n2 c2][i]? := fun i => Joins.cell_of_block hbD i
 go_wp2_with fail
 refine hck.mono ?_
 rintro e w1 ⟨rfl, hb1⟩
 have hB1 : Aside (Below w.heap.size w w1) := HB.out.trans (hb1.mono HB.out.size)
 have hD1 := heap_below hbD hb1 (heap_lt hbD)
 have hC1 := heap_below hbC hb1 (heap_lt hbC)
 have hZ1 := heap_below hbZ hb1 (heap_lt hbZ)
 have HZ1 : Aside (w1.heap[w.heap.size + 2]? = some (boxD nilB nilB)) := hZ1
 have HD1 : Aside (w1.heap[w.heap.size]? = some (boxD (.slice a1 n1 c1) (.slice a2 n2 c2))) := hD1
 have z1 := fun i => Joins.cell_of_block hZ1 i
 have f1 := fun i => Joins.unfrozen_of_block hZ1 i
 have r1 := fun i => Joins.cell_of_block hC1 i
 clear hck hb1 hbD hbC hbZ HB hD1 hC1 hZ1 d0
 by_cases hk : k = 0
 ·subst hk
  have hpr := HPR.out w1 (HL.out.later hB1.out)
  have hn12 : n1 + n2 ≤ 30000 := HKL.out rfl
  have HF1 : Hid (d ≠ 0 → rr = (([], []), d)) := HK1.out rfl
  have HF2 : Hid (d = 0 → 30000 < s.length + t.length + c.txt.length + 1 → rr = (([], []), 2)) := HK2.out rfl
  have HF3 : Hid (d = 0 → ¬ 30000 < s.length + t.length + c.txt.length + 1 → rr = ((s, t ++ (c.txt ++ [10])), 0)) := HK3.out rfl
  clear HK0 HK1 HK2 HK3 HKL z1 f1
  go_wp2_with fail
  refine hpr.mono ?_
  rintro e w2 ⟨rfl, hb2⟩
  have hB2 : Aside (Below w.heap.size w w2) := hB1.out.trans (hb2.mono hB1.out.size)
  have hD2 := heap_below HD1.out hb2 (heap_lt HD1.out)
  have hZ2 := heap_below HZ1.out hb2 (heap_lt HZ1.out)
  have hzl := heap_lt hZ2
  have HD2 : Aside (w2.heap[w.heap.size]? = some (boxD (.slice a1 n1 c1) (.slice a2 n2 c2))) := hD2
  have HZ2 : Aside (w2.heap[w.heap.size + 2]? = some (boxD nilB nilB)) := hZ2
  have d2 := fun i => Joins.cell_of_block hD2 i
  have z2 := fun i => Joins.cell_of_block hZ2 i
  have f2 := fun i => Joins.unfrozen_of_block hZ2 i
  clear hpr hb2 r1 hB1 HD1 HZ1 HPR hD2 hZ2
  by_cases hd : d = 0
  ·have HG2 : Hid (30000 < s.length + t.length + c.txt.length + 1 → rr = (([], []), 2)) := HF2.out hd
   have HG3 : Hid (¬ 30000 < s.length + t.length + c.txt.length + 1 → rr = ((s, t ++ (c.txt ++ [10])), 0)) := HF3.out hd
   clear HF2 HF3
   subst hd
   have hpt := HPT.out rfl
   have hTL' := hTL.out
   rw [hpt] at hTL'
   rw [hpt]
   clear HF1 HPT hpt hTL z2 f2 d2
   generalize c.txt = tx at *
   obtain ⟨n3, hn3⟩ : ∃ n3, tx.length = n3 := ⟨_, rfl⟩
   have HN3 : Hid (tx.length = n3) := hn3
   obtain ⟨cap, cur, fz, W3, hcv, hg3, hfz, hcs, hnc, hxs, hb3⟩ := of_text tx w2
   rw [hn3] at hcv hnc hxs hTL'
   clear hn3
   have hb4 : Below w2.heap.size w2 (W3.alloc (.cells #[.int .u8 10] 5)) := hb3.trans ((grew (Below.refl W3.heap.size W3) _).mono hb3.size)
   have hg4 : (W3.alloc (.cells #[.int .u8 10] 5)).heap[w2.heap.size]? = some (.cells cur 5 fz) := heap_old hg3 _
   have hn4 : ∀ j u, [Value.int .u8 10][j]? = some u → (W3.alloc (.cells #[.int .u8 10] 5)).cell? ((⟨W3.heap.size, 0, none⟩ : Addr).add j) = some u := fun j u hj => by
    rw [Lib.add_plain, Nat.zero_add, Joins.cell_of_block (heap_new W3 _)]
    simpa using hj
   obtain ⟨i0, hi, hz0, hz1, hz2⟩ := info_parts infoY
   have hlt1 : n3 + 1 ≤ 1000000 := by omega
   go_wp2_with (at_builtin; refine wpList_append_marked rfl _ _ 45 rfl 5 i0 (.int .u8 0) Tryz.underlying45 hi hz0 hz1 hz2 w2.heap.size n3 cap cur fz hg4 hfz hcs hnc _ hxs rfl ⟨W3.heap.size, 0, none⟩ 1 1 rfl [.int .u8 10] rfl hn4 (by simp [Value.oneCell']) hlt1 w2.heap.size w2 hb4 (Nat.le_refl _) ?_)
   intro v4 w4 g4 cap4 HA
   have HLN : Aside (ByteSl w4 (.slice (some ⟨g4, 0, none⟩) (n3 + 1) cap4) (tx ++ [10])) := by
    have hl : (tx ++ [10]).length = n3 + 1 := by rw [List.length_append, HN3.out]; rfl
    refine ⟨_, cap4, by rw [hl], Or.inr ⟨g4, 0, rfl, fun j x hj i u hi => ?_⟩⟩
    have := HA.cells (j * 1 + i) u (by
     have := row_flat bt_one (tx ++ [10]) j x hj i u hi
     rw [List.flatMap_append] at this
     exact this)
    rw [Nat.zero_add]
    exact this
   have hb24 := HA.below
   obtain rfl := HA.out
   have hB4 : Aside (Below w.heap.size w w4) := hB2.out.trans (hb24.mono hB2.out.size)
   have hD4 := heap_below HD2.out hb24 (heap_lt HD2.out)
   have hZ4 := heap_below HZ2.out hb24 (heap_lt HZ2.out)
   have HZ4 : Aside (w4.heap[w.heap.size + 2]? = some (boxD nilB nilB)) := hZ4
   have hltz := heap_lt hZ4
   have d4 := fun i => Joins.cell_of_block hD4 i
   clear hcv hg3 hfz hcs hnc hxs hb3 hb4 hg4 hn4 hi hz0 hz1 hz2 HA hb24 hB2 HD2 HZ2 hD4 hzl
   by_cases hlong : 30000 < n1 + n2 + n3 + 1
   ·have HF : Hid (rr = (([], []), 2)) := HG2.out (by rw [HLn.out.1, HLn.out.2, HN3.out]; exact hlong)
    have hgt : 30000 < (n1 : Int) + (n2 : Int) + ((n3 : Int) + 1) := by omega
    have z4 := fun i => Joins.cell_of_block hZ4 i
    have f4 := fun i => Joins.unfrozen_of_block hZ4 i
    have hA := answered HZ4.out (by omega) hB4.out (Mk.none w w4) (Mk.none w w4) (.slice a1 n1 c1) (.slice a2 n2 c2)
    have HA : Aside _ := hA
    clear hA hZ4 HG2 HG3 hlong
    go_wp2
    exact ret_dk (v1 := nilB) (v2 := nilB) Tryz.results129 rfl rfl rfl (disk_stored HZ4.out _ _) ⟨nilB, nilB, by rw [HF.out]; rfl, by rw [HF.out]; exact HA.out.1, HA.out.2⟩
   ·have HF : Hid (rr = ((s, t ++ (tx ++ [10])), 0)) := HG3.out (by rw [HLn.out.1, HLn.out.2, HN3.out]; exact hlong)
    have hgd : decide (30000 < (n1 : Int) + (n2 : Int) + ((n3 : Int) + 1)) = false := by rw [decide_eq_false_iff_not]; omega
    have HLE : Hid (n1 + n2 + n3 + 1 ≤ 30000) := by rw [Hid]; omega
    have hb41 : n1 ≤ 30000 := by omega
    have hb42 : n2 ≤ 30000 := by omega
    clear HG2 HG3 hZ4 hlong hn12 hlt1
    go_wp2_with fail
    refine wp_region_held_drew (S := fun w' => PtS0 w' w.heap.size (.slice a1 n1 c1) (.slice a2 n2 c2)) (by kernel_rfl) (⟨d4 0, d4 1⟩) (fun hHeld => ?_)
    refine tk 0 (v := ?_) rfl (by kernel_rfl) (by rfl) (by assumption) (fun _ _ _ h => h) ?_ ?_
    rotate_left
    ·intro w0 hSw; (try dsimp only at hSw); go_simp; first | done | with_reducible rfl
    try simp only [Act.put, qa, qb, qc]
    refine tk 1 (v := ?_) rfl (by kernel_rfl) (by rfl) (by assumption) (fun _ _ _ h => h) ?_ ?_
    rotate_left
    ·intro w0 hSw; (try dsimp only at hSw); go_simp; first | done | with_reducible rfl
    try simp only [Act.put, qa, qb, qc]
    refine tk 3 (v := ?_) rfl (by kernel_rfl) (by rfl) (by assumption) (fun _ _ _ h => h) ?_ ?_
    rotate_left
    ·intro w0 hSw; (try dsimp only at hSw); go_simp; first | done | with_reducible rfl
    try simp only [Act.put, qa, qb, qc]
    refine tk 4 (v := ?_) rfl (by kernel_rfl) (by rfl) (by assumption) (fun _ _ _ h => h) ?_ ?_
    rotate_left
    ·intro w0 hSw; (try dsimp only at hSw); go_simp; first | done | with_reducible rfl
    try simp only [Act.put, qa, qb, qc]
    refine tk 5 (v := ?_) rfl (by kernel_rfl) (by rfl) (by assumption) (fun _ _ _ h => h) ?_ ?_
    rotate_left
    ·intro w0 hSw; (try dsimp only at hSw); go_simp; first | done | with_reducible rfl
    try simp only [Act.put, qa, qb, qc]
    have hX0 : Aside (Below w.heap.size w w4.drew) := hB4.out.drew
    have hZ0 : Aside (w4.drew.heap[w.heap.size + 2]? = some (boxD nilB nilB)) := HZ4.out
    have hl0 : Aside (ByteSl w4.drew (.slice (some ⟨g4, 0, none⟩) (n3 + 1) cap4) (tx ++ [10])) := HLN.out.later (Below.refl _ w4).drew
    have hs0 : Aside (ByteSl w4.drew (.slice a1 n1 c1) s) := HH.out.safe.later hX0.out
    have ht0 : Aside (ByteSl w4.drew (.slice a2 n2 c2) t) := HH.out.wait.later hX0.out
    have hz0 : w.heap.size + 2 < w4.drew.heap.size := hltz
    clear HZ4 hB4 HLN d4 HH hltz
    generalize w4.drew = X0 at *
    have hcp : ∀ X, Below X0.heap.size X0 X → Calls Tryz.prog 166 #[.slice a1 n1 c1] X fun e w' => ∃ u g, e = .returned u ∧ Own1 X w' u s g := fun X hX => copyOfY _ s X (hs0.out.later hX) (by rw [HLn.out.1]; omega)
    have hjn : ∀ X, Below X0.heap.size X0 X → Calls Tryz.prog 167 #[.slice a2 n2 c2, .slice (some ⟨g4, 0, none⟩) (n3 + 1) cap4] X fun e w' => ∃ u g, e = .returned u ∧ Own1 X w' u (t ++ (tx ++ [10])) g := fun X hX => joinY _ _ t (tx ++ [10]) X (ht0.out.later hX) (hl0.out.later hX) (by have := HLE.out; rw [List.length_append, HLn.out.2, HN3.out]; show n2 + (n3 + 1) ≤ 1000000; omega)
    have HS : Hid (w.heap.size ≤ X0.heap.size) := hX0.out.size
    clear hs0 ht0 hl0
    refine rdy 2 (by kernel_rfl) rfl (fun K hK => ?_)
    go_simp
    refine (hcp X0 (Below.refl _ _)).mono ?_
    rintro e X1 ⟨u1, g1, rfl, ho1⟩
    refine hK.out _ _ (ptS0_step hHeld ho1.below) (fun hHeld => ?_)
    clear hK K
    try simp only [Act.put, qa, qb, qc]
    refine rdy 6 (by kernel_rfl) rfl (fun K hK => ?_)
    go_simp
    refine (hjn X1 ho1.below).mono ?_
    rintro e X9 ⟨u2, g2, rfl, ho2⟩
    refine hK.out _ _ (ptS0_step hHeld ho2.below) (fun hHeld => ?_)
    clear hK K
    try simp only [Act.put, qa, qb, qc]
    have hX9 : Below X0.heap.size X0 X9 := ho1.below.trans (ho2.below.mono ho1.below.size)
    have m1 : Mk w X9 u1 s := (Mk.of ho1 HS.out).later ho2.below
    have m2 : Mk w X9 u2 (t ++ (tx ++ [10])) := Mk.of ho2 (Nat.le_trans HS.out ho1.below.size)
    clear ho1 ho2
    have hZ9 := heap_below hZ0.out hX9 hz0
    have hB9 : Aside (Below w.heap.size w X9) := hX0.out.trans (hX9.mono hX0.out.size)
    have hlt9 := heap_lt hZ9
    have HZ9 : Aside (X9.heap[w.heap.size + 2]? = some (boxD nilB nilB)) := hZ9
    have HAN : Aside _ := answered HZ9.out (by omega) hB9.out m1 m2 (.slice a1 n1 c1) (.slice a2 n2 c2)
    have z9 := fun i => Joins.cell_of_block hZ9 i
    have f9 := fun i => Joins.unfrozen_of_block hZ9 i
    obtain ⟨b1, q1, rfl, _⟩ := m1.form
    obtain ⟨b2, q2, rfl, _⟩ := m2.form
    obtain ⟨x1, hx1⟩ : ∃ x1 : Nat, s.length = x1 := ⟨_, rfl⟩
    obtain ⟨x2, hx2⟩ : ∃ x2 : Nat, (t ++ (tx ++ [10])).length = x2 := ⟨_, rfl⟩
    rw [hx1, hx2] at HAN
    rw [hx1, hx2]
    clear hx1 hx2 m1 m2 hX9 hZ9 hcp hjn
    refine tk 7 (v := ?_) rfl (by kernel_rfl) (by rfl) (by assumption) (fun _ _ _ h => h) ?_ ?_
    rotate_left
    ·intro w0 hSw; (try dsimp only at hSw); go_simp; first | done | with_reducible rfl
    try simp only [Act.put, qa, qb, qc]
    refine rdy 8 (by kernel_rfl) rfl (fun K hK => ?_)
    go_simp
    refine hK.out _ _ (ptS0_two (by omega) hHeld _ _) (fun hHeld => ?_)
    clear hK K
    try simp only [Act.put, qa, qb, qc]
    refine tk 9 (v := ?_) rfl (by kernel_rfl) (by rfl) (by assumption) (fun _ _ _ h => h) ?_ ?_
    rotate_left
    ·intro w0 hSw; (try dsimp only at hSw); go_simp; first | done | with_reducible rfl
    try simp only [Act.put, qa, qb, qc]
    refine wpAnyH_done (by kernel_rfl) ?_ _
    go_wp2
    exact ret_dk (v1 := .slice b1 x1 q1) (v2 := .slice b2 x2 q2) Tryz.results129 rfl rfl rfl (disk_stored HZ9.out _ _) ⟨_, _, by rw [HF.out]; rfl, by rw [HF.out]; exact HAN.out.1, HAN.out.2⟩
  ·have HF : Hid (rr = (([], []), d)) := HF1.out hd
   have hdb : (d != 0) = true := by rw [bne_iff_ne]; exact hd
   have HA : Aside _ := answered HZ2.out (by omega) hB2.out (Mk.none w w2) (Mk.none w w2) (.slice a1 n1 c1) (.slice a2 n2 c2)
   clear HF1 HF2 HF3 HPT hd d2
   go_wp2
   exact ret_dk (v1 := nilB) (v2 := nilB) Tryz.results129 rfl rfl rfl (disk_stored HZ2.out _ _) ⟨nilB, nilB, by rw [HF.out]; rfl, by rw [HF.out]; exact HA.out.1, HA.out.2⟩
 ·have HF : Hid (rr = (([], []), k)) := HK0.out hk
  have hkb : (k != 0) = true := by rw [bne_iff_ne]; exact hk
  have hlt1 := heap_lt HZ1.out
  have HA : Aside _ := answered HZ1.out (by omega) hB1.out (Mk.none w w1) (Mk.none w w1) (.slice a1 n1 c1) (.slice a2 n2 c2)
  clear HK0 HK1 HK2 HK3 HKL hk r1
  go_wp2
  exact ret_dk (v1 := nilB) (v2 := nilB) Tryz.results129 rfl rfl rfl (disk_stored HZ1.out _ _) ⟨nilB, nilB, by rw [HF.out]; rfl, by rw [HF.out]; exact HA.out.1, HA.out.2⟩
theorem diskPut_any (v1 v2 : Value) (d : Dk) (c : Rc) (W : World) (hL : Laid W) (h : DiskR W v1 v2 d) (hn1 : d.1.length ≤ topLen) (hn2 : d.2.length ≤ topLen) : AnsR 129 v1 v2 #[.agg #[v1, v2], c.val] W (dput d.1 d.2 c) := by
 obtain ⟨s, t⟩ := d
 have h' := h
 obtain ⟨a1, c1, rfl, _⟩ := h.safe
 obtain ⟨a2, c2, rfl, _⟩ := h.wait
 exact put_at a1 a2 _ _ c1 c2 s t c W hL h' rfl rfl hn1 hn2
theorem ret_dk3 {fn : Func} {R : Ending → World → Prop} {a : Act} {W : World} {b p q r : Nat} {v1 v2 x y : Value} (hf : fn.results = #[.cell p 47, .tmp q, .tmp r]) (hd : a.defers = [])
  (h2 : a.tmps.getD p undef = .pointer (some ⟨b, 0, none⟩)) (h3 : a.tmps.getD q undef = x) (h4 : a.tmps.getD r undef = y) (hR : W.heap[b]? = some (boxD v1 v2)) (hp : R (.returned (.tuple #[.agg #[v1, v2], x, y])) W) :
  bodyPost Tryz.prog fn R .ret a W := by
 have c0 := fun i => Joins.cell_of_block hR i
 have h2' : a.tmps[p]?.getD undef = .pointer (some ⟨b, 0, none⟩) := by simpa using h2
 have h3' : a.tmps[q]?.getD undef = x := by simpa using h3
 have h4' : a.tmps[r]?.getD undef = y := by simpa using h4
 refine bodyPost_ret (v := .tuple #[.agg #[v1, v2], x, y]) ?_ hd hp
 simp [results, hf, h2', h3', h4', go_sem, c0]
abbrev AnsV (v1 v2 : Value) (w : World) (r : Dk × List Rc × Int) : Prop :=
 Calls Tryz.prog 143 #[.agg #[v1, v2]] w fun e w' => ∃ u1 u2 u3, e = .returned (.tuple #[.agg #[u1, u2], u3, .int .i64 r.2.2]) ∧ DiskR w' u1 u2 r.1 ∧ RecSl w' u3 r.2.1 ∧ Below w.heap.size w w' ∧ Roomy u3
theorem recs_two {W : World} {b : Nat} {u1 u2 v : Value} {l : List Rc} (h : RecSl W v l) (hb : W.heap[b]? = some (boxD nilB nilB)) (hu1 : ∃ a n c, u1 = .slice a n c) (hu2 : ∃ a n c, u2 = .slice a n c) : RecSl ((W.setCell ⟨b, 0, none⟩ u1).setCell ⟨b, 1, none⟩ u2) v l := by
 obtain ⟨a, n, c, rfl⟩ := hu1
 obtain ⟨a', n', c', rfl⟩ := hu2
 exact bytes_two hb rc_num h
set_option maxHeartbeats 8000000 in
set_option maxRecDepth 100000 in
theorem recover_at (a1 a2 : Option Addr) (n1 n2 c1 c2 : Nat) (s t : List UInt8) (w : World) (hL : Laid w) (h : DiskR w (.slice a1 n1 c1) (.slice a2 n2 c2) (s, t)) (hs : s.length = n1) (ht : t.length = n2) (hn1 : s.length ≤ topLen) (hn2 : t.length ≤ topLen) :
  AnsV (.slice a1 n1 c1) (.slice a2 n2 c2) w (drecover s t) := by
 have hB := grew (grew (Below.refl w.heap.size w) (boxD (.slice a1 n1 c1) (.slice a2 n2 c2))) (boxD nilB nilB)
 have hbD : ((w.alloc (boxD (.slice a1 n1 c1) (.slice a2 n2 c2))).alloc (boxD nilB nilB)).heap[w.heap.size]? = some (boxD (.slice a1 n1 c1) (.slice a2 n2 c2)) := heap_old (heap_new _ _) _
 have hbZ : ((w.alloc (boxD (.slice a1 n1 c1) (.slice a2 n2 c2))).alloc (boxD nilB nilB)).heap[w.heap.size + 1]? = some (boxD nilB nilB) := by
  have := heap_new (w.alloc (boxD (.slice a1 n1 c1) (.slice a2 n2 c2))) (boxD nilB nilB)
  rwa [World.size_alloc] at this
 have hck := diskCheck_any _ _ (s, t) _ (hL.later hB) (h.later hB) hn1 hn2
 have HB : Aside _ := hB
 have HL : Aside (Laid w) := hL
 have HH : Aside (DiskR w (.slice a1 n1 c1) (.slice a2 n2 c2) (s, t)) := h
 have HLn : Hid (s.length = n1 ∧ t.length = n2) := ⟨hs, ht⟩
 obtain ⟨rr, HRR⟩ : ∃ rr, Hid (drecover s t = rr) := ⟨_, rfl⟩
 rw [HRR.out]
 have HK0 : Hid (ckDisk s t ≠ 0 → rr = (([], []), [], ckDisk s t)) := fun h => by rw [← HRR.out, drecover, if_pos h]
 have HK1 : Hid (ckDisk s t = 0 → rr = ((((s ++ t).take (linesOf (s ++ t) 160).2.1), []), (linesOf (s ++ t) 160).1, 0) ∧ (linesOf (s ++ t) 160).2.1 ≤ (s ++ t).length) := fun h => by
  obtain ⟨e1, e2, e3⟩ := lines_both (t := t) (ckDisk_zero.1 h).2
  refine ⟨?_, e3⟩
  rw [← HRR.out, drecover, if_neg (by rw [h]; simp), e1, e2]
  rfl
 have HKL : Hid (ckDisk s t = 0 → n1 + n2 ≤ 30000) := fun h => by have := (ckDisk_zero.1 h).1; omega
 change Calls _ _ _ _ fun e w' => e = .returned (.int .i64 (ckDisk s t)) ∧ _ at hck
 clear hB h hs ht hL HRR hn1 hn2
 generalize ckDisk s t = k at *
 go_enter Tryz.func143, Tryz.ntmps143
 have d0 : ∀ i, ((w.alloc (boxD (.slice a1 n1 c1) (.slice a2 n2 c2))).alloc (boxD nilB nilB)).cell? ⟨w.heap.size, i, none⟩ = #[Value.slice a1 n1 c1, .slice a2 n2 c2][i]? := fun i => Joins.cell_of_block hbD i
 go_wp2_with fail
 refine hck.mono ?_
 rintro e w1 ⟨rfl, hb1⟩
 have hB1 : Aside (Below w.heap.size w w1) := HB.out.trans (hb1.mono HB.out.size)
 have hD1 := heap_below hbD hb1 (heap_lt hbD)
 have hZ1 := heap_below hbZ hb1 (heap_lt hbZ)
 have hlz1 := heap_lt hZ1
 have HZ1 : Aside (w1.heap[w.heap.size + 1]? = some (boxD nilB nilB)) := hZ1
 have HD1 : Aside (w1.heap[w.heap.size]? = some (boxD (.slice a1 n1 c1) (.slice a2 n2 c2))) := hD1
 have d1 := fun i => Joins.cell_of_block hD1 i
 have z1 := fun i => Joins.cell_of_block hZ1 i
 have f1 := fun i => Joins.unfrozen_of_block hZ1 i
 clear hck hb1 hbD hbZ HB hD1 hZ1 d0
 by_cases hk : k = 0
 ·have HF0 : Hid (rr = ((((s ++ t).take (linesOf (s ++ t) 160).2.1), []), (linesOf (s ++ t) 160).1, 0) ∧ (linesOf (s ++ t) 160).2.1 ≤ (s ++ t).length) := HK1.out hk
  have hn12 : n1 + n2 ≤ 30000 := HKL.out hk
  have hkb : (k != 0) = false := by rw [hk]; rfl
  have hjn := joinY _ _ s t w1 (HH.out.safe.later hB1.out) (HH.out.wait.later hB1.out) (by rw [HLn.out.1, HLn.out.2]; omega)
  have HLE : Hid ((s ++ t).length ≤ 30000) := by rw [Hid, List.length_append, HLn.out.1, HLn.out.2]; exact hn12
  clear HK0 HK1 HKL z1 f1 hn12 hk
  go_wp2_with fail
  refine hjn.mono ?_
  rintro e w2 ⟨u, g, rfl, ho⟩
  have hb2 := ho.below
  have hB2 : Aside (Below w.heap.size w w2) := hB1.out.trans (hb2.mono hB1.out.size)
  have HZ2 : Aside _ := heap_below HZ1.out hb2 hlz1
  have hsl : ByteSl w2 u (s ++ t) := ho.sl
  have hrd := diskRead_any u (s ++ t) w2 (HL.out.later hB2.out) hsl ho.roomy HLE.out
  have hou := ho.out
  have HSL : Aside (ByteSl w2 u (s ++ t)) := hsl
  clear hjn hb2 HZ1 HD1 hB1 d1 hsl hlz1 ho
  subst hou
  generalize (linesOf (s ++ t) 160).2.2 = x3 at *
  generalize (linesOf (s ++ t) 160).2.1 = kp at *
  generalize (linesOf (s ++ t) 160).1 = rs at *
  obtain ⟨N, hN⟩ : ∃ N : Nat, (s ++ t).length = N := ⟨_, rfl⟩
  rw [hN] at hrd HSL HF0 HLE ⊢
  clear hN
  go_wp2_with fail
  refine hrd.mono ?_
  rintro e w3 ⟨ur, rfl, hor, hb3⟩
  have hB3 : Below w.heap.size w w3 := hB2.out.trans (hb3.mono hB2.out.size)
  have hZ3 := heap_below HZ2.out hb3 (heap_lt HZ2.out)
  have hlz3 := heap_lt hZ3
  have hkN : kp ≤ N := HF0.out.2
  have hcp := copyOfY (.slice (some ⟨g, 0, none⟩) kp N) ((s ++ t).take kp) w3 ((HSL.out.later hb3).upto kp hkN) (by rw [List.length_take]; have := HLE.out; omega)
  have HRS : Aside (RecSl w3 ur rs) := slOf_of_owns Rc.eight hor
  have HRM : Aside (Roomy ur) := owns_roomy hor
  have HB3 : Aside _ := hB3
  have HZ3 : Aside (w3.heap[w.heap.size + 1]? = some (boxD nilB nilB)) := hZ3
  have hk0 : (0 : Int) ≤ (kp : Int) := by omega
  have hkc : (kp : Int) ≤ (N : Int) := by omega
  clear hrd hor hB3 hZ3 hb3 HSL HZ2 hB2
  go_wp2_with fail
  refine hcp.mono ?_
  rintro e w4 ⟨u4, g4, rfl, ho4⟩
  have hb4 := ho4.below
  have hB4 : Below w.heap.size w w4 := HB3.out.trans (hb4.mono HB3.out.size)
  have hZ4 := heap_below HZ3.out hb4 hlz3
  have m4 : Mk w w4 u4 ((s ++ t).take kp) := Mk.of ho4 HB3.out.size
  have HA : Aside _ := answered hZ4 (by omega) hB4 m4 (Mk.none w w4) (.slice a1 n1 c1) (.slice a2 n2 c2)
  have hf4 := m4.form
  have HR4 : Aside _ := recs_two (u1 := u4) (u2 := nilB) (HRS.out.later hb4) hZ4 (by obtain ⟨a, c, e, _⟩ := hf4; exact ⟨_, _, _, e⟩) ⟨_, _, _, rfl⟩
  have HZ4 : Aside (w4.heap[w.heap.size + 1]? = some (boxD nilB nilB)) := hZ4
  have z4 := fun i => Joins.cell_of_block hZ4 i
  have f4 := fun i => Joins.unfrozen_of_block hZ4 i
  obtain ⟨b4, q4, hu4, _⟩ := hf4
  clear hcp ho4 hb4 HRS hZ4 hB4 m4 HZ3 HB3
  subst hu4
  obtain ⟨x4, hx4⟩ : ∃ x4 : Nat, ((s ++ t).take kp).length = x4 := ⟨_, rfl⟩
  rw [hx4] at HA HR4 ⊢
  clear hx4
  go_wp2
  exact ret_dk3 (v1 := .slice b4 x4 q4) (v2 := nilB) Tryz.results143 rfl rfl rfl rfl (disk_stored HZ4.out _ _) ⟨_, _, _, by rw [HF0.out.1]; rfl, by rw [HF0.out.1]; exact HA.out.1, by rw [HF0.out.1]; exact HR4.out, HA.out.2.1, HRM.out⟩
 ·have HF : Hid (rr = (([], []), [], k)) := HK0.out hk
  have hkb : (k != 0) = true := by rw [bne_iff_ne]; exact hk
  have HA : Aside _ := answered HZ1.out (by omega) hB1.out (Mk.none w w1) (Mk.none w w1) (.slice a1 n1 c1) (.slice a2 n2 c2)
  clear HK0 HK1 HKL hk d1
  go_wp2
  exact ret_dk3 (v1 := nilB) (v2 := nilB) Tryz.results143 rfl rfl rfl rfl (disk_stored HZ1.out _ _) ⟨nilB, nilB, nilB, by rw [HF.out]; rfl, by rw [HF.out]; exact HA.out.1, by rw [HF.out]; exact SlOf.nil _ _, HA.out.2.1, ⟨_, _, _, rfl, Nat.le_refl _⟩⟩
theorem diskRecover_any (v1 v2 : Value) (d : Dk) (W : World) (hL : Laid W) (h : DiskR W v1 v2 d) (hn1 : d.1.length ≤ topLen) (hn2 : d.2.length ≤ topLen) : AnsV v1 v2 W (drecover d.1 d.2) := by
 obtain ⟨s, t⟩ := d
 have h' := h
 obtain ⟨a1, c1, rfl, _⟩ := h.safe
 obtain ⟨a2, c2, rfl, _⟩ := h.wait
 exact recover_at a1 a2 _ _ c1 c2 s t W hL h' rfl rfl hn1 hn2
end Go.Proofs.YtmoaobfmopimlafGreatDoor
