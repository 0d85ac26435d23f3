/- For the law: Package disk's Put. Package disk's Recover. Package unit's seal, write, take: a unit turned in place. The reference's UnitOf. Package unit's Next and Replay. Package world: recovered. Package world: boot. Package disk's Sync and Crash. -/
import Derived.Test.YtmoaobfmopimlafGreatDoorM04
import Derived.Deep.Cut
import Derived.Deep.RegionHeld3
namespace Go.Proofs.YtmoaobfmopimlafGreatDoor
open Go.RowKit
theorem ret_dk {fn : Func} {R : Ending → World → Prop} {a : Act} {W : World} {b p q : Nat} {v1 v2 y : Value} (hf : fn.results = #[.cell p 47, .tmp q]) (hd : a.defers = [])
    (h2 : a.tmps.getD p undef = .pointer (some ⟨b, 0, none⟩)) (h3 : a.tmps.getD q undef = y) (hR : W.heap[b]? = some (boxD v1 v2)) (hp : R (.returned (.tuple #[.agg #[v1, v2], y])) W) :
    bodyPost Tryz.prog fn R .ret a W := by
  have c0 : ∀ i, W.cell? ⟨b, i, none⟩ = #[v1, v2][i]? := fun i => Joins.cell_of_block hR i
  refine bodyPost_ret (v := .tuple #[.agg #[v1, v2], y]) ?_ hd hp
  rw [results_cell_tmp hf, h2, h3]
  simp [go_sem, c0]
/-- A slice that is answered: a row of the call's own, full; or none. -/
def Mk (w X : World) (v : Value) (l : List UInt8) : Prop :=
  (∃ g, v = .slice (some ⟨g, 0, none⟩) l.length l.length ∧ w.heap.size ≤ g ∧ X.heap[g]? = some (.cells (l.flatMap bt).toArray 5)) ∨ (v = nilB ∧ l = [])
theorem Mk.of {w w1 X : World} {v : Value} {l : List UInt8} {g : Nat} (h : Own1 w1 X v l g) (hs : w.heap.size ≤ w1.heap.size) : Mk w X v l := Or.inl ⟨g, h.out, Nat.le_trans hs h.new, h.row⟩
theorem Mk.none (w X : World) : Mk w X nilB [] := Or.inr ⟨rfl, rfl⟩
theorem Mk.later {w X X' : World} {v : Value} {l : List UInt8} (h : Mk w X v l) (hb : Below X.heap.size X X') : Mk w X' v l := by
  rcases h with ⟨g, h1, h2, h3⟩ | h
  · exact Or.inl ⟨g, h1, h2, heap_below h3 hb (heap_lt h3)⟩
  · exact Or.inr h
theorem Mk.sl {w X : World} {v : Value} {l : List UInt8} (h : Mk w X v l) : ByteSl X v l := by
  rcases h with ⟨g, rfl, _, h3⟩ | ⟨rfl, rfl⟩
  · exact slOf_lit bt_one h3 (by simp)
  · exact SlOf.nil _ _
theorem Mk.form {w X : World} {v : Value} {l : List UInt8} (h : Mk w X v l) : ∃ a c, v = .slice a l.length c ∧ l.length ≤ c := by
  rcases h with ⟨g, rfl, _, h3⟩ | ⟨rfl, rfl⟩
  · exact ⟨_, _, rfl, Nat.le_refl _⟩
  · exact ⟨_, _, rfl, Nat.le_refl _⟩
theorem Mk.near {w X : World} {v : Value} {l : List UInt8} (h : Mk w X v l) (W' : World) (hs : X.heap.size = W'.heap.size) (v1 v2 : Value) : Near w W' v1 v2 v := fun b hb => by
  rcases h with ⟨g, rfl, h2, h3⟩ | ⟨rfl, _⟩
  · have hlt := heap_lt h3
    obtain rfl : g = b := by simpa [Value.ownBlock] using hb
    exact Or.inl ⟨h2, by omega⟩
  · cases hb
/-- What is answered, stored. -/
theorem answered {w X : World} {b : Nat} {x1 x2 c1 c2 : Nat} {y1 y2 : Option Addr} (hZ : X.heap[b]? = some (boxD (.slice y1 x1 c1) (.slice y2 x2 c2))) (hwb : w.heap.size ≤ b) (hB : Below w.heap.size w X) {u1 u2 : Value} {l1 l2 : List UInt8} (h1 : Mk w X u1 l1) (h2 : Mk w X u2 l2) (v1 v2 : Value) :
    DiskR ((X.setCell ⟨b, 0, none⟩ u1).setCell ⟨b, 1, none⟩ u2) u1 u2 (l1, l2) ∧ Below w.heap.size w ((X.setCell ⟨b, 0, none⟩ u1).setCell ⟨b, 1, none⟩ u2) ∧ Near w ((X.setCell ⟨b, 0, none⟩ u1).setCell ⟨b, 1, none⟩ u2) v1 v2 u1 ∧ Near w ((X.setCell ⟨b, 0, none⟩ u1).setCell ⟨b, 1, none⟩ u2) v1 v2 u2 := by
  have s1 := h1.sl
  have s2 := h2.sl
  have n1 := h1.near ((X.setCell ⟨b, 0, none⟩ u1).setCell ⟨b, 1, none⟩ u2) (by simp) v1 v2
  have n2 := h2.near ((X.setCell ⟨b, 0, none⟩ u1).setCell ⟨b, 1, none⟩ u2) (by simp) v1 v2
  obtain ⟨a, c, rfl, hc⟩ := h1.form
  obtain ⟨a', c', rfl, hc'⟩ := h2.form
  exact ⟨⟨bytes_two hZ bt_num s1, bytes_two hZ bt_num s2, ⟨_, _, _, rfl, hc⟩, ⟨_, _, _, rfl, hc'⟩⟩, below_two hB hwb _ _, n1, n2⟩
theorem map_bt : ∀ l : List UInt8, (l.map fun b => Value.int IntKind.u8 (b.toNat : Int)) = l.flatMap bt
  | [] => rfl
  | x :: r => by
    rw [List.map_cons, List.flatMap_cons, map_bt r]
    rfl
/-- []byte(s), the row as it lies. -/
theorem of_text (l : List UInt8) (W : World) : ∃ (cap : Nat) (cur : Array Value) (fz : Nat × Nat) (W' : World), (convert 9 45 (.string ⟨l.toArray⟩)).run Tryz.prog W = .ok (.slice (some ⟨W.heap.size, 0, none⟩) l.length cap) W' ∧
    W'.heap[W.heap.size]? = some (.cells cur 5 fz) ∧ cur.size ≤ fz.1 ∧ cur.size = cap ∧ l.length ≤ cap ∧ cur.toList.take l.length = l.flatMap bt ∧ Below W.heap.size W W' := by
  have h := run_bytes_of_string (P := Tryz.prog) W 9 45 5 ⟨l.toArray⟩ Tryz.underlying9 Tryz.underlying45 Tryz.underlying5
  have hsz : (⟨l.toArray⟩ : ByteArray).size = l.length := by rw [Lib.size_eq]
  rw [hsz] at h
  have hge := grownCap_ge W l.length 0 5
  have hsize : (bytesRow ⟨l.toArray⟩ (grownCap W l.length 0 5)).size = grownCap W l.length 0 5 := by
    unfold bytesRow
    rw [hsz]
    simp
    omega
  refine ⟨_, _, _, _, h, heap_new W.drew _, Nat.le_refl _, hsize, hge, ?_, (Below.refl _ _).drew.alloc (Nat.le_refl _) _⟩
  unfold bytesRow
  have e : (l.toArray.map fun b => Value.int IntKind.u8 (b.toNat : Int)).toList = l.flatMap bt := by
    rw [Array.toList_map]
    exact map_bt l
  rw [Array.toList_append, e, List.take_left']
  have := row_len bt_one l
  omega
/-- What a region reads of a disk's box. -/
abbrev PtS0 (w : World) (b : Nat) (v1 v2 : Value) : Prop := w.cell? ⟨b, 0, none⟩ = some v1 ∧ w.cell? ⟨b, 1, none⟩ = some v2
theorem ptS0_step {w w' : World} {b : Nat} {v1 v2 : Value} (h : PtS0 w b v1 v2) (hb : Below w.heap.size w w') : PtS0 w' b v1 v2 := ⟨cell_later hb h.1, cell_later hb h.2⟩
theorem ptS0_two {w : World} {b g : Nat} {v1 v2 : Value} (hne : b ≠ g) (h : PtS0 w b v1 v2) (u1 u2 : Value) : PtS0 ((w.setCell ⟨g, 0, none⟩ u1).setCell ⟨g, 1, none⟩ u2) b v1 v2 :=
  ⟨by rw [cell_other hne, cell_other hne]; exact h.1, by rw [cell_other hne, cell_other hne]; exact h.2⟩
theorem put_len (r : Rc) : r.ptx.length ≤ 300 := by
  unfold Rc.ptx
  split
  · rename_i h
    unfold Rc.txt
    by_cases hk : r.k = 2
    · rw [if_pos hk]
      have hp := (Rc.seal h hk).1
      have hlen := Lib.itoa_length_le r.p (by omega) (by omega)
      simp [sealL]
      omega
    · rw [if_neg hk]
      obtain ⟨_, ha, _, he⟩ := Rc.write h hk
      have hlen := Lib.itoa_length_le r.a (by omega) (by omega)
      have hlen2 := txt_len r.e he
      simp
      omega
  · simp
set_option linter.unusedSimpArgs false in
set_option maxHeartbeats 8000000 in
set_option maxRecDepth 100000 in
theorem put_at (a1 a2 : Option Addr) (n1 n2 c1 c2 : Nat) (s t : List UInt8) (c : Rc) (w : World) (hL : Laid w) (h : DiskR w (.slice a1 n1 c1) (.slice a2 n2 c2) (s, t)) (hs : s.length = n1) (ht : t.length = n2) (hn1 : s.length ≤ topLen) (hn2 : t.length ≤ topLen) :
    AnsR 129 (.slice a1 n1 c1) (.slice a2 n2 c2) #[.agg #[.slice a1 n1 c1, .slice a2 n2 c2], c.val] w (dput s t c) := by
  have hB := grew (grew (grew (Below.refl w.heap.size w) (boxD (.slice a1 n1 c1) (.slice a2 n2 c2))) (boxRc c)) (boxD nilB nilB)
  have hbD : (((w.alloc (boxD (.slice a1 n1 c1) (.slice a2 n2 c2))).alloc (boxRc c)).alloc (boxD nilB nilB)).heap[w.heap.size]? = some (boxD (.slice a1 n1 c1) (.slice a2 n2 c2)) := heap_old (heap_old (heap_new _ _) _) _
  have hbC : (((w.alloc (boxD (.slice a1 n1 c1) (.slice a2 n2 c2))).alloc (boxRc c)).alloc (boxD nilB nilB)).heap[w.heap.size + 1]? = some (boxRc c) := by
    have := heap_old (heap_new (w.alloc (boxD (.slice a1 n1 c1) (.slice a2 n2 c2))) (boxRc c)) (boxD nilB nilB)
    rwa [World.size_alloc] at this
  have hbZ : (((w.alloc (boxD (.slice a1 n1 c1) (.slice a2 n2 c2))).alloc (boxRc c)).alloc (boxD nilB nilB)).heap[w.heap.size + 2]? = some (boxD nilB nilB) := by
    have := heap_new ((w.alloc (boxD (.slice a1 n1 c1) (.slice a2 n2 c2))).alloc (boxRc c)) (boxD nilB nilB)
    rwa [World.size_alloc, World.size_alloc] at this
  have hck := diskCheck_any _ _ (s, t) _ (hL.later hB) (h.later hB) hn1 hn2
  have HPR : Aside (∀ W, Laid W → Calls Tryz.prog 165 #[c.val] W fun e w' => e = .returned (.tuple #[.string ⟨c.ptx.toArray⟩, .int .i64 c.chk]) ∧ Below W.heap.size W w') := fun W hW => notePrint_any c W hW
  have HB : Aside _ := hB
  have HL : Aside (Laid w) := hL
  have HH : Aside (DiskR w (.slice a1 n1 c1) (.slice a2 n2 c2) (s, t)) := h
  have HLn : Hid (s.length = n1 ∧ t.length = n2) := ⟨hs, ht⟩
  have HPT : Hid (c.chk = 0 → c.ptx = c.txt) := fun h => by rw [Rc.ptx, if_pos h]
  obtain ⟨rr, HRR⟩ : ∃ rr, Hid (dput s t c = rr) := ⟨_, rfl⟩
  rw [HRR.out]
  have HK0 : Hid (ckDisk s t ≠ 0 → rr = (([], []), ckDisk s t)) := fun h => by rw [← HRR.out, dput, if_pos h]
  have HK1 : Hid (ckDisk s t = 0 → c.chk ≠ 0 → rr = (([], []), c.chk)) := fun h h' => by rw [← HRR.out, dput, if_neg (by rw [h]; simp), putOn, if_pos h']
  have HK2 : Hid (ckDisk s t = 0 → c.chk = 0 → 30000 < s.length + t.length + c.txt.length + 1 → rr = (([], []), 2)) := fun h h' hl => by rw [← HRR.out, dput, if_neg (by rw [h]; simp), putOn, if_neg (by rw [h']; simp), if_pos hl]
  have HK3 : Hid (ckDisk s t = 0 → c.chk = 0 → ¬ 30000 < s.length + t.length + c.txt.length + 1 → rr = ((s, t ++ (c.txt ++ [10])), 0)) := fun h h' hl => by rw [← HRR.out, dput, if_neg (by rw [h]; simp), putOn, if_neg (by rw [h']; simp), if_neg hl]
  have HKL : Hid (ckDisk s t = 0 → n1 + n2 ≤ 30000) := fun h => by have := (ckDisk_zero.1 h).1; omega
  have hTL : Hid (c.ptx.length ≤ 300) := put_len c
  change Calls _ _ _ _ fun e w' => e = .returned (.int .i64 (ckDisk s t)) ∧ _ at hck
  clear hB h hs ht hL HRR
  generalize ckDisk s t = k at *
  generalize c.chk = d at *
  go_enter Tryz.func129, Tryz.ntmps129
  have d0 : ∀ i, (((w.alloc (boxD (.slice a1 n1 c1) (.slice a2 n2 c2))).alloc (boxRc c)).alloc (boxD nilB nilB)).cell? ⟨w.heap.size, i, none⟩ = #[Value.slice a1 n1 c1, .slice a2 n2 c2][i]? := fun i => Joins.cell_of_block hbD i
  go_wp2_with fail
  refine hck.mono ?_
  rintro e w1 ⟨rfl, hb1⟩
  have hB1 : Aside (Below w.heap.size w w1) := HB.out.trans (hb1.mono HB.out.size)
  have hD1 := heap_below hbD hb1 (heap_lt hbD)
  have hC1 := heap_below hbC hb1 (heap_lt hbC)
  have hZ1 := heap_below hbZ hb1 (heap_lt hbZ)
  have HZ1 : Aside (w1.heap[w.heap.size + 2]? = some (boxD nilB nilB)) := hZ1
  have HD1 : Aside (w1.heap[w.heap.size]? = some (boxD (.slice a1 n1 c1) (.slice a2 n2 c2))) := hD1
  have z1 : ∀ i, w1.cell? ⟨w.heap.size + 2, i, none⟩ = #[nilB, nilB][i]? := fun i => Joins.cell_of_block hZ1 i
  have f1 : ∀ i, w1.frozen? ⟨w.heap.size + 2, i, none⟩ = false := fun i => Joins.unfrozen_of_block hZ1 i
  have r1 : ∀ i, w1.cell? ⟨w.heap.size + 1, i, none⟩ = #[Value.int .i64 c.k, .int .i64 c.a, .int .i64 c.p, .int .i64 c.e.k, .int .i64 c.e.j, .int .i64 c.e.v, .int .i64 c.e.t, .int .i64 c.e.c][i]? := fun i => Joins.cell_of_block hC1 i
  clear hck hb1 hbD hbC hbZ HB hD1 hC1 hZ1 d0
  by_cases hk : k = 0
  · subst hk
    have hpr := HPR.out w1 (HL.out.later hB1.out)
    have hn12 : n1 + n2 ≤ 30000 := HKL.out rfl
    have HF1 : Hid (d ≠ 0 → rr = (([], []), d)) := HK1.out rfl
    have HF2 : Hid (d = 0 → 30000 < s.length + t.length + c.txt.length + 1 → rr = (([], []), 2)) := HK2.out rfl
    have HF3 : Hid (d = 0 → ¬ 30000 < s.length + t.length + c.txt.length + 1 → rr = ((s, t ++ (c.txt ++ [10])), 0)) := HK3.out rfl
    clear HK0 HK1 HK2 HK3 HKL z1 f1
    go_wp2_with fail
    refine hpr.mono ?_
    rintro e w2 ⟨rfl, hb2⟩
    have hB2 : Aside (Below w.heap.size w w2) := hB1.out.trans (hb2.mono hB1.out.size)
    have hD2 := heap_below HD1.out hb2 (heap_lt HD1.out)
    have hZ2 := heap_below HZ1.out hb2 (heap_lt HZ1.out)
    have hzl := heap_lt hZ2
    have HD2 : Aside (w2.heap[w.heap.size]? = some (boxD (.slice a1 n1 c1) (.slice a2 n2 c2))) := hD2
    have HZ2 : Aside (w2.heap[w.heap.size + 2]? = some (boxD nilB nilB)) := hZ2
    have d2 : ∀ i, w2.cell? ⟨w.heap.size, i, none⟩ = #[Value.slice a1 n1 c1, .slice a2 n2 c2][i]? := fun i => Joins.cell_of_block hD2 i
    have z2 : ∀ i, w2.cell? ⟨w.heap.size + 2, i, none⟩ = #[nilB, nilB][i]? := fun i => Joins.cell_of_block hZ2 i
    have f2 : ∀ i, w2.frozen? ⟨w.heap.size + 2, i, none⟩ = false := fun i => Joins.unfrozen_of_block hZ2 i
    clear hpr hb2 r1 hB1 HD1 HZ1 HPR hD2 hZ2
    by_cases hd : d = 0
    · have HG2 : Hid (30000 < s.length + t.length + c.txt.length + 1 → rr = (([], []), 2)) := HF2.out hd
      have HG3 : Hid (¬ 30000 < s.length + t.length + c.txt.length + 1 → rr = ((s, t ++ (c.txt ++ [10])), 0)) := HF3.out hd
      clear HF2 HF3
      subst hd
      have hpt := HPT.out rfl
      have hTL' := hTL.out
      rw [hpt] at hTL'
      rw [hpt]
      clear HF1 HPT hpt hTL z2 f2 d2
      generalize c.txt = tx at *
      obtain ⟨n3, hn3⟩ : ∃ n3, tx.length = n3 := ⟨_, rfl⟩
      have HN3 : Hid (tx.length = n3) := hn3
      obtain ⟨cap, cur, fz, W3, hcv, hg3, hfz, hcs, hnc, hxs, hb3⟩ := of_text tx w2
      rw [hn3] at hcv hnc hxs hTL'
      clear hn3
      have hb4 : Below w2.heap.size w2 (W3.alloc (.cells #[.int .u8 10] 5)) := hb3.trans ((grew (Below.refl W3.heap.size W3) _).mono hb3.size)
      have hg4 : (W3.alloc (.cells #[.int .u8 10] 5)).heap[w2.heap.size]? = some (.cells cur 5 fz) := heap_old hg3 _
      have hn4 : ∀ j u, [Value.int .u8 10][j]? = some u → (W3.alloc (.cells #[.int .u8 10] 5)).cell? ((⟨W3.heap.size, 0, none⟩ : Addr).add j) = some u := fun j u hj => by
        rw [Lib.add_plain, Nat.zero_add, Joins.cell_of_block (heap_new W3 _)]
        simpa using hj
      obtain ⟨i0, hi, hz0, hz1, hz2⟩ := info_parts infoY
      have hlt1 : n3 + 1 ≤ 1000000 := by omega
      go_wp2_with (at_builtin; refine wpList_append_marked rfl _ _ 45 rfl 5 i0 (.int .u8 0) Tryz.underlying45 hi hz0 hz1 hz2 w2.heap.size n3 cap cur fz hg4 hfz hcs hnc _ hxs rfl ⟨W3.heap.size, 0, none⟩ 1 1 rfl [.int .u8 10] rfl hn4 (by simp [Value.oneCell']) hlt1 w2.heap.size w2 hb4 (Nat.le_refl _) ?_)
      intro v4 w4 g4 cap4 HA
      have HLN : Aside (ByteSl w4 (.slice (some ⟨g4, 0, none⟩) (n3 + 1) cap4) (tx ++ [10])) := by
        have hl : (tx ++ [10]).length = n3 + 1 := by rw [List.length_append, HN3.out]; rfl
        refine ⟨_, cap4, by rw [hl], Or.inr ⟨g4, 0, rfl, fun j x hj i u hi => ?_⟩⟩
        have := HA.cells (j * 1 + i) u (by
          have := row_flat bt_one (tx ++ [10]) j x hj i u hi
          rw [List.flatMap_append] at this
          exact this)
        rw [Nat.zero_add]
        exact this
      have hb24 := HA.below
      obtain rfl := HA.out
      have hB4 : Aside (Below w.heap.size w w4) := hB2.out.trans (hb24.mono hB2.out.size)
      have hD4 := heap_below HD2.out hb24 (heap_lt HD2.out)
      have hZ4 := heap_below HZ2.out hb24 (heap_lt HZ2.out)
      have HZ4 : Aside (w4.heap[w.heap.size + 2]? = some (boxD nilB nilB)) := hZ4
      have hltz := heap_lt hZ4
      have d4 : ∀ i, w4.cell? ⟨w.heap.size, i, none⟩ = #[Value.slice a1 n1 c1, .slice a2 n2 c2][i]? := fun i => Joins.cell_of_block hD4 i
      clear hcv hg3 hfz hcs hnc hxs hb3 hb4 hg4 hn4 hi hz0 hz1 hz2 HA hb24 hB2 HD2 HZ2 hD4 hzl
      by_cases hlong : 30000 < n1 + n2 + n3 + 1
      · have HF : Hid (rr = (([], []), 2)) := HG2.out (by rw [HLn.out.1, HLn.out.2, HN3.out]; exact hlong)
        have hgt : 30000 < (n1 : Int) + (n2 : Int) + ((n3 : Int) + 1) := by omega
        have z4 : ∀ i, w4.cell? ⟨w.heap.size + 2, i, none⟩ = #[nilB, nilB][i]? := fun i => Joins.cell_of_block hZ4 i
        have f4 : ∀ i, w4.frozen? ⟨w.heap.size + 2, i, none⟩ = false := fun i => Joins.unfrozen_of_block hZ4 i
        have hA := answered HZ4.out (by omega) hB4.out (Mk.none w w4) (Mk.none w w4) (.slice a1 n1 c1) (.slice a2 n2 c2)
        have HA : Aside _ := hA
        clear hA hZ4 HG2 HG3 hlong
        go_wp2
        exact ret_dk (v1 := nilB) (v2 := nilB) Tryz.results129 rfl rfl rfl (disk_stored HZ4.out _ _) ⟨nilB, nilB, by rw [HF.out]; rfl, by rw [HF.out]; exact HA.out.1, HA.out.2⟩
      · have HF : Hid (rr = ((s, t ++ (tx ++ [10])), 0)) := HG3.out (by rw [HLn.out.1, HLn.out.2, HN3.out]; exact hlong)
        have hgd : decide (30000 < (n1 : Int) + (n2 : Int) + ((n3 : Int) + 1)) = false := by rw [decide_eq_false_iff_not]; omega
        have HLE : Hid (n1 + n2 + n3 + 1 ≤ 30000) := by rw [Hid]; omega
        have hb41 : n1 ≤ 30000 := by omega
        have hb42 : n2 ≤ 30000 := by omega
        clear HG2 HG3 hZ4 hlong hn12 hlt1
        go_wp2_with fail
        refine wp_region_held_drew (S := fun w' => PtS0 w' w.heap.size (.slice a1 n1 c1) (.slice a2 n2 c2)) (by kernel_rfl) (⟨d4 0, d4 1⟩) (fun hHeld => ?_)
        refine wpAnyH_take (i := 0) (oi := ?oi0) (v := ?v0) ?hi0 ?hs0 ?hf0 ?hr0 ?hQ0 (Or.inl ⟨?hw0, ?hy0⟩) (by assumption) ?h0
        case hi0 => (simp only [List.getElem?_toArray, List.getElem?_cons_succ, List.getElem?_cons_zero]; rfl)
        case hs0 => kernel_rfl
        case hf0 => kernel_rfl
        case hr0 => kernel_rfl
        case hw0 => rfl
        case hy0 => (intro w0 hSw; (try dsimp only at hSw); go_simp; first | done | with_reducible rfl)
        case hQ0 => exact fun _ _ _ h => h
        try simp only [Act.put, List.setIfInBounds_toArray, List.set_cons_zero, List.set_cons_succ]
        refine wpAnyH_take (i := 1) (oi := ?oi1) (v := ?v1) ?hi1 ?hs1 ?hf1 ?hr1 ?hQ1 (Or.inl ⟨?hw1, ?hy1⟩) (by assumption) ?h1
        case hi1 => (simp only [List.getElem?_toArray, List.getElem?_cons_succ, List.getElem?_cons_zero]; rfl)
        case hs1 => kernel_rfl
        case hf1 => kernel_rfl
        case hr1 => kernel_rfl
        case hw1 => rfl
        case hy1 => (intro w0 hSw; (try dsimp only at hSw); go_simp; first | done | with_reducible rfl)
        case hQ1 => exact fun _ _ _ h => h
        try simp only [Act.put, List.setIfInBounds_toArray, List.set_cons_zero, List.set_cons_succ]
        refine wpAnyH_take (i := 3) (oi := ?oi3) (v := ?v3) ?hi3 ?hs3 ?hf3 ?hr3 ?hQ3 (Or.inl ⟨?hw3, ?hy3⟩) (by assumption) ?h3
        case hi3 => (simp only [List.getElem?_toArray, List.getElem?_cons_succ, List.getElem?_cons_zero]; rfl)
        case hs3 => kernel_rfl
        case hf3 => kernel_rfl
        case hr3 => kernel_rfl
        case hw3 => rfl
        case hy3 => (intro w0 hSw; (try dsimp only at hSw); go_simp; first | done | with_reducible rfl)
        case hQ3 => exact fun _ _ _ h => h
        try simp only [Act.put, List.setIfInBounds_toArray, List.set_cons_zero, List.set_cons_succ]
        refine wpAnyH_take (i := 4) (oi := ?oi4) (v := ?v4) ?hi4 ?hs4 ?hf4 ?hr4 ?hQ4 (Or.inl ⟨?hw4, ?hy4⟩) (by assumption) ?h4
        case hi4 => (simp only [List.getElem?_toArray, List.getElem?_cons_succ, List.getElem?_cons_zero]; rfl)
        case hs4 => kernel_rfl
        case hf4 => kernel_rfl
        case hr4 => kernel_rfl
        case hw4 => rfl
        case hy4 => (intro w0 hSw; (try dsimp only at hSw); go_simp; first | done | with_reducible rfl)
        case hQ4 => exact fun _ _ _ h => h
        try simp only [Act.put, List.setIfInBounds_toArray, List.set_cons_zero, List.set_cons_succ]
        refine wpAnyH_take (i := 5) (oi := ?oi5) (v := ?v5) ?hi5 ?hs5 ?hf5 ?hr5 ?hQ5 (Or.inl ⟨?hw5, ?hy5⟩) (by assumption) ?h5
        case hi5 => (simp only [List.getElem?_toArray, List.getElem?_cons_succ, List.getElem?_cons_zero]; rfl)
        case hs5 => kernel_rfl
        case hf5 => kernel_rfl
        case hr5 => kernel_rfl
        case hw5 => rfl
        case hy5 => (intro w0 hSw; (try dsimp only at hSw); go_simp; first | done | with_reducible rfl)
        case hQ5 => exact fun _ _ _ h => h
        try simp only [Act.put, List.setIfInBounds_toArray, List.set_cons_zero, List.set_cons_succ]
        have hX0 : Aside (Below w.heap.size w w4.drew) := hB4.out.drew
        have hZ0 : Aside (w4.drew.heap[w.heap.size + 2]? = some (boxD nilB nilB)) := HZ4.out
        have hl0 : Aside (ByteSl w4.drew (.slice (some ⟨g4, 0, none⟩) (n3 + 1) cap4) (tx ++ [10])) := HLN.out.later (Below.refl _ w4).drew
        have hs0 : Aside (ByteSl w4.drew (.slice a1 n1 c1) s) := HH.out.safe.later hX0.out
        have ht0 : Aside (ByteSl w4.drew (.slice a2 n2 c2) t) := HH.out.wait.later hX0.out
        have hz0 : w.heap.size + 2 < w4.drew.heap.size := hltz
        clear HZ4 hB4 HLN d4 HH hltz
        generalize w4.drew = X0 at *
        have hcp : ∀ X, Below X0.heap.size X0 X → Calls Tryz.prog 166 #[.slice a1 n1 c1] X fun e w' => ∃ u g, e = .returned u ∧ Own1 X w' u s g := fun X hX => copyOfY _ s X (hs0.out.later hX) (by rw [HLn.out.1]; omega)
        have hjn : ∀ X, Below X0.heap.size X0 X → Calls Tryz.prog 167 #[.slice a2 n2 c2, .slice (some ⟨g4, 0, none⟩) (n3 + 1) cap4] X fun e w' => ∃ u g, e = .returned u ∧ Own1 X w' u (t ++ (tx ++ [10])) g := fun X hX => joinY _ _ t (tx ++ [10]) X (ht0.out.later hX) (hl0.out.later hX) (by have := HLE.out; rw [List.length_append, HLn.out.2, HN3.out]; show n2 + (n3 + 1) ≤ 1000000; omega)
        have HS : Hid (w.heap.size ≤ X0.heap.size) := hX0.out.size
        clear hs0 ht0 hl0
        refine wpAnyH_ready (rs := [2]) (by kernel_rfl) (by simp) ?_
        refine AllReadyH.cons (o := ?o2a) ?hi2a ?step2a AllReadyH.nil
        case hi2a => (simp only [List.getElem?_toArray, List.getElem?_cons_succ, List.getElem?_cons_zero]; rfl)
        intro K hK
        go_simp
        refine (hcp X0 (Below.refl _ _)).mono ?_
        rintro e X1 ⟨u1, g1, rfl, ho1⟩
        refine hK.out _ _ (ptS0_step hHeld ho1.below) (fun hHeld => ?_)
        clear hK K
        try simp only [Act.put, List.setIfInBounds_toArray, List.set_cons_zero, List.set_cons_succ]
        refine wpAnyH_ready (rs := [6]) (by kernel_rfl) (by simp) ?_
        refine AllReadyH.cons (o := ?o6a) ?hi6a ?step6a AllReadyH.nil
        case hi6a => (simp only [List.getElem?_toArray, List.getElem?_cons_succ, List.getElem?_cons_zero]; rfl)
        intro K hK
        go_simp
        refine (hjn X1 ho1.below).mono ?_
        rintro e X9 ⟨u2, g2, rfl, ho2⟩
        refine hK.out _ _ (ptS0_step hHeld ho2.below) (fun hHeld => ?_)
        clear hK K
        try simp only [Act.put, List.setIfInBounds_toArray, List.set_cons_zero, List.set_cons_succ]
        have hX9 : Below X0.heap.size X0 X9 := ho1.below.trans (ho2.below.mono ho1.below.size)
        have m1 : Mk w X9 u1 s := (Mk.of ho1 HS.out).later ho2.below
        have m2 : Mk w X9 u2 (t ++ (tx ++ [10])) := Mk.of ho2 (Nat.le_trans HS.out ho1.below.size)
        clear ho1 ho2
        have hZ9 := heap_below hZ0.out hX9 hz0
        have hB9 : Aside (Below w.heap.size w X9) := hX0.out.trans (hX9.mono hX0.out.size)
        have hlt9 := heap_lt hZ9
        have HZ9 : Aside (X9.heap[w.heap.size + 2]? = some (boxD nilB nilB)) := hZ9
        have HAN : Aside _ := answered HZ9.out (by omega) hB9.out m1 m2 (.slice a1 n1 c1) (.slice a2 n2 c2)
        have z9 : ∀ i, X9.cell? ⟨w.heap.size + 2, i, none⟩ = #[nilB, nilB][i]? := fun i => Joins.cell_of_block hZ9 i
        have f9 : ∀ i, X9.frozen? ⟨w.heap.size + 2, i, none⟩ = false := fun i => Joins.unfrozen_of_block hZ9 i
        obtain ⟨b1, q1, rfl, _⟩ := m1.form
        obtain ⟨b2, q2, rfl, _⟩ := m2.form
        obtain ⟨x1, hx1⟩ : ∃ x1 : Nat, s.length = x1 := ⟨_, rfl⟩
        obtain ⟨x2, hx2⟩ : ∃ x2 : Nat, (t ++ (tx ++ [10])).length = x2 := ⟨_, rfl⟩
        rw [hx1, hx2] at HAN
        rw [hx1, hx2]
        clear hx1 hx2 m1 m2 hX9 hZ9 hcp hjn
        refine wpAnyH_take (i := 7) (oi := ?oi7a) (v := ?v7a) ?hi7a ?hs7a ?hf7a ?hr7a ?hQ7a (Or.inl ⟨?hw7a, ?hy7a⟩) (by assumption) ?h7a
        case hi7a => (simp only [List.getElem?_toArray, List.getElem?_cons_succ, List.getElem?_cons_zero]; rfl)
        case hs7a => kernel_rfl
        case hf7a => kernel_rfl
        case hr7a => kernel_rfl
        case hw7a => rfl
        case hy7a => (intro w0 hSw; (try dsimp only at hSw); go_simp; first | done | with_reducible rfl)
        case hQ7a => exact fun _ _ _ h => h
        try simp only [Act.put, List.setIfInBounds_toArray, List.set_cons_zero, List.set_cons_succ]
        refine wpAnyH_ready (rs := [8]) (by kernel_rfl) (by simp) ?_
        refine AllReadyH.cons (o := ?o8a) ?hi8a ?step8a AllReadyH.nil
        case hi8a => (simp only [List.getElem?_toArray, List.getElem?_cons_succ, List.getElem?_cons_zero]; rfl)
        intro K hK
        go_simp
        refine hK.out _ _ (ptS0_two (by omega) hHeld _ _) (fun hHeld => ?_)
        clear hK K
        try simp only [Act.put, List.setIfInBounds_toArray, List.set_cons_zero, List.set_cons_succ]
        refine wpAnyH_take (i := 9) (oi := ?oi9a) (v := ?v9a) ?hi9a ?hs9a ?hf9a ?hr9a ?hQ9a (Or.inl ⟨?hw9a, ?hy9a⟩) (by assumption) ?h9a
        case hi9a => (simp only [List.getElem?_toArray, List.getElem?_cons_succ, List.getElem?_cons_zero]; rfl)
        case hs9a => kernel_rfl
        case hf9a => kernel_rfl
        case hr9a => kernel_rfl
        case hw9a => rfl
        case hy9a => (intro w0 hSw; (try dsimp only at hSw); go_simp; first | done | with_reducible rfl)
        case hQ9a => exact fun _ _ _ h => h
        try simp only [Act.put, List.setIfInBounds_toArray, List.set_cons_zero, List.set_cons_succ]
        refine wpAnyH_done (by kernel_rfl) ?_ _
        go_wp2
        exact ret_dk (v1 := .slice b1 x1 q1) (v2 := .slice b2 x2 q2) Tryz.results129 rfl rfl rfl (disk_stored HZ9.out _ _) ⟨_, _, by rw [HF.out]; rfl, by rw [HF.out]; exact HAN.out.1, HAN.out.2⟩
    · have HF : Hid (rr = (([], []), d)) := HF1.out hd
      have hdb : (d != 0) = true := by rw [bne_iff_ne]; exact hd
      have HA : Aside _ := answered HZ2.out (by omega) hB2.out (Mk.none w w2) (Mk.none w w2) (.slice a1 n1 c1) (.slice a2 n2 c2)
      clear HF1 HF2 HF3 HPT hd d2
      go_wp2
      exact ret_dk (v1 := nilB) (v2 := nilB) Tryz.results129 rfl rfl rfl (disk_stored HZ2.out _ _) ⟨nilB, nilB, by rw [HF.out]; rfl, by rw [HF.out]; exact HA.out.1, HA.out.2⟩
  · have HF : Hid (rr = (([], []), k)) := HK0.out hk
    have hkb : (k != 0) = true := by rw [bne_iff_ne]; exact hk
    have hlt1 := heap_lt HZ1.out
    have HA : Aside _ := answered HZ1.out (by omega) hB1.out (Mk.none w w1) (Mk.none w w1) (.slice a1 n1 c1) (.slice a2 n2 c2)
    clear HK0 HK1 HK2 HK3 HKL hk r1
    go_wp2
    exact ret_dk (v1 := nilB) (v2 := nilB) Tryz.results129 rfl rfl rfl (disk_stored HZ1.out _ _) ⟨nilB, nilB, by rw [HF.out]; rfl, by rw [HF.out]; exact HA.out.1, HA.out.2⟩
theorem diskPut_any (v1 v2 : Value) (d : Dk) (c : Rc) (W : World) (hL : Laid W) (h : DiskR W v1 v2 d) (hn1 : d.1.length ≤ topLen) (hn2 : d.2.length ≤ topLen) : AnsR 129 v1 v2 #[.agg #[v1, v2], c.val] W (dput d.1 d.2 c) := by
  obtain ⟨s, t⟩ := d
  have h' := h
  obtain ⟨a1, c1, rfl, _⟩ := h.safe
  obtain ⟨a2, c2, rfl, _⟩ := h.wait
  exact put_at a1 a2 _ _ c1 c2 s t c W hL h' rfl rfl hn1 hn2
end Go.Proofs.YtmoaobfmopimlafGreatDoor
namespace Go.Proofs.YtmoaobfmopimlafGreatDoor
open Go.RowKit
theorem ret_dk3 {fn : Func} {R : Ending → World → Prop} {a : Act} {W : World} {b p q r : Nat} {v1 v2 x y : Value} (hf : fn.results = #[.cell p 47, .tmp q, .tmp r]) (hd : a.defers = [])
    (h2 : a.tmps.getD p undef = .pointer (some ⟨b, 0, none⟩)) (h3 : a.tmps.getD q undef = x) (h4 : a.tmps.getD r undef = y) (hR : W.heap[b]? = some (boxD v1 v2)) (hp : R (.returned (.tuple #[.agg #[v1, v2], x, y])) W) :
    bodyPost Tryz.prog fn R .ret a W := by
  have c0 : ∀ i, W.cell? ⟨b, i, none⟩ = #[v1, v2][i]? := fun i => Joins.cell_of_block hR i
  have h2' : a.tmps[p]?.getD undef = .pointer (some ⟨b, 0, none⟩) := by simpa using h2
  have h3' : a.tmps[q]?.getD undef = x := by simpa using h3
  have h4' : a.tmps[r]?.getD undef = y := by simpa using h4
  refine bodyPost_ret (v := .tuple #[.agg #[v1, v2], x, y]) ?_ hd hp
  simp [results, hf, h2', h3', h4', go_sem, c0]
/-- Answers a disk, its records and what is wrong. -/
abbrev AnsV (v1 v2 : Value) (w : World) (r : Dk × List Rc × Int) : Prop :=
  Calls Tryz.prog 143 #[.agg #[v1, v2]] w fun e w' => ∃ u1 u2 u3, e = .returned (.tuple #[.agg #[u1, u2], u3, .int .i64 r.2.2]) ∧ DiskR w' u1 u2 r.1 ∧ RecSl w' u3 r.2.1 ∧ Below w.heap.size w w' ∧ Roomy u3
/-- Records beside a disk's box. -/
theorem recs_two {W : World} {b : Nat} {u1 u2 v : Value} {l : List Rc} (h : RecSl W v l) (hb : W.heap[b]? = some (boxD nilB nilB)) (hu1 : ∃ a n c, u1 = .slice a n c) (hu2 : ∃ a n c, u2 = .slice a n c) : RecSl ((W.setCell ⟨b, 0, none⟩ u1).setCell ⟨b, 1, none⟩ u2) v l := by
  obtain ⟨a, n, c, rfl⟩ := hu1
  obtain ⟨a', n', c', rfl⟩ := hu2
  exact bytes_two hb rc_num h
set_option linter.unusedSimpArgs false in
set_option maxHeartbeats 8000000 in
set_option maxRecDepth 100000 in
theorem recover_at (a1 a2 : Option Addr) (n1 n2 c1 c2 : Nat) (s t : List UInt8) (w : World) (hL : Laid w) (h : DiskR w (.slice a1 n1 c1) (.slice a2 n2 c2) (s, t)) (hs : s.length = n1) (ht : t.length = n2) (hn1 : s.length ≤ topLen) (hn2 : t.length ≤ topLen) :
    AnsV (.slice a1 n1 c1) (.slice a2 n2 c2) w (drecover s t) := by
  have hB := grew (grew (Below.refl w.heap.size w) (boxD (.slice a1 n1 c1) (.slice a2 n2 c2))) (boxD nilB nilB)
  have hbD : ((w.alloc (boxD (.slice a1 n1 c1) (.slice a2 n2 c2))).alloc (boxD nilB nilB)).heap[w.heap.size]? = some (boxD (.slice a1 n1 c1) (.slice a2 n2 c2)) := heap_old (heap_new _ _) _
  have hbZ : ((w.alloc (boxD (.slice a1 n1 c1) (.slice a2 n2 c2))).alloc (boxD nilB nilB)).heap[w.heap.size + 1]? = some (boxD nilB nilB) := by
    have := heap_new (w.alloc (boxD (.slice a1 n1 c1) (.slice a2 n2 c2))) (boxD nilB nilB)
    rwa [World.size_alloc] at this
  have hck := diskCheck_any _ _ (s, t) _ (hL.later hB) (h.later hB) hn1 hn2
  have HB : Aside _ := hB
  have HL : Aside (Laid w) := hL
  have HH : Aside (DiskR w (.slice a1 n1 c1) (.slice a2 n2 c2) (s, t)) := h
  have HLn : Hid (s.length = n1 ∧ t.length = n2) := ⟨hs, ht⟩
  obtain ⟨rr, HRR⟩ : ∃ rr, Hid (drecover s t = rr) := ⟨_, rfl⟩
  rw [HRR.out]
  have HK0 : Hid (ckDisk s t ≠ 0 → rr = (([], []), [], ckDisk s t)) := fun h => by rw [← HRR.out, drecover, if_pos h]
  have HK1 : Hid (ckDisk s t = 0 → rr = ((((s ++ t).take (linesOf (s ++ t) 160).2.1), []), (linesOf (s ++ t) 160).1, 0) ∧ (linesOf (s ++ t) 160).2.1 ≤ (s ++ t).length) := fun h => by
    obtain ⟨e1, e2, e3⟩ := lines_both (t := t) (ckDisk_zero.1 h).2
    refine ⟨?_, e3⟩
    rw [← HRR.out, drecover, if_neg (by rw [h]; simp), e1, e2]
    rfl
  have HKL : Hid (ckDisk s t = 0 → n1 + n2 ≤ 30000) := fun h => by have := (ckDisk_zero.1 h).1; omega
  change Calls _ _ _ _ fun e w' => e = .returned (.int .i64 (ckDisk s t)) ∧ _ at hck
  clear hB h hs ht hL HRR hn1 hn2
  generalize ckDisk s t = k at *
  go_enter Tryz.func143, Tryz.ntmps143
  have d0 : ∀ i, ((w.alloc (boxD (.slice a1 n1 c1) (.slice a2 n2 c2))).alloc (boxD nilB nilB)).cell? ⟨w.heap.size, i, none⟩ = #[Value.slice a1 n1 c1, .slice a2 n2 c2][i]? := fun i => Joins.cell_of_block hbD i
  go_wp2_with fail
  refine hck.mono ?_
  rintro e w1 ⟨rfl, hb1⟩
  have hB1 : Aside (Below w.heap.size w w1) := HB.out.trans (hb1.mono HB.out.size)
  have hD1 := heap_below hbD hb1 (heap_lt hbD)
  have hZ1 := heap_below hbZ hb1 (heap_lt hbZ)
  have hlz1 := heap_lt hZ1
  have HZ1 : Aside (w1.heap[w.heap.size + 1]? = some (boxD nilB nilB)) := hZ1
  have HD1 : Aside (w1.heap[w.heap.size]? = some (boxD (.slice a1 n1 c1) (.slice a2 n2 c2))) := hD1
  have d1 : ∀ i, w1.cell? ⟨w.heap.size, i, none⟩ = #[Value.slice a1 n1 c1, .slice a2 n2 c2][i]? := fun i => Joins.cell_of_block hD1 i
  have z1 : ∀ i, w1.cell? ⟨w.heap.size + 1, i, none⟩ = #[nilB, nilB][i]? := fun i => Joins.cell_of_block hZ1 i
  have f1 : ∀ i, w1.frozen? ⟨w.heap.size + 1, i, none⟩ = false := fun i => Joins.unfrozen_of_block hZ1 i
  clear hck hb1 hbD hbZ HB hD1 hZ1 d0
  by_cases hk : k = 0
  · have HF0 : Hid (rr = ((((s ++ t).take (linesOf (s ++ t) 160).2.1), []), (linesOf (s ++ t) 160).1, 0) ∧ (linesOf (s ++ t) 160).2.1 ≤ (s ++ t).length) := HK1.out hk
    have hn12 : n1 + n2 ≤ 30000 := HKL.out hk
    have hkb : (k != 0) = false := by rw [hk]; rfl
    have hjn := joinY _ _ s t w1 (HH.out.safe.later hB1.out) (HH.out.wait.later hB1.out) (by rw [HLn.out.1, HLn.out.2]; omega)
    have HLE : Hid ((s ++ t).length ≤ 30000) := by rw [Hid, List.length_append, HLn.out.1, HLn.out.2]; exact hn12
    clear HK0 HK1 HKL z1 f1 hn12 hk
    go_wp2_with fail
    refine hjn.mono ?_
    rintro e w2 ⟨u, g, rfl, ho⟩
    have hb2 := ho.below
    have hB2 : Aside (Below w.heap.size w w2) := hB1.out.trans (hb2.mono hB1.out.size)
    have HZ2 : Aside (w2.heap[w.heap.size + 1]? = some (boxD nilB nilB)) := heap_below HZ1.out hb2 hlz1
    have hsl : ByteSl w2 u (s ++ t) := ho.sl
    have hrd := diskRead_any u (s ++ t) w2 (HL.out.later hB2.out) hsl ho.roomy HLE.out
    have hou := ho.out
    have HSL : Aside (ByteSl w2 u (s ++ t)) := hsl
    clear hjn hb2 HZ1 HD1 hB1 d1 hsl hlz1 ho
    subst hou
    generalize (linesOf (s ++ t) 160).2.2 = x3 at *
    generalize (linesOf (s ++ t) 160).2.1 = kp at *
    generalize (linesOf (s ++ t) 160).1 = rs at *
    obtain ⟨N, hN⟩ : ∃ N : Nat, (s ++ t).length = N := ⟨_, rfl⟩
    rw [hN] at hrd HSL HF0 HLE ⊢
    clear hN
    go_wp2_with fail
    refine hrd.mono ?_
    rintro e w3 ⟨ur, rfl, hor, hb3⟩
    have hB3 : Below w.heap.size w w3 := hB2.out.trans (hb3.mono hB2.out.size)
    have hZ3 := heap_below HZ2.out hb3 (heap_lt HZ2.out)
    have hlz3 := heap_lt hZ3
    have hkN : kp ≤ N := HF0.out.2
    have hcp := copyOfY (.slice (some ⟨g, 0, none⟩) kp N) ((s ++ t).take kp) w3 ((HSL.out.later hb3).upto kp hkN) (by rw [List.length_take]; have := HLE.out; omega)
    have HRS : Aside (RecSl w3 ur rs) := slOf_of_owns Rc.eight hor
    have HRM : Aside (Roomy ur) := owns_roomy hor
    have HB3 : Aside _ := hB3
    have HZ3 : Aside (w3.heap[w.heap.size + 1]? = some (boxD nilB nilB)) := hZ3
    have hk0 : (0 : Int) ≤ (kp : Int) := by omega
    have hkc : (kp : Int) ≤ (N : Int) := by omega
    clear hrd hor hB3 hZ3 hb3 HSL HZ2 hB2
    go_wp2_with fail
    refine hcp.mono ?_
    rintro e w4 ⟨u4, g4, rfl, ho4⟩
    have hb4 := ho4.below
    have hB4 : Below w.heap.size w w4 := HB3.out.trans (hb4.mono HB3.out.size)
    have hZ4 := heap_below HZ3.out hb4 hlz3
    have m4 : Mk w w4 u4 ((s ++ t).take kp) := Mk.of ho4 HB3.out.size
    have HA : Aside _ := answered hZ4 (by omega) hB4 m4 (Mk.none w w4) (.slice a1 n1 c1) (.slice a2 n2 c2)
    have hf4 := m4.form
    have HR4 : Aside _ := recs_two (u1 := u4) (u2 := nilB) (HRS.out.later hb4) hZ4 (by obtain ⟨a, c, e, _⟩ := hf4; exact ⟨_, _, _, e⟩) ⟨_, _, _, rfl⟩
    have HZ4 : Aside (w4.heap[w.heap.size + 1]? = some (boxD nilB nilB)) := hZ4
    have z4 : ∀ i, w4.cell? ⟨w.heap.size + 1, i, none⟩ = #[nilB, nilB][i]? := fun i => Joins.cell_of_block hZ4 i
    have f4 : ∀ i, w4.frozen? ⟨w.heap.size + 1, i, none⟩ = false := fun i => Joins.unfrozen_of_block hZ4 i
    obtain ⟨b4, q4, hu4, _⟩ := hf4
    clear hcp ho4 hb4 HRS hZ4 hB4 m4 HZ3 HB3
    subst hu4
    obtain ⟨x4, hx4⟩ : ∃ x4 : Nat, ((s ++ t).take kp).length = x4 := ⟨_, rfl⟩
    rw [hx4] at HA HR4 ⊢
    clear hx4
    go_wp2
    exact ret_dk3 (v1 := .slice b4 x4 q4) (v2 := nilB) Tryz.results143 rfl rfl rfl rfl (disk_stored HZ4.out _ _) ⟨_, _, _, by rw [HF0.out.1]; rfl, by rw [HF0.out.1]; exact HA.out.1, by rw [HF0.out.1]; exact HR4.out, HA.out.2.1, HRM.out⟩
  · have HF : Hid (rr = (([], []), [], k)) := HK0.out hk
    have hkb : (k != 0) = true := by rw [bne_iff_ne]; exact hk
    have HA : Aside _ := answered HZ1.out (by omega) hB1.out (Mk.none w w1) (Mk.none w w1) (.slice a1 n1 c1) (.slice a2 n2 c2)
    clear HK0 HK1 HKL hk d1
    go_wp2
    exact ret_dk3 (v1 := nilB) (v2 := nilB) Tryz.results143 rfl rfl rfl rfl (disk_stored HZ1.out _ _) ⟨nilB, nilB, nilB, by rw [HF.out]; rfl, by rw [HF.out]; exact HA.out.1, by rw [HF.out]; exact SlOf.nil _ _, HA.out.2.1, ⟨_, _, _, rfl, Nat.le_refl _⟩⟩
theorem diskRecover_any (v1 v2 : Value) (d : Dk) (W : World) (hL : Laid W) (h : DiskR W v1 v2 d) (hn1 : d.1.length ≤ topLen) (hn2 : d.2.length ≤ topLen) : AnsV v1 v2 W (drecover d.1 d.2) := by
  obtain ⟨s, t⟩ := d
  have h' := h
  obtain ⟨a1, c1, rfl, _⟩ := h.safe
  obtain ⟨a2, c2, rfl, _⟩ := h.wait
  exact recover_at a1 a2 _ _ c1 c2 s t W hL h' rfl rfl hn1 hn2
end Go.Proofs.YtmoaobfmopimlafGreatDoor
namespace Go.Proofs.YtmoaobfmopimlafGreatDoor
open Go.RowKit
/-- A unit in a box of the call's own, its places in a block of the call's own. -/
structure UBox (w W : World) (b g : Nat) (u : Un) : Prop where
  box : W.heap[b]? = some (boxU u.p (.slice (some ⟨g, 0, none⟩) 60 60))
  row : W.heap[g]? = some (.cells (u.cells.flatMap En.cells ++ []).toArray 27)
  len : u.cells.length = 60
  far : b ≠ g
  base : w.heap.size ≤ b
  baseg : w.heap.size ≤ g
  below : Below w.heap.size w W
theorem UBox.later {w W W' : World} {b g : Nat} {u : Un} (h : UBox w W b g u) (hb : Below W.heap.size W W') : UBox w W' b g u :=
  ⟨heap_below h.box hb (heap_lt h.box), heap_below h.row hb (heap_lt h.row), h.len, h.far, h.base, h.baseg, step_below1 h.below hb⟩
theorem UBox.unit {w W : World} {b g : Nat} {u : Un} (h : UBox w W b g u) : UnitAt W (.slice (some ⟨g, 0, none⟩) 60 60) u :=
  ⟨ents_front h.len h.row, ⟨_, _, _, rfl, Nat.le_refl _⟩⟩
/-- u.Epoch = p. -/
theorem UBox.seal {w W : World} {b g : Nat} {u : Un} (h : UBox w W b g u) (p : Int) : UBox w (W.setCell ⟨b, 0, none⟩ (.int .i64 p)) b g ⟨p, u.cells⟩ :=
  ⟨by rw [Joins.block_setCell h.box]; rfl, (Below.heap_setCell _ _ _ _ (by show g ≠ b; exact h.far.symm)).trans h.row, h.len, h.far, h.base, h.baseg, h.below.setCell (p := ⟨b, 0, none⟩) h.base _⟩
/-- u.Cells[k] = e. -/
theorem UBox.write {w W : World} {b g : Nat} {u : Un} (h : UBox w W b g u) {k : Nat} (hk : k < 60) (e : En) :
    UBox w (((((W.setCell ⟨g, k * 5, none⟩ (.int .i64 e.k)).setCell ⟨g, k * 5 + 1, none⟩ (.int .i64 e.j)).setCell ⟨g, k * 5 + 2, none⟩ (.int .i64 e.v)).setCell ⟨g, k * 5 + 3, none⟩ (.int .i64 e.t)).setCell ⟨g, k * 5 + 4, none⟩ (.int .i64 e.c)) b g ⟨u.p, u.cells.set k e⟩ :=
  ⟨(other_fiveE h.far (k * 5) _ _ _ _ _).trans h.box, stored_five h.row (by rw [h.len]; exact hk) e, by rw [List.length_set]; exact h.len, h.far, h.base, h.baseg, below_fiveE h.below h.baseg (k * 5) _ _ _ _ _⟩
theorem UBox.cells {w W : World} {b g : Nat} {u : Un} (h : UBox w W b g u) {k : Nat} {x : En} (hx : u.cells[k]? = some x) {i : Nat} {v : Value} (hv : x.cells[i]? = some v) : W.cell? ⟨g, k * 5 + i, none⟩ = some v := by
  have hf := row_flat En.five u.cells k x hx i v hv
  have hlt := (List.getElem?_eq_some_iff.1 hf).1
  rw [Joins.cell_of_block h.row, List.getElem?_toArray, List.getElem?_append_left hlt]
  exact hf
theorem useal_any (w W : World) (b g : Nat) (u : Un) (ep : Int) (h : UBox w W b g u) :
    Calls Tryz.prog 194 #[.pointer (some ⟨b, 0, none⟩), .int .i64 ep] W fun e w' => e = .returned (.int .i64 (if ep ≤ u.p then 8 else 0)) ∧ UBox w w' b g (if ep ≤ u.p then u else ⟨ep, u.cells⟩) := by
  have z0 : ∀ i, W.cell? ⟨b, i, none⟩ = #[Value.int .i64 u.p, .slice (some ⟨g, 0, none⟩) 60 60][i]? := fun i => Joins.cell_of_block h.box i
  have f0 : ∀ i, W.frozen? ⟨b, i, none⟩ = false := fun i => Joins.unfrozen_of_block h.box i
  have H : Aside (UBox w W b g u) := h
  clear h
  by_cases hp : ep ≤ u.p
  · rw [if_pos hp, if_pos hp]
    go_enter Tryz.func194, Tryz.ntmps194
    go_wp2
    go_ret
    exact ⟨rfl, H.out⟩
  · rw [if_neg hp, if_neg hp]
    have hp2 : u.p < ep := by omega
    go_enter Tryz.func194, Tryz.ntmps194
    go_wp2
    go_ret
    exact ⟨rfl, H.out.seal ep⟩
/-- What a write reads. -/
abbrev WtS (W w : World) (b g k : Nat) (x : En) : Prop :=
  Below W.heap.size W w ∧ w.cell? ⟨b, 1, none⟩ = some (.slice (some ⟨g, 0, none⟩) 60 60) ∧ w.cell? ⟨g, k * 5, none⟩ = some (.int .i64 x.k) ∧ w.cell? ⟨g, k * 5 + 1, none⟩ = some (.int .i64 x.j) ∧ w.cell? ⟨g, k * 5 + 2, none⟩ = some (.int .i64 x.v) ∧ w.cell? ⟨g, k * 5 + 3, none⟩ = some (.int .i64 x.t) ∧ w.cell? ⟨g, k * 5 + 4, none⟩ = some (.int .i64 x.c)
theorem wtS_step {W w w' : World} {b g k : Nat} {x : En} (h : WtS W w b g k x) (hb : Below w.heap.size w w') : WtS W w' b g k x :=
  ⟨h.1.trans (hb.mono h.1.size), cell_later hb h.2.1, cell_later hb h.2.2.1, cell_later hb h.2.2.2.1, cell_later hb h.2.2.2.2.1, cell_later hb h.2.2.2.2.2.1, cell_later hb h.2.2.2.2.2.2⟩
set_option maxHeartbeats 4000000 in
set_option maxRecDepth 100000 in
theorem uwrite_twice (w W : World) (b g : Nat) (u : Un) (k : Nat) (x e : En) (h : UBox w W b g u) (hk : k < 60) (hx : u.cells[k]? = some x) (hib : x.isB = false) :
    Calls Tryz.prog 195 #[.pointer (some ⟨b, 0, none⟩), .int .i64 (k : Int), e.val] W fun r w' => r = .returned (.int .i64 6) ∧ UBox w w' b g u := by
  have H1 := h.later (grew (Below.refl W.heap.size W) (boxE e.k e.j e.v e.t e.c))
  have hS0 : WtS (W.alloc (boxE e.k e.j e.v e.t e.c)) (W.alloc (boxE e.k e.j e.v e.t e.c)) b g k x := ⟨Below.refl _ _, Joins.cell_of_block H1.box 1, H1.cells hx (i := 0) rfl, H1.cells hx (i := 1) rfl, H1.cells hx (i := 2) rfl, H1.cells hx (i := 3) rfl, H1.cells hx (i := 4) rfl⟩
  have hne : ∀ W, (binOp .neq 27 (ev x.k x.j x.v x.t x.c) (ev 4 0 0 0 0)).run Tryz.prog W = .ok (.bool (!x.isB)) W := fun W => by
    rw [neq_entry x.k x.j x.v x.t x.c 4 0 0 0 0 W, En.isB, Bool.not_not]
  rw [hib] at hne
  have H : Aside (UBox w (W.alloc (boxE e.k e.j e.v e.t e.c)) b g u) := H1
  have HS0 : Aside _ := hS0
  have hki : (k : Int) < 60 := by omega
  have hk0 : (0 : Int) ≤ (k : Int) := by omega
  clear h hx hib H1 hS0
  go_enter Tryz.func195, Tryz.ntmps195
  go_upto_region 1 with fail
  generalize W.alloc (boxE e.k e.j e.v e.t e.c) = W1 at *
  generalize W.heap.size = be at *
  have hS0 := HS0.out
  have hbd : Below W1.heap.size W1 W1.drew := (Below.refl _ _).drew
  go_region_held3 (fun w' => WtS W1 w' b g k x) (exact wtS_step (by assumption) (by assumption)) (first | (go_at_call 111; refine (ublank_any _).mono ?_; rintro r w' ⟨rfl, hb'⟩))
  all_goals
    rename_i hS
    have HB : Aside (UBox w _ b g u) := H.out.later hS.1
    clear hS hS0 hbd HS0 H hne
    go_wp2
    go_ret
    exact ⟨rfl, HB.out⟩
set_option maxHeartbeats 4000000 in
set_option maxRecDepth 100000 in
theorem uwrite_some (w W : World) (b g : Nat) (u : Un) (k : Nat) (x e : En) (h : UBox w W b g u) (hk : k < 60) (hx : u.cells[k]? = some x) (hib : x.isB = true) :
    Calls Tryz.prog 195 #[.pointer (some ⟨b, 0, none⟩), .int .i64 (k : Int), e.val] W fun r w' => r = .returned (.int .i64 0) ∧ UBox w w' b g ⟨u.p, u.cells.set k e⟩ := by
  have H1 := h.later (grew (Below.refl W.heap.size W) (boxE e.k e.j e.v e.t e.c))
  have hS0 : WtS (W.alloc (boxE e.k e.j e.v e.t e.c)) (W.alloc (boxE e.k e.j e.v e.t e.c)) b g k x := ⟨Below.refl _ _, Joins.cell_of_block H1.box 1, H1.cells hx (i := 0) rfl, H1.cells hx (i := 1) rfl, H1.cells hx (i := 2) rfl, H1.cells hx (i := 3) rfl, H1.cells hx (i := 4) rfl⟩
  have hne : ∀ W, (binOp .neq 27 (ev x.k x.j x.v x.t x.c) (ev 4 0 0 0 0)).run Tryz.prog W = .ok (.bool (!x.isB)) W := fun W => by
    rw [neq_entry x.k x.j x.v x.t x.c 4 0 0 0 0 W, En.isB, Bool.not_not]
  rw [hib] at hne
  have HX0 : Aside ((W.alloc (boxE e.k e.j e.v e.t e.c)).heap[W.heap.size]? = some (boxE e.k e.j e.v e.t e.c)) := heap_new _ _
  have H : Aside (UBox w (W.alloc (boxE e.k e.j e.v e.t e.c)) b g u) := H1
  have HS0 : Aside _ := hS0
  have hki : (k : Int) < 60 := by omega
  have hk0 : (0 : Int) ≤ (k : Int) := by omega
  clear h hx hib H1 hS0
  go_enter Tryz.func195, Tryz.ntmps195
  go_upto_region 1 with fail
  generalize W.alloc (boxE e.k e.j e.v e.t e.c) = W1 at *
  generalize W.heap.size = be at *
  have hS0 := HS0.out
  have hbd : Below W1.heap.size W1 W1.drew := (Below.refl _ _).drew
  go_region_held3 (fun w' => WtS W1 w' b g k x) (exact wtS_step (by assumption) (by assumption)) (first | (go_at_call 111; refine (ublank_any _).mono ?_; rintro r w' ⟨rfl, hb'⟩))
  all_goals
    rename_i hS
    obtain ⟨V, hVe, hSV⟩ := name_world (P := fun W => WtS W1 W b g k x) hS
    subst hVe
    have HB : Aside (UBox w V b g u) := H.out.later hSV.1
    have HXV : Aside (V.heap[be]? = some (boxE e.k e.j e.v e.t e.c)) := heap_below HX0.out hSV.1 (heap_lt HX0.out)
    obtain ⟨_, k1, g0, g1, g2, g3, g4⟩ := hSV
    clear hS hS0 hbd HS0 H hne HX0
    have fg : ∀ i, V.frozen? ⟨g, i, none⟩ = false := fun i => Joins.unfrozen_of_block HB.out.row i
    have z1 : ∀ i, V.cell? ⟨be, i, none⟩ = #[Value.int .i64 e.k, .int .i64 e.j, .int .i64 e.v, .int .i64 e.t, .int .i64 e.c][i]? := fun i => Joins.cell_of_block HXV.out i
    go_upto_region 3 with fail
    go_region
    go_wp2
    go_ret
    exact ⟨rfl, (HB.out.write hk e).later (Below.refl _ _).drew⟩
set_option maxHeartbeats 2000000 in
set_option maxRecDepth 100000 in
/-- take: a right unit turned in place by a record, or not at all. -/
theorem utake_any (w W : World) (b g : Nat) (u : Un) (r : Rc) (h : UBox w W b g u) :
    Calls Tryz.prog 164 #[.pointer (some ⟨b, 0, none⟩), r.val] W fun e w' => e = .returned (.int .i64 (utake u r).2) ∧ UBox w w' b g (utake u r).1 := by
  have hB0 := grew (Below.refl W.heap.size W) (boxRc r)
  have HX0 : Aside ((W.alloc (boxRc r)).heap[W.heap.size]? = some (boxRc r)) := heap_new _ _
  have H0 : Aside (UBox w (W.alloc (boxRc r)) b g u) := h.later hB0
  have hck := noteCheck_any r (W.alloc (boxRc r))
  clear h hB0
  by_cases h1 : r.chk = 0
  · rw [h1] at hck
    by_cases hk : r.k = 2
    · have hkb : (r.k == 2) = true := by rw [hk]; rfl
      obtain ⟨d, U, hr, hs⟩ : ∃ d U, Hid (utake u r = (U, d)) ∧ ∀ W', UBox w W' b g u → Calls Tryz.prog 194 #[.pointer (some ⟨b, 0, none⟩), .int .i64 r.p] W' fun e w' => e = .returned (.int .i64 d) ∧ UBox w w' b g U := by
        by_cases hp : r.p ≤ u.p
        · refine ⟨8, u, ?_, fun W' hh => ?_⟩
          · rw [Hid, utake, if_neg (by simpa using h1), uwrite, if_pos hk, if_pos hp, if_pos (by simp)]
          · have := useal_any w W' b g u r.p hh
            rw [if_pos hp, if_pos hp] at this
            exact this
        · refine ⟨0, ⟨r.p, u.cells⟩, ?_, fun W' hh => ?_⟩
          · rw [Hid, utake, if_neg (by simpa using h1), uwrite, if_pos hk, if_neg hp, if_neg (by simp)]
          · have := useal_any w W' b g u r.p hh
            rw [if_neg hp, if_neg hp] at this
            exact this
      clear h1 hk
      go_enter Tryz.func164, Tryz.ntmps164
      go_wp2_with fail
      refine hck.mono ?_
      rintro e w1 ⟨rfl, hb1⟩
      have H1 : Aside (UBox w w1 b g u) := H0.out.later hb1
      have HX1 : Aside (w1.heap[W.heap.size]? = some (boxRc r)) := heap_below HX0.out hb1 (heap_lt HX0.out)
      have z1 : ∀ i, w1.cell? ⟨W.heap.size, i, none⟩ = #[Value.int .i64 r.k, .int .i64 r.a, .int .i64 r.p, .int .i64 r.e.k, .int .i64 r.e.j, .int .i64 r.e.v, .int .i64 r.e.t, .int .i64 r.e.c][i]? := fun i => Joins.cell_of_block HX1.out i
      have hs1 := hs w1 H1.out
      clear hck hb1 H0 HX0 hs
      go_wp2_with fail
      refine hs1.mono ?_
      rintro e w2 ⟨rfl, H2⟩
      have HH2 : Aside _ := H2
      clear hs1 H2
      go_wp2
      go_ret
      exact ⟨by rw [hr.out]; rfl, by rw [hr.out]; exact HH2.out⟩
    · have hkb : (r.k == 2) = false := by rw [beq_eq_false_iff_ne]; exact hk
      obtain ⟨g1, g2, g3, g4⟩ := Rc.write h1 hk
      obtain ⟨k, hk'⟩ : ∃ k : Nat, r.a = k := ⟨r.a.toNat, by omega⟩
      have hkl : k < 60 := by omega
      obtain ⟨x, hx⟩ : ∃ x, u.cells[k]? = some x := ⟨u.cells[k]'(by have := H0.out.len; omega), List.getElem?_eq_getElem _⟩
      have hg : u.cells.getD k blankE = x := by rw [List.getD_eq_getElem?_getD, hx]; rfl
      obtain ⟨d, U, hr, hs⟩ : ∃ d U, Hid (utake u r = (U, d)) ∧ ∀ W', UBox w W' b g u → Calls Tryz.prog 195 #[.pointer (some ⟨b, 0, none⟩), .int .i64 r.a, r.e.val] W' fun e w' => e = .returned (.int .i64 d) ∧ UBox w w' b g U := by
        cases hb : x.isB with
        | false =>
          refine ⟨6, u, ?_, fun W' hh => ?_⟩
          · rw [Hid, utake, if_neg (by simpa using h1), uwrite, if_neg hk, hk', Int.toNat_natCast, hg, if_pos hb, if_pos (by simp)]
          · rw [hk']; exact uwrite_twice w W' b g u k x r.e hh hkl hx hb
        | true =>
          refine ⟨0, ⟨u.p, u.cells.set k r.e⟩, ?_, fun W' hh => ?_⟩
          · rw [Hid, utake, if_neg (by simpa using h1), uwrite, if_neg hk, hk', Int.toNat_natCast, hg, if_neg (c := x.isB = false) (by simp [hb]), if_neg (by simp)]
          · rw [hk']; exact uwrite_some w W' b g u k x r.e hh hkl hx hb
      clear h1 hk g1 g2 g3 g4 hk' hkl hx hg
      go_enter Tryz.func164, Tryz.ntmps164
      go_wp2_with fail
      refine hck.mono ?_
      rintro e w1 ⟨rfl, hb1⟩
      have H1 : Aside (UBox w w1 b g u) := H0.out.later hb1
      have HX1 : Aside (w1.heap[W.heap.size]? = some (boxRc r)) := heap_below HX0.out hb1 (heap_lt HX0.out)
      have z1 : ∀ i, w1.cell? ⟨W.heap.size, i, none⟩ = #[Value.int .i64 r.k, .int .i64 r.a, .int .i64 r.p, .int .i64 r.e.k, .int .i64 r.e.j, .int .i64 r.e.v, .int .i64 r.e.t, .int .i64 r.e.c][i]? := fun i => Joins.cell_of_block HX1.out i
      have hs1 := hs w1 H1.out
      clear hck hb1 H0 HX0 hs
      go_wp2_with fail
      refine hs1.mono ?_
      rintro e w2 ⟨rfl, H2⟩
      have HH2 : Aside _ := H2
      clear hs1 H2
      go_wp2
      go_ret
      exact ⟨by rw [hr.out]; rfl, by rw [hr.out]; exact HH2.out⟩
  · have hr : Hid (utake u r = (u, r.chk)) := by rw [Hid, utake, if_pos h1]
    have hzb : (r.chk != 0) = true := by rw [bne_iff_ne]; exact h1
    rw [hr.out]
    clear h1 hr
    generalize r.chk = d at *
    go_enter Tryz.func164, Tryz.ntmps164
    go_wp2_with fail
    refine hck.mono ?_
    rintro e w1 ⟨rfl, hb1⟩
    have H1 : Aside (UBox w w1 b g u) := H0.out.later hb1
    clear hck hb1 H0 HX0
    go_wp2
    go_ret
    exact ⟨rfl, H1.out⟩
end Go.Proofs.YtmoaobfmopimlafGreatDoor
namespace Go.Proofs.YtmoaobfmopimlafGreatDoor
open Go.RowKit
theorem drop_rc {rs : List Rc} {k : Nat} {x : Rc} (h : rs[k]? = some x) : rs.drop k = x :: rs.drop (k + 1) := by
  have hlt := (List.getElem?_eq_some_iff.1 h).1
  rw [List.drop_eq_getElem_cons hlt, (List.getElem?_eq_some_iff.1 h).2]
end Go.Proofs.YtmoaobfmopimlafGreatDoor
namespace Go.Proofs.YtmoaobfmopimlafGreatDoor
open Go.RowKit
section
variable {P : Program}
/-- 'copy' into a row that is known whole: nothing else turns. -/
theorem wpList_copyO {w : World} {ops : Array Oper} {rest : List Oper} {o : Oper} {a : Act} {Q : Exit → Act → World → Prop} (hgd : o.guard = none) (d s : Operand) (dT sT : TypeId)
    (ho : o.op = .call { callee := .builtin .copy, args := #[d, s], argTypes := #[dT, sT] }) (elem : TypeId) (k : Nat) (hu : P.underlying dT = some (.slice elem)) (hsz : (P.info? elem).map (·.size) = some k)
    (ad : Addr) (n dCap sCap : Nat) (g : Nat) (hd : a.eval d = .slice (some ⟨g, 0, none⟩) n dCap) (hs : a.eval s = .slice (some ad) n sCap)
    (cur : List Value) (t : TypeId) (hg : w.heap[g]? = some (.cells cur.toArray t (0, 0))) (cs : List Value) (hn : cs.length = n * k) (hl : cur.length = cs.length)
    (hsrc : ∀ j v, cs[j]? = some v → w.cell? (ad.add j) = some v) (h1 : ∀ v ∈ cs, v.oneCell' = true)
    (h : ∀ w', Hid (w'.heap[g]? = some (.cells cs.toArray t (0, 0))) → Hid (∀ i, i ≠ g → w'.heap[i]? = w.heap[i]?) → (∀ (B : Nat) (w0 : World), Below B w0 w → B ≤ g → Below B w0 w') → wpList P ops Q rest (a.put o.dst (goInt n)) w') :
    wpList P ops Q (o :: rest) a w := by
  refine wpList_plain hgd fun K hK => ?_
  have hmin : Nat.min n n = n := Nat.min_self n
  have hrun := copy_cells (P := P) w dT sT o.type elem g 0 n dCap ad n sCap cur t k cs hu hsz hg (by rw [hmin]; exact hn) hsrc (by omega) h1
  rw [hmin, splice_all hl] at hrun
  unfold Oper.wp
  simp [execOp, ho, resolve, invoke, builtin, hd, hs, hrun, Result.andThen]
  exact hK _ _ (h _ (show _ = _ from setRow_heap w g _ _ t _ hg) (fun i hi => setRow_other w g i _ hi) (fun B w0 hb hB => below_setRow hb hB _))
end
set_option maxRecDepth 100000 in
/-- Sixty entries made, as a step of a region that draws its order. -/
theorem step_make60 {ops : Array Oper} {o : Oper} {a : Act} {w : World} {K : Act → World → Prop} {Q : Exit → Act → World → Prop} {E : Prop} (hgd : o.guard = none) (l c : Operand) (hop : o.op = Op.makeSlice 42 l c) (hl : a.eval l = .int .i64 60) (hc : a.eval c = .int .i64 60)
    (h : ∀ w', w'.heap[w.heap.size]? = some (.cells ((List.replicate 60 En.zero).flatMap En.cells).toArray 27) → Below w.heap.size w w' → K (a.put o.dst (.slice (some ⟨w.heap.size, 0, none⟩) 60 60)) w') :
    if Region.wanted o (yielded ops a.tmps) = true then Oper.wp Tryz.prog o a w K Q else E := by
  have hw : Region.wanted o (yielded ops a.tmps) = true := by simp [Region.wanted, hgd]
  rw [if_pos hw]
  obtain ⟨i0, hi, hz0, hz1, hz2⟩ := info_parts infoE
  obtain ⟨w', hrun, hown, hgrow⟩ := run_make_full (P := Tryz.prog) w w.heap.size 42 27 i0 (ev 0 0 0 0 0) 5 Tryz.underlying42 hi hz0 hz1 .i64 .i64 60 (by rw [hz2]; omega) (by unfold maxLen; omega) (Nat.le_refl _)
  have hg' : w'.heap[w.heap.size]? = some (.cells ((List.replicate 60 En.zero).flatMap En.cells).toArray 27) := by
    rcases hown.2 with ⟨h, _⟩ | ⟨g, cap, cur, hv', _, hg, _, _, hsz, htake⟩
    · cases h
    injection hv' with ha _ hc
    injection ha with ha
    injection ha with ha _ _
    subst ha hc
    have h2 : cur.toList = (List.replicate 60 En.zero).flatMap En.cells := by
      rw [← made60]
      rw [List.take_of_length_le (by rw [Array.length_toList, hsz]; omega)] at htake
      exact htake
    rw [← h2]
    simpa using hg
  have hB : Below w.heap.size w w' := ⟨hgrow.os, hgrow.tape, hgrow.output, hgrow.size, fun k hk => hgrow.block k hk (fun h => by cases h)⟩
  have hrun' : (Instr.makeSlice 42 (.int .i64 60) (.int .i64 60)).run Tryz.prog w = .ok (.slice (some ⟨w.heap.size, 0, none⟩) 60 60) w' := hrun
  unfold Oper.wp
  simp [execOp, hop, hl, hc, hrun', Result.andThen]
  exact h _ hg' hB
/-- A unit's box, read. -/
abbrev NxS (W w : World) (b : Nat) (p : Int) (s : Value) : Prop := Below W.heap.size W w ∧ w.cell? ⟨b, 0, none⟩ = some (.int .i64 p) ∧ w.cell? ⟨b, 1, none⟩ = some s
theorem nxS_step {W w w' : World} {b : Nat} {p : Int} {s : Value} (h : NxS W w b p s) (hb : Below w.heap.size w w') : NxS W w' b p s := ⟨h.1.trans (hb.mono h.1.size), cell_later hb h.2.1, cell_later hb h.2.2⟩
theorem nxS_two {W w : World} {b : Nat} {p : Int} {s : Value} (h : NxS W w b p s) {g : Nat} (hW : W.heap.size ≤ g) (hg : b ≠ g) (u1 u2 : Value) : NxS W ((w.setCell ⟨g, 0, none⟩ u1).setCell ⟨g, 1, none⟩ u2) b p s :=
  ⟨below_two2 h.1 hW u1 u2, by rw [World.cell?_setCell_far _ _ _ _ (by exact hg.symm), World.cell?_setCell_far _ _ _ _ (by exact hg.symm)]; exact h.2.1, by rw [World.cell?_setCell_far _ _ _ _ (by exact hg.symm), World.cell?_setCell_far _ _ _ _ (by exact hg.symm)]; exact h.2.2⟩
/-- What 'after' holds, made: its box, sixty entries of nothing. -/
structure Made (X w : World) (b g : Nat) (p : Int) : Prop where
  box : w.heap[b]? = some (boxU p (.slice (some ⟨g, 0, none⟩) 60 60))
  row : w.heap[g]? = some (.cells ((List.replicate 60 En.zero).flatMap En.cells).toArray 27)
  far : b ≠ g
  base : X.heap.size ≤ b
  baseg : X.heap.size ≤ g
  below : Below X.heap.size X w
theorem made_gb {X w1 : World} {p : Int} {g : Nat} (hXg : X.heap.size ≤ g) (hB : Below X.heap.size X w1) (hg : w1.heap[g]? = some (.cells ((List.replicate 60 En.zero).flatMap En.cells).toArray 27)) :
    Made X (w1.alloc (boxU p (.slice (some ⟨g, 0, none⟩) 60 60))) w1.heap.size g p := by
  have hlt := heap_lt hg
  exact ⟨heap_new w1 _, heap_old hg _, by omega, by omega, hXg, grew hB _⟩
theorem made_bg {X X1 w1 : World} {p : Int} {b g : Nat} (hX : X1.heap[b]? = some (boxU 0 (.slice none 0 0))) (hXb : X.heap.size ≤ b) (hB : Below X.heap.size X X1) (hgs : X1.heap.size = g) (hg : w1.heap[X1.heap.size]? = some (.cells ((List.replicate 60 En.zero).flatMap En.cells).toArray 27)) (hb : Below X1.heap.size X1 w1) :
    Made X ((w1.setCell ⟨b, 0, none⟩ (.int .i64 p)).setCell ⟨b, 1, none⟩ (.slice (some ⟨g, 0, none⟩) 60 60)) b g p := by
  subst hgs
  have hlt := heap_lt hX
  refine ⟨unit_stored (heap_below hX hb hlt) _ _, ?_, by omega, hXb, by omega, below_two2 (step_below1 hB hb) hXb _ _⟩
  rw [Below.heap_setCell _ _ _ _ (by show X1.heap.size ≠ b; omega), Below.heap_setCell _ _ _ _ (by show X1.heap.size ≠ b; omega)]
  exact hg
/-- A unit's places stay where another block is written. -/
theorem unit_keepG {W : World} {g' : Nat} {u : Un} (h : UnitAt W (.slice (some ⟨g', 0, none⟩) 60 60) u) {g : Nat} (hg : g' ≠ g) (i : Nat) (x : Value) : UnitAt (W.setCell ⟨g, i, none⟩ x) (.slice (some ⟨g', 0, none⟩) 60 60) u := by
  refine ⟨?_, h.room⟩
  obtain ⟨a, c, hv, hc⟩ := h.ents
  refine ⟨a, c, hv, ?_⟩
  rcases hc with hc | ⟨b, off, ha, hE⟩
  · exact Or.inl hc
  · refine Or.inr ⟨b, off, ha, fun j e hj i' y hi => ?_⟩
    have hne : b ≠ g := by
      rw [ha] at hv
      injection hv with h1 _ _
      injection h1 with h1
      injection h1 with h1 _ _
      omega
    rw [World.cell?_setCell_far _ _ _ _ (by exact hne.symm)]
    exact hE j e hj i' y hi
theorem own_of {g q n : Nat} (h : (Value.slice (some ⟨g, 0, none⟩) 60 60).ownBlock = some q) (hn : n ≤ g) : n ≤ q := by
  obtain rfl : g = q := by simpa [Value.ownBlock] using h
  exact hn
/-- Answers a unit and what is wrong, its places in a block of the call's own. -/
abbrev AnsO (f : Nat) (args : Array Value) (w : World) (r : Un × Int) : Prop :=
  Calls Tryz.prog f args w fun e w' => ∃ v', e = .returned (.tuple #[.agg #[.int .i64 r.1.p, v'], .int .i64 r.2]) ∧ UnitAt w' v' r.1 ∧ Below w.heap.size w w' ∧ (∀ g, v'.ownBlock = some g → w.heap.size ≤ g)
set_option maxHeartbeats 4000000 in
set_option maxRecDepth 100000 in
theorem unext_badU (a : Option Addr) (n c : Nat) (p : Int) (es : List En) (r : Rc) (w : World) (h : EntSl w (.slice a n c) es) (d : Int) (hd : Un.ck ⟨p, es⟩ = d) (hz : (d != 0) = true) :
    AnsO 128 #[.agg #[.int .i64 p, .slice a n c], r.val] w (Un.zero, d) := by
  have HB0 : Aside (Below w.heap.size w (((w.alloc (boxU p (.slice a n c))).alloc (boxRc r)).alloc (boxU 0 (.slice none 0 0)))) := grew (grew (grew (Below.refl _ _) _) _) _
  have HZ0 : Aside ((((w.alloc (boxU p (.slice a n c))).alloc (boxRc r)).alloc (boxU 0 (.slice none 0 0))).heap[w.heap.size + 1 + 1]? = some (boxU 0 (.slice none 0 0))) := by
    have := heap_new ((w.alloc (boxU p (.slice a n c))).alloc (boxRc r)) (boxU 0 (.slice none 0 0))
    rwa [World.size_alloc, World.size_alloc] at this
  have hck := unitCheck_any (.slice a n c) ⟨p, es⟩ (((w.alloc (boxU p (.slice a n c))).alloc (boxRc r)).alloc (boxU 0 (.slice none 0 0))) (h.later HB0.out)
  rw [hd] at hck
  clear hd h
  go_enter Tryz.func128, Tryz.ntmps128
  go_wp2_with fail
  refine hck.mono ?_
  rintro e w1 ⟨rfl, hb1⟩
  have HZ1 : Aside (w1.heap[w.heap.size + 1 + 1]? = some (boxU 0 (.slice none 0 0))) := heap_below HZ0.out hb1 (heap_lt HZ0.out)
  have HB1 : Aside (Below w.heap.size w w1) := step_below1 HB0.out hb1
  clear hb1 HZ0 HB0 hck
  have z2 : ∀ i, w1.cell? ⟨w.heap.size + 1 + 1, i, none⟩ = #[Value.int .i64 0, .slice none 0 0][i]? := fun i => Joins.cell_of_block HZ1.out i
  have f2 : ∀ i, w1.frozen? ⟨w.heap.size + 1 + 1, i, none⟩ = false := fun i => Joins.unfrozen_of_block HZ1.out i
  go_wp2
  exact ret_unit (p := 4) (q := 5) Tryz.results128 rfl rfl rfl (unit_stored HZ1.out _ _) ⟨_, rfl, unit_nil _, below_two2 HB1.out (by omega) _ _, fun g hg => by cases hg⟩
set_option linter.unusedSimpArgs false in
set_option maxHeartbeats 8000000 in
set_option maxRecDepth 100000 in
theorem unext_good (a : Option Addr) (c : Nat) (p : Int) (es : List En) (r : Rc) (w : World) (h : EntSl w (.slice a 60 c) es) (hl : es.length = 60) (hd : Un.ck ⟨p, es⟩ = 0) :
    AnsO 128 #[.agg #[.int .i64 p, .slice a 60 c], r.val] w (unext ⟨p, es⟩ r) := by
  have HB0 : Aside (Below w.heap.size w (((w.alloc (boxU p (.slice a 60 c))).alloc (boxRc r)).alloc (boxU 0 (.slice none 0 0)))) := grew (grew (grew (Below.refl _ _) _) _) _
  have HX0 : Aside ((((w.alloc (boxU p (.slice a 60 c))).alloc (boxRc r)).alloc (boxU 0 (.slice none 0 0))).heap[w.heap.size]? = some (boxU p (.slice a 60 c))) := heap_old (heap_old (heap_new _ _) _) _
  have HY0 : Aside ((((w.alloc (boxU p (.slice a 60 c))).alloc (boxRc r)).alloc (boxU 0 (.slice none 0 0))).heap[w.heap.size + 1]? = some (boxRc r)) := by
    have := heap_new (w.alloc (boxU p (.slice a 60 c))) (boxRc r)
    rw [World.size_alloc] at this
    exact heap_old this _
  have HZ0 : Aside ((((w.alloc (boxU p (.slice a 60 c))).alloc (boxRc r)).alloc (boxU 0 (.slice none 0 0))).heap[w.heap.size + 1 + 1]? = some (boxU 0 (.slice none 0 0))) := by
    have := heap_new ((w.alloc (boxU p (.slice a 60 c))).alloc (boxRc r)) (boxU 0 (.slice none 0 0))
    rwa [World.size_alloc, World.size_alloc] at this
  have hck := unitCheck_any (.slice a 60 c) ⟨p, es⟩ (((w.alloc (boxU p (.slice a 60 c))).alloc (boxRc r)).alloc (boxU 0 (.slice none 0 0))) (h.later HB0.out)
  rw [hd] at hck
  obtain ⟨ab, off, rfl, hE0⟩ := SlOf.at (cs := En.cells) (k := 5) h (by omega)
  have H : Aside (∀ W, Below w.heap.size w W → RowAt En.cells 5 W ab off es) := fun W hb => hE0.later hb
  have HL : Aside (es.length = 60) := hl
  have HD : Aside (Un.ck ⟨p, es⟩ = 0) := hd
  obtain ⟨⟨U, d⟩, hq⟩ : ∃ q, utake ⟨p, es⟩ r = q := ⟨_, rfl⟩
  have htk := fun X W' b g (hh : UBox X W' b g ⟨p, es⟩) => utake_any X W' b g ⟨p, es⟩ r hh
  simp only [hq] at htk
  have HTK : Aside (∀ X W' b g, UBox X W' b g ⟨p, es⟩ → _) := htk
  have hcase : (d = 0 ∧ unext ⟨p, es⟩ r = (U, 0)) ∨ (d ≠ 0 ∧ unext ⟨p, es⟩ r = (Un.zero, d)) := by
    have he := utake_err ⟨p, es⟩ r hd
    rw [hq] at he
    change d = _ at he
    by_cases h0 : d = 0
    · have ho := utake_ok (r := r) hd (by rw [hq]; exact h0)
      rw [hq] at ho
      exact Or.inl ⟨h0, by rw [← ho, h0]⟩
    · have hb := unext_bad (r := r) hd (by rw [← he]; exact h0)
      exact Or.inr ⟨h0, Prod.ext hb he.symm⟩
  obtain ⟨rr, HRR⟩ : ∃ rr, Hid (unext ⟨p, es⟩ r = rr) := ⟨_, rfl⟩
  rw [HRR.out] at hcase ⊢
  have HC : Hid ((d = 0 ∧ rr = (U, 0)) ∨ (d ≠ 0 ∧ rr = (Un.zero, d))) := hcase
  obtain ⟨cs, hcs⟩ : ∃ cs, Hid (es.flatMap En.cells = cs) := ⟨_, rfl⟩
  have hone : ∀ u ∈ cs, u.oneCell' = true := by rw [← hcs.out]; exact oneE es
  have hlen : cs.length = 60 * 5 := by rw [← hcs.out, row_len En.five es, hl]
  have hlen2 : ((List.replicate 60 En.zero).flatMap En.cells).length = cs.length := by rw [hlen, row_len En.five, List.length_replicate]
  obtain ⟨ZL, HZL⟩ : ∃ ZL, Hid ((List.replicate 60 En.zero).flatMap En.cells = ZL) := ⟨_, rfl⟩
  rw [HZL.out] at hlen2
  clear hd h hl hq hE0 hcase HRR htk
  go_enter Tryz.func128, Tryz.ntmps128
  go_wp2_with fail
  refine hck.mono ?_
  rintro e w1 ⟨rfl, hb1⟩
  have HX1 : Aside (w1.heap[w.heap.size]? = some (boxU p (.slice (some ⟨ab, off, none⟩) 60 c))) := heap_below HX0.out hb1 (heap_lt HX0.out)
  have HY1 : Aside (w1.heap[w.heap.size + 1]? = some (boxRc r)) := heap_below HY0.out hb1 (heap_lt HY0.out)
  have HZ1 : Aside (w1.heap[w.heap.size + 1 + 1]? = some (boxU 0 (.slice none 0 0))) := heap_below HZ0.out hb1 (heap_lt HZ0.out)
  have HB1 : Aside (Below w.heap.size w w1) := step_below1 HB0.out hb1
  clear hb1 HX0 HY0 HZ0 HB0 hck
  have hltz := heap_lt HZ1.out
  go_upto_region 4 with fail
  refine wp_region_held_drew (S := fun w' => NxS w1 w' w.heap.size p (.slice (some ⟨ab, off, none⟩) 60 c)) (by kernel_rfl) (⟨(Below.refl _ _).drew, Joins.cell_of_block HX1.out 0, Joins.cell_of_block HX1.out 1⟩) (fun hHeld => ?_)
  refine wpAnyH_take (i := 0) (oi := ?oi0) (v := ?v0) ?hi0 ?hs0 ?hf0 ?hr0 ?hQ0 (Or.inl ⟨?hw0, ?hy0⟩) (by assumption) ?h0
  case hi0 => (simp only [List.getElem?_toArray, List.getElem?_cons_succ, List.getElem?_cons_zero]; rfl)
  case hs0 => kernel_rfl
  case hf0 => kernel_rfl
  case hr0 => kernel_rfl
  case hw0 => rfl
  case hy0 => (intro w0 hSw; (try dsimp only at hSw); go_simp; first | done | with_reducible rfl)
  case hQ0 => exact fun _ _ _ h => h
  try simp only [Act.put, List.setIfInBounds_toArray, List.set_cons_zero, List.set_cons_succ]
  refine wpAnyH_take (i := 1) (oi := ?oi1) (v := ?v1) ?hi1 ?hs1 ?hf1 ?hr1 ?hQ1 (Or.inl ⟨?hw1, ?hy1⟩) (by assumption) ?h1
  case hi1 => (simp only [List.getElem?_toArray, List.getElem?_cons_succ, List.getElem?_cons_zero]; rfl)
  case hs1 => kernel_rfl
  case hf1 => kernel_rfl
  case hr1 => kernel_rfl
  case hw1 => rfl
  case hy1 => (intro w0 hSw; (try dsimp only at hSw); go_simp; first | done | with_reducible rfl)
  case hQ1 => exact fun _ _ _ h => h
  try simp only [Act.put, List.setIfInBounds_toArray, List.set_cons_zero, List.set_cons_succ]
  refine wpAnyH_take (i := 2) (oi := ?oi2) (v := ?v2) ?hi2 ?hs2 ?hf2 ?hr2 ?hQ2 (Or.inl ⟨?hw2, ?hy2⟩) (by assumption) ?h2
  case hi2 => (simp only [List.getElem?_toArray, List.getElem?_cons_succ, List.getElem?_cons_zero]; rfl)
  case hs2 => kernel_rfl
  case hf2 => kernel_rfl
  case hr2 => kernel_rfl
  case hw2 => rfl
  case hy2 => (intro w0 hSw; (try dsimp only at hSw); go_simp; first | done | with_reducible rfl)
  case hQ2 => exact fun _ _ _ h => h
  try simp only [Act.put, List.setIfInBounds_toArray, List.set_cons_zero, List.set_cons_succ]
  refine wpAnyH_take (i := 3) (oi := ?oi3) (v := ?v3) ?hi3 ?hs3 ?hf3 ?hr3 ?hQ3 (Or.inl ⟨?hw3, ?hy3⟩) (by assumption) ?h3
  case hi3 => (simp only [List.getElem?_toArray, List.getElem?_cons_succ, List.getElem?_cons_zero]; rfl)
  case hs3 => kernel_rfl
  case hf3 => kernel_rfl
  case hr3 => kernel_rfl
  case hw3 => rfl
  case hy3 => (intro w0 hSw; (try dsimp only at hSw); go_simp; first | done | with_reducible rfl)
  case hQ3 => exact fun _ _ _ h => h
  try simp only [Act.put, List.setIfInBounds_toArray, List.set_cons_zero, List.set_cons_succ]
  refine wpAnyH_take (i := 4) (oi := ?oi4) (v := ?v4) ?hi4 ?hs4 ?hf4 ?hr4 ?hQ4 (Or.inl ⟨?hw4, ?hy4⟩) (by assumption) ?h4
  case hi4 => (simp only [List.getElem?_toArray, List.getElem?_cons_succ, List.getElem?_cons_zero]; rfl)
  case hs4 => kernel_rfl
  case hf4 => kernel_rfl
  case hr4 => kernel_rfl
  case hw4 => rfl
  case hy4 => (intro w0 hSw; (try dsimp only at hSw); go_simp; first | done | with_reducible rfl)
  case hQ4 => exact fun _ _ _ h => h
  try simp only [Act.put, List.setIfInBounds_toArray, List.set_cons_zero, List.set_cons_succ]
  refine wpAnyH_ready (rs := [5, 7]) (by kernel_rfl) (by simp) ?_
  refine AllReadyH.cons (o := ?o5p) ?hi5p ?step5p (AllReadyH.cons (o := ?o7p) ?hi7p ?step7p AllReadyH.nil)
  case hi5p => (simp only [List.getElem?_toArray, List.getElem?_cons_succ, List.getElem?_cons_zero]; rfl)
  case hi7p => (simp only [List.getElem?_toArray, List.getElem?_cons_succ, List.getElem?_cons_zero]; rfl)
  case step5p =>
    intro K hK
    refine step_make60 rfl _ _ rfl rfl rfl ?_
    intro w2 hg2 hb2
    refine hK.out _ _ (nxS_step hHeld hb2) (fun hH2 => ?_)
    clear hK K
    try simp only [Act.put, List.setIfInBounds_toArray, List.set_cons_zero, List.set_cons_succ]
    refine wpAnyH_take (i := 6) (oi := ?oi6A) (v := ?v6A) ?hi6A ?hs6A ?hf6A ?hr6A ?hQ6A (Or.inl ⟨?hw6A, ?hy6A⟩) (by assumption) ?h6A
    case hi6A => (simp only [List.getElem?_toArray, List.getElem?_cons_succ, List.getElem?_cons_zero]; rfl)
    case hs6A => kernel_rfl
    case hf6A => kernel_rfl
    case hr6A => kernel_rfl
    case hw6A => rfl
    case hy6A => (intro w0 hSw; (try dsimp only at hSw); go_simp; first | done | with_reducible rfl)
    case hQ6A => exact fun _ _ _ h => h
    try simp only [Act.put, List.setIfInBounds_toArray, List.set_cons_zero, List.set_cons_succ]
    refine wpAnyH_ready (rs := [7]) (by kernel_rfl) (by simp) ?_
    refine AllReadyH.cons (o := ?o7A) ?hi7A ?step7A AllReadyH.nil
    case hi7A => (simp only [List.getElem?_toArray, List.getElem?_cons_succ, List.getElem?_cons_zero]; rfl)
    intro K hK
    go_simp
    refine hK.out _ _ (nxS_step hH2 (grew (Below.refl _ _) _)) (fun hHeld => ?_)
    clear hK K
    try simp only [Act.put, List.setIfInBounds_toArray, List.set_cons_zero, List.set_cons_succ]
    refine wpAnyH_ready (rs := [8]) (by kernel_rfl) (by simp) ?_
    refine AllReadyH.cons (o := ?o8A) ?hi8A ?step8A AllReadyH.nil
    case hi8A => (simp only [List.getElem?_toArray, List.getElem?_cons_succ, List.getElem?_cons_zero]; rfl)
    intro K hK
    go_simp
    refine hK.out _ _ (nxS_step hH2 (grew (Below.refl _ _) _)) (fun hHeld => ?_)
    clear hK K
    try simp only [Act.put, List.setIfInBounds_toArray, List.set_cons_zero, List.set_cons_succ]
    refine wpAnyH_done (by kernel_rfl) ?_ _
    have hM := made_gb (X := w1) (p := p) (g := w1.heap.size) (Nat.le_refl _) hH2.1 hg2
    clear hHeld hH2 hg2 hb2
    generalize w2.alloc (boxU p (.slice (some ⟨w1.heap.size, 0, none⟩) 60 60)) = V at hM ⊢
    generalize w2.heap.size = b at hM ⊢
    generalize w1.heap.size = g at hM ⊢
    have HXV : Aside (V.heap[w.heap.size]? = some (boxU p (.slice (some ⟨ab, off, none⟩) 60 c))) := heap_below HX1.out hM.below (heap_lt HX1.out)
    have HBV : Aside (Below w.heap.size w V) := HB1.out.trans (hM.below.mono HB1.out.size)
    have HM : Aside (Made w1 V b g p) := hM
    have hrow := HM.out.row
    rw [HZL.out] at hrow
    have hsrc : ∀ j v, cs[j]? = some v → V.cell? ((⟨ab, off, none⟩ : Addr).add j) = some v := fun j v hj => by
      rw [Lib.add_plain]
      rw [← hcs.out] at hj
      exact rows_flat En.five es off (H.out V HBV.out) j v hj
    have c5 : ∀ i, V.cell? ⟨b, i, none⟩ = #[Value.int .i64 p, .slice (some ⟨g, 0, none⟩) 60 60][i]? := fun i => Joins.cell_of_block HM.out.box i
    have c0 : ∀ i, V.cell? ⟨w.heap.size, i, none⟩ = #[Value.int .i64 p, (.slice (some ⟨ab, off, none⟩) 60 c)][i]? := fun i => Joins.cell_of_block HXV.out i
    clear hM
    go_wp2_with ((with_reducible show wpList _ _ _ (Oper.mk (some 26) _ _ _ _ _ :: _) _ _); refine wpList_copyO rfl _ _ 42 42 rfl 27 5 Tryz.underlying42 sizeE ⟨ab, off, none⟩ 60 60 c g rfl rfl ZL 27 hrow cs hlen hlen2 hsrc hone ?_)
    intro w5 hg5 ho5 hB5
    have HB5 := hB5 _ _ HM.out.below HM.out.baseg
    have HU : Aside (UBox w1 w5 b g ⟨p, es⟩) := ⟨(ho5.out b HM.out.far).trans HM.out.box, by rw [List.append_nil, hcs.out]; exact hg5.out, HL.out, HM.out.far, HM.out.base, HM.out.baseg, HB5⟩
    have HY5 : Aside (w5.heap[w.heap.size + 1]? = some (boxRc r)) := heap_below HY1.out HB5 (heap_lt HY1.out)
    have z1 : ∀ i, w5.cell? ⟨w.heap.size + 1, i, none⟩ = #[Value.int .i64 r.k, .int .i64 r.a, .int .i64 r.p, .int .i64 r.e.k, .int .i64 r.e.j, .int .i64 r.e.v, .int .i64 r.e.t, .int .i64 r.e.c][i]? := fun i => Joins.cell_of_block HY5.out i
    have hcall := HTK.out _ _ _ _ HU.out
    clear hsrc c5 c0 hrow hg5 ho5 hB5 HB5 HBV HXV HM HX1 HY1 hone hlen hlen2
    go_wp2_with fail
    refine hcall.mono ?_
    rintro e w6 ⟨rfl, hU6⟩
    have HU6 : Aside (UBox w1 w6 b g U) := hU6
    have HZ6 : Aside (w6.heap[w.heap.size + 1 + 1]? = some (boxU 0 (.slice none 0 0))) := heap_below HZ1.out hU6.below (heap_lt HZ1.out)
    have HB6 : Aside (Below w.heap.size w w6) := HB1.out.trans (hU6.below.mono HB1.out.size)
    have z2 : ∀ i, w6.cell? ⟨w.heap.size + 1 + 1, i, none⟩ = #[Value.int .i64 0, .slice none 0 0][i]? := fun i => Joins.cell_of_block HZ6.out i
    have f2 : ∀ i, w6.frozen? ⟨w.heap.size + 1 + 1, i, none⟩ = false := fun i => Joins.unfrozen_of_block HZ6.out i
    have z5 : ∀ i, w6.cell? ⟨b, i, none⟩ = #[Value.int .i64 U.p, .slice (some ⟨g, 0, none⟩) 60 60][i]? := fun i => Joins.cell_of_block HU6.out.box i
    clear hU6 hcall HU HY5 z1 HTK
    rcases HC.out with ⟨h0, h1⟩ | ⟨h0, h1⟩
    · have hzb : (d != 0) = false := by rw [h0]; rfl
      clear HC h0
      subst h1
      go_wp2
      have hlt6 := heap_lt HZ1.out
      have hgb := HU6.out.baseg
      have hne : g ≠ w.heap.size + 1 + 1 := by omega
      have hkeep := unit_keepG (unit_keepG HU6.out.unit (g := w.heap.size + 1 + 1) hne 0 (.int .i64 U.p)) (g := w.heap.size + 1 + 1) hne 1 (.slice (some ⟨g, 0, none⟩) 60 60)
      exact ret_unit (p := 4) (q := 5) Tryz.results128 rfl rfl rfl (unit_stored HZ6.out _ _) ⟨_, rfl, hkeep, below_two2 HB6.out (by omega) _ _, fun q hq => own_of hq (by omega)⟩
    · have hzb : (d != 0) = true := by rw [bne_iff_ne]; exact h0
      clear HC h0
      subst h1
      clear z5
      go_wp2
      exact ret_unit (p := 4) (q := 5) Tryz.results128 rfl rfl rfl (unit_stored HZ6.out _ _) ⟨_, rfl, unit_nil _, below_two2 HB6.out (by omega) _ _, fun q hq => by cases hq⟩
  case step7p =>
    intro K hK
    go_simp
    refine hK.out _ _ (nxS_step hHeld (grew (Below.refl _ _) _)) (fun hHeld => ?_)
    clear hK K
    try simp only [Act.put, List.setIfInBounds_toArray, List.set_cons_zero, List.set_cons_succ]
    refine wpAnyH_ready (rs := [5]) (by kernel_rfl) (by simp) ?_
    refine AllReadyH.cons (o := ?o5B) ?hi5B ?step5B AllReadyH.nil
    case hi5B => (simp only [List.getElem?_toArray, List.getElem?_cons_succ, List.getElem?_cons_zero]; rfl)
    intro K hK
    refine step_make60 rfl _ _ rfl rfl rfl ?_
    intro w2 hg2 hb2
    refine hK.out _ _ (nxS_step hHeld hb2) (fun hH2 => ?_)
    clear hK K
    try simp only [Act.put, List.setIfInBounds_toArray, List.set_cons_zero, List.set_cons_succ]
    refine wpAnyH_take (i := 6) (oi := ?oi6B) (v := ?v6B) ?hi6B ?hs6B ?hf6B ?hr6B ?hQ6B (Or.inl ⟨?hw6B, ?hy6B⟩) (by assumption) ?h6B
    case hi6B => (simp only [List.getElem?_toArray, List.getElem?_cons_succ, List.getElem?_cons_zero]; rfl)
    case hs6B => kernel_rfl
    case hf6B => kernel_rfl
    case hr6B => kernel_rfl
    case hw6B => rfl
    case hy6B => (intro w0 hSw; (try dsimp only at hSw); go_simp; first | done | with_reducible rfl)
    case hQ6B => exact fun _ _ _ h => h
    try simp only [Act.put, List.setIfInBounds_toArray, List.set_cons_zero, List.set_cons_succ]
    have hx1 : (w1.alloc (boxU 0 (.slice none 0 0))).drew.heap[w1.heap.size]? = some (boxU 0 (.slice none 0 0)) := heap_new w1 _
    have hs1 : (w1.alloc (boxU 0 (.slice none 0 0))).drew.heap.size = w1.heap.size + 1 := World.size_alloc _ _
    have hM := made_bg (X := w1) (p := p) hx1 (Nat.le_refl _) (grew (Below.refl _ _) _).drew hs1 hg2 hb2
    have hx2 := heap_below hx1 hb2 (heap_lt hx1)
    have c7 := fun i => Joins.cell_of_block hx2 i
    have f7 := fun i => Joins.unfrozen_of_block hx2 i
    refine wpAnyH_ready (rs := [8]) (by kernel_rfl) (by simp) ?_
    refine AllReadyH.cons (o := ?o8B) ?hi8B ?step8B AllReadyH.nil
    case hi8B => (simp only [List.getElem?_toArray, List.getElem?_cons_succ, List.getElem?_cons_zero]; rfl)
    intro K hK
    go_simp
    refine hK.out _ _ (nxS_two hH2 (Nat.le_refl _) (by omega) _ _) (fun hHeld => ?_)
    clear hK K
    try simp only [Act.put, List.setIfInBounds_toArray, List.set_cons_zero, List.set_cons_succ]
    refine wpAnyH_done (by kernel_rfl) ?_ _
    clear hHeld hH2 hg2 hb2 hx1 hs1 hx2 c7 f7
    generalize (w2.setCell ⟨w1.heap.size, 0, none⟩ (.int .i64 p)).setCell ⟨w1.heap.size, 1, none⟩ (.slice (some ⟨w1.heap.size + 1, 0, none⟩) 60 60) = V at hM ⊢
    generalize w1.heap.size + 1 = g at hM ⊢
    generalize w1.heap.size = b at hM ⊢
    have HXV : Aside (V.heap[w.heap.size]? = some (boxU p (.slice (some ⟨ab, off, none⟩) 60 c))) := heap_below HX1.out hM.below (heap_lt HX1.out)
    have HBV : Aside (Below w.heap.size w V) := HB1.out.trans (hM.below.mono HB1.out.size)
    have HM : Aside (Made w1 V b g p) := hM
    have hrow := HM.out.row
    rw [HZL.out] at hrow
    have hsrc : ∀ j v, cs[j]? = some v → V.cell? ((⟨ab, off, none⟩ : Addr).add j) = some v := fun j v hj => by
      rw [Lib.add_plain]
      rw [← hcs.out] at hj
      exact rows_flat En.five es off (H.out V HBV.out) j v hj
    have c5 : ∀ i, V.cell? ⟨b, i, none⟩ = #[Value.int .i64 p, .slice (some ⟨g, 0, none⟩) 60 60][i]? := fun i => Joins.cell_of_block HM.out.box i
    have c0 : ∀ i, V.cell? ⟨w.heap.size, i, none⟩ = #[Value.int .i64 p, (.slice (some ⟨ab, off, none⟩) 60 c)][i]? := fun i => Joins.cell_of_block HXV.out i
    clear hM
    go_wp2_with ((with_reducible show wpList _ _ _ (Oper.mk (some 26) _ _ _ _ _ :: _) _ _); refine wpList_copyO rfl _ _ 42 42 rfl 27 5 Tryz.underlying42 sizeE ⟨ab, off, none⟩ 60 60 c g rfl rfl ZL 27 hrow cs hlen hlen2 hsrc hone ?_)
    intro w5 hg5 ho5 hB5
    have HB5 := hB5 _ _ HM.out.below HM.out.baseg
    have HU : Aside (UBox w1 w5 b g ⟨p, es⟩) := ⟨(ho5.out b HM.out.far).trans HM.out.box, by rw [List.append_nil, hcs.out]; exact hg5.out, HL.out, HM.out.far, HM.out.base, HM.out.baseg, HB5⟩
    have HY5 : Aside (w5.heap[w.heap.size + 1]? = some (boxRc r)) := heap_below HY1.out HB5 (heap_lt HY1.out)
    have z1 : ∀ i, w5.cell? ⟨w.heap.size + 1, i, none⟩ = #[Value.int .i64 r.k, .int .i64 r.a, .int .i64 r.p, .int .i64 r.e.k, .int .i64 r.e.j, .int .i64 r.e.v, .int .i64 r.e.t, .int .i64 r.e.c][i]? := fun i => Joins.cell_of_block HY5.out i
    have hcall := HTK.out _ _ _ _ HU.out
    clear hsrc c5 c0 hrow hg5 ho5 hB5 HB5 HBV HXV HM HX1 HY1 hone hlen hlen2
    go_wp2_with fail
    refine hcall.mono ?_
    rintro e w6 ⟨rfl, hU6⟩
    have HU6 : Aside (UBox w1 w6 b g U) := hU6
    have HZ6 : Aside (w6.heap[w.heap.size + 1 + 1]? = some (boxU 0 (.slice none 0 0))) := heap_below HZ1.out hU6.below (heap_lt HZ1.out)
    have HB6 : Aside (Below w.heap.size w w6) := HB1.out.trans (hU6.below.mono HB1.out.size)
    have z2 : ∀ i, w6.cell? ⟨w.heap.size + 1 + 1, i, none⟩ = #[Value.int .i64 0, .slice none 0 0][i]? := fun i => Joins.cell_of_block HZ6.out i
    have f2 : ∀ i, w6.frozen? ⟨w.heap.size + 1 + 1, i, none⟩ = false := fun i => Joins.unfrozen_of_block HZ6.out i
    have z5 : ∀ i, w6.cell? ⟨b, i, none⟩ = #[Value.int .i64 U.p, .slice (some ⟨g, 0, none⟩) 60 60][i]? := fun i => Joins.cell_of_block HU6.out.box i
    clear hU6 hcall HU HY5 z1 HTK
    rcases HC.out with ⟨h0, h1⟩ | ⟨h0, h1⟩
    · have hzb : (d != 0) = false := by rw [h0]; rfl
      clear HC h0
      subst h1
      go_wp2
      have hlt6 := heap_lt HZ1.out
      have hgb := HU6.out.baseg
      have hne : g ≠ w.heap.size + 1 + 1 := by omega
      have hkeep := unit_keepG (unit_keepG HU6.out.unit (g := w.heap.size + 1 + 1) hne 0 (.int .i64 U.p)) (g := w.heap.size + 1 + 1) hne 1 (.slice (some ⟨g, 0, none⟩) 60 60)
      exact ret_unit (p := 4) (q := 5) Tryz.results128 rfl rfl rfl (unit_stored HZ6.out _ _) ⟨_, rfl, hkeep, below_two2 HB6.out (by omega) _ _, fun q hq => own_of hq (by omega)⟩
    · have hzb : (d != 0) = true := by rw [bne_iff_ne]; exact h0
      clear HC h0
      subst h1
      clear z5
      go_wp2
      exact ret_unit (p := 4) (q := 5) Tryz.results128 rfl rfl rfl (unit_stored HZ6.out _ _) ⟨_, rfl, unit_nil _, below_two2 HB6.out (by omega) _ _, fun q hq => by cases hq⟩
theorem unitNext_any (v : Value) (u : Un) (r : Rc) (w : World) (h : UnitAt w v u) : AnsO 128 #[.agg #[.int .i64 u.p, v], r.val] w (unext u r) := by
  obtain ⟨p, es⟩ := u
  obtain ⟨hE, hR⟩ := h
  obtain ⟨a, n, c, rfl, hnc⟩ := hR
  have hE' : EntSl w (.slice a n c) es := hE
  have hln := SlOf.len (cs := En.cells) (k := 5) hE'
  show AnsO 128 #[.agg #[.int .i64 p, .slice a n c], r.val] w (unext ⟨p, es⟩ r)
  by_cases h1 : Un.ck ⟨p, es⟩ = 0
  · have hl := (Un.ck_zero.1 h1).2.1
    change es.length = 60 at hl
    obtain rfl : n = 60 := by omega
    exact unext_good a c p es r w hE' hl h1
  · rw [unext, if_pos h1]
    exact unext_badU a n c p es r w hE' (Un.ck ⟨p, es⟩) rfl (by rw [bne_iff_ne]; exact h1)
/-- Where Replay's round stands. -/
def RpAt (X wr : World) (b g : Nat) (rs : List Rc) (k : Nat) : Prop :=
  ∃ u, UBox X wr b g u ∧ u.ck = 0 ∧ Hid (ufold unew rs = ufold u (rs.drop k))
set_option maxHeartbeats 4000000 in
set_option maxRecDepth 100000 in
theorem unitReplay_few (a : Option Addr) (n c : Nat) (rs : List Rc) (w : World) (h : RecSl w (.slice a n c) rs) (hn : (n : Int) ≤ 160) :
    AnsO 144 #[.slice a n c] w (ufold unew rs) := by
  have H : Aside (RecSl w (.slice a n c) rs) := h
  have HL : Aside (rs.length = n) := h.len
  have HB0 : Aside (Below w.heap.size w (w.alloc (boxU 0 (.slice none 0 0)))) := grew (Below.refl _ _) _
  have HX0 : Aside ((w.alloc (boxU 0 (.slice none 0 0))).heap[w.heap.size]? = some (boxU 0 (.slice none 0 0))) := heap_new _ _
  clear h
  go_enter Tryz.func144, Tryz.ntmps144
  go_upto_region 3 with fail
  generalize w.alloc (boxU 0 (.slice none 0 0)) = X at *
  go_wp2_with fail
  refine (unitNew_own _).mono ?_
  rintro e w1 ⟨g, rfl, hgX, hg, hb1⟩
  have hgl := heap_lt hg
  have HS : Aside (RpAt X (w1.alloc (boxU 1 (.slice (some ⟨g, 0, none⟩) 60 60))) w1.heap.size g rs 0) := ⟨unew, ⟨heap_new _ _, heap_old hg _, List.length_replicate .., by omega, hb1.size, hgX, grew hb1 _⟩, unew_ck, rfl⟩
  clear hb1 hg hgl hgX
  go_wp2
  generalize w1.heap.size = b at *
  go_loopw [15] (fun i wr => ∃ k : Nat, k ≤ n ∧ i = .int .i64 k ∧ RpAt X wr b g rs k) (fun i _ => n - (intOf i).toNat)
  case atStart => exact ⟨0, Nat.zero_le _, rfl, HS.out⟩
  case round =>
    clear HS
    obtain ⟨k, hk, rfl, u, hU, hck, hst⟩ := hrel
    have HU : Aside (UBox X wr b g u) := hU
    have HB : Aside (Below w.heap.size w wr) := HB0.out.trans (hU.below.mono HB0.out.size)
    have HR : Aside (wr.heap[w.heap.size]? = some (boxU 0 (.slice none 0 0))) := heap_below HX0.out hU.below (heap_lt HX0.out)
    clear hU
    by_cases hlt : k < n
    · obtain ⟨x, hx⟩ : ∃ x, rs[k]? = some x := ⟨rs[k]'(by have := HL.out; omega), List.getElem?_eq_getElem _⟩
      obtain ⟨bb, off, rfl, hE0⟩ := H.out.at (by omega)
      have hE := hE0.later HB.out
      have q0 : wr.cell? ⟨bb, off + k * 8, none⟩ = some (.int .i64 x.k) := hE k x hx 0 _ rfl
      have q1 : wr.cell? ⟨bb, off + k * 8 + 1, none⟩ = some (.int .i64 x.a) := hE k x hx 1 _ rfl
      have q2 : wr.cell? ⟨bb, off + k * 8 + 2, none⟩ = some (.int .i64 x.p) := hE k x hx 2 _ rfl
      have q3 : wr.cell? ⟨bb, off + k * 8 + 3, none⟩ = some (.int .i64 x.e.k) := hE k x hx 3 _ rfl
      have q4 : wr.cell? ⟨bb, off + k * 8 + 4, none⟩ = some (.int .i64 x.e.j) := hE k x hx 4 _ rfl
      have q5 : wr.cell? ⟨bb, off + k * 8 + 5, none⟩ = some (.int .i64 x.e.v) := hE k x hx 5 _ rfl
      have q6 : wr.cell? ⟨bb, off + k * 8 + 6, none⟩ = some (.int .i64 x.e.t) := hE k x hx 6 _ rfl
      have q7 : wr.cell? ⟨bb, off + k * 8 + 7, none⟩ = some (.int .i64 x.e.c) := hE k x hx 7 _ rfl
      have hd : Hid (ufold unew rs = if (unext u x).2 ≠ 0 then (Un.zero, (unext u x).2) else ufold (unext u x).1 (rs.drop (k + 1))) := by
        rw [Hid, hst.out, drop_rc hx, ufold]
      have hnx := utake_any X (wr.alloc (boxRc x)) b g u x (HU.out.later (grew (Below.refl _ _) _))
      obtain ⟨⟨u2, f⟩, hun⟩ : ∃ q, utake u x = q := ⟨_, rfl⟩
      have hcase : (f = 0 ∧ u2.ck = 0 ∧ ufold unew rs = ufold u2 (rs.drop (k + 1))) ∨ (f ≠ 0 ∧ ufold unew rs = (Un.zero, f)) := by
        have he := utake_err u x hck
        rw [hun] at he
        change f = _ at he
        by_cases h0 : f = 0
        · have ho := utake_ok (r := x) hck (by rw [hun]; exact h0)
          rw [hun] at ho
          have h2 : (unext u x).2 = 0 := by rw [← he]; exact h0
          have h3 := unext_ck h2
          rw [← ho] at h3
          refine Or.inl ⟨h0, h3, ?_⟩
          rw [hd.out, if_neg (by simpa using h2), ← ho]
        · refine Or.inr ⟨h0, ?_⟩
          rw [hd.out, ← he, if_pos h0]
      rw [hun] at hnx
      change Calls _ _ _ _ fun e w' => e = .returned (.int .i64 f) ∧ UBox X w' b g u2 at hnx
      have HC : Hid _ := hcase
      clear hE hE0 hst hx hck hd hun hcase HU HB HR
      go_wp2_with fail
      refine hnx.mono ?_
      rintro e w2 ⟨rfl, hU2⟩
      have HU2 : Aside (UBox X w2 b g u2) := hU2
      have HB2 : Aside (Below w.heap.size w w2) := HB0.out.trans (hU2.below.mono HB0.out.size)
      have HR2 : Aside (w2.heap[w.heap.size]? = some (boxU 0 (.slice none 0 0))) := heap_below HX0.out hU2.below (heap_lt HX0.out)
      have z1 : ∀ i, w2.cell? ⟨w.heap.size, i, none⟩ = #[Value.int .i64 0, .slice none 0 0][i]? := fun i => Joins.cell_of_block HR2.out i
      have f1 : ∀ i, w2.frozen? ⟨w.heap.size, i, none⟩ = false := fun i => Joins.unfrozen_of_block HR2.out i
      clear hU2 hnx q0 q1 q2 q3 q4 q5 q6 q7
      rcases HC.out with ⟨h0, h1, h2⟩ | ⟨h0, h1⟩
      · have hfb : (f != 0) = false := by rw [h0]; rfl
        have HE : Aside (RpAt X w2 b g rs (k + 1)) := ⟨u2, HU2.out, h1, h2⟩
        clear HC h0 h1 h2 z1 f1
        go_wp2
        go_roundw
        case rel => exact ⟨k + 1, by omega, by go_num, HE.out⟩
        case measure => simp [intOf]; omega
      · have hfb : (f != 0) = true := by rw [bne_iff_ne]; exact h0
        have HN : Hid (ufold unew rs = (Un.zero, f)) := h1
        clear HC h0 h1
        go_wp2
        exact ret_unit (p := 2) (q := 3) Tryz.results144 rfl rfl rfl (unit_stored HR2.out _ _) ⟨.slice none 0 0, by rw [HN.out]; rfl, by rw [HN.out]; exact unit_nil _, below_two2 HB2.out (Nat.le_refl _) _ _, fun q hq => by cases hq⟩
    · obtain rfl : k = n := by omega
      have HN : Hid (ufold unew rs = (u, 0)) := by
        rw [Hid, hst.out, List.drop_eq_nil_of_le (by have := HL.out; omega)]; rfl
      have z0 : ∀ i, wr.cell? ⟨b, i, none⟩ = #[Value.int .i64 u.p, .slice (some ⟨g, 0, none⟩) 60 60][i]? := fun i => Joins.cell_of_block HU.out.box i
      have z1 : ∀ i, wr.cell? ⟨w.heap.size, i, none⟩ = #[Value.int .i64 0, .slice none 0 0][i]? := fun i => Joins.cell_of_block HR.out i
      have f1 : ∀ i, wr.frozen? ⟨w.heap.size, i, none⟩ = false := fun i => Joins.unfrozen_of_block HR.out i
      clear hst hck
      go_wp2
      have hlt0 := heap_lt HX0.out
      have hgb := HU.out.baseg
      have hne : g ≠ w.heap.size := by omega
      have hkeep := unit_keepG (unit_keepG HU.out.unit (g := w.heap.size) hne 0 (.int .i64 u.p)) (g := w.heap.size) hne 1 (.slice (some ⟨g, 0, none⟩) 60 60)
      exact ret_unit (p := 2) (q := 3) Tryz.results144 rfl rfl rfl (unit_stored HR.out _ _) ⟨.slice (some ⟨g, 0, none⟩) 60 60, by rw [HN.out]; rfl, by rw [HN.out]; exact hkeep, below_two2 HB.out (Nat.le_refl _) _ _, fun q hq => own_of hq (by omega)⟩
theorem unitReplay_many (a : Option Addr) (n c : Nat) (w : World) (hn : 160 < (n : Int)) :
    AnsO 144 #[.slice a n c] w (Un.zero, 2) := by
  go_enter Tryz.func144, Tryz.ntmps144
  go_wp2
  exact ret_unit (p := 2) (q := 3) Tryz.results144 rfl rfl rfl (heap_new _ _) ⟨_, rfl, unit_nil _, grew (Below.refl _ _) _, fun q hq => by cases hq⟩
/-- Package unit's Replay. -/
theorem unitReplay_any (v : Value) (rs : List Rc) (w : World) (h : RecSl w v rs) : AnsO 144 #[v] w (unitOf rs) := by
  have h' := h
  obtain ⟨a, c, rfl, _⟩ := h
  by_cases hn : 160 < rs.length
  · rw [unitOf, if_pos hn]
    exact unitReplay_many a _ c w (by omega)
  · rw [unitOf, if_neg hn]
    exact unitReplay_few a _ c rs w h' (by omega)
end Go.Proofs.YtmoaobfmopimlafGreatDoor
namespace Go.Proofs.YtmoaobfmopimlafGreatDoor
open Go.RowKit
/-- What is left of a disk, and which unit it makes. -/
def recD (s t : List UInt8) : Dk × Un × Int :=
  if ckDisk s t ≠ 0 then (([], []), Un.zero, ckDisk s t) else if (unitOf (recovered s t).2).2 ≠ 0 then (([], []), Un.zero, (unitOf (recovered s t).2).2) else ((recovered s t).1, (unitOf (recovered s t).2).1, 0)
abbrev AnsQ (f : FuncId) (args : Array Value) (w : World) (r : Dk × Un × Int) : Prop :=
  Calls Tryz.prog f args w fun e w' => ∃ u1 u2 v', e = .returned (.tuple #[.agg #[u1, u2], .agg #[.int .i64 r.2.1.p, v'], .int .i64 r.2.2]) ∧ DiskR w' u1 u2 r.1 ∧ UnitAt w' v' r.2.1 ∧ Below w.heap.size w w'
theorem ret_du {fn : Func} {R : Ending → World → Prop} {a : Act} {W : World} {b c p q r : Nat} {v1 v2 y y' x : Value} (hf : fn.results = #[.cell p 47, .cell q 44, .tmp r]) (hd : a.defers = [])
    (h2 : a.tmps.getD p undef = .pointer (some ⟨b, 0, none⟩)) (h3 : a.tmps.getD q undef = .pointer (some ⟨c, 0, none⟩)) (h4 : a.tmps.getD r undef = x) (hR : W.heap[b]? = some (boxD v1 v2)) (hU : W.heap[c]? = some (.cells #[y, y'] 44)) (hp : R (.returned (.tuple #[.agg #[v1, v2], .agg #[y, y'], x])) W) :
    bodyPost Tryz.prog fn R .ret a W := by
  have c0 : ∀ i, W.cell? ⟨b, i, none⟩ = #[v1, v2][i]? := fun i => Joins.cell_of_block hR i
  have c1 : ∀ i, W.cell? ⟨c, i, none⟩ = #[y, y'][i]? := fun i => Joins.cell_of_block hU i
  have h2' : a.tmps[p]?.getD undef = .pointer (some ⟨b, 0, none⟩) := by simpa using h2
  have h3' : a.tmps[q]?.getD undef = .pointer (some ⟨c, 0, none⟩) := by simpa using h3
  have h4' : a.tmps[r]?.getD undef = x := by simpa using h4
  refine bodyPost_ret (v := .tuple #[.agg #[v1, v2], .agg #[y, y'], x]) ?_ hd hp
  simp [results, hf, h2', h3', h4', go_sem, c0, c1]
theorem recs_box {W : World} {b : Nat} {a1 a2 : Option Addr} {n1 n2 c1 c2 : Nat} {v : Value} {l : List Rc} (h : RecSl W v l) (hb : W.heap[b]? = some (boxD (.slice a1 n1 c1) (.slice a2 n2 c2))) (e1 e2 : Option Addr) (m1 m2 d1 d2 : Nat) :
    RecSl ((W.setCell ⟨b, 0, none⟩ (.slice e1 m1 d1)).setCell ⟨b, 1, none⟩ (.slice e2 m2 d2)) v l := bytes_two hb rc_num h
theorem unitOf_sixty {l : List Rc} {u : Un} (h : unitOf l = (u, 0)) : u.cells.length = 60 := by
  have hl : l.length ≤ 160 := by
    rcases Nat.lt_or_ge 160 l.length with hh | hh
    · rw [unitOf, if_pos hh] at h; cases h
    · exact hh
  exact (Un.ck_zero.1 (unitOf_right hl h)).2.1
/-- A disk's box, the results' boxes, stored. -/
theorem stored_two {W : World} {b : Nat} {A : Array Value} {T : TypeId} (h : W.heap[b]? = some (.cells A T)) (h2 : A.size = 2) (u1 u2 : Value) : ((W.setCell ⟨b, 0, none⟩ u1).setCell ⟨b, 1, none⟩ u2).heap[b]? = some (.cells #[u1, u2] T) := by
  rw [Joins.block_setCell (Joins.block_setCell h u1) u2]
  obtain ⟨l⟩ := A
  match l, h2 with
  | [x, y], _ => rfl
theorem other_two {W : World} {b q : Nat} {o : Obj} (h : W.heap[q]? = some o) (hne : q ≠ b) (u1 u2 : Value) : ((W.setCell ⟨b, 0, none⟩ u1).setCell ⟨b, 1, none⟩ u2).heap[q]? = some o := other_block (other_block h hne 0 u1) hne 1 u2
theorem dskR_nil (w : World) : DiskR w nilB nilB ([], []) := ⟨SlOf.nil _ _, SlOf.nil _ _, ⟨none, 0, 0, rfl, Nat.le_refl _⟩, ⟨none, 0, 0, rfl, Nat.le_refl _⟩⟩
set_option linter.unusedSimpArgs false in
set_option maxHeartbeats 4000000 in
set_option maxRecDepth 100000 in
theorem recov_at (a1 a2 : Option Addr) (n1 n2 c1 c2 : Nat) (s t : List UInt8) (w : World) (hL : Laid w) (h : DiskR w (.slice a1 n1 c1) (.slice a2 n2 c2) (s, t)) (hn1 : s.length ≤ topLen) (hn2 : t.length ≤ topLen) :
    AnsQ 113 #[.agg #[.slice a1 n1 c1, .slice a2 n2 c2]] w (recD s t) := by
  have hB0 := grew (grew (grew (Below.refl w.heap.size w) (boxD (.slice a1 n1 c1) (.slice a2 n2 c2))) (boxD nilB nilB)) (boxU 0 (.slice none 0 0))
  have HB0 : Aside (Below w.heap.size w (((w.alloc (boxD (.slice a1 n1 c1) (.slice a2 n2 c2))).alloc (boxD nilB nilB)).alloc (boxU 0 (.slice none 0 0)))) := hB0
  have HX0 : Aside ((((w.alloc (boxD (.slice a1 n1 c1) (.slice a2 n2 c2))).alloc (boxD nilB nilB)).alloc (boxU 0 (.slice none 0 0))).heap[w.heap.size]? = some (boxD (.slice a1 n1 c1) (.slice a2 n2 c2))) := heap_old (heap_old (heap_new _ _) _) _
  have HY0 : Aside ((((w.alloc (boxD (.slice a1 n1 c1) (.slice a2 n2 c2))).alloc (boxD nilB nilB)).alloc (boxU 0 (.slice none 0 0))).heap[w.heap.size + 1]? = some (boxD nilB nilB)) := by
    have := heap_new (w.alloc (boxD (.slice a1 n1 c1) (.slice a2 n2 c2))) (boxD nilB nilB)
    rw [World.size_alloc] at this
    exact heap_old this _
  have HZ0 : Aside ((((w.alloc (boxD (.slice a1 n1 c1) (.slice a2 n2 c2))).alloc (boxD nilB nilB)).alloc (boxU 0 (.slice none 0 0))).heap[w.heap.size + 1 + 1]? = some (boxU 0 (.slice none 0 0))) := by
    have := heap_new ((w.alloc (boxD (.slice a1 n1 c1) (.slice a2 n2 c2))).alloc (boxD nilB nilB)) (boxU 0 (.slice none 0 0))
    rwa [World.size_alloc, World.size_alloc] at this
  have hr := diskRecover_any (.slice a1 n1 c1) (.slice a2 n2 c2) (s, t) (((w.alloc (boxD (.slice a1 n1 c1) (.slice a2 n2 c2))).alloc (boxD nilB nilB)).alloc (boxU 0 (.slice none 0 0))) (hL.later hB0) ⟨h.safe.later hB0, h.wait.later hB0, h.room1, h.room2⟩ hn1 hn2
  have hcase : (ckDisk s t ≠ 0 ∧ recD s t = (([], []), Un.zero, ckDisk s t) ∧ drecover s t = (([], []), [], ckDisk s t)) ∨ (drecover s t = ((recovered s t).1, (recovered s t).2, 0) ∧ recD s t = if (unitOf (recovered s t).2).2 ≠ 0 then (([], []), Un.zero, (unitOf (recovered s t).2).2) else ((recovered s t).1, (unitOf (recovered s t).2).1, 0)) := by
    by_cases hc : ckDisk s t = 0
    · exact Or.inr ⟨by rw [drecover, if_neg (by simpa using hc)], by rw [recD, if_neg (by simpa using hc)]⟩
    · exact Or.inl ⟨hc, by rw [recD, if_pos hc], by rw [drecover, if_pos hc]⟩
  clear hB0 h hn1 hn2 hL
  rcases hcase with ⟨hc, e1, e2⟩ | ⟨e2, e1⟩
  · rw [e1]
    rw [e2] at hr
    obtain ⟨d, hd⟩ : ∃ d, ckDisk s t = d := ⟨_, rfl⟩
    rw [hd] at hr hc ⊢
    have hz : (d != 0) = true := by rw [bne_iff_ne]; exact hc
    clear e1 e2 hd hc
    go_enter Tryz.func113, Tryz.ntmps113
    go_upto_region 1 with fail
    generalize ((w.alloc (boxD (.slice a1 n1 c1) (.slice a2 n2 c2))).alloc (boxD nilB nilB)).alloc (boxU 0 (.slice none 0 0)) = W0 at *
    have z : ∀ i, W0.cell? ⟨w.heap.size, i, none⟩ = #[Value.slice a1 n1 c1, .slice a2 n2 c2][i]? := fun i => Joins.cell_of_block HX0.out i
    go_wp2_with fail
    refine hr.mono ?_
    rintro e w1 ⟨u1, u2, u3, rfl, hD, hR, hb1, hro⟩
    have HX1 : Aside (w1.heap[w.heap.size]? = some (boxD (.slice a1 n1 c1) (.slice a2 n2 c2))) := heap_below HX0.out hb1 (heap_lt HX0.out)
    have HY1 : Aside (w1.heap[w.heap.size + 1]? = some (boxD nilB nilB)) := heap_below HY0.out hb1 (heap_lt HY0.out)
    have HZ1 : Aside (w1.heap[w.heap.size + 1 + 1]? = some (boxU 0 (.slice none 0 0))) := heap_below HZ0.out hb1 (heap_lt HZ0.out)
    have HB1 : Aside (Below w.heap.size w w1) := step_below1 HB0.out hb1
    obtain ⟨b1, m1, k1, rfl⟩ := roomy_sl hD.room1
    obtain ⟨b2, m2, k2, rfl⟩ := roomy_sl hD.room2
    clear z hb1 HX0 HY0 HZ0 HB0 hr hD hR hro
    have z : ∀ i, w1.cell? ⟨w.heap.size, i, none⟩ = #[Value.slice a1 n1 c1, .slice a2 n2 c2][i]? := fun i => Joins.cell_of_block HX1.out i
    have fz : ∀ i, w1.frozen? ⟨w.heap.size, i, none⟩ = false := fun i => Joins.unfrozen_of_block HX1.out i
    have z1 : ∀ i, w1.cell? ⟨w.heap.size + 1, i, none⟩ = #[nilB, nilB][i]? := fun i => Joins.cell_of_block HY1.out i
    have fz1 : ∀ i, w1.frozen? ⟨w.heap.size + 1, i, none⟩ = false := fun i => Joins.unfrozen_of_block HY1.out i
    have z2 : ∀ i, w1.cell? ⟨w.heap.size + 1 + 1, i, none⟩ = #[Value.int .i64 0, .slice none 0 0][i]? := fun i => Joins.cell_of_block HZ1.out i
    have fz2 : ∀ i, w1.frozen? ⟨w.heap.size + 1 + 1, i, none⟩ = false := fun i => Joins.unfrozen_of_block HZ1.out i
    go_wp2
    exact ret_du (p := 2) (q := 3) (r := 4) Tryz.results113 rfl rfl rfl rfl (other_two (stored_two (other_two HY1.out (by omega) _ _) rfl _ _) (by omega) _ _) (stored_two (other_two (other_two HZ1.out (by omega) _ _) (by omega) _ _) rfl _ _)
      ⟨nilB, nilB, .slice none 0 0, rfl, dskR_nil _, unit_nil _, below_two2 (below_two2 (below_two2 HB1.out (Nat.le_refl _) _ _) (by omega) _ _) (by omega) _ _⟩
  · rw [e2] at hr
    have hp := fun W (hh : ∃ u3, RecSl W u3 (recovered s t).2) => hh
    obtain ⟨rr, HRR⟩ : ∃ rr, Hid (recD s t = rr) := ⟨_, rfl⟩
    obtain ⟨⟨U, d⟩, hq⟩ : ∃ q, unitOf (recovered s t).2 = q := ⟨_, rfl⟩
    have HQ : Hid (unitOf (recovered s t).2 = (U, d)) := hq
    have HC : Hid ((d = 0 ∧ rr = ((recovered s t).1, U, 0)) ∨ (d ≠ 0 ∧ rr = (([], []), Un.zero, d))) := by
      rw [hq, HRR.out] at e1
      by_cases h0 : d = 0
      · rw [if_neg (by simpa using h0)] at e1; exact Or.inl ⟨h0, e1⟩
      · rw [if_pos h0] at e1; exact Or.inr ⟨h0, e1⟩
    rw [HRR.out]
    clear e1 e2 hp hq HRR
    go_enter Tryz.func113, Tryz.ntmps113
    go_upto_region 1 with fail
    generalize ((w.alloc (boxD (.slice a1 n1 c1) (.slice a2 n2 c2))).alloc (boxD nilB nilB)).alloc (boxU 0 (.slice none 0 0)) = W0 at *
    have z : ∀ i, W0.cell? ⟨w.heap.size, i, none⟩ = #[Value.slice a1 n1 c1, .slice a2 n2 c2][i]? := fun i => Joins.cell_of_block HX0.out i
    go_wp2_with fail
    refine hr.mono ?_
    rintro e w1 ⟨u1, u2, u3, rfl, hD, hR, hb1, hro⟩
    have HX1 : Aside (w1.heap[w.heap.size]? = some (boxD (.slice a1 n1 c1) (.slice a2 n2 c2))) := heap_below HX0.out hb1 (heap_lt HX0.out)
    have HY1 : Aside (w1.heap[w.heap.size + 1]? = some (boxD nilB nilB)) := heap_below HY0.out hb1 (heap_lt HY0.out)
    have HZ1 : Aside (w1.heap[w.heap.size + 1 + 1]? = some (boxU 0 (.slice none 0 0))) := heap_below HZ0.out hb1 (heap_lt HZ0.out)
    have HB1 : Aside (Below w.heap.size w w1) := step_below1 HB0.out hb1
    obtain ⟨b1, m1, k1, rfl⟩ := roomy_sl hD.room1
    obtain ⟨b2, m2, k2, rfl⟩ := roomy_sl hD.room2
    have HX2 : Aside (((w1.setCell ⟨w.heap.size, 0, none⟩ (.slice b1 m1 k1)).setCell ⟨w.heap.size, 1, none⟩ (.slice b2 m2 k2)).heap[w.heap.size]? = some (boxD (.slice b1 m1 k1) (.slice b2 m2 k2))) := stored_two HX1.out rfl _ _
    have HY2 : Aside (((w1.setCell ⟨w.heap.size, 0, none⟩ (.slice b1 m1 k1)).setCell ⟨w.heap.size, 1, none⟩ (.slice b2 m2 k2)).heap[w.heap.size + 1]? = some (boxD nilB nilB)) := other_two HY1.out (by omega) _ _
    have HZ2 : Aside (((w1.setCell ⟨w.heap.size, 0, none⟩ (.slice b1 m1 k1)).setCell ⟨w.heap.size, 1, none⟩ (.slice b2 m2 k2)).heap[w.heap.size + 1 + 1]? = some (boxU 0 (.slice none 0 0))) := other_two HZ1.out (by omega) _ _
    have HB2 : Aside (Below w.heap.size w ((w1.setCell ⟨w.heap.size, 0, none⟩ (.slice b1 m1 k1)).setCell ⟨w.heap.size, 1, none⟩ (.slice b2 m2 k2))) := below_two2 HB1.out (Nat.le_refl _) _ _
    have HD2 : Aside (DiskR ((w1.setCell ⟨w.heap.size, 0, none⟩ (.slice b1 m1 k1)).setCell ⟨w.heap.size, 1, none⟩ (.slice b2 m2 k2)) (.slice b1 m1 k1) (.slice b2 m2 k2) (recovered s t).1) := ⟨bytes_two HX1.out bt_num hD.safe, bytes_two HX1.out bt_num hD.wait, hD.room1, hD.room2⟩
    have HR2 : Aside (RecSl ((w1.setCell ⟨w.heap.size, 0, none⟩ (.slice b1 m1 k1)).setCell ⟨w.heap.size, 1, none⟩ (.slice b2 m2 k2)) u3 (recovered s t).2) := recs_box hR HX1.out _ _ _ _ _ _
    have fz : ∀ i, w1.frozen? ⟨w.heap.size, i, none⟩ = false := fun i => Joins.unfrozen_of_block HX1.out i
    have z1 : ∀ i, w1.cell? ⟨w.heap.size, i, none⟩ = #[Value.slice a1 n1 c1, .slice a2 n2 c2][i]? := fun i => Joins.cell_of_block HX1.out i
    clear z hb1 HX0 HY0 HZ0 HB0 hr hD hR hro HX1 HY1 HZ1 HB1
    go_upto_region 2 with fail
    clear fz z1
    generalize (w1.setCell ⟨w.heap.size, 0, none⟩ (.slice b1 m1 k1)).setCell ⟨w.heap.size, 1, none⟩ (.slice b2 m2 k2) = w2 at *
    have hp := unitReplay_any u3 (recovered s t).2 w2 HR2.out
    rw [HQ.out] at hp
    clear HR2
    go_wp2_with fail
    refine hp.mono ?_
    rintro e w3 ⟨v', rfl, hU, hb3, _⟩
    have HX3 : Aside (w3.heap[w.heap.size]? = some (boxD (.slice b1 m1 k1) (.slice b2 m2 k2))) := heap_below HX2.out hb3 (heap_lt HX2.out)
    have HY3 : Aside (w3.heap[w.heap.size + 1]? = some (boxD nilB nilB)) := heap_below HY2.out hb3 (heap_lt HY2.out)
    have HZ3 : Aside (w3.heap[w.heap.size + 1 + 1]? = some (boxU 0 (.slice none 0 0))) := heap_below HZ2.out hb3 (heap_lt HZ2.out)
    have HB3 : Aside (Below w.heap.size w w3) := step_below1 HB2.out hb3
    have HD3 : Aside (DiskR w3 (.slice b1 m1 k1) (.slice b2 m2 k2) (recovered s t).1) := ⟨HD2.out.safe.later hb3, HD2.out.wait.later hb3, HD2.out.room1, HD2.out.room2⟩
    obtain ⟨b3, m3, k3, rfl⟩ := roomy_sl hU.room
    have HU3 : Aside (UnitAt w3 (.slice b3 m3 k3) U) := hU
    clear hb3 HX2 HY2 HZ2 HB2 HD2 hp hU
    have HX4 : Aside ((w3.alloc (boxU U.p (.slice b3 m3 k3))).heap[w.heap.size]? = some (boxD (.slice b1 m1 k1) (.slice b2 m2 k2))) := heap_old HX3.out _
    have HY4 : Aside ((w3.alloc (boxU U.p (.slice b3 m3 k3))).heap[w.heap.size + 1]? = some (boxD nilB nilB)) := heap_old HY3.out _
    have HZ4 : Aside ((w3.alloc (boxU U.p (.slice b3 m3 k3))).heap[w.heap.size + 1 + 1]? = some (boxU 0 (.slice none 0 0))) := heap_old HZ3.out _
    have HW4 : Aside ((w3.alloc (boxU U.p (.slice b3 m3 k3))).heap[w3.heap.size]? = some (boxU U.p (.slice b3 m3 k3))) := heap_new _ _
    have HB4 : Aside (Below w.heap.size w (w3.alloc (boxU U.p (.slice b3 m3 k3)))) := grew HB3.out _
    have hbA : Below w3.heap.size w3 (w3.alloc (boxU U.p (.slice b3 m3 k3))) := grew (Below.refl _ _) _
    have HD4 : Aside (DiskR (w3.alloc (boxU U.p (.slice b3 m3 k3))) (.slice b1 m1 k1) (.slice b2 m2 k2) (recovered s t).1) := ⟨HD3.out.safe.later hbA, HD3.out.wait.later hbA, HD3.out.room1, HD3.out.room2⟩
    have HU4 : Aside (UnitAt (w3.alloc (boxU U.p (.slice b3 m3 k3))) (.slice b3 m3 k3) U) := HU3.out.later hbA
    have hlt := heap_lt HZ3.out
    clear HX3 HY3 HZ3 HB3 HD3 HU3 hbA
    go_upto_region 5 with fail
    generalize w3.alloc (boxU U.p (.slice b3 m3 k3)) = w4 at *
    generalize w3.heap.size = g at *
    have z : ∀ i, w4.cell? ⟨w.heap.size, i, none⟩ = #[Value.slice b1 m1 k1, .slice b2 m2 k2][i]? := fun i => Joins.cell_of_block HX4.out i
    have z1 : ∀ i, w4.cell? ⟨w.heap.size + 1, i, none⟩ = #[nilB, nilB][i]? := fun i => Joins.cell_of_block HY4.out i
    have fz1 : ∀ i, w4.frozen? ⟨w.heap.size + 1, i, none⟩ = false := fun i => Joins.unfrozen_of_block HY4.out i
    have z2 : ∀ i, w4.cell? ⟨w.heap.size + 1 + 1, i, none⟩ = #[Value.int .i64 0, .slice none 0 0][i]? := fun i => Joins.cell_of_block HZ4.out i
    have fz2 : ∀ i, w4.frozen? ⟨w.heap.size + 1 + 1, i, none⟩ = false := fun i => Joins.unfrozen_of_block HZ4.out i
    have z3 : ∀ i, w4.cell? ⟨g, i, none⟩ = #[Value.int .i64 U.p, .slice b3 m3 k3][i]? := fun i => Joins.cell_of_block HW4.out i
    rcases HC.out with ⟨h0, h1⟩ | ⟨h0, h1⟩
    · have hz : (d != 0) = false := by rw [h0]; rfl
      subst h1
      have H60 : Aside (U.cells.length = 60) := unitOf_sixty (HQ.out.trans (by rw [h0]))
      clear h0 HC
      go_upto_region 7 with fail
      go_region
      go_wp2
      have h60 := H60.out
      have q1 := other_two HZ4.out (by omega : w.heap.size + 1 + 1 ≠ w.heap.size + 1) (.slice b1 m1 k1) (.slice b2 m2 k2)
      have qd := disk_off2 (disk_off2 HD4.out HY4.out (slnob _ _ _) (slnob _ _ _) (slnob b1 m1 k1) (.slice b2 m2 k2)) q1 (int_nob _) (slnob _ _ _) (int_nob U.p) (.slice b3 m3 k3)
      have qu := unit_off2 (unit_off2 HU4.out h60 HY4.out (.slice b1 m1 k1) (.slice b2 m2 k2)) h60 q1 (.int .i64 U.p) (.slice b3 m3 k3)
      have qb := below_two2 (below_two2 HB4.out (by omega : w.heap.size ≤ w.heap.size + 1) (.slice b1 m1 k1) (.slice b2 m2 k2)) (by omega : w.heap.size ≤ w.heap.size + 1 + 1) (.int .i64 U.p) (.slice b3 m3 k3)
      exact ret_du (p := 2) (q := 3) (r := 4) Tryz.results113 rfl rfl rfl rfl (other_two (stored_two HY4.out rfl _ _) (by omega) _ _) (stored_two q1 rfl _ _)
        ⟨_, _, _, rfl, qd.later (Below.refl _ _).drew, qu.later (Below.refl _ _).drew, qb.drew⟩
    · have hz : (d != 0) = true := by rw [bne_iff_ne]; exact h0
      subst h1
      clear h0 HC z z3
      go_wp2
      exact ret_du (p := 2) (q := 3) (r := 4) Tryz.results113 rfl rfl rfl rfl (other_two (stored_two HY4.out rfl _ _) (by omega) _ _) (stored_two (other_two HZ4.out (by omega) _ _) rfl _ _)
        ⟨nilB, nilB, .slice none 0 0, rfl, dskR_nil _, unit_nil _, below_two2 (below_two2 HB4.out (by omega) _ _) (by omega) _ _⟩
/-- Package world's recovered. -/
theorem w_recovered (v1 v2 : Value) (s t : List UInt8) (w : World) (hL : Laid w) (h : DiskR w v1 v2 (s, t)) (hn1 : s.length ≤ topLen) (hn2 : t.length ≤ topLen) : AnsQ 113 #[.agg #[v1, v2]] w (recD s t) := by
  obtain ⟨a1, n1, c1, rfl⟩ := roomy_sl h.room1
  obtain ⟨a2, n2, c2, rfl⟩ := roomy_sl h.room2
  exact recov_at a1 a2 n1 n2 c1 c2 s t w hL h hn1 hn2
end Go.Proofs.YtmoaobfmopimlafGreatDoor
namespace Go.Proofs.YtmoaobfmopimlafGreatDoor
open Go.RowKit
theorem recD_ways (s t : List UInt8) : ((recov s t).2 = 0 ∧ recD s t = ((recovered s t).1, (recov s t).1, 0)) ∨ ((recov s t).2 ≠ 0 ∧ recD s t = (([], []), Un.zero, (recov s t).2)) := by
  by_cases h1 : ckDisk s t = 0
  · have e1 : recov s t = unitOf (recovered s t).2 := by rw [recov, if_neg (not_not_intro h1)]
    rw [e1]
    by_cases h2 : (unitOf (recovered s t).2).2 = 0
    · refine Or.inl ⟨h2, ?_⟩
      unfold recD
      rw [if_neg (show ¬ (ckDisk s t ≠ 0) from not_not_intro h1), if_neg (not_not_intro h2)]
    · refine Or.inr ⟨h2, ?_⟩
      unfold recD
      rw [if_neg (show ¬ (ckDisk s t ≠ 0) from not_not_intro h1), if_pos h2]
  · have e1 : recov s t = (Un.zero, ckDisk s t) := by rw [recov, if_pos h1]
    rw [e1]
    refine Or.inr ⟨h1, ?_⟩
    unfold recD
    rw [if_pos (show ckDisk s t ≠ 0 from h1)]
theorem recD_err (s t : List UInt8) : (recD s t).2.2 = (recov s t).2 := by
  rcases recD_ways s t with ⟨h, e⟩ | ⟨_, e⟩
  · rw [e, h]
  · rw [e]
theorem recD_ok {s t : List UInt8} (h : (recov s t).2 = 0) : recD s t = ((recovered s t).1, (recov s t).1, 0) := by
  rcases recD_ways s t with ⟨_, e⟩ | ⟨h', _⟩
  · exact e
  · exact absurd h h'
set_option linter.unusedSimpArgs false in
set_option maxHeartbeats 4000000 in
set_option maxRecDepth 100000 in
theorem w_boot {w : World} {g o : Nat} {NC : List Value} {x : Nb} (hL : Laid w) (h : NAt w g o NC x) (hn1 : x.n.s.length ≤ topLen) (hn2 : x.n.w.length ≤ topLen) :
    Calls Tryz.prog 101 #[.pointer (some ⟨g, o, none⟩)] w fun e w' => e = .returned (.int .i64 x.n.boot.2) ∧ Post st5 w w' g o x x.n.boot.1 := by
  obtain ⟨a1, m1, k1, e1⟩ := roomy_sl h.rows.disk.room1
  obtain ⟨a2, m2, k2, e2⟩ := roomy_sl h.rows.disk.room2
  have hd := h.rows.disk
  have c2 : w.cell? ⟨g, o + 2, none⟩ = some x.vs := h.cell (i := 2) rfl
  have c3 : w.cell? ⟨g, o + 2 + 1, none⟩ = some x.vw := h.cell (i := 3) rfl
  have c4 : w.cell? ⟨g, o + 4, none⟩ = some (.bool x.n.up) := h.cell (i := 4) rfl
  have H : Aside (NAt w g o NC x) := h
  rw [e1] at c2
  rw [e2] at c3
  rw [e1, e2] at hd
  have hr := w_recovered (.slice a1 m1 k1) (.slice a2 m2 k2) x.n.s x.n.w w hL hd hn1 hn2
  clear h hd hn1 hn2 hL
  cases hup : x.n.up with
  | true =>
    have hb : x.n.boot = (x.n, 7) := by rw [Nd.boot, hup, if_pos rfl]
    rw [hb]
    rw [hup] at c4
    clear hr c2 c3 hb
    go_enter Tryz.func101, Tryz.ntmps101
    go_wp2
    go_ret
    exact ⟨rfl, w, Below.refl _ _, Or.inl ⟨rfl, rfl⟩⟩
  | false =>
    rw [hup] at c4
    by_cases hz : (recov x.n.s x.n.w).2 = 0
    · have hb : x.n.boot = (⟨(recov x.n.s x.n.w).1, (recovered x.n.s x.n.w).1.1, [], true⟩, 0) := by rw [Nd.boot, hup, if_neg (by simp), if_neg (by simpa using hz)]
      rw [hb]
      rw [recD_ok hz] at hr
      have hrw : (recovered x.n.s x.n.w).1.2 = [] := rfl
      clear hb hz hup
      generalize recov x.n.s x.n.w = rv at *
      generalize recovered x.n.s x.n.w = rc at *
      have HW : Hid (rc.1.2 = []) := hrw
      clear hrw
      go_enter Tryz.func101, Tryz.ntmps101
      go_wp2_with fail
      refine hr.mono ?_
      rintro e w1 ⟨u1, u2, u3, rfl, hD, hU, hb1⟩
      obtain ⟨b1, n1, l1, rfl⟩ := roomy_sl hD.room1
      obtain ⟨b2, n2, l2, rfl⟩ := roomy_sl hD.room2
      obtain ⟨b3, n3, l3, rfl⟩ := roomy_sl hU.room
      have hBA : Below w1.heap.size w1 ((w1.alloc (boxD (.slice b1 n1 l1) (.slice b2 n2 l2))).alloc (boxU rv.1.p (.slice b3 n3 l3))) := grew (grew (Below.refl _ _) _) _
      have HB2 : Aside (Below w.heap.size w ((w1.alloc (boxD (.slice b1 n1 l1) (.slice b2 n2 l2))).alloc (boxU rv.1.p (.slice b3 n3 l3)))) := grew (grew hb1 _) _
      have HN2 : Aside (NAt _ g o NC x) := (H.out.later hb1).later hBA
      have HR2 : Aside (NodeT _ ⟨⟨rv.1, rc.1.1, [], true⟩, .slice b3 n3 l3, .slice b1 n1 l1, .slice b2 n2 l2⟩) := ⟨hU.later hBA, by have := hD.later hBA; rw [← HW.out]; exact this⟩
      have HX2 : Aside (((w1.alloc (boxD (.slice b1 n1 l1) (.slice b2 n2 l2))).alloc (boxU rv.1.p (.slice b3 n3 l3))).heap[w1.heap.size]? = some (boxD (.slice b1 n1 l1) (.slice b2 n2 l2))) := heap_old (heap_new _ _) _
      have HY2 : Aside (((w1.alloc (boxD (.slice b1 n1 l1) (.slice b2 n2 l2))).alloc (boxU rv.1.p (.slice b3 n3 l3))).heap[w1.heap.size + 1]? = some (boxU rv.1.p (.slice b3 n3 l3))) := by
        have := heap_new (w1.alloc (boxD (.slice b1 n1 l1) (.slice b2 n2 l2))) (boxU rv.1.p (.slice b3 n3 l3))
        rwa [World.size_alloc] at this
      clear hD hU hb1 hBA hr c2 c3 c4 H
      go_upto_region 6 with fail
      generalize (w1.alloc (boxD (.slice b1 n1 l1) (.slice b2 n2 l2))).alloc (boxU rv.1.p (.slice b3 n3 l3)) = w2 at *
      generalize w1.heap.size = d at *
      have z1 : ∀ i, w2.cell? ⟨d, i, none⟩ = #[Value.slice b1 n1 l1, .slice b2 n2 l2][i]? := fun i => Joins.cell_of_block HX2.out i
      have z2 : ∀ i, w2.cell? ⟨d + 1, i, none⟩ = #[Value.int .i64 rv.1.p, .slice b3 n3 l3][i]? := fun i => Joins.cell_of_block HY2.out i
      have y0 := HN2.out.cell (i := 0) rfl
      have y1 := HN2.out.cell (i := 1) rfl
      have y2 := HN2.out.cell (i := 2) rfl
      have y3 := HN2.out.cell (i := 3) rfl
      have y4 := HN2.out.cell (i := 4) rfl
      have fz := HN2.out.fz
      simp only [Nat.add_zero] at y0
      go_wp2
      go_ret
      exact ⟨rfl, w2, HB2.out, Or.inr ⟨_, HR2.out, rfl, rfl⟩⟩
    · have hb : x.n.boot = (x.n, (recov x.n.s x.n.w).2) := by rw [Nd.boot, hup, if_neg (by simp), if_pos hz]
      rw [hb]
      obtain ⟨⟨D, U, d⟩, hq⟩ : ∃ q, recD x.n.s x.n.w = q := ⟨_, rfl⟩
      have hd : (recov x.n.s x.n.w).2 = d := by rw [← recD_err, hq]
      rw [hd] at hz ⊢
      rw [hq] at hr
      have hzb : (d != 0) = true := by rw [bne_iff_ne]; exact hz
      clear hb hz hup hq hd
      go_enter Tryz.func101, Tryz.ntmps101
      go_wp2_with fail
      refine hr.mono ?_
      rintro e w1 ⟨u1, u2, u3, rfl, hD, hU, hb1⟩
      obtain ⟨b1, n1, l1, rfl⟩ := roomy_sl hD.room1
      obtain ⟨b2, n2, l2, rfl⟩ := roomy_sl hD.room2
      obtain ⟨b3, n3, l3, rfl⟩ := roomy_sl hU.room
      clear hD hU hr c2 c3 c4
      go_wp2
      go_ret
      exact ⟨rfl, _, grew (grew hb1 _) _, Or.inl ⟨rfl, rfl⟩⟩
end Go.Proofs.YtmoaobfmopimlafGreatDoor
namespace Go.Proofs.YtmoaobfmopimlafGreatDoor
open Go.RowKit
set_option linter.unusedSimpArgs false in
set_option maxHeartbeats 8000000 in
set_option maxRecDepth 100000 in
theorem sync_at (a1 a2 : Option Addr) (n1 n2 c1 c2 : Nat) (s t : List UInt8) (w : World) (hL : Laid w) (h : DiskR w (.slice a1 n1 c1) (.slice a2 n2 c2) (s, t)) (hs : s.length = n1) (ht : t.length = n2) (hn1 : s.length ≤ topLen) (hn2 : t.length ≤ topLen) :
    AnsR 130 (.slice a1 n1 c1) (.slice a2 n2 c2) #[.agg #[.slice a1 n1 c1, .slice a2 n2 c2]] w (dsync s t) := by
  have hB := grew (grew (Below.refl w.heap.size w) (boxD (.slice a1 n1 c1) (.slice a2 n2 c2))) (boxD nilB nilB)
  have hbD : ((w.alloc (boxD (.slice a1 n1 c1) (.slice a2 n2 c2))).alloc (boxD nilB nilB)).heap[w.heap.size]? = some (boxD (.slice a1 n1 c1) (.slice a2 n2 c2)) := heap_old (heap_new _ _) _
  have hbZ : ((w.alloc (boxD (.slice a1 n1 c1) (.slice a2 n2 c2))).alloc (boxD nilB nilB)).heap[w.heap.size + 1]? = some (boxD nilB nilB) := by
    have := heap_new (w.alloc (boxD (.slice a1 n1 c1) (.slice a2 n2 c2))) (boxD nilB nilB)
    rwa [World.size_alloc] at this
  have hck := diskCheck_any _ _ (s, t) _ (hL.later hB) (h.later hB) hn1 hn2
  have HB : Aside _ := hB
  have HL : Aside (Laid w) := hL
  have HH : Aside (DiskR w (.slice a1 n1 c1) (.slice a2 n2 c2) (s, t)) := h
  have HLn : Hid (s.length = n1 ∧ t.length = n2) := ⟨hs, ht⟩
  obtain ⟨rr, HRR⟩ : ∃ rr, Hid (dsync s t = rr) := ⟨_, rfl⟩
  rw [HRR.out]
  have HK0 : Hid (ckDisk s t ≠ 0 → rr = (([], []), ckDisk s t)) := fun h => by rw [← HRR.out, dsync, if_pos h]
  have HK1 : Hid (ckDisk s t = 0 → rr = synced s t) := fun h => by rw [← HRR.out, dsync, if_neg (by rw [h]; simp)]
  have HKL : Hid (ckDisk s t = 0 → n1 + n2 ≤ 30000) := fun h => by have := (ckDisk_zero.1 h).1; omega
  change Calls _ _ _ _ fun e w' => e = .returned (.int .i64 (ckDisk s t)) ∧ _ at hck
  clear hB h hs ht hL HRR hn1 hn2
  generalize ckDisk s t = k at *
  go_enter Tryz.func130, Tryz.ntmps130
  have d0 : ∀ i, ((w.alloc (boxD (.slice a1 n1 c1) (.slice a2 n2 c2))).alloc (boxD nilB nilB)).cell? ⟨w.heap.size, i, none⟩ = #[Value.slice a1 n1 c1, .slice a2 n2 c2][i]? := fun i => Joins.cell_of_block hbD i
  go_wp2_with fail
  refine hck.mono ?_
  rintro e w1 ⟨rfl, hb1⟩
  have hB1 : Aside (Below w.heap.size w w1) := HB.out.trans (hb1.mono HB.out.size)
  have hD1 := heap_below hbD hb1 (heap_lt hbD)
  have hZ1 := heap_below hbZ hb1 (heap_lt hbZ)
  have hlz1 := heap_lt hZ1
  have HZ1 : Aside (w1.heap[w.heap.size + 1]? = some (boxD nilB nilB)) := hZ1
  have HD1 : Aside (w1.heap[w.heap.size]? = some (boxD (.slice a1 n1 c1) (.slice a2 n2 c2))) := hD1
  have d1 : ∀ i, w1.cell? ⟨w.heap.size, i, none⟩ = #[Value.slice a1 n1 c1, .slice a2 n2 c2][i]? := fun i => Joins.cell_of_block hD1 i
  have z1 : ∀ i, w1.cell? ⟨w.heap.size + 1, i, none⟩ = #[nilB, nilB][i]? := fun i => Joins.cell_of_block hZ1 i
  have f1 : ∀ i, w1.frozen? ⟨w.heap.size + 1, i, none⟩ = false := fun i => Joins.unfrozen_of_block hZ1 i
  clear hck hb1 hbD hbZ HB hD1 hZ1 d0
  by_cases hk : k = 0
  · subst hk
    have hn12 : n1 + n2 ≤ 30000 := HKL.out rfl
    have HF1 : Hid (rr = synced s t) := HK1.out rfl
    have hjn := joinY _ _ s t w1 (HH.out.safe.later hB1.out) (HH.out.wait.later hB1.out) (by rw [HLn.out.1, HLn.out.2]; omega)
    have HLE : Hid ((s ++ t).length ≤ 30000) := by rw [Hid, List.length_append, HLn.out.1, HLn.out.2]; exact hn12
    clear HK0 HK1 HKL z1 f1 hn12
    go_wp2_with fail
    refine hjn.mono ?_
    rintro e w2 ⟨u, g, rfl, ho⟩
    have hb2 := ho.below
    have m1 : Aside (Mk w w2 u (s ++ t)) := Mk.of ho hB1.out.size
    have hB2 : Below w.heap.size w w2 := hB1.out.trans (hb2.mono hB1.out.size)
    have hZ2 := heap_below HZ1.out hb2 hlz1
    have hg2 := grew (Below.refl w2.heap.size w2) (boxD u nilB)
    have hB3 : Aside (Below w.heap.size w (w2.alloc (boxD u nilB))) := hB2.trans (hg2.mono hB2.size)
    have m3 : Aside (Mk w (w2.alloc (boxD u nilB)) u (s ++ t)) := m1.out.later hg2
    have HZ3 : Aside ((w2.alloc (boxD u nilB)).heap[w.heap.size + 1]? = some (boxD nilB nilB)) := heap_old hZ2 _
    have HE3 : Aside ((w2.alloc (boxD u nilB)).heap[w2.heap.size]? = some (boxD u nilB)) := heap_new _ _
    obtain ⟨b1, q1, hu, hq⟩ := m1.out.form
    have hck2 := diskCheck_any u nilB (s ++ t, []) _ (HL.out.later hB3.out) ⟨m3.out.sl, SlOf.nil _ _, ⟨_, _, _, hu, hq⟩, ⟨_, _, _, rfl, Nat.le_refl _⟩⟩ (by show (s ++ t).length ≤ topLen; have := HLE.out; unfold topLen; omega) (Nat.zero_le _)
    change Calls _ _ _ _ fun e w' => e = .returned (.int .i64 (ckDisk (s ++ t) [])) ∧ _ at hck2
    have HF2 : Hid (ckDisk (s ++ t) [] ≠ 0 → rr = (([], []), ckDisk (s ++ t) [])) := fun h => by rw [HF1.out, synced, if_pos h]
    have HF3 : Hid (ckDisk (s ++ t) [] = 0 → rr = ((s ++ t, []), 0)) := fun h => by rw [HF1.out, synced, if_neg (by rw [h]; simp)]
    generalize ckDisk (s ++ t) [] = k2 at *
    clear hjn ho m1 hB2 hZ2 hg2 HF1 hb2 HZ1 HD1 hB1 d1
    subst hu
    obtain ⟨x1, hx1⟩ : ∃ x1 : Nat, (s ++ t).length = x1 := ⟨_, rfl⟩
    rw [hx1] at hck2 m3 hB3 HZ3 HE3 ⊢
    clear hx1 hq
    go_wp2_with fail
    refine hck2.mono ?_
    rintro e w4 ⟨rfl, hb4⟩
    have hB4 : Aside (Below w.heap.size w w4) := hB3.out.trans (hb4.mono hB3.out.size)
    have hZ4 := heap_below HZ3.out hb4 (heap_lt HZ3.out)
    have hE4 := heap_below HE3.out hb4 (heap_lt HE3.out)
    have hlz4 := heap_lt hZ4
    have HZ4 : Aside (w4.heap[w.heap.size + 1]? = some (boxD nilB nilB)) := hZ4
    have m4 : Aside (Mk w w4 (.slice b1 x1 q1) (s ++ t)) := m3.out.later hb4
    have z4 : ∀ i, w4.cell? ⟨w.heap.size + 1, i, none⟩ = #[nilB, nilB][i]? := fun i => Joins.cell_of_block hZ4 i
    have f4 : ∀ i, w4.frozen? ⟨w.heap.size + 1, i, none⟩ = false := fun i => Joins.unfrozen_of_block hZ4 i
    have e4 : ∀ i, w4.cell? ⟨w2.heap.size, i, none⟩ = #[Value.slice b1 x1 q1, nilB][i]? := fun i => Joins.cell_of_block hE4 i
    clear hck2 hb4 HZ3 HE3 m3 hB3 hZ4 hE4
    by_cases hk2 : k2 = 0
    · have HF : Hid (rr = ((s ++ t, []), 0)) := HF3.out hk2
      have hkb : (k2 != 0) = false := by rw [hk2]; rfl
      have HA : Aside _ := answered HZ4.out (by omega) hB4.out m4.out (Mk.none w w4) (.slice a1 n1 c1) (.slice a2 n2 c2)
      clear HF2 HF3 m4 hk2
      go_wp2
      exact ret_dk (v1 := .slice b1 x1 q1) (v2 := nilB) Tryz.results130 rfl rfl rfl (disk_stored HZ4.out _ _) ⟨_, _, by rw [HF.out]; rfl, by rw [HF.out]; exact HA.out.1, HA.out.2⟩
    · have HF : Hid (rr = (([], []), k2)) := HF2.out hk2
      have hkb : (k2 != 0) = true := by rw [bne_iff_ne]; exact hk2
      have HA : Aside _ := answered HZ4.out (by omega) hB4.out (Mk.none w w4) (Mk.none w w4) (.slice a1 n1 c1) (.slice a2 n2 c2)
      clear HF2 HF3 m4 hk2 e4
      go_wp2
      exact ret_dk (v1 := nilB) (v2 := nilB) Tryz.results130 rfl rfl rfl (disk_stored HZ4.out _ _) ⟨nilB, nilB, by rw [HF.out]; rfl, by rw [HF.out]; exact HA.out.1, HA.out.2⟩
  · have HF : Hid (rr = (([], []), k)) := HK0.out hk
    have hkb : (k != 0) = true := by rw [bne_iff_ne]; exact hk
    have HA : Aside _ := answered HZ1.out (by omega) hB1.out (Mk.none w w1) (Mk.none w w1) (.slice a1 n1 c1) (.slice a2 n2 c2)
    clear HK0 HK1 HKL hk d1
    go_wp2
    exact ret_dk (v1 := nilB) (v2 := nilB) Tryz.results130 rfl rfl rfl (disk_stored HZ1.out _ _) ⟨nilB, nilB, by rw [HF.out]; rfl, by rw [HF.out]; exact HA.out.1, HA.out.2⟩
theorem diskSync_any (v1 v2 : Value) (d : Dk) (W : World) (hL : Laid W) (h : DiskR W v1 v2 d) (hn1 : d.1.length ≤ topLen) (hn2 : d.2.length ≤ topLen) : AnsR 130 v1 v2 #[.agg #[v1, v2]] W (dsync d.1 d.2) := by
  obtain ⟨s, t⟩ := d
  have h' := h
  obtain ⟨a1, c1, rfl, _⟩ := h.safe
  obtain ⟨a2, c2, rfl, _⟩ := h.wait
  exact sync_at a1 a2 _ _ c1 c2 s t W hL h' rfl rfl hn1 hn2
set_option linter.unusedSimpArgs false in
set_option maxHeartbeats 8000000 in
set_option maxRecDepth 100000 in
theorem crash_at (a1 a2 : Option Addr) (n1 n2 c1 c2 : Nat) (s t : List UInt8) (n : Int) (w : World) (hL : Laid w) (h : DiskR w (.slice a1 n1 c1) (.slice a2 n2 c2) (s, t)) (hs : s.length = n1) (ht : t.length = n2) (hn1 : s.length ≤ topLen) (hn2 : t.length ≤ topLen) :
    AnsR 135 (.slice a1 n1 c1) (.slice a2 n2 c2) #[.agg #[.slice a1 n1 c1, .slice a2 n2 c2], .int .i64 n] w (dcrash s t n) := by
  have hB := grew (grew (Below.refl w.heap.size w) (boxD (.slice a1 n1 c1) (.slice a2 n2 c2))) (boxD nilB nilB)
  have hbD : ((w.alloc (boxD (.slice a1 n1 c1) (.slice a2 n2 c2))).alloc (boxD nilB nilB)).heap[w.heap.size]? = some (boxD (.slice a1 n1 c1) (.slice a2 n2 c2)) := heap_old (heap_new _ _) _
  have hbZ : ((w.alloc (boxD (.slice a1 n1 c1) (.slice a2 n2 c2))).alloc (boxD nilB nilB)).heap[w.heap.size + 1]? = some (boxD nilB nilB) := by
    have := heap_new (w.alloc (boxD (.slice a1 n1 c1) (.slice a2 n2 c2))) (boxD nilB nilB)
    rwa [World.size_alloc] at this
  have hck := diskCheck_any _ _ (s, t) _ (hL.later hB) (h.later hB) hn1 hn2
  have HB : Aside _ := hB
  have HL : Aside (Laid w) := hL
  have HH : Aside (DiskR w (.slice a1 n1 c1) (.slice a2 n2 c2) (s, t)) := h
  have HLn : Hid (s.length = n1 ∧ t.length = n2) := ⟨hs, ht⟩
  obtain ⟨rr, HRR⟩ : ∃ rr, Hid (dcrash s t n = rr) := ⟨_, rfl⟩
  rw [HRR.out]
  have HK0 : Hid (ckDisk s t ≠ 0 → rr = (([], []), ckDisk s t)) := fun h => by rw [← HRR.out, dcrash, if_pos h]
  have HK1 : Hid (ckDisk s t = 0 → n < 0 ∨ (t.length : Int) < n → rr = (([], []), 3)) := fun h h' => by rw [← HRR.out, dcrash, if_neg (by rw [h]; simp), if_pos h']
  have HK2 : Hid (ckDisk s t = 0 → ¬ (n < 0 ∨ (t.length : Int) < n) → rr = ((s, t.take n.toNat), 0)) := fun h h' => by rw [← HRR.out, dcrash, if_neg (by rw [h]; simp), if_neg h']
  have HKL : Hid (ckDisk s t = 0 → n1 + n2 ≤ 30000) := fun h => by have := (ckDisk_zero.1 h).1; omega
  change Calls _ _ _ _ fun e w' => e = .returned (.int .i64 (ckDisk s t)) ∧ _ at hck
  clear hB h hs ht hL HRR hn1 hn2
  generalize ckDisk s t = k at *
  go_enter Tryz.func135, Tryz.ntmps135
  have d0 : ∀ i, ((w.alloc (boxD (.slice a1 n1 c1) (.slice a2 n2 c2))).alloc (boxD nilB nilB)).cell? ⟨w.heap.size, i, none⟩ = #[Value.slice a1 n1 c1, .slice a2 n2 c2][i]? := fun i => Joins.cell_of_block hbD i
  go_wp2_with fail
  refine hck.mono ?_
  rintro e w1 ⟨rfl, hb1⟩
  have hB1 : Aside (Below w.heap.size w w1) := HB.out.trans (hb1.mono HB.out.size)
  have hD1 := heap_below hbD hb1 (heap_lt hbD)
  have hZ1 := heap_below hbZ hb1 (heap_lt hbZ)
  have hlz1 := heap_lt hZ1
  have HZ1 : Aside (w1.heap[w.heap.size + 1]? = some (boxD nilB nilB)) := hZ1
  have HD1 : Aside (w1.heap[w.heap.size]? = some (boxD (.slice a1 n1 c1) (.slice a2 n2 c2))) := hD1
  have d1 : ∀ i, w1.cell? ⟨w.heap.size, i, none⟩ = #[Value.slice a1 n1 c1, .slice a2 n2 c2][i]? := fun i => Joins.cell_of_block hD1 i
  have z1 : ∀ i, w1.cell? ⟨w.heap.size + 1, i, none⟩ = #[nilB, nilB][i]? := fun i => Joins.cell_of_block hZ1 i
  have f1 : ∀ i, w1.frozen? ⟨w.heap.size + 1, i, none⟩ = false := fun i => Joins.unfrozen_of_block hZ1 i
  clear hck hb1 hbD hbZ HB hD1 hZ1 d0
  by_cases hk : k = 0
  · have HG1 : Hid (n < 0 ∨ (t.length : Int) < n → rr = (([], []), 3)) := HK1.out hk
    have HG2 : Hid (¬ (n < 0 ∨ (t.length : Int) < n) → rr = ((s, t.take n.toNat), 0)) := HK2.out hk
    have hn12 : n1 + n2 ≤ 30000 := HKL.out hk
    have hkb : (k != 0) = false := by rw [hk]; rfl
    have HLE : Hid (n1 + n2 ≤ 30000) := hn12
    have hq2 : n2 ≤ 30000 := by omega
    have hq1 : n1 ≤ 30000 := by omega
    clear HK0 HK1 HK2 HKL hk hn12
    by_cases h0 : n < 0
    · have HF : Hid (rr = (([], []), 3)) := HG1.out (Or.inl h0)
      have HA : Aside _ := answered HZ1.out (by omega) hB1.out (Mk.none w w1) (Mk.none w w1) (.slice a1 n1 c1) (.slice a2 n2 c2)
      have hb0 : decide (n < 0) = true := decide_eq_true h0
      clear HG1 HG2
      go_wp2
      exact ret_dk (v1 := nilB) (v2 := nilB) Tryz.results135 rfl rfl rfl (disk_stored HZ1.out _ _) ⟨nilB, nilB, by rw [HF.out]; rfl, by rw [HF.out]; exact HA.out.1, HA.out.2⟩
    · by_cases h2 : (n2 : Int) < n
      · have HF : Hid (rr = (([], []), 3)) := HG1.out (Or.inr (by rw [HLn.out.2]; exact h2))
        have HA : Aside _ := answered HZ1.out (by omega) hB1.out (Mk.none w w1) (Mk.none w w1) (.slice a1 n1 c1) (.slice a2 n2 c2)
        have hb0 : decide (n < 0) = false := decide_eq_false h0
        have hb2 : decide ((n2 : Int) < n) = true := decide_eq_true h2
        clear HG1 HG2
        go_wp2
        exact ret_dk (v1 := nilB) (v2 := nilB) Tryz.results135 rfl rfl rfl (disk_stored HZ1.out _ _) ⟨nilB, nilB, by rw [HF.out]; rfl, by rw [HF.out]; exact HA.out.1, HA.out.2⟩
      · obtain ⟨m, rfl⟩ : ∃ m : Nat, n = (m : Int) := ⟨n.toNat, by omega⟩
        have HF : Hid (rr = ((s, t.take m), 0)) := by
          have := HG2.out (by rw [HLn.out.2]; omega)
          rwa [Int.toNat_natCast] at this
        have hb0 : decide ((m : Int) < 0) = false := decide_eq_false h0
        have hmn : m ≤ n2 := by omega
        have hb2 : decide ((n2 : Int) < (m : Int)) = false := decide_eq_false h2
        have hb3 : decide (n2 < m) = false := decide_eq_false (by omega)
        obtain ⟨ar, nr, cr, er, hroom⟩ := HH.out.room2
        injection er with er1 er2 er3
        subst er1 er2 er3
        have hm0 : (0 : Int) ≤ (m : Int) := by omega
        have hmc : (m : Int) ≤ (c2 : Int) := by omega
        have hcp : ∀ X, Below w.heap.size w X → Calls Tryz.prog 166 #[.slice a1 n1 c1] X fun e w' => ∃ u g, e = .returned u ∧ Own1 X w' u s g := fun X hX => copyOfY _ s X (HH.out.safe.later hX) (by rw [HLn.out.1]; omega)
        have hcq : ∀ X, Below w.heap.size w X → Calls Tryz.prog 166 #[.slice a2 m c2] X fun e w' => ∃ u g, e = .returned u ∧ Own1 X w' u (t.take m) g := fun X hX => copyOfY _ (t.take m) X ((HH.out.wait.later hX).upto m hmn) (by rw [List.length_take, HLn.out.2]; omega)
        clear HG1 HG2 z1 f1 h0 h2 hmn hroom HH HD1
        go_wp2_with fail
        refine wp_region_held_drew (S := fun w' => PtS0 w' w.heap.size (.slice a1 n1 c1) (.slice a2 n2 c2)) (by kernel_rfl) (⟨d1 0, d1 1⟩) (fun hHeld => ?_)
        refine wpAnyH_take (i := 0) (oi := ?oi0) (v := ?v0) ?hi0 ?hs0 ?hf0 ?hr0 ?hQ0 (Or.inl ⟨?hw0, ?hy0⟩) (by assumption) ?h0
        case hi0 => (simp only [List.getElem?_toArray, List.getElem?_cons_succ, List.getElem?_cons_zero]; rfl)
        case hs0 => kernel_rfl
        case hf0 => kernel_rfl
        case hr0 => kernel_rfl
        case hw0 => rfl
        case hy0 => (intro w0 hSw; (try dsimp only at hSw); go_simp; first | done | with_reducible rfl)
        case hQ0 => exact fun _ _ _ h => h
        try simp only [Act.put, List.setIfInBounds_toArray, List.set_cons_zero, List.set_cons_succ]
        refine wpAnyH_take (i := 1) (oi := ?oi1) (v := ?v1) ?hi1 ?hs1 ?hf1 ?hr1 ?hQ1 (Or.inl ⟨?hw1, ?hy1⟩) (by assumption) ?h1
        case hi1 => (simp only [List.getElem?_toArray, List.getElem?_cons_succ, List.getElem?_cons_zero]; rfl)
        case hs1 => kernel_rfl
        case hf1 => kernel_rfl
        case hr1 => kernel_rfl
        case hw1 => rfl
        case hy1 => (intro w0 hSw; (try dsimp only at hSw); go_simp; first | done | with_reducible rfl)
        case hQ1 => exact fun _ _ _ h => h
        try simp only [Act.put, List.setIfInBounds_toArray, List.set_cons_zero, List.set_cons_succ]
        refine wpAnyH_take (i := 3) (oi := ?oi3) (v := ?v3) ?hi3 ?hs3 ?hf3 ?hr3 ?hQ3 (Or.inl ⟨?hw3, ?hy3⟩) (by assumption) ?h3
        case hi3 => (simp only [List.getElem?_toArray, List.getElem?_cons_succ, List.getElem?_cons_zero]; rfl)
        case hs3 => kernel_rfl
        case hf3 => kernel_rfl
        case hr3 => kernel_rfl
        case hw3 => rfl
        case hy3 => (intro w0 hSw; (try dsimp only at hSw); go_simp; first | done | with_reducible rfl)
        case hQ3 => exact fun _ _ _ h => h
        try simp only [Act.put, List.setIfInBounds_toArray, List.set_cons_zero, List.set_cons_succ]
        refine wpAnyH_take (i := 4) (oi := ?oi4) (v := ?v4) ?hi4 ?hs4 ?hf4 ?hr4 ?hQ4 (Or.inl ⟨?hw4, ?hy4⟩) (by assumption) ?h4
        case hi4 => (simp only [List.getElem?_toArray, List.getElem?_cons_succ, List.getElem?_cons_zero]; rfl)
        case hs4 => kernel_rfl
        case hf4 => kernel_rfl
        case hr4 => kernel_rfl
        case hw4 => rfl
        case hy4 => (intro w0 hSw; (try dsimp only at hSw); go_simp; first | done | with_reducible rfl)
        case hQ4 => exact fun _ _ _ h => h
        try simp only [Act.put, List.setIfInBounds_toArray, List.set_cons_zero, List.set_cons_succ]
        refine wpAnyH_take (i := 5) (oi := ?oi5) (v := ?v5) ?hi5 ?hs5 ?hf5 ?hr5 ?hQ5 (Or.inl ⟨?hw5, ?hy5⟩) (by assumption) ?h5
        case hi5 => (simp only [List.getElem?_toArray, List.getElem?_cons_succ, List.getElem?_cons_zero]; rfl)
        case hs5 => kernel_rfl
        case hf5 => kernel_rfl
        case hr5 => kernel_rfl
        case hw5 => rfl
        case hy5 => (intro w0 hSw; (try dsimp only at hSw); go_simp; first | done | with_reducible rfl)
        case hQ5 => exact fun _ _ _ h => h
        try simp only [Act.put, List.setIfInBounds_toArray, List.set_cons_zero, List.set_cons_succ]
        refine wpAnyH_take (i := 6) (oi := ?oi6) (v := ?v6) ?hi6 ?hs6 ?hf6 ?hr6 ?hQ6 (Or.inl ⟨?hw6, ?hy6⟩) (by assumption) ?h6
        case hi6 => (simp only [List.getElem?_toArray, List.getElem?_cons_succ, List.getElem?_cons_zero]; rfl)
        case hs6 => kernel_rfl
        case hf6 => kernel_rfl
        case hr6 => kernel_rfl
        case hw6 => rfl
        case hy6 => (intro w0 hSw; (try dsimp only at hSw); go_simp; first | done | with_reducible rfl)
        case hQ6 => exact fun _ _ _ h => h
        try simp only [Act.put, List.setIfInBounds_toArray, List.set_cons_zero, List.set_cons_succ]
        have hX0 : Aside (Below w.heap.size w w1.drew) := hB1.out.drew
        have hZ0 : Aside (w1.drew.heap[w.heap.size + 1]? = some (boxD nilB nilB)) := HZ1.out
        have hz0 : w.heap.size + 1 < w1.drew.heap.size := hlz1
        clear HZ1 hB1 d1 hlz1
        generalize w1.drew = X0 at *
        refine wpAnyH_ready (rs := [2]) (by kernel_rfl) (by simp) ?_
        refine AllReadyH.cons (o := ?o2a) ?hi2a ?step2a AllReadyH.nil
        case hi2a => (simp only [List.getElem?_toArray, List.getElem?_cons_succ, List.getElem?_cons_zero]; rfl)
        intro K hK
        go_simp
        refine (hcp X0 hX0.out).mono ?_
        rintro e X1 ⟨u1, g1, rfl, ho1⟩
        refine hK.out _ _ (ptS0_step hHeld ho1.below) (fun hHeld => ?_)
        clear hK K
        try simp only [Act.put, List.setIfInBounds_toArray, List.set_cons_zero, List.set_cons_succ]
        have hX1 : Below w.heap.size w X1 := hX0.out.trans (ho1.below.mono hX0.out.size)
        refine wpAnyH_ready (rs := [7]) (by kernel_rfl) (by simp) ?_
        refine AllReadyH.cons (o := ?o7a) ?hi7a ?step7a AllReadyH.nil
        case hi7a => (simp only [List.getElem?_toArray, List.getElem?_cons_succ, List.getElem?_cons_zero]; rfl)
        intro K hK
        go_simp
        refine (hcq X1 hX1).mono ?_
        rintro e X9 ⟨u2, g2, rfl, ho2⟩
        refine hK.out _ _ (ptS0_step hHeld ho2.below) (fun hHeld => ?_)
        clear hK K
        try simp only [Act.put, List.setIfInBounds_toArray, List.set_cons_zero, List.set_cons_succ]
        have hB9 : Below w.heap.size w X9 := hX1.trans (ho2.below.mono hX1.size)
        have m1 : Mk w X9 u1 s := (Mk.of ho1 hX0.out.size).later ho2.below
        have m2 : Mk w X9 u2 (t.take m) := Mk.of ho2 hX1.size
        have hZ9 := heap_below (heap_below hZ0.out ho1.below hz0) ho2.below (Nat.lt_of_lt_of_le hz0 ho1.below.size)
        have hlt9 := heap_lt hZ9
        have HZ9 : Aside (X9.heap[w.heap.size + 1]? = some (boxD nilB nilB)) := hZ9
        have HAN : Aside _ := answered HZ9.out (by omega) hB9 m1 m2 (.slice a1 n1 c1) (.slice a2 n2 c2)
        have z9 : ∀ i, X9.cell? ⟨w.heap.size + 1, i, none⟩ = #[nilB, nilB][i]? := fun i => Joins.cell_of_block hZ9 i
        have f9 : ∀ i, X9.frozen? ⟨w.heap.size + 1, i, none⟩ = false := fun i => Joins.unfrozen_of_block hZ9 i
        obtain ⟨b1, q1, rfl, _⟩ := m1.form
        obtain ⟨b2, q2, rfl, _⟩ := m2.form
        obtain ⟨x1, hx1⟩ : ∃ x1 : Nat, s.length = x1 := ⟨_, rfl⟩
        obtain ⟨x2, hx2⟩ : ∃ x2 : Nat, (t.take m).length = x2 := ⟨_, rfl⟩
        rw [hx1, hx2] at HAN
        rw [hx1, hx2]
        clear hx1 hx2 m1 m2 hX1 hB9 hZ9 hcp hcq ho1 ho2
        refine wpAnyH_take (i := 8) (oi := ?oi8) (v := ?v8) ?hi8 ?hs8 ?hf8 ?hr8 ?hQ8 (Or.inl ⟨?hw8, ?hy8⟩) (by assumption) ?h8
        case hi8 => (simp only [List.getElem?_toArray, List.getElem?_cons_succ, List.getElem?_cons_zero]; rfl)
        case hs8 => kernel_rfl
        case hf8 => kernel_rfl
        case hr8 => kernel_rfl
        case hw8 => rfl
        case hy8 => (intro w0 hSw; (try dsimp only at hSw); go_simp; first | done | with_reducible rfl)
        case hQ8 => exact fun _ _ _ h => h
        try simp only [Act.put, List.setIfInBounds_toArray, List.set_cons_zero, List.set_cons_succ]
        refine wpAnyH_ready (rs := [9]) (by kernel_rfl) (by simp) ?_
        refine AllReadyH.cons (o := ?o9) ?hi9 ?step9 AllReadyH.nil
        case hi9 => (simp only [List.getElem?_toArray, List.getElem?_cons_succ, List.getElem?_cons_zero]; rfl)
        intro K hK
        go_simp
        refine hK.out _ _ (ptS0_two (by omega) hHeld _ _) (fun hHeld => ?_)
        clear hK K
        try simp only [Act.put, List.setIfInBounds_toArray, List.set_cons_zero, List.set_cons_succ]
        refine wpAnyH_take (i := 10) (oi := ?oi10) (v := ?v10) ?hi10 ?hs10 ?hf10 ?hr10 ?hQ10 (Or.inl ⟨?hw10, ?hy10⟩) (by assumption) ?h10
        case hi10 => (simp only [List.getElem?_toArray, List.getElem?_cons_succ, List.getElem?_cons_zero]; rfl)
        case hs10 => kernel_rfl
        case hf10 => kernel_rfl
        case hr10 => kernel_rfl
        case hw10 => rfl
        case hy10 => (intro w0 hSw; (try dsimp only at hSw); go_simp; first | done | with_reducible rfl)
        case hQ10 => exact fun _ _ _ h => h
        try simp only [Act.put, List.setIfInBounds_toArray, List.set_cons_zero, List.set_cons_succ]
        refine wpAnyH_done (by kernel_rfl) ?_ _
        go_wp2
        exact ret_dk (v1 := .slice b1 x1 q1) (v2 := .slice b2 x2 q2) Tryz.results135 rfl rfl rfl (disk_stored HZ9.out _ _) ⟨_, _, by rw [HF.out]; rfl, by rw [HF.out]; exact HAN.out.1, HAN.out.2⟩
  · have HF : Hid (rr = (([], []), k)) := HK0.out hk
    have hkb : (k != 0) = true := by rw [bne_iff_ne]; exact hk
    have HA : Aside _ := answered HZ1.out (by omega) hB1.out (Mk.none w w1) (Mk.none w w1) (.slice a1 n1 c1) (.slice a2 n2 c2)
    clear HK0 HK1 HK2 HKL hk d1
    go_wp2
    exact ret_dk (v1 := nilB) (v2 := nilB) Tryz.results135 rfl rfl rfl (disk_stored HZ1.out _ _) ⟨nilB, nilB, by rw [HF.out]; rfl, by rw [HF.out]; exact HA.out.1, HA.out.2⟩
theorem diskCrash_any (v1 v2 : Value) (d : Dk) (n : Int) (W : World) (hL : Laid W) (h : DiskR W v1 v2 d) (hn1 : d.1.length ≤ topLen) (hn2 : d.2.length ≤ topLen) : AnsR 135 v1 v2 #[.agg #[v1, v2], .int .i64 n] W (dcrash d.1 d.2 n) := by
  obtain ⟨s, t⟩ := d
  have h' := h
  obtain ⟨a1, c1, rfl, _⟩ := h.safe
  obtain ⟨a2, c2, rfl, _⟩ := h.wait
  exact crash_at a1 a2 _ _ c1 c2 s t n W hL h' rfl rfl hn1 hn2
end Go.Proofs.YtmoaobfmopimlafGreatDoor
