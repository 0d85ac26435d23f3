/- For the law. -/
import Derived.Test.YtmoaobfmopimlafGreatDoorM25
set_option linter.unusedSimpArgs false
set_option linter.unusedVariables false
namespace Go.Proofs.YtmoaobfmopimlafGreatDoor
open Go.RowKit
set_option maxHeartbeats 8000000 in
set_option maxRecDepth 100000 in
theorem sync_at (a1 a2 : Option Addr) (n1 n2 c1 c2 : Nat) (s t : List UInt8) (w : World) (hL : Laid w) (h : DiskR w (.slice a1 n1 c1) (.slice a2 n2 c2) (s, t)) (hs : s.length = n1) (ht : t.length = n2) (hn1 : s.length ≤ topLen) (hn2 : t.length ≤ topLen) :
  AnsR 130 (.slice a1 n1 c1) (.slice a2 n2 c2) #[.agg #[.slice a1 n1 c1, .slice a2 n2 c2]] w (dsync s t) := by
 have hB := grew (grew (Below.refl w.heap.size w) (boxD (.slice a1 n1 c1) (.slice a2 n2 c2))) (boxD nilB nilB)
 have hbD : ((w.alloc (boxD (.slice a1 n1 c1) (.slice a2 n2 c2))).alloc (boxD nilB nilB)).heap[w.heap.size]? = some (boxD (.slice a1 n1 c1) (.slice a2 n2 c2)) := heap_old (heap_new _ _) _
 have hbZ : ((w.alloc (boxD (.slice a1 n1 c1) (.slice a2 n2 c2))).alloc (boxD nilB nilB)).heap[w.heap.size + 1]? = some (boxD nilB nilB) := by
  have := heap_new (w.alloc (boxD (.slice a1 n1 c1) (.slice a2 n2 c2))) (boxD nilB nilB)
  rwa [World.size_alloc] at this
 have hck := diskCheck_any _ _ (s, t) _ (hL.later hB) (h.later hB) hn1 hn2
 have HB : Aside _ := hB
 have HL : Aside (Laid w) := hL
 have HH : Aside (DiskR w (.slice a1 n1 c1) (.slice a2 n2 c2) (s, t)) := h
 have HLn : Hid (s.length = n1 ∧ t.length = n2) := ⟨hs, ht⟩
 obtain ⟨rr, HRR⟩ : ∃ rr, Hid (dsync s t = rr) := ⟨_, rfl⟩
 rw [HRR.out]
 have HK0 : Hid (ckDisk s t ≠ 0 → rr = (([], []), ckDisk s t)) := fun h => by rw [← HRR.out, dsync, if_pos h]
 have HK1 : Hid (ckDisk s t = 0 → rr = synced s t) := fun h => by rw [← HRR.out, dsync, if_neg (by rw [h]; simp)]
 have HKL : Hid (ckDisk s t = 0 → n1 + n2 ≤ 30000) := fun h => by have := (ckDisk_zero.1 h).1; omega
 change Calls _ _ _ _ fun e w' => e = .returned (.int .i64 (ckDisk s t)) ∧ _ at hck
 clear hB h hs ht hL HRR hn1 hn2
 generalize ckDisk s t = k at *
 go_enter Tryz.func130, Tryz.ntmps130
 have d0 : ∀ i, ((w.alloc (boxD (.slice a1 n1 c1) (.slice a2 n2 c2))).alloc (boxD nilB nilB)).cell? ⟨w.heap.size, i, none⟩ = #[Value.slice a1 n1 c1, .slice a2 n2 c2][i]? := fun i => Joins.cell_of_block hbD i
 go_wp2_with fail
 refine hck.mono ?_
 rintro e w1 ⟨rfl, hb1⟩
 have hB1 : Aside (Below w.heap.size w w1) := HB.out.trans (hb1.mono HB.out.size)
 have hD1 := heap_below hbD hb1 (heap_lt hbD)
 have hZ1 := heap_below hbZ hb1 (heap_lt hbZ)
 have hlz1 := heap_lt hZ1
 have HZ1 : Aside (w1.heap[w.heap.size + 1]? = some (boxD nilB nilB)) := hZ1
 have HD1 : Aside (w1.heap[w.heap.size]? = some (boxD (.slice a1 n1 c1) (.slice a2 n2 c2))) := hD1
 have d1 := fun i => Joins.cell_of_block hD1 i
 have z1 := fun i => Joins.cell_of_block hZ1 i
 have f1 := fun i => Joins.unfrozen_of_block hZ1 i
 clear hck hb1 hbD hbZ HB hD1 hZ1 d0
 by_cases hk : k = 0
 ·subst hk
  have hn12 : n1 + n2 ≤ 30000 := HKL.out rfl
  have HF1 : Hid (rr = synced s t) := HK1.out rfl
  have hjn := joinY _ _ s t w1 (HH.out.safe.later hB1.out) (HH.out.wait.later hB1.out) (by rw [HLn.out.1, HLn.out.2]; omega)
  have HLE : Hid ((s ++ t).length ≤ 30000) := by rw [Hid, List.length_append, HLn.out.1, HLn.out.2]; exact hn12
  clear HK0 HK1 HKL z1 f1 hn12
  go_wp2_with fail
  refine hjn.mono ?_
  rintro e w2 ⟨u, g, rfl, ho⟩
  have hb2 := ho.below
  have m1 : Aside (Mk w w2 u (s ++ t)) := Mk.of ho hB1.out.size
  have hB2 : Below w.heap.size w w2 := hB1.out.trans (hb2.mono hB1.out.size)
  have hZ2 := heap_below HZ1.out hb2 hlz1
  have hg2 := grew (Below.refl w2.heap.size w2) (boxD u nilB)
  have hB3 : Aside (Below w.heap.size w (w2.alloc (boxD u nilB))) := hB2.trans (hg2.mono hB2.size)
  have m3 : Aside _ := m1.out.later hg2
  have HZ3 : Aside ((w2.alloc (boxD u nilB)).heap[w.heap.size + 1]? = some (boxD nilB nilB)) := heap_old hZ2 _
  have HE3 : Aside ((w2.alloc (boxD u nilB)).heap[w2.heap.size]? = some (boxD u nilB)) := heap_new _ _
  obtain ⟨b1, q1, hu, hq⟩ := m1.out.form
  have hck2 := diskCheck_any u nilB (s ++ t, []) _ (HL.out.later hB3.out) ⟨m3.out.sl, SlOf.nil _ _, ⟨_, _, _, hu, hq⟩, ⟨_, _, _, rfl, Nat.le_refl _⟩⟩ (by show (s ++ t).length ≤ topLen; have := HLE.out; unfold topLen; omega) (Nat.zero_le _)
  change Calls _ _ _ _ fun e w' => e = .returned (.int .i64 (ckDisk (s ++ t) [])) ∧ _ at hck2
  have HF2 : Hid (ckDisk (s ++ t) [] ≠ 0 → rr = (([], []), ckDisk (s ++ t) [])) := fun h => by rw [HF1.out, synced, if_pos h]
  have HF3 : Hid (ckDisk (s ++ t) [] = 0 → rr = ((s ++ t, []), 0)) := fun h => by rw [HF1.out, synced, if_neg (by rw [h]; simp)]
  generalize ckDisk (s ++ t) [] = k2 at *
  clear hjn ho m1 hB2 hZ2 hg2 HF1 hb2 HZ1 HD1 hB1 d1
  subst hu
  obtain ⟨x1, hx1⟩ : ∃ x1 : Nat, (s ++ t).length = x1 := ⟨_, rfl⟩
  rw [hx1] at hck2 m3 hB3 HZ3 HE3 ⊢
  clear hx1 hq
  go_wp2_with fail
  refine hck2.mono ?_
  rintro e w4 ⟨rfl, hb4⟩
  have hB4 : Aside (Below w.heap.size w w4) := hB3.out.trans (hb4.mono hB3.out.size)
  have hZ4 := heap_below HZ3.out hb4 (heap_lt HZ3.out)
  have hE4 := heap_below HE3.out hb4 (heap_lt HE3.out)
  have hlz4 := heap_lt hZ4
  have HZ4 : Aside (w4.heap[w.heap.size + 1]? = some (boxD nilB nilB)) := hZ4
  have m4 : Aside _ := m3.out.later hb4
  have z4 := fun i => Joins.cell_of_block hZ4 i
  have f4 := fun i => Joins.unfrozen_of_block hZ4 i
  have e4 := fun i => Joins.cell_of_block hE4 i
  clear hck2 hb4 HZ3 HE3 m3 hB3 hZ4 hE4
  by_cases hk2 : k2 = 0
  ·have HF : Hid (rr = ((s ++ t, []), 0)) := HF3.out hk2
   have hkb : (k2 != 0) = false := by rw [hk2]; rfl
   have HA : Aside _ := answered HZ4.out (by omega) hB4.out m4.out (Mk.none w w4) (.slice a1 n1 c1) (.slice a2 n2 c2)
   clear HF2 HF3 m4 hk2
   go_wp2
   exact ret_dk (v1 := .slice b1 x1 q1) (v2 := nilB) Tryz.results130 rfl rfl rfl (disk_stored HZ4.out _ _) ⟨_, _, by rw [HF.out]; rfl, by rw [HF.out]; exact HA.out.1, HA.out.2⟩
  ·have HF : Hid (rr = (([], []), k2)) := HF2.out hk2
   have hkb : (k2 != 0) = true := by rw [bne_iff_ne]; exact hk2
   have HA : Aside _ := answered HZ4.out (by omega) hB4.out (Mk.none w w4) (Mk.none w w4) (.slice a1 n1 c1) (.slice a2 n2 c2)
   clear HF2 HF3 m4 hk2 e4
   go_wp2
   exact ret_dk (v1 := nilB) (v2 := nilB) Tryz.results130 rfl rfl rfl (disk_stored HZ4.out _ _) ⟨nilB, nilB, by rw [HF.out]; rfl, by rw [HF.out]; exact HA.out.1, HA.out.2⟩
 ·have HF : Hid (rr = (([], []), k)) := HK0.out hk
  have hkb : (k != 0) = true := by rw [bne_iff_ne]; exact hk
  have HA : Aside _ := answered HZ1.out (by omega) hB1.out (Mk.none w w1) (Mk.none w w1) (.slice a1 n1 c1) (.slice a2 n2 c2)
  clear HK0 HK1 HKL hk d1
  go_wp2
  exact ret_dk (v1 := nilB) (v2 := nilB) Tryz.results130 rfl rfl rfl (disk_stored HZ1.out _ _) ⟨nilB, nilB, by rw [HF.out]; rfl, by rw [HF.out]; exact HA.out.1, HA.out.2⟩
theorem diskSync_any (v1 v2 : Value) (d : Dk) (W : World) (hL : Laid W) (h : DiskR W v1 v2 d) (hn1 : d.1.length ≤ topLen) (hn2 : d.2.length ≤ topLen) : AnsR 130 v1 v2 #[.agg #[v1, v2]] W (dsync d.1 d.2) := by
 obtain ⟨s, t⟩ := d
 have h' := h
 obtain ⟨a1, c1, rfl, _⟩ := h.safe
 obtain ⟨a2, c2, rfl, _⟩ := h.wait
 exact sync_at a1 a2 _ _ c1 c2 s t W hL h' rfl rfl hn1 hn2
set_option maxHeartbeats 8000000 in
set_option maxRecDepth 100000 in
theorem crash_at (a1 a2 : Option Addr) (n1 n2 c1 c2 : Nat) (s t : List UInt8) (n : Int) (w : World) (hL : Laid w) (h : DiskR w (.slice a1 n1 c1) (.slice a2 n2 c2) (s, t)) (hs : s.length = n1) (ht : t.length = n2) (hn1 : s.length ≤ topLen) (hn2 : t.length ≤ topLen) :
  AnsR 135 (.slice a1 n1 c1) (.slice a2 n2 c2) #[.agg #[.slice a1 n1 c1, .slice a2 n2 c2], .int .i64 n] w (dcrash s t n) := by
 have hB := grew (grew (Below.refl w.heap.size w) (boxD (.slice a1 n1 c1) (.slice a2 n2 c2))) (boxD nilB nilB)
 have hbD : ((w.alloc (boxD (.slice a1 n1 c1) (.slice a2 n2 c2))).alloc (boxD nilB nilB)).heap[w.heap.size]? = some (boxD (.slice a1 n1 c1) (.slice a2 n2 c2)) := heap_old (heap_new _ _) _
 have hbZ : ((w.alloc (boxD (.slice a1 n1 c1) (.slice a2 n2 c2))).alloc (boxD nilB nilB)).heap[w.heap.size + 1]? = some (boxD nilB nilB) := by
  have := heap_new (w.alloc (boxD (.slice a1 n1 c1) (.slice a2 n2 c2))) (boxD nilB nilB)
  rwa [World.size_alloc] at this
 have hck := diskCheck_any _ _ (s, t) _ (hL.later hB) (h.later hB) hn1 hn2
 have HB : Aside _ := hB
 have HL : Aside (Laid w) := hL
 have HH : Aside (DiskR w (.slice a1 n1 c1) (.slice a2 n2 c2) (s, t)) := h
 have HLn : Hid (s.length = n1 ∧ t.length = n2) := ⟨hs, ht⟩
 obtain ⟨rr, HRR⟩ : ∃ rr, Hid (dcrash s t n = rr) := ⟨_, rfl⟩
 rw [HRR.out]
 have HK0 : Hid (ckDisk s t ≠ 0 → rr = (([], []), ckDisk s t)) := fun h => by rw [← HRR.out, dcrash, if_pos h]
 have HK1 : Hid (ckDisk s t = 0 → n < 0 ∨ (t.length : Int) < n → rr = (([], []), 3)) := fun h h' => by rw [← HRR.out, dcrash, if_neg (by rw [h]; simp), if_pos h']
 have HK2 : Hid (ckDisk s t = 0 → ¬ (n < 0 ∨ (t.length : Int) < n) → rr = ((s, t.take n.toNat), 0)) := fun h h' => by rw [← HRR.out, dcrash, if_neg (by rw [h]; simp), if_neg h']
 have HKL : Hid (ckDisk s t = 0 → n1 + n2 ≤ 30000) := fun h => by have := (ckDisk_zero.1 h).1; omega
 change Calls _ _ _ _ fun e w' => e = .returned (.int .i64 (ckDisk s t)) ∧ _ at hck
 clear hB h hs ht hL HRR hn1 hn2
 generalize ckDisk s t = k at *
 go_enter Tryz.func135, Tryz.ntmps135
 have d0 : ∀ i, ((w.alloc (boxD (.slice a1 n1 c1) (.slice a2 n2 c2))).alloc (boxD nilB nilB)).cell? ⟨w.heap.size, i, none⟩ = #[Value.slice a1 n1 c1, .slice a2 n2 c2][i]? := fun i => Joins.cell_of_block hbD i
 go_wp2_with fail
 refine hck.mono ?_
 rintro e w1 ⟨rfl, hb1⟩
 have hB1 : Aside (Below w.heap.size w w1) := HB.out.trans (hb1.mono HB.out.size)
 have hD1 := heap_below hbD hb1 (heap_lt hbD)
 have hZ1 := heap_below hbZ hb1 (heap_lt hbZ)
 have hlz1 := heap_lt hZ1
 have HZ1 : Aside (w1.heap[w.heap.size + 1]? = some (boxD nilB nilB)) := hZ1
 have HD1 : Aside (w1.heap[w.heap.size]? = some (boxD (.slice a1 n1 c1) (.slice a2 n2 c2))) := hD1
 have d1 := fun i => Joins.cell_of_block hD1 i
 have z1 := fun i => Joins.cell_of_block hZ1 i
 have f1 := fun i => Joins.unfrozen_of_block hZ1 i
 clear hck hb1 hbD hbZ HB hD1 hZ1 d0
 by_cases hk : k = 0
 ·have HG1 : Hid (n < 0 ∨ (t.length : Int) < n → rr = (([], []), 3)) := HK1.out hk
  have HG2 : Hid (¬ (n < 0 ∨ (t.length : Int) < n) → rr = ((s, t.take n.toNat), 0)) := HK2.out hk
  have hn12 : n1 + n2 ≤ 30000 := HKL.out hk
  have hkb : (k != 0) = false := by rw [hk]; rfl
  have HLE : Hid (n1 + n2 ≤ 30000) := hn12
  have hq2 : n2 ≤ 30000 := by omega
  have hq1 : n1 ≤ 30000 := by omega
  clear HK0 HK1 HK2 HKL hk hn12
  by_cases h0 : n < 0
  ·have HF : Hid (rr = (([], []), 3)) := HG1.out (Or.inl h0)
   have HA : Aside _ := answered HZ1.out (by omega) hB1.out (Mk.none w w1) (Mk.none w w1) (.slice a1 n1 c1) (.slice a2 n2 c2)
   have hb0 : decide (n < 0) = true := decide_eq_true h0
   clear HG1 HG2
   go_wp2
   exact ret_dk (v1 := nilB) (v2 := nilB) Tryz.results135 rfl rfl rfl (disk_stored HZ1.out _ _) ⟨nilB, nilB, by rw [HF.out]; rfl, by rw [HF.out]; exact HA.out.1, HA.out.2⟩
  ·by_cases h2 : (n2 : Int) < n
   ·have HF : Hid (rr = (([], []), 3)) := HG1.out (Or.inr (by rw [HLn.out.2]; exact h2))
    have HA : Aside _ := answered HZ1.out (by omega) hB1.out (Mk.none w w1) (Mk.none w w1) (.slice a1 n1 c1) (.slice a2 n2 c2)
    have hb0 : decide (n < 0) = false := decide_eq_false h0
    have hb2 : decide ((n2 : Int) < n) = true := decide_eq_true h2
    clear HG1 HG2
    go_wp2
    exact ret_dk (v1 := nilB) (v2 := nilB) Tryz.results135 rfl rfl rfl (disk_stored HZ1.out _ _) ⟨nilB, nilB, by rw [HF.out]; rfl, by rw [HF.out]; exact HA.out.1, HA.out.2⟩
   ·obtain ⟨m, rfl⟩ : ∃ m : Nat, n = (m : Int) := ⟨n.toNat, by omega⟩
    have HF : Hid (rr = ((s, t.take m), 0)) := by
     have := HG2.out (by rw [HLn.out.2]; omega)
     rwa [Int.toNat_natCast] at this
    have hb0 : decide ((m : Int) < 0) = false := decide_eq_false h0
    have hmn : m ≤ n2 := by omega
    have hb2 : decide ((n2 : Int) < (m : Int)) = false := decide_eq_false h2
    have hb3 : decide (n2 < m) = false := decide_eq_false (by omega)
    obtain ⟨ar, nr, cr, er, hroom⟩ := HH.out.room2
    injection er with er1 er2 er3
    subst er1 er2 er3
    have hm0 : (0 : Int) ≤ (m : Int) := by omega
    have hmc : (m : Int) ≤ (c2 : Int) := by omega
    have hcp : ∀ X, Below w.heap.size w X → Calls Tryz.prog 166 #[.slice a1 n1 c1] X fun e w' => ∃ u g, e = .returned u ∧ Own1 X w' u s g := fun X hX => copyOfY _ s X (HH.out.safe.later hX) (by rw [HLn.out.1]; omega)
    have hcq : ∀ X, Below w.heap.size w X → Calls Tryz.prog 166 #[.slice a2 m c2] X fun e w' => ∃ u g, e = .returned u ∧ Own1 X w' u (t.take m) g := fun X hX => copyOfY _ (t.take m) X ((HH.out.wait.later hX).upto m hmn) (by rw [List.length_take, HLn.out.2]; omega)
    clear HG1 HG2 z1 f1 h0 h2 hmn hroom HH HD1
    go_wp2_with fail
    refine wp_region_held_drew (S := fun w' => PtS0 w' w.heap.size (.slice a1 n1 c1) (.slice a2 n2 c2)) (by kernel_rfl) (⟨d1 0, d1 1⟩) (fun hHeld => ?_)
    refine tk 0 (v := ?_) rfl (by kernel_rfl) (by rfl) (by assumption) (fun _ _ _ h => h) ?_ ?_
    rotate_left
    ·intro w0 hSw; (try dsimp only at hSw); go_simp; first | done | with_reducible rfl
    try simp only [Act.put, qa, qb, qc]
    refine tk 1 (v := ?_) rfl (by kernel_rfl) (by rfl) (by assumption) (fun _ _ _ h => h) ?_ ?_
    rotate_left
    ·intro w0 hSw; (try dsimp only at hSw); go_simp; first | done | with_reducible rfl
    try simp only [Act.put, qa, qb, qc]
    refine tk 3 (v := ?_) rfl (by kernel_rfl) (by rfl) (by assumption) (fun _ _ _ h => h) ?_ ?_
    rotate_left
    ·intro w0 hSw; (try dsimp only at hSw); go_simp; first | done | with_reducible rfl
    try simp only [Act.put, qa, qb, qc]
    refine tk 4 (v := ?_) rfl (by kernel_rfl) (by rfl) (by assumption) (fun _ _ _ h => h) ?_ ?_
    rotate_left
    ·intro w0 hSw; (try dsimp only at hSw); go_simp; first | done | with_reducible rfl
    try simp only [Act.put, qa, qb, qc]
    refine tk 5 (v := ?_) rfl (by kernel_rfl) (by rfl) (by assumption) (fun _ _ _ h => h) ?_ ?_
    rotate_left
    ·intro w0 hSw; (try dsimp only at hSw); go_simp; first | done | with_reducible rfl
    try simp only [Act.put, qa, qb, qc]
    refine tk 6 (v := ?_) rfl (by kernel_rfl) (by rfl) (by assumption) (fun _ _ _ h => h) ?_ ?_
    rotate_left
    ·intro w0 hSw; (try dsimp only at hSw); go_simp; first | done | with_reducible rfl
    try simp only [Act.put, qa, qb, qc]
    have hX0 : Aside (Below w.heap.size w w1.drew) := hB1.out.drew
    have hZ0 : Aside (w1.drew.heap[w.heap.size + 1]? = some (boxD nilB nilB)) := HZ1.out
    have hz0 : w.heap.size + 1 < w1.drew.heap.size := hlz1
    clear HZ1 hB1 d1 hlz1
    generalize w1.drew = X0 at *
    refine rdy 2 (by kernel_rfl) rfl (fun K hK => ?_)
    go_simp
    refine (hcp X0 hX0.out).mono ?_
    rintro e X1 ⟨u1, g1, rfl, ho1⟩
    refine hK.out _ _ (ptS0_step hHeld ho1.below) (fun hHeld => ?_)
    clear hK K
    try simp only [Act.put, qa, qb, qc]
    have hX1 : Below w.heap.size w X1 := hX0.out.trans (ho1.below.mono hX0.out.size)
    refine rdy 7 (by kernel_rfl) rfl (fun K hK => ?_)
    go_simp
    refine (hcq X1 hX1).mono ?_
    rintro e X9 ⟨u2, g2, rfl, ho2⟩
    refine hK.out _ _ (ptS0_step hHeld ho2.below) (fun hHeld => ?_)
    clear hK K
    try simp only [Act.put, qa, qb, qc]
    have hB9 : Below w.heap.size w X9 := hX1.trans (ho2.below.mono hX1.size)
    have m1 : Mk w X9 u1 s := (Mk.of ho1 hX0.out.size).later ho2.below
    have m2 : Mk w X9 u2 (t.take m) := Mk.of ho2 hX1.size
    have hZ9 := heap_below (heap_below hZ0.out ho1.below hz0) ho2.below (Nat.lt_of_lt_of_le hz0 ho1.below.size)
    have hlt9 := heap_lt hZ9
    have HZ9 : Aside (X9.heap[w.heap.size + 1]? = some (boxD nilB nilB)) := hZ9
    have HAN : Aside _ := answered HZ9.out (by omega) hB9 m1 m2 (.slice a1 n1 c1) (.slice a2 n2 c2)
    have z9 := fun i => Joins.cell_of_block hZ9 i
    have f9 := fun i => Joins.unfrozen_of_block hZ9 i
    obtain ⟨b1, q1, rfl, _⟩ := m1.form
    obtain ⟨b2, q2, rfl, _⟩ := m2.form
    obtain ⟨x1, hx1⟩ : ∃ x1 : Nat, s.length = x1 := ⟨_, rfl⟩
    obtain ⟨x2, hx2⟩ : ∃ x2 : Nat, (t.take m).length = x2 := ⟨_, rfl⟩
    rw [hx1, hx2] at HAN
    rw [hx1, hx2]
    clear hx1 hx2 m1 m2 hX1 hB9 hZ9 hcp hcq ho1 ho2
    refine tk 8 (v := ?_) rfl (by kernel_rfl) (by rfl) (by assumption) (fun _ _ _ h => h) ?_ ?_
    rotate_left
    ·intro w0 hSw; (try dsimp only at hSw); go_simp; first | done | with_reducible rfl
    try simp only [Act.put, qa, qb, qc]
    refine rdy 9 (by kernel_rfl) rfl (fun K hK => ?_)
    go_simp
    refine hK.out _ _ (ptS0_two (by omega) hHeld _ _) (fun hHeld => ?_)
    clear hK K
    try simp only [Act.put, qa, qb, qc]
    refine tk 10 (v := ?_) rfl (by kernel_rfl) (by rfl) (by assumption) (fun _ _ _ h => h) ?_ ?_
    rotate_left
    ·intro w0 hSw; (try dsimp only at hSw); go_simp; first | done | with_reducible rfl
    try simp only [Act.put, qa, qb, qc]
    refine wpAnyH_done (by kernel_rfl) ?_ _
    go_wp2
    exact ret_dk (v1 := .slice b1 x1 q1) (v2 := .slice b2 x2 q2) Tryz.results135 rfl rfl rfl (disk_stored HZ9.out _ _) ⟨_, _, by rw [HF.out]; rfl, by rw [HF.out]; exact HAN.out.1, HAN.out.2⟩
 ·have HF : Hid (rr = (([], []), k)) := HK0.out hk
  have hkb : (k != 0) = true := by rw [bne_iff_ne]; exact hk
  have HA : Aside _ := answered HZ1.out (by omega) hB1.out (Mk.none w w1) (Mk.none w w1) (.slice a1 n1 c1) (.slice a2 n2 c2)
  clear HK0 HK1 HK2 HKL hk d1
  go_wp2
  exact ret_dk (v1 := nilB) (v2 := nilB) Tryz.results135 rfl rfl rfl (disk_stored HZ1.out _ _) ⟨nilB, nilB, by rw [HF.out]; rfl, by rw [HF.out]; exact HA.out.1, HA.out.2⟩
theorem diskCrash_any (v1 v2 : Value) (d : Dk) (n : Int) (W : World) (hL : Laid W) (h : DiskR W v1 v2 d) (hn1 : d.1.length ≤ topLen) (hn2 : d.2.length ≤ topLen) : AnsR 135 v1 v2 #[.agg #[v1, v2], .int .i64 n] W (dcrash d.1 d.2 n) := by
 obtain ⟨s, t⟩ := d
 have h' := h
 obtain ⟨a1, c1, rfl, _⟩ := h.safe
 obtain ⟨a2, c2, rfl, _⟩ := h.wait
 exact crash_at a1 a2 _ _ c1 c2 s t n W hL h' rfl rfl hn1 hn2
end Go.Proofs.YtmoaobfmopimlafGreatDoor
