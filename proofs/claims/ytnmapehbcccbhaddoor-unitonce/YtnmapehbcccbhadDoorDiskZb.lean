/- Package disk's Same, copyOf, join. -/
import Derived.Test.YtnmapehbcccbhadDoorSlStr
import Derived.Test.YtnmapehbcccbhadDoorCopyK
namespace Go.Proofs.YtnmapehbcccbhadDoor
open Go.RowKit

set_option maxHeartbeats 2000000 in
/-- bytes.Equal, at every two slices. -/
theorem bytesEqual (v1 v2 : Value) (s t : List UInt8) (w : World) (h1 : ByteSl w v1 s) (h2 : ByteSl w v2 t) :
    Calls Tryd.prog 27 #[v1, v2] w fun e w' => e = .returned (.bool (decide (s = t))) ∧ w' = w := by
  have e1 := str_of h1
  have e2 := str_of h2
  have hd : decide (s = t) = (s == t) := by by_cases h : s = t <;> simp [h]
  rw [hd]
  obtain ⟨a1, c1, rfl, _⟩ := h1
  obtain ⟨a2, c2, rfl, _⟩ := h2
  clear hd
  go_enter Tryd.func27, Tryd.ntmps27
  go_wp2
  go_ret
  exact ⟨rfl, rfl⟩

theorem sizeY : (Tryd.prog.info? 5).map (·.size) = some 1 := by kernel_rfl

/-- A row of bytes of the call's own, full. -/
structure Own1 (w w' : World) (v : Value) (xs : List UInt8) (g : Nat) : Prop where
  out : v = .slice (some ⟨g, 0, none⟩) xs.length xs.length
  new : w.heap.size ≤ g
  row : w'.heap[g]? = some (.cells (xs.flatMap bt).toArray 5)
  below : Below w.heap.size w w'

theorem Own1.sl {w w' : World} {v : Value} {xs : List UInt8} {g : Nat} (h : Own1 w w' v xs g) : ByteSl w' v xs := by
  rw [h.out]
  exact slOf_lit bt_one h.row (by simp)

theorem Own1.roomy {w w' : World} {v : Value} {xs : List UInt8} {g : Nat} (h : Own1 w w' v xs g) : Roomy v := ⟨_, _, _, h.out, Nat.le_refl _⟩

theorem Own1.near {w w' W : World} {v : Value} {xs : List UInt8} {g : Nat} (h : Own1 w w' v xs g) (hs : w'.heap.size ≤ W.heap.size) (v1 v2 : Value) : ∀ b, v.ownBlock = some b → (w.heap.size ≤ b ∧ b < W.heap.size) ∨ v1.ownBlock = some b ∨ v2.ownBlock = some b := fun b hb => by
  rw [h.out] at hb
  have hlt := heap_lt h.row
  have hnew := h.new
  obtain rfl : g = b := by simpa [Value.ownBlock] using hb
  exact Or.inl ⟨hnew, by omega⟩

set_option maxHeartbeats 1000000 in
theorem copyOfY (v : Value) (xs : List UInt8) (w : World) (hv : ByteSl w v xs) (hn : xs.length ≤ 1000000) :
    Calls Tryd.prog 23 #[v] w fun e w' => ∃ u g, e = .returned u ∧ Own1 w w' u xs g := by
  obtain ⟨i0, hi, hz0, hz1, hz2⟩ := info_parts infoY
  have H1 : Hid (ByteSl w v xs) := hv
  obtain ⟨a1, c1, rfl, _⟩ := hv
  obtain ⟨cs, hcs⟩ : ∃ cs, Hid (xs.flatMap bt = cs) := ⟨_, rfl⟩
  have hone : ∀ u ∈ cs, u.oneCell' = true := by rw [← hcs.out]; exact oneY xs
  have hlen : cs.length = xs.length * 1 := by rw [← hcs.out]; exact row_len bt_one xs
  obtain ⟨n1, hn1⟩ : ∃ n1, xs.length = n1 := ⟨_, rfl⟩
  have L1 : Hid (xs.length = n1) := hn1
  rw [hn1] at H1 hn hlen ⊢
  clear hn1
  go_enter Tryd.func23, Tryd.ntmps23
  go_wp2_with (at_make; refine wpList_make_full _ rfl _ _ 24 rfl w.heap.size 5 i0 (.int .u8 0) 1 Tryd.underlying24 hi hz0 hz1 _ _ _ _ n1 rfl rfl rfl rfl (by rw [hz2]; omega) (by unfold maxLen; omega) (Nat.le_refl _) ?_)
  intro w1 hown hgrow
  obtain ⟨hl0, ho⟩ := hown
  rcases ho with ⟨h, _⟩ | ⟨g, cap, cur, hv', _, hg, _, _, hsz, htake⟩
  · cases h
  injection hv' with ha _ hc
  injection ha with ha
  injection ha with ha _ _
  subst ha hc
  have hB1 : Below w.heap.size w w1 := ⟨hgrow.os, hgrow.tape, hgrow.output, hgrow.size, fun k hk => hgrow.block k hk (fun h => by cases h)⟩
  have hcur : cur.toList.length = n1 * 1 := by simpa using hsz
  have hg' : w1.heap[w.heap.size]? = some (.cells cur.toList.toArray 5 (0, 0)) := by simpa using hg
  clear hi hz0 hz1 hz2 hl0 htake hgrow hg hsz
  have hpos : 0 < Nat.min n1 n1 → (some ⟨w.heap.size, 0, none⟩ : Option Addr) = some ⟨w.heap.size, 0, none⟩ ∧ ∃ ad, a1 = some ad ∧ ∀ j v, cs[j]? = some v → w1.cell? (ad.add j) = some v := fun h0 => by
    have h0' : 0 < n1 := by
      have : 0 < min n1 n1 := h0
      omega
    obtain ⟨b, off, rfl, hE⟩ := H1.out.at h0'
    refine ⟨rfl, _, rfl, fun j u hj => ?_⟩
    rw [Lib.add_plain]
    rw [← hcs.out] at hj
    exact rows_flat bt_one xs off (hE.later hB1) j u hj
  have hmin : cs.length = Nat.min n1 n1 * 1 := by rw [hlen]; show _ = min n1 n1 * 1; rw [Nat.min_self]
  have hfit : 0 + cs.length ≤ cur.toList.length := by rw [hcur, hlen]; omega
  have hall := splice_all (hcur.trans hlen.symm)
  obtain ⟨cl, hcl⟩ : ∃ cl, Hid (cur.toList = cl) := ⟨_, rfl⟩
  rw [hcl.out] at hg' hfit hall
  have HALL : Hid (splice cl 0 cs = cs) := hall
  clear hcur hcl hall
  go_wp2_with ((with_reducible show wpList _ _ _ (Oper.mk (some 9) _ _ _ _ _ :: _) _ _); refine wpList_copyK rfl _ _ 24 24 rfl 5 1 Tryd.underlying24 sizeY (some ⟨w.heap.size, 0, none⟩) a1 n1 n1 n1 c1 rfl rfl w.heap.size 0 cl 5 hg' cs hmin hpos hfit hone w.heap.size w hB1 (Nat.le_refl _) ?_)
  intro w2 hg2 hB2
  go_wp2
  go_ret
  rw [HALL.out] at hg2
  exact ⟨_, w.heap.size, rfl, by rw [L1.out]; rfl, Nat.le_refl _, by rw [hcs.out]; exact hg2.out, hB2⟩

/-- A row's two parts written. -/
theorem splice_two {cl cs ds : List Value} {n1 n2 : Nat} (h : cl.length = n1 + n2) (h1 : cs.length = n1) (h2 : ds.length = n2) : splice (splice cl 0 cs) n1 ds = cs ++ ds := by
  unfold splice
  simp only [List.take_zero, List.nil_append, Nat.zero_add]
  have e1 : (cs ++ cl.drop cs.length).take n1 = cs := by rw [← h1, List.take_left']; rfl
  have e2 : (cs ++ cl.drop cs.length).drop (n1 + ds.length) = [] := by
    apply List.drop_of_length_le
    simp
    omega
  rw [e1, e2, List.append_nil]

set_option maxHeartbeats 2000000 in
set_option maxRecDepth 100000 in
theorem joinY (v1 v2 : Value) (xs ys : List UInt8) (w : World) (hv1 : ByteSl w v1 xs) (hv2 : ByteSl w v2 ys) (hn : xs.length + ys.length ≤ 1000000) :
    Calls Tryd.prog 24 #[v1, v2] w fun e w' => ∃ u g, e = .returned u ∧ Own1 w w' u (xs ++ ys) g := by
  obtain ⟨i0, hi, hz0, hz1, hz2⟩ := info_parts infoY
  have H1 : Hid (ByteSl w v1 xs) := hv1
  have H2 : Hid (ByteSl w v2 ys) := hv2
  obtain ⟨a1, c1, rfl, _⟩ := hv1
  obtain ⟨a2, c2, rfl, _⟩ := hv2
  obtain ⟨cs, hcs⟩ : ∃ cs, Hid (xs.flatMap bt = cs) := ⟨_, rfl⟩
  obtain ⟨ds, hds⟩ : ∃ ds, Hid (ys.flatMap bt = ds) := ⟨_, rfl⟩
  have hone : ∀ u ∈ cs, u.oneCell' = true := by rw [← hcs.out]; exact oneY xs
  have hone2 : ∀ u ∈ ds, u.oneCell' = true := by rw [← hds.out]; exact oneY ys
  have hlen : cs.length = xs.length * 1 := by rw [← hcs.out]; exact row_len bt_one xs
  have hlen2 : ds.length = ys.length * 1 := by rw [← hds.out]; exact row_len bt_one ys
  have HA : Hid ((xs ++ ys).length = xs.length + ys.length) := List.length_append
  obtain ⟨n1, hn1⟩ : ∃ n1, xs.length = n1 := ⟨_, rfl⟩
  obtain ⟨n2, hn2⟩ : ∃ n2, ys.length = n2 := ⟨_, rfl⟩
  rw [hn1] at H1 hn hlen HA ⊢
  rw [hn2] at H2 hn hlen2 HA ⊢
  clear hn1 hn2
  have hd1 : n1 ≤ 1000000 := by omega
  have hd2 : n2 ≤ 1000000 := by omega
  have hw12 : IntKind.i64.wrap ((n1 : Int) + (n2 : Int)) = ((n1 + n2 : Nat) : Int) := by rw [IntKind.wrap_i64]; omega
  go_enter Tryd.func24, Tryd.ntmps24
  go_wp2_with (at_make; refine wpList_make_full _ rfl _ _ 24 rfl w.heap.size 5 i0 (.int .u8 0) 1 Tryd.underlying24 hi hz0 hz1 _ _ _ _ (n1 + n2) rfl rfl (by first | rfl | (simp [hw12])) (by first | rfl | (simp [hw12])) (by rw [hz2]; omega) (by unfold maxLen; omega) (Nat.le_refl _) ?_)
  intro w1 hown hgrow
  obtain ⟨hl0, ho⟩ := hown
  rcases ho with ⟨h, _⟩ | ⟨g, cap, cur, hv', _, hg, _, _, hsz, htake⟩
  · cases h
  injection hv' with ha _ hc
  injection ha with ha
  injection ha with ha _ _
  subst ha hc
  have hB1 : Below w.heap.size w w1 := ⟨hgrow.os, hgrow.tape, hgrow.output, hgrow.size, fun k hk => hgrow.block k hk (fun h => by cases h)⟩
  have hcur : cur.toList.length = (n1 + n2) * 1 := by simpa using hsz
  have hg' : w1.heap[w.heap.size]? = some (.cells cur.toList.toArray 5 (0, 0)) := by simpa using hg
  clear hi hz0 hz1 hz2 hl0 htake hgrow hg hsz
  have hpos : 0 < Nat.min n1 (n1 + n2) → (some ⟨w.heap.size, 0, none⟩ : Option Addr) = some ⟨w.heap.size, 0, none⟩ ∧ ∃ ad, a1 = some ad ∧ ∀ j v, cs[j]? = some v → w1.cell? (ad.add j) = some v := fun h0 => by
    have h0' : 0 < n1 := by
      have : 0 < min n1 (n1 + n2) := h0
      omega
    obtain ⟨b, off, rfl, hE⟩ := H1.out.at h0'
    refine ⟨rfl, _, rfl, fun j u hj => ?_⟩
    rw [Lib.add_plain]
    rw [← hcs.out] at hj
    exact rows_flat bt_one xs off (hE.later hB1) j u hj
  have hmin : cs.length = Nat.min n1 (n1 + n2) * 1 := by rw [hlen]; show _ = min n1 (n1 + n2) * 1; rw [Nat.min_eq_left (by omega)]
  have hfit : 0 + cs.length ≤ cur.toList.length := by rw [hcur, hlen]; omega
  obtain ⟨cl, hcl⟩ : ∃ cl, Hid (cur.toList = cl) := ⟨_, rfl⟩
  rw [hcl.out] at hg' hfit hcur
  clear hcl
  go_wp2_with ((with_reducible show wpList _ _ _ (Oper.mk (some 14) _ _ _ _ _ :: _) _ _); refine wpList_copyK rfl _ _ 24 24 rfl 5 1 Tryd.underlying24 sizeY (some ⟨w.heap.size, 0, none⟩) a1 (n1 + n2) (n1 + n2) n1 c1 rfl rfl w.heap.size 0 cl 5 hg' cs hmin hpos hfit hone w.heap.size w hB1 (Nat.le_refl _) ?_)
  intro w2 hg2 hB2
  have hg2' := hg2.out
  obtain ⟨ck, hck⟩ : ∃ ck, Hid (splice cl 0 cs = ck) := ⟨_, rfl⟩
  rw [hck.out] at hg2'
  clear hg2 hg' hB1 hpos
  have hckl : ck.length = n1 + n2 := by
    rw [← hck.out]
    unfold splice
    simp
    omega
  have hmin2 : ds.length = Nat.min n2 n2 * 1 := by rw [hlen2]; show _ = min n2 n2 * 1; rw [Nat.min_self]
  have hpos2 : 0 < Nat.min n2 n2 → (if n2 = 0 then some ⟨w.heap.size, 0, none⟩ else some ⟨w.heap.size, n1, none⟩ : Option Addr) = some ⟨w.heap.size, n1, none⟩ ∧ ∃ ad, a2 = some ad ∧ ∀ j v, ds[j]? = some v → w2.cell? (ad.add j) = some v := fun h0 => by
    have h0' : 0 < n2 := by
      have : 0 < min n2 n2 := h0
      omega
    obtain ⟨b, off, rfl, hE⟩ := H2.out.at h0'
    refine ⟨by rw [if_neg (by omega)], _, rfl, fun j u hj => ?_⟩
    rw [Lib.add_plain]
    rw [← hds.out] at hj
    exact rows_flat bt_one ys off (hE.later hB2) j u hj
  have hfit2 : n1 + ds.length ≤ ck.length := by rw [hckl, hlen2]; omega
  have HALL : Hid (splice ck n1 ds = cs ++ ds) := by
    rw [Hid, ← hck.out]
    exact splice_two (n2 := n2) (by rw [hcur]; omega) (by rw [hlen]; omega) (by rw [hlen2]; omega)
  clear hckl hck hcur hfit hmin
  go_wp2_with ((with_reducible show wpList _ _ _ (Oper.mk (some 20) _ _ _ _ _ :: _) _ _); refine wpList_copyK rfl _ _ 24 24 rfl 5 1 Tryd.underlying24 sizeY (if n2 = 0 then some ⟨w.heap.size, 0, none⟩ else some ⟨w.heap.size, n1, none⟩) a2 n2 n2 n2 c2 rfl rfl w.heap.size n1 ck 5 hg2' ds hmin2 hpos2 hfit2 hone2 w.heap.size w hB2 (Nat.le_refl _) ?_)
  all_goals
    intro w3 hg3 hB3
    rw [HALL.out] at hg3
    go_wp2
    go_ret
    exact ⟨_, w.heap.size, rfl, by first | (rw [HA.out]; rfl) | (rw [HA.out, show n2 = 0 by assumption]; rfl), Nat.le_refl _, by rw [List.flatMap_append, hcs.out, hds.out]; exact hg3.out, hB3⟩

end Go.Proofs.YtnmapehbcccbhadDoor
