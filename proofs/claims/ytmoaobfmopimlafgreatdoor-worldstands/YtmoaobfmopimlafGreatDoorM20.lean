/- For the law. -/
import Derived.Test.YtmoaobfmopimlafGreatDoorM19
import Derived.Deep.Cut
set_option linter.unusedSimpArgs false
set_option linter.unusedVariables false
namespace Go.Proofs.YtmoaobfmopimlafGreatDoor
open Go.RowKit
set_option maxHeartbeats 2000000 in
theorem bytesEqual (v1 v2 : Value) (s t : List UInt8) (w : World) (h1 : ByteSl w v1 s) (h2 : ByteSl w v2 t) :
  Calls Tryz.prog 36 #[v1, v2] w fun e w' => e = .returned (.bool (decide (s = t))) ∧ w' = w := by
 have e1 := str_of h1
 have e2 := str_of h2
 have hd : decide (s = t) = (s == t) := by by_cases h : s = t <;> simp [h]
 rw [hd]
 obtain ⟨a1, c1, rfl, _⟩ := h1
 obtain ⟨a2, c2, rfl, _⟩ := h2
 clear hd
 go_enter Tryz.func36, Tryz.ntmps36
 go_wp2
 go_ret
 exact ⟨rfl, rfl⟩
theorem sizeY : (Tryz.prog.info? 5).map (·.size) = some 1 := by kernel_rfl
structure Own1 (w w' : World) (v : Value) (xs : List UInt8) (g : Nat) : Prop where
 out : v = .slice (some ⟨g, 0, none⟩) xs.length xs.length
 new : w.heap.size ≤ g
 row : w'.heap[g]? = some (.cells (xs.flatMap bt).toArray 5)
 below : Below w.heap.size w w'
theorem Own1.sl {w w' : World} {v : Value} {xs : List UInt8} {g : Nat} (h : Own1 w w' v xs g) : ByteSl w' v xs := by
 rw [h.out]
 exact slOf_lit bt_one h.row (by simp)
theorem Own1.roomy {w w' : World} {v : Value} {xs : List UInt8} {g : Nat} (h : Own1 w w' v xs g) : Roomy v := ⟨_, _, _, h.out, Nat.le_refl _⟩
set_option maxHeartbeats 1000000 in
theorem copyOfY (v : Value) (xs : List UInt8) (w : World) (hv : ByteSl w v xs) (hn : xs.length ≤ 1000000) :
  Calls Tryz.prog 166 #[v] w fun e w' => ∃ u g, e = .returned u ∧ Own1 w w' u xs g := by
 obtain ⟨i0, hi, hz0, hz1, hz2⟩ := info_parts infoY
 have H1 : Hid (ByteSl w v xs) := hv
 obtain ⟨a1, c1, rfl, _⟩ := hv
 obtain ⟨cs, hcs⟩ : ∃ cs, Hid (xs.flatMap bt = cs) := ⟨_, rfl⟩
 have hone : ∀ u ∈ cs, u.oneCell' = true := by rw [← hcs.out]; exact oneY xs
 have hlen : cs.length = xs.length * 1 := by rw [← hcs.out]; exact row_len bt_one xs
 obtain ⟨n1, hn1⟩ : ∃ n1, xs.length = n1 := ⟨_, rfl⟩
 have L1 : Hid (xs.length = n1) := hn1
 rw [hn1] at H1 hn hlen ⊢
 clear hn1
 go_enter Tryz.func166, Tryz.ntmps166
 go_wp2_with (at_make; refine wpList_make_full _ rfl _ _ 45 rfl w.heap.size 5 i0 (.int .u8 0) 1 Tryz.underlying45 hi hz0 hz1 _ _ _ _ n1 rfl rfl rfl rfl (by rw [hz2]; omega) (by unfold maxLen; omega) (Nat.le_refl _) ?_)
 intro w1 hown hgrow
 obtain ⟨hl0, ho⟩ := hown
 rcases ho with ⟨h, _⟩ | ⟨g, cap, cur, hv', _, hg, _, _, hsz, htake⟩
 ·cases h
 injection hv' with ha _ hc
 injection ha with ha
 injection ha with ha _ _
 subst ha hc
 have hB1 : Below w.heap.size w w1 := ⟨hgrow.os, hgrow.tape, hgrow.output, hgrow.size, fun k hk => hgrow.block k hk (fun h => by cases h)⟩
 have hcur : cur.toList.length = n1 * 1 := by simpa using hsz
 have hg' : w1.heap[w.heap.size]? = some (.cells cur.toList.toArray 5 (0, 0)) := by simpa using hg
 clear hi hz0 hz1 hz2 hl0 htake hgrow hg hsz
 have hpos : 0 < Nat.min n1 n1 → (some ⟨w.heap.size, 0, none⟩ : Option Addr) = some ⟨w.heap.size, 0, none⟩ ∧ ∃ ad, a1 = some ad ∧ ∀ j v, cs[j]? = some v → w1.cell? (ad.add j) = some v := fun h0 => by
  have h0' : 0 < n1 := by
   have : 0 < min n1 n1 := h0
   omega
  obtain ⟨b, off, rfl, hE⟩ := H1.out.at h0'
  refine ⟨rfl, _, rfl, fun j u hj => ?_⟩
  rw [Lib.add_plain]
  rw [← hcs.out] at hj
  exact rows_flat bt_one xs off (hE.later hB1) j u hj
 have hmin : cs.length = Nat.min n1 n1 * 1 := by rw [hlen]; show _ = min n1 n1 * 1; rw [Nat.min_self]
 have hfit : 0 + cs.length ≤ cur.toList.length := by rw [hcur, hlen]; omega
 have hall := splice_all (hcur.trans hlen.symm)
 obtain ⟨cl, hcl⟩ : ∃ cl, Hid (cur.toList = cl) := ⟨_, rfl⟩
 rw [hcl.out] at hg' hfit hall
 have HALL : Hid (splice cl 0 cs = cs) := hall
 clear hcur hcl hall
 go_wp2_with ((with_reducible show wpList _ _ _ (Oper.mk (some 9) _ _ _ _ _ :: _) _ _); refine wpList_copyK rfl _ _ 45 45 rfl 5 1 Tryz.underlying45 sizeY (some ⟨w.heap.size, 0, none⟩) a1 n1 n1 n1 c1 rfl rfl w.heap.size 0 cl 5 hg' cs hmin hpos hfit hone w.heap.size w hB1 (Nat.le_refl _) ?_)
 intro w2 hg2 hB2
 go_wp2
 go_ret
 rw [HALL.out] at hg2
 exact ⟨_, w.heap.size, rfl, by rw [L1.out]; rfl, Nat.le_refl _, by rw [hcs.out]; exact hg2.out, hB2⟩
theorem splice_two {cl cs ds : List Value} {n1 n2 : Nat} (h : cl.length = n1 + n2) (h1 : cs.length = n1) (h2 : ds.length = n2) : splice (splice cl 0 cs) n1 ds = cs ++ ds := by
 unfold splice
 simp only [List.take_zero, List.nil_append, Nat.zero_add]
 have e1 : (cs ++ cl.drop cs.length).take n1 = cs := by rw [← h1, List.take_left']; rfl
 have e2 : (cs ++ cl.drop cs.length).drop (n1 + ds.length) = [] := by
  apply List.drop_of_length_le
  simp
  omega
 rw [e1, e2, List.append_nil]
set_option maxHeartbeats 2000000 in
set_option maxRecDepth 100000 in
theorem joinY (v1 v2 : Value) (xs ys : List UInt8) (w : World) (hv1 : ByteSl w v1 xs) (hv2 : ByteSl w v2 ys) (hn : xs.length + ys.length ≤ 1000000) :
  Calls Tryz.prog 167 #[v1, v2] w fun e w' => ∃ u g, e = .returned u ∧ Own1 w w' u (xs ++ ys) g := by
 obtain ⟨i0, hi, hz0, hz1, hz2⟩ := info_parts infoY
 have H1 : Hid (ByteSl w v1 xs) := hv1
 have H2 : Hid (ByteSl w v2 ys) := hv2
 obtain ⟨a1, c1, rfl, _⟩ := hv1
 obtain ⟨a2, c2, rfl, _⟩ := hv2
 obtain ⟨cs, hcs⟩ : ∃ cs, Hid (xs.flatMap bt = cs) := ⟨_, rfl⟩
 obtain ⟨ds, hds⟩ : ∃ ds, Hid (ys.flatMap bt = ds) := ⟨_, rfl⟩
 have hone : ∀ u ∈ cs, u.oneCell' = true := by rw [← hcs.out]; exact oneY xs
 have hone2 : ∀ u ∈ ds, u.oneCell' = true := by rw [← hds.out]; exact oneY ys
 have hlen : cs.length = xs.length * 1 := by rw [← hcs.out]; exact row_len bt_one xs
 have hlen2 : ds.length = ys.length * 1 := by rw [← hds.out]; exact row_len bt_one ys
 have HA : Hid ((xs ++ ys).length = xs.length + ys.length) := List.length_append
 obtain ⟨n1, hn1⟩ : ∃ n1, xs.length = n1 := ⟨_, rfl⟩
 obtain ⟨n2, hn2⟩ : ∃ n2, ys.length = n2 := ⟨_, rfl⟩
 rw [hn1] at H1 hn hlen HA ⊢
 rw [hn2] at H2 hn hlen2 HA ⊢
 clear hn1 hn2
 have hd1 : n1 ≤ 1000000 := by omega
 have hd2 : n2 ≤ 1000000 := by omega
 have hw12 : IntKind.i64.wrap ((n1 : Int) + (n2 : Int)) = ((n1 + n2 : Nat) : Int) := by rw [IntKind.wrap_i64]; omega
 go_enter Tryz.func167, Tryz.ntmps167
 go_wp2_with (at_make; refine wpList_make_full _ rfl _ _ 45 rfl w.heap.size 5 i0 (.int .u8 0) 1 Tryz.underlying45 hi hz0 hz1 _ _ _ _ (n1 + n2) rfl rfl (by first | rfl | (simp [hw12])) (by first | rfl | (simp [hw12])) (by rw [hz2]; omega) (by unfold maxLen; omega) (Nat.le_refl _) ?_)
 intro w1 hown hgrow
 obtain ⟨hl0, ho⟩ := hown
 rcases ho with ⟨h, _⟩ | ⟨g, cap, cur, hv', _, hg, _, _, hsz, htake⟩
 ·cases h
 injection hv' with ha _ hc
 injection ha with ha
 injection ha with ha _ _
 subst ha hc
 have hB1 : Below w.heap.size w w1 := ⟨hgrow.os, hgrow.tape, hgrow.output, hgrow.size, fun k hk => hgrow.block k hk (fun h => by cases h)⟩
 have hcur : cur.toList.length = (n1 + n2) * 1 := by simpa using hsz
 have hg' : w1.heap[w.heap.size]? = some (.cells cur.toList.toArray 5 (0, 0)) := by simpa using hg
 clear hi hz0 hz1 hz2 hl0 htake hgrow hg hsz
 have hpos : 0 < Nat.min n1 (n1 + n2) → (some ⟨w.heap.size, 0, none⟩ : Option Addr) = some ⟨w.heap.size, 0, none⟩ ∧ ∃ ad, a1 = some ad ∧ ∀ j v, cs[j]? = some v → w1.cell? (ad.add j) = some v := fun h0 => by
  have h0' : 0 < n1 := by
   have : 0 < min n1 (n1 + n2) := h0
   omega
  obtain ⟨b, off, rfl, hE⟩ := H1.out.at h0'
  refine ⟨rfl, _, rfl, fun j u hj => ?_⟩
  rw [Lib.add_plain]
  rw [← hcs.out] at hj
  exact rows_flat bt_one xs off (hE.later hB1) j u hj
 have hmin : cs.length = Nat.min n1 (n1 + n2) * 1 := by rw [hlen]; show _ = min n1 (n1 + n2) * 1; rw [Nat.min_eq_left (by omega)]
 have hfit : 0 + cs.length ≤ cur.toList.length := by rw [hcur, hlen]; omega
 obtain ⟨cl, hcl⟩ : ∃ cl, Hid (cur.toList = cl) := ⟨_, rfl⟩
 rw [hcl.out] at hg' hfit hcur
 clear hcl
 go_wp2_with ((with_reducible show wpList _ _ _ (Oper.mk (some 14) _ _ _ _ _ :: _) _ _); refine wpList_copyK rfl _ _ 45 45 rfl 5 1 Tryz.underlying45 sizeY (some ⟨w.heap.size, 0, none⟩) a1 (n1 + n2) (n1 + n2) n1 c1 rfl rfl w.heap.size 0 cl 5 hg' cs hmin hpos hfit hone w.heap.size w hB1 (Nat.le_refl _) ?_)
 intro w2 hg2 hB2
 have hg2' := hg2.out
 obtain ⟨ck, hck⟩ : ∃ ck, Hid (splice cl 0 cs = ck) := ⟨_, rfl⟩
 rw [hck.out] at hg2'
 clear hg2 hg' hB1 hpos
 have hckl : ck.length = n1 + n2 := by
  rw [← hck.out]
  unfold splice
  simp
  omega
 have hmin2 : ds.length = Nat.min n2 n2 * 1 := by rw [hlen2]; show _ = min n2 n2 * 1; rw [Nat.min_self]
 have hpos2 : 0 < Nat.min n2 n2 → (if n2 = 0 then some ⟨w.heap.size, 0, none⟩ else some ⟨w.heap.size, n1, none⟩ : Option Addr) = some ⟨w.heap.size, n1, none⟩ ∧ ∃ ad, a2 = some ad ∧ ∀ j v, ds[j]? = some v → w2.cell? (ad.add j) = some v := fun h0 => by
  have h0' : 0 < n2 := by
   have : 0 < min n2 n2 := h0
   omega
  obtain ⟨b, off, rfl, hE⟩ := H2.out.at h0'
  refine ⟨by rw [if_neg (by omega)], _, rfl, fun j u hj => ?_⟩
  rw [Lib.add_plain]
  rw [← hds.out] at hj
  exact rows_flat bt_one ys off (hE.later hB2) j u hj
 have hfit2 : n1 + ds.length ≤ ck.length := by rw [hckl, hlen2]; omega
 have HALL : Hid (splice ck n1 ds = cs ++ ds) := by
  rw [Hid, ← hck.out]
  exact splice_two (n2 := n2) (by rw [hcur]; omega) (by rw [hlen]; omega) (by rw [hlen2]; omega)
 clear hckl hck hcur hfit hmin
 go_wp2_with ((with_reducible show wpList _ _ _ (Oper.mk (some 20) _ _ _ _ _ :: _) _ _); refine wpList_copyK rfl _ _ 45 45 rfl 5 1 Tryz.underlying45 sizeY (if n2 = 0 then some ⟨w.heap.size, 0, none⟩ else some ⟨w.heap.size, n1, none⟩) a2 n2 n2 n2 c2 rfl rfl w.heap.size n1 ck 5 hg2' ds hmin2 hpos2 hfit2 hone2 w.heap.size w hB2 (Nat.le_refl _) ?_)
 all_goals
  intro w3 hg3 hB3
  rw [HALL.out] at hg3
  go_wp2
  go_ret
  exact ⟨_, w.heap.size, rfl, by first | (rw [HA.out]; rfl) | (rw [HA.out, show n2 = 0 by assumption]; rfl), Nat.le_refl _, by rw [List.flatMap_append, hcs.out, hds.out]; exact hg3.out, hB3⟩
theorem bytes_eq {a b : ByteArray} (h : a.data.toList = b.data.toList) : a = b := by
 rw [bytes_eta a, bytes_eta b, h]
theorem ret_pair {fn : Func} {R : Ending → World → Prop} {a : Act} {W : World} {p q : Nat} {x y : Value} (hf : fn.results = #[.tmp p, .tmp q]) (hd : a.defers = [])
  (h1 : a.tmps.getD p undef = x) (h2 : a.tmps.getD q undef = y) (hp : R (.returned (.tuple #[x, y])) W) : bodyPost Tryz.prog fn R .ret a W := by
 have h1' : a.tmps[p]?.getD undef = x := by simpa using h1
 have h2' : a.tmps[q]?.getD undef = y := by simpa using h2
 refine bodyPost_ret (v := .tuple #[x, y]) ?_ hd hp
 simp [results, hf, h1', h2', go_sem]
theorem tup_str {a b : ByteArray} {v : Value} (h : a.data.toList = b.data.toList) : Ending.returned (.tuple #[.string a, v]) = .returned (.tuple #[.string b, v]) := by rw [bytes_eq h]
theorem ext_from (l : List UInt8) (k : Nat) : (⟨l.toArray⟩ : ByteArray).extract k l.length = ⟨(l.drop k).toArray⟩ := by
 rw [bytes_eta (ByteArray.extract _ _ _), Lib.extract_data]
 simp only
 rw [List.take_of_length_le (by rw [List.length_drop]; exact Nat.le_refl _)]
theorem ret_rec {fn : Func} {R : Ending → World → Prop} {a : Act} {W : World} {b p q : Nat} {r : Rc} {y : Value} (hf : fn.results = #[.cell p 94, .tmp q]) (hd : a.defers = [])
  (h2 : a.tmps.getD p undef = .pointer (some ⟨b, 0, none⟩)) (h3 : a.tmps.getD q undef = y) (hR : W.heap[b]? = some (boxRc r)) (hp : R (.returned (.tuple #[r.val, y])) W) :
  bodyPost Tryz.prog fn R .ret a W := by
 have c0 := fun i => Joins.cell_of_block hR i
 refine bodyPost_ret (v := .tuple #[r.val, y]) ?_ hd hp
 rw [results_cell_tmp hf, h2, h3]
 simp [go_sem, c0]
def r1 : Rc := ⟨1, 7, 0, e1⟩
def r2 : Rc := ⟨2, 0, 3, En.zero⟩
set_option maxHeartbeats 1000000 in
theorem note_number (s : ByteArray) (w : World) (hL : Laid w) (hs : s.size ≤ 30000) :
  Calls Tryz.prog 268 #[.string s] w fun e w' => e = .returned (.tuple #[.int .i64 ((numOf s.data.toList).getD 0), .bool (numOf s.data.toList).isSome]) ∧ Below w.heap.size w w' := by
 cases h : Lib.atoiAll s.data.toList with
 | ok v =>
  have hb := Lib.atoiAll_bounds h
  have hat := Tryz.strconv_Atoi_ok s (by omega) v h
  by_cases hi : Lib.itoa v = s.data.toList
  ·have hn : numOf s.data.toList = some v := by simp only [numOf, h, if_pos hi]
   rw [hn]
   go_enter Tryz.func268, Tryz.ntmps268
   go_wp2_with fail
   refine (hat _).mono ?_
   rintro e w1 ⟨rfl, hw⟩
   have hb1 : Below w.heap.size w w1 := by
    rcases hw with rfl | ⟨t, rfl⟩
    ·exact Below.refl _ _
    ·exact Lib.bytesWorld_below _ _ _
   clear hw
   go_wp2_with fail
   refine (Tryz.strconv_Itoa v hb.1 hb.2 _ (hL.later hb1).pow).mono ?_
   rintro e w2 ⟨rfl, hw2⟩
   have hb2 := hb1.trans ((below_itoa hw2).mono hb1.size)
   clear hw2
   go_wp2
   go_ret2
   exact ⟨rfl, hb2⟩
  ·have hn : numOf s.data.toList = none := by simp only [numOf, h, if_neg hi]
   rw [hn]
   clear hn h
   have hne : (Lib.itoa v == s.toList) = false := by rw [bytes_toList]; simpa using hi
   clear hi
   go_enter Tryz.func268, Tryz.ntmps268
   go_wp2_with fail
   refine (hat _).mono ?_
   rintro e w1 ⟨rfl, hw⟩
   have hb1 : Below w.heap.size w w1 := by
    rcases hw with rfl | ⟨t, rfl⟩
    ·exact Below.refl _ _
    ·exact Lib.bytesWorld_below _ _ _
   clear hw
   go_wp2_with fail
   refine (Tryz.strconv_Itoa v hb.1 hb.2 _ (hL.later hb1).pow).mono ?_
   rintro e w2 ⟨rfl, hw2⟩
   have hb2 := hb1.trans ((below_itoa hw2).mono hb1.size)
   clear hw2
   go_wp2
   go_ret2
   exact ⟨rfl, hb2⟩
 | «syntax» =>
  have hn : numOf s.data.toList = none := by simp only [numOf, h]
  rw [hn]
  obtain ⟨tp, p, hv⟩ := hL.syn
  have hv0 : w.cell? ⟨6, 0, none⟩ = some (.iface tp p) := by have h0 := World.var?_cell gSyn hv 0; simpa using h0
  go_enter Tryz.func268, Tryz.ntmps268
  go_wp2_with fail
  refine (Tryz.strconv_Atoi_syntax s (by omega) h _ _ hv0 (Or.inr ⟨_, _, rfl⟩)).mono ?_
  rintro e w1 ⟨N, rfl, -, -, hb⟩
  go_wp2
  go_ret2
  exact ⟨rfl, hb⟩
 | range =>
  have hn : numOf s.data.toList = none := by simp only [numOf, h]
  rw [hn]
  obtain ⟨tp, p, hv⟩ := hL.rng
  have hv0 : w.cell? ⟨7, 0, none⟩ = some (.iface tp p) := by have h0 := World.var?_cell gRng hv 0; simpa using h0
  go_enter Tryz.func268, Tryz.ntmps268
  go_wp2_with fail
  refine (Tryz.strconv_Atoi_range s (by omega) h _ _ hv0 (Or.inr ⟨_, _, rfl⟩)).mono ?_
  rintro e w1 ⟨N, rfl, -, -, hb⟩
  go_wp2
  go_ret2
  exact ⟨rfl, hb⟩
abbrev sealBy : ByteArray := ⟨#[115, 101, 97, 108, 32]⟩
theorem litePre (l : List UInt8) (w : World) : Calls Tryz.prog 185 #[.string ⟨l.toArray⟩, .string sealBy] w fun e w' => e = .returned (.bool (sealL.isPrefixOf l)) ∧ w' = w := Tryz.stringslite_HasPrefix ⟨l.toArray⟩ sealBy w
theorem liteCut_yes (l : List UInt8) (w : World) (hp : sealL.isPrefixOf l = true) (hl : l.length ≤ 30000) :
  Calls Tryz.prog 267 #[.string ⟨l.toArray⟩, .string sealBy] w fun e w' => e = .returned (.tuple #[.string ⟨(l.drop 5).toArray⟩, .bool true]) ∧ w' = w := by
 have hpr := litePre l w
 rw [hp] at hpr
 have hlen5 : 5 ≤ l.length := by have := congrArg List.length (seal_prefix hp); rw [List.length_append] at this; have h5 : sealL.length = 5 := rfl; omega
 have hsl := ext_from l 5
 have hl5 : (5 : Int) ≤ (l.length : Int) := by omega
 generalize l.drop 5 = l5 at *
 clear hp hlen5
 go_enter Tryz.func267, Tryz.ntmps267
 go_wp2_with fail
 refine hpr.mono ?_
 rintro e w1 ⟨rfl, rfl⟩
 go_wp2
 go_ret2
 exact ⟨rfl, rfl⟩
theorem liteCut_no (l : List UInt8) (w : World) (hp : sealL.isPrefixOf l = false) :
  Calls Tryz.prog 267 #[.string ⟨l.toArray⟩, .string sealBy] w fun e w' => e = .returned (.tuple #[.string ⟨l.toArray⟩, .bool false]) ∧ w' = w := by
 have hpr := litePre l w
 rw [hp] at hpr
 clear hp
 go_enter Tryz.func267, Tryz.ntmps267
 go_wp2_with fail
 refine hpr.mono ?_
 rintro e w1 ⟨rfl, rfl⟩
 go_wp2
 go_ret2
 exact ⟨rfl, rfl⟩
theorem cutPre_yes (l : List UInt8) (w : World) (hp : sealL.isPrefixOf l = true) (hl : l.length ≤ 30000) :
  Calls Tryz.prog 233 #[.string ⟨l.toArray⟩, .string sealBy] w fun e w' => e = .returned (.tuple #[.string ⟨(l.drop 5).toArray⟩, .bool true]) ∧ w' = w := by
 have hpr := liteCut_yes l w hp hl
 clear hp hl
 go_enter Tryz.func233, Tryz.ntmps233
 go_wp2_with fail
 refine hpr.mono ?_
 rintro e w1 ⟨rfl, rfl⟩
 go_wp2
 go_ret2
 exact ⟨rfl, rfl⟩
theorem cutPre_no (l : List UInt8) (w : World) (hp : sealL.isPrefixOf l = false) :
  Calls Tryz.prog 233 #[.string ⟨l.toArray⟩, .string sealBy] w fun e w' => e = .returned (.tuple #[.string ⟨l.toArray⟩, .bool false]) ∧ w' = w := by
 have hpr := liteCut_no l w hp
 clear hp
 go_enter Tryz.func233, Tryz.ntmps233
 go_wp2_with fail
 refine hpr.mono ?_
 rintro e w1 ⟨rfl, rfl⟩
 go_wp2
 go_ret2
 exact ⟨rfl, rfl⟩
set_option maxHeartbeats 4000000 in
set_option maxRecDepth 100000 in
theorem notePrint_any (r : Rc) (w : World) (hL : Laid w) :
  Calls Tryz.prog 165 #[r.val] w fun e w' => e = .returned (.tuple #[.string ⟨r.ptx.toArray⟩, .int .i64 r.chk]) ∧ Below w.heap.size w w' := by
 have hB0 := grew (Below.refl w.heap.size w) (boxRc r)
 have hck := noteCheck_any r (w.alloc (boxRc r))
 have hx0 : (w.alloc (boxRc r)).heap[w.heap.size]? = some (boxRc r) := heap_new _ _
 have hL0 := hL.later hB0
 have HB0 : Aside _ := hB0
 have HL0 : Aside _ := hL0
 have HX0 : Aside _ := hx0
 clear hB0 hL0 hx0
 by_cases hz : r.chk = 0
 ·have HP : Hid (r.ptx = r.txt) := by rw [Hid, Rc.ptx, if_pos hz]
  rw [HP.out, hz]
  rw [hz] at hck
  by_cases hk : r.k = 2
  ·have hp := (Rc.seal hz hk).1
   have HT : Hid (r.txt = sealL ++ Lib.itoa r.p) := by rw [Hid, Rc.txt, if_pos hk]
   have hit := fun W hW => itoa_any r.p W hW (by omega) (by omega)
   have hlen := Lib.itoa_length_le r.p (by omega) (by omega)
   have hkb : (r.k == 2) = true := by rw [hk]; rfl
   generalize Lib.itoa r.p = px at *
   have hd1 : ¬ (9223372036854775807 < 5 + px.length) := by omega
   have hd3 : 5 + px.length ≤ 9223372036854775807 := by omega
   clear hz hk
   go_enter Tryz.func165, Tryz.ntmps165
   go_wp2_with fail
   refine hck.mono ?_
   rintro e w1 ⟨rfl, hb1⟩
   have hx1 := heap_below HX0.out hb1 (heap_lt HX0.out)
   have z1 := fun i => Joins.cell_of_block hx1 i
   have HB1 := sb HB0 hb1
   have hit1 := hit w1 (HL0.out.later hb1)
   clear hck hx1 hb1 hit HB0 HL0 HX0 hL
   go_wp2_with fail
   refine hit1.mono ?_
   rintro e w2 ⟨rfl, hb2⟩
   have HB2 := sb HB1 hb2
   clear hit1 hb2 HB1 z1
   go_wp2
   refine ret_pair (p := 2) (q := 3) rfl rfl rfl rfl ⟨tup_str ?_, HB2.out⟩
   rw [HT.out, data_append]
   rfl
  ·obtain ⟨h1, ha, hp, he⟩ := Rc.write hz hk
   have HT : Hid (r.txt = Lib.itoa r.a ++ ([58, 32] ++ r.e.txt)) := by rw [Hid, Rc.txt, if_neg hk]
   have hit := fun W hW => itoa_any r.a W hW (by omega) (by omega)
   have htx := fun W hW => print_any r.e W hW
   rw [En.ptx, if_pos he, he] at htx
   have hlen := Lib.itoa_length_le r.a (by omega) (by omega)
   have hlen2 := txt_len r.e he
   have hkb : (r.k == 2) = false := by rw [beq_eq_false_iff_ne]; exact hk
   generalize Lib.itoa r.a = px at *
   generalize r.e.txt = tx at *
   have hd1 : ¬ (9223372036854775807 < px.length + 2) := by omega
   have hd2 : ¬ (9223372036854775807 < px.length + 2 + tx.length) := by omega
   have hd3 : px.length + 2 ≤ 9223372036854775807 := by omega
   have hd4 : px.length + 2 + tx.length ≤ 9223372036854775807 := by omega
   have hd5 : ¬ (9223372036854775807 < px.length + (2 + tx.length)) := by omega
   have hd6 : px.length + (2 + tx.length) ≤ 9223372036854775807 := by omega
   clear hz h1 hp he hk
   go_enter Tryz.func165, Tryz.ntmps165
   go_wp2_with fail
   refine hck.mono ?_
   rintro e w1 ⟨rfl, hb1⟩
   have hx1 := heap_below HX0.out hb1 (heap_lt HX0.out)
   have z1 := fun i => Joins.cell_of_block hx1 i
   have HB1 := sb HB0 hb1
   have HL1 : Aside _ := HL0.out.later hb1
   have HX1 : Aside _ := hx1
   clear hck hx1 hb1 HB0 HL0 HX0 hL
   go_wp2_with fail
   refine (htx _ HL1.out).mono ?_
   rintro e w2 ⟨rfl, hb2⟩
   have hx2 := heap_below HX1.out hb2 (heap_lt HX1.out)
   have HB2 := sb HB1 hb2
   have HL2 : Aside _ := HL1.out.later hb2
   clear z1 hb2 htx HB1 HL1 HX1
   have z1 := fun i => Joins.cell_of_block hx2 i
   clear hx2
   go_wp2_with fail
   refine (hit _ HL2.out).mono ?_
   rintro e w3 ⟨rfl, hb3⟩
   have HB3 := sb HB2 hb3
   clear z1 hb3 hit HB2 HL2
   go_wp2
   refine ret_pair (p := 2) (q := 3) rfl rfl rfl rfl ⟨tup_str ?_, HB3.out⟩
   rw [HT.out, data_append, data_append]
   simp
 ·have HP : Hid (r.ptx = []) := by rw [Hid, Rc.ptx, if_neg hz]
  rw [HP.out]
  have hzb : (r.chk != 0) = true := by rw [bne_iff_ne]; exact hz
  generalize r.chk = d at *
  go_enter Tryz.func165, Tryz.ntmps165
  go_wp2_with fail
  refine hck.mono ?_
  rintro e w1 ⟨rfl, hb1⟩
  have HB1 := sb HB0 hb1
  clear hck hb1 HB0 HL0 HX0 hL
  go_wp2
  exact ret_pair (p := 2) (q := 3) rfl rfl rfl rfl ⟨rfl, HB1.out⟩
def rdSeal (l : List UInt8) : Rc × Int := match numOf l with | none => (Rc.zero, 1) | some p => (⟨2, 0, p, En.zero⟩, 0)
def rdWrite (a b : List UInt8) : Rc × Int := match numOf a with | none => (Rc.zero, 1) | some x => if ¬ (prs b).2 = 0 then (Rc.zero, (prs b).2) else (⟨1, x, 0, (prs b).1⟩, 0)
def rdRaw (l : List UInt8) : Rc × Int :=
 if sealL.isPrefixOf l = true then rdSeal (l.drop 5) else if (Lib.cut l [58, 32]).2.2 = false then (Rc.zero, 1) else rdWrite (Lib.cut l [58, 32]).1 (Lib.cut l [58, 32]).2.1
theorem read_raw (l : List UInt8) : rcRead l = if ¬ (rdRaw l).2 = 0 then (Rc.zero, (rdRaw l).2) else (rdRaw l).1.fin := by
 unfold rcRead rdRaw
 by_cases hp : sealL.isPrefixOf l = true
 ·rw [if_pos hp, if_pos hp]
  unfold rdSeal
  cases numOf (l.drop 5) with
  | none => rfl
  | some p => rfl
 ·rw [if_neg hp, if_neg hp]
  by_cases hc : (Lib.cut l [58, 32]).2.2 = false
  ·rw [if_pos hc, if_pos hc]; rfl
  ·rw [if_neg hc, if_neg hc]
   unfold rdWrite
   cases numOf (Lib.cut l [58, 32]).1 with
   | none => rfl
   | some a =>
    simp only
    by_cases he : (prs (Lib.cut l [58, 32]).2.1).2 = 0
    ·have hn : ¬ ¬ (prs (Lib.cut l [58, 32]).2.1).2 = 0 := fun h => h he
     simp only [if_neg hn]
     rfl
    ·simp only [if_pos he]
set_option maxHeartbeats 4000000 in
set_option maxRecDepth 100000 in
theorem readSeal_any (l : List UInt8) (w : World) (hL : Laid w) (hl : l.length ≤ 30000) :
  Calls Tryz.prog 234 #[.string ⟨l.toArray⟩] w fun e w' => e = .returned (.tuple #[(rdSeal l).1.val, .int .i64 (rdSeal l).2]) ∧ Below w.heap.size w w' := by
 have hnu := note_number ⟨l.toArray⟩ (w.alloc (boxRc Rc.zero)) (hL.later (grew (Below.refl _ _) _)) (by rw [Lib.size_eq]; exact hl)
 rw [show (⟨l.toArray⟩ : ByteArray).data.toList = l from rfl] at hnu
 have HX0 : Aside ((w.alloc (boxRc Rc.zero)).heap[w.heap.size]? = some (boxRc Rc.zero)) := heap_new _ _
 have HB0 : Aside (Below w.heap.size w (w.alloc (boxRc Rc.zero))) := grew (Below.refl _ _) _
 clear hL hl
 cases hn : numOf l with
 | none =>
  have HF : Hid (rdSeal l = (Rc.zero, 1)) := by rw [Hid, rdSeal, hn]
  rw [HF.out]
  rw [hn] at hnu
  clear hn HF
  go_enter Tryz.func234, Tryz.ntmps234
  go_wp2_with fail
  refine hnu.mono ?_
  rintro e w1 ⟨rfl, hb1⟩
  have y0 := heap_below HX0.out hb1 (heap_lt HX0.out)
  have HB1 := sb HB0 hb1
  have HX1 : Aside _ := y0
  have z0 := fun i => Joins.cell_of_block y0 i
  have f0 := fun i => Joins.unfrozen_of_block y0 i
  clear hb1 y0 HX0 HB0 hnu
  go_wp2
  exact ret_rec (p := 2) (q := 3) Tryz.results234 rfl rfl rfl (eight_stores HX1.out Rc.zero) ⟨rfl, below_eight HB1.out (Nat.le_refl _) _ _ _ _ _ _ _ _⟩
 | some p =>
  have HF : Hid (rdSeal l = (⟨2, 0, p, En.zero⟩, 0)) := by rw [Hid, rdSeal, hn]
  rw [HF.out]
  rw [hn] at hnu
  clear hn HF
  go_enter Tryz.func234, Tryz.ntmps234
  go_wp2_with fail
  refine hnu.mono ?_
  rintro e w1 ⟨rfl, hb1⟩
  have y0 := heap_below HX0.out hb1 (heap_lt HX0.out)
  have HB1 := sb HB0 hb1
  have HX1 : Aside _ := y0
  have z0 := fun i => Joins.cell_of_block y0 i
  have f0 := fun i => Joins.unfrozen_of_block y0 i
  clear hb1 y0 HX0 HB0 hnu
  go_wp2
  exact ret_rec (p := 2) (q := 3) Tryz.results234 rfl rfl rfl (eight_stores HX1.out ⟨2, 0, p, En.zero⟩) ⟨rfl, below_eight HB1.out (Nat.le_refl _) _ _ _ _ _ _ _ _⟩
set_option maxHeartbeats 4000000 in
set_option maxRecDepth 100000 in
theorem readWrite_any (l m : List UInt8) (w : World) (hL : Laid w) (hl : l.length ≤ 30000) :
  Calls Tryz.prog 236 #[.string ⟨l.toArray⟩, .string ⟨m.toArray⟩] w fun e w' => e = .returned (.tuple #[(rdWrite l m).1.val, .int .i64 (rdWrite l m).2]) ∧ Below w.heap.size w w' := by
 have hnu := note_number ⟨l.toArray⟩ (w.alloc (boxRc Rc.zero)) (hL.later (grew (Below.refl _ _) _)) (by rw [Lib.size_eq]; exact hl)
 rw [show (⟨l.toArray⟩ : ByteArray).data.toList = l from rfl] at hnu
 have hps := fun W hW => parse_any ⟨m.toArray⟩ W hW
 have HX0 : Aside ((w.alloc (boxRc Rc.zero)).heap[w.heap.size]? = some (boxRc Rc.zero)) := heap_new _ _
 have HB0 : Aside (Below w.heap.size w (w.alloc (boxRc Rc.zero))) := grew (Below.refl _ _) _
 have HL : Aside (Laid w) := hL
 clear hL hl
 cases hn : numOf l with
 | none =>
  have HF : Hid (rdWrite l m = (Rc.zero, 1)) := by rw [Hid, rdWrite, hn]
  rw [HF.out]
  rw [hn] at hnu
  clear hn HF hps
  go_enter Tryz.func236, Tryz.ntmps236
  go_wp2_with fail
  refine hnu.mono ?_
  rintro e w1 ⟨rfl, hb1⟩
  have y0 := heap_below HX0.out hb1 (heap_lt HX0.out)
  have HB1 := sb HB0 hb1
  have HX1 : Aside _ := y0
  have z0 := fun i => Joins.cell_of_block y0 i
  have f0 := fun i => Joins.unfrozen_of_block y0 i
  clear hb1 y0 HX0 HB0 hnu HL
  go_wp2
  exact ret_rec (p := 4) (q := 5) Tryz.results236 rfl rfl rfl (eight_stores HX1.out Rc.zero) ⟨rfl, below_eight HB1.out (Nat.le_refl _) _ _ _ _ _ _ _ _⟩
 | some x =>
  have HF : Hid (rdWrite l m = if ¬ (prs m).2 = 0 then (Rc.zero, (prs m).2) else (⟨1, x, 0, (prs m).1⟩, 0)) := by rw [Hid, rdWrite, hn]
  rw [HF.out]
  rw [hn] at hnu
  change ∀ W, Laid W → Calls _ _ _ _ fun e w' => e = .returned (.tuple #[(prs m).1.val, .int .i64 (prs m).2]) ∧ _ at hps
  generalize (prs m).1 = y at *
  generalize (prs m).2 = f at *
  obtain ⟨rr, HRR⟩ : ∃ rr, Hid ((if ¬ f = 0 then (Rc.zero, f) else ((⟨1, x, 0, y⟩ : Rc), 0)) = rr) := ⟨_, rfl⟩
  rw [HRR.out]
  clear hn HF
  go_enter Tryz.func236, Tryz.ntmps236
  go_wp2_with fail
  refine hnu.mono ?_
  rintro e w1 ⟨rfl, hb1⟩
  have y0 := heap_below HX0.out hb1 (heap_lt HX0.out)
  have HB1 := sb HB0 hb1
  have HX1 : Aside _ := y0
  have hL1 := HL.out.later HB1.out
  clear hb1 y0 HX0 HB0 hnu HL
  go_wp2_with fail
  refine (hps _ hL1).mono ?_
  rintro e w2 ⟨rfl, hb2⟩
  have y0 := heap_below HX1.out hb2 (heap_lt HX1.out)
  have HB2 : Aside (Below w.heap.size w (w2.alloc (boxE y.k y.j y.v y.t y.c))) := grew (step_below1 HB1.out hb2) _
  have HX2 : Aside ((w2.alloc (boxE y.k y.j y.v y.t y.c)).heap[w.heap.size]? = some (boxRc Rc.zero)) := heap_old y0 _
  have HY2 : Aside ((w2.alloc (boxE y.k y.j y.v y.t y.c)).heap[w2.heap.size]? = some (boxE y.k y.j y.v y.t y.c)) := heap_new _ _
  clear hb2 y0 HX1 HB1 hps hL1
  go_upto_region 5 with fail
  generalize w2.alloc (boxE y.k y.j y.v y.t y.c) = V at *
  generalize w2.heap.size = eb at *
  have z0 := cb HX2
  have f0 := cf HX2
  have z1 := cb HY2
  by_cases hf : f = 0
  ·have hfb : (f != 0) = false := by rw [hf]; rfl
   have HF3 : Hid (rr = (⟨1, x, 0, y⟩, 0)) := by rw [Hid, ← HRR.out, if_neg (by simpa using hf)]
   clear hf HRR
   go_wp2
   exact ret_rec (p := 4) (q := 5) Tryz.results236 rfl rfl rfl (eight_stores HX2.out ⟨1, x, 0, y⟩) ⟨by rw [HF3.out]; rfl, below_eight HB2.out (Nat.le_refl _) _ _ _ _ _ _ _ _⟩
  ·have hfb : (f != 0) = true := by rw [bne_iff_ne]; exact hf
   have HF3 : Hid (rr = (Rc.zero, f)) := by rw [Hid, ← HRR.out, if_pos hf]
   clear hf HRR
   go_wp2
   exact ret_rec (p := 4) (q := 5) Tryz.results236 rfl rfl rfl (eight_stores HX2.out Rc.zero) ⟨by rw [HF3.out]; rfl, below_eight HB2.out (Nat.le_refl _) _ _ _ _ _ _ _ _⟩
end Go.Proofs.YtmoaobfmopimlafGreatDoor
