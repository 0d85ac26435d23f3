/- For the law: 'copy' at records of more than one cell; the walks of package book's copyOf. What an entry does to a row of jobs, plainly; blocks that are written. Package client: New, copyOf, apart, doing. Package world's copyOf. Package client's Want, Place, Fill. -/
import Derived.Test.YtmoaobfmopimlafGreatDoorM07
import Derived.Deep.CutBlock
namespace Go.Proofs.YtmoaobfmopimlafGreatDoor
open Go.RowKit
theorem sizeJ : (Tryz.prog.info? 120).map (·.size) = some 3 := by kernel_rfl
theorem sizeR : (Tryz.prog.info? 76).map (·.size) = some 3 := by kernel_rfl
set_option maxHeartbeats 1000000 in
theorem copyJ (v : Value) (xs : List Jb) (w : World) (hv : JobSl w v xs) (hn : xs.length ≤ 1000000) :
    Calls Tryz.prog 228 #[v] w fun e w' => ∃ g, e = .returned (.slice (some ⟨g, 0, none⟩) xs.length xs.length) ∧ w.heap.size ≤ g ∧ w'.heap[g]? = some (.cells (xs.flatMap Jb.cells).toArray 120) ∧ Below w.heap.size w w' := by
  obtain ⟨i0, hi, hz0, hz1, hz2⟩ := info_parts infoJ
  have H1 : Hid (JobSl w v xs) := hv
  obtain ⟨a1, c1, rfl, _⟩ := hv
  obtain ⟨cs, hcs⟩ : ∃ cs, Hid (xs.flatMap Jb.cells = cs) := ⟨_, rfl⟩
  have hone : ∀ u ∈ cs, u.oneCell' = true := by rw [← hcs.out]; exact oneJ xs
  have hlen : cs.length = xs.length * 3 := by rw [← hcs.out]; exact row_len Jb.three xs
  rw [hcs.out]
  obtain ⟨n1, hn1⟩ : ∃ n1, xs.length = n1 := ⟨_, rfl⟩
  have L1 : Hid (xs.length = n1) := hn1
  rw [hn1] at H1 hn hlen ⊢
  clear hn1
  go_enter Tryz.func228, Tryz.ntmps228
  go_wp2_with (at_make; refine wpList_make_full _ rfl _ _ 36 rfl w.heap.size 120 i0 (valJ 0 0 0) 3 Tryz.underlying36 hi hz0 hz1 _ _ _ _ n1 rfl rfl rfl rfl (by rw [hz2]; omega) (by unfold maxLen; omega) (Nat.le_refl _) ?_)
  intro w1 hown hgrow
  obtain ⟨hl0, ho⟩ := hown
  rcases ho with ⟨h, _⟩ | ⟨g, cap, cur, hv', _, hg, _, _, hsz, htake⟩
  · cases h
  injection hv' with ha _ hc
  injection ha with ha
  injection ha with ha _ _
  subst ha hc
  have hB1 : Below w.heap.size w w1 := ⟨hgrow.os, hgrow.tape, hgrow.output, hgrow.size, fun k hk => hgrow.block k hk (fun h => by cases h)⟩
  have hcur : cur.toList.length = n1 * 3 := by simpa using hsz
  have hg' : w1.heap[w.heap.size]? = some (.cells cur.toList.toArray 120 (0, 0)) := by simpa using hg
  clear hi hz0 hz1 hz2 hl0 htake hgrow hg hsz
  have hpos : 0 < Nat.min n1 n1 → (some ⟨w.heap.size, 0, none⟩ : Option Addr) = some ⟨w.heap.size, 0, none⟩ ∧ ∃ ad, a1 = some ad ∧ ∀ j v, cs[j]? = some v → w1.cell? (ad.add j) = some v := fun h0 => by
    have h0' : 0 < n1 := by
      have : 0 < min n1 n1 := h0
      omega
    obtain ⟨b, off, rfl, hE⟩ := H1.out.at h0'
    refine ⟨rfl, _, rfl, fun j u hj => ?_⟩
    rw [Lib.add_plain]
    rw [← hcs.out] at hj
    exact rows_flat Jb.three xs off (hE.later hB1) j u hj
  have hmin : cs.length = Nat.min n1 n1 * 3 := by rw [hlen]; show _ = min n1 n1 * 3; rw [Nat.min_self]
  have hfit : 0 + cs.length ≤ cur.toList.length := by rw [hcur, hlen]; omega
  have hall := splice_all (hcur.trans hlen.symm)
  obtain ⟨cl, hcl⟩ : ∃ cl, Hid (cur.toList = cl) := ⟨_, rfl⟩
  rw [hcl.out] at hg' hfit hall
  clear hcur hcl
  go_wp2_with ((with_reducible show wpList _ _ _ (Oper.mk (some 9) _ _ _ _ _ :: _) _ _); refine wpList_copyK rfl _ _ 36 36 rfl 120 3 Tryz.underlying36 sizeJ (some ⟨w.heap.size, 0, none⟩) a1 n1 n1 n1 c1 rfl rfl w.heap.size 0 cl 120 hg' cs hmin hpos hfit hone w.heap.size w hB1 (Nat.le_refl _) ?_)
  intro w2 hg2 hB2
  go_wp2
  go_ret
  exact ⟨_, rfl, Nat.le_refl _, hg2.out, hB2⟩
set_option maxHeartbeats 1000000 in
theorem copyR (v : Value) (xs : List Rg) (w : World) (hv : RungSl w v xs) (hn : xs.length ≤ 1000000) :
    Calls Tryz.prog 229 #[v] w fun e w' => ∃ g, e = .returned (.slice (some ⟨g, 0, none⟩) xs.length xs.length) ∧ w.heap.size ≤ g ∧ w'.heap[g]? = some (.cells (xs.flatMap Rg.cells).toArray 76) ∧ Below w.heap.size w w' := by
  obtain ⟨i0, hi, hz0, hz1, hz2⟩ := info_parts infoR
  have H1 : Hid (RungSl w v xs) := hv
  obtain ⟨a1, c1, rfl, _⟩ := hv
  obtain ⟨cs, hcs⟩ : ∃ cs, Hid (xs.flatMap Rg.cells = cs) := ⟨_, rfl⟩
  have hone : ∀ u ∈ cs, u.oneCell' = true := by rw [← hcs.out]; exact oneR xs
  have hlen : cs.length = xs.length * 3 := by rw [← hcs.out]; exact row_len Rg.three xs
  rw [hcs.out]
  obtain ⟨n1, hn1⟩ : ∃ n1, xs.length = n1 := ⟨_, rfl⟩
  have L1 : Hid (xs.length = n1) := hn1
  rw [hn1] at H1 hn hlen ⊢
  clear hn1
  go_enter Tryz.func229, Tryz.ntmps229
  go_wp2_with (at_make; refine wpList_make_full _ rfl _ _ 37 rfl w.heap.size 76 i0 (valR 0 0 0) 3 Tryz.underlying37 hi hz0 hz1 _ _ _ _ n1 rfl rfl rfl rfl (by rw [hz2]; omega) (by unfold maxLen; omega) (Nat.le_refl _) ?_)
  intro w1 hown hgrow
  obtain ⟨hl0, ho⟩ := hown
  rcases ho with ⟨h, _⟩ | ⟨g, cap, cur, hv', _, hg, _, _, hsz, htake⟩
  · cases h
  injection hv' with ha _ hc
  injection ha with ha
  injection ha with ha _ _
  subst ha hc
  have hB1 : Below w.heap.size w w1 := ⟨hgrow.os, hgrow.tape, hgrow.output, hgrow.size, fun k hk => hgrow.block k hk (fun h => by cases h)⟩
  have hcur : cur.toList.length = n1 * 3 := by simpa using hsz
  have hg' : w1.heap[w.heap.size]? = some (.cells cur.toList.toArray 76 (0, 0)) := by simpa using hg
  clear hi hz0 hz1 hz2 hl0 htake hgrow hg hsz
  have hpos : 0 < Nat.min n1 n1 → (some ⟨w.heap.size, 0, none⟩ : Option Addr) = some ⟨w.heap.size, 0, none⟩ ∧ ∃ ad, a1 = some ad ∧ ∀ j v, cs[j]? = some v → w1.cell? (ad.add j) = some v := fun h0 => by
    have h0' : 0 < n1 := by
      have : 0 < min n1 n1 := h0
      omega
    obtain ⟨b, off, rfl, hE⟩ := H1.out.at h0'
    refine ⟨rfl, _, rfl, fun j u hj => ?_⟩
    rw [Lib.add_plain]
    rw [← hcs.out] at hj
    exact rows_flat Rg.three xs off (hE.later hB1) j u hj
  have hmin : cs.length = Nat.min n1 n1 * 3 := by rw [hlen]; show _ = min n1 n1 * 3; rw [Nat.min_self]
  have hfit : 0 + cs.length ≤ cur.toList.length := by rw [hcur, hlen]; omega
  have hall := splice_all (hcur.trans hlen.symm)
  obtain ⟨cl, hcl⟩ : ∃ cl, Hid (cur.toList = cl) := ⟨_, rfl⟩
  rw [hcl.out] at hg' hfit hall
  clear hcur hcl
  go_wp2_with ((with_reducible show wpList _ _ _ (Oper.mk (some 9) _ _ _ _ _ :: _) _ _); refine wpList_copyK rfl _ _ 37 37 rfl 76 3 Tryz.underlying37 sizeR (some ⟨w.heap.size, 0, none⟩) a1 n1 n1 n1 c1 rfl rfl w.heap.size 0 cl 76 hg' cs hmin hpos hfit hone w.heap.size w hB1 (Nat.le_refl _) ?_)
  intro w2 hg2 hB2
  go_wp2
  go_ret
  exact ⟨_, rfl, Nat.le_refl _, hg2.out, hB2⟩
end Go.Proofs.YtmoaobfmopimlafGreatDoor
namespace Go.Proofs.YtmoaobfmopimlafGreatDoor
open Go.RowKit
/-- All blocks but these are as they were. -/
structure Kept (S : List Nat) (w w' : World) : Prop where
  os : w'.os = w.os
  tape : w'.tape = w.tape
  output : w'.output = w.output
  size : w.heap.size ≤ w'.heap.size
  block : ∀ k, k < w.heap.size → k ∉ S → w'.heap[k]? = w.heap[k]?
theorem Kept.refl (S : List Nat) (w : World) : Kept S w w := ⟨rfl, rfl, rfl, Nat.le_refl _, fun _ _ _ => rfl⟩
theorem Kept.below {S : List Nat} {a w w' : World} (h : Kept S a w) (hb : Below w.heap.size w w') : Kept S a w' :=
  ⟨hb.os.trans h.os, hb.tape.trans h.tape, hb.output.trans h.output, Nat.le_trans h.size hb.size, fun k hk hS => (hb.block k (Nat.lt_of_lt_of_le hk h.size)).trans (h.block k hk hS)⟩
theorem Kept.alloc {S : List Nat} {a w : World} (h : Kept S a w) (o : Obj) : Kept S a (w.alloc o) := h.below (grew (Below.refl _ _) o)
theorem Kept.setRow {S : List Nat} {a w : World} (h : Kept S a w) {g : Nat} (hg : g ∈ S) (cs : Array Value) : Kept S a (w.setRow g cs) :=
  ⟨h.os, h.tape, h.output, Nat.le_trans h.size (by simp [World.setRow]), fun k hk hS => by
    rw [setRow_other w g k cs (fun e => hS (by rw [e]; exact hg))]; exact h.block k hk hS⟩
theorem Kept.setCell {S : List Nat} {a w : World} (h : Kept S a w) {g o : Nat} (hg : g ∈ S) (v : Value) : Kept S a (w.setCell ⟨g, o, none⟩ v) :=
  ⟨h.os, h.tape, h.output, Nat.le_trans h.size (by simp [World.setCell]), fun k hk hS => by
    rw [Below.heap_setCell _ _ _ _ (by show k ≠ g; exact fun e => hS (by rw [e]; exact hg))]; exact h.block k hk hS⟩
theorem Kept.old {S : List Nat} {w w' : World} {k : Nat} {o : Obj} (h : Kept S w w') (hk : w.heap[k]? = some o) (hS : k ∉ S) : w'.heap[k]? = some o := by
  rw [h.block k (heap_lt hk) hS]; exact hk
theorem Kept.to {S : List Nat} {B : Nat} {w w' : World} (h : Kept S w w') (hB : B ≤ w.heap.size) (hS : ∀ k, k ∈ S → B ≤ k) : Below B w w' :=
  ⟨h.os, h.tape, h.output, h.size, fun k hk => h.block k (Nat.lt_of_lt_of_le hk hB) (fun e => by have := hS k e; omega)⟩
theorem block_set {w : World} {g o : Nat} {L : List Value} {T : TypeId} (hg : w.heap[g]? = some (.cells L.toArray T)) (v : Value) : (w.setCell ⟨g, o, none⟩ v).heap[g]? = some (.cells (L.set o v).toArray T) := by
  have hlt : g < w.heap.size := (Array.getElem?_eq_some_iff.1 hg).1
  have hv : w.heap[g] = .cells L.toArray T := (Array.getElem?_eq_some_iff.1 hg).2
  unfold World.setCell
  rw [Array.getElem?_eq_getElem (by simpa using hlt), Array.getElem_modify]
  simp [hv]
theorem splice_three {L : List Value} {o : Nat} (a b c : Value) (h : o + 2 < L.length) : ((L.set o a).set (o + 1) b).set (o + 2) c = splice L o [a, b, c] := by
  refine List.ext_getElem (by simp [splice]; omega) fun j h1 h2 => ?_
  simp only [List.getElem_set, splice]
  by_cases h3 : j < o
  · rw [List.getElem_append_left (by simp; omega), List.getElem_take, if_neg (by omega), if_neg (by omega), if_neg (by omega)]
  · rw [List.getElem_append_right (by simp; omega)]
    have hl : (List.take o L).length = o := by simp; omega
    simp only [hl]
    by_cases h4 : j < o + 3
    · rw [List.getElem_append_left (by simp; omega)]
      obtain h5 | h5 | h5 : j = o ∨ j = o + 1 ∨ j = o + 2 := by omega
      all_goals (subst h5; simp)
    · rw [List.getElem_append_right (by simp; omega), if_neg (by omega), if_neg (by omega), if_neg (by omega), List.getElem_drop]
      congr 1
      simp
      omega
theorem block_three {w : World} {g o : Nat} {L : List Value} {T : TypeId} (hg : w.heap[g]? = some (.cells L.toArray T)) (a b c : Value) (h : o + 2 < L.length) :
    (((w.setCell ⟨g, o, none⟩ a).setCell ⟨g, o + 1, none⟩ b).setCell ⟨g, o + 2, none⟩ c).heap[g]? = some (.cells (splice L o [a, b, c]).toArray T) := by
  rw [← splice_three a b c h]
  exact block_set (block_set (block_set hg a) b) c
theorem rowAt_block {α : Type} {cs : α → List Value} {k : Nat} (hk : ∀ x, (cs x).length = k) {w : World} {b : Nat} {xs : List α} {T : TypeId} {L : List Value} (hb : w.heap[b]? = some (.cells L.toArray T)) (h : ∃ t, L = xs.flatMap cs ++ t) : RowAt cs k w b 0 xs := fun j e hj i u hi => by
  obtain ⟨t, rfl⟩ := h
  rw [Joins.cell_of_block hb, Nat.zero_add]
  have := row_flat hk xs j e hj i u hi
  have hlt := (List.getElem?_eq_some_iff.1 this).1
  simp [List.getElem?_append_left hlt, this]
theorem slOf_block {α : Type} {cs : α → List Value} {k : Nat} (hk : ∀ x, (cs x).length = k) {w : World} {b c : Nat} {xs : List α} {T : TypeId} {L : List Value} (hb : w.heap[b]? = some (.cells L.toArray T)) (h : ∃ t, L = xs.flatMap cs ++ t) : SlOf cs k w (.slice (some ⟨b, 0, none⟩) xs.length c) xs :=
  ⟨_, c, rfl, Or.inr ⟨b, 0, rfl, rowAt_block hk hb h⟩⟩
theorem splice_flat {α : Type} {cs : α → List Value} {k : Nat} (hk : ∀ x, (cs x).length = k) (a b : List α) (y z : α) : splice ((a ++ y :: b).flatMap cs) (a.length * k) (cs z) = (a ++ z :: b).flatMap cs := by
  have h1 := row_len hk a
  simp only [splice, List.flatMap_append, List.flatMap_cons, hk]
  rw [← h1, List.take_left, List.drop_append]
  simp [hk]
theorem srt_mid : ∀ {l : Int} {a b : List Jb} {y : Jb}, Srt l (a ++ y :: b) → (∀ x, x ∈ a → x.i < y.i) ∧ (∀ x, x ∈ b → y.i < x.i)
  | _, [], _, _, h => ⟨fun x hx => (by cases hx), fun x hx => Srt.above h.2 x hx⟩
  | l, z :: a, b, y, h => by
    obtain ⟨h1, h2⟩ := srt_mid (a := a) h.2
    refine ⟨fun x hx => ?_, h2⟩
    rcases List.mem_cons.1 hx with rfl | hx
    · exact Srt.above h.2 y (by simp)
    · exact h1 x hx
theorem alt_gap {a b : List Jb} {i : Int} (ha : ∀ x, x ∈ a → x.i < i) (hb : ∀ x, x ∈ b → i < x.i) (v : Option Jb) : alt (a ++ b) i v = a ++ v.toList ++ b := by
  have e1 : (a ++ b).filter (fun x => decide (x.i < i)) = a := by
    rw [List.filter_append, List.filter_eq_self.2 (fun x hx => by simpa using ha x hx), List.filter_eq_nil_iff.2 (fun x hx => by have := hb x hx; simp; omega), List.append_nil]
  have e2 : (a ++ b).filter (fun x => decide (i < x.i)) = b := by
    rw [List.filter_append, List.filter_eq_nil_iff.2 (fun x hx => by have := ha x hx; simp; omega), List.filter_eq_self.2 (fun x hx => by simpa using hb x hx), List.nil_append]
  rw [alt, e1, e2]
theorem alt_mid {l : Int} {a b : List Jb} {y : Jb} (h : Srt l (a ++ y :: b)) (v : Option Jb) : alt (a ++ y :: b) y.i v = a ++ v.toList ++ b := by
  obtain ⟨h1, h2⟩ := srt_mid h
  have e1 : (a ++ y :: b).filter (fun x => decide (x.i < y.i)) = a := by
    rw [List.filter_append, List.filter_cons, if_neg (by simp), List.filter_eq_self.2 (fun x hx => by simpa using h1 x hx), List.filter_eq_nil_iff.2 (fun x hx => by have := h2 x hx; simp; omega), List.append_nil]
  have e2 : (a ++ y :: b).filter (fun x => decide (y.i < x.i)) = b := by
    rw [List.filter_append, List.filter_cons, if_neg (by simp), List.filter_eq_nil_iff.2 (fun x hx => by have := h1 x hx; simp; omega), List.filter_eq_self.2 (fun x hx => by simpa using h2 x hx), List.nil_append]
  rw [alt, e1, e2]
theorem alt_filter {l : Int} {js : List Jb} {i : Int} (h : Srt l js) (hi : l < i) : alt js i none = js.filter (fun x => !(x.i == i)) := by
  refine srt_ext (alt_srt h hi (fun x hx => by cases hx)) (srt_filter _ h) fun x => ?_
  rw [alt_mem, List.mem_filter]
  simp
/-- The jobs from the first on that is above i. -/
theorem srt_above_at {l i : Int} {js : List Jb} {k : Nat} {x : Jb} (h : Srt l js) (hx : js[k]? = some x) (hi : i < x.i) : ∀ y, y ∈ js.drop k → i < y.i := by
  have hlt := (List.getElem?_eq_some_iff.1 hx).1
  have e : js = js.take k ++ x :: js.drop (k + 1) := by
    rw [← drop_at hx, List.take_append_drop]
  rw [e] at h
  obtain ⟨_, h2⟩ := srt_mid h
  rw [drop_at hx]
  intro y hy
  rcases List.mem_cons.1 hy with rfl | hy
  · exact hi
  · have := h2 y hy; omega
end Go.Proofs.YtmoaobfmopimlafGreatDoor
namespace Go.Proofs.YtmoaobfmopimlafGreatDoor
open Go.RowKit
set_option linter.unusedSimpArgs false in
set_option maxHeartbeats 4000000 in
set_option maxRecDepth 100000 in
theorem cl_new (w : World) : Calls Tryz.prog 77 #[] w fun e w' => e = .returned ((⟨1, 0, En.zero, 0, 0, 0, [], []⟩ : Cl).val nil0 nil0) ∧ Below w.heap.size w w' := by
  have HR0 : Aside ((w.alloc (boxZ)).heap[w.heap.size]? = some (boxZ)) := heap_new _ _
  have HB0 : Aside (Below w.heap.size w (w.alloc (boxZ))) := grew (Below.refl _ _) _
  go_enter Tryz.func77, Tryz.ntmps77
  go_upto_region 1 with fail
  generalize w.alloc (boxZ) = W0 at *
  have zr : ∀ i, W0.cell? ⟨w.heap.size, i, none⟩ = #[Value.int .i64 0, .int .i64 0, .int .i64 0, .int .i64 0, .int .i64 0, .int .i64 0, .int .i64 0, .int .i64 0, .int .i64 0, .int .i64 0, .slice none 0 0, .slice none 0 0][i]? := fun i => Joins.cell_of_block HR0.out i
  have fzr : ∀ i, W0.frozen? ⟨w.heap.size, i, none⟩ = false := fun i => Joins.unfrozen_of_block HR0.out i
  go_wp2
  refine ret1_st (p := 0) W0 w.heap.size (⟨1, 0, En.zero, 0, 0, 0, [], []⟩ : Cl) nil0 nil0 (o := Cl.zero) (u1 := nil0) (u2 := nil0) Tryz.results77 rfl rfl HR0.out rfl ?_
  exact ⟨rfl, st12_below HB0.out (Nat.le_refl _) _ _ _⟩
set_option maxHeartbeats 1000000 in
theorem ccopyJ (v : Value) (xs : List Jb) (w : World) (hv : JobSl w v xs) (hn : xs.length ≤ 1000000) :
    Calls Tryz.prog 197 #[v] w fun e w' => ∃ g, e = .returned (.slice (some ⟨g, 0, none⟩) xs.length xs.length) ∧ w.heap.size ≤ g ∧ w'.heap[g]? = some (.cells (xs.flatMap Jb.cells).toArray 120) ∧ Below w.heap.size w w' := by
  obtain ⟨i0, hi, hz0, hz1, hz2⟩ := info_parts infoJ
  have H1 : Hid (JobSl w v xs) := hv
  obtain ⟨a1, c1, rfl, _⟩ := hv
  obtain ⟨cs, hcs⟩ : ∃ cs, Hid (xs.flatMap Jb.cells = cs) := ⟨_, rfl⟩
  have hone : ∀ u ∈ cs, u.oneCell' = true := by rw [← hcs.out]; exact oneJ xs
  have hlen : cs.length = xs.length * 3 := by rw [← hcs.out]; exact row_len Jb.three xs
  rw [hcs.out]
  obtain ⟨n1, hn1⟩ : ∃ n1, xs.length = n1 := ⟨_, rfl⟩
  have L1 : Hid (xs.length = n1) := hn1
  rw [hn1] at H1 hn hlen ⊢
  clear hn1
  go_enter Tryz.func197, Tryz.ntmps197
  go_wp2_with (at_make; refine wpList_make_full _ rfl _ _ 36 rfl w.heap.size 120 i0 (valJ 0 0 0) 3 Tryz.underlying36 hi hz0 hz1 _ _ _ _ n1 rfl rfl rfl rfl (by rw [hz2]; omega) (by unfold maxLen; omega) (Nat.le_refl _) ?_)
  intro w1 hown hgrow
  obtain ⟨hl0, ho⟩ := hown
  rcases ho with ⟨h, _⟩ | ⟨g, cap, cur, hv', _, hg, _, _, hsz, htake⟩
  · cases h
  injection hv' with ha _ hc
  injection ha with ha
  injection ha with ha _ _
  subst ha hc
  have hB1 : Below w.heap.size w w1 := ⟨hgrow.os, hgrow.tape, hgrow.output, hgrow.size, fun k hk => hgrow.block k hk (fun h => by cases h)⟩
  have hcur : cur.toList.length = n1 * 3 := by simpa using hsz
  have hg' : w1.heap[w.heap.size]? = some (.cells cur.toList.toArray 120 (0, 0)) := by simpa using hg
  clear hi hz0 hz1 hz2 hl0 htake hgrow hg hsz
  have hpos : 0 < Nat.min n1 n1 → (some ⟨w.heap.size, 0, none⟩ : Option Addr) = some ⟨w.heap.size, 0, none⟩ ∧ ∃ ad, a1 = some ad ∧ ∀ j v, cs[j]? = some v → w1.cell? (ad.add j) = some v := fun h0 => by
    have h0' : 0 < n1 := by
      have : 0 < min n1 n1 := h0
      omega
    obtain ⟨b, off, rfl, hE⟩ := H1.out.at h0'
    refine ⟨rfl, _, rfl, fun j u hj => ?_⟩
    rw [Lib.add_plain]
    rw [← hcs.out] at hj
    exact rows_flat Jb.three xs off (hE.later hB1) j u hj
  have hmin : cs.length = Nat.min n1 n1 * 3 := by rw [hlen]; show _ = min n1 n1 * 3; rw [Nat.min_self]
  have hfit : 0 + cs.length ≤ cur.toList.length := by rw [hcur, hlen]; omega
  have hall := splice_all (hcur.trans hlen.symm)
  obtain ⟨cl, hcl⟩ : ∃ cl, Hid (cur.toList = cl) := ⟨_, rfl⟩
  rw [hcl.out] at hg' hfit hall
  clear hcur hcl
  go_wp2_with ((with_reducible show wpList _ _ _ (Oper.mk (some 9) _ _ _ _ _ :: _) _ _); refine wpList_copyK rfl _ _ 36 36 rfl 120 3 Tryz.underlying36 sizeJ (some ⟨w.heap.size, 0, none⟩) a1 n1 n1 n1 c1 rfl rfl w.heap.size 0 cl 120 hg' cs hmin hpos hfit hone w.heap.size w hB1 (Nat.le_refl _) ?_)
  intro w2 hg2 hB2
  go_wp2
  go_ret
  exact ⟨_, rfl, Nat.le_refl _, hg2.out, hB2⟩
set_option maxHeartbeats 1000000 in
theorem ccopyR (v : Value) (xs : List Rg) (w : World) (hv : RungSl w v xs) (hn : xs.length ≤ 1000000) :
    Calls Tryz.prog 198 #[v] w fun e w' => ∃ g, e = .returned (.slice (some ⟨g, 0, none⟩) xs.length xs.length) ∧ w.heap.size ≤ g ∧ w'.heap[g]? = some (.cells (xs.flatMap Rg.cells).toArray 76) ∧ Below w.heap.size w w' := by
  obtain ⟨i0, hi, hz0, hz1, hz2⟩ := info_parts infoR
  have H1 : Hid (RungSl w v xs) := hv
  obtain ⟨a1, c1, rfl, _⟩ := hv
  obtain ⟨cs, hcs⟩ : ∃ cs, Hid (xs.flatMap Rg.cells = cs) := ⟨_, rfl⟩
  have hone : ∀ u ∈ cs, u.oneCell' = true := by rw [← hcs.out]; exact oneR xs
  have hlen : cs.length = xs.length * 3 := by rw [← hcs.out]; exact row_len Rg.three xs
  rw [hcs.out]
  obtain ⟨n1, hn1⟩ : ∃ n1, xs.length = n1 := ⟨_, rfl⟩
  have L1 : Hid (xs.length = n1) := hn1
  rw [hn1] at H1 hn hlen ⊢
  clear hn1
  go_enter Tryz.func198, Tryz.ntmps198
  go_wp2_with (at_make; refine wpList_make_full _ rfl _ _ 37 rfl w.heap.size 76 i0 (valR 0 0 0) 3 Tryz.underlying37 hi hz0 hz1 _ _ _ _ n1 rfl rfl rfl rfl (by rw [hz2]; omega) (by unfold maxLen; omega) (Nat.le_refl _) ?_)
  intro w1 hown hgrow
  obtain ⟨hl0, ho⟩ := hown
  rcases ho with ⟨h, _⟩ | ⟨g, cap, cur, hv', _, hg, _, _, hsz, htake⟩
  · cases h
  injection hv' with ha _ hc
  injection ha with ha
  injection ha with ha _ _
  subst ha hc
  have hB1 : Below w.heap.size w w1 := ⟨hgrow.os, hgrow.tape, hgrow.output, hgrow.size, fun k hk => hgrow.block k hk (fun h => by cases h)⟩
  have hcur : cur.toList.length = n1 * 3 := by simpa using hsz
  have hg' : w1.heap[w.heap.size]? = some (.cells cur.toList.toArray 76 (0, 0)) := by simpa using hg
  clear hi hz0 hz1 hz2 hl0 htake hgrow hg hsz
  have hpos : 0 < Nat.min n1 n1 → (some ⟨w.heap.size, 0, none⟩ : Option Addr) = some ⟨w.heap.size, 0, none⟩ ∧ ∃ ad, a1 = some ad ∧ ∀ j v, cs[j]? = some v → w1.cell? (ad.add j) = some v := fun h0 => by
    have h0' : 0 < n1 := by
      have : 0 < min n1 n1 := h0
      omega
    obtain ⟨b, off, rfl, hE⟩ := H1.out.at h0'
    refine ⟨rfl, _, rfl, fun j u hj => ?_⟩
    rw [Lib.add_plain]
    rw [← hcs.out] at hj
    exact rows_flat Rg.three xs off (hE.later hB1) j u hj
  have hmin : cs.length = Nat.min n1 n1 * 3 := by rw [hlen]; show _ = min n1 n1 * 3; rw [Nat.min_self]
  have hfit : 0 + cs.length ≤ cur.toList.length := by rw [hcur, hlen]; omega
  have hall := splice_all (hcur.trans hlen.symm)
  obtain ⟨cl, hcl⟩ : ∃ cl, Hid (cur.toList = cl) := ⟨_, rfl⟩
  rw [hcl.out] at hg' hfit hall
  clear hcur hcl
  go_wp2_with ((with_reducible show wpList _ _ _ (Oper.mk (some 9) _ _ _ _ _ :: _) _ _); refine wpList_copyK rfl _ _ 37 37 rfl 76 3 Tryz.underlying37 sizeR (some ⟨w.heap.size, 0, none⟩) a1 n1 n1 n1 c1 rfl rfl w.heap.size 0 cl 76 hg' cs hmin hpos hfit hone w.heap.size w hB1 (Nat.le_refl _) ?_)
  intro w2 hg2 hB2
  go_wp2
  go_ret
  exact ⟨_, rfl, Nat.le_refl _, hg2.out, hB2⟩
set_option linter.unusedSimpArgs false in
set_option maxHeartbeats 4000000 in
set_option maxRecDepth 100000 in
theorem cl_apart (c : Cl) (a1 a2 : Option Addr) (m1 k1 m2 k2 : Nat) (w : World) (hb : BkAt w (.slice a1 m1 k1) (.slice a2 m2 k2) c) (hn1 : c.js.length ≤ 1000000) (hn2 : c.rs.length ≤ 1000000) :
    Calls Tryz.prog 168 #[c.val (.slice a1 m1 k1) (.slice a2 m2 k2)] w fun e w' => ∃ u1 u2, e = .returned (c.val u1 u2) ∧ BkT w' u1 u2 c ∧ Below w.heap.size w w' := by
  have HX0 : Aside (((w.alloc (boxC c (.slice a1 m1 k1) (.slice a2 m2 k2))).alloc (boxZ)).heap[w.heap.size]? = some (boxC c (.slice a1 m1 k1) (.slice a2 m2 k2))) := heap_old (heap_new _ _) _
  have HR0 : Aside (((w.alloc (boxC c (.slice a1 m1 k1) (.slice a2 m2 k2))).alloc (boxZ)).heap[w.heap.size + 1]? = some (boxZ)) := by
    have := heap_new (w.alloc (boxC c (.slice a1 m1 k1) (.slice a2 m2 k2))) (boxZ)
    rw [World.size_alloc] at this
    exact this
  have HB0 : Aside (Below w.heap.size w ((w.alloc (boxC c (.slice a1 m1 k1) (.slice a2 m2 k2))).alloc (boxZ))) := grew (grew (Below.refl _ _) _) _
  have l1 : c.js.length = m1 := hb.1.len
  have l2 : c.rs.length = m2 := hb.2.len
  have HJ : Aside (∀ W, Below w.heap.size w W → Calls Tryz.prog 197 #[(.slice a1 m1 k1)] W fun e w' => ∃ g, e = .returned (.slice (some ⟨g, 0, none⟩) m1 m1) ∧ Aside (w'.heap[g]? = some (.cells (c.js.flatMap Jb.cells).toArray 120)) ∧ Below W.heap.size W w') := fun W hB =>
    (ccopyJ (.slice a1 m1 k1) c.js W (hb.1.later hB) hn1).mono fun e w' ⟨g, he, _, hg, hB'⟩ => ⟨g, by rw [he, l1], hg, hB'⟩
  have HU : Aside (∀ W, Below w.heap.size w W → Calls Tryz.prog 198 #[(.slice a2 m2 k2)] W fun e w' => ∃ g, e = .returned (.slice (some ⟨g, 0, none⟩) m2 m2) ∧ Aside (w'.heap[g]? = some (.cells (c.rs.flatMap Rg.cells).toArray 76)) ∧ Below W.heap.size W w') := fun W hB =>
    (ccopyR (.slice a2 m2 k2) c.rs W (hb.2.later hB) hn2).mono fun e w' ⟨g, he, _, hg, hB'⟩ => ⟨g, by rw [he, l2], hg, hB'⟩
  have HL : Aside (c.js.length = m1 ∧ c.rs.length = m2) := ⟨l1, l2⟩
  clear hb hn1 hn2 l1 l2
  go_enter Tryz.func168, Tryz.ntmps168
  go_upto_region 1 with fail
  generalize (w.alloc (boxC c (.slice a1 m1 k1) (.slice a2 m2 k2))).alloc (boxZ) = W0 at *
  have z10 : W0.drew.cell? ⟨w.heap.size, 10, none⟩ = some (.slice a1 m1 k1) := Joins.cell_of_block HX0.out 10
  have z11 : W0.drew.cell? ⟨w.heap.size, 11, none⟩ = some (.slice a2 m2 k2) := Joins.cell_of_block HX0.out 11
  have HXd : Aside (W0.drew.heap[w.heap.size]? = some (boxC c (.slice a1 m1 k1) (.slice a2 m2 k2))) := HX0.out
  have HRd : Aside (W0.drew.heap[w.heap.size + 1]? = some (boxZ)) := HR0.out
  have HBd : Aside (Below w.heap.size w W0.drew) := HB0.out.drew
  clear HX0 HR0 HB0
  refine wp_region_noPanic ?_
  refine region_L (fun w' => w'.cell? ⟨w.heap.size, 10, none⟩ = some (.slice a1 m1 k1) ∧ w'.cell? ⟨w.heap.size, 11, none⟩ = some (.slice a2 m2 k2)) 10 (by kernel_rfl) (⟨z10, z11⟩) (fun hHeld => ?_)
  clear z10 z11
  generalize W0.drew = X at *
  refine anyL_take (i := 0) (v := ?_) rfl (by kernel_rfl) (by kernel_rfl) (by kernel_rfl) (by kernel_rfl) (by kernel_rfl) (fun _ _ _ h => h) (Or.inl ⟨by rfl, ?_⟩) (by assumption) ?_
  rotate_left
  · (intro w0 hSw; (try dsimp only at hSw); go_simp; first | done | with_reducible rfl)
  try simp only [Act.put, List.setIfInBounds_toArray, List.set_cons_zero, List.set_cons_succ]
  refine anyL_take (i := 1) (v := ?_) rfl (by kernel_rfl) (by kernel_rfl) (by kernel_rfl) (by kernel_rfl) (by kernel_rfl) (fun _ _ _ h => h) (Or.inl ⟨by rfl, ?_⟩) (by assumption) ?_
  rotate_left
  · (intro w0 hSw; (try dsimp only at hSw); go_simp; first | done | with_reducible rfl)
  try simp only [Act.put, List.setIfInBounds_toArray, List.set_cons_zero, List.set_cons_succ]
  refine anyL_take (i := 2) (v := ?_) rfl (by kernel_rfl) (by kernel_rfl) (by kernel_rfl) (by kernel_rfl) (by kernel_rfl) (fun _ _ _ h => h) (Or.inl ⟨by rfl, ?_⟩) (by assumption) ?_
  rotate_left
  · (intro w0 hSw; (try dsimp only at hSw); go_simp; first | done | with_reducible rfl)
  try simp only [Act.put, List.setIfInBounds_toArray, List.set_cons_zero, List.set_cons_succ]
  refine anyL_take (i := 4) (v := ?_) rfl (by kernel_rfl) (by kernel_rfl) (by kernel_rfl) (by kernel_rfl) (by kernel_rfl) (fun _ _ _ h => h) (Or.inl ⟨by rfl, ?_⟩) (by assumption) ?_
  rotate_left
  · (intro w0 hSw; (try dsimp only at hSw); go_simp; first | done | with_reducible rfl)
  try simp only [Act.put, List.setIfInBounds_toArray, List.set_cons_zero, List.set_cons_succ]
  refine anyL_take (i := 5) (v := ?_) rfl (by kernel_rfl) (by kernel_rfl) (by kernel_rfl) (by kernel_rfl) (by kernel_rfl) (fun _ _ _ h => h) (Or.inl ⟨by rfl, ?_⟩) (by assumption) ?_
  rotate_left
  · (intro w0 hSw; (try dsimp only at hSw); go_simp; first | done | with_reducible rfl)
  try simp only [Act.put, List.setIfInBounds_toArray, List.set_cons_zero, List.set_cons_succ]
  refine anyL_take (i := 6) (v := ?_) rfl (by kernel_rfl) (by kernel_rfl) (by kernel_rfl) (by kernel_rfl) (by kernel_rfl) (fun _ _ _ h => h) (Or.inl ⟨by rfl, ?_⟩) (by assumption) ?_
  rotate_left
  · (intro w0 hSw; (try dsimp only at hSw); go_simp; first | done | with_reducible rfl)
  try simp only [Act.put, List.setIfInBounds_toArray, List.set_cons_zero, List.set_cons_succ]
  refine anyL_one (i := 3) (by kernel_rfl) rfl (fun K hK => ?_)
  go_simp
  refine (HJ.out _ HBd.out).mono ?_
  rintro e w1 ⟨gj, rfl, gJ1, hb1⟩
  have HX1 : Aside _ := heap_below HXd.out hb1 (heap_lt HXd.out)
  have HR1 : Aside _ := heap_below HRd.out hb1 (heap_lt HRd.out)
  have HB1 : Aside (Below w.heap.size w w1) := HBd.out.trans (hb1.mono (by have := heap_lt HXd.out; omega))
  refine hK.out _ _ (fun _ => ⟨cell_later hb1 hHeld.1, cell_later hb1 hHeld.2⟩) (fun hNext => ?_)
  replace hNext := hNext (by kernel_rfl)
  clear hK K hHeld hb1 HXd HRd HBd
  try simp only [Act.put, List.setIfInBounds_toArray, List.set_cons_zero, List.set_cons_succ]
  refine anyL_one (i := 7) (by kernel_rfl) rfl (fun K hK => ?_)
  go_simp
  refine (HU.out _ HB1.out).mono ?_
  rintro e w2 ⟨gr, rfl, gR2, hb2⟩
  have HX2 : Aside _ := heap_below HX1.out hb2 (heap_lt HX1.out)
  have HR2 : Aside _ := heap_below HR1.out hb2 (heap_lt HR1.out)
  have HB2 : Aside (Below w.heap.size w w2) := HB1.out.trans (hb2.mono (by have := heap_lt HX1.out; omega))
  have gJ2 : Aside _ := heap_below gJ1.out hb2 (heap_lt gJ1.out)
  refine hK.out _ _ (fun _ => ⟨cell_later hb2 hNext.1, cell_later hb2 hNext.2⟩) (fun hNext => ?_)
  replace hNext := hNext (by kernel_rfl)
  clear hK K hb2 HX1 HR1 HB1 gJ1
  try simp only [Act.put, List.setIfInBounds_toArray, List.set_cons_zero, List.set_cons_succ]
  refine anyL_one (i := 8) (by kernel_rfl) rfl (fun K hK => ?_)
  go_simp
  refine hK.out _ _ (fun _ => hNext) (fun _ => ?_)
  clear hK K
  try simp only [Act.put, List.setIfInBounds_toArray, List.set_cons_zero, List.set_cons_succ]
  have z : ∀ i, w2.cell? ⟨w.heap.size, i, none⟩ = #[Value.int .i64 c.p, .int .i64 c.d, .int .i64 c.e.k, .int .i64 c.e.j, .int .i64 c.e.v, .int .i64 c.e.t, .int .i64 c.e.c, .int .i64 c.a, .int .i64 c.l, .int .i64 c.n, (.slice a1 m1 k1), (.slice a2 m2 k2)][i]? := fun i => Joins.cell_of_block HX2.out i
  have fz : ∀ i, w2.frozen? ⟨w.heap.size, i, none⟩ = false := fun i => Joins.unfrozen_of_block HX2.out i
  refine anyL_one (i := 9) (by kernel_rfl) rfl (fun K hK => ?_)
  go_simp
  refine hK.out _ _ (fun _ => hNext) (fun _ => ?_)
  clear hK K
  try simp only [Act.put, List.setIfInBounds_toArray, List.set_cons_zero, List.set_cons_succ]
  refine anyL_one (i := 10) (by kernel_rfl) rfl (fun K hK => ?_)
  go_simp
  refine hK.out _ _ (fun h => absurd h (by decide +kernel)) (fun _ => ?_)
  clear hK K
  refine anyL_done (by kernel_rfl) ?_ _
  refine NoPanic.normal ?_
  try simp only [Act.put, List.setIfInBounds_toArray, List.set_cons_zero, List.set_cons_succ]
  have T2 : IsC w2 w.heap.size ∧ BkT w2 (.slice (some ⟨gj, 0, none⟩) m1 m1) (.slice (some ⟨gr, 0, none⟩) m2 m2) c := ⟨isC_of HX2.out, ⟨by rw [← HL.out.1]; exact slOf_block Jb.three gJ2.out ⟨[], by simp⟩, by rw [← HL.out.2]; exact slOf_block Rg.three gR2.out ⟨[], by simp⟩⟩, typed_block gJ2.out _ _ _, typed_block gR2.out _ _ _⟩
  have T3 : Aside _ := (bkT_both (bkT_both T2 10 (.slice (some ⟨gj, 0, none⟩) m1 m1)) 11 (.slice (some ⟨gr, 0, none⟩) m2 m2)).2
  have g0 := Joins.block_setCell HX2.out (i := 10) (.slice (some ⟨gj, 0, none⟩) m1 m1)
  have g1 := Joins.block_setCell g0 (i := 11) (.slice (some ⟨gr, 0, none⟩) m2 m2)
  simp only [List.setIfInBounds_toArray, List.set_cons_zero, List.set_cons_succ] at g1
  have hrs : w.heap.size + 1 ≠ w.heap.size := by omega
  have HX3 : Aside (((w2.setCell ⟨w.heap.size, 10, none⟩ (.slice (some ⟨gj, 0, none⟩) m1 m1)).setCell ⟨w.heap.size, 11, none⟩ (.slice (some ⟨gr, 0, none⟩) m2 m2)).heap[w.heap.size]? = some (boxC c (.slice (some ⟨gj, 0, none⟩) m1 m1) (.slice (some ⟨gr, 0, none⟩) m2 m2))) := g1
  have HR3 : Aside (((w2.setCell ⟨w.heap.size, 10, none⟩ (.slice (some ⟨gj, 0, none⟩) m1 m1)).setCell ⟨w.heap.size, 11, none⟩ (.slice (some ⟨gr, 0, none⟩) m2 m2)).heap[w.heap.size + 1]? = some (boxZ)) := by
    rw [Aside, Below.heap_setCell _ _ _ _ (by exact hrs), Below.heap_setCell _ _ _ _ (by exact hrs)]
    exact HR2.out
  have HB3 : Aside (Below w.heap.size w ((w2.setCell ⟨w.heap.size, 10, none⟩ (.slice (some ⟨gj, 0, none⟩) m1 m1)).setCell ⟨w.heap.size, 11, none⟩ (.slice (some ⟨gr, 0, none⟩) m2 m2))) := ((HB2.out).setCell (p := ⟨w.heap.size, 10, none⟩) (Nat.le_refl _) _).setCell (p := ⟨w.heap.size, 11, none⟩) (Nat.le_refl _) _
  clear T2 g0 g1 z fz HX2 HR2 HB2 hNext HJ HU gJ2 gR2
  generalize ((w2.setCell ⟨w.heap.size, 10, none⟩ (.slice (some ⟨gj, 0, none⟩) m1 m1)).setCell ⟨w.heap.size, 11, none⟩ (.slice (some ⟨gr, 0, none⟩) m2 m2)) = w3 at *
  have z : ∀ i, w3.cell? ⟨w.heap.size, i, none⟩ = #[Value.int .i64 c.p, .int .i64 c.d, .int .i64 c.e.k, .int .i64 c.e.j, .int .i64 c.e.v, .int .i64 c.e.t, .int .i64 c.e.c, .int .i64 c.a, .int .i64 c.l, .int .i64 c.n, (.slice (some ⟨gj, 0, none⟩) m1 m1), (.slice (some ⟨gr, 0, none⟩) m2 m2)][i]? := fun i => Joins.cell_of_block HX3.out i
  have zr : ∀ i, w3.cell? ⟨w.heap.size + 1, i, none⟩ = #[Value.int .i64 0, .int .i64 0, .int .i64 0, .int .i64 0, .int .i64 0, .int .i64 0, .int .i64 0, .int .i64 0, .int .i64 0, .int .i64 0, .slice none 0 0, .slice none 0 0][i]? := fun i => Joins.cell_of_block HR3.out i
  have fzr : ∀ i, w3.frozen? ⟨w.heap.size + 1, i, none⟩ = false := fun i => Joins.unfrozen_of_block HR3.out i
  go_wp2
  refine ret1_st (p := 2) w3 (w.heap.size + 1) c (.slice (some ⟨gj, 0, none⟩) m1 m1) (.slice (some ⟨gr, 0, none⟩) m2 m2) (o := Cl.zero) (u1 := nil0) (u2 := nil0) Tryz.results168 rfl rfl HR3.out rfl ?_
  exact ⟨(.slice (some ⟨gj, 0, none⟩) m1 m1), (.slice (some ⟨gr, 0, none⟩) m2 m2), rfl, bkT_st12 ⟨_, HR3.out⟩ T3.out _ _ _, st12_below HB3.out (by omega) _ _ _⟩
set_option linter.unusedSimpArgs false in
set_option maxHeartbeats 4000000 in
set_option maxRecDepth 100000 in
theorem cl_doing (c : Cl) (x : En) (what q l : Int) (a1 a2 : Option Addr) (m1 k1 m2 k2 : Nat) (w : World) (hb : BkAt w (.slice a1 m1 k1) (.slice a2 m2 k2) c) (hn1 : c.js.length ≤ 1000000) (hn2 : c.rs.length ≤ 1000000) :
    Calls Tryz.prog 171 #[c.val (.slice a1 m1 k1) (.slice a2 m2 k2), .int .i64 what, x.val, .int .i64 q, .int .i64 l] w fun e w' => ∃ u1 u2, e = .returned ((⟨c.p, what, x, q, l, c.n, c.js, c.rs⟩ : Cl).val u1 u2) ∧ BkT w' u1 u2 c ∧ Below w.heap.size w w' := by
  have HE0 : Aside ((((w.alloc (boxC c (.slice a1 m1 k1) (.slice a2 m2 k2))).alloc (boxE x.k x.j x.v x.t x.c)).alloc (boxZ)).heap[w.heap.size + 1]? = some (boxE x.k x.j x.v x.t x.c)) := by
    have := heap_new (w.alloc (boxC c (.slice a1 m1 k1) (.slice a2 m2 k2))) (boxE x.k x.j x.v x.t x.c)
    rw [World.size_alloc] at this
    exact heap_old this _
  have HR0 : Aside ((((w.alloc (boxC c (.slice a1 m1 k1) (.slice a2 m2 k2))).alloc (boxE x.k x.j x.v x.t x.c)).alloc (boxZ)).heap[w.heap.size + 1 + 1]? = some (boxZ)) := by
    have := heap_new ((w.alloc (boxC c (.slice a1 m1 k1) (.slice a2 m2 k2))).alloc (boxE x.k x.j x.v x.t x.c)) (boxZ)
    rw [World.size_alloc, World.size_alloc] at this
    exact this
  have HB0 : Aside (Below w.heap.size w (((w.alloc (boxC c (.slice a1 m1 k1) (.slice a2 m2 k2))).alloc (boxE x.k x.j x.v x.t x.c)).alloc (boxZ))) := grew (grew (grew (Below.refl _ _) _) _) _
  have ka := cl_apart c a1 a2 m1 k1 m2 k2 _ (bkAt_later hb HB0.out) hn1 hn2
  clear hb hn1 hn2
  go_enter Tryz.func171, Tryz.ntmps171
  go_wp2_with fail
  refine ka.mono ?_
  rintro e w1 ⟨u1, u2, rfl, hT1, hb1⟩
  have HE1 : Aside _ := heap_below HE0.out hb1 (heap_lt HE0.out)
  have HR1 : Aside _ := heap_below HR0.out hb1 (heap_lt HR0.out)
  have HB1 : Aside (Below w.heap.size w w1) := step_below HB0.out hb1
  have HT1 : Aside (BkT w1 u1 u2 c) := hT1
  obtain ⟨s1, o1, s2, o2, rfl, rfl⟩ := bk_slices hT1.1.1 hT1.1.2
  clear hb1 ka HE0 HR0 HB0 hT1
  obtain ⟨n1, hn1⟩ : ∃ n, Hid (c.js.length = n) := ⟨_, rfl⟩
  obtain ⟨n2, hn2⟩ : ∃ n, Hid (c.rs.length = n) := ⟨_, rfl⟩
  rw [hn1.out, hn2.out] at HT1 ⊢
  go_upto_region 2 with fail
  have HA0 : Aside ((w1.alloc (boxC c (.slice s1 n1 o1) (.slice s2 n2 o2))).drew.heap[w1.heap.size]? = some (boxC c (.slice s1 n1 o1) (.slice s2 n2 o2))) := heap_new _ _
  have HD0 : Aside (Below w1.heap.size w1 (w1.alloc (boxC c (.slice s1 n1 o1) (.slice s2 n2 o2))).drew) := (grew (Below.refl _ _) _).drew
  have hS0 : C5 (w1.alloc (boxC c (.slice s1 n1 o1) (.slice s2 n2 o2))).drew (w.heap.size + 1) x := c5_of (heap_old HE1.out _)
  have hne : w.heap.size + 1 ≠ w1.heap.size := by have := heap_lt HE1.out; omega
  refine wp_region_held_drew (S := fun w' => C5 w' (w.heap.size + 1) x) (by kernel_rfl) (hS0) (fun hHeld => ?_)
  clear hS0
  generalize (w1.alloc (boxC c (.slice s1 n1 o1) (.slice s2 n2 o2))).drew = X at *
  refine wpAnyH_take (i := 0) (oi := ?oi0) (v := ?v0) ?hi0 ?hs0 ?hf0 ?hr0 ?hQ0 (Or.inl ⟨?hw0, ?hy0⟩) (by assumption) ?h0
  case hi0 => (simp only [List.getElem?_toArray, List.getElem?_cons_succ, List.getElem?_cons_zero]; rfl)
  case hs0 => kernel_rfl
  case hf0 => kernel_rfl
  case hr0 => kernel_rfl
  case hw0 => rfl
  case hy0 => (intro w0 hSw; (try dsimp only at hSw); go_simp; first | done | with_reducible rfl)
  case hQ0 => exact fun _ _ _ h => h
  try simp only [Act.put, List.setIfInBounds_toArray, List.set_cons_zero, List.set_cons_succ]
  refine wpAnyH_take (i := 1) (oi := ?oi1) (v := ?v1) ?hi1 ?hs1 ?hf1 ?hr1 ?hQ1 (Or.inl ⟨?hw1, ?hy1⟩) (by assumption) ?h1
  case hi1 => (simp only [List.getElem?_toArray, List.getElem?_cons_succ, List.getElem?_cons_zero]; rfl)
  case hs1 => kernel_rfl
  case hf1 => kernel_rfl
  case hr1 => kernel_rfl
  case hw1 => rfl
  case hy1 => (intro w0 hSw; (try dsimp only at hSw); go_simp; first | done | with_reducible rfl)
  case hQ1 => exact fun _ _ _ h => h
  try simp only [Act.put, List.setIfInBounds_toArray, List.set_cons_zero, List.set_cons_succ]
  refine wpAnyH_take (i := 2) (oi := ?oi2) (v := ?v2) ?hi2 ?hs2 ?hf2 ?hr2 ?hQ2 (Or.inl ⟨?hw2, ?hy2⟩) (by assumption) ?h2
  case hi2 => (simp only [List.getElem?_toArray, List.getElem?_cons_succ, List.getElem?_cons_zero]; rfl)
  case hs2 => kernel_rfl
  case hf2 => kernel_rfl
  case hr2 => kernel_rfl
  case hw2 => rfl
  case hy2 => (intro w0 hSw; (try dsimp only at hSw); go_simp; first | done | with_reducible rfl)
  case hQ2 => exact fun _ _ _ h => h
  try simp only [Act.put, List.setIfInBounds_toArray, List.set_cons_zero, List.set_cons_succ]
  refine wpAnyH_take (i := 3) (oi := ?oi3) (v := ?v3) ?hi3 ?hs3 ?hf3 ?hr3 ?hQ3 (Or.inl ⟨?hw3, ?hy3⟩) (by assumption) ?h3
  case hi3 => (simp only [List.getElem?_toArray, List.getElem?_cons_succ, List.getElem?_cons_zero]; rfl)
  case hs3 => kernel_rfl
  case hf3 => kernel_rfl
  case hr3 => kernel_rfl
  case hw3 => rfl
  case hy3 => (intro w0 hSw; (try dsimp only at hSw); go_simp; first | done | with_reducible rfl)
  case hQ3 => exact fun _ _ _ h => h
  try simp only [Act.put, List.setIfInBounds_toArray, List.set_cons_zero, List.set_cons_succ]
  refine wpAnyH_take (i := 4) (oi := ?oi4) (v := ?v4) ?hi4 ?hs4 ?hf4 ?hr4 ?hQ4 (Or.inl ⟨?hw4, ?hy4⟩) (by assumption) ?h4
  case hi4 => (simp only [List.getElem?_toArray, List.getElem?_cons_succ, List.getElem?_cons_zero]; rfl)
  case hs4 => kernel_rfl
  case hf4 => kernel_rfl
  case hr4 => kernel_rfl
  case hw4 => rfl
  case hy4 => (intro w0 hSw; (try dsimp only at hSw); go_simp; first | done | with_reducible rfl)
  case hQ4 => exact fun _ _ _ h => h
  try simp only [Act.put, List.setIfInBounds_toArray, List.set_cons_zero, List.set_cons_succ]
  have z : ∀ i, X.cell? ⟨w1.heap.size, i, none⟩ = #[Value.int .i64 c.p, .int .i64 c.d, .int .i64 c.e.k, .int .i64 c.e.j, .int .i64 c.e.v, .int .i64 c.e.t, .int .i64 c.e.c, .int .i64 c.a, .int .i64 c.l, .int .i64 c.n, (.slice s1 n1 o1), (.slice s2 n2 o2)][i]? := fun i => Joins.cell_of_block HA0.out i
  have fz : ∀ i, X.frozen? ⟨w1.heap.size, i, none⟩ = false := fun i => Joins.unfrozen_of_block HA0.out i
  refine wpAnyH_ready (rs := [5]) (by kernel_rfl) (by simp) ?_
  refine AllReadyH.cons (o := ?o5) ?hi5 ?step5 AllReadyH.nil
  case hi5 => (simp only [List.getElem?_toArray, List.getElem?_cons_succ, List.getElem?_cons_zero]; rfl)
  intro K hK
  go_simp
  refine hK.out _ _ (c5_set hHeld hne 1 _) (fun hHeld => ?_)
  clear hK K
  try simp only [Act.put, List.setIfInBounds_toArray, List.set_cons_zero, List.set_cons_succ]
  refine wpAnyH_take (i := 6) (oi := ?oi6) (v := ?v6) ?hi6 ?hs6 ?hf6 ?hr6 ?hQ6 (Or.inl ⟨?hw6, ?hy6⟩) (by assumption) ?h6
  case hi6 => (simp only [List.getElem?_toArray, List.getElem?_cons_succ, List.getElem?_cons_zero]; rfl)
  case hs6 => kernel_rfl
  case hf6 => kernel_rfl
  case hr6 => kernel_rfl
  case hw6 => rfl
  case hy6 => (intro w0 hSw; (try dsimp only at hSw); go_simp; first | done | with_reducible rfl)
  case hQ6 => exact fun _ _ _ h => h
  try simp only [Act.put, List.setIfInBounds_toArray, List.set_cons_zero, List.set_cons_succ]
  refine wpAnyH_ready (rs := [7]) (by kernel_rfl) (by simp) ?_
  refine AllReadyH.cons (o := ?o7) ?hi7 ?step7 AllReadyH.nil
  case hi7 => (simp only [List.getElem?_toArray, List.getElem?_cons_succ, List.getElem?_cons_zero]; rfl)
  intro K hK
  go_simp
  refine hK.out _ _ (c5_set (c5_set (c5_set (c5_set (c5_set (hHeld) hne 2 _) hne 3 _) hne 4 _) hne 5 _) hne 6 _) (fun hHeld => ?_)
  clear hK K
  try simp only [Act.put, List.setIfInBounds_toArray, List.set_cons_zero, List.set_cons_succ]
  refine wpAnyH_take (i := 8) (oi := ?oi8) (v := ?v8) ?hi8 ?hs8 ?hf8 ?hr8 ?hQ8 (Or.inl ⟨?hw8, ?hy8⟩) (by assumption) ?h8
  case hi8 => (simp only [List.getElem?_toArray, List.getElem?_cons_succ, List.getElem?_cons_zero]; rfl)
  case hs8 => kernel_rfl
  case hf8 => kernel_rfl
  case hr8 => kernel_rfl
  case hw8 => rfl
  case hy8 => (intro w0 hSw; (try dsimp only at hSw); go_simp; first | done | with_reducible rfl)
  case hQ8 => exact fun _ _ _ h => h
  try simp only [Act.put, List.setIfInBounds_toArray, List.set_cons_zero, List.set_cons_succ]
  refine wpAnyH_ready (rs := [9]) (by kernel_rfl) (by simp) ?_
  refine AllReadyH.cons (o := ?o9) ?hi9 ?step9 AllReadyH.nil
  case hi9 => (simp only [List.getElem?_toArray, List.getElem?_cons_succ, List.getElem?_cons_zero]; rfl)
  intro K hK
  go_simp
  refine hK.out _ _ (c5_set hHeld hne 7 _) (fun hHeld => ?_)
  clear hK K
  try simp only [Act.put, List.setIfInBounds_toArray, List.set_cons_zero, List.set_cons_succ]
  refine wpAnyH_take (i := 10) (oi := ?oi10) (v := ?v10) ?hi10 ?hs10 ?hf10 ?hr10 ?hQ10 (Or.inl ⟨?hw10, ?hy10⟩) (by assumption) ?h10
  case hi10 => (simp only [List.getElem?_toArray, List.getElem?_cons_succ, List.getElem?_cons_zero]; rfl)
  case hs10 => kernel_rfl
  case hf10 => kernel_rfl
  case hr10 => kernel_rfl
  case hw10 => rfl
  case hy10 => (intro w0 hSw; (try dsimp only at hSw); go_simp; first | done | with_reducible rfl)
  case hQ10 => exact fun _ _ _ h => h
  try simp only [Act.put, List.setIfInBounds_toArray, List.set_cons_zero, List.set_cons_succ]
  refine wpAnyH_ready (rs := [11]) (by kernel_rfl) (by simp) ?_
  refine AllReadyH.cons (o := ?o11) ?hi11 ?step11 AllReadyH.nil
  case hi11 => (simp only [List.getElem?_toArray, List.getElem?_cons_succ, List.getElem?_cons_zero]; rfl)
  intro K hK
  go_simp
  refine hK.out _ _ (c5_set hHeld hne 8 _) (fun hHeld => ?_)
  clear hK K
  try simp only [Act.put, List.setIfInBounds_toArray, List.set_cons_zero, List.set_cons_succ]
  refine wpAnyH_done (by kernel_rfl) ?_ _
  have g0 := Joins.block_setCell HA0.out (i := 1) (.int .i64 what)
  have g1 := Joins.block_setCell g0 (i := 2) (.int .i64 x.k)
  have g2 := Joins.block_setCell g1 (i := 3) (.int .i64 x.j)
  have g3 := Joins.block_setCell g2 (i := 4) (.int .i64 x.v)
  have g4 := Joins.block_setCell g3 (i := 5) (.int .i64 x.t)
  have g5 := Joins.block_setCell g4 (i := 6) (.int .i64 x.c)
  have g6 := Joins.block_setCell g5 (i := 7) (.int .i64 q)
  have g7 := Joins.block_setCell g6 (i := 8) (.int .i64 l)
  simp only [List.setIfInBounds_toArray, List.set_cons_zero, List.set_cons_succ] at g7
  have HX6 : Aside (((((((((X.setCell ⟨w1.heap.size, 1, none⟩ (.int .i64 what)).setCell ⟨w1.heap.size, 2, none⟩ (.int .i64 x.k)).setCell ⟨w1.heap.size, 3, none⟩ (.int .i64 x.j)).setCell ⟨w1.heap.size, 4, none⟩ (.int .i64 x.v)).setCell ⟨w1.heap.size, 5, none⟩ (.int .i64 x.t)).setCell ⟨w1.heap.size, 6, none⟩ (.int .i64 x.c)).setCell ⟨w1.heap.size, 7, none⟩ (.int .i64 q)).setCell ⟨w1.heap.size, 8, none⟩ (.int .i64 l)).heap[w1.heap.size]? = some (boxC (⟨c.p, what, x, q, l, c.n, c.js, c.rs⟩ : Cl) (.slice s1 n1 o1) (.slice s2 n2 o2))) := g7
  have HD6 : Aside (Below w1.heap.size w1 ((((((((X.setCell ⟨w1.heap.size, 1, none⟩ (.int .i64 what)).setCell ⟨w1.heap.size, 2, none⟩ (.int .i64 x.k)).setCell ⟨w1.heap.size, 3, none⟩ (.int .i64 x.j)).setCell ⟨w1.heap.size, 4, none⟩ (.int .i64 x.v)).setCell ⟨w1.heap.size, 5, none⟩ (.int .i64 x.t)).setCell ⟨w1.heap.size, 6, none⟩ (.int .i64 x.c)).setCell ⟨w1.heap.size, 7, none⟩ (.int .i64 q)).setCell ⟨w1.heap.size, 8, none⟩ (.int .i64 l))) := ((((((((HD0.out).setCell (p := ⟨w1.heap.size, 1, none⟩) (Nat.le_refl _) _).setCell (p := ⟨w1.heap.size, 2, none⟩) (Nat.le_refl _) _).setCell (p := ⟨w1.heap.size, 3, none⟩) (Nat.le_refl _) _).setCell (p := ⟨w1.heap.size, 4, none⟩) (Nat.le_refl _) _).setCell (p := ⟨w1.heap.size, 5, none⟩) (Nat.le_refl _) _).setCell (p := ⟨w1.heap.size, 6, none⟩) (Nat.le_refl _) _).setCell (p := ⟨w1.heap.size, 7, none⟩) (Nat.le_refl _) _).setCell (p := ⟨w1.heap.size, 8, none⟩) (Nat.le_refl _) _
  clear g0 g1 g2 g3 g4 g5 g6 g7 HA0 HD0 z fz hHeld
  generalize ((((((((X.setCell ⟨w1.heap.size, 1, none⟩ (.int .i64 what)).setCell ⟨w1.heap.size, 2, none⟩ (.int .i64 x.k)).setCell ⟨w1.heap.size, 3, none⟩ (.int .i64 x.j)).setCell ⟨w1.heap.size, 4, none⟩ (.int .i64 x.v)).setCell ⟨w1.heap.size, 5, none⟩ (.int .i64 x.t)).setCell ⟨w1.heap.size, 6, none⟩ (.int .i64 x.c)).setCell ⟨w1.heap.size, 7, none⟩ (.int .i64 q)).setCell ⟨w1.heap.size, 8, none⟩ (.int .i64 l)) = w6 at *
  have HR6 : Aside _ := heap_below HR1.out HD6.out (heap_lt HR1.out)
  have HB6 : Aside (Below w.heap.size w w6) := step_below HB1.out HD6.out
  have HT6 : Aside _ := bkT_later HT1.out HD6.out
  have z : ∀ i, w6.cell? ⟨w1.heap.size, i, none⟩ = #[Value.int .i64 c.p, .int .i64 what, .int .i64 x.k, .int .i64 x.j, .int .i64 x.v, .int .i64 x.t, .int .i64 x.c, .int .i64 q, .int .i64 l, .int .i64 c.n, (.slice s1 n1 o1), (.slice s2 n2 o2)][i]? := fun i => Joins.cell_of_block HX6.out i
  have zr : ∀ i, w6.cell? ⟨w.heap.size + 1 + 1, i, none⟩ = #[Value.int .i64 0, .int .i64 0, .int .i64 0, .int .i64 0, .int .i64 0, .int .i64 0, .int .i64 0, .int .i64 0, .int .i64 0, .int .i64 0, .slice none 0 0, .slice none 0 0][i]? := fun i => Joins.cell_of_block HR6.out i
  have fzr : ∀ i, w6.frozen? ⟨w.heap.size + 1 + 1, i, none⟩ = false := fun i => Joins.unfrozen_of_block HR6.out i
  clear HR1 HB1 HT1 HE1 HD6
  go_wp2
  refine ret1_st (p := 10) w6 (w.heap.size + 1 + 1) (⟨c.p, what, x, q, l, c.n, c.js, c.rs⟩ : Cl) (.slice s1 n1 o1) (.slice s2 n2 o2) (o := Cl.zero) (u1 := nil0) (u2 := nil0) Tryz.results171 rfl rfl HR6.out rfl ?_
  exact ⟨(.slice s1 n1 o1), (.slice s2 n2 o2), rfl, bkT_st12 ⟨_, HR6.out⟩ HT6.out _ _ _, st12_below HB6.out (by omega) _ _ _⟩
end Go.Proofs.YtmoaobfmopimlafGreatDoor
namespace Go.Proofs.YtmoaobfmopimlafGreatDoor
open Go.RowKit
theorem infoN : (Tryz.prog.info? 49).map (fun i => (i.zero, i.size, i.bytes)) = some (some (.agg #[.int .i64 0, .slice none 0 0, .slice none 0 0, .slice none 0 0, .bool false]), 5, 88) := by kernel_rfl
theorem infoCl : (Tryz.prog.info? 41).map (fun i => (i.zero, i.size, i.bytes)) = some (some (Cl.zero.val nil0 nil0), 12, 128) := by kernel_rfl
theorem sizeN : (Tryz.prog.info? 49).map (·.size) = some 5 := by kernel_rfl
theorem sizeCl : (Tryz.prog.info? 41).map (·.size) = some 12 := by kernel_rfl
def Nb.sl (x : Nb) : Prop := (∃ a n c, x.vc = .slice a n c) ∧ (∃ a n c, x.vs = .slice a n c) ∧ ∃ a n c, x.vw = .slice a n c
def Cb.sl (x : Cb) : Prop := (∃ a n c, x.v1 = .slice a n c) ∧ ∃ a n c, x.v2 = .slice a n c
theorem NodeT.sl {w : World} {x : Nb} (h : NodeT w x) : x.sl := ⟨roomy_sl h.unit.room, roomy_sl h.disk.room1, roomy_sl h.disk.room2⟩
theorem clientT_sl {w : World} {x : Cb} (h : ClientT w x) : x.sl := ⟨slOf_sl h.1, slOf_sl h.2⟩
theorem oneN (es : List Nb) (h : ∀ x, x ∈ es → x.sl) : ∀ u ∈ es.flatMap Nb.cells, u.oneCell' = true := fun u hu => by
  obtain ⟨e, hm, he⟩ := List.mem_flatMap.1 hu
  obtain ⟨⟨_, _, _, e1⟩, ⟨_, _, _, e2⟩, ⟨_, _, _, e3⟩⟩ := h e hm
  simp only [Nb.cells, e1, e2, e3, List.mem_cons, List.not_mem_nil, or_false] at he
  rcases he with rfl | rfl | rfl | rfl | rfl <;> rfl
theorem oneCl (es : List Cb) (h : ∀ x, x ∈ es → x.sl) : ∀ u ∈ es.flatMap Cb.cells, u.oneCell' = true := fun u hu => by
  obtain ⟨e, hm, he⟩ := List.mem_flatMap.1 hu
  obtain ⟨⟨_, _, _, e1⟩, ⟨_, _, _, e2⟩⟩ := h e hm
  simp only [Cb.cells, e1, e2, List.mem_cons, List.not_mem_nil, or_false] at he
  rcases he with rfl | rfl | rfl | rfl | rfl | rfl | rfl | rfl | rfl | rfl | rfl | rfl <;> rfl
set_option maxHeartbeats 1000000 in
theorem wcopyJ (v : Value) (xs : List Jb) (w : World) (hv : SlOf Jb.cells 3 w v xs) (hn : xs.length ≤ 1000000) :
    Calls Tryz.prog 69 #[v] w fun e w' => ∃ g, e = .returned (.slice (some ⟨g, 0, none⟩) xs.length xs.length) ∧ w.heap.size ≤ g ∧ w'.heap[g]? = some (.cells (xs.flatMap Jb.cells).toArray 120) ∧ Below w.heap.size w w' := by
  obtain ⟨i0, hi, hz0, hz1, hz2⟩ := info_parts infoJ
  have H1 : Hid (SlOf Jb.cells 3 w v xs) := hv
  obtain ⟨a1, c1, rfl, _⟩ := hv
  obtain ⟨cs, hcs⟩ : ∃ cs, Hid (xs.flatMap Jb.cells = cs) := ⟨_, rfl⟩
  have hone : ∀ u ∈ cs, u.oneCell' = true := by rw [← hcs.out]; exact oneJ xs
  have hlen : cs.length = xs.length * 3 := by rw [← hcs.out]; exact row_len Jb.three xs
  rw [hcs.out]
  obtain ⟨n1, hn1⟩ : ∃ n1, xs.length = n1 := ⟨_, rfl⟩
  have L1 : Hid (xs.length = n1) := hn1
  rw [hn1] at H1 hn hlen ⊢
  clear hn1
  go_enter Tryz.func69, Tryz.ntmps69
  go_wp2_with (at_make; refine wpList_make_full _ rfl _ _ 36 rfl w.heap.size 120 i0 (valJ 0 0 0) 3 Tryz.underlying36 hi hz0 hz1 _ _ _ _ n1 rfl rfl rfl rfl (by rw [hz2]; omega) (by unfold maxLen; omega) (Nat.le_refl _) ?_)
  intro w1 hown hgrow
  obtain ⟨hl0, ho⟩ := hown
  rcases ho with ⟨h, _⟩ | ⟨g, cap, cur, hv', _, hg, _, _, hsz, htake⟩
  · cases h
  injection hv' with ha _ hc
  injection ha with ha
  injection ha with ha _ _
  subst ha hc
  have hB1 : Below w.heap.size w w1 := ⟨hgrow.os, hgrow.tape, hgrow.output, hgrow.size, fun k hk => hgrow.block k hk (fun h => by cases h)⟩
  have hcur : cur.toList.length = n1 * 3 := by simpa using hsz
  have hg' : w1.heap[w.heap.size]? = some (.cells cur.toList.toArray 120 (0, 0)) := by simpa using hg
  clear hi hz0 hz1 hz2 hl0 htake hgrow hg hsz
  have hpos : 0 < Nat.min n1 n1 → (some ⟨w.heap.size, 0, none⟩ : Option Addr) = some ⟨w.heap.size, 0, none⟩ ∧ ∃ ad, a1 = some ad ∧ ∀ j v, cs[j]? = some v → w1.cell? (ad.add j) = some v := fun h0 => by
    have h0' : 0 < n1 := by
      have : 0 < min n1 n1 := h0
      omega
    obtain ⟨b, off, rfl, hE⟩ := H1.out.at h0'
    refine ⟨rfl, _, rfl, fun j u hj => ?_⟩
    rw [Lib.add_plain]
    rw [← hcs.out] at hj
    exact rows_flat Jb.three xs off (hE.later hB1) j u hj
  have hmin : cs.length = Nat.min n1 n1 * 3 := by rw [hlen]; show _ = min n1 n1 * 3; rw [Nat.min_self]
  have hfit : 0 + cs.length ≤ cur.toList.length := by rw [hcur, hlen]; omega
  have hall := splice_all (hcur.trans hlen.symm)
  obtain ⟨cl, hcl⟩ : ∃ cl, Hid (cur.toList = cl) := ⟨_, rfl⟩
  rw [hcl.out] at hg' hfit hall
  have HALL : Hid (splice cl 0 cs = cs) := hall
  clear hcur hcl hall
  go_wp2_with ((with_reducible show wpList _ _ _ (Oper.mk (some 9) _ _ _ _ _ :: _) _ _); refine wpList_copyK rfl _ _ 36 36 rfl 120 3 Tryz.underlying36 sizeJ (some ⟨w.heap.size, 0, none⟩) a1 n1 n1 n1 c1 rfl rfl w.heap.size 0 cl 120 hg' cs hmin hpos hfit hone w.heap.size w hB1 (Nat.le_refl _) ?_)
  intro w2 hg2 hB2
  go_wp2
  go_ret
  rw [HALL.out] at hg2
  exact ⟨_, rfl, Nat.le_refl _, hg2.out, hB2⟩
set_option maxHeartbeats 1000000 in
theorem wcopyR (v : Value) (xs : List Rg) (w : World) (hv : SlOf Rg.cells 3 w v xs) (hn : xs.length ≤ 1000000) :
    Calls Tryz.prog 70 #[v] w fun e w' => ∃ g, e = .returned (.slice (some ⟨g, 0, none⟩) xs.length xs.length) ∧ w.heap.size ≤ g ∧ w'.heap[g]? = some (.cells (xs.flatMap Rg.cells).toArray 76) ∧ Below w.heap.size w w' := by
  obtain ⟨i0, hi, hz0, hz1, hz2⟩ := info_parts infoR
  have H1 : Hid (SlOf Rg.cells 3 w v xs) := hv
  obtain ⟨a1, c1, rfl, _⟩ := hv
  obtain ⟨cs, hcs⟩ : ∃ cs, Hid (xs.flatMap Rg.cells = cs) := ⟨_, rfl⟩
  have hone : ∀ u ∈ cs, u.oneCell' = true := by rw [← hcs.out]; exact oneR xs
  have hlen : cs.length = xs.length * 3 := by rw [← hcs.out]; exact row_len Rg.three xs
  rw [hcs.out]
  obtain ⟨n1, hn1⟩ : ∃ n1, xs.length = n1 := ⟨_, rfl⟩
  have L1 : Hid (xs.length = n1) := hn1
  rw [hn1] at H1 hn hlen ⊢
  clear hn1
  go_enter Tryz.func70, Tryz.ntmps70
  go_wp2_with (at_make; refine wpList_make_full _ rfl _ _ 37 rfl w.heap.size 76 i0 (valR 0 0 0) 3 Tryz.underlying37 hi hz0 hz1 _ _ _ _ n1 rfl rfl rfl rfl (by rw [hz2]; omega) (by unfold maxLen; omega) (Nat.le_refl _) ?_)
  intro w1 hown hgrow
  obtain ⟨hl0, ho⟩ := hown
  rcases ho with ⟨h, _⟩ | ⟨g, cap, cur, hv', _, hg, _, _, hsz, htake⟩
  · cases h
  injection hv' with ha _ hc
  injection ha with ha
  injection ha with ha _ _
  subst ha hc
  have hB1 : Below w.heap.size w w1 := ⟨hgrow.os, hgrow.tape, hgrow.output, hgrow.size, fun k hk => hgrow.block k hk (fun h => by cases h)⟩
  have hcur : cur.toList.length = n1 * 3 := by simpa using hsz
  have hg' : w1.heap[w.heap.size]? = some (.cells cur.toList.toArray 76 (0, 0)) := by simpa using hg
  clear hi hz0 hz1 hz2 hl0 htake hgrow hg hsz
  have hpos : 0 < Nat.min n1 n1 → (some ⟨w.heap.size, 0, none⟩ : Option Addr) = some ⟨w.heap.size, 0, none⟩ ∧ ∃ ad, a1 = some ad ∧ ∀ j v, cs[j]? = some v → w1.cell? (ad.add j) = some v := fun h0 => by
    have h0' : 0 < n1 := by
      have : 0 < min n1 n1 := h0
      omega
    obtain ⟨b, off, rfl, hE⟩ := H1.out.at h0'
    refine ⟨rfl, _, rfl, fun j u hj => ?_⟩
    rw [Lib.add_plain]
    rw [← hcs.out] at hj
    exact rows_flat Rg.three xs off (hE.later hB1) j u hj
  have hmin : cs.length = Nat.min n1 n1 * 3 := by rw [hlen]; show _ = min n1 n1 * 3; rw [Nat.min_self]
  have hfit : 0 + cs.length ≤ cur.toList.length := by rw [hcur, hlen]; omega
  have hall := splice_all (hcur.trans hlen.symm)
  obtain ⟨cl, hcl⟩ : ∃ cl, Hid (cur.toList = cl) := ⟨_, rfl⟩
  rw [hcl.out] at hg' hfit hall
  have HALL : Hid (splice cl 0 cs = cs) := hall
  clear hcur hcl hall
  go_wp2_with ((with_reducible show wpList _ _ _ (Oper.mk (some 9) _ _ _ _ _ :: _) _ _); refine wpList_copyK rfl _ _ 37 37 rfl 76 3 Tryz.underlying37 sizeR (some ⟨w.heap.size, 0, none⟩) a1 n1 n1 n1 c1 rfl rfl w.heap.size 0 cl 76 hg' cs hmin hpos hfit hone w.heap.size w hB1 (Nat.le_refl _) ?_)
  intro w2 hg2 hB2
  go_wp2
  go_ret
  rw [HALL.out] at hg2
  exact ⟨_, rfl, Nat.le_refl _, hg2.out, hB2⟩
set_option maxHeartbeats 1000000 in
theorem wcopyE (v : Value) (xs : List En) (w : World) (hv : SlOf En.cells 5 w v xs) (hn : xs.length ≤ 1000000) :
    Calls Tryz.prog 67 #[v] w fun e w' => ∃ g, e = .returned (.slice (some ⟨g, 0, none⟩) xs.length xs.length) ∧ w.heap.size ≤ g ∧ w'.heap[g]? = some (.cells (xs.flatMap En.cells).toArray 27) ∧ Below w.heap.size w w' := by
  obtain ⟨i0, hi, hz0, hz1, hz2⟩ := info_parts infoE
  have H1 : Hid (SlOf En.cells 5 w v xs) := hv
  obtain ⟨a1, c1, rfl, _⟩ := hv
  obtain ⟨cs, hcs⟩ : ∃ cs, Hid (xs.flatMap En.cells = cs) := ⟨_, rfl⟩
  have hone : ∀ u ∈ cs, u.oneCell' = true := by rw [← hcs.out]; exact oneE xs
  have hlen : cs.length = xs.length * 5 := by rw [← hcs.out]; exact row_len En.five xs
  rw [hcs.out]
  obtain ⟨n1, hn1⟩ : ∃ n1, xs.length = n1 := ⟨_, rfl⟩
  have L1 : Hid (xs.length = n1) := hn1
  rw [hn1] at H1 hn hlen ⊢
  clear hn1
  go_enter Tryz.func67, Tryz.ntmps67
  go_wp2_with (at_make; refine wpList_make_full _ rfl _ _ 42 rfl w.heap.size 27 i0 (ev 0 0 0 0 0) 5 Tryz.underlying42 hi hz0 hz1 _ _ _ _ n1 rfl rfl rfl rfl (by rw [hz2]; omega) (by unfold maxLen; omega) (Nat.le_refl _) ?_)
  intro w1 hown hgrow
  obtain ⟨hl0, ho⟩ := hown
  rcases ho with ⟨h, _⟩ | ⟨g, cap, cur, hv', _, hg, _, _, hsz, htake⟩
  · cases h
  injection hv' with ha _ hc
  injection ha with ha
  injection ha with ha _ _
  subst ha hc
  have hB1 : Below w.heap.size w w1 := ⟨hgrow.os, hgrow.tape, hgrow.output, hgrow.size, fun k hk => hgrow.block k hk (fun h => by cases h)⟩
  have hcur : cur.toList.length = n1 * 5 := by simpa using hsz
  have hg' : w1.heap[w.heap.size]? = some (.cells cur.toList.toArray 27 (0, 0)) := by simpa using hg
  clear hi hz0 hz1 hz2 hl0 htake hgrow hg hsz
  have hpos : 0 < Nat.min n1 n1 → (some ⟨w.heap.size, 0, none⟩ : Option Addr) = some ⟨w.heap.size, 0, none⟩ ∧ ∃ ad, a1 = some ad ∧ ∀ j v, cs[j]? = some v → w1.cell? (ad.add j) = some v := fun h0 => by
    have h0' : 0 < n1 := by
      have : 0 < min n1 n1 := h0
      omega
    obtain ⟨b, off, rfl, hE⟩ := H1.out.at h0'
    refine ⟨rfl, _, rfl, fun j u hj => ?_⟩
    rw [Lib.add_plain]
    rw [← hcs.out] at hj
    exact rows_flat En.five xs off (hE.later hB1) j u hj
  have hmin : cs.length = Nat.min n1 n1 * 5 := by rw [hlen]; show _ = min n1 n1 * 5; rw [Nat.min_self]
  have hfit : 0 + cs.length ≤ cur.toList.length := by rw [hcur, hlen]; omega
  have hall := splice_all (hcur.trans hlen.symm)
  obtain ⟨cl, hcl⟩ : ∃ cl, Hid (cur.toList = cl) := ⟨_, rfl⟩
  rw [hcl.out] at hg' hfit hall
  have HALL : Hid (splice cl 0 cs = cs) := hall
  clear hcur hcl hall
  go_wp2_with ((with_reducible show wpList _ _ _ (Oper.mk (some 9) _ _ _ _ _ :: _) _ _); refine wpList_copyK rfl _ _ 42 42 rfl 27 5 Tryz.underlying42 sizeE (some ⟨w.heap.size, 0, none⟩) a1 n1 n1 n1 c1 rfl rfl w.heap.size 0 cl 27 hg' cs hmin hpos hfit hone w.heap.size w hB1 (Nat.le_refl _) ?_)
  intro w2 hg2 hB2
  go_wp2
  go_ret
  rw [HALL.out] at hg2
  exact ⟨_, rfl, Nat.le_refl _, hg2.out, hB2⟩
set_option maxHeartbeats 1000000 in
theorem wcopyY (v : Value) (xs : List UInt8) (w : World) (hv : SlOf bt 1 w v xs) (hn : xs.length ≤ 1000000) :
    Calls Tryz.prog 68 #[v] w fun e w' => ∃ g, e = .returned (.slice (some ⟨g, 0, none⟩) xs.length xs.length) ∧ w.heap.size ≤ g ∧ w'.heap[g]? = some (.cells (xs.flatMap bt).toArray 5) ∧ Below w.heap.size w w' := by
  obtain ⟨i0, hi, hz0, hz1, hz2⟩ := info_parts infoY
  have H1 : Hid (SlOf bt 1 w v xs) := hv
  obtain ⟨a1, c1, rfl, _⟩ := hv
  obtain ⟨cs, hcs⟩ : ∃ cs, Hid (xs.flatMap bt = cs) := ⟨_, rfl⟩
  have hone : ∀ u ∈ cs, u.oneCell' = true := by rw [← hcs.out]; exact oneY xs
  have hlen : cs.length = xs.length * 1 := by rw [← hcs.out]; exact row_len bt_one xs
  rw [hcs.out]
  obtain ⟨n1, hn1⟩ : ∃ n1, xs.length = n1 := ⟨_, rfl⟩
  have L1 : Hid (xs.length = n1) := hn1
  rw [hn1] at H1 hn hlen ⊢
  clear hn1
  go_enter Tryz.func68, Tryz.ntmps68
  go_wp2_with (at_make; refine wpList_make_full _ rfl _ _ 45 rfl w.heap.size 5 i0 (.int .u8 0) 1 Tryz.underlying45 hi hz0 hz1 _ _ _ _ n1 rfl rfl rfl rfl (by rw [hz2]; omega) (by unfold maxLen; omega) (Nat.le_refl _) ?_)
  intro w1 hown hgrow
  obtain ⟨hl0, ho⟩ := hown
  rcases ho with ⟨h, _⟩ | ⟨g, cap, cur, hv', _, hg, _, _, hsz, htake⟩
  · cases h
  injection hv' with ha _ hc
  injection ha with ha
  injection ha with ha _ _
  subst ha hc
  have hB1 : Below w.heap.size w w1 := ⟨hgrow.os, hgrow.tape, hgrow.output, hgrow.size, fun k hk => hgrow.block k hk (fun h => by cases h)⟩
  have hcur : cur.toList.length = n1 * 1 := by simpa using hsz
  have hg' : w1.heap[w.heap.size]? = some (.cells cur.toList.toArray 5 (0, 0)) := by simpa using hg
  clear hi hz0 hz1 hz2 hl0 htake hgrow hg hsz
  have hpos : 0 < Nat.min n1 n1 → (some ⟨w.heap.size, 0, none⟩ : Option Addr) = some ⟨w.heap.size, 0, none⟩ ∧ ∃ ad, a1 = some ad ∧ ∀ j v, cs[j]? = some v → w1.cell? (ad.add j) = some v := fun h0 => by
    have h0' : 0 < n1 := by
      have : 0 < min n1 n1 := h0
      omega
    obtain ⟨b, off, rfl, hE⟩ := H1.out.at h0'
    refine ⟨rfl, _, rfl, fun j u hj => ?_⟩
    rw [Lib.add_plain]
    rw [← hcs.out] at hj
    exact rows_flat bt_one xs off (hE.later hB1) j u hj
  have hmin : cs.length = Nat.min n1 n1 * 1 := by rw [hlen]; show _ = min n1 n1 * 1; rw [Nat.min_self]
  have hfit : 0 + cs.length ≤ cur.toList.length := by rw [hcur, hlen]; omega
  have hall := splice_all (hcur.trans hlen.symm)
  obtain ⟨cl, hcl⟩ : ∃ cl, Hid (cur.toList = cl) := ⟨_, rfl⟩
  rw [hcl.out] at hg' hfit hall
  have HALL : Hid (splice cl 0 cs = cs) := hall
  clear hcur hcl hall
  go_wp2_with ((with_reducible show wpList _ _ _ (Oper.mk (some 9) _ _ _ _ _ :: _) _ _); refine wpList_copyK rfl _ _ 45 45 rfl 5 1 Tryz.underlying45 sizeY (some ⟨w.heap.size, 0, none⟩) a1 n1 n1 n1 c1 rfl rfl w.heap.size 0 cl 5 hg' cs hmin hpos hfit hone w.heap.size w hB1 (Nat.le_refl _) ?_)
  intro w2 hg2 hB2
  go_wp2
  go_ret
  rw [HALL.out] at hg2
  exact ⟨_, rfl, Nat.le_refl _, hg2.out, hB2⟩
set_option maxHeartbeats 1000000 in
theorem wcopyN (v : Value) (xs : List Nb) (w : World) (hv : SlOf Nb.cells 5 w v xs) (hn : xs.length ≤ 1000000) (hs : ∀ x, x ∈ xs → x.sl) :
    Calls Tryz.prog 65 #[v] w fun e w' => ∃ g, e = .returned (.slice (some ⟨g, 0, none⟩) xs.length xs.length) ∧ w.heap.size ≤ g ∧ w'.heap[g]? = some (.cells (xs.flatMap Nb.cells).toArray 49) ∧ Below w.heap.size w w' := by
  obtain ⟨i0, hi, hz0, hz1, hz2⟩ := info_parts infoN
  have H1 : Hid (SlOf Nb.cells 5 w v xs) := hv
  obtain ⟨a1, c1, rfl, _⟩ := hv
  obtain ⟨cs, hcs⟩ : ∃ cs, Hid (xs.flatMap Nb.cells = cs) := ⟨_, rfl⟩
  have hone : ∀ u ∈ cs, u.oneCell' = true := by rw [← hcs.out]; exact oneN xs hs
  have hlen : cs.length = xs.length * 5 := by rw [← hcs.out]; exact row_len Nb.five xs
  rw [hcs.out]
  obtain ⟨n1, hn1⟩ : ∃ n1, xs.length = n1 := ⟨_, rfl⟩
  have L1 : Hid (xs.length = n1) := hn1
  rw [hn1] at H1 hn hlen ⊢
  clear hn1 hs
  go_enter Tryz.func65, Tryz.ntmps65
  go_wp2_with (at_make; refine wpList_make_full _ rfl _ _ 22 rfl w.heap.size 49 i0 (.agg #[.int .i64 0, .slice none 0 0, .slice none 0 0, .slice none 0 0, .bool false]) 5 Tryz.underlying22 hi hz0 hz1 _ _ _ _ n1 rfl rfl rfl rfl (by rw [hz2]; omega) (by unfold maxLen; omega) (Nat.le_refl _) ?_)
  intro w1 hown hgrow
  obtain ⟨hl0, ho⟩ := hown
  rcases ho with ⟨h, _⟩ | ⟨g, cap, cur, hv', _, hg, _, _, hsz, htake⟩
  · cases h
  injection hv' with ha _ hc
  injection ha with ha
  injection ha with ha _ _
  subst ha hc
  have hB1 : Below w.heap.size w w1 := ⟨hgrow.os, hgrow.tape, hgrow.output, hgrow.size, fun k hk => hgrow.block k hk (fun h => by cases h)⟩
  have hcur : cur.toList.length = n1 * 5 := by simpa using hsz
  have hg' : w1.heap[w.heap.size]? = some (.cells cur.toList.toArray 49 (0, 0)) := by simpa using hg
  clear hi hz0 hz1 hz2 hl0 htake hgrow hg hsz
  have hpos : 0 < Nat.min n1 n1 → (some ⟨w.heap.size, 0, none⟩ : Option Addr) = some ⟨w.heap.size, 0, none⟩ ∧ ∃ ad, a1 = some ad ∧ ∀ j v, cs[j]? = some v → w1.cell? (ad.add j) = some v := fun h0 => by
    have h0' : 0 < n1 := by
      have : 0 < min n1 n1 := h0
      omega
    obtain ⟨b, off, rfl, hE⟩ := H1.out.at h0'
    refine ⟨rfl, _, rfl, fun j u hj => ?_⟩
    rw [Lib.add_plain]
    rw [← hcs.out] at hj
    exact rows_flat Nb.five xs off (hE.later hB1) j u hj
  have hmin : cs.length = Nat.min n1 n1 * 5 := by rw [hlen]; show _ = min n1 n1 * 5; rw [Nat.min_self]
  have hfit : 0 + cs.length ≤ cur.toList.length := by rw [hcur, hlen]; omega
  have hall := splice_all (hcur.trans hlen.symm)
  obtain ⟨cl, hcl⟩ : ∃ cl, Hid (cur.toList = cl) := ⟨_, rfl⟩
  rw [hcl.out] at hg' hfit hall
  have HALL : Hid (splice cl 0 cs = cs) := hall
  clear hcur hcl hall
  go_wp2_with ((with_reducible show wpList _ _ _ (Oper.mk (some 9) _ _ _ _ _ :: _) _ _); refine wpList_copyK rfl _ _ 22 22 rfl 49 5 Tryz.underlying22 sizeN (some ⟨w.heap.size, 0, none⟩) a1 n1 n1 n1 c1 rfl rfl w.heap.size 0 cl 49 hg' cs hmin hpos hfit hone w.heap.size w hB1 (Nat.le_refl _) ?_)
  intro w2 hg2 hB2
  go_wp2
  go_ret
  rw [HALL.out] at hg2
  exact ⟨_, rfl, Nat.le_refl _, hg2.out, hB2⟩
set_option maxHeartbeats 1000000 in
theorem wcopyC (v : Value) (xs : List Cb) (w : World) (hv : SlOf Cb.cells 12 w v xs) (hn : xs.length ≤ 1000000) (hs : ∀ x, x ∈ xs → x.sl) :
    Calls Tryz.prog 66 #[v] w fun e w' => ∃ g, e = .returned (.slice (some ⟨g, 0, none⟩) xs.length xs.length) ∧ w.heap.size ≤ g ∧ w'.heap[g]? = some (.cells (xs.flatMap Cb.cells).toArray 41) ∧ Below w.heap.size w w' := by
  obtain ⟨i0, hi, hz0, hz1, hz2⟩ := info_parts infoCl
  have H1 : Hid (SlOf Cb.cells 12 w v xs) := hv
  obtain ⟨a1, c1, rfl, _⟩ := hv
  obtain ⟨cs, hcs⟩ : ∃ cs, Hid (xs.flatMap Cb.cells = cs) := ⟨_, rfl⟩
  have hone : ∀ u ∈ cs, u.oneCell' = true := by rw [← hcs.out]; exact oneCl xs hs
  have hlen : cs.length = xs.length * 12 := by rw [← hcs.out]; exact row_len Cb.twelve xs
  rw [hcs.out]
  obtain ⟨n1, hn1⟩ : ∃ n1, xs.length = n1 := ⟨_, rfl⟩
  have L1 : Hid (xs.length = n1) := hn1
  rw [hn1] at H1 hn hlen ⊢
  clear hn1 hs
  go_enter Tryz.func66, Tryz.ntmps66
  go_wp2_with (at_make; refine wpList_make_full _ rfl _ _ 23 rfl w.heap.size 41 i0 (Cl.zero.val nil0 nil0) 12 Tryz.underlying23 hi hz0 hz1 _ _ _ _ n1 rfl rfl rfl rfl (by rw [hz2]; omega) (by unfold maxLen; omega) (Nat.le_refl _) ?_)
  intro w1 hown hgrow
  obtain ⟨hl0, ho⟩ := hown
  rcases ho with ⟨h, _⟩ | ⟨g, cap, cur, hv', _, hg, _, _, hsz, htake⟩
  · cases h
  injection hv' with ha _ hc
  injection ha with ha
  injection ha with ha _ _
  subst ha hc
  have hB1 : Below w.heap.size w w1 := ⟨hgrow.os, hgrow.tape, hgrow.output, hgrow.size, fun k hk => hgrow.block k hk (fun h => by cases h)⟩
  have hcur : cur.toList.length = n1 * 12 := by simpa using hsz
  have hg' : w1.heap[w.heap.size]? = some (.cells cur.toList.toArray 41 (0, 0)) := by simpa using hg
  clear hi hz0 hz1 hz2 hl0 htake hgrow hg hsz
  have hpos : 0 < Nat.min n1 n1 → (some ⟨w.heap.size, 0, none⟩ : Option Addr) = some ⟨w.heap.size, 0, none⟩ ∧ ∃ ad, a1 = some ad ∧ ∀ j v, cs[j]? = some v → w1.cell? (ad.add j) = some v := fun h0 => by
    have h0' : 0 < n1 := by
      have : 0 < min n1 n1 := h0
      omega
    obtain ⟨b, off, rfl, hE⟩ := H1.out.at h0'
    refine ⟨rfl, _, rfl, fun j u hj => ?_⟩
    rw [Lib.add_plain]
    rw [← hcs.out] at hj
    exact rows_flat Cb.twelve xs off (hE.later hB1) j u hj
  have hmin : cs.length = Nat.min n1 n1 * 12 := by rw [hlen]; show _ = min n1 n1 * 12; rw [Nat.min_self]
  have hfit : 0 + cs.length ≤ cur.toList.length := by rw [hcur, hlen]; omega
  have hall := splice_all (hcur.trans hlen.symm)
  obtain ⟨cl, hcl⟩ : ∃ cl, Hid (cur.toList = cl) := ⟨_, rfl⟩
  rw [hcl.out] at hg' hfit hall
  have HALL : Hid (splice cl 0 cs = cs) := hall
  clear hcur hcl hall
  go_wp2_with ((with_reducible show wpList _ _ _ (Oper.mk (some 9) _ _ _ _ _ :: _) _ _); refine wpList_copyK rfl _ _ 23 23 rfl 41 12 Tryz.underlying23 sizeCl (some ⟨w.heap.size, 0, none⟩) a1 n1 n1 n1 c1 rfl rfl w.heap.size 0 cl 41 hg' cs hmin hpos hfit hone w.heap.size w hB1 (Nat.le_refl _) ?_)
  intro w2 hg2 hB2
  go_wp2
  go_ret
  rw [HALL.out] at hg2
  exact ⟨_, rfl, Nat.le_refl _, hg2.out, hB2⟩
end Go.Proofs.YtmoaobfmopimlafGreatDoor
namespace Go.Proofs.YtmoaobfmopimlafGreatDoor
open Go.RowKit
set_option linter.unusedSimpArgs false in
set_option maxHeartbeats 4000000 in
set_option maxRecDepth 100000 in
theorem zw_ck (c : Cl) (a1 a2 : Option Addr) (m1 k1 m2 k2 : Nat) (x : En) (w : World) (hb : BkAt w (.slice a1 m1 k1) (.slice a2 m2 k2) c) (d : Int) (hck : restErr c = d) (hz : (d != 0) = true) :
    AnsX 172 #[c.val (.slice a1 m1 k1) (.slice a2 m2 k2), x.val] w (Cl.zero, d) nil0 nil0 := by
  have HB0 : Aside (Below w.heap.size w (((w.alloc (boxC c (.slice a1 m1 k1) (.slice a2 m2 k2))).alloc (boxE x.k x.j x.v x.t x.c)).alloc (boxC Cl.zero nil0 nil0))) := grew (grew (grew (Below.refl _ _) _) _) _
  have HX0 : Aside ((((w.alloc (boxC c (.slice a1 m1 k1) (.slice a2 m2 k2))).alloc (boxE x.k x.j x.v x.t x.c)).alloc (boxC Cl.zero nil0 nil0)).heap[w.heap.size]? = some (boxC c (.slice a1 m1 k1) (.slice a2 m2 k2))) := heap_old (heap_old (heap_new _ _) _) _
  have HE0 : Aside ((((w.alloc (boxC c (.slice a1 m1 k1) (.slice a2 m2 k2))).alloc (boxE x.k x.j x.v x.t x.c)).alloc (boxC Cl.zero nil0 nil0)).heap[w.heap.size + 1]? = some (boxE x.k x.j x.v x.t x.c)) := by
    have := heap_new (w.alloc (boxC c (.slice a1 m1 k1) (.slice a2 m2 k2))) (boxE x.k x.j x.v x.t x.c)
    rw [World.size_alloc] at this
    exact heap_old (this) _
  have HR0 : Aside ((((w.alloc (boxC c (.slice a1 m1 k1) (.slice a2 m2 k2))).alloc (boxE x.k x.j x.v x.t x.c)).alloc (boxC Cl.zero nil0 nil0)).heap[w.heap.size + 1 + 1]? = some (boxC Cl.zero nil0 nil0)) := by
    have := heap_new ((w.alloc (boxC c (.slice a1 m1 k1) (.slice a2 m2 k2))).alloc (boxE x.k x.j x.v x.t x.c)) (boxC Cl.zero nil0 nil0)
    rw [World.size_alloc, World.size_alloc] at this
    exact this
  have kc := cl_rest c (.slice a1 m1 k1) (.slice a2 m2 k2) _ (bkAt_later hb HB0.out)
  rw [hck] at kc
  have HK : Aside (BkAt w (.slice a1 m1 k1) (.slice a2 m2 k2) c) := hb
  clear hb hck
  go_enter Tryz.func172, Tryz.ntmps172
  go_wp2_with fail
  refine kc.mono ?_
  rintro r w1 ⟨rfl, hb1⟩
  have HX1 : Aside _ := heap_below HX0.out hb1 (heap_lt HX0.out)
  have HE1 : Aside _ := heap_below HE0.out hb1 (heap_lt HE0.out)
  have HR1 : Aside _ := heap_below HR0.out hb1 (heap_lt HR0.out)
  have HB1 : Aside (Below w.heap.size w w1) := step_below HB0.out hb1
  clear hb1 HB0 HX0 HE0 HR0
  clear kc
  have zr : ∀ i, w1.cell? ⟨w.heap.size + 1 + 1, i, none⟩ = #[Value.int .i64 0, .int .i64 0, .int .i64 0, .int .i64 0, .int .i64 0, .int .i64 0, .int .i64 0, .int .i64 0, .int .i64 0, .int .i64 0, .slice none 0 0, .slice none 0 0][i]? := fun i => Joins.cell_of_block HR1.out i
  have fzr : ∀ i, w1.frozen? ⟨w.heap.size + 1 + 1, i, none⟩ = false := fun i => Joins.unfrozen_of_block HR1.out i
  go_wp2
  refine ret_st (p := 4) (q := 5) w1 (w.heap.size + 1 + 1) (Cl.zero) nil0 nil0 (o := Cl.zero) (u1 := nil0) (u2 := nil0) Tryz.results172 rfl rfl rfl HR1.out rfl ?_
  exact ⟨rfl, st12_below HB1.out (by omega) _ _ _⟩
set_option linter.unusedSimpArgs false in
set_option maxHeartbeats 4000000 in
set_option maxRecDepth 100000 in
theorem zw_ent (c : Cl) (a1 a2 : Option Addr) (m1 k1 m2 k2 : Nat) (x : En) (w : World) (hb : BkAt w (.slice a1 m1 k1) (.slice a2 m2 k2) c) (hck : restErr c = 0) (q : Int) (hx : x.chk = q) (hz : (q != 0) = true) :
    AnsX 172 #[c.val (.slice a1 m1 k1) (.slice a2 m2 k2), x.val] w (Cl.zero, q) nil0 nil0 := by
  have HB0 : Aside (Below w.heap.size w (((w.alloc (boxC c (.slice a1 m1 k1) (.slice a2 m2 k2))).alloc (boxE x.k x.j x.v x.t x.c)).alloc (boxC Cl.zero nil0 nil0))) := grew (grew (grew (Below.refl _ _) _) _) _
  have HX0 : Aside ((((w.alloc (boxC c (.slice a1 m1 k1) (.slice a2 m2 k2))).alloc (boxE x.k x.j x.v x.t x.c)).alloc (boxC Cl.zero nil0 nil0)).heap[w.heap.size]? = some (boxC c (.slice a1 m1 k1) (.slice a2 m2 k2))) := heap_old (heap_old (heap_new _ _) _) _
  have HE0 : Aside ((((w.alloc (boxC c (.slice a1 m1 k1) (.slice a2 m2 k2))).alloc (boxE x.k x.j x.v x.t x.c)).alloc (boxC Cl.zero nil0 nil0)).heap[w.heap.size + 1]? = some (boxE x.k x.j x.v x.t x.c)) := by
    have := heap_new (w.alloc (boxC c (.slice a1 m1 k1) (.slice a2 m2 k2))) (boxE x.k x.j x.v x.t x.c)
    rw [World.size_alloc] at this
    exact heap_old (this) _
  have HR0 : Aside ((((w.alloc (boxC c (.slice a1 m1 k1) (.slice a2 m2 k2))).alloc (boxE x.k x.j x.v x.t x.c)).alloc (boxC Cl.zero nil0 nil0)).heap[w.heap.size + 1 + 1]? = some (boxC Cl.zero nil0 nil0)) := by
    have := heap_new ((w.alloc (boxC c (.slice a1 m1 k1) (.slice a2 m2 k2))).alloc (boxE x.k x.j x.v x.t x.c)) (boxC Cl.zero nil0 nil0)
    rw [World.size_alloc, World.size_alloc] at this
    exact this
  have kc := cl_rest c (.slice a1 m1 k1) (.slice a2 m2 k2) _ (bkAt_later hb HB0.out)
  rw [hck] at kc
  have HK : Aside (BkAt w (.slice a1 m1 k1) (.slice a2 m2 k2) c) := hb
  clear hb hck
  have hce : ∀ W, Calls Tryz.prog 115 #[ev x.k x.j x.v x.t x.c] W fun e w' => e = .returned (.int .i64 x.chk) ∧ Below W.heap.size W w' := fun W => check_any x.k x.j x.v x.t x.c W
  rw [hx] at hce
  clear hx
  go_enter Tryz.func172, Tryz.ntmps172
  go_wp2_with fail
  refine kc.mono ?_
  rintro r w1 ⟨rfl, hb1⟩
  have HX1 : Aside _ := heap_below HX0.out hb1 (heap_lt HX0.out)
  have HE1 : Aside _ := heap_below HE0.out hb1 (heap_lt HE0.out)
  have HR1 : Aside _ := heap_below HR0.out hb1 (heap_lt HR0.out)
  have HB1 : Aside (Below w.heap.size w w1) := step_below HB0.out hb1
  clear hb1 HB0 HX0 HE0 HR0
  clear kc
  have ze : ∀ i, w1.cell? ⟨w.heap.size + 1, i, none⟩ = #[Value.int .i64 x.k, .int .i64 x.j, .int .i64 x.v, .int .i64 x.t, .int .i64 x.c][i]? := fun i => Joins.cell_of_block HE1.out i
  go_wp2_with fail
  refine (hce _).mono ?_
  rintro r w2 ⟨rfl, hb2⟩
  have HX2 : Aside _ := heap_below HX1.out hb2 (heap_lt HX1.out)
  have HE2 : Aside _ := heap_below HE1.out hb2 (heap_lt HE1.out)
  have HR2 : Aside _ := heap_below HR1.out hb2 (heap_lt HR1.out)
  have HB2 : Aside (Below w.heap.size w w2) := step_below HB1.out hb2
  clear hb2 HB1 HX1 HE1 HR1
  clear ze hce
  have zr : ∀ i, w2.cell? ⟨w.heap.size + 1 + 1, i, none⟩ = #[Value.int .i64 0, .int .i64 0, .int .i64 0, .int .i64 0, .int .i64 0, .int .i64 0, .int .i64 0, .int .i64 0, .int .i64 0, .int .i64 0, .slice none 0 0, .slice none 0 0][i]? := fun i => Joins.cell_of_block HR2.out i
  have fzr : ∀ i, w2.frozen? ⟨w.heap.size + 1 + 1, i, none⟩ = false := fun i => Joins.unfrozen_of_block HR2.out i
  go_wp2
  refine ret_st (p := 4) (q := 5) w2 (w.heap.size + 1 + 1) (Cl.zero) nil0 nil0 (o := Cl.zero) (u1 := nil0) (u2 := nil0) Tryz.results172 rfl rfl rfl HR2.out rfl ?_
  exact ⟨rfl, st12_below HB2.out (by omega) _ _ _⟩
set_option linter.unusedSimpArgs false in
set_option maxHeartbeats 4000000 in
set_option maxRecDepth 100000 in
theorem zw_junk (c : Cl) (a1 a2 : Option Addr) (m1 k1 m2 k2 : Nat) (x : En) (w : World) (hb : BkAt w (.slice a1 m1 k1) (.slice a2 m2 k2) c) (hck : restErr c = 0) (hx : x.chk = 0) (hk : (x.k == 0) = true) :
    AnsX 172 #[c.val (.slice a1 m1 k1) (.slice a2 m2 k2), x.val] w (Cl.zero, 4) nil0 nil0 := by
  have HB0 : Aside (Below w.heap.size w (((w.alloc (boxC c (.slice a1 m1 k1) (.slice a2 m2 k2))).alloc (boxE x.k x.j x.v x.t x.c)).alloc (boxC Cl.zero nil0 nil0))) := grew (grew (grew (Below.refl _ _) _) _) _
  have HX0 : Aside ((((w.alloc (boxC c (.slice a1 m1 k1) (.slice a2 m2 k2))).alloc (boxE x.k x.j x.v x.t x.c)).alloc (boxC Cl.zero nil0 nil0)).heap[w.heap.size]? = some (boxC c (.slice a1 m1 k1) (.slice a2 m2 k2))) := heap_old (heap_old (heap_new _ _) _) _
  have HE0 : Aside ((((w.alloc (boxC c (.slice a1 m1 k1) (.slice a2 m2 k2))).alloc (boxE x.k x.j x.v x.t x.c)).alloc (boxC Cl.zero nil0 nil0)).heap[w.heap.size + 1]? = some (boxE x.k x.j x.v x.t x.c)) := by
    have := heap_new (w.alloc (boxC c (.slice a1 m1 k1) (.slice a2 m2 k2))) (boxE x.k x.j x.v x.t x.c)
    rw [World.size_alloc] at this
    exact heap_old (this) _
  have HR0 : Aside ((((w.alloc (boxC c (.slice a1 m1 k1) (.slice a2 m2 k2))).alloc (boxE x.k x.j x.v x.t x.c)).alloc (boxC Cl.zero nil0 nil0)).heap[w.heap.size + 1 + 1]? = some (boxC Cl.zero nil0 nil0)) := by
    have := heap_new ((w.alloc (boxC c (.slice a1 m1 k1) (.slice a2 m2 k2))).alloc (boxE x.k x.j x.v x.t x.c)) (boxC Cl.zero nil0 nil0)
    rw [World.size_alloc, World.size_alloc] at this
    exact this
  have kc := cl_rest c (.slice a1 m1 k1) (.slice a2 m2 k2) _ (bkAt_later hb HB0.out)
  rw [hck] at kc
  have HK : Aside (BkAt w (.slice a1 m1 k1) (.slice a2 m2 k2) c) := hb
  clear hb hck
  have hce : ∀ W, Calls Tryz.prog 115 #[ev x.k x.j x.v x.t x.c] W fun e w' => e = .returned (.int .i64 x.chk) ∧ Below W.heap.size W w' := fun W => check_any x.k x.j x.v x.t x.c W
  rw [hx] at hce
  clear hx
  have kj := fun W => junk_any x W
  rw [hk] at kj
  go_enter Tryz.func172, Tryz.ntmps172
  go_wp2_with fail
  refine kc.mono ?_
  rintro r w1 ⟨rfl, hb1⟩
  have HX1 : Aside _ := heap_below HX0.out hb1 (heap_lt HX0.out)
  have HE1 : Aside _ := heap_below HE0.out hb1 (heap_lt HE0.out)
  have HR1 : Aside _ := heap_below HR0.out hb1 (heap_lt HR0.out)
  have HB1 : Aside (Below w.heap.size w w1) := step_below HB0.out hb1
  clear hb1 HB0 HX0 HE0 HR0
  clear kc
  have ze : ∀ i, w1.cell? ⟨w.heap.size + 1, i, none⟩ = #[Value.int .i64 x.k, .int .i64 x.j, .int .i64 x.v, .int .i64 x.t, .int .i64 x.c][i]? := fun i => Joins.cell_of_block HE1.out i
  go_wp2_with fail
  refine (hce _).mono ?_
  rintro r w2 ⟨rfl, hb2⟩
  have HX2 : Aside _ := heap_below HX1.out hb2 (heap_lt HX1.out)
  have HE2 : Aside _ := heap_below HE1.out hb2 (heap_lt HE1.out)
  have HR2 : Aside _ := heap_below HR1.out hb2 (heap_lt HR1.out)
  have HB2 : Aside (Below w.heap.size w w2) := step_below HB1.out hb2
  clear hb2 HB1 HX1 HE1 HR1
  clear ze hce
  have ze : ∀ i, w2.cell? ⟨w.heap.size + 1, i, none⟩ = #[Value.int .i64 x.k, .int .i64 x.j, .int .i64 x.v, .int .i64 x.t, .int .i64 x.c][i]? := fun i => Joins.cell_of_block HE2.out i
  go_wp2_with fail
  refine (kj _).mono ?_
  rintro r w3 ⟨rfl, hb3⟩
  have HX3 : Aside _ := heap_below HX2.out hb3 (heap_lt HX2.out)
  have HE3 : Aside _ := heap_below HE2.out hb3 (heap_lt HE2.out)
  have HR3 : Aside _ := heap_below HR2.out hb3 (heap_lt HR2.out)
  have HB3 : Aside (Below w.heap.size w w3) := step_below HB2.out hb3
  clear hb3 HB2 HX2 HE2 HR2
  clear ze kj
  have zr : ∀ i, w3.cell? ⟨w.heap.size + 1 + 1, i, none⟩ = #[Value.int .i64 0, .int .i64 0, .int .i64 0, .int .i64 0, .int .i64 0, .int .i64 0, .int .i64 0, .int .i64 0, .int .i64 0, .int .i64 0, .slice none 0 0, .slice none 0 0][i]? := fun i => Joins.cell_of_block HR3.out i
  have fzr : ∀ i, w3.frozen? ⟨w.heap.size + 1 + 1, i, none⟩ = false := fun i => Joins.unfrozen_of_block HR3.out i
  go_wp2
  refine ret_st (p := 4) (q := 5) w3 (w.heap.size + 1 + 1) (Cl.zero) nil0 nil0 (o := Cl.zero) (u1 := nil0) (u2 := nil0) Tryz.results172 rfl rfl rfl HR3.out rfl ?_
  exact ⟨rfl, st12_below HB3.out (by omega) _ _ _⟩
set_option linter.unusedSimpArgs false in
set_option maxHeartbeats 4000000 in
set_option maxRecDepth 100000 in
theorem zw_ok (c : Cl) (a1 a2 : Option Addr) (m1 k1 m2 k2 : Nat) (x : En) (w : World) (hb : BkAt w (.slice a1 m1 k1) (.slice a2 m2 k2) c) (hck : restErr c = 0) (hx : x.chk = 0) (hk : (x.k == 0) = false) (hn1 : c.js.length ≤ 1000000) (hn2 : c.rs.length ≤ 1000000) :
    AnsT 172 #[c.val (.slice a1 m1 k1) (.slice a2 m2 k2), x.val] w ((⟨c.p, 1, x, 0, 0, c.n, c.js, c.rs⟩ : Cl), 0) := by
  have HB0 : Aside (Below w.heap.size w (((w.alloc (boxC c (.slice a1 m1 k1) (.slice a2 m2 k2))).alloc (boxE x.k x.j x.v x.t x.c)).alloc (boxC Cl.zero nil0 nil0))) := grew (grew (grew (Below.refl _ _) _) _) _
  have HX0 : Aside ((((w.alloc (boxC c (.slice a1 m1 k1) (.slice a2 m2 k2))).alloc (boxE x.k x.j x.v x.t x.c)).alloc (boxC Cl.zero nil0 nil0)).heap[w.heap.size]? = some (boxC c (.slice a1 m1 k1) (.slice a2 m2 k2))) := heap_old (heap_old (heap_new _ _) _) _
  have HE0 : Aside ((((w.alloc (boxC c (.slice a1 m1 k1) (.slice a2 m2 k2))).alloc (boxE x.k x.j x.v x.t x.c)).alloc (boxC Cl.zero nil0 nil0)).heap[w.heap.size + 1]? = some (boxE x.k x.j x.v x.t x.c)) := by
    have := heap_new (w.alloc (boxC c (.slice a1 m1 k1) (.slice a2 m2 k2))) (boxE x.k x.j x.v x.t x.c)
    rw [World.size_alloc] at this
    exact heap_old (this) _
  have HR0 : Aside ((((w.alloc (boxC c (.slice a1 m1 k1) (.slice a2 m2 k2))).alloc (boxE x.k x.j x.v x.t x.c)).alloc (boxC Cl.zero nil0 nil0)).heap[w.heap.size + 1 + 1]? = some (boxC Cl.zero nil0 nil0)) := by
    have := heap_new ((w.alloc (boxC c (.slice a1 m1 k1) (.slice a2 m2 k2))).alloc (boxE x.k x.j x.v x.t x.c)) (boxC Cl.zero nil0 nil0)
    rw [World.size_alloc, World.size_alloc] at this
    exact this
  have kc := cl_rest c (.slice a1 m1 k1) (.slice a2 m2 k2) _ (bkAt_later hb HB0.out)
  have kd : ∀ W, Below w.heap.size w W → Calls Tryz.prog 171 #[c.val (.slice a1 m1 k1) (.slice a2 m2 k2), .int .i64 1, x.val, .int .i64 0, .int .i64 0] W fun e w' => ∃ u1 u2, e = .returned ((⟨c.p, 1, x, 0, 0, c.n, c.js, c.rs⟩ : Cl).val u1 u2) ∧ BkT w' u1 u2 c ∧ Below W.heap.size W w' := fun W hB => cl_doing c x 1 0 0 a1 a2 m1 k1 m2 k2 W (bkAt_later hb hB) hn1 hn2
  clear hn1 hn2
  rw [hck] at kc
  have HK : Aside (BkAt w (.slice a1 m1 k1) (.slice a2 m2 k2) c) := hb
  clear hb hck
  have hce : ∀ W, Calls Tryz.prog 115 #[ev x.k x.j x.v x.t x.c] W fun e w' => e = .returned (.int .i64 x.chk) ∧ Below W.heap.size W w' := fun W => check_any x.k x.j x.v x.t x.c W
  rw [hx] at hce
  clear hx
  have kj := fun W => junk_any x W
  rw [hk] at kj
  go_enter Tryz.func172, Tryz.ntmps172
  go_wp2_with fail
  refine kc.mono ?_
  rintro r w1 ⟨rfl, hb1⟩
  have HX1 : Aside _ := heap_below HX0.out hb1 (heap_lt HX0.out)
  have HE1 : Aside _ := heap_below HE0.out hb1 (heap_lt HE0.out)
  have HR1 : Aside _ := heap_below HR0.out hb1 (heap_lt HR0.out)
  have HB1 : Aside (Below w.heap.size w w1) := step_below HB0.out hb1
  clear hb1 HB0 HX0 HE0 HR0
  clear kc
  have ze : ∀ i, w1.cell? ⟨w.heap.size + 1, i, none⟩ = #[Value.int .i64 x.k, .int .i64 x.j, .int .i64 x.v, .int .i64 x.t, .int .i64 x.c][i]? := fun i => Joins.cell_of_block HE1.out i
  go_wp2_with fail
  refine (hce _).mono ?_
  rintro r w2 ⟨rfl, hb2⟩
  have HX2 : Aside _ := heap_below HX1.out hb2 (heap_lt HX1.out)
  have HE2 : Aside _ := heap_below HE1.out hb2 (heap_lt HE1.out)
  have HR2 : Aside _ := heap_below HR1.out hb2 (heap_lt HR1.out)
  have HB2 : Aside (Below w.heap.size w w2) := step_below HB1.out hb2
  clear hb2 HB1 HX1 HE1 HR1
  clear ze hce
  have ze : ∀ i, w2.cell? ⟨w.heap.size + 1, i, none⟩ = #[Value.int .i64 x.k, .int .i64 x.j, .int .i64 x.v, .int .i64 x.t, .int .i64 x.c][i]? := fun i => Joins.cell_of_block HE2.out i
  go_wp2_with fail
  refine (kj _).mono ?_
  rintro r w3 ⟨rfl, hb3⟩
  have HX3 : Aside _ := heap_below HX2.out hb3 (heap_lt HX2.out)
  have HE3 : Aside _ := heap_below HE2.out hb3 (heap_lt HE2.out)
  have HR3 : Aside _ := heap_below HR2.out hb3 (heap_lt HR2.out)
  have HB3 : Aside (Below w.heap.size w w3) := step_below HB2.out hb3
  clear hb3 HB2 HX2 HE2 HR2
  clear ze kj
  have z : ∀ i, w3.cell? ⟨w.heap.size, i, none⟩ = #[Value.int .i64 c.p, .int .i64 c.d, .int .i64 c.e.k, .int .i64 c.e.j, .int .i64 c.e.v, .int .i64 c.e.t, .int .i64 c.e.c, .int .i64 c.a, .int .i64 c.l, .int .i64 c.n, .slice a1 m1 k1, .slice a2 m2 k2][i]? := fun i => Joins.cell_of_block HX3.out i
  have ze : ∀ i, w3.cell? ⟨w.heap.size + 1, i, none⟩ = #[Value.int .i64 x.k, .int .i64 x.j, .int .i64 x.v, .int .i64 x.t, .int .i64 x.c][i]? := fun i => Joins.cell_of_block HE3.out i
  go_wp2_with fail
  refine (kd w3 HB3.out).mono ?_
  rintro r w4 ⟨u1, u2, rfl, hT4, hb4⟩
  have HR4 : Aside _ := heap_below HR3.out hb4 (heap_lt HR3.out)
  have HB4 : Aside (Below w.heap.size w w4) := step_below HB3.out hb4
  have HT4 : Aside (BkT w4 u1 u2 c) := hT4
  obtain ⟨s1, o1, s2, o2, rfl, rfl⟩ := bk_slices hT4.1.1 hT4.1.2
  clear hb4 kd HB3 HR3 hT4
  obtain ⟨n1, hn1⟩ : ∃ n, Hid (c.js.length = n) := ⟨_, rfl⟩
  obtain ⟨n2, hn2⟩ : ∃ n, Hid (c.rs.length = n) := ⟨_, rfl⟩
  rw [hn1.out, hn2.out] at HT4 ⊢
  clear z ze
  have zr : ∀ i, w4.cell? ⟨w.heap.size + 1 + 1, i, none⟩ = #[Value.int .i64 0, .int .i64 0, .int .i64 0, .int .i64 0, .int .i64 0, .int .i64 0, .int .i64 0, .int .i64 0, .int .i64 0, .int .i64 0, .slice none 0 0, .slice none 0 0][i]? := fun i => Joins.cell_of_block HR4.out i
  have fzr : ∀ i, w4.frozen? ⟨w.heap.size + 1 + 1, i, none⟩ = false := fun i => Joins.unfrozen_of_block HR4.out i
  go_wp2
  refine ret_st (p := 4) (q := 5) w4 (w.heap.size + 1 + 1) ((⟨c.p, 1, x, 0, 0, c.n, c.js, c.rs⟩ : Cl)) (.slice s1 n1 o1) (.slice s2 n2 o2) (o := Cl.zero) (u1 := nil0) (u2 := nil0) Tryz.results172 rfl rfl rfl HR4.out rfl ?_
  exact ⟨(.slice s1 n1 o1), (.slice s2 n2 o2), rfl, bkT_st12 ⟨_, HR4.out⟩ (bkT_cong HT4.out rfl rfl) _ _ _, st12_below HB4.out (by omega) _ _ _⟩
set_option linter.unusedSimpArgs false in
set_option maxHeartbeats 4000000 in
set_option maxRecDepth 100000 in
theorem zp_ck (c : Cl) (a1 a2 : Option Addr) (m1 k1 m2 k2 : Nat) (q : Int) (w : World) (hb : BkAt w (.slice a1 m1 k1) (.slice a2 m2 k2) c) (d : Int) (hck : c.ck = d) (hz : (d != 0) = true) :
    AnsX 177 #[c.val (.slice a1 m1 k1) (.slice a2 m2 k2), .int .i64 q] w (Cl.zero, d) nil0 nil0 := by
  have HB0 : Aside (Below w.heap.size w ((w.alloc (boxC c (.slice a1 m1 k1) (.slice a2 m2 k2))).alloc (boxC Cl.zero nil0 nil0))) := grew (grew (Below.refl _ _) _) _
  have HX0 : Aside (((w.alloc (boxC c (.slice a1 m1 k1) (.slice a2 m2 k2))).alloc (boxC Cl.zero nil0 nil0)).heap[w.heap.size]? = some (boxC c (.slice a1 m1 k1) (.slice a2 m2 k2))) := heap_old (heap_new _ _) _
  have HR0 : Aside (((w.alloc (boxC c (.slice a1 m1 k1) (.slice a2 m2 k2))).alloc (boxC Cl.zero nil0 nil0)).heap[w.heap.size + 1]? = some (boxC Cl.zero nil0 nil0)) := by
    have := heap_new (w.alloc (boxC c (.slice a1 m1 k1) (.slice a2 m2 k2))) (boxC Cl.zero nil0 nil0)
    rw [World.size_alloc] at this
    exact this
  have kc := cl_check c (.slice a1 m1 k1) (.slice a2 m2 k2) _ (bkAt_later hb HB0.out)
  rw [hck] at kc
  have HK : Aside (BkAt w (.slice a1 m1 k1) (.slice a2 m2 k2) c) := hb
  clear hb hck
  go_enter Tryz.func177, Tryz.ntmps177
  go_wp2_with fail
  refine kc.mono ?_
  rintro r w1 ⟨rfl, hb1⟩
  have HX1 : Aside _ := heap_below HX0.out hb1 (heap_lt HX0.out)
  have HR1 : Aside _ := heap_below HR0.out hb1 (heap_lt HR0.out)
  have HB1 : Aside (Below w.heap.size w w1) := step_below HB0.out hb1
  clear hb1 HB0 HX0 HR0
  clear kc
  have zr : ∀ i, w1.cell? ⟨w.heap.size + 1, i, none⟩ = #[Value.int .i64 0, .int .i64 0, .int .i64 0, .int .i64 0, .int .i64 0, .int .i64 0, .int .i64 0, .int .i64 0, .int .i64 0, .int .i64 0, .slice none 0 0, .slice none 0 0][i]? := fun i => Joins.cell_of_block HR1.out i
  have fzr : ∀ i, w1.frozen? ⟨w.heap.size + 1, i, none⟩ = false := fun i => Joins.unfrozen_of_block HR1.out i
  go_wp2
  refine ret_st (p := 4) (q := 5) w1 (w.heap.size + 1) (Cl.zero) nil0 nil0 (o := Cl.zero) (u1 := nil0) (u2 := nil0) Tryz.results177 rfl rfl rfl HR1.out rfl ?_
  exact ⟨rfl, st12_below HB1.out (by omega) _ _ _⟩
set_option linter.unusedSimpArgs false in
set_option maxHeartbeats 4000000 in
set_option maxRecDepth 100000 in
theorem zp_late (c : Cl) (a1 a2 : Option Addr) (m1 k1 m2 k2 : Nat) (q : Int) (w : World) (hb : BkAt w (.slice a1 m1 k1) (.slice a2 m2 k2) c) (hck : c.ck = 0) (hd : (c.d != 1) = true) :
    AnsX 177 #[c.val (.slice a1 m1 k1) (.slice a2 m2 k2), .int .i64 q] w (Cl.zero, 7) nil0 nil0 := by
  have HB0 : Aside (Below w.heap.size w ((w.alloc (boxC c (.slice a1 m1 k1) (.slice a2 m2 k2))).alloc (boxC Cl.zero nil0 nil0))) := grew (grew (Below.refl _ _) _) _
  have HX0 : Aside (((w.alloc (boxC c (.slice a1 m1 k1) (.slice a2 m2 k2))).alloc (boxC Cl.zero nil0 nil0)).heap[w.heap.size]? = some (boxC c (.slice a1 m1 k1) (.slice a2 m2 k2))) := heap_old (heap_new _ _) _
  have HR0 : Aside (((w.alloc (boxC c (.slice a1 m1 k1) (.slice a2 m2 k2))).alloc (boxC Cl.zero nil0 nil0)).heap[w.heap.size + 1]? = some (boxC Cl.zero nil0 nil0)) := by
    have := heap_new (w.alloc (boxC c (.slice a1 m1 k1) (.slice a2 m2 k2))) (boxC Cl.zero nil0 nil0)
    rw [World.size_alloc] at this
    exact this
  have kc := cl_check c (.slice a1 m1 k1) (.slice a2 m2 k2) _ (bkAt_later hb HB0.out)
  rw [hck] at kc
  have HK : Aside (BkAt w (.slice a1 m1 k1) (.slice a2 m2 k2) c) := hb
  clear hb hck
  go_enter Tryz.func177, Tryz.ntmps177
  go_wp2_with fail
  refine kc.mono ?_
  rintro r w1 ⟨rfl, hb1⟩
  have HX1 : Aside _ := heap_below HX0.out hb1 (heap_lt HX0.out)
  have HR1 : Aside _ := heap_below HR0.out hb1 (heap_lt HR0.out)
  have HB1 : Aside (Below w.heap.size w w1) := step_below HB0.out hb1
  clear hb1 HB0 HX0 HR0
  clear kc
  have z : ∀ i, w1.cell? ⟨w.heap.size, i, none⟩ = #[Value.int .i64 c.p, .int .i64 c.d, .int .i64 c.e.k, .int .i64 c.e.j, .int .i64 c.e.v, .int .i64 c.e.t, .int .i64 c.e.c, .int .i64 c.a, .int .i64 c.l, .int .i64 c.n, .slice a1 m1 k1, .slice a2 m2 k2][i]? := fun i => Joins.cell_of_block HX1.out i
  have zr : ∀ i, w1.cell? ⟨w.heap.size + 1, i, none⟩ = #[Value.int .i64 0, .int .i64 0, .int .i64 0, .int .i64 0, .int .i64 0, .int .i64 0, .int .i64 0, .int .i64 0, .int .i64 0, .int .i64 0, .slice none 0 0, .slice none 0 0][i]? := fun i => Joins.cell_of_block HR1.out i
  have fzr : ∀ i, w1.frozen? ⟨w.heap.size + 1, i, none⟩ = false := fun i => Joins.unfrozen_of_block HR1.out i
  go_wp2
  refine ret_st (p := 4) (q := 5) w1 (w.heap.size + 1) (Cl.zero) nil0 nil0 (o := Cl.zero) (u1 := nil0) (u2 := nil0) Tryz.results177 rfl rfl rfl HR1.out rfl ?_
  exact ⟨rfl, st12_below HB1.out (by omega) _ _ _⟩
set_option linter.unusedSimpArgs false in
set_option maxHeartbeats 4000000 in
set_option maxRecDepth 100000 in
theorem zp_who (c : Cl) (a1 a2 : Option Addr) (m1 k1 m2 k2 : Nat) (q : Int) (w : World) (hb : BkAt w (.slice a1 m1 k1) (.slice a2 m2 k2) c) (hck : c.ck = 0) (hd : (c.d != 1) = false) (h0 : ¬ (0 ≤ q ∧ q ≤ 59)) :
    AnsX 177 #[c.val (.slice a1 m1 k1) (.slice a2 m2 k2), .int .i64 q] w (Cl.zero, 5) nil0 nil0 := by
  have HB0 : Aside (Below w.heap.size w ((w.alloc (boxC c (.slice a1 m1 k1) (.slice a2 m2 k2))).alloc (boxC Cl.zero nil0 nil0))) := grew (grew (Below.refl _ _) _) _
  have HX0 : Aside (((w.alloc (boxC c (.slice a1 m1 k1) (.slice a2 m2 k2))).alloc (boxC Cl.zero nil0 nil0)).heap[w.heap.size]? = some (boxC c (.slice a1 m1 k1) (.slice a2 m2 k2))) := heap_old (heap_new _ _) _
  have HR0 : Aside (((w.alloc (boxC c (.slice a1 m1 k1) (.slice a2 m2 k2))).alloc (boxC Cl.zero nil0 nil0)).heap[w.heap.size + 1]? = some (boxC Cl.zero nil0 nil0)) := by
    have := heap_new (w.alloc (boxC c (.slice a1 m1 k1) (.slice a2 m2 k2))) (boxC Cl.zero nil0 nil0)
    rw [World.size_alloc] at this
    exact this
  have kc := cl_check c (.slice a1 m1 k1) (.slice a2 m2 k2) _ (bkAt_later hb HB0.out)
  rw [hck] at kc
  have HK : Aside (BkAt w (.slice a1 m1 k1) (.slice a2 m2 k2) c) := hb
  clear hb hck
  have hin := fun W => cplace_any q W
  rw [decide_eq_false h0] at hin
  clear h0
  go_enter Tryz.func177, Tryz.ntmps177
  go_wp2_with fail
  refine kc.mono ?_
  rintro r w1 ⟨rfl, hb1⟩
  have HX1 : Aside _ := heap_below HX0.out hb1 (heap_lt HX0.out)
  have HR1 : Aside _ := heap_below HR0.out hb1 (heap_lt HR0.out)
  have HB1 : Aside (Below w.heap.size w w1) := step_below HB0.out hb1
  clear hb1 HB0 HX0 HR0
  clear kc
  have z : ∀ i, w1.cell? ⟨w.heap.size, i, none⟩ = #[Value.int .i64 c.p, .int .i64 c.d, .int .i64 c.e.k, .int .i64 c.e.j, .int .i64 c.e.v, .int .i64 c.e.t, .int .i64 c.e.c, .int .i64 c.a, .int .i64 c.l, .int .i64 c.n, .slice a1 m1 k1, .slice a2 m2 k2][i]? := fun i => Joins.cell_of_block HX1.out i
  go_wp2_with fail
  refine (hin _).mono ?_
  rintro r wx ⟨rfl, hwx⟩
  obtain rfl : w1 = wx := hwx.symm
  have zr : ∀ i, w1.cell? ⟨w.heap.size + 1, i, none⟩ = #[Value.int .i64 0, .int .i64 0, .int .i64 0, .int .i64 0, .int .i64 0, .int .i64 0, .int .i64 0, .int .i64 0, .int .i64 0, .int .i64 0, .slice none 0 0, .slice none 0 0][i]? := fun i => Joins.cell_of_block HR1.out i
  have fzr : ∀ i, w1.frozen? ⟨w.heap.size + 1, i, none⟩ = false := fun i => Joins.unfrozen_of_block HR1.out i
  go_wp2
  refine ret_st (p := 4) (q := 5) w1 (w.heap.size + 1) (Cl.zero) nil0 nil0 (o := Cl.zero) (u1 := nil0) (u2 := nil0) Tryz.results177 rfl rfl rfl HR1.out rfl ?_
  exact ⟨rfl, st12_below HB1.out (by omega) _ _ _⟩
set_option linter.unusedSimpArgs false in
set_option maxHeartbeats 4000000 in
set_option maxRecDepth 100000 in
theorem zp_ok (c : Cl) (a1 a2 : Option Addr) (m1 k1 m2 k2 : Nat) (q : Int) (w : World) (hb : BkAt w (.slice a1 m1 k1) (.slice a2 m2 k2) c) (hck : c.ck = 0) (hd : (c.d != 1) = false) (h0 : 0 ≤ q ∧ q ≤ 59) (hn1 : c.js.length ≤ 1000000) (hn2 : c.rs.length ≤ 1000000) :
    AnsT 177 #[c.val (.slice a1 m1 k1) (.slice a2 m2 k2), .int .i64 q] w ((⟨c.p, 2, c.e, q, 0, c.n, c.js, c.rs⟩ : Cl), 0) := by
  have HB0 : Aside (Below w.heap.size w ((w.alloc (boxC c (.slice a1 m1 k1) (.slice a2 m2 k2))).alloc (boxC Cl.zero nil0 nil0))) := grew (grew (Below.refl _ _) _) _
  have HX0 : Aside (((w.alloc (boxC c (.slice a1 m1 k1) (.slice a2 m2 k2))).alloc (boxC Cl.zero nil0 nil0)).heap[w.heap.size]? = some (boxC c (.slice a1 m1 k1) (.slice a2 m2 k2))) := heap_old (heap_new _ _) _
  have HR0 : Aside (((w.alloc (boxC c (.slice a1 m1 k1) (.slice a2 m2 k2))).alloc (boxC Cl.zero nil0 nil0)).heap[w.heap.size + 1]? = some (boxC Cl.zero nil0 nil0)) := by
    have := heap_new (w.alloc (boxC c (.slice a1 m1 k1) (.slice a2 m2 k2))) (boxC Cl.zero nil0 nil0)
    rw [World.size_alloc] at this
    exact this
  have kc := cl_check c (.slice a1 m1 k1) (.slice a2 m2 k2) _ (bkAt_later hb HB0.out)
  have kd : ∀ W, Below w.heap.size w W → Calls Tryz.prog 171 #[c.val (.slice a1 m1 k1) (.slice a2 m2 k2), .int .i64 2, c.e.val, .int .i64 q, .int .i64 0] W fun e w' => ∃ u1 u2, e = .returned ((⟨c.p, 2, c.e, q, 0, c.n, c.js, c.rs⟩ : Cl).val u1 u2) ∧ BkT w' u1 u2 c ∧ Below W.heap.size W w' := fun W hB => cl_doing c c.e 2 q 0 a1 a2 m1 k1 m2 k2 W (bkAt_later hb hB) hn1 hn2
  clear hn1 hn2
  rw [hck] at kc
  have HK : Aside (BkAt w (.slice a1 m1 k1) (.slice a2 m2 k2) c) := hb
  clear hb hck
  have hin := fun W => cplace_any q W
  rw [decide_eq_true h0] at hin
  clear h0
  go_enter Tryz.func177, Tryz.ntmps177
  go_wp2_with fail
  refine kc.mono ?_
  rintro r w1 ⟨rfl, hb1⟩
  have HX1 : Aside _ := heap_below HX0.out hb1 (heap_lt HX0.out)
  have HR1 : Aside _ := heap_below HR0.out hb1 (heap_lt HR0.out)
  have HB1 : Aside (Below w.heap.size w w1) := step_below HB0.out hb1
  clear hb1 HB0 HX0 HR0
  clear kc
  have z : ∀ i, w1.cell? ⟨w.heap.size, i, none⟩ = #[Value.int .i64 c.p, .int .i64 c.d, .int .i64 c.e.k, .int .i64 c.e.j, .int .i64 c.e.v, .int .i64 c.e.t, .int .i64 c.e.c, .int .i64 c.a, .int .i64 c.l, .int .i64 c.n, .slice a1 m1 k1, .slice a2 m2 k2][i]? := fun i => Joins.cell_of_block HX1.out i
  go_wp2_with fail
  refine (hin _).mono ?_
  rintro r wx ⟨rfl, hwx⟩
  obtain rfl : w1 = wx := hwx.symm
  go_wp2_with fail
  refine (kd w1 HB1.out).mono ?_
  rintro r w2 ⟨u1, u2, rfl, hT2, hb2⟩
  have HR2 : Aside _ := heap_below HR1.out hb2 (heap_lt HR1.out)
  have HB2 : Aside (Below w.heap.size w w2) := step_below HB1.out hb2
  have HT2 : Aside (BkT w2 u1 u2 c) := hT2
  obtain ⟨s1, o1, s2, o2, rfl, rfl⟩ := bk_slices hT2.1.1 hT2.1.2
  clear hb2 kd HB1 HR1 hT2
  obtain ⟨n1, hn1⟩ : ∃ n, Hid (c.js.length = n) := ⟨_, rfl⟩
  obtain ⟨n2, hn2⟩ : ∃ n, Hid (c.rs.length = n) := ⟨_, rfl⟩
  rw [hn1.out, hn2.out] at HT2 ⊢
  clear z
  have zr : ∀ i, w2.cell? ⟨w.heap.size + 1, i, none⟩ = #[Value.int .i64 0, .int .i64 0, .int .i64 0, .int .i64 0, .int .i64 0, .int .i64 0, .int .i64 0, .int .i64 0, .int .i64 0, .int .i64 0, .slice none 0 0, .slice none 0 0][i]? := fun i => Joins.cell_of_block HR2.out i
  have fzr : ∀ i, w2.frozen? ⟨w.heap.size + 1, i, none⟩ = false := fun i => Joins.unfrozen_of_block HR2.out i
  go_wp2
  refine ret_st (p := 4) (q := 5) w2 (w.heap.size + 1) ((⟨c.p, 2, c.e, q, 0, c.n, c.js, c.rs⟩ : Cl)) (.slice s1 n1 o1) (.slice s2 n2 o2) (o := Cl.zero) (u1 := nil0) (u2 := nil0) Tryz.results177 rfl rfl rfl HR2.out rfl ?_
  exact ⟨(.slice s1 n1 o1), (.slice s2 n2 o2), rfl, bkT_st12 ⟨_, HR2.out⟩ (bkT_cong HT2.out rfl rfl) _ _ _, st12_below HB2.out (by omega) _ _ _⟩
set_option linter.unusedSimpArgs false in
set_option maxHeartbeats 4000000 in
set_option maxRecDepth 100000 in
theorem zf_ck (c : Cl) (a1 a2 : Option Addr) (m1 k1 m2 k2 : Nat) (q : Int) (w : World) (hb : BkAt w (.slice a1 m1 k1) (.slice a2 m2 k2) c) (d : Int) (hck : restErr c = d) (hz : (d != 0) = true) :
    AnsX 140 #[c.val (.slice a1 m1 k1) (.slice a2 m2 k2), .int .i64 q] w (Cl.zero, d) nil0 nil0 := by
  have HB0 : Aside (Below w.heap.size w ((w.alloc (boxC c (.slice a1 m1 k1) (.slice a2 m2 k2))).alloc (boxC Cl.zero nil0 nil0))) := grew (grew (Below.refl _ _) _) _
  have HX0 : Aside (((w.alloc (boxC c (.slice a1 m1 k1) (.slice a2 m2 k2))).alloc (boxC Cl.zero nil0 nil0)).heap[w.heap.size]? = some (boxC c (.slice a1 m1 k1) (.slice a2 m2 k2))) := heap_old (heap_new _ _) _
  have HR0 : Aside (((w.alloc (boxC c (.slice a1 m1 k1) (.slice a2 m2 k2))).alloc (boxC Cl.zero nil0 nil0)).heap[w.heap.size + 1]? = some (boxC Cl.zero nil0 nil0)) := by
    have := heap_new (w.alloc (boxC c (.slice a1 m1 k1) (.slice a2 m2 k2))) (boxC Cl.zero nil0 nil0)
    rw [World.size_alloc] at this
    exact this
  have kc := cl_rest c (.slice a1 m1 k1) (.slice a2 m2 k2) _ (bkAt_later hb HB0.out)
  rw [hck] at kc
  have HK : Aside (BkAt w (.slice a1 m1 k1) (.slice a2 m2 k2) c) := hb
  clear hb hck
  go_enter Tryz.func140, Tryz.ntmps140
  go_wp2_with fail
  refine kc.mono ?_
  rintro r w1 ⟨rfl, hb1⟩
  have HX1 : Aside _ := heap_below HX0.out hb1 (heap_lt HX0.out)
  have HR1 : Aside _ := heap_below HR0.out hb1 (heap_lt HR0.out)
  have HB1 : Aside (Below w.heap.size w w1) := step_below HB0.out hb1
  clear hb1 HB0 HX0 HR0
  clear kc
  have zr : ∀ i, w1.cell? ⟨w.heap.size + 1, i, none⟩ = #[Value.int .i64 0, .int .i64 0, .int .i64 0, .int .i64 0, .int .i64 0, .int .i64 0, .int .i64 0, .int .i64 0, .int .i64 0, .int .i64 0, .slice none 0 0, .slice none 0 0][i]? := fun i => Joins.cell_of_block HR1.out i
  have fzr : ∀ i, w1.frozen? ⟨w.heap.size + 1, i, none⟩ = false := fun i => Joins.unfrozen_of_block HR1.out i
  go_wp2
  refine ret_st (p := 4) (q := 5) w1 (w.heap.size + 1) (Cl.zero) nil0 nil0 (o := Cl.zero) (u1 := nil0) (u2 := nil0) Tryz.results140 rfl rfl rfl HR1.out rfl ?_
  exact ⟨rfl, st12_below HB1.out (by omega) _ _ _⟩
set_option linter.unusedSimpArgs false in
set_option maxHeartbeats 4000000 in
set_option maxRecDepth 100000 in
theorem zf_who (c : Cl) (a1 a2 : Option Addr) (m1 k1 m2 k2 : Nat) (q : Int) (w : World) (hb : BkAt w (.slice a1 m1 k1) (.slice a2 m2 k2) c) (hck : restErr c = 0) (h0 : ¬ (0 ≤ q ∧ q ≤ 59)) :
    AnsX 140 #[c.val (.slice a1 m1 k1) (.slice a2 m2 k2), .int .i64 q] w (Cl.zero, 5) nil0 nil0 := by
  have HB0 : Aside (Below w.heap.size w ((w.alloc (boxC c (.slice a1 m1 k1) (.slice a2 m2 k2))).alloc (boxC Cl.zero nil0 nil0))) := grew (grew (Below.refl _ _) _) _
  have HX0 : Aside (((w.alloc (boxC c (.slice a1 m1 k1) (.slice a2 m2 k2))).alloc (boxC Cl.zero nil0 nil0)).heap[w.heap.size]? = some (boxC c (.slice a1 m1 k1) (.slice a2 m2 k2))) := heap_old (heap_new _ _) _
  have HR0 : Aside (((w.alloc (boxC c (.slice a1 m1 k1) (.slice a2 m2 k2))).alloc (boxC Cl.zero nil0 nil0)).heap[w.heap.size + 1]? = some (boxC Cl.zero nil0 nil0)) := by
    have := heap_new (w.alloc (boxC c (.slice a1 m1 k1) (.slice a2 m2 k2))) (boxC Cl.zero nil0 nil0)
    rw [World.size_alloc] at this
    exact this
  have kc := cl_rest c (.slice a1 m1 k1) (.slice a2 m2 k2) _ (bkAt_later hb HB0.out)
  rw [hck] at kc
  have HK : Aside (BkAt w (.slice a1 m1 k1) (.slice a2 m2 k2) c) := hb
  clear hb hck
  have hin := fun W => cplace_any q W
  rw [decide_eq_false h0] at hin
  clear h0
  go_enter Tryz.func140, Tryz.ntmps140
  go_wp2_with fail
  refine kc.mono ?_
  rintro r w1 ⟨rfl, hb1⟩
  have HX1 : Aside _ := heap_below HX0.out hb1 (heap_lt HX0.out)
  have HR1 : Aside _ := heap_below HR0.out hb1 (heap_lt HR0.out)
  have HB1 : Aside (Below w.heap.size w w1) := step_below HB0.out hb1
  clear hb1 HB0 HX0 HR0
  clear kc
  go_wp2_with fail
  refine (hin _).mono ?_
  rintro r wx ⟨rfl, hwx⟩
  obtain rfl : w1 = wx := hwx.symm
  have zr : ∀ i, w1.cell? ⟨w.heap.size + 1, i, none⟩ = #[Value.int .i64 0, .int .i64 0, .int .i64 0, .int .i64 0, .int .i64 0, .int .i64 0, .int .i64 0, .int .i64 0, .int .i64 0, .int .i64 0, .slice none 0 0, .slice none 0 0][i]? := fun i => Joins.cell_of_block HR1.out i
  have fzr : ∀ i, w1.frozen? ⟨w.heap.size + 1, i, none⟩ = false := fun i => Joins.unfrozen_of_block HR1.out i
  go_wp2
  refine ret_st (p := 4) (q := 5) w1 (w.heap.size + 1) (Cl.zero) nil0 nil0 (o := Cl.zero) (u1 := nil0) (u2 := nil0) Tryz.results140 rfl rfl rfl HR1.out rfl ?_
  exact ⟨rfl, st12_below HB1.out (by omega) _ _ _⟩
set_option linter.unusedSimpArgs false in
set_option maxHeartbeats 4000000 in
set_option maxRecDepth 100000 in
theorem zf_ok (c : Cl) (a1 a2 : Option Addr) (m1 k1 m2 k2 : Nat) (q : Int) (w : World) (hb : BkAt w (.slice a1 m1 k1) (.slice a2 m2 k2) c) (hck : restErr c = 0) (h0 : 0 ≤ q ∧ q ≤ 59) (hn1 : c.js.length ≤ 1000000) (hn2 : c.rs.length ≤ 1000000) :
    AnsT 140 #[c.val (.slice a1 m1 k1) (.slice a2 m2 k2), .int .i64 q] w ((⟨c.p, 2, En.zero, q, 0, c.n, c.js, c.rs⟩ : Cl), 0) := by
  have HB0 : Aside (Below w.heap.size w ((w.alloc (boxC c (.slice a1 m1 k1) (.slice a2 m2 k2))).alloc (boxC Cl.zero nil0 nil0))) := grew (grew (Below.refl _ _) _) _
  have HX0 : Aside (((w.alloc (boxC c (.slice a1 m1 k1) (.slice a2 m2 k2))).alloc (boxC Cl.zero nil0 nil0)).heap[w.heap.size]? = some (boxC c (.slice a1 m1 k1) (.slice a2 m2 k2))) := heap_old (heap_new _ _) _
  have HR0 : Aside (((w.alloc (boxC c (.slice a1 m1 k1) (.slice a2 m2 k2))).alloc (boxC Cl.zero nil0 nil0)).heap[w.heap.size + 1]? = some (boxC Cl.zero nil0 nil0)) := by
    have := heap_new (w.alloc (boxC c (.slice a1 m1 k1) (.slice a2 m2 k2))) (boxC Cl.zero nil0 nil0)
    rw [World.size_alloc] at this
    exact this
  have kc := cl_rest c (.slice a1 m1 k1) (.slice a2 m2 k2) _ (bkAt_later hb HB0.out)
  have kd : ∀ W, Below w.heap.size w W → Calls Tryz.prog 171 #[c.val (.slice a1 m1 k1) (.slice a2 m2 k2), .int .i64 2, En.zero.val, .int .i64 q, .int .i64 0] W fun e w' => ∃ u1 u2, e = .returned ((⟨c.p, 2, En.zero, q, 0, c.n, c.js, c.rs⟩ : Cl).val u1 u2) ∧ BkT w' u1 u2 c ∧ Below W.heap.size W w' := fun W hB => cl_doing c En.zero 2 q 0 a1 a2 m1 k1 m2 k2 W (bkAt_later hb hB) hn1 hn2
  clear hn1 hn2
  rw [hck] at kc
  have HK : Aside (BkAt w (.slice a1 m1 k1) (.slice a2 m2 k2) c) := hb
  clear hb hck
  have hin := fun W => cplace_any q W
  rw [decide_eq_true h0] at hin
  clear h0
  go_enter Tryz.func140, Tryz.ntmps140
  go_wp2_with fail
  refine kc.mono ?_
  rintro r w1 ⟨rfl, hb1⟩
  have HX1 : Aside _ := heap_below HX0.out hb1 (heap_lt HX0.out)
  have HR1 : Aside _ := heap_below HR0.out hb1 (heap_lt HR0.out)
  have HB1 : Aside (Below w.heap.size w w1) := step_below HB0.out hb1
  clear hb1 HB0 HX0 HR0
  clear kc
  have z : ∀ i, w1.cell? ⟨w.heap.size, i, none⟩ = #[Value.int .i64 c.p, .int .i64 c.d, .int .i64 c.e.k, .int .i64 c.e.j, .int .i64 c.e.v, .int .i64 c.e.t, .int .i64 c.e.c, .int .i64 c.a, .int .i64 c.l, .int .i64 c.n, .slice a1 m1 k1, .slice a2 m2 k2][i]? := fun i => Joins.cell_of_block HX1.out i
  go_wp2_with fail
  refine (hin _).mono ?_
  rintro r wx ⟨rfl, hwx⟩
  obtain rfl : w1 = wx := hwx.symm
  go_wp2_with fail
  refine (kd w1 HB1.out).mono ?_
  rintro r w2 ⟨u1, u2, rfl, hT2, hb2⟩
  have HR2 : Aside _ := heap_below HR1.out hb2 (heap_lt HR1.out)
  have HB2 : Aside (Below w.heap.size w w2) := step_below HB1.out hb2
  have HT2 : Aside (BkT w2 u1 u2 c) := hT2
  obtain ⟨s1, o1, s2, o2, rfl, rfl⟩ := bk_slices hT2.1.1 hT2.1.2
  clear hb2 kd HB1 HR1 hT2
  obtain ⟨n1, hn1⟩ : ∃ n, Hid (c.js.length = n) := ⟨_, rfl⟩
  obtain ⟨n2, hn2⟩ : ∃ n, Hid (c.rs.length = n) := ⟨_, rfl⟩
  rw [hn1.out, hn2.out] at HT2 ⊢
  clear z
  have zr : ∀ i, w2.cell? ⟨w.heap.size + 1, i, none⟩ = #[Value.int .i64 0, .int .i64 0, .int .i64 0, .int .i64 0, .int .i64 0, .int .i64 0, .int .i64 0, .int .i64 0, .int .i64 0, .int .i64 0, .slice none 0 0, .slice none 0 0][i]? := fun i => Joins.cell_of_block HR2.out i
  have fzr : ∀ i, w2.frozen? ⟨w.heap.size + 1, i, none⟩ = false := fun i => Joins.unfrozen_of_block HR2.out i
  go_wp2
  refine ret_st (p := 4) (q := 5) w2 (w.heap.size + 1) ((⟨c.p, 2, En.zero, q, 0, c.n, c.js, c.rs⟩ : Cl)) (.slice s1 n1 o1) (.slice s2 n2 o2) (o := Cl.zero) (u1 := nil0) (u2 := nil0) Tryz.results140 rfl rfl rfl HR2.out rfl ?_
  exact ⟨(.slice s1 n1 o1), (.slice s2 n2 o2), rfl, bkT_st12 ⟨_, HR2.out⟩ (bkT_cong HT2.out rfl rfl) _ _ _, st12_below HB2.out (by omega) _ _ _⟩
theorem few_of {c : Cl} (h : c.ck = 0) : c.js.length ≤ 1000000 ∧ c.rs.length ≤ 1000000 := by
  have hok := (Cl.ck_zero.1 h).2.2.2
  have h1 := hok.few
  have h2 := hok.room
  constructor <;> omega
/-- client.Want. -/
theorem cl_want (c : Cl) (x : En) (v1 v2 : Value) (w : World) (hb : BkAt w v1 v2 c) : AnsT 172 #[c.val v1 v2, x.val] w (wantOf c x) := by
  obtain ⟨a1, k1, a2, k2, rfl, rfl⟩ := bk_slices hb.1 hb.2
  unfold wantOf
  by_cases hc : c.ck = 0
  · rw [if_neg (by simpa using hc)]
    by_cases hd : c.d = 0
    · have hr : restErr c = 0 := by rw [restErr, if_neg (by simpa using hc), if_neg (by simpa using hd)]
      rw [if_neg (by simpa using hd)]
      by_cases hx : x.chk = 0
      · rw [if_neg (by simpa using hx)]
        by_cases hk : x.k = 0
        · rw [if_pos hk]
          exact ansT_zero <| zw_junk c a1 a2 _ k1 _ k2 x w hb hr hx (by rw [hk]; rfl)
        · rw [if_neg hk]
          have h := zw_ok c a1 a2 _ k1 _ k2 x w hb hr hx (by rw [beq_eq_false_iff_ne]; exact hk) (few_of hc).1 (few_of hc).2
          have e := rests hc hd
          rw [show c.a = 0 by rw [e], show c.l = 0 by rw [e]]
          exact h
      · rw [if_pos hx]
        exact ansT_zero <| zw_ent c a1 a2 _ k1 _ k2 x w hb hr _ rfl (by rw [bne_iff_ne]; exact hx)
    · rw [if_pos hd]
      exact ansT_zero <| zw_ck c a1 a2 _ k1 _ k2 x w hb 7 (by rw [restErr, if_neg (by simpa using hc), if_pos hd]) rfl
  · rw [if_pos hc]
    exact ansT_zero <| zw_ck c a1 a2 _ k1 _ k2 x w hb _ (by rw [restErr, if_pos hc]) (by rw [bne_iff_ne]; exact hc)
/-- A client that wants has no place. -/
theorem wants {c : Cl} (h : c.ck = 0) (hd : c.d = 1) : c.a = 0 ∧ c.l = 0 := by
  obtain ⟨ho, _, hf, _⟩ := Cl.ck_zero.1 h
  have hg := Cl.good ho
  rw [Cl.odd, if_neg (by omega), if_pos hd] at hf
  simp only [Bool.or_eq_false_iff, decide_eq_false_iff_not] at hf
  constructor <;> omega
/-- client.Place. -/
theorem cl_place (c : Cl) (q : Int) (v1 v2 : Value) (w : World) (hb : BkAt w v1 v2 c) : AnsT 177 #[c.val v1 v2, .int .i64 q] w (placeOf 1 c q) := by
  obtain ⟨a1, k1, a2, k2, rfl, rfl⟩ := bk_slices hb.1 hb.2
  unfold placeOf
  by_cases hc : c.ck = 0
  · rw [if_neg (by simpa using hc)]
    by_cases hd : c.d = 1
    · have hdb : (c.d != 1) = false := by rw [hd]; rfl
      rw [if_neg (by simpa using hd)]
      by_cases hq : 0 ≤ q ∧ q ≤ 59
      · rw [if_neg (by simpa using hq), (wants hc hd).2]
        exact zp_ok c a1 a2 _ k1 _ k2 q w hb hc hdb hq (few_of hc).1 (few_of hc).2
      · rw [if_pos hq]
        exact ansT_zero <| zp_who c a1 a2 _ k1 _ k2 q w hb hc hdb hq
    · rw [if_pos hd]
      exact ansT_zero <| zp_late c a1 a2 _ k1 _ k2 q w hb hc (by rw [bne_iff_ne]; exact hd)
  · rw [if_pos hc]
    exact ansT_zero <| zp_ck c a1 a2 _ k1 _ k2 q w hb _ rfl (by rw [bne_iff_ne]; exact hc)
/-- client.Fill. -/
theorem cl_fill (c : Cl) (q : Int) (v1 v2 : Value) (w : World) (hb : BkAt w v1 v2 c) : AnsT 140 #[c.val v1 v2, .int .i64 q] w (placeOf 0 c q) := by
  obtain ⟨a1, k1, a2, k2, rfl, rfl⟩ := bk_slices hb.1 hb.2
  unfold placeOf
  by_cases hc : c.ck = 0
  · rw [if_neg (by simpa using hc)]
    by_cases hd : c.d = 0
    · have hr : restErr c = 0 := by rw [restErr, if_neg (by simpa using hc), if_neg (by simpa using hd)]
      rw [if_neg (by simpa using hd)]
      by_cases hq : 0 ≤ q ∧ q ≤ 59
      · rw [if_neg (by simpa using hq)]
        have h := zf_ok c a1 a2 _ k1 _ k2 q w hb hr hq (few_of hc).1 (few_of hc).2
        have e := rests hc hd
        rw [show c.e = En.zero by rw [e], show c.l = 0 by rw [e]]
        exact h
      · rw [if_pos hq]
        exact ansT_zero <| zf_who c a1 a2 _ k1 _ k2 q w hb hr hq
    · rw [if_pos hd]
      exact ansT_zero <| zf_ck c a1 a2 _ k1 _ k2 q w hb 7 (by rw [restErr, if_neg (by simpa using hc), if_pos hd]) rfl
  · rw [if_pos hc]
    exact ansT_zero <| zf_ck c a1 a2 _ k1 _ k2 q w hb _ (by rw [restErr, if_pos hc]) (by rw [bne_iff_ne]; exact hc)
end Go.Proofs.YtmoaobfmopimlafGreatDoor
