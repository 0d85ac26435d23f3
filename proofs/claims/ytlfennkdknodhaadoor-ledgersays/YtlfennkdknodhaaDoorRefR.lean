/- The walk of the law LedgerBack. -/
import Derived.Test.YtlfennkdknodhaaDoorRefQ
namespace Go.Proofs.YtlfennkdknodhaaDoor
open Go.RowKit

theorem parse_print {es : List En} (h : (lprint es).2 = 0) : lparse (lprint es).1 = (es, 0) := by
  obtain ⟨h1, h2, h3⟩ := lprint_zero h
  have hl := rowsOf_len es h1
  rw [h3, lparse, if_neg (by omega), ledRead_rows h1 h2]

theorem parse_both {es fs : List En} (he : (lprint es).2 = 0) (hf : (lprint fs).2 = 0) (hl : es.length + fs.length ≤ 60) : lparse ((lprint es).1 ++ (lprint fs).1) = (es ++ fs, 0) := by
  obtain ⟨h1, h2, h3⟩ := lprint_zero he
  obtain ⟨k1, k2, k3⟩ := lprint_zero hf
  have hx := rowsOf_len es h1
  have hy := rowsOf_len fs k1
  rw [lparse, if_neg (by rw [h3, k3, List.length_append]; omega), ledRead_both he hf hl]

theorem print_parse {l : List UInt8} (h : (lparse l).2 = 0) : lprint (lparse l).1 = (l, 0) ∧ (lparse l).1.length ≤ big := by
  rw [lparse] at h ⊢
  split at h
  · cases h
  · rename_i hn
    rw [if_neg hn]
    obtain ⟨h1, h2, h3⟩ := ledRead_back h
    exact ⟨by rw [lprint_good h3 h2, h1], by unfold big; omega⟩

/-- What is asked of the walk's end. -/
def EndOK (l : List UInt8) (g : Int) (zs : List En) : Prop :=
  (∀ W, Laid W → Calls Tryd.prog 15 #[.string ⟨l.toArray⟩] W fun e w' => ∃ v, e = .returned (.tuple #[v, .int .i64 g]) ∧ EntSl w' v zs ∧ Below W.heap.size W w') ∧
  (g = 0 → ∀ v W, Laid W → EntSl W v zs → Calls Tryd.prog 14 #[v] W fun e w' => e = .returned (.tuple #[.string ⟨l.toArray⟩, .int .i64 0]) ∧ Below W.heap.size W w')

theorem end_ok (hP : Prints) (hR : Reads) (l : List UInt8) : EndOK l (lparse l).2 (lparse l).1 :=
  ⟨hR l, fun h v W hW hv => by
    obtain ⟨h1, h2⟩ := print_parse h
    have := hP v _ W hW hv h2
    rw [h1] at this
    exact this⟩

/-- slices.Equal, its answer a letter. -/
theorem equal_as {w W : World} (v1 v2 : Value) (es fs : List En) (bb : Bool) (h1 : EntSl W v1 es) (h2 : EntSl W v2 fs) (hn1 : es.length ≤ big) (hn2 : fs.length ≤ big) (hb : bb = true ↔ es = fs) (hB : Below w.heap.size w W) :
    Calls Tryd.prog 19 #[v1, v2] W fun r w' => r = .returned (.bool bb) ∧ Below w.heap.size w w' :=
  (equal_ents v1 v2 es fs W h1 h2 hn1 hn2).mono fun r w' ⟨b', hr, hi, q, hw⟩ => ⟨by
    rw [hr]
    have : b' = bb := by cases b' <;> cases bb <;> simp_all
    rw [this], by rw [hw]; exact below_drewN hB _⟩

set_option maxHeartbeats 2000000 in
set_option maxRecDepth 100000 in
theorem ledBackA (hP : Prints) (hR : Reads) (a1 a2 : Option Addr) (c1 c2 n1 n2 : Nat) (es fs : List En) (l : List UInt8) (g : Int) (zs : List En) (w : World) (hL : Laid w) (h1 : EntSl w (.slice a1 n1 c1) es) (h2 : EntSl w (.slice a2 n2 c2) fs) (l1 : es.length = n1) (l2 : fs.length = n2) (hn1 : n1 ≤ big) (hn2 : n2 ≤ big) (hE : EndOK l g zs) (he : ((lprint es).2 == 0) = false) :
    Calls Tryd.prog 6 #[.slice a1 n1 c1, .slice a2 n2 c2, .string ⟨l.toArray⟩] w fun e w' => e = .returned (.bool true) ∧ Below w.heap.size w w' := by
  have hp1 := fun W hW hv => hP (.slice a1 n1 c1) es W hW hv (by omega)
  have hp2 := fun W hW hv => hP (.slice a2 n2 c2) fs W hW hv (by omega)
  have H1 : Hid (EntSl w (.slice a1 n1 c1) es) := h1
  have H2 : Hid (EntSl w (.slice a2 n2 c2) fs) := h2
  have L1 : Hid (es.length = n1) := l1
  have L2 : Hid (fs.length = n2) := l2
  clear h1 h2 l1 l2
  generalize (lprint es).1 = t at *
  generalize (lprint fs).1 = u at *
  generalize (lprint es).2 = e1 at *
  generalize (lprint fs).2 = f1 at *
  go_enter Tryd.func6, Tryd.ntmps6
  go_wp2_with fail
  refine (hp1 _ hL H1.out).mono ?_
  rintro e w1 ⟨rfl, hB1⟩
  clear hp1
  go_wp2_with fail
  refine (hp2 _ (hL.later hB1) (H2.out.later hB1)).mono ?_
  rintro e w2 ⟨rfl, hb2⟩
  have hB2 : Below w.heap.size w w2 := hB1.trans (hb2.mono hB1.size)
  clear hp2 hb2 hB1
  go_wp2_with fail
  refine (listed_any hP hR _ (hL.later hB2)).mono ?_
  rintro e w3 ⟨rfl, hb3⟩
  have hB3 : Below w.heap.size w w3 := hB2.trans (hb3.mono hB2.size)
  clear hb3 hB2
  go_wp2_with fail
  refine (hE.1 _ (hL.later hB3)).mono ?_
  rintro e wa ⟨va, rfl, hEa, hba⟩
  have hBa : Below w.heap.size w wa := hB3.trans (hba.mono hB3.size)
  clear hba hB3
  by_cases hg : g = 0
  · have hpz := hE.2 hg va wa (hL.later hBa) hEa
    subst hg
    clear hE hEa
    go_wp2_with fail
    refine hpz.mono ?_
    rintro e wb ⟨rfl, hbb'⟩
    have hBb : Below w.heap.size w wb := hBa.trans (hbb'.mono hBa.size)
    clear hbb' hBa hpz
    go_wp2
    go_ret
    exact ⟨rfl, hBb⟩
  · have hg' : (g != 0) = true := by rw [bne_iff_ne]; exact hg
    clear hE hEa hg
    go_wp2
    go_ret
    exact ⟨rfl, hBa⟩

set_option maxHeartbeats 2000000 in
set_option maxRecDepth 100000 in
theorem ledBackB (hP : Prints) (hR : Reads) (a1 a2 : Option Addr) (c1 c2 n1 n2 : Nat) (es fs : List En) (l : List UInt8) (g : Int) (zs : List En) (w : World) (hL : Laid w) (h1 : EntSl w (.slice a1 n1 c1) es) (h2 : EntSl w (.slice a2 n2 c2) fs) (l1 : es.length = n1) (l2 : fs.length = n2) (hn1 : n1 ≤ big) (hn2 : n2 ≤ big) (hE : EndOK l g zs) (he : (lprint es).2 = 0) (hf : ((lprint fs).2 == 0) = false) :
    Calls Tryd.prog 6 #[.slice a1 n1 c1, .slice a2 n2 c2, .string ⟨l.toArray⟩] w fun e w' => e = .returned (.bool true) ∧ Below w.heap.size w w' := by
  have hp1 := fun W hW hv => hP (.slice a1 n1 c1) es W hW hv (by omega)
  have hp2 := fun W hW hv => hP (.slice a2 n2 c2) fs W hW hv (by omega)
  have hpt := hR (lprint es).1
  rw [parse_print he] at hpt
  rw [he] at hp1
  have H1 : Hid (EntSl w (.slice a1 n1 c1) es) := h1
  have H2 : Hid (EntSl w (.slice a2 n2 c2) fs) := h2
  have L1 : Hid (es.length = n1) := l1
  have L2 : Hid (fs.length = n2) := l2
  clear h1 h2 l1 l2 he
  generalize (lprint es).1 = t at *
  generalize (lprint fs).1 = u at *
  generalize (lprint fs).2 = f1 at *
  go_enter Tryd.func6, Tryd.ntmps6
  go_wp2_with fail
  refine (hp1 _ hL H1.out).mono ?_
  rintro e w1 ⟨rfl, hB1⟩
  clear hp1
  go_wp2_with fail
  refine (hp2 _ (hL.later hB1) (H2.out.later hB1)).mono ?_
  rintro e w2 ⟨rfl, hb2⟩
  have hB2 : Below w.heap.size w w2 := hB1.trans (hb2.mono hB1.size)
  clear hp2 hb2 hB1
  go_wp2_with fail
  refine (listed_any hP hR _ (hL.later hB2)).mono ?_
  rintro e w3 ⟨rfl, hb3⟩
  have hB3 : Below w.heap.size w w3 := hB2.trans (hb3.mono hB2.size)
  clear hb3 hB2
  go_wp2_with fail
  refine (hpt _ (hL.later hB3)).mono ?_
  rintro e w5 ⟨v5, rfl, hE5, hb5⟩
  have hB5 : Below w.heap.size w w5 := hB3.trans (hb5.mono hB3.size)
  clear hb5 hB3 hpt
  have hq5 := equal_as v5 (.slice a1 n1 c1) es es true hE5 (H1.out.later hB5) (by have := L1.out; omega) (by have := L1.out; omega) (by simp) hB5
  clear hE5
  go_wp2_with fail
  refine hq5.mono ?_
  rintro e w6 ⟨rfl, hB6⟩
  clear hB5 hq5
  go_wp2_with fail
  refine (hE.1 _ (hL.later hB6)).mono ?_
  rintro e wa ⟨va, rfl, hEa, hba⟩
  have hBa : Below w.heap.size w wa := hB6.trans (hba.mono hB6.size)
  clear hba hB6
  by_cases hg : g = 0
  · have hpz := hE.2 hg va wa (hL.later hBa) hEa
    subst hg
    clear hE hEa
    go_wp2_with fail
    refine hpz.mono ?_
    rintro e wb ⟨rfl, hbb'⟩
    have hBb : Below w.heap.size w wb := hBa.trans (hbb'.mono hBa.size)
    clear hbb' hBa hpz
    go_wp2
    go_ret
    exact ⟨rfl, hBb⟩
  · have hg' : (g != 0) = true := by rw [bne_iff_ne]; exact hg
    clear hE hEa hg
    go_wp2
    go_ret
    exact ⟨rfl, hBa⟩

set_option maxHeartbeats 2000000 in
set_option maxRecDepth 100000 in
theorem ledBackC (hP : Prints) (hR : Reads) (a1 a2 : Option Addr) (c1 c2 n1 n2 : Nat) (es fs : List En) (l : List UInt8) (g : Int) (zs : List En) (w : World) (hL : Laid w) (h1 : EntSl w (.slice a1 n1 c1) es) (h2 : EntSl w (.slice a2 n2 c2) fs) (l1 : es.length = n1) (l2 : fs.length = n2) (hn1 : n1 ≤ big) (hn2 : n2 ≤ big) (hE : EndOK l g zs) (he : (lprint es).2 = 0) (hf : (lprint fs).2 = 0) (hsum : 60 < (n1 : Int) + n2) :
    Calls Tryd.prog 6 #[.slice a1 n1 c1, .slice a2 n2 c2, .string ⟨l.toArray⟩] w fun e w' => e = .returned (.bool true) ∧ Below w.heap.size w w' := by
  have hp1 := fun W hW hv => hP (.slice a1 n1 c1) es W hW hv (by omega)
  have hp2 := fun W hW hv => hP (.slice a2 n2 c2) fs W hW hv (by omega)
  have hpt := hR (lprint es).1
  rw [parse_print he] at hpt
  rw [he] at hp1
  have hm1 : n1 ≤ 60 := by have := (lprint_zero he).2.1; omega
  have hm2 : n2 ≤ 60 := by have := (lprint_zero hf).2.1; omega
  obtain ⟨bb, hbb, htu⟩ : ∃ bb : Bool, (bb = true ↔ es = fs) ∧ ((lprint es).1 == (lprint fs).1) = bb := ⟨_, by rw [beq_iff_eq]; exact lprint_inj he hf, rfl⟩
  have hQ : ∀ W, Below w.heap.size w W → Calls Tryd.prog 19 #[.slice a1 n1 c1, .slice a2 n2 c2] W fun r w' => r = .returned (.bool bb) ∧ Below w.heap.size w w' := fun W hW => equal_as _ _ es fs bb (h1.later hW) (h2.later hW) (by omega) (by omega) hbb hW
  rw [hf] at hp2
  have H1 : Hid (EntSl w (.slice a1 n1 c1) es) := h1
  have H2 : Hid (EntSl w (.slice a2 n2 c2) fs) := h2
  have L1 : Hid (es.length = n1) := l1
  have L2 : Hid (fs.length = n2) := l2
  clear h1 h2 l1 l2 he hf hbb
  generalize (lprint es).1 = t at *
  generalize (lprint fs).1 = u at *
  go_enter Tryd.func6, Tryd.ntmps6
  go_wp2_with fail
  refine (hp1 _ hL H1.out).mono ?_
  rintro e w1 ⟨rfl, hB1⟩
  clear hp1
  go_wp2_with fail
  refine (hp2 _ (hL.later hB1) (H2.out.later hB1)).mono ?_
  rintro e w2 ⟨rfl, hb2⟩
  have hB2 : Below w.heap.size w w2 := hB1.trans (hb2.mono hB1.size)
  clear hp2 hb2 hB1
  go_wp2_with fail
  refine (listed_any hP hR _ (hL.later hB2)).mono ?_
  rintro e w3 ⟨rfl, hb3⟩
  have hB3 : Below w.heap.size w w3 := hB2.trans (hb3.mono hB2.size)
  clear hb3 hB2
  go_wp2_with fail
  refine (hQ _ hB3).mono ?_
  rintro e w4 ⟨rfl, hB4⟩
  clear hB3 hQ
  go_wp2_with fail
  refine (hpt _ (hL.later hB4)).mono ?_
  rintro e w5 ⟨v5, rfl, hE5, hb5⟩
  have hB5 : Below w.heap.size w w5 := hB4.trans (hb5.mono hB4.size)
  clear hb5 hB4 hpt
  have hq5 := equal_as v5 (.slice a1 n1 c1) es es true hE5 (H1.out.later hB5) (by have := L1.out; omega) (by have := L1.out; omega) (by simp) hB5
  clear hE5
  go_wp2_with fail
  refine hq5.mono ?_
  rintro e w6 ⟨rfl, hB6⟩
  clear hB5 hq5
  go_wp2_with fail
  refine (hE.1 _ (hL.later hB6)).mono ?_
  rintro e wa ⟨va, rfl, hEa, hba⟩
  have hBa : Below w.heap.size w wa := hB6.trans (hba.mono hB6.size)
  clear hba hB6
  by_cases hg : g = 0
  · have hpz := hE.2 hg va wa (hL.later hBa) hEa
    subst hg
    clear hE hEa
    go_wp2_with fail
    refine hpz.mono ?_
    rintro e wb ⟨rfl, hbb'⟩
    have hBb : Below w.heap.size w wb := hBa.trans (hbb'.mono hBa.size)
    clear hbb' hBa hpz
    go_wp2
    go_ret
    exact ⟨rfl, hBb⟩
  · have hg' : (g != 0) = true := by rw [bne_iff_ne]; exact hg
    clear hE hEa hg
    go_wp2
    go_ret
    exact ⟨rfl, hBa⟩

set_option maxHeartbeats 2000000 in
set_option maxRecDepth 100000 in
theorem ledBackD (hP : Prints) (hR : Reads) (a1 a2 : Option Addr) (c1 c2 n1 n2 : Nat) (es fs : List En) (l : List UInt8) (g : Int) (zs : List En) (w : World) (hL : Laid w) (h1 : EntSl w (.slice a1 n1 c1) es) (h2 : EntSl w (.slice a2 n2 c2) fs) (l1 : es.length = n1) (l2 : fs.length = n2) (hn1 : n1 ≤ big) (hn2 : n2 ≤ big) (hE : EndOK l g zs) (he : (lprint es).2 = 0) (hf : (lprint fs).2 = 0) (hsum : (n1 : Int) + n2 ≤ 60) :
    Calls Tryd.prog 6 #[.slice a1 n1 c1, .slice a2 n2 c2, .string ⟨l.toArray⟩] w fun e w' => e = .returned (.bool true) ∧ Below w.heap.size w w' := by
  have hp1 := fun W hW hv => hP (.slice a1 n1 c1) es W hW hv (by omega)
  have hp2 := fun W hW hv => hP (.slice a2 n2 c2) fs W hW hv (by omega)
  have hpt := hR (lprint es).1
  rw [parse_print he] at hpt
  rw [he] at hp1
  have hm1 : n1 ≤ 60 := by have := (lprint_zero he).2.1; omega
  have hm2 : n2 ≤ 60 := by have := (lprint_zero hf).2.1; omega
  obtain ⟨bb, hbb, htu⟩ : ∃ bb : Bool, (bb = true ↔ es = fs) ∧ ((lprint es).1 == (lprint fs).1) = bb := ⟨_, by rw [beq_iff_eq]; exact lprint_inj he hf, rfl⟩
  have hQ : ∀ W, Below w.heap.size w W → Calls Tryd.prog 19 #[.slice a1 n1 c1, .slice a2 n2 c2] W fun r w' => r = .returned (.bool bb) ∧ Below w.heap.size w w' := fun W hW => equal_as _ _ es fs bb (h1.later hW) (h2.later hW) (by omega) (by omega) hbb hW
  rw [hf] at hp2
  have hpu := hR ((lprint es).1 ++ (lprint fs).1)
  rw [parse_both he hf (by omega)] at hpu
  have ht : (lprint es).1.length ≤ 12060 := by have h := lprint_zero he; have := rowsOf_len es h.1; rw [h.2.2]; omega
  have hu : (lprint fs).1.length ≤ 12060 := by have h := lprint_zero hf; have := rowsOf_len fs h.1; rw [h.2.2]; omega
  have H1 : Hid (EntSl w (.slice a1 n1 c1) es) := h1
  have H2 : Hid (EntSl w (.slice a2 n2 c2) fs) := h2
  have L1 : Hid (es.length = n1) := l1
  have L2 : Hid (fs.length = n2) := l2
  clear h1 h2 l1 l2 he hf hbb
  generalize (lprint es).1 = t at *
  generalize (lprint fs).1 = u at *
  go_enter Tryd.func6, Tryd.ntmps6
  go_wp2_with fail
  refine (hp1 _ hL H1.out).mono ?_
  rintro e w1 ⟨rfl, hB1⟩
  clear hp1
  go_wp2_with fail
  refine (hp2 _ (hL.later hB1) (H2.out.later hB1)).mono ?_
  rintro e w2 ⟨rfl, hb2⟩
  have hB2 : Below w.heap.size w w2 := hB1.trans (hb2.mono hB1.size)
  clear hp2 hb2 hB1
  go_wp2_with fail
  refine (listed_any hP hR _ (hL.later hB2)).mono ?_
  rintro e w3 ⟨rfl, hb3⟩
  have hB3 : Below w.heap.size w w3 := hB2.trans (hb3.mono hB2.size)
  clear hb3 hB2
  go_wp2_with fail
  refine (hQ _ hB3).mono ?_
  rintro e w4 ⟨rfl, hB4⟩
  clear hB3 hQ
  go_wp2_with fail
  refine (hpt _ (hL.later hB4)).mono ?_
  rintro e w5 ⟨v5, rfl, hE5, hb5⟩
  have hB5 : Below w.heap.size w w5 := hB4.trans (hb5.mono hB4.size)
  clear hb5 hB4 hpt
  have hq5 := equal_as v5 (.slice a1 n1 c1) es es true hE5 (H1.out.later hB5) (by have := L1.out; omega) (by have := L1.out; omega) (by simp) hB5
  clear hE5
  go_wp2_with fail
  refine hq5.mono ?_
  rintro e w6 ⟨rfl, hB6⟩
  clear hB5 hq5
  go_wp2_with fail
  refine (hpu _ (hL.later hB6)).mono ?_
  rintro e w7 ⟨v7, rfl, hE7, hb7⟩
  have hB7 : Below w.heap.size w w7 := hB6.trans (hb7.mono hB6.size)
  clear hb7 hB6 hpu
  go_wp2_with fail
  have hB7' := grew hB7 (.cells #[.slice a1 n1 c1, .slice a2 n2 c2] 34)
  refine (concat2 w7.heap.size n1 n2 c1 c2 a1 a2 es fs _ (heap_new _ _) (H1.out.later hB7') (H2.out.later hB7') L1.out L2.out (by omega)).mono ?_
  rintro e w8 ⟨v8, rfl, hE8, hb8⟩
  have hB8 : Below w.heap.size w w8 := hB7'.trans (hb8.mono hB7'.size)
  have hE7' := (hE7.later (grew (Below.refl _ _) _)).later hb8
  have hq8 := equal_as v7 v8 (es ++ fs) (es ++ fs) true hE7' hE8 (by have := L1.out; have := L2.out; rw [List.length_append]; unfold big; omega) (by have := L1.out; have := L2.out; rw [List.length_append]; unfold big; omega) (by simp) hB8
  clear hE7 hE7' hE8 hb8 hB7' hB7
  go_wp2_with fail
  refine hq8.mono ?_
  rintro e w9 ⟨rfl, hB9⟩
  clear hq8 hB8
  go_wp2_with fail
  refine (hE.1 _ (hL.later hB9)).mono ?_
  rintro e wa ⟨va, rfl, hEa, hba⟩
  have hBa : Below w.heap.size w wa := hB9.trans (hba.mono hB9.size)
  clear hba hB9
  by_cases hg : g = 0
  · have hpz := hE.2 hg va wa (hL.later hBa) hEa
    subst hg
    clear hE hEa
    go_wp2_with fail
    refine hpz.mono ?_
    rintro e wb ⟨rfl, hbb'⟩
    have hBb : Below w.heap.size w wb := hBa.trans (hbb'.mono hBa.size)
    clear hbb' hBa hpz
    go_wp2
    go_ret
    exact ⟨rfl, hBb⟩
  · have hg' : (g != 0) = true := by rw [bne_iff_ne]; exact hg
    clear hE hEa hg
    go_wp2
    go_ret
    exact ⟨rfl, hBa⟩

theorem ledBack_any (hP : Prints) (hR : Reads) (v1 v2 : Value) (es fs : List En) (s : ByteArray) (w : World) (hL : Laid w) (h1 : EntSl w v1 es) (h2 : EntSl w v2 fs) (hn1 : es.length ≤ big) (hn2 : fs.length ≤ big) :
    Calls Tryd.prog 6 #[v1, v2, .string s] w fun e w' => e = .returned (.bool true) ∧ Below w.heap.size w w' := by
  obtain ⟨⟨l⟩⟩ := s
  obtain ⟨a1, c1, rfl, k1⟩ := h1
  obtain ⟨a2, c2, rfl, k2⟩ := h2
  have hE := end_ok hP hR l
  by_cases he : (lprint es).2 = 0
  · by_cases hf : (lprint fs).2 = 0
    · by_cases hs : ((es.length : Int) + fs.length) ≤ 60
      · exact ledBackD hP hR a1 a2 c1 c2 _ _ es fs l _ _ w hL ⟨a1, c1, rfl, k1⟩ ⟨a2, c2, rfl, k2⟩ rfl rfl hn1 hn2 hE he hf hs
      · exact ledBackC hP hR a1 a2 c1 c2 _ _ es fs l _ _ w hL ⟨a1, c1, rfl, k1⟩ ⟨a2, c2, rfl, k2⟩ rfl rfl hn1 hn2 hE he hf (by omega)
    · exact ledBackB hP hR a1 a2 c1 c2 _ _ es fs l _ _ w hL ⟨a1, c1, rfl, k1⟩ ⟨a2, c2, rfl, k2⟩ rfl rfl hn1 hn2 hE he (by rw [beq_eq_false_iff_ne]; exact hf)
  · exact ledBackA hP hR a1 a2 c1 c2 _ _ es fs l _ _ w hL ⟨a1, c1, rfl, k1⟩ ⟨a2, c2, rfl, k2⟩ rfl rfl hn1 hn2 hE (by rw [beq_eq_false_iff_ne]; exact he)

end Go.Proofs.YtlfennkdknodhaaDoor
