/- For the law. -/
import Derived.Test.YtmoaobfmopimlafGreatDoorM33
set_option linter.unusedSimpArgs false
set_option linter.unusedVariables false
namespace Go.Proofs.YtmoaobfmopimlafGreatDoor
open Go.RowKit
section
open scoped Classical
theorem ckCls_drop (ns : List Nd) : ∀ (cs : List Cl) (k : Nat), (∀ j c, j < k → cs[j]? = some c → c.ck = 0 ∧ c.lost ns = false) → ckCls ns cs = ckCls ns (cs.drop k)
 | [], k, _ => by rw [List.drop_nil]
 | _ :: _, 0, _ => rfl
 | c :: r, k + 1, h => by
  have h0 := h 0 c (Nat.succ_pos _) rfl
  rw [List.drop_succ_cons, ← ckCls_drop ns r k (fun j x hj hx => h (j + 1) x (Nat.succ_lt_succ hj) (by rw [List.getElem?_cons_succ]; exact hx)), ckCls, if_neg (not_not_intro h0.1), if_neg (by rw [h0.2]; simp)]
theorem ckCls_at {ns : List Nd} {cs : List Cl} {k : Nat} {c : Cl} (h : ∀ j c, j < k → cs[j]? = some c → c.ck = 0 ∧ c.lost ns = false) (hc : cs[k]? = some c) (hz : c.ck ≠ 0) : ckCls ns cs = c.ck := by
 obtain ⟨hk, e⟩ := List.getElem?_eq_some_iff.1 hc
 rw [ckCls_drop ns cs k h, List.drop_eq_getElem_cons hk, e, ckCls, if_pos hz]
theorem ckCls_lost {ns : List Nd} {cs : List Cl} {k : Nat} {c : Cl} (h : ∀ j c, j < k → cs[j]? = some c → c.ck = 0 ∧ c.lost ns = false) (hc : cs[k]? = some c) (hz : c.ck = 0) (hl : c.lost ns = true) : ckCls ns cs = 4 := by
 obtain ⟨hk, e⟩ := List.getElem?_eq_some_iff.1 hc
 rw [ckCls_drop ns cs k h, List.drop_eq_getElem_cons hk, e, ckCls, if_neg (not_not_intro hz), if_pos hl]
theorem ckCls_all {ns : List Nd} {cs : List Cl} (h : ∀ j c, j < cs.length → cs[j]? = some c → c.ck = 0 ∧ c.lost ns = false) : ckCls ns cs = 0 := by
 rw [ckCls_drop ns cs cs.length h, List.drop_length]; rfl
set_option maxHeartbeats 4000000 in
set_option maxRecDepth 100000 in
theorem checkClients_at (b off c : Nat) (N0 N1 N2 : Nd) (sa0 sa1 sa2 : Option Addr) (sc0 sc1 sc2 : Nat) (V0 V1 V2 U0 U1 U2 : Value) (g go gc : Nat) (cs : List Cb) (tip t : Int) (w : World) (hE : RowAt Nb.cells 5 w b off [⟨N0, .slice sa0 60 sc0, V0, U0⟩, ⟨N1, .slice sa1 60 sc1, V1, U1⟩, ⟨N2, .slice sa2 60 sc2, V2, U2⟩])
  (h0 : EntSl w (.slice sa0 60 sc0) N0.u.cells) (h1 : EntSl w (.slice sa1 60 sc1) N1.u.cells) (hR : RowAt Cb.cells 12 w g go cs) (hC : ∀ x, x ∈ cs → ClientT w x) (hn : cs.length ≤ most) :
  Calls Tryz.prog 33 #[wval (.slice (some ⟨b, off, none⟩) 3 c) tip (.slice (some ⟨g, go, none⟩) cs.length gc) t] w fun e w' => e = .returned (.int .i64 (ckCls [N0, N1, N2] (clientsOf cs))) ∧ Below w.heap.size w w' := by
 have HE : Aside (RowAt Nb.cells 5 w b off [⟨N0, .slice sa0 60 sc0, V0, U0⟩, ⟨N1, .slice sa1 60 sc1, V1, U1⟩, ⟨N2, .slice sa2 60 sc2, V2, U2⟩]) := hE
 have HR : Aside (RowAt Cb.cells 12 w g go cs) := hR
 have H0 : Aside (EntSl w (.slice sa0 60 sc0) N0.u.cells) := h0
 have H1 : Aside (EntSl w (.slice sa1 60 sc1) N1.u.cells) := h1
 have HC : Aside (∀ x, x ∈ cs → ClientT w x) := hC
 have HB0 : Aside (Below w.heap.size w (w.alloc (boxW (.slice (some ⟨b, off, none⟩) 3 c) tip (.slice (some ⟨g, go, none⟩) cs.length gc) t))) := grew (Below.refl _ _) _
 have HX0 : Aside ((w.alloc (boxW (.slice (some ⟨b, off, none⟩) 3 c) tip (.slice (some ⟨g, go, none⟩) cs.length gc) t)).heap[w.heap.size]? = some (boxW (.slice (some ⟨b, off, none⟩) 3 c) tip (.slice (some ⟨g, go, none⟩) cs.length gc) t)) := heap_new _ _
 obtain ⟨cc, HCC⟩ : ∃ cc, Hid (ckCls [N0, N1, N2] (clientsOf cs) = cc) := ⟨_, rfl⟩
 rw [HCC.out]
 obtain ⟨n, HN⟩ : ∃ n, Hid (cs.length = n) := ⟨_, rfl⟩
 rw [HN.out] at HB0 HX0 hn ⊢
 have hnb : n ≤ 9223372036854775807 := hn
 obtain ⟨bu0, ou0, rfl, hU0⟩ := SlOf.at (cs := En.cells) (k := 5) h0 (by omega)
 obtain ⟨bu1, ou1, rfl, hU1⟩ := SlOf.at (cs := En.cells) (k := 5) h1 (by omega)
 have HU0 : Aside (RowAt En.cells 5 w bu0 ou0 N0.u.cells) := hU0
 have HU1 : Aside (RowAt En.cells 5 w bu1 ou1 N1.u.cells) := hU1
 have hl0 : Hid (N0.u.cells.length = 60) := SlOf.len (cs := En.cells) (k := 5) h0
 have hl1 : Hid (N1.u.cells.length = 60) := SlOf.len (cs := En.cells) (k := 5) h1
 clear hE hR h0 h1 hC hU0 hU1 H0 H1
 go_enter Tryz.func33, Tryz.ntmps33
 go_upto_region 1 with fail
 generalize w.alloc (boxW (.slice (some ⟨b, off, none⟩) 3 c) tip (.slice (some ⟨g, go, none⟩) n gc) t) = W0 at *
 have z := cb HX0
 go_wp2
 go_loopw [9] (fun i wr => ∃ k : Nat, k ≤ n ∧ i = .int .i64 k ∧ Below w.heap.size w wr ∧ wr.heap[w.heap.size]? = some (.cells #[Value.slice (some ⟨b, off, none⟩) 3 c, .int .i64 tip, .slice (some ⟨g, go, none⟩) n gc, .int .i64 t] 25) ∧ Hid (∀ j x, j < k → (clientsOf cs)[j]? = some x → x.ck = 0 ∧ x.lost [N0, N1, N2] = false)) (fun i _ => n - (intOf i).toNat)
 case atStart => exact ⟨0, Nat.zero_le _, rfl, HB0.out, HX0.out, fun j x hj => absurd hj (Nat.not_lt_zero j)⟩
 case round =>
  clear HB0 HX0 z
  obtain ⟨k, hk, rfl, hB, hX, hst⟩ := hrel
  by_cases hlt : k < n
  ·obtain ⟨x, hx⟩ : ∃ x, cs[k]? = some x := ⟨cs[k]'(by rw [HN.out]; exact hlt), List.getElem?_eq_getElem _⟩
   obtain ⟨⟨p, dd, e, a, l, nn, js, rs⟩, v1, v2⟩ := x
   have hT := HC.out _ (List.mem_of_getElem? hx)
   obtain ⟨a1, m1, k1, e1⟩ := slOf_sl hT.1
   obtain ⟨a2, m2, k2, e2⟩ := slOf_sl hT.2
   dsimp only at e1 e2
   subst e1 e2
   have hcx : (clientsOf cs)[k]? = some (⟨p, dd, e, a, l, nn, js, rs⟩ : Cl) := clients_at hx
   have hE := RowAt.later HR.out hB
   have c0 : wr.cell? ⟨g, go + k * 12, none⟩ = some (.int .i64 p) := hE k _ hx 0 _ rfl
   have c1 : wr.cell? ⟨g, go + k * 12 + 1, none⟩ = some (.int .i64 dd) := hE k _ hx 1 _ rfl
   have c2 : wr.cell? ⟨g, go + k * 12 + 2, none⟩ = some (.int .i64 e.k) := hE k _ hx 2 _ rfl
   have c3 : wr.cell? ⟨g, go + k * 12 + 3, none⟩ = some (.int .i64 e.j) := hE k _ hx 3 _ rfl
   have c4 : wr.cell? ⟨g, go + k * 12 + 4, none⟩ = some (.int .i64 e.v) := hE k _ hx 4 _ rfl
   have c5 : wr.cell? ⟨g, go + k * 12 + 5, none⟩ = some (.int .i64 e.t) := hE k _ hx 5 _ rfl
   have c6 : wr.cell? ⟨g, go + k * 12 + 6, none⟩ = some (.int .i64 e.c) := hE k _ hx 6 _ rfl
   have c7 : wr.cell? ⟨g, go + k * 12 + 7, none⟩ = some (.int .i64 a) := hE k _ hx 7 _ rfl
   have c8 : wr.cell? ⟨g, go + k * 12 + 8, none⟩ = some (.int .i64 l) := hE k _ hx 8 _ rfl
   have c9 : wr.cell? ⟨g, go + k * 12 + 9, none⟩ = some (.int .i64 nn) := hE k _ hx 9 _ rfl
   have c10 : wr.cell? ⟨g, go + k * 12 + 10, none⟩ = some (.slice a1 m1 k1) := hE k _ hx 10 _ rfl
   have c11 : wr.cell? ⟨g, go + k * 12 + 11, none⟩ = some (.slice a2 m2 k2) := hE k _ hx 11 _ rfl
   have hB1 := grew hB (boxC (⟨p, dd, e, a, l, nn, js, rs⟩ : Cl) (.slice a1 m1 k1) (.slice a2 m2 k2))
   have kc := cl_check (⟨p, dd, e, a, l, nn, js, rs⟩ : Cl) (.slice a1 m1 k1) (.slice a2 m2 k2) _ (bkAt_later hT hB1)
   have HB1 : Aside _ := hB1
   have HX1 : Aside _ := heap_old hX (boxC (⟨p, dd, e, a, l, nn, js, rs⟩ : Cl) (.slice a1 m1 k1) (.slice a2 m2 k2))
   have HY1 : Aside _ := heap_new wr (boxC (⟨p, dd, e, a, l, nn, js, rs⟩ : Cl) (.slice a1 m1 k1) (.slice a2 m2 k2))
   have HST : Hid ((clientsOf cs)[k]? = some (⟨p, dd, e, a, l, nn, js, rs⟩ : Cl) ∧ (∀ j x, j < k → (clientsOf cs)[j]? = some x → x.ck = 0 ∧ x.lost [N0, N1, N2] = false)) := ⟨hcx, hst.out⟩
   have nxt : Hid ((⟨p, dd, e, a, l, nn, js, rs⟩ : Cl).ck = 0 → (⟨p, dd, e, a, l, nn, js, rs⟩ : Cl).lost [N0, N1, N2] = false → ∀ j x, j < k + 1 → (clientsOf cs)[j]? = some x → x.ck = 0 ∧ x.lost [N0, N1, N2] = false) := fun h h' j x hj hx' => by
    by_cases hjk : j < k
    ·exact HST.out.2 j x hjk hx'
    ·obtain rfl : j = k := by omega
     obtain rfl := Option.some.inj (hx'.symm.trans HST.out.1)
     exact ⟨h, h'⟩
   obtain ⟨d, HD⟩ : ∃ d, Hid ((⟨p, dd, e, a, l, nn, js, rs⟩ : Cl).ck = d) := ⟨_, rfl⟩
   rw [HD.out] at kc
   have hki : (k : Int) < n := by omega
   have hk0 : (0 : Int) ≤ (k : Int) := by omega
   clear hE hx hcx hT hB hX hB1 hst
   go_upto_region 4 with fail
   clear c0 c1 c2 c3 c4 c5 c6 c7 c8 c9 c10 c11
   generalize wr.alloc (boxC (⟨p, dd, e, a, l, nn, js, rs⟩ : Cl) (.slice a1 m1 k1) (.slice a2 m2 k2)) = Z at *
   generalize wr.heap.size = cb at *
   have z := cb HY1
   go_wp2_with fail
   refine kc.mono ?_
   rintro e w1 ⟨rfl, hb1⟩
   have HB2 := sb HB1 hb1
   have HX2 := hv HX1 hb1
   have HY2 := hv HY1 hb1
   clear kc z HB1 HX1 HY1 hb1
   by_cases hd : d = 0
   ·subst hd
    have z := cb HY2
    go_upto_region 7 with fail
    by_cases h2 : dd = 2
    ·have h2b : (dd == 2) = true := by rw [beq_iff_eq]; exact h2
     have hdd : Hid (dd = 2) := h2
     by_cases hl : 0 < l
     ·have hg := Cl.good (Cl.ck_zero.1 HD.out).1
      dsimp only at hg
      obtain ⟨m, rfl⟩ : ∃ m : Nat, a = m := ⟨a.toNat, by omega⟩
      have hm : m < 60 := by omega
      have hl12 : l = 1 ∨ l = 2 := by omega
      clear hg h2 hl
      rcases hl12 with rfl | rfl
      ·obtain ⟨y, hy⟩ : ∃ y, N0.u.cells[m]? = some y := ⟨N0.u.cells[m]'(by rw [hl0.out]; exact hm), List.getElem?_eq_getElem _⟩
       have hpl : Hid (plcN [N0, N1, N2] 0 m = y) := by rw [Hid, plcN, plc]; show N0.u.cells.getD m blankE = y; rw [List.getD_eq_getElem?_getD, hy]; rfl
       have hEy := RowAt.later HU0.out HB2.out
       have f0 : w1.cell? ⟨bu0, ou0 + m * 5, none⟩ = some (.int .i64 y.k) := hEy m y hy 0 _ rfl
       have f1 : w1.cell? ⟨bu0, ou0 + m * 5 + 1, none⟩ = some (.int .i64 y.j) := hEy m y hy 1 _ rfl
       have f2 : w1.cell? ⟨bu0, ou0 + m * 5 + 2, none⟩ = some (.int .i64 y.v) := hEy m y hy 2 _ rfl
       have f3 : w1.cell? ⟨bu0, ou0 + m * 5 + 3, none⟩ = some (.int .i64 y.t) := hEy m y hy 3 _ rfl
       have f4 : w1.cell? ⟨bu0, ou0 + m * 5 + 4, none⟩ = some (.int .i64 y.c) := hEy m y hy 4 _ rfl
       have hr := (row_threeN (RowAt.later HE.out HB2.out)).1.2.1
       have zX := cb HX2
       have hn2 := fun W => neq_entry y.k y.j y.v y.t y.c e.k e.j e.v e.t e.c W
       obtain ⟨ub, HUB⟩ : ∃ ub, Hid (unlike y.k y.j y.v y.t y.c e.k e.j e.v e.t e.c = ub) := ⟨_, rfl⟩
       rw [HUB.out] at hn2
       have hm0 : (0 : Int) ≤ (m : Int) := by omega
       have hm1 : (m : Int) < 60 := by omega
       have hwr0 : IntKind.i64.wrap 0 = 0 := rfl
       have hwr1 : IntKind.i64.wrap 1 = 1 := rfl
       clear hEy hy
       cases ub with
       | false =>
        have HL : Hid _ := nxt.out HD.out (lost_iff.2 fun _ _ => by
         have : plcN [N0, N1, N2] 0 m = e := hpl.out.trans (en_eq HUB.out)
         simpa using this)
        clear nxt
        go_quiet (fail)
        go_wp2
        go_roundw
        case rel => exact ⟨k + 1, by omega, by go_num, below_drewN HB2.out _, heap_below HX2.out (below_drewN (Below.refl _ _) _) (heap_lt HX2.out), HL⟩
        case measure => simp [intOf]; omega
       | true =>
        have HRR : Hid (cc = 4) := by
         rw [Hid, ← HCC.out]
         refine ckCls_lost HST.out.2 HST.out.1 HD.out ?_
         rw [← Bool.not_eq_false]
         intro h
         have h5 := lost_iff.1 h hdd.out (by show (0 : Int) < 1; omega)
         have h6 : y = e := hpl.out.symm.trans (by simpa using h5)
         have h7 := HUB.out
         rw [h6] at h7
         simp [unlike] at h7
        clear HCC nxt
        go_quiet (fail)
        go_wp2
        go_ret
        exact ⟨by rw [HRR.out]; rfl, below_drewN HB2.out _⟩
      ·obtain ⟨y, hy⟩ : ∃ y, N1.u.cells[m]? = some y := ⟨N1.u.cells[m]'(by rw [hl1.out]; exact hm), List.getElem?_eq_getElem _⟩
       have hpl : Hid (plcN [N0, N1, N2] 1 m = y) := by rw [Hid, plcN, plc]; show N1.u.cells.getD m blankE = y; rw [List.getD_eq_getElem?_getD, hy]; rfl
       have hEy := RowAt.later HU1.out HB2.out
       have f0 : w1.cell? ⟨bu1, ou1 + m * 5, none⟩ = some (.int .i64 y.k) := hEy m y hy 0 _ rfl
       have f1 : w1.cell? ⟨bu1, ou1 + m * 5 + 1, none⟩ = some (.int .i64 y.j) := hEy m y hy 1 _ rfl
       have f2 : w1.cell? ⟨bu1, ou1 + m * 5 + 2, none⟩ = some (.int .i64 y.v) := hEy m y hy 2 _ rfl
       have f3 : w1.cell? ⟨bu1, ou1 + m * 5 + 3, none⟩ = some (.int .i64 y.t) := hEy m y hy 3 _ rfl
       have f4 : w1.cell? ⟨bu1, ou1 + m * 5 + 4, none⟩ = some (.int .i64 y.c) := hEy m y hy 4 _ rfl
       have hr := (row_threeN (RowAt.later HE.out HB2.out)).2.1.2.1
       have zX := cb HX2
       have hn2 := fun W => neq_entry y.k y.j y.v y.t y.c e.k e.j e.v e.t e.c W
       obtain ⟨ub, HUB⟩ : ∃ ub, Hid (unlike y.k y.j y.v y.t y.c e.k e.j e.v e.t e.c = ub) := ⟨_, rfl⟩
       rw [HUB.out] at hn2
       have hm0 : (0 : Int) ≤ (m : Int) := by omega
       have hm1 : (m : Int) < 60 := by omega
       have hwr0 : IntKind.i64.wrap 0 = 0 := rfl
       have hwr1 : IntKind.i64.wrap 1 = 1 := rfl
       clear hEy hy
       cases ub with
       | false =>
        have HL : Hid _ := nxt.out HD.out (lost_iff.2 fun _ _ => by
         have : plcN [N0, N1, N2] 1 m = e := hpl.out.trans (en_eq HUB.out)
         simpa using this)
        clear nxt
        go_quiet (fail)
        go_wp2
        go_roundw
        case rel => exact ⟨k + 1, by omega, by go_num, below_drewN HB2.out _, heap_below HX2.out (below_drewN (Below.refl _ _) _) (heap_lt HX2.out), HL⟩
        case measure => simp [intOf]; omega
       | true =>
        have HRR : Hid (cc = 4) := by
         rw [Hid, ← HCC.out]
         refine ckCls_lost HST.out.2 HST.out.1 HD.out ?_
         rw [← Bool.not_eq_false]
         intro h
         have h5 := lost_iff.1 h hdd.out (by show (0 : Int) < 2; omega)
         have h6 : y = e := hpl.out.symm.trans (by simpa using h5)
         have h7 := HUB.out
         rw [h6] at h7
         simp [unlike] at h7
        clear HCC nxt
        go_quiet (fail)
        go_wp2
        go_ret
        exact ⟨by rw [HRR.out]; rfl, below_drewN HB2.out _⟩
     ·have HL : Hid _ := nxt.out HD.out (lost_iff.2 fun _ h => absurd h hl)
      have hlb : decide (0 < l) = false := decide_eq_false hl
      clear h2 hl nxt
      go_quiet (fail)
      go_wp2
      go_roundw
      case rel => exact ⟨k + 1, by omega, by go_num, below_drewN HB2.out _, heap_below HX2.out (below_drewN (Below.refl _ _) _) (heap_lt HX2.out), HL⟩
      case measure => simp [intOf]; omega
    ·have h2b : (dd == 2) = false := by rw [beq_eq_false_iff_ne]; exact h2
     have HL : Hid _ := nxt.out HD.out (lost_idle (c := (⟨p, dd, e, a, l, nn, js, rs⟩ : Cl)) h2)
     clear h2 nxt
     go_quiet (fail)
     go_wp2
     go_roundw
     case rel => exact ⟨k + 1, by omega, by go_num, below_drewN HB2.out _, heap_below HX2.out (below_drewN (Below.refl _ _) _) (heap_lt HX2.out), HL⟩
     case measure => simp [intOf]; omega
   ·have hdb : (d != 0) = true := by rw [bne_iff_ne]; exact hd
    have HRR : Hid (cc = d) := by rw [Hid, ← HCC.out, ← HD.out]; exact ckCls_at HST.out.2 HST.out.1 (by rw [HD.out]; exact hd)
    clear hd HCC
    go_wp2
    go_ret
    exact ⟨by rw [HRR.out]; rfl, HB2.out⟩
  ·have HRR : Hid (cc = 0) := by
    rw [Hid, ← HCC.out]
    exact ckCls_all fun j x hj hx => hst.out j x (by simp only [clientsOf, List.length_map, HN.out] at hj; omega) hx
   have HB2 : Aside (Below w.heap.size w wr) := hB
   clear hst HCC hB
   go_wp2
   go_ret
   exact ⟨by rw [HRR.out]; rfl, HB2.out⟩
end
section
open scoped Classical
set_option maxHeartbeats 4000000 in
set_option maxRecDepth 100000 in
theorem check_form1 (a1 a2 : Option Addr) (n1 c1 n2 c2 : Nat) (tip t : Int) (w : World) (h : ((n1 : Int) != 3) = true) :
  Calls Tryz.prog 11 #[wval (.slice a1 n1 c1) tip (.slice a2 n2 c2) t] w fun e w' => e = .returned (.int .i64 4) ∧ Below w.heap.size w w' := by
 have HB0 : Aside (Below w.heap.size w (w.alloc (boxW (.slice a1 n1 c1) tip (.slice a2 n2 c2) t))) := grew (Below.refl _ _) _
 have HX0 : Aside ((w.alloc (boxW (.slice a1 n1 c1) tip (.slice a2 n2 c2) t)).heap[w.heap.size]? = some (boxW (.slice a1 n1 c1) tip (.slice a2 n2 c2) t)) := heap_new _ _
 go_enter Tryz.func11, Tryz.ntmps11
 go_upto_region 1 with fail
 generalize w.alloc (boxW (.slice a1 n1 c1) tip (.slice a2 n2 c2) t) = W0 at *
 have z := cb HX0
 go_wp2
 go_ret
 exact ⟨rfl, HB0.out⟩
set_option maxHeartbeats 4000000 in
set_option maxRecDepth 100000 in
theorem check_form2 (a1 a2 : Option Addr) (c1 n2 c2 : Nat) (tip t : Int) (w : World) (h : ((n2 : Int) != 3) = true) :
  Calls Tryz.prog 11 #[wval (.slice a1 3 c1) tip (.slice a2 n2 c2) t] w fun e w' => e = .returned (.int .i64 4) ∧ Below w.heap.size w w' := by
 have HB0 : Aside (Below w.heap.size w (w.alloc (boxW (.slice a1 3 c1) tip (.slice a2 n2 c2) t))) := grew (Below.refl _ _) _
 have HX0 : Aside ((w.alloc (boxW (.slice a1 3 c1) tip (.slice a2 n2 c2) t)).heap[w.heap.size]? = some (boxW (.slice a1 3 c1) tip (.slice a2 n2 c2) t)) := heap_new _ _
 go_enter Tryz.func11, Tryz.ntmps11
 go_upto_region 1 with fail
 generalize w.alloc (boxW (.slice a1 3 c1) tip (.slice a2 n2 c2) t) = W0 at *
 have z := cb HX0
 go_wp2
 go_ret
 exact ⟨rfl, HB0.out⟩
set_option maxHeartbeats 4000000 in
set_option maxRecDepth 100000 in
theorem check_range1 (a1 a2 : Option Addr) (c1 c2 : Nat) (tip t : Int) (w : World) (h : tip < 0) :
  Calls Tryz.prog 11 #[wval (.slice a1 3 c1) tip (.slice a2 3 c2) t] w fun e w' => e = .returned (.int .i64 3) ∧ Below w.heap.size w w' := by
 have HB0 : Aside (Below w.heap.size w (w.alloc (boxW (.slice a1 3 c1) tip (.slice a2 3 c2) t))) := grew (Below.refl _ _) _
 have HX0 : Aside ((w.alloc (boxW (.slice a1 3 c1) tip (.slice a2 3 c2) t)).heap[w.heap.size]? = some (boxW (.slice a1 3 c1) tip (.slice a2 3 c2) t)) := heap_new _ _
 go_enter Tryz.func11, Tryz.ntmps11
 go_upto_region 1 with fail
 generalize w.alloc (boxW (.slice a1 3 c1) tip (.slice a2 3 c2) t) = W0 at *
 have z := cb HX0
 go_wp2
 go_ret
 exact ⟨rfl, HB0.out⟩
set_option maxHeartbeats 4000000 in
set_option maxRecDepth 100000 in
theorem check_range2 (a1 a2 : Option Addr) (c1 c2 : Nat) (tip t : Int) (w : World) (h1 : ¬ tip < 0) (h : 60 < tip) :
  Calls Tryz.prog 11 #[wval (.slice a1 3 c1) tip (.slice a2 3 c2) t] w fun e w' => e = .returned (.int .i64 3) ∧ Below w.heap.size w w' := by
 have HB0 : Aside (Below w.heap.size w (w.alloc (boxW (.slice a1 3 c1) tip (.slice a2 3 c2) t))) := grew (Below.refl _ _) _
 have HX0 : Aside ((w.alloc (boxW (.slice a1 3 c1) tip (.slice a2 3 c2) t)).heap[w.heap.size]? = some (boxW (.slice a1 3 c1) tip (.slice a2 3 c2) t)) := heap_new _ _
 go_enter Tryz.func11, Tryz.ntmps11
 go_upto_region 1 with fail
 generalize w.alloc (boxW (.slice a1 3 c1) tip (.slice a2 3 c2) t) = W0 at *
 have z := cb HX0
 go_wp2
 go_ret
 exact ⟨rfl, HB0.out⟩
set_option maxHeartbeats 4000000 in
set_option maxRecDepth 100000 in
theorem check_range3 (a1 a2 : Option Addr) (c1 c2 : Nat) (tip t : Int) (w : World) (h1 : ¬ tip < 0) (h2 : ¬ 60 < tip) (h : t < 0) :
  Calls Tryz.prog 11 #[wval (.slice a1 3 c1) tip (.slice a2 3 c2) t] w fun e w' => e = .returned (.int .i64 3) ∧ Below w.heap.size w w' := by
 have HB0 : Aside (Below w.heap.size w (w.alloc (boxW (.slice a1 3 c1) tip (.slice a2 3 c2) t))) := grew (Below.refl _ _) _
 have HX0 : Aside ((w.alloc (boxW (.slice a1 3 c1) tip (.slice a2 3 c2) t)).heap[w.heap.size]? = some (boxW (.slice a1 3 c1) tip (.slice a2 3 c2) t)) := heap_new _ _
 go_enter Tryz.func11, Tryz.ntmps11
 go_upto_region 1 with fail
 generalize w.alloc (boxW (.slice a1 3 c1) tip (.slice a2 3 c2) t) = W0 at *
 have z := cb HX0
 go_wp2
 go_ret
 exact ⟨rfl, HB0.out⟩
set_option maxHeartbeats 4000000 in
set_option maxRecDepth 100000 in
theorem check_range4 (a1 a2 : Option Addr) (c1 c2 : Nat) (tip t : Int) (w : World) (h1 : ¬ tip < 0) (h2 : ¬ 60 < tip) (h3 : ¬ t < 0) (h : 100000 < t) :
  Calls Tryz.prog 11 #[wval (.slice a1 3 c1) tip (.slice a2 3 c2) t] w fun e w' => e = .returned (.int .i64 3) ∧ Below w.heap.size w w' := by
 have HB0 : Aside (Below w.heap.size w (w.alloc (boxW (.slice a1 3 c1) tip (.slice a2 3 c2) t))) := grew (Below.refl _ _) _
 have HX0 : Aside ((w.alloc (boxW (.slice a1 3 c1) tip (.slice a2 3 c2) t)).heap[w.heap.size]? = some (boxW (.slice a1 3 c1) tip (.slice a2 3 c2) t)) := heap_new _ _
 go_enter Tryz.func11, Tryz.ntmps11
 go_upto_region 1 with fail
 generalize w.alloc (boxW (.slice a1 3 c1) tip (.slice a2 3 c2) t) = W0 at *
 have z := cb HX0
 go_wp2
 go_ret
 exact ⟨rfl, HB0.out⟩
set_option maxHeartbeats 4000000 in
set_option maxRecDepth 100000 in
theorem check_at (b off c : Nat) (N0 N1 N2 : Nd) (sa0 ta0 ua0 : Option Addr) (sm0 sc0 tm0 tc0 um0 uc0 : Nat) (sa1 ta1 ua1 : Option Addr) (sm1 sc1 tm1 tc1 um1 uc1 : Nat) (sa2 ta2 ua2 : Option Addr) (sm2 sc2 tm2 tc2 um2 uc2 : Nat) (g go gc : Nat) (cs : List Cb) (tip t : Int) (w : World) (hL : Laid w) (hE : RowAt Nb.cells 5 w b off [⟨N0, .slice sa0 sm0 sc0, .slice ta0 tm0 tc0, .slice ua0 um0 uc0⟩, ⟨N1, .slice sa1 sm1 sc1, .slice ta1 tm1 tc1, .slice ua1 um1 uc1⟩, ⟨N2, .slice sa2 sm2 sc2, .slice ta2 tm2 tc2, .slice ua2 um2 uc2⟩]) (h0 : NodeT w ⟨N0, .slice sa0 sm0 sc0, .slice ta0 tm0 tc0, .slice ua0 um0 uc0⟩) (h1 : NodeT w ⟨N1, .slice sa1 sm1 sc1, .slice ta1 tm1 tc1, .slice ua1 um1 uc1⟩) (h2 : NodeT w ⟨N2, .slice sa2 sm2 sc2, .slice ta2 tm2 tc2, .slice ua2 um2 uc2⟩)
  (hn : ∀ n : Nd, n ∈ [N0, N1, N2] → n.u.cells.length ≤ topN ∧ n.s.length ≤ topLen ∧ n.w.length ≤ topLen) (hR : RowAt Cb.cells 12 w g go cs) (hC : ∀ x, x ∈ cs → ClientT w x) (h3 : cs.length = 3)
  (r1 : ¬ tip < 0) (r2 : ¬ 60 < tip) (r3 : ¬ t < 0) (r4 : ¬ 100000 < t) :
  Calls Tryz.prog 11 #[wval (.slice (some ⟨b, off, none⟩) 3 c) tip (.slice (some ⟨g, go, none⟩) 3 gc) t] w fun e w' => e = .returned (.int .i64 (if ckNds none [N0, N1, N2] ≠ 0 then ckNds none [N0, N1, N2] else ckCls [N0, N1, N2] (clientsOf cs))) ∧ Below w.heap.size w w' := by
 have hB0 : Below w.heap.size w (w.alloc (boxW (.slice (some ⟨b, off, none⟩) 3 c) tip (.slice (some ⟨g, go, none⟩) 3 gc) t)) := grew (Below.refl _ _) _
 have HB0 : Aside (Below w.heap.size w (w.alloc (boxW (.slice (some ⟨b, off, none⟩) 3 c) tip (.slice (some ⟨g, go, none⟩) 3 gc) t))) := hB0
 have HX0 : Aside ((w.alloc (boxW (.slice (some ⟨b, off, none⟩) 3 c) tip (.slice (some ⟨g, go, none⟩) 3 gc) t)).heap[w.heap.size]? = some (boxW (.slice (some ⟨b, off, none⟩) 3 c) tip (.slice (some ⟨g, go, none⟩) 3 gc) t)) := heap_new _ _
 have kn := checkNodes_at b off c N0 N1 N2 sa0 ta0 ua0 sm0 sc0 tm0 tc0 um0 uc0 sa1 ta1 ua1 sm1 sc1 tm1 tc1 um1 uc1 sa2 ta2 ua2 sm2 sc2 tm2 tc2 um2 uc2 (w.alloc (boxW (.slice (some ⟨b, off, none⟩) 3 c) tip (.slice (some ⟨g, go, none⟩) 3 gc) t)) (hL.later hB0) (hE.later hB0) (h0.later hB0) (h1.later hB0) (h2.later hB0) hn
 have kc : Hid (∀ W, Below w.heap.size w W → ckNds none [N0, N1, N2] = 0 → Calls Tryz.prog 33 #[wval (.slice (some ⟨b, off, none⟩) 3 c) tip (.slice (some ⟨g, go, none⟩) 3 gc) t] W fun e w' => e = .returned (.int .i64 (ckCls [N0, N1, N2] (clientsOf cs))) ∧ Below W.heap.size W w') := fun W hb hz => by
  have hE' := hE.later hb
  have u0 := (h0.later hb).unit.ents
  have u1 := (h1.later hb).unit.ents
  have u2 := (h2.later hb).unit.ents
  obtain ⟨l0, l1, l2⟩ : N0.u.cells.length = 60 ∧ N1.u.cells.length = 60 ∧ N2.u.cells.length = 60 := by
   have k0 : N0.ck = 0 := by
    by_cases k0 : N0.ck = 0
    ·exact k0
    ·rw [ckNds, if_pos k0] at hz; exact absurd hz k0
   rw [ckNds, if_neg (not_not_intro k0), if_neg (by simp [behindB])] at hz
   have k1 : N1.ck = 0 := by
    by_cases k1 : N1.ck = 0
    ·exact k1
    ·rw [ckNds, if_pos k1] at hz; exact absurd hz k1
   rw [ckNds, if_neg (not_not_intro k1)] at hz
   by_cases q1 : behindB (some N0.u.cells) N1.whole.cells = false
   ·rw [if_pos q1] at hz; cases hz
   rw [if_neg q1] at hz
   have k2 : N2.ck = 0 := by
    by_cases k2 : N2.ck = 0
    ·exact k2
    ·rw [ckNds, if_pos k2] at hz; exact absurd hz k2
   exact ⟨(ckN_ok k0).2.2, (ckN_ok k1).2.2, (ckN_ok k2).2.2⟩
  obtain rfl : sm0 = 60 := by rw [← SlOf.len (cs := En.cells) (k := 5) u0]; exact l0
  obtain rfl : sm1 = 60 := by rw [← SlOf.len (cs := En.cells) (k := 5) u1]; exact l1
  obtain rfl : sm2 = 60 := by rw [← SlOf.len (cs := En.cells) (k := 5) u2]; exact l2
  have := checkClients_at b off c N0 N1 N2 sa0 sa1 sa2 sc0 sc1 sc2 _ _ _ _ _ _ g go gc cs tip t W hE' u0 u1 (hR.later hb) (fun x hx => bkAt_later (hC x hx) hb) (by rw [h3]; decide)
  rw [h3] at this
  exact this
 obtain ⟨d, HD⟩ : ∃ d, Hid (ckNds none [N0, N1, N2] = d) := ⟨_, rfl⟩
 rw [HD.out] at kn ⊢
 obtain ⟨R, HR⟩ : ∃ R, Hid ((if d ≠ 0 then d else ckCls [N0, N1, N2] (clientsOf cs)) = R) := ⟨_, rfl⟩
 rw [HR.out]
 clear hL hE h0 h1 h2 hn hR hC h3 hB0
 go_enter Tryz.func11, Tryz.ntmps11
 go_upto_region 1 with fail
 generalize w.alloc (boxW (.slice (some ⟨b, off, none⟩) 3 c) tip (.slice (some ⟨g, go, none⟩) 3 gc) t) = W0 at *
 have z := cb HX0
 go_wp2_with fail
 refine kn.mono ?_
 rintro e w1 ⟨rfl, hb1⟩
 have HB1 := sb HB0 hb1
 have HX1 := hv HX0 hb1
 clear kn z HB0 HX0 hb1
 have z := cb HX1
 by_cases hd : d = 0
 ·subst hd
  have kc' := kc.out w1 HB1.out HD.out
  obtain ⟨cc, HCC⟩ : ∃ cc, Hid (ckCls [N0, N1, N2] (clientsOf cs) = cc) := ⟨_, rfl⟩
  rw [HCC.out] at kc'
  go_wp2_with fail
  refine kc'.mono ?_
  rintro e w2 ⟨rfl, hb2⟩
  have HB2 := sb HB1 hb2
  clear kc kc' z HB1 HX1 hb2
  go_wp2
  go_ret
  exact ⟨by rw [← HR.out, if_neg (by simp), HCC.out]; rfl, HB2.out⟩
 ·have hdb : (d != 0) = true := by rw [bne_iff_ne]; exact hd
  have hR : Hid (R = d) := by rw [Hid, ← HR.out, if_pos hd]
  clear kc hd
  go_wp2
  go_ret
  exact ⟨by rw [hR.out]; rfl, HB1.out⟩
theorem w_check (vn vc : Value) (xs : List Nb) (cs : List Cb) (tip t : Int) (w : World) (hL : Laid w) (h : WdAt w vn vc xs cs) (hf : WdFits xs cs) :
  Calls Tryz.prog 11 #[wval vn tip vc t] w fun e w' => e = .returned (.int .i64 (wdOf xs tip cs t).ck) ∧ Below w.heap.size w w' := by
 obtain ⟨a1, n1, c1, rfl⟩ := slOf_sl h.rowN
 obtain ⟨a2, n2, c2, rfl⟩ := slOf_sl h.rowC
 have e1 := SlOf.len h.rowN
 have e2 := SlOf.len h.rowC
 unfold Wd.ck
 simp only [nodesOf, clientsOf, List.length_map, e1, e2]
 by_cases g1 : n1 = 3
 ·subst g1
  by_cases g2 : n2 = 3
  ·subst g2
   rw [if_neg (by simp)]
   by_cases r : (0 ≤ tip ∧ tip ≤ 60) ∧ (0 ≤ t ∧ t ≤ 100000)
   ·rw [if_neg (not_not_intro r)]
    obtain ⟨b, off, rfl, hE⟩ := SlOf.at h.rowN (by omega)
    obtain ⟨g, go, rfl, hR⟩ := SlOf.at h.rowC (by omega)
    have hN := h.node
    have hfc := hf.cells; have hfs := hf.safe; have hfw := hf.wait
    match xs, e1 with
    | [⟨N0, v0, s0, w0⟩, ⟨N1, v1, s1, w1⟩, ⟨N2, v2, s2, w2⟩], _ =>
    have t0 := hN _ (List.mem_cons_self ..)
    have t1 := hN _ (List.mem_cons_of_mem _ (List.mem_cons_self ..))
    have t2 := hN _ (List.mem_cons_of_mem _ (List.mem_cons_of_mem _ (List.mem_cons_self ..)))
    have c0' := hfc _ (List.mem_cons_self ..)
    have s0' := hfs _ (List.mem_cons_self ..)
    have w0' := hfw _ (List.mem_cons_self ..)
    have c1' := hfc _ (List.mem_cons_of_mem _ (List.mem_cons_self ..))
    have s1' := hfs _ (List.mem_cons_of_mem _ (List.mem_cons_self ..))
    have w1' := hfw _ (List.mem_cons_of_mem _ (List.mem_cons_self ..))
    have c2' := hfc _ (List.mem_cons_of_mem _ (List.mem_cons_of_mem _ (List.mem_cons_self ..)))
    have s2' := hfs _ (List.mem_cons_of_mem _ (List.mem_cons_of_mem _ (List.mem_cons_self ..)))
    have w2' := hfw _ (List.mem_cons_of_mem _ (List.mem_cons_of_mem _ (List.mem_cons_self ..)))
    obtain ⟨sa0, sm0, sc0, rfl⟩ : ∃ a n c, v0 = .slice a n c := roomy_sl t0.unit.room
    obtain ⟨ta0, tm0, tc0, rfl⟩ : ∃ a n c, s0 = .slice a n c := roomy_sl t0.disk.room1
    obtain ⟨ua0, um0, uc0, rfl⟩ : ∃ a n c, w0 = .slice a n c := roomy_sl t0.disk.room2
    obtain ⟨sa1, sm1, sc1, rfl⟩ : ∃ a n c, v1 = .slice a n c := roomy_sl t1.unit.room
    obtain ⟨ta1, tm1, tc1, rfl⟩ : ∃ a n c, s1 = .slice a n c := roomy_sl t1.disk.room1
    obtain ⟨ua1, um1, uc1, rfl⟩ : ∃ a n c, w1 = .slice a n c := roomy_sl t1.disk.room2
    obtain ⟨sa2, sm2, sc2, rfl⟩ : ∃ a n c, v2 = .slice a n c := roomy_sl t2.unit.room
    obtain ⟨ta2, tm2, tc2, rfl⟩ : ∃ a n c, s2 = .slice a n c := roomy_sl t2.disk.room1
    obtain ⟨ua2, um2, uc2, rfl⟩ : ∃ a n c, w2 = .slice a n c := roomy_sl t2.disk.room2
    refine (check_at b off c1 N0 N1 N2 sa0 ta0 ua0 sm0 sc0 tm0 tc0 um0 uc0 sa1 ta1 ua1 sm1 sc1 tm1 tc1 um1 uc1 sa2 ta2 ua2 sm2 sc2 tm2 tc2 um2 uc2 g go c2 cs tip t w hL hE t0 t1 t2 (fun n hn => ?_) hR h.client e2 (by omega) (by omega) (by omega) (by omega)).mono fun _ _ h => h
    simp only [List.mem_cons, List.not_mem_nil, or_false] at hn
    rcases hn with rfl | rfl | rfl
    ·exact ⟨c0', s0', w0'⟩
    ·exact ⟨c1', s1', w1'⟩
    ·exact ⟨c2', s2', w2'⟩
   ·rw [if_pos r]
    by_cases q1 : tip < 0
    ·exact check_range1 _ _ _ _ tip t w q1
    by_cases q2 : 60 < tip
    ·exact check_range2 _ _ _ _ tip t w q1 q2
    by_cases q3 : t < 0
    ·exact check_range3 _ _ _ _ tip t w q1 q2 q3
    ·exact check_range4 _ _ _ _ tip t w q1 q2 q3 (by omega)
  ·rw [if_pos (by simp [g2])]
   exact check_form2 _ _ _ _ _ tip t w (by rw [bne_iff_ne]; omega)
 ·rw [if_pos (by simp [g1])]
  exact check_form1 _ _ _ _ _ _ tip t w (by rw [bne_iff_ne]; omega)
end
end Go.Proofs.YtmoaobfmopimlafGreatDoor
