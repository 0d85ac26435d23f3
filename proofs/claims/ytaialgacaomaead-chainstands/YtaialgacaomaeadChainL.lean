/- The walk of ChainStands where nothing is written. -/
import Derived.Test.YtaialgacaomaeadChainH
import Derived.Test.YtaialgacaomaeadChainJ
import Derived.Test.YtaialgacaomaeadChainK
namespace Go.Proofs.Ytaialgacaomaead
open Go.RowKit
open scoped Classical

/-- What Check's guard reads. -/
abbrev CkS (W w : World) (g k : Nat) (s : Value) (bs os m : Nat) (y : En) (sb : Nat) (z : En) : Prop :=
  Below W.heap.size W w ∧ w.cell? ⟨g, k * 2 + 1, none⟩ = some s ∧ (w.cell? ⟨bs, os + m * 5, none⟩ = some (.int .i64 y.k) ∧ w.cell? ⟨bs, os + m * 5 + 1, none⟩ = some (.int .i64 y.j) ∧ w.cell? ⟨bs, os + m * 5 + 2, none⟩ = some (.int .i64 y.v) ∧ w.cell? ⟨bs, os + m * 5 + 3, none⟩ = some (.int .i64 y.t) ∧ w.cell? ⟨bs, os + m * 5 + 4, none⟩ = some (.int .i64 y.c)) ∧ C5 w sb z
theorem ckS_step {W w w' : World} {g k : Nat} {s : Value} {bs os m : Nat} {y : En} {sb : Nat} {z : En} (h : CkS W w g k s bs os m y sb z) (hb : Below w.heap.size w w') : CkS W w' g k s bs os m y sb z :=
  ⟨h.1.trans (hb.mono h.1.size), cell_later hb h.2.1, ⟨cell_later hb h.2.2.1.1, cell_later hb h.2.2.1.2.1, cell_later hb h.2.2.1.2.2.1, cell_later hb h.2.2.1.2.2.2.1, cell_later hb h.2.2.1.2.2.2.2⟩, ⟨cell_later hb h.2.2.2.1, cell_later hb h.2.2.2.2.1, cell_later hb h.2.2.2.2.2.1, cell_later hb h.2.2.2.2.2.2.1, cell_later hb h.2.2.2.2.2.2.2⟩⟩

set_option linter.unusedSimpArgs false in
set_option maxHeartbeats 4000000 in
set_option maxRecDepth 100000 in
theorem stands_none (hC : Chains) (hN : UnitN) (b off c kk aa : Nat) (xs : List Ub) (ep : Int) (x s : En) (u : Un) (w : World) (h : ChAt w (.slice (some ⟨b, off, none⟩) 3 c) xs) (hf : Fits xs) (hck : ckChain (unitsOf xs) = 0) (hkk : kk < 3) (haa : aa < 60)
    (hl : linkOf (unitsOf xs) (kk : Int) (aa : Int) x ep = (Rc.zero, s, 0)) (hu : (unitsOf xs)[kk]? = some u) (hs : u.cells[aa]? = some s) :
    Calls Try.prog 6 #[.slice (some ⟨b, off, none⟩) 3 c, .int .i64 (kk : Int), .int .i64 (aa : Int), x.val, .int .i64 ep] w fun e w' => e = .returned (.bool true) ∧ Below w.heap.size w w' := by
  have HC : Aside Chains := hC
  have HCL : Aside (∀ W, Below w.heap.size w W → ChAt W (.slice (some ⟨b, off, none⟩) 3 c) xs) := fun W hb => h.later hb
  have HFX : Aside (Fits xs) := hf
  have k1 := fun W (hb : Below w.heap.size w W) => hC.link _ xs (kk : Int) (aa : Int) ep x W (h.later hb) hf
  rw [hl] at k1
  replace k1 : ∀ W, Below w.heap.size w W → Calls Try.prog 20 #[.slice (some ⟨b, off, none⟩) 3 c, .int .i64 (kk : Int), .int .i64 (aa : Int), x.val, .int .i64 ep] W fun e w' => e = .returned (.tuple #[Rc.zero.val, s.val, .int .i64 0]) ∧ Below W.heap.size W w' := k1
  have k5 := fun W => linked_any hC hN W
  have k6 := fun W (hb : Below w.heap.size w W) => clone3 b off c xs W (h.later hb)
  have HCK : Hid (ckChain (unitsOf xs) = 0 ∧ (unitsOf xs)[kk]? = some u ∧ u.cells[aa]? = some s) := ⟨hck, hu, hs⟩
  have hki : (kk : Int) < 3 := by omega
  have hk0 : (0 : Int) ≤ (kk : Int) := by omega
  have hai : (aa : Int) < 60 := by omega
  have ha0 : (0 : Int) ≤ (aa : Int) := by omega
  have hB0 := grew (Below.refl w.heap.size w) (boxE x.k x.j x.v x.t x.c)
  have k1' := k1 _ hB0
  have HB0 : Aside _ := hB0
  clear hC hN h hf hck hl hu hs hB0 k1
  go_enter Try.func6, Try.ntmps6
  go_wp2_with fail
  refine k1'.mono ?_
  rintro e w1 ⟨rfl, hb⟩
  have hga := grew (grew hb (boxRc Rc.zero)) (boxE s.k s.j s.v s.t s.c)
  have hB1 := step_below1 HB0.out hga
  have hr1 := heap_old (heap_new w1 (boxRc Rc.zero)) (boxE s.k s.j s.v s.t s.c)
  have hs1 := heap_new (w1.alloc (boxRc Rc.zero)) (boxE s.k s.j s.v s.t s.c)
  rw [World.size_alloc] at hs1
  have HB1 : Aside _ := hB1
  have HR1 : Aside _ := hr1
  have HS1 : Aside _ := hs1
  clear hb hga hB1 hr1 hs1 HB0 k1'
  go_upto_region 2 with fail
  generalize (w1.alloc (boxRc Rc.zero)).alloc (boxE s.k s.j s.v s.t s.c) = Y1 at *
  generalize w1.heap.size = rb at *
  go_wp2_with fail
  refine (k5 _).mono ?_
  rintro e w2 ⟨rfl, hb⟩
  have hB2 := step_below1 HB1.out hb
  have HR2 : Aside _ := heap_below HR1.out hb (heap_lt HR1.out)
  have HS2 : Aside _ := heap_below HS1.out hb (heap_lt HS1.out)
  have k6' := k6 _ hB2
  have HB2 : Aside _ := hB2
  clear hb hB2 HB1 HR1 HS1 k5 k6
  go_wp2_with fail
  refine k6'.mono ?_
  rintro e w3 ⟨g, cap, tl, rfl, hrow, hb⟩
  have hB3 := step_below1 HB2.out hb
  have hr3 := heap_below HR2.out hb (heap_lt HR2.out)
  have HS3 : Aside _ := heap_below HS2.out hb (heap_lt HS2.out)
  have HROW : Aside _ := hrow
  have HB3 : Aside _ := hB3
  have zr : ∀ i, w3.cell? ⟨rb, i, none⟩ = #[Value.int .i64 0, .int .i64 0, .int .i64 0, .int .i64 0, .int .i64 0, .int .i64 0, .int .i64 0, .int .i64 0][i]? := fun i => Joins.cell_of_block hr3 i
  clear hb hB3 hr3 hrow k6' HB2 HR2 HS2
  obtain ⟨q, hq⟩ : ∃ q, xs[kk]? = some q := ⟨xs[kk]'(by have := HROW.out.len; omega), List.getElem?_eq_getElem _⟩
  obtain ⟨uq, vq⟩ := q
  have huu : uq = u := by
    have := HCK.out.2.1
    rw [List.getElem?_map, hq] at this
    exact Option.some.inj this
  subst huu
  have hcm := HROW.out.ch
  have huq := hcm.each ⟨uq, vq⟩ (List.mem_of_getElem? hq)
  obtain ⟨aq, nq, cq, e, _⟩ := id huq.room
  dsimp only at e
  subst e
  obtain ⟨g', o', eg, hrw⟩ := hcm.rows.at (by omega)
  injection eg with eg
  injection eg with eg1 eg2 _
  subst eg1 eg2
  have r1 : w3.cell? ⟨g, kk * 2 + 1, none⟩ = some (.slice aq nq cq) := by have := hrw kk _ hq 1 _ rfl; rwa [Nat.zero_add] at this
  have hnl : aa < nq := by
    have h1 := (List.getElem?_eq_some_iff.1 HCK.out.2.2).1
    have h2 : uq.cells.length = nq := SlOf.len (cs := En.cells) (k := 5) huq.ents
    omega
  obtain ⟨bq, oq, eq', hEq⟩ := SlOf.at (cs := En.cells) (k := 5) huq.ents (by omega)
  subst eq'
  have hS0 : CkS w3 w3 g kk (.slice (some ⟨bq, oq, none⟩) nq cq) bq oq aa s (rb + 1) s := ⟨Below.refl _ _, r1, ⟨hEq aa s HCK.out.2.2 0 _ rfl, hEq aa s HCK.out.2.2 1 _ rfl, hEq aa s HCK.out.2.2 2 _ rfl, hEq aa s HCK.out.2.2 3 _ rfl, hEq aa s HCK.out.2.2 4 _ rfl⟩, c5_of HS3.out⟩
  have hnn : (aa : Int) < (nq : Int) := by omega
  have hbd : Below w3.heap.size w3 w3.drew := (Below.refl _ _).drew
  have kc := fun W (hb : Below w3.heap.size w3 W) => HC.out.check _ xs W (HROW.out.later hb).ch HFX.out
  rw [HCK.out.1] at kc
  have hne := fun W => neq_entry s.k s.j s.v s.t s.c s.k s.j s.v s.t s.c W
  rw [show unlike s.k s.j s.v s.t s.c s.k s.j s.v s.t s.c = false by simp [unlike]] at hne
  clear hcm huq hrw hEq hq r1
  go_wp2_with fail
  clear zr
  go_region_held3 (fun w' => CkS w3 w' g kk (.slice (some ⟨bq, oq, none⟩) nq cq) bq oq aa s (rb + 1) s) (exact ckS_step (by assumption) (by assumption)) (first | (go_at_call 25; refine (kc _ (by exact (‹CkS _ _ _ _ _ _ _ _ _ _ _›).1)).mono ?_; rintro e V ⟨rfl, hbV⟩))
  rename_i hS
  have hV := hS.1
  have HBV : Aside (Below w.heap.size w V) := HB3.out.trans (hV.mono HB3.out.size)
  obtain ⟨ys, hys⟩ : ∃ ys, ys = xs := ⟨xs, rfl⟩
  have HCM : Aside (∀ W, Below V.heap.size V W → ChAt W (.slice (some ⟨g, 0, none⟩) 3 cap) ys) := fun W hb => by rw [hys]; exact (HROW.out.later (hV.trans (hb.mono hV.size))).ch
  have HFY : Aside (Fits ys) := by rw [hys]; exact HFX.out
  have HRD : Aside (∀ i : Nat, i < 60 → (readOf (unitsOf xs) (i : Int)).2 ≠ 0 ∨ ∃ y, readOf (unitsOf xs) (i : Int) = (y, 0) ∧ readOf (unitsOf ys) (i : Int) = (y, 0) ∧ ∀ (k : Nat) (u : Un), (unitsOf ys)[k]? = some u → u.cells[i]? = some y) := fun i hi => by rw [hys]; exact st_read HCK.out.1 (fun _ _ _ => rfl) hi
  clear hys
  clear hS hS0 hbd hbV hV kc hne HB3 HS3 HROW
  go_wp2
  go_loopw [87] (fun i wr => ∃ n : Nat, n ≤ 60 ∧ i = .int .i64 n ∧ Below V.heap.size V wr) (fun i _ => 60 - (intOf i).toNat)
  case atStart => exact ⟨0, Nat.zero_le _, rfl, Below.refl _ _⟩
  case round =>
    obtain ⟨n, hn, rfl, hB⟩ := hrel
    by_cases hlt : n < 60
    · have hBw := HBV.out.trans (hB.mono HBV.out.size)
      have k1 := HC.out.read _ xs (n : Int) wr (HCL.out _ hBw) HFX.out
      have k2 := fun W (hb : Below V.heap.size V W) => HC.out.read _ ys (n : Int) W (HCM.out _ hb) HFY.out
      have hrd := HRD.out n hlt
      have hni : (n : Int) < 60 := by omega
      have hn0 : (0 : Int) ≤ (n : Int) := by omega
      obtain ⟨⟨y, f⟩, hq⟩ : ∃ q, readOf (unitsOf xs) (n : Int) = q := ⟨_, rfl⟩
      obtain ⟨⟨y', f'⟩, hq'⟩ : ∃ q, readOf (unitsOf ys) (n : Int) = q := ⟨_, rfl⟩
      rw [hq] at k1 hrd
      rw [hq'] at k2 hrd
      have HRN : Hid (f ≠ 0 ∨ (f = 0 ∧ f' = 0 ∧ y' = y ∧ ∀ (k : Nat) (u : Un), (unitsOf ys)[k]? = some u → u.cells[n]? = some y)) := by
        rcases hrd with hh | ⟨z, e1, e2, hh⟩
        · exact Or.inl hh
        · injection e1 with e3 e4
          injection e2 with e5 e6
          exact Or.inr ⟨e4, e6, by rw [e5, e3], fun k u hu => by rw [e3]; exact hh k u hu⟩
      replace k1 : Calls Try.prog 21 #[.slice (some ⟨b, off, none⟩) 3 c, .int .i64 (n : Int)] wr fun e w' => e = .returned (.tuple #[y.val, .int .i64 f]) ∧ Below wr.heap.size wr w' := k1
      replace k2 : ∀ W, Below V.heap.size V W → Calls Try.prog 21 #[.slice (some ⟨g, 0, none⟩) 3 cap, .int .i64 (n : Int)] W fun e w' => e = .returned (.tuple #[y'.val, .int .i64 f']) ∧ Below W.heap.size W w' := k2
      have HB0 : Aside _ := hB
      clear hq hq' hrd hBw hB
      go_wp2_with fail
      refine k1.mono ?_
      rintro e z1 ⟨rfl, hz1⟩
      have hB1 : Below V.heap.size V (z1.alloc (boxE y.k y.j y.v y.t y.c)) := grew (step_below1 HB0.out hz1) _
      have HY1 : Aside _ := heap_new z1 (boxE y.k y.j y.v y.t y.c)
      have k2' := k2 _ hB1
      have HB1 : Aside _ := hB1
      clear k1 hz1 hB1 k2 HB0
      go_upto_region 16 with fail
      generalize z1.alloc (boxE y.k y.j y.v y.t y.c) = Z1 at *
      generalize z1.heap.size = yb at *
      go_wp2_with fail
      refine k2'.mono ?_
      rintro e z2 ⟨rfl, hz2⟩
      have hga := grew hz2 (boxE y'.k y'.j y'.v y'.t y'.c)
      have hB2 := step_below1 HB1.out hga
      have HY2 : Aside _ := heap_below HY1.out hga (heap_lt HY1.out)
      have HQ2 : Aside _ := heap_new z2 (boxE y'.k y'.j y'.v y'.t y'.c)
      have HB2 : Aside _ := hB2
      clear k2' hz2 hga hB2 HY1 HB1
      go_upto_region 17 with fail
      generalize z2.alloc (boxE y'.k y'.j y'.v y'.t y'.c) = Z2 at *
      generalize z2.heap.size = qb at *
      have zy : ∀ i, Z2.cell? ⟨yb, i, none⟩ = #[Value.int .i64 y.k, .int .i64 y.j, .int .i64 y.v, .int .i64 y.t, .int .i64 y.c][i]? := fun i => Joins.cell_of_block HY2.out i
      have zq : ∀ i, Z2.cell? ⟨qb, i, none⟩ = #[Value.int .i64 y'.k, .int .i64 y'.j, .int .i64 y'.v, .int .i64 y'.t, .int .i64 y'.c][i]? := fun i => Joins.cell_of_block HQ2.out i
      by_cases hf : f = 0
      · obtain ⟨_, hf', hyy, hall⟩ := HRN.out.resolve_left (fun hh => hh hf)
        subst hf hf' hyy
        have HALL : Hid (∀ (k : Nat) (u : Un), (unitsOf ys)[k]? = some u → u.cells[n]? = some y') := hall
        have hne := fun W => neq_entry y'.k y'.j y'.v y'.t y'.c y'.k y'.j y'.v y'.t y'.c W
        rw [show unlike y'.k y'.j y'.v y'.t y'.c y'.k y'.j y'.v y'.t y'.c = false by simp [unlike]] at hne
        clear hall HRN
        go_wp2
        go_loopw [117] (fun i wi => ∃ j : Nat, j ≤ 3 ∧ i = .int .i64 j ∧ Below Z2.heap.size Z2 wi) (fun i _ => 3 - (intOf i).toNat)
        case atStart => exact ⟨0, Nat.zero_le _, rfl, Below.refl _ _⟩
        case round =>
          obtain ⟨j, hj, rfl, hBi⟩ := hrel
          by_cases hjl : j < 3
          · have hBV2 := HB2.out.trans (hBi.mono HB2.out.size)
            have hcm := HCM.out _ hBV2
            obtain ⟨q, hq⟩ : ∃ q, ys[j]? = some q := ⟨ys[j]'(by have := hcm.rows.len; omega), List.getElem?_eq_getElem _⟩
            obtain ⟨uq, vq⟩ := q
            have huq := hcm.each ⟨uq, vq⟩ (List.mem_of_getElem? hq)
            obtain ⟨aq, nq, cq, e, _⟩ := id huq.room
            dsimp only at e
            subst e
            obtain ⟨g', o', eg, hrow⟩ := hcm.rows.at (by omega)
            injection eg with eg
            injection eg with eg1 eg2 _
            subst eg1 eg2
            have r0 : wr.cell? ⟨g, j * 2, none⟩ = some (.int .i64 uq.p) := by have := hrow j _ hq 0 _ rfl; rwa [Nat.zero_add, Nat.add_zero] at this
            have r1 : wr.cell? ⟨g, j * 2 + 1, none⟩ = some (.slice aq nq cq) := by have := hrow j _ hq 1 _ rfl; rwa [Nat.zero_add] at this
            have hcell := HALL.out j uq (by rw [List.getElem?_map, hq]; rfl)
            have hnl : n < nq := by
              have h1 := (List.getElem?_eq_some_iff.1 hcell).1
              have h2 : uq.cells.length = nq := SlOf.len (cs := En.cells) (k := 5) huq.ents
              omega
            obtain ⟨bq, oq, eq', hEq⟩ := SlOf.at (cs := En.cells) (k := 5) (huq.later (grew (Below.refl wr.heap.size wr) (boxU uq.p (.slice aq nq cq)))).ents (by omega)
            subst eq'
            have d0 := hEq n y' hcell 0 _ rfl
            have d1 := hEq n y' hcell 1 _ rfl
            have d2 := hEq n y' hcell 2 _ rfl
            have d3 := hEq n y' hcell 3 _ rfl
            have d4 := hEq n y' hcell 4 _ rfl
            rw [Nat.add_zero] at d0
            have zu : ∀ i, (wr.alloc (boxU uq.p (.slice (some ⟨bq, oq, none⟩) nq cq))).cell? ⟨wr.heap.size, i, none⟩ = #[Value.int .i64 uq.p, .slice (some ⟨bq, oq, none⟩) nq cq][i]? := fun i => Joins.cell_of_block (heap_new _ _) i
            have hy3 := heap_below HY2.out (grew hBi (boxU uq.p (.slice (some ⟨bq, oq, none⟩) nq cq))) (heap_lt HY2.out)
            have zy3 : ∀ i, (wr.alloc (boxU uq.p (.slice (some ⟨bq, oq, none⟩) nq cq))).cell? ⟨yb, i, none⟩ = #[Value.int .i64 y'.k, .int .i64 y'.j, .int .i64 y'.v, .int .i64 y'.t, .int .i64 y'.c][i]? := fun i => Joins.cell_of_block hy3 i
            have HBi : Aside _ := grew hBi (boxU uq.p (.slice (some ⟨bq, oq, none⟩) nq cq))
            have hnn : (n : Int) < (nq : Int) := by omega
            clear hrow hcm huq hq hcell hEq hBV2 hBi hy3
            go_upto_region 23 with fail
            generalize wr.alloc (boxU uq.p (.slice (some ⟨bq, oq, none⟩) nq cq)) = Z at *
            generalize wr.heap.size = ub at *
            clear r0 r1
            go_quiet (fail)
            go_wp2
            go_roundw
            case rel => exact ⟨j + 1, by omega, by go_num, below_drewN HBi.out _⟩
            case measure => simp [intOf]; omega
          · obtain rfl : j = 3 := by omega
            have HBn : Aside (Below V.heap.size V wr) := HB2.out.trans (hBi.mono HB2.out.size)
            clear hBi
            go_wp2
            go_roundw
            case rel => exact ⟨n + 1, by omega, by go_num, HBn.out⟩
            case measure => simp [intOf]; omega
      · have hfa : (f == 0) = false := by rw [beq_eq_false_iff_ne]; exact hf
        have hfb : (f != 0) = true := by rw [bne_iff_ne]; exact hf
        clear hf HRN
        go_wp2
        go_roundw
        case rel => exact ⟨n + 1, by omega, by go_num, HB2.out⟩
        case measure => simp [intOf]; omega
    · obtain rfl : n = 60 := by omega
      have HBE : Aside _ := HBV.out.trans (hB.mono HBV.out.size)
      clear hB
      go_wp2
      go_ret
      exact ⟨rfl, HBE.out⟩

end Go.Proofs.Ytaialgacaomaead
