/- The walk of the reference's LivesOf. -/
import Derived.Test.YtjbcfflbfnddeacFairE
import Derived.Test.YtjbcfflbfnddeacFairN
import Derived.Test.YtjbcfflbfnddeacRefB
import Derived.Laws.OwnMore
import Derived.Deep.AppendLies
namespace Go.Proofs.Ytjbcfflbfnddeac
open Go.RowKit Go.Maps

theorem lifeAt_iff {ls : List Lf} (h : Lok ls) {i : Int} {k : Nat} : lifeAt ls i = some k ↔ ∃ y, ls[k]? = some y ∧ y.o = false ∧ y.j = i := by
  constructor
  · intro hl
    obtain ⟨y, h1, h2, h3⟩ := lifeAt_some hl
    exact ⟨y, h1, h3, h2⟩
  · rintro ⟨y, h1, h2, rfl⟩
    exact h.at h1 h2

theorem lifeAt_put {ls : List Lf} {y : Lf} (h : Lok ls) (h' : Lok (ls ++ [y])) (ho : y.o = false) (i : Int) : lifeAt (ls ++ [y]) i = if i = y.j then some ls.length else lifeAt ls i := by
  by_cases hi : i = y.j
  · rw [if_pos hi, hi]
    exact h'.at (by simp) ho
  · rw [if_neg hi]
    refine opt_ext fun k => ?_
    rw [lifeAt_iff h', lifeAt_iff h]
    constructor
    · rintro ⟨z, hz, zo, zj⟩
      have hlt := (List.getElem?_eq_some_iff.1 hz).1
      rcases Nat.lt_or_ge k ls.length with l | l
      · rw [List.getElem?_append_left l] at hz
        exact ⟨z, hz, zo, zj⟩
      · have hk : k = ls.length := by simp at hlt; omega
        subst hk
        rw [List.getElem?_append_right (Nat.le_refl _)] at hz
        simp at hz
        exact absurd (by rw [← zj, ← hz]) hi
    · rintro ⟨z, hz, zo, zj⟩
      exact ⟨z, by rw [List.getElem?_append_left (List.getElem?_eq_some_iff.1 hz).1]; exact hz, zo, zj⟩

theorem lifeAt_drop {ls : List Lf} {k : Nat} {y z : Lf} (h : Lok ls) (h' : Lok (ls.set k z)) (hy : ls[k]? = some y) (hyo : y.o = false) (hz : z.o = true) (i : Int) : lifeAt (ls.set k z) i = if i = y.j then none else lifeAt ls i := by
  refine opt_ext fun m => ?_
  rw [lifeAt_iff h']
  by_cases hi : i = y.j
  · rw [if_pos hi]
    constructor
    · rintro ⟨u, hu, uo, uj⟩
      rw [List.getElem?_set] at hu
      split at hu
      · split at hu
        · obtain rfl : z = u := by simpa using hu
          rw [hz] at uo; cases uo
        · cases hu
      · rename_i hkm
        exact absurd (h.one k m y u hy hu hyo uo (by rw [uj, hi])) hkm
    · intro h; cases h
  · rw [if_neg hi, lifeAt_iff h]
    constructor
    · rintro ⟨u, hu, uo, uj⟩
      rw [List.getElem?_set] at hu
      split at hu
      · split at hu
        · obtain rfl : z = u := by simpa using hu
          rw [hz] at uo; cases uo
        · cases hu
      · exact ⟨u, hu, uo, uj⟩
    · rintro ⟨u, hu, uo, uj⟩
      refine ⟨u, ?_, uo, uj⟩
      rw [List.getElem?_set, if_neg]
      · exact hu
      · rintro rfl
        rw [hy] at hu
        obtain rfl : y = u := by simpa using hu
        exact hi uj.symm

theorem lifeAt_ring {ls : List Lf} {k : Nat} {y z : Lf} (h : Lok ls) (h' : Lok (ls.set k z)) (hy : ls[k]? = some y) (hj : z.j = y.j) (ho : z.o = y.o) (i : Int) : lifeAt (ls.set k z) i = lifeAt ls i := by
  refine opt_ext fun m => ?_
  rw [lifeAt_iff h', lifeAt_iff h, List.getElem?_set]
  by_cases hkm : k = m
  · subst hkm
    rw [if_pos rfl, if_pos (List.getElem?_eq_some_iff.1 hy).1, hy]
    constructor
    · rintro ⟨u, hu, uo, uj⟩
      obtain rfl : z = u := by simpa using hu
      exact ⟨y, rfl, by rw [← ho]; exact uo, by rw [← hj]; exact uj⟩
    · rintro ⟨u, hu, uo, uj⟩
      obtain rfl : y = u := by simpa using hu
      exact ⟨z, rfl, by rw [ho]; exact uo, by rw [hj]; exact uj⟩
  · rw [if_neg hkm]

/-- Where LivesOf's round stands: the lives in a row of its own, where each one stands in the map. -/
structure Lst (w W : World) (v : Value) (m n : Nat) (ls : List Lf) : Prop where
  row : W.ownsRow (w.heap.size + 1) 30 5 v m (ls.flatMap Lf.cells)
  map : MapIs W w.heap.size n fun i => (lifeAt ls i).map fun k : Nat => (k : Int)
  lok : Lok ls
  below : Below w.heap.size w W
  len : ls.length = m

theorem Lst.later {w W W' : World} {v : Value} {m n : Nat} {ls : List Lf} (h : Lst w W v m n ls) (hb : Below W.heap.size W W') : Lst w W' v m n ls :=
  ⟨owns_keep h.row fun _ _ _ hc => heap_below hc hb (heap_lt hc), h.map.later hb, h.lok, h.below.trans (hb.mono h.below.size), h.len⟩

theorem owns_turned {w w' : World} {b base : Nat} {e : TypeId} {size : Nat} {v : Value} {n : Nat} {xs : List Value} (ht : w.mapTurned w' b) (h : w.ownsRow base e size v n xs) : w'.ownsRow base e size v n xs :=
  owns_keep h fun g cur _ hc => by
    have hne : g ≠ b := by
      rintro rfl
      obtain ⟨es, clock, _, _, hb, _⟩ := ht
      rw [hb] at hc; cases hc
    exact (turned_old ht hne (heap_lt hc)).trans hc

set_option maxHeartbeats 1000000 in
theorem lives_many (a : Option Addr) (n c : Nat) (w : World) (hn : 60 < (n : Int)) :
    Calls Try.prog 7 #[.slice a n c] w fun e w' => e = .returned (.tuple #[nil0, .int .i64 2]) ∧ w' = w := by
  go_enter Try.func7, Try.ntmps7
  go_wp2
  exact bodyPost_ret (v := .tuple #[nil0, .int .i64 2]) (by simp [results, Try.results7, go_sem]) rfl ⟨rfl, rfl⟩

set_option linter.unusedSimpArgs false in
set_option maxHeartbeats 8000000 in
set_option maxRecDepth 100000 in
theorem lives_few (a : Option Addr) (n0 c : Nat) (es : List En) (w : World) (h : EntSl w (.slice a n0 c) es) (hn : es.length = n0) (h60 : (n0 : Int) ≤ 60) :
    Calls Try.prog 7 #[.slice a n0 c] w fun e w' => ∃ u, e = .returned (.tuple #[u, .int .i64 (lfold [] es).2]) ∧ LifeSl w' u (lfold [] es).1 ∧ Below w.heap.size w w' := by
  have hmm := @run_makeMap Try.prog
  obtain ⟨i0, hi, hz0, hz1, hz2⟩ := info_parts infoL
  have HN : Hid (es.length = n0) := hn
  have HE : Hid (EntSl w (.slice a n0 c) es) := h
  have HS0 : Aside (Lst w (w.alloc (.map #[] 0)) nil0 0 0 []) := ⟨World.ownsRow_nil _ _ _ _, mapIs_made w, lok_nil, grew (Below.refl _ _) _, rfl⟩
  clear hn h hi hz0 hz1 hz2
  go_enter Try.func7, Try.ntmps7
  go_wp2
  go_loopw [4, 6, 18] (fun l s i wr => ∃ (k m n : Nat) (lv : Int) (ls : List Lf), k ≤ n0 ∧ i = .int .i64 k ∧ s = .int .i64 lv ∧ 0 ≤ lv ∧ lv ≤ k ∧ n ≤ k ∧ m ≤ k ∧ Aside (Lst w wr l m n ls) ∧ Hid (allR ls = lv) ∧ Hid (lfold [] es = lfold ls (es.drop k))) (fun _ _ i _ => n0 - (intOf i).toNat)
  case atStart => exact ⟨0, 0, 0, 0, [], Nat.zero_le _, rfl, rfl, Int.le_refl _, by omega, Nat.le_refl _, Nat.le_refl _, HS0, rfl, rfl⟩
  case round =>
    obtain ⟨k, m, n, lv, ls, hk, rfl, rfl, hl0, hlk, hnk, hmk, HS, HA, hst⟩ := hrel
    by_cases hlt : k < n0
    · obtain ⟨x, hx⟩ : ∃ x, es[k]? = some x := ⟨es[k]'(by have := HN.out; omega), List.getElem?_eq_getElem _⟩
      obtain ⟨b, off, rfl, hE0⟩ : ∃ b off, a = some ⟨b, off, none⟩ ∧ EntsAt w b off es := by
        obtain ⟨a', c', e, hc⟩ := HE.out
        injection e with e1 e2 e3
        subst e1
        rcases hc with hc | hc
        · omega
        · exact hc
      have hE := hE0.later HS.out.below
      have d0 : wr.cell? ⟨b, off + k * 5, none⟩ = some (.int .i64 x.k) := hE k x hx 0 _ rfl
      have d1 : wr.cell? ⟨b, off + k * 5 + 1, none⟩ = some (.int .i64 x.j) := hE k x hx 1 _ rfl
      have d2 : wr.cell? ⟨b, off + k * 5 + 2, none⟩ = some (.int .i64 x.v) := hE k x hx 2 _ rfl
      have d3 : wr.cell? ⟨b, off + k * 5 + 3, none⟩ = some (.int .i64 x.t) := hE k x hx 3 _ rfl
      have d4 : wr.cell? ⟨b, off + k * 5 + 4, none⟩ = some (.int .i64 x.c) := hE k x hx 4 _ rfl
      have hce := ref_check x.k x.j x.v x.t x.c (wr.alloc (boxE x.k x.j x.v x.t x.c))
      have HD : Hid (lfold [] es = lfold ls (x :: es.drop (k + 1))) := by rw [Hid, hst.out, drop_at hx]
      have hXb : (wr.alloc (boxE x.k x.j x.v x.t x.c)).heap[wr.heap.size]? = some (boxE x.k x.j x.v x.t x.c) := heap_new _ _
      have HSa := HS.out.later (grew (Below.refl wr.heap.size wr) (boxE x.k x.j x.v x.t x.c))
      have hM0 := HS.out.map.lt
      clear hE hE0 hx hst HE HS0 HS
      change Calls _ _ _ _ fun e w' => e = .returned (.int .i64 x.chk) ∧ _ at hce
      obtain ⟨d, hd⟩ : ∃ d, Hid (x.chk = d) := ⟨_, rfl⟩
      rw [hd.out] at hce
      go_wp2_with fail
      refine hce.mono ?_
      rintro e w1 ⟨rfl, hb1⟩
      have HS1 : Aside (Lst w w1 u4 m n ls) := HSa.later hb1
      have hX1 : w1.heap[wr.heap.size]? = some (boxE x.k x.j x.v x.t x.c) := heap_below hXb hb1 (heap_lt hXb)
      have zX : ∀ i, w1.cell? ⟨wr.heap.size, i, none⟩ = #[Value.int .i64 x.k, .int .i64 x.j, .int .i64 x.v, .int .i64 x.t, .int .i64 x.c][i]? := fun i => Joins.cell_of_block hX1 i
      have hM := HS1.out.map.lt
      have hwsz : w.heap.size < wr.heap.size := hM0
      clear hce hb1 hXb HSa d0 d1 d2 d3 d4
      by_cases he : d = 0
      · subst he
        have hxc : x.chk = 0 := hd.out
        have HF : Hid (lfold [] es = lfold (lstep ls x) (es.drop (k + 1))) := by rw [Hid, HD.out, lfold, if_neg (by simpa using hxc)]
        have hX := En.right hxc
        have hnum := fun y hy => HS1.out.lok.nums y hy
        clear HD
        obtain ⟨a4, c4, rfl⟩ := owns_slice HS1.out.row
        rcases lstep_ways (ls := ls) hxc with ⟨h1, hnone, e⟩ | ⟨kk, y, h2, hl, hy, hj, ho, e⟩ | ⟨kk, y, h3, hl, hy, hj, ho, hc1, hc2, e⟩ | ⟨e, g1, g2, g3⟩
        · have hlook := HS1.out.map.look_ok x.j (by omega)
          simp only [hnone, Option.map_none, Option.getD_none, Option.isSome_none] at hlook
          have hk1 : (x.k == 1) = true := by rw [h1]; rfl
          obtain ⟨w2, hrun, hmap2, htn2⟩ := HS1.out.map.put (by omega) x.j m (by omega) (by omega)
          have own2 : Hid (w2.ownsRow (w.heap.size + 1) 30 5 (.slice a4 m c4) m (ls.flatMap Lf.cells)) := owns_turned htn2 HS1.out.row
          have hX2 : w2.heap[wr.heap.size]? = some (boxE x.k x.j x.v x.t x.c) := (turned_old htn2 (by have := heap_lt hX1; have := hwsz; omega) (heap_lt hX1)).trans hX1
          have zX2 : ∀ i, w2.cell? ⟨wr.heap.size, i, none⟩ = #[Value.int .i64 x.k, .int .i64 x.j, .int .i64 x.v, .int .i64 x.t, .int .i64 x.c][i]? := fun i => Joins.cell_of_block hX2 i
          have hB2 : Aside (Below w.heap.size w w2) := HS1.out.below.trans (turned_below htn2 (Nat.le_refl _) HS1.out.below.size)
          have hes : Hid (LifeSl (w2.alloc (boxL ⟨x.j, x.v, x.t, 0, false⟩)) (.slice (some ⟨w2.heap.size, 0, none⟩) 1 1) [⟨x.j, x.v, x.t, 0, false⟩]) := slOf_lit Lf.five (c := 1) (xs := [⟨x.j, x.v, x.t, 0, false⟩]) (heap_new _ _) rfl
          have own3 : Hid ((w2.alloc (boxL ⟨x.j, x.v, x.t, 0, false⟩)).ownsRow (w.heap.size + 1) 30 5 (.slice a4 m c4) m (ls.flatMap Lf.cells)) := own2.out.alloc _
          have hs2 : w.heap.size + 1 ≤ w2.heap.size := by have := htn2.grown.size; omega
          have hmap2' : Aside (MapIs w2 w.heap.size (n + 1) (turned (fun i => (lifeAt ls i).map fun k : Nat => (k : Int)) x.j (some (m : Int)))) := hmap2
          have HL : Hid (Lok ls ∧ Lok (ls ++ [⟨x.j, x.v, x.t, 0, false⟩]) ∧ ls.length = m) := ⟨HS1.out.lok, by rw [← e]; exact lstep_ok HS1.out.lok hxc, HS1.out.len⟩
          rw [e] at HF
          clear HS1 hX1 hX2 hmap2 htn2 own2 e hnone h1
          go_wp2_with (at_builtin; refine appendL rfl _ _ rfl (w.heap.size + 1) _ _ m _ rfl own3.out [⟨x.j, x.v, x.t, 0, false⟩] rfl hes.out (by simp; omega) (by rw [World.size_alloc]; omega) ?_)
          intro v' w' hown' hgrow
          have hne : ∀ g, (Value.slice a4 m c4).ownBlock = some g → w.heap.size + 1 ≤ g := fun g hg => (own3.out.lt g hg).1
          have hblk : w'.heap[w.heap.size]? = w2.heap[w.heap.size]? := (hgrow.block w.heap.size (by rw [World.size_alloc]; omega) (fun hh => by have := hne _ hh.symm; omega)).trans ((grew (Below.refl w2.heap.size w2) (boxL ⟨x.j, x.v, x.t, 0, false⟩)).block w.heap.size (by omega))
          have HSf : Aside (Lst w w' v' (m + 1) (n + 1) (ls ++ [⟨x.j, x.v, x.t, 0, false⟩])) := by
            refine ⟨?_, ?_, HL.out.2.1, ?_, by rw [List.length_append, HL.out.2.2]; rfl⟩
            · rw [List.flatMap_append]; simpa using hown'
            · have hm := hmap2'.out.keep hblk
              refine hm.same fun i => ?_
              rw [lifeAt_put HL.out.1 HL.out.2.1 rfl i]
              unfold turned
              by_cases hi : i = x.j
              · rw [if_pos hi, if_pos hi, HL.out.2.2]; rfl
              · rw [if_neg hi, if_neg hi]
            · exact (grew hB2.out (boxL ⟨x.j, x.v, x.t, 0, false⟩)).grown hgrow (by rw [World.size_alloc]; omega) (fun z hz => by have := hne z hz; omega)
          have HA2 : Hid (allR (ls ++ [⟨x.j, x.v, x.t, 0, false⟩]) = lv) := by rw [Hid, allR_append, HA.out]; simp [allR]
          clear hown' hgrow own3 hes hmap2' HL hblk hne HA hB2
          go_wp2
          go_roundw
          case rel => exact ⟨k + 1, m + 1, n + 1, lv, _, by omega, by go_num, rfl, by omega, by omega, by omega, by omega, HSf, HA2, HF⟩
          case measure => simp [intOf]; omega
        · have hkm : kk < m := by have := (List.getElem?_eq_some_iff.1 hy).1; rwa [HS1.out.len] at this
          obtain ⟨gg, cap, hv4, hgb, hgl⟩ := HS1.out.row.form (by omega)
          injection hv4 with ha4 _ hc4
          subst ha4 hc4
          have hgX : gg ≠ wr.heap.size := fun eq => by
            obtain ⟨cur, hc⟩ := owns_type HS1.out.row (b := gg) rfl
            rw [eq, hX1] at hc
            injection hc with hc
            injection hc with _ hc _
            revert hc
            decide
          have hgM : gg ≠ w.heap.size := by omega
          have hcell : ∀ (f : Nat) (u : Value), y.cells[f]? = some u → w1.cell? ⟨gg, kk * 5 + f, none⟩ = some u := fun f u hu => by
            have hf5 : f < 5 := by have := (List.getElem?_eq_some_iff.1 hu).1; rwa [Lf.five] at this
            rw [HS1.out.row.cellAt (kk * 5 + f) (by omega)]
            exact row_flat Lf.five ls kk y hy f u hu
          have hfz := fun j => HS1.out.row.frozenAt j
          have hlook := HS1.out.map.look_ok x.j (by omega)
          simp only [hl, Option.map_some, Option.getD_some, Option.isSome_some] at hlook
          have hk0 : (0 : Int) ≤ (kk : Int) := by omega
          have hkm' : (kk : Int) < (m : Int) := by omega
          have hkb1 : (x.k == 1) = false := by rw [h2]; rfl
          have hkb2 : (x.k == 2) = true := by rw [h2]; rfl
          have e4 : w1.cell? ⟨gg, kk * 5 + 4, none⟩ = some (.bool y.o) := hcell 4 _ rfl
          have HL : Hid (Lok ls ∧ Lok (ls.set kk ⟨y.j, y.e, y.f, y.r, true⟩) ∧ ls.length = m) := ⟨HS1.out.lok, by rw [← e]; exact lstep_ok HS1.out.lok hxc, HS1.out.len⟩
          have own2 := (HS1.out.row.stored (kk * 5 + 4) (.bool true)).1
          rw [flat_set hy (by omega) (z := ⟨y.j, y.e, y.f, y.r, true⟩) rfl] at own2
          have hmap2 : Hid (MapIs (w1.setCell ⟨gg, kk * 5 + 4, none⟩ (.bool true)) w.heap.size n fun i => (lifeAt ls i).map fun k : Nat => (k : Int)) := HS1.out.map.setCell hgM _
          have hB2 : Aside (Below w.heap.size w (w1.setCell ⟨gg, kk * 5 + 4, none⟩ (.bool true))) := HS1.out.below.setCell (p := ⟨gg, kk * 5 + 4, none⟩) (by show w.heap.size ≤ gg; omega) _
          have HY : Hid (ls[kk]? = some y ∧ y.o = false ∧ y.j = x.j) := ⟨hy, ho, hj⟩
          have HA2 : Hid (allR (ls.set kk ⟨y.j, y.e, y.f, y.r, true⟩) = lv) := by rw [Hid, allR_set hy, HA.out]; show lv - y.r + y.r = lv; omega
          replace own2 : Aside _ := own2
          rw [e] at HF
          clear HS1 hX1 e hl hy hcell HA h2 hj ho
          go_wp2_with (at_delete; refine wpList_map_drop rfl _ _ rfl w.heap.size n _ rfl hmap2.out x.j rfl (by omega) ?_)
          intro w3 hm3 ht3
          have HSf : Aside (Lst w w3 (.slice (some ⟨gg, 0, none⟩) m c4) m n (ls.set kk ⟨y.j, y.e, y.f, y.r, true⟩)) := by
            refine ⟨owns_turned ht3 own2.out, hm3.same fun i => ?_, HL.out.2.1, hB2.out.trans (turned_below ht3 (Nat.le_refl _) hB2.out.size), by rw [List.length_set]; exact HL.out.2.2⟩
            rw [lifeAt_drop HL.out.1 HL.out.2.1 HY.out.1 HY.out.2.1 rfl i, HY.out.2.2]
            unfold turned
            by_cases hi : i = x.j
            · rw [if_pos hi, if_pos hi]; rfl
            · rw [if_neg hi, if_neg hi]
          clear hm3 ht3 hmap2 own2 HL HY hB2
          go_wp2
          go_roundw
          case rel => exact ⟨k + 1, m, n, lv, _, by omega, by go_num, rfl, by omega, by omega, by omega, by omega, HSf, HA2, HF⟩
          case measure => simp [intOf]; omega
        · have hkm : kk < m := by have := (List.getElem?_eq_some_iff.1 hy).1; rwa [HS1.out.len] at this
          obtain ⟨gg, cap, hv4, hgb, hgl⟩ := HS1.out.row.form (by omega)
          injection hv4 with ha4 _ hc4
          subst ha4 hc4
          have hgX : gg ≠ wr.heap.size := fun eq => by
            obtain ⟨cur, hc⟩ := owns_type HS1.out.row (b := gg) rfl
            rw [eq, hX1] at hc
            injection hc with hc
            injection hc with _ hc _
            revert hc
            decide
          have hgM : gg ≠ w.heap.size := by omega
          have hcell : ∀ (f : Nat) (u : Value), y.cells[f]? = some u → w1.cell? ⟨gg, kk * 5 + f, none⟩ = some u := fun f u hu => by
            have hf5 : f < 5 := by have := (List.getElem?_eq_some_iff.1 hu).1; rwa [Lf.five] at this
            rw [HS1.out.row.cellAt (kk * 5 + f) (by omega)]
            exact row_flat Lf.five ls kk y hy f u hu
          have hfz := fun j => HS1.out.row.frozenAt j
          have hlook := HS1.out.map.look_ok x.j (by omega)
          simp only [hl, Option.map_some, Option.getD_some, Option.isSome_some] at hlook
          have hk0 : (0 : Int) ≤ (kk : Int) := by omega
          have hkm' : (kk : Int) < (m : Int) := by omega
          have hkb1 : (x.k == 1) = false := by rw [h3]; rfl
          have hkb2 : (x.k == 2) = false := by rw [h3]; rfl
          have hkb3 : (x.k == 3) = true := by rw [h3]; rfl
          have e1 : w1.cell? ⟨gg, kk * 5 + 1, none⟩ = some (.int .i64 y.e) := hcell 1 _ rfl
          have e2 : w1.cell? ⟨gg, kk * 5 + 2, none⟩ = some (.int .i64 y.f) := hcell 2 _ rfl
          have e3 : w1.cell? ⟨gg, kk * 5 + 3, none⟩ = some (.int .i64 y.r) := hcell 3 _ rfl
          have hny := hnum y (List.mem_of_getElem? hy)
          have hyr : y.r ≤ lv := by rw [← HA.out]; exact life_le (fun u hu => (hnum u hu).2.2.2) (List.mem_of_getElem? hy)
          have hxt : x.t - y.f = y.e * y.r := hc1
          have hw1 : IntKind.i64.wrap (y.e * y.r) = y.e * y.r := by rw [IntKind.wrap_i64, ← hxt]; omega
          have hw3 : IntKind.i64.wrap (x.t - y.f) = x.t - y.f := by rw [IntKind.wrap_i64]; omega
          have hw2 : (IntKind.i64.wrap (x.t - y.f) == IntKind.i64.wrap (y.e * y.r)) = true := by rw [hw1, hw3, hxt]; exact beq_self_eq_true _
          have hw4 : (x.t - y.f == IntKind.i64.wrap (y.e * y.r)) = true := by rw [hw1, hxt]; exact beq_self_eq_true _
          have hlv : lv < 60 := by rw [← HA.out]; exact hc2
          have hlvd : decide (lv < 60) = true := decide_eq_true hlv
          clear hcell hc1 hxt hw1 hw3
          go_wp2_with fail
          go_quiet (fail)
          have hS2 := HS1.out.later (below_drewN (Below.refl _ w1) nq)
          generalize w1.drewN nq = w2 at *
          have f3 : w2.cell? ⟨gg, kk * 5 + 3, none⟩ = some (.int .i64 y.r) := by
            rw [hS2.row.cellAt (kk * 5 + 3) (by omega)]
            exact row_flat Lf.five ls kk y hy 3 _ rfl
          have hfz2 := fun j => hS2.row.frozenAt j
          have HL : Hid (Lok ls ∧ Lok (ls.set kk ⟨y.j, y.e, y.f, y.r + 1, y.o⟩)) := ⟨hS2.lok, by rw [← e]; exact lstep_ok hS2.lok hxc⟩
          have own3 := (hS2.row.stored (kk * 5 + 3) (.int .i64 (y.r + 1))).1
          rw [flat_set hy (by omega) (z := ⟨y.j, y.e, y.f, y.r + 1, y.o⟩) rfl] at own3
          have HSf : Aside (Lst w (w2.setCell ⟨gg, kk * 5 + 3, none⟩ (.int .i64 (y.r + 1))) (.slice (some ⟨gg, 0, none⟩) m c4) m n (ls.set kk ⟨y.j, y.e, y.f, y.r + 1, y.o⟩)) :=
            ⟨own3, (hS2.map.setCell hgM _).same fun i => by rw [lifeAt_ring HL.out.1 HL.out.2 hy rfl rfl i], HL.out.2, hS2.below.setCell (p := ⟨gg, kk * 5 + 3, none⟩) (by show w.heap.size ≤ gg; omega) _, by rw [List.length_set]; exact hS2.len⟩
          have HA2 : Hid (allR (ls.set kk ⟨y.j, y.e, y.f, y.r + 1, y.o⟩) = lv + 1) := by rw [Hid, allR_set hy, HA.out]; show lv - y.r + (y.r + 1) = lv + 1; omega
          rw [e] at HF
          clear HS1 hS2 own3 HL hX1 e hl hy HA hlook zX e1 e2 e3
          go_wp2
          go_roundw
          case rel => exact ⟨k + 1, m, n, lv + 1, _, by omega, by go_num, by first | rfl | go_num, by omega, by omega, by omega, by omega, HSf, HA2, HF⟩
          case measure => simp [intOf]; omega
        · rw [e] at HF
          have HSf : Aside _ := HS1.out
          have hlook := HS1.out.map.look_ok x.j (by omega)
          by_cases h1 : x.k = 1
          · obtain ⟨kk, hl⟩ := g1 h1
            simp only [hl, Option.map_some, Option.getD_some, Option.isSome_some] at hlook
            have hkb1 : (x.k == 1) = true := by rw [h1]; rfl
            clear HS1 hX1 e hl h1 g1 g2 g3 hnum
            go_wp2
            go_roundw
            case rel => exact ⟨k + 1, m, n, lv, _, by omega, by go_num, rfl, by omega, by omega, by omega, by omega, HSf, HA, HF⟩
            case measure => simp [intOf]; omega
          · by_cases h2 : x.k = 2
            · have hl := g2 h2
              simp only [hl, Option.map_none, Option.getD_none, Option.isSome_none] at hlook
              have hkb1 : (x.k == 1) = false := by rw [h2]; rfl
              have hkb2 : (x.k == 2) = true := by rw [h2]; rfl
              clear HS1 hX1 e hl h1 h2 g1 g2 g3 hnum
              go_wp2
              go_roundw
              case rel => exact ⟨k + 1, m, n, lv, _, by omega, by go_num, rfl, by omega, by omega, by omega, by omega, HSf, HA, HF⟩
              case measure => simp [intOf]; omega
            · have hkb1 : (x.k == 1) = false := by rw [beq_eq_false_iff_ne]; exact h1
              have hkb2 : (x.k == 2) = false := by rw [beq_eq_false_iff_ne]; exact h2
              by_cases h3 : x.k = 3
              · have hkb3 : (x.k == 3) = true := by rw [h3]; rfl
                cases hl : lifeAt ls x.j with
                | none =>
                  simp only [hl, Option.map_none, Option.getD_none, Option.isSome_none] at hlook
                  clear HS1 hX1 e hl h1 h2 h3 g1 g2 g3 hnum
                  go_wp2_with fail
                  go_quiet (fail)
                  have hS2 : Aside _ := HSf.out.later (below_drewN (Below.refl _ w1) nq)
                  generalize w1.drewN nq = w2 at *
                  clear HSf zX hlook
                  go_wp2
                  go_roundw
                  case rel => exact ⟨k + 1, m, n, lv, _, by omega, by go_num, rfl, by omega, by omega, by omega, by omega, hS2, HA, HF⟩
                  case measure => simp [intOf]; omega
                | some kk =>
                  obtain ⟨y, hy, hj, ho⟩ := lifeAt_some hl
                  simp only [hl, Option.map_some, Option.getD_some, Option.isSome_some] at hlook
                  have hkm : kk < m := by have := (List.getElem?_eq_some_iff.1 hy).1; rwa [HS1.out.len] at this
                  obtain ⟨gg, cap, hv4, hgb, hgl⟩ := HS1.out.row.form (by omega)
                  injection hv4 with ha4 _ hc4
                  subst ha4 hc4
                  have hcell : ∀ (f : Nat) (u : Value), y.cells[f]? = some u → w1.cell? ⟨gg, kk * 5 + f, none⟩ = some u := fun f u hu => by
                    have hf5 : f < 5 := by have := (List.getElem?_eq_some_iff.1 hu).1; rwa [Lf.five] at this
                    rw [HS1.out.row.cellAt (kk * 5 + f) (by omega)]
                    exact row_flat Lf.five ls kk y hy f u hu
                  have e1 : w1.cell? ⟨gg, kk * 5 + 1, none⟩ = some (.int .i64 y.e) := hcell 1 _ rfl
                  have e2 : w1.cell? ⟨gg, kk * 5 + 2, none⟩ = some (.int .i64 y.f) := hcell 2 _ rfl
                  have e3 : w1.cell? ⟨gg, kk * 5 + 3, none⟩ = some (.int .i64 y.r) := hcell 3 _ rfl
                  have hk0 : (0 : Int) ≤ (kk : Int) := by omega
                  have hkm' : (kk : Int) < (m : Int) := by omega
                  have hny := hnum y (List.mem_of_getElem? hy)
                  have hyr : y.r ≤ lv := by rw [← HA.out]; exact life_le (fun u hu => (hnum u hu).2.2.2) (List.mem_of_getElem? hy)
                  have hp1 : 0 ≤ y.e * y.r := Int.mul_nonneg (by omega) (by omega)
                  have hp2 : y.e * y.r ≤ 100 * 60 := Int.mul_le_mul (by omega) (by omega) (by omega) (by omega)
                  have hw1 : IntKind.i64.wrap (y.e * y.r) = y.e * y.r := by rw [IntKind.wrap_i64]; omega
                  have hw3 : IntKind.i64.wrap (x.t - y.f) = x.t - y.f := by rw [IntKind.wrap_i64]; omega
                  have hnot := g3 h3 kk y hl hy
                  rw [HA.out] at hnot
                  by_cases hq : x.t - y.f = y.e * y.r
                  · exact absurd ⟨hq, by omega⟩ hnot
                  · have hw4 : (x.t - y.f == IntKind.i64.wrap (y.e * y.r)) = false := by rw [hw1, beq_eq_false_iff_ne]; exact hq
                    have hw2 : (IntKind.i64.wrap (x.t - y.f) == IntKind.i64.wrap (y.e * y.r)) = false := by rw [hw1, hw3, beq_eq_false_iff_ne]; exact hq
                    clear HS1 hX1 e hl h1 h2 h3 g1 g2 g3 hnum hcell hnot hw1 hw3 hq hy hp1 hp2
                    go_wp2_with fail
                    go_quiet (fail)
                    have hS2 : Aside _ := HSf.out.later (below_drewN (Below.refl _ w1) nq)
                    generalize w1.drewN nq = w2 at *
                    clear HSf zX hlook e1 e2 e3
                    go_wp2
                    go_roundw
                    case rel => exact ⟨k + 1, m, n, lv, _, by omega, by go_num, rfl, by omega, by omega, by omega, by omega, hS2, HA, HF⟩
                    case measure => simp [intOf]; omega
              · have hkb3 : (x.k == 3) = false := by rw [beq_eq_false_iff_ne]; exact h3
                obtain ⟨cI, bI, hlk⟩ : ∃ cI bI, (Instr.lookup 41 (.map (some w.heap.size)) (.int .i64 x.j) true).run Try.prog w1 = .ok (.tuple #[.int .i64 cI, .bool bI]) w1 := ⟨_, _, hlook⟩
                clear HS1 hX1 e h1 h2 h3 g1 g2 g3 hnum hlook
                go_wp2
                go_roundw
                case rel => exact ⟨k + 1, m, n, lv, _, by omega, by go_num, rfl, by omega, by omega, by omega, by omega, HSf, HA, HF⟩
                case measure => simp [intOf]; omega
      · have heb : (d != 0) = true := by rw [bne_iff_ne]; exact he
        have HF : Hid (lfold [] es = ([], d)) := by rw [Hid, HD.out, lfold, if_pos (by rw [hd.out]; exact he), hd.out]
        have HBe : Aside (Below w.heap.size w w1) := HS1.out.below
        clear HD HS1 hX1 zX hd
        go_wp2
        exact bodyPost_ret (v := .tuple #[nil0, .int .i64 d]) (by simp [results, Try.results7, go_sem]) rfl ⟨nil0, by rw [HF.out], by rw [HF.out]; exact SlOf.nil _ _, HBe.out⟩
    · have hkn : k = n0 := by omega
      subst hkn
      have HF : Hid (lfold [] es = (ls, 0)) := by
        rw [Hid, hst.out, List.drop_of_length_le (by have := HN.out; omega)]
        rfl
      have hrow := HS.out.row
      rw [← HS.out.len] at hrow
      have HL : Aside (LifeSl wr u4 ls) := slOf_of_owns Lf.five hrow
      have HBe : Aside (Below w.heap.size w wr) := HS.out.below
      obtain ⟨a4, c4, rfl⟩ := owns_slice HS.out.row
      clear hst HS HE HS0 HN hrow
      go_wp2
      exact bodyPost_ret (v := .tuple #[.slice a4 m c4, .int .i64 0]) (by simp [results, Try.results7, go_sem]) rfl ⟨_, by rw [HF.out], by rw [HF.out]; exact HL.out, HBe.out⟩

theorem ref_lives : RefLives := fun v es w hv _ => by
  have hv' := hv
  obtain ⟨a, c, rfl, _⟩ := hv
  unfold livesOf
  by_cases h : 60 < es.length
  · rw [if_pos h]
    exact (lives_many a es.length c w (by omega)).mono fun _ _ ⟨he, hw⟩ => ⟨nil0, he, SlOf.nil _ _, by rw [hw]; exact Below.refl _ _⟩
  · rw [if_neg h]
    exact lives_few a es.length c es w hv' rfl (by omega)

end Go.Proofs.Ytjbcfflbfnddeac
