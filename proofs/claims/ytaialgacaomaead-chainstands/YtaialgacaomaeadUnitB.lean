/- Units in memory; the reference's CheckUnit, SameUnit, TailOf. -/
import Derived.Test.YtaialgacaomaeadUnitA
import Derived.Test.YtaialgacaomaeadNoteB
import Derived.Test.YtaialgacaomaeadSlEnt
namespace Go.Proofs.Ytaialgacaomaead
open Go.RowKit

abbrev boxU (p : Int) (v : Value) : Obj := .cells #[.int .i64 p, v] 24

/-- A unit's places, with their room. -/
structure UnitAt (w : World) (v : Value) (u : Un) : Prop where
  ents : EntSl w v u.cells
  room : Roomy v

theorem UnitAt.later {w w' : World} {v : Value} {u : Un} (h : UnitAt w v u) (hb : Below w.heap.size w w') : UnitAt w' v u := ⟨h.ents.later hb, h.room⟩

abbrev topN : Nat := 9223372036854775807

theorem drop_en {es : List En} {k : Nat} {x : En} (h : es[k]? = some x) : es.drop k = x :: es.drop (k + 1) := by
  have hlt := (List.getElem?_eq_some_iff.1 h).1
  rw [List.drop_eq_getElem_cons hlt, (List.getElem?_eq_some_iff.1 h).2]

theorem blank_any (w : World) :
    Calls Try.prog 30 #[] w fun e w' => e = .returned (ev 4 0 0 0 0) ∧ Below w.heap.size w w' := by
  go_enter Try.func30, Try.ntmps30
  go_wp2
  exact bodyPost_ret (v := ev 4 0 0 0 0) (by simp [results, Try.results30, go_sem]) rfl ⟨rfl, grew (Below.refl _ _) _⟩

/-- An entry in its box. -/
abbrev BeS (W w : World) (b : Nat) (x : En) : Prop :=
  Below W.heap.size W w ∧ w.cell? ⟨b, 0, none⟩ = some (.int .i64 x.k) ∧ w.cell? ⟨b, 1, none⟩ = some (.int .i64 x.j) ∧ w.cell? ⟨b, 2, none⟩ = some (.int .i64 x.v) ∧ w.cell? ⟨b, 3, none⟩ = some (.int .i64 x.t) ∧ w.cell? ⟨b, 4, none⟩ = some (.int .i64 x.c)

theorem beS_step {W w w' : World} {b : Nat} {x : En} (h : BeS W w b x) (hb : Below w.heap.size w w') : BeS W w' b x :=
  ⟨h.1.trans (hb.mono h.1.size), cell_later hb h.2.1, cell_later hb h.2.2.1, cell_later hb h.2.2.2.1, cell_later hb h.2.2.2.2.1, cell_later hb h.2.2.2.2.2⟩

theorem beS_of {w : World} {b : Nat} {x : En} (h : w.heap[b]? = some (boxE x.k x.j x.v x.t x.c)) : BeS w w b x :=
  ⟨Below.refl _ _, Joins.cell_of_block h 0, Joins.cell_of_block h 1, Joins.cell_of_block h 2, Joins.cell_of_block h 3, Joins.cell_of_block h 4⟩

set_option maxHeartbeats 4000000 in
set_option maxRecDepth 100000 in
theorem ref_ckUnit60 (a : Option Addr) (c : Nat) (p : Int) (es : List En) (w : World) (h : EntSl w (.slice a 60 c) es) (hl : es.length = 60) (hp : 1 ≤ p ∧ p ≤ 20) :
    Calls Try.prog 11 #[.agg #[.int .i64 p, .slice a 60 c]] w fun e w' => e = .returned (.int .i64 (ckCells es)) ∧ Below w.heap.size w w' := by
  have hin := in_any p 1 20 (w.alloc (boxU p (.slice a 60 c)))
  rw [decide_eq_true hp] at hin
  have H : Hid (EntSl w (.slice a 60 c) es) := h
  have HL : Hid (es.length = 60) := hl
  clear h hl hp
  go_enter Try.func11, Try.ntmps11
  go_wp2_with fail
  refine hin.mono ?_
  rintro e w1 ⟨rfl, rfl⟩
  clear hin
  go_wp2
  go_loopw [17] (fun i wr => ∃ k : Nat, k ≤ 60 ∧ i = .int .i64 k ∧ Below w.heap.size w wr ∧ Hid (ckCells es = ckCells (es.drop k))) (fun i _ => 60 - (intOf i).toNat)
  case atStart => exact ⟨0, Nat.zero_le _, rfl, grew (Below.refl _ _) _, rfl⟩
  case round =>
    obtain ⟨k, hk, rfl, hB, hst⟩ := hrel
    by_cases hlt : k < 60
    · obtain ⟨x, hx⟩ : ∃ x, es[k]? = some x := ⟨es[k]'(by have := HL.out; omega), List.getElem?_eq_getElem _⟩
      obtain ⟨b, off, rfl, hE0⟩ := SlOf.at (cs := En.cells) (k := 5) H.out (by omega)
      have hE := RowAt.later hE0 hB
      have c0 : wr.cell? ⟨b, off + k * 5, none⟩ = some (.int .i64 x.k) := hE k x hx 0 _ rfl
      have c1 : wr.cell? ⟨b, off + k * 5 + 1, none⟩ = some (.int .i64 x.j) := hE k x hx 1 _ rfl
      have c2 : wr.cell? ⟨b, off + k * 5 + 2, none⟩ = some (.int .i64 x.v) := hE k x hx 2 _ rfl
      have c3 : wr.cell? ⟨b, off + k * 5 + 3, none⟩ = some (.int .i64 x.t) := hE k x hx 3 _ rfl
      have c4 : wr.cell? ⟨b, off + k * 5 + 4, none⟩ = some (.int .i64 x.c) := hE k x hx 4 _ rfl
      have hd : Hid (ckCells es = if x.isB = true then ckCells (es.drop (k + 1)) else if x.chk ≠ 0 then x.chk else ckCells (es.drop (k + 1))) := by
        rw [Hid, hst.out, drop_en hx, ckCells]
      have hce := ref_check x.k x.j x.v x.t x.c (wr.alloc (boxE x.k x.j x.v x.t x.c))
      change Calls _ _ _ _ fun e w' => e = .returned (.int .i64 x.chk) ∧ _ at hce
      have hne : ∀ W, (binOp .neq 26 (ev x.k x.j x.v x.t x.c) (ev 4 0 0 0 0)).run Try.prog W = .ok (.bool (!x.isB)) W := fun W => by
        rw [neq_entry x.k x.j x.v x.t x.c 4 0 0 0 0 W, En.isB, Bool.not_not]
      have hbx := heap_new wr (boxE x.k x.j x.v x.t x.c)
      have HB1 : Aside (Below w.heap.size w (wr.alloc (boxE x.k x.j x.v x.t x.c))) := grew hB _
      have HX1 : Aside _ := hbx
      have hbc : Hid (x.isB = true → x.chk = 4) := fun hh => by rw [En.isB_eq.1 hh]; exact blank_chk
      clear hE hE0 hst hx hB hbx
      generalize x.isB = ib at *
      generalize x.chk = d at *
      by_cases hz : d = 0
      · have hib : ib = false := by
          cases ib with
          | false => rfl
          | true => have := hbc.out rfl; omega
        have HN : Hid (ckCells es = ckCells (es.drop (k + 1))) := by rw [Hid, hd.out, if_neg (by simp [hib]), if_neg (by simpa using hz)]
        have hzb : (d != 0) = false := by rw [hz]; rfl
        clear hd hbc hib hz
        go_wp2_with fail
        refine hce.mono ?_
        rintro e w2 ⟨rfl, hb2⟩
        have hbx2 := heap_below HX1.out hb2 (heap_lt HX1.out)
        have HB2 : Aside (Below w.heap.size w w2) := step_below1 HB1.out hb2
        have hS0 : BeS w2 w2 wr.heap.size x := beS_of hbx2
        obtain ⟨_, k0, k1, k2, k3, k4⟩ := hS0
        clear hb2 hce hbx2 HX1 HB1 c0 c1 c2 c3 c4
        go_wp2_with fail
        go_quiet (fail)
        go_wp2
        go_roundw
        case rel => exact ⟨k + 1, by omega, by go_num, below_drewN HB2.out _, HN⟩
        case measure => simp [intOf]; omega
      · have hzb : (d != 0) = true := by rw [bne_iff_ne]; exact hz
        cases ib with
        | true =>
          have HN : Hid (ckCells es = ckCells (es.drop (k + 1))) := by rw [Hid, hd.out, if_pos rfl]
          clear hd hbc hz
          go_wp2_with fail
          refine hce.mono ?_
          rintro e w2 ⟨rfl, hb2⟩
          have hbx2 := heap_below HX1.out hb2 (heap_lt HX1.out)
          have HB2 : Aside (Below w.heap.size w w2) := step_below1 HB1.out hb2
          have hS0 : BeS w2 w2 wr.heap.size x := beS_of hbx2
          clear hb2 hce hbx2 HX1 HB1 c0 c1 c2 c3 c4
          have hbd : Below w2.heap.size w2 w2.drew := (Below.refl _ _).drew
          go_wp2_with fail
          go_region_held3 (fun w' => BeS w2 w' wr.heap.size x) (exact beS_step (by assumption) (by assumption)) (first | (go_at_call 30; refine (blank_any _).mono ?_; rintro e w' ⟨rfl, hb'⟩))
          all_goals
            rename_i hS
            have HB3 : Aside (Below w.heap.size w _) := HB2.out.trans (hS.1.mono HB2.out.size)
            clear hS hS0 hbd HB2
            go_wp2
            go_roundw
            case rel => exact ⟨k + 1, by omega, by go_num, HB3.out, HN⟩
            case measure => simp [intOf]; omega
        | false =>
          have HR : Hid (ckCells es = d) := by rw [Hid, hd.out, if_neg (by simp), if_pos hz]
          clear hd hbc hz
          go_wp2_with fail
          refine hce.mono ?_
          rintro e w2 ⟨rfl, hb2⟩
          have hbx2 := heap_below HX1.out hb2 (heap_lt HX1.out)
          have HB2 : Aside (Below w.heap.size w w2) := step_below1 HB1.out hb2
          have hS0 : BeS w2 w2 wr.heap.size x := beS_of hbx2
          clear hb2 hce hbx2 HX1 HB1 c0 c1 c2 c3 c4
          have hbd : Below w2.heap.size w2 w2.drew := (Below.refl _ _).drew
          go_wp2_with fail
          go_region_held3 (fun w' => BeS w2 w' wr.heap.size x) (exact beS_step (by assumption) (by assumption)) (first | (go_at_call 30; refine (blank_any _).mono ?_; rintro e w' ⟨rfl, hb'⟩))
          all_goals
            rename_i hS
            have HB3 : Aside (Below w.heap.size w _) := HB2.out.trans (hS.1.mono HB2.out.size)
            clear hS hS0 hbd HB2
            go_wp2
            go_ret
            exact ⟨by rw [HR.out]; rfl, HB3.out⟩
    · obtain rfl : k = 60 := by omega
      have HR : Hid (ckCells es = 0) := by
        rw [Hid, hst.out, List.drop_eq_nil_of_le (by have := HL.out; omega)]; rfl
      clear hst
      go_wp2
      go_ret
      exact ⟨by rw [HR.out]; rfl, hB⟩

/-- The reference's CheckUnit. -/
theorem ref_ckUnit (v : Value) (u : Un) (w : World) (h : EntSl w v u.cells) :
    Calls Try.prog 11 #[.agg #[.int .i64 u.p, v]] w fun e w' => e = .returned (.int .i64 u.ck) ∧ Below w.heap.size w w' := by
  obtain ⟨p, es⟩ := u
  have h' := h
  obtain ⟨a, c, rfl, _⟩ := h
  show Calls _ _ _ _ fun e w' => e = .returned (.int .i64 (Un.ck ⟨p, es⟩)) ∧ _
  by_cases hp : 1 ≤ p ∧ p ≤ 20
  · by_cases hl : es.length = 60
    · rw [Un.ck, if_neg (by simpa using hp), if_neg (by simpa using hl)]
      have h2 : EntSl w (.slice a es.length c) es := h'
      show Calls _ _ #[.agg #[.int .i64 p, .slice a es.length c]] _ _
      rw [hl] at h2 ⊢
      exact ref_ckUnit60 a c p es w h2 hl hp
    · rw [Un.ck, if_neg (by simpa using hp), if_pos hl]
      have hin := in_any p 1 20 (w.alloc (boxU p (.slice a es.length c)))
      rw [decide_eq_true hp] at hin
      have hlb : ((es.length : Int) != 60) = true := by rw [bne_iff_ne]; omega
      show Calls _ _ #[.agg #[.int .i64 p, .slice a es.length c]] _ _
      clear h' hp hl
      generalize es.length = n at *
      go_enter Try.func11, Try.ntmps11
      go_wp2_with fail
      refine hin.mono ?_
      rintro e w1 ⟨rfl, rfl⟩
      go_wp2
      go_ret
      exact ⟨rfl, grew (Below.refl _ _) _⟩
  · rw [Un.ck, if_pos hp]
    have hin := in_any p 1 20 (w.alloc (boxU p (.slice a es.length c)))
    rw [decide_eq_false hp] at hin
    show Calls _ _ #[.agg #[.int .i64 p, .slice a es.length c]] _ _
    clear h' hp
    generalize es.length = n at *
    go_enter Try.func11, Try.ntmps11
    go_wp2_with fail
    refine hin.mono ?_
    rintro e w1 ⟨rfl, rfl⟩
    go_wp2
    go_ret
    exact ⟨rfl, grew (Below.refl _ _) _⟩

open scoped Classical in
/-- The reference's SameUnit. -/
theorem ref_sameUnit (v v' : Value) (u x : Un) (w : World) (h : EntSl w v u.cells) (h' : EntSl w v' x.cells) (hn : u.cells.length ≤ topN) :
    Calls Try.prog 13 #[.agg #[.int .i64 u.p, v], .agg #[.int .i64 x.p, v']] w fun e w' => e = .returned (.bool (decide (u = x))) ∧ Below w.heap.size w w' := by
  obtain ⟨p, es⟩ := u
  obtain ⟨p', fs⟩ := x
  have hB2 : Below w.heap.size w ((w.alloc (boxU p v)).alloc (boxU p' v')) := grew (grew (Below.refl _ _) _) _
  have HB2 : Aside _ := hB2
  have heq := equalE v v' es fs ((w.alloc (boxU p v)).alloc (boxU p' v')) (h.later hB2) (h'.later hB2) hn
  clear hB2
  obtain ⟨a, c, rfl, _⟩ := h
  obtain ⟨a', c', rfl, _⟩ := h'
  have hd : decide ((⟨p, es⟩ : Un) = ⟨p', fs⟩) = (decide (p = p') && decide (es = fs)) := by
    by_cases h1 : p = p' <;> by_cases h2 : es = fs <;> simp [h1, h2]
  rw [hd]
  show Calls _ _ #[.agg #[.int .i64 p, .slice a es.length c], .agg #[.int .i64 p', .slice a' fs.length c']] _ _
  generalize decide (es = fs) = ef at *
  change Calls _ _ #[.slice a es.length c, .slice a' fs.length c'] _ _ at heq
  clear hn
  generalize es.length = n at *
  generalize fs.length = n' at *
  by_cases hp : p = p'
  · subst hp
    go_enter Try.func13, Try.ntmps13
    go_wp2_with fail
    refine heq.mono ?_
    rintro e w1 ⟨rfl, hb1⟩
    have HB3 : Aside (Below w.heap.size w w1) := step_below1 HB2.out hb1
    clear hb1 heq HB2
    go_wp2
    go_ret
    exact ⟨by simp, HB3.out⟩
  · have hpb : (p == p') = false := by rw [beq_eq_false_iff_ne]; exact hp
    rw [decide_eq_false hp]
    clear hp heq
    go_enter Try.func13, Try.ntmps13
    go_wp2
    go_ret
    exact ⟨rfl, HB2.out⟩

set_option maxHeartbeats 2000000 in
/-- The reference's TailOf. -/
theorem ref_tail (v : Value) (u : Un) (w : World) (h : EntSl w v u.cells) (hn : u.cells.length ≤ topN) :
    Calls Try.prog 15 #[.agg #[.int .i64 u.p, v]] w fun e w' => e = .returned (.int .i64 (tailOf u.cells)) ∧ Below w.heap.size w w' := by
  obtain ⟨p, es⟩ := u
  have H : Hid (EntSl w v es) := h
  obtain ⟨a, c, rfl, _⟩ := h
  obtain ⟨n, HL⟩ : ∃ n, Hid (es.length = n) := ⟨_, rfl⟩
  change es.length ≤ 9223372036854775807 at hn
  show Calls _ _ #[.agg #[.int .i64 p, .slice a es.length c]] _ fun e w' => e = .returned (.int .i64 (tailOf es)) ∧ _
  rw [HL.out] at hn ⊢
  replace H : Hid (SlOf En.cells 5 w (.slice a n c) es) := by have := H.out; rw [HL.out] at this; exact this
  go_enter Try.func15, Try.ntmps15
  go_wp2
  go_loopg [3, 9] n (fun g s3 s9 wr => ∃ (k : Nat) (t : Int), k ≤ n ∧ n - k ≤ g ∧ s9 = .int .i64 k ∧ s3 = .int .i64 t ∧ Below w.heap.size w wr ∧ Hid (tailOf es = tailFrom k t (es.drop k)))
  case atStart => exact ⟨0, 0, Nat.zero_le _, by omega, rfl, rfl, grew (Below.refl _ _) _, rfl⟩
  case round =>
    obtain ⟨k, t, hk, hg, rfl, rfl, hB, hst⟩ := hrel
    by_cases hlt : k < n
    · obtain ⟨x, hx⟩ : ∃ x, es[k]? = some x := ⟨es[k]'(by have := HL.out; omega), List.getElem?_eq_getElem _⟩
      obtain ⟨b, off, rfl, hE0⟩ := H.out.at (by omega)
      have hE := hE0.later hB
      have c0 : wr.cell? ⟨b, off + k * 5, none⟩ = some (.int .i64 x.k) := hE k x hx 0 _ rfl
      have c1 : wr.cell? ⟨b, off + k * 5 + 1, none⟩ = some (.int .i64 x.j) := hE k x hx 1 _ rfl
      have c2 : wr.cell? ⟨b, off + k * 5 + 2, none⟩ = some (.int .i64 x.v) := hE k x hx 2 _ rfl
      have c3 : wr.cell? ⟨b, off + k * 5 + 3, none⟩ = some (.int .i64 x.t) := hE k x hx 3 _ rfl
      have c4 : wr.cell? ⟨b, off + k * 5 + 4, none⟩ = some (.int .i64 x.c) := hE k x hx 4 _ rfl
      have hd : Hid (tailOf es = tailFrom (k + 1) (if x.k = 4 then t else ((k + 1 : Nat) : Int)) (es.drop (k + 1))) := by
        rw [Hid, hst.out, drop_en hx, tailFrom]
      have HB1 : Aside (Below w.heap.size w (wr.alloc (boxE x.k x.j x.v x.t x.c))) := grew hB _
      clear hE hE0 hst hx hB H
      by_cases h4 : x.k = 4
      · rw [if_pos h4] at hd
        have h4b : (x.k != 4) = false := by rw [h4]; rfl
        clear h4
        go_wp2
        go_roundg (n - (k + 1))
        case measure => omega
        case rel => exact ⟨k + 1, t, by omega, by omega, by go_num, rfl, HB1.out, hd⟩
      · rw [if_neg h4] at hd
        have h4b : (x.k != 4) = true := by rw [bne_iff_ne]; exact h4
        clear h4
        go_wp2
        go_roundg (n - (k + 1))
        case measure => omega
        case rel => exact ⟨k + 1, ((k + 1 : Nat) : Int), by omega, by omega, by go_num, by go_num, HB1.out, hd⟩
    · obtain rfl : k = n := by omega
      have HR : Hid (tailOf es = t) := by
        rw [Hid, hst.out, List.drop_eq_nil_of_le (by have := HL.out; omega)]; rfl
      clear hst H
      go_wp2
      go_ret
      exact ⟨by rw [HR.out]; rfl, hB⟩

end Go.Proofs.Ytaialgacaomaead
