/- Jobs and rings in memory; the walks of the reference's CheckBook and JobAt. -/
import Derived.Test.YtbokdcdnandgbaeBookB
import Derived.Test.YtbokdcdnandgbaeGen
import Derived.Test.YtbokdcdnandgbaeRefB
namespace Go.Proofs.Ytbokdcdnandgbae
open Go.RowKit

def Jb.cells (x : Jb) : List Value := [.int .i64 x.i, .int .i64 x.e, .int .i64 x.n]
def Rg.cells (x : Rg) : List Value := [.int .i64 x.j, .int .i64 x.t, .int .i64 x.c]
theorem Jb.three (x : Jb) : x.cells.length = 3 := rfl
theorem Rg.three (x : Rg) : x.cells.length = 3 := rfl
abbrev JobSl (w : World) (v : Value) (js : List Jb) : Prop := SlOf Jb.cells 3 w v js
abbrev RungSl (w : World) (v : Value) (rs : List Rg) : Prop := SlOf Rg.cells 3 w v rs
abbrev boxB (v1 v2 : Value) : Obj := .cells #[v1, v2] 45

theorem ckBook_many {js : List Jb} {rs : List Rg} (h : 6 < js.length ∨ 60 < rs.length) : ckBook js rs = 2 := by rw [ckBook, if_pos h]

set_option maxHeartbeats 1000000 in
theorem ref_many (a1 a2 : Option Addr) (n1 n2 c1 c2 : Nat) (w : World) (h : 6 < (n1 : Int) ∨ ((n1 : Int) ≤ 6 ∧ 60 < (n2 : Int))) :
    Calls Try.prog 60 #[.agg #[.slice a1 n1 c1, .slice a2 n2 c2]] w fun e w' => e = .returned (.int .i64 2) ∧ Below w.heap.size w w' := by
  rcases h with h | ⟨h, h'⟩
  · go_enter Try.func60, Try.ntmps60
    go_wp2
    go_ret
    exact ⟨rfl, grew (Below.refl _ _) _⟩
  · go_enter Try.func60, Try.ntmps60
    go_wp2
    go_ret
    exact ⟨rfl, grew (Below.refl _ _) _⟩

theorem drop_at {α : Type} {xs : List α} {k : Nat} {x : α} (h : xs[k]? = some x) : xs.drop k = x :: xs.drop (k + 1) := by
  have hlt := (List.getElem?_eq_some_iff.1 h).1
  rw [List.drop_eq_getElem_cons hlt, (List.getElem?_eq_some_iff.1 h).2]

set_option maxHeartbeats 4000000 in
theorem ref_few (a1 a2 : Option Addr) (n1 n2 c1 c2 : Nat) (js : List Jb) (rs : List Rg) (w : World) (h1 : JobSl w (.slice a1 n1 c1) js) (h2 : RungSl w (.slice a2 n2 c2) rs) (hn1 : (n1 : Int) ≤ 6) (hn2 : (n2 : Int) ≤ 60) :
    Calls Try.prog 60 #[.agg #[.slice a1 n1 c1, .slice a2 n2 c2]] w fun e w' => e = .returned (.int .i64 (ckBook js rs)) ∧ Below w.heap.size w w' := by
  have L1 : Hid (js.length = n1) := h1.len
  have L2 : Hid (rs.length = n2) := h2.len
  have H1 : Hid (JobSl w (.slice a1 n1 c1) js) := h1
  have H2 : Hid (RungSl w (.slice a2 n2 c2) rs) := h2
  have HC : Hid (ckBook js rs = if ckJobs (-1) js ≠ 0 then ckJobs (-1) js else ckRungs rs) := by
    have := L1.out; have := L2.out
    rw [Hid, ckBook, if_neg (by omega)]
  clear h1 h2
  go_enter Try.func60, Try.ntmps60
  go_wp2
  go_loopw [3, 21] (fun l i wr => ∃ (k : Nat) (lv : Int), k ≤ n1 ∧ i = .int .i64 k ∧ l = .int .i64 lv ∧ wr.heap[w.heap.size]? = some (boxB (.slice a1 n1 c1) (.slice a2 n2 c2)) ∧ Below w.heap.size w wr ∧ Hid (ckJobs (-1) js = ckJobs lv (js.drop k))) (fun _ i _ => n1 - (intOf i).toNat)
  case atStart => exact ⟨0, -1, Nat.zero_le _, rfl, rfl, heap_new _ _, grew (Below.refl _ _) _, rfl⟩
  case round =>
    obtain ⟨k, lv, hk, rfl, rfl, hb, hB, hst⟩ := hrel
    by_cases hlt : k < n1
    · obtain ⟨x, hx⟩ : ∃ x, js[k]? = some x := ⟨js[k]'(by have := L1.out; omega), List.getElem?_eq_getElem _⟩
      obtain ⟨b, off, rfl, hE0⟩ := H1.out.at (by omega)
      have hE := hE0.later hB
      have c0 : wr.cell? ⟨b, off + k * 3, none⟩ = some (.int .i64 x.i) := hE k x hx 0 _ rfl
      have c1 : wr.cell? ⟨b, off + k * 3 + 1, none⟩ = some (.int .i64 x.e) := hE k x hx 1 _ rfl
      have c2 : wr.cell? ⟨b, off + k * 3 + 2, none⟩ = some (.int .i64 x.n) := hE k x hx 2 _ rfl
      have hd : Hid (ckJobs (-1) js = if x.bad = true then 3 else if x.i ≤ lv then 6 else ckJobs x.i (js.drop (k + 1))) := by
        rw [Hid, hst.out, drop_at hx, ckJobs]
      have i1 := fun W => in_any x.i 0 5 W
      have i2 := fun W => in_any x.e 1 100 W
      have i3 := fun W => in_any x.n 0 100100 W
      have hbad : Hid (x.bad = !(decide (0 ≤ x.i ∧ x.i ≤ 5) && decide (1 ≤ x.e ∧ x.e ≤ 100) && decide (0 ≤ x.n ∧ x.n ≤ 100100))) := rfl
      clear hE hE0 hst hx H1 H2
      generalize decide (0 ≤ x.i ∧ x.i ≤ 5) = d1 at *
      generalize decide (1 ≤ x.e ∧ x.e ≤ 100) = d2 at *
      generalize decide (0 ≤ x.n ∧ x.n ≤ 100100) = d3 at *
      cases d1 with
      | false =>
        have HF : Hid (ckBook js rs = 3) := by
          have hb' : x.bad = true := by rw [hbad.out]; rfl
          rw [Hid, HC.out, hd.out, if_pos hb']; rfl
        clear hd hbad HC i2 i3
        go_wp2_with fail
        refine (i1 _).mono ?_
        rintro e w1 ⟨rfl, rfl⟩
        go_wp2
        go_ret
        exact ⟨by rw [HF.out]; rfl, grew hB _⟩
      | true =>
        cases d2 with
        | false =>
          have HF : Hid (ckBook js rs = 3) := by
            have hb' : x.bad = true := by rw [hbad.out]; rfl
            rw [Hid, HC.out, hd.out, if_pos hb']; rfl
          clear hd hbad HC i3
          go_wp2_with fail
          refine (i1 _).mono ?_
          rintro e w1 ⟨rfl, rfl⟩
          go_wp2_with fail
          refine (i2 _).mono ?_
          rintro e w1 ⟨rfl, rfl⟩
          go_wp2
          go_ret
          exact ⟨by rw [HF.out]; rfl, grew hB _⟩
        | true =>
          cases d3 with
          | false =>
            have HF : Hid (ckBook js rs = 3) := by
              have hb' : x.bad = true := by rw [hbad.out]; rfl
              rw [Hid, HC.out, hd.out, if_pos hb']; rfl
            clear hd hbad HC
            go_wp2_with fail
            refine (i1 _).mono ?_
            rintro e w1 ⟨rfl, rfl⟩
            go_wp2_with fail
            refine (i2 _).mono ?_
            rintro e w1 ⟨rfl, rfl⟩
            go_wp2_with fail
            refine (i3 _).mono ?_
            rintro e w1 ⟨rfl, rfl⟩
            go_wp2
            go_ret
            exact ⟨by rw [HF.out]; rfl, grew hB _⟩
          | true =>
            have hgood : x.bad = false := by rw [hbad.out]; rfl
            by_cases hle : x.i ≤ lv
            · have HF : Hid (ckBook js rs = 6) := by
                have hv : ckJobs (-1) js = 6 := by rw [hd.out, if_neg (by simp [hgood]), if_pos hle]
                rw [Hid, HC.out, hv]; rfl
              clear hd hbad HC hgood
              go_wp2_with fail
              refine (i1 _).mono ?_
              rintro e w1 ⟨rfl, rfl⟩
              go_wp2_with fail
              refine (i2 _).mono ?_
              rintro e w1 ⟨rfl, rfl⟩
              go_wp2_with fail
              refine (i3 _).mono ?_
              rintro e w1 ⟨rfl, rfl⟩
              go_wp2
              go_ret
              exact ⟨by rw [HF.out]; rfl, grew hB _⟩
            · have HF : Hid (ckJobs (-1) js = ckJobs x.i (js.drop (k + 1))) := by rw [Hid, hd.out, if_neg (by simp [hgood]), if_neg hle]
              have hgt : lv < x.i := by omega
              clear hd hbad hgood hle
              go_wp2_with fail
              refine (i1 _).mono ?_
              rintro e w1 ⟨rfl, rfl⟩
              go_wp2_with fail
              refine (i2 _).mono ?_
              rintro e w1 ⟨rfl, rfl⟩
              go_wp2_with fail
              refine (i3 _).mono ?_
              rintro e w1 ⟨rfl, rfl⟩
              go_wp2
              go_roundw
              case rel => exact ⟨k + 1, x.i, by omega, by go_num, rfl, heap_old hb _, grew hB _, HF.out⟩
              case measure => simp [intOf]; omega
    · have hkn : k = n1 := by omega
      subst hkn
      have HJ : Hid (ckBook js rs = ckRungs rs) := by
        have : ckJobs (-1) js = 0 := by rw [hst.out, List.drop_of_length_le (by have := L1.out; omega)]; rfl
        rw [Hid, HC.out, if_neg (by simp [this])]
      have cB : ∀ i, wr.cell? ⟨w.heap.size, i, none⟩ = #[Value.slice a1 k c1, .slice a2 n2 c2][i]? := fun i => Joins.cell_of_block hb i
      clear hst HC H1
      go_wp2
      go_loopw [51] (fun i wr => ∃ (k : Nat), k ≤ n2 ∧ i = .int .i64 k ∧ Below w.heap.size w wr ∧ Hid (ckRungs rs = ckRungs (rs.drop k))) (fun i _ => n2 - (intOf i).toNat)
      case atStart => exact ⟨0, Nat.zero_le _, rfl, hB, rfl⟩
      case round =>
        clear hb cB hB
        obtain ⟨q, hq, rfl, hB, hst⟩ := hrel
        by_cases hlt : q < n2
        · obtain ⟨x, hx⟩ : ∃ x, rs[q]? = some x := ⟨rs[q]'(by have := L2.out; omega), List.getElem?_eq_getElem _⟩
          obtain ⟨b, off, rfl, hE0⟩ := H2.out.at (by omega)
          have hE := hE0.later hB
          have c0 : wr.cell? ⟨b, off + q * 3, none⟩ = some (.int .i64 x.j) := hE q x hx 0 _ rfl
          have c1 : wr.cell? ⟨b, off + q * 3 + 1, none⟩ = some (.int .i64 x.t) := hE q x hx 1 _ rfl
          have c2 : wr.cell? ⟨b, off + q * 3 + 2, none⟩ = some (.int .i64 x.c) := hE q x hx 2 _ rfl
          have hd : Hid (ckRungs rs = if x.bad = true then 3 else ckRungs (rs.drop (q + 1))) := by
            rw [Hid, hst.out, drop_at hx, ckRungs]
          have i1 := fun W => in_any x.j 0 5 W
          have i2 := fun W => in_any x.t 0 100000 W
          have i3 := fun W => in_any x.c 0 2 W
          have hbad : Hid (x.bad = !(decide (0 ≤ x.j ∧ x.j ≤ 5) && decide (0 ≤ x.t ∧ x.t ≤ 100000) && decide (0 ≤ x.c ∧ x.c ≤ 2))) := rfl
          clear hE hE0 hst hx H2
          generalize decide (0 ≤ x.j ∧ x.j ≤ 5) = d1 at *
          generalize decide (0 ≤ x.t ∧ x.t ≤ 100000) = d2 at *
          generalize decide (0 ≤ x.c ∧ x.c ≤ 2) = d3 at *
          cases d1 with
          | false =>
            have HF : Hid (ckBook js rs = 3) := by
              have hb' : x.bad = true := by rw [hbad.out]; rfl
              rw [Hid, HJ.out, hd.out, if_pos hb']
            clear hd hbad HJ i2 i3
            go_wp2_with fail
            refine (i1 _).mono ?_
            rintro e w1 ⟨rfl, rfl⟩
            go_wp2
            go_ret
            exact ⟨by rw [HF.out]; rfl, grew hB _⟩
          | true =>
            cases d2 with
            | false =>
              have HF : Hid (ckBook js rs = 3) := by
                have hb' : x.bad = true := by rw [hbad.out]; rfl
                rw [Hid, HJ.out, hd.out, if_pos hb']
              clear hd hbad HJ i3
              go_wp2_with fail
              refine (i1 _).mono ?_
              rintro e w1 ⟨rfl, rfl⟩
              go_wp2_with fail
              refine (i2 _).mono ?_
              rintro e w1 ⟨rfl, rfl⟩
              go_wp2
              go_ret
              exact ⟨by rw [HF.out]; rfl, grew hB _⟩
            | true =>
              cases d3 with
              | false =>
                have HF : Hid (ckBook js rs = 3) := by
                  have hb' : x.bad = true := by rw [hbad.out]; rfl
                  rw [Hid, HJ.out, hd.out, if_pos hb']
                clear hd hbad HJ
                go_wp2_with fail
                refine (i1 _).mono ?_
                rintro e w1 ⟨rfl, rfl⟩
                go_wp2_with fail
                refine (i2 _).mono ?_
                rintro e w1 ⟨rfl, rfl⟩
                go_wp2_with fail
                refine (i3 _).mono ?_
                rintro e w1 ⟨rfl, rfl⟩
                go_wp2
                go_ret
                exact ⟨by rw [HF.out]; rfl, grew hB _⟩
              | true =>
                have HF : Hid (ckRungs rs = ckRungs (rs.drop (q + 1))) := by rw [Hid, hd.out, if_neg (by rw [hbad.out]; simp)]
                clear hd hbad
                go_wp2_with fail
                refine (i1 _).mono ?_
                rintro e w1 ⟨rfl, rfl⟩
                go_wp2_with fail
                refine (i2 _).mono ?_
                rintro e w1 ⟨rfl, rfl⟩
                go_wp2_with fail
                refine (i3 _).mono ?_
                rintro e w1 ⟨rfl, rfl⟩
                go_wp2
                go_roundw
                case rel => exact ⟨q + 1, by omega, by go_num, grew hB _, HF.out⟩
                case measure => simp [intOf]; omega
        · have hqn : q = n2 := by omega
          subst hqn
          have HF : Hid (ckBook js rs = 0) := by rw [Hid, HJ.out, hst.out, List.drop_of_length_le (by have := L2.out; omega)]; rfl
          clear hst HJ H2
          go_wp2
          go_ret
          exact ⟨by rw [HF.out]; rfl, hB⟩

/-- The reference's CheckBook, at every book. -/
theorem ref_ckBook (v1 v2 : Value) (js : List Jb) (rs : List Rg) (w : World) (h1 : JobSl w v1 js) (h2 : RungSl w v2 rs) :
    Calls Try.prog 60 #[.agg #[v1, v2]] w fun e w' => e = .returned (.int .i64 (ckBook js rs)) ∧ Below w.heap.size w w' := by
  have h1' := h1
  have h2' := h2
  obtain ⟨a1, c1, rfl, _⟩ := h1
  obtain ⟨a2, c2, rfl, _⟩ := h2
  by_cases hm : 6 < js.length ∨ 60 < rs.length
  · rw [ckBook_many hm]
    exact ref_many a1 a2 _ _ c1 c2 w (by omega)
  · exact ref_few a1 a2 _ _ c1 c2 js rs w h1' h2' (by omega) (by omega)

end Go.Proofs.Ytbokdcdnandgbae
