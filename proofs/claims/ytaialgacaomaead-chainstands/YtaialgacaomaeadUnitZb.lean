/- Package unit's Check. -/
import Derived.Test.YtaialgacaomaeadUnitZa
namespace Go.Proofs.Ytaialgacaomaead
open Go.RowKit

set_option maxHeartbeats 4000000 in
set_option maxRecDepth 100000 in
theorem unitCheck60 (a : Option Addr) (c : Nat) (p : Int) (es : List En) (w : World) (h : EntSl w (.slice a 60 c) es) (hl : es.length = 60) (hp : 1 ≤ p) (hp2 : p ≤ 20) :
    Calls Try.prog 10 #[.agg #[.int .i64 p, .slice a 60 c]] w fun e w' => e = .returned (.int .i64 (ckCells es)) ∧ Below w.heap.size w w' := by
  have H : Hid (EntSl w (.slice a 60 c) es) := h
  have HL : Hid (es.length = 60) := hl
  clear h hl
  go_enter Try.func10, Try.ntmps10
  go_wp2
  go_loopw [21] (fun i wr => ∃ k : Nat, k ≤ 60 ∧ i = .int .i64 k ∧ Below w.heap.size w wr ∧ Hid (ckCells es = ckCells (es.drop k))) (fun i _ => 60 - (intOf i).toNat)
  case atStart => exact ⟨0, Nat.zero_le _, rfl, grew (Below.refl _ _) _, rfl⟩
  case round =>
    obtain ⟨k, hk, rfl, hB, hst⟩ := hrel
    by_cases hlt : k < 60
    · obtain ⟨x, hx⟩ : ∃ x, es[k]? = some x := ⟨es[k]'(by have := HL.out; omega), List.getElem?_eq_getElem _⟩
      obtain ⟨b, off, rfl, hE0⟩ := SlOf.at (cs := En.cells) (k := 5) H.out (by omega)
      have hE := RowAt.later hE0 hB
      have c0 : wr.cell? ⟨b, off + k * 5, none⟩ = some (.int .i64 x.k) := hE k x hx 0 _ rfl
      have c1 : wr.cell? ⟨b, off + k * 5 + 1, none⟩ = some (.int .i64 x.j) := hE k x hx 1 _ rfl
      have c2 : wr.cell? ⟨b, off + k * 5 + 2, none⟩ = some (.int .i64 x.v) := hE k x hx 2 _ rfl
      have c3 : wr.cell? ⟨b, off + k * 5 + 3, none⟩ = some (.int .i64 x.t) := hE k x hx 3 _ rfl
      have c4 : wr.cell? ⟨b, off + k * 5 + 4, none⟩ = some (.int .i64 x.c) := hE k x hx 4 _ rfl
      have hd : Hid (ckCells es = if x.isB = true then ckCells (es.drop (k + 1)) else if x.chk ≠ 0 then x.chk else ckCells (es.drop (k + 1))) := by
        rw [Hid, hst.out, drop_en hx, ckCells]
      have hce : ∀ W, Calls Try.prog 34 #[ev x.k x.j x.v x.t x.c] W fun e w' => e = .returned (.int .i64 x.chk) ∧ Below W.heap.size W w' := fun W => check_any x.k x.j x.v x.t x.c W
      have heq : ∀ W, (binOp .eql 26 (ev x.k x.j x.v x.t x.c) (ev 4 0 0 0 0)).run Try.prog W = .ok (.bool x.isB) W := fun W => eql_entry x.k x.j x.v x.t x.c 4 0 0 0 0 W
      have HX1 : Aside ((wr.alloc (boxE x.k x.j x.v x.t x.c)).heap[wr.heap.size]? = some (boxE x.k x.j x.v x.t x.c)) := heap_new _ _
      have HB1 : Aside (Below w.heap.size w (wr.alloc (boxE x.k x.j x.v x.t x.c))) := grew hB _
      have hki : (k : Int) < 60 := by omega
      clear hE hE0 hst hx hB
      generalize x.isB = ib at *
      generalize x.chk = d at *
      go_upto_region 8 with fail
      have HS0 : Aside (BeS (wr.alloc (boxE x.k x.j x.v x.t x.c)) (wr.alloc (boxE x.k x.j x.v x.t x.c)) wr.heap.size x) := beS_of HX1.out
      generalize wr.alloc (boxE x.k x.j x.v x.t x.c) = W1 at *
      generalize wr.heap.size = bx at *
      have hS0 := HS0.out
      have hbd : Below W1.heap.size W1 W1.drew := (Below.refl _ _).drew
      clear c0 c1 c2 c3 c4 HX1
      cases ib with
      | true =>
        have HN : Hid (ckCells es = ckCells (es.drop (k + 1))) := by rw [Hid, hd.out, if_pos rfl]
        clear hd hce
        go_region_held3 (fun w' => BeS W1 w' bx x) (exact beS_step (by assumption) (by assumption)) (first | (go_at_call 33; refine (ublank_any _).mono ?_; rintro e w' ⟨rfl, hb'⟩))
        all_goals
          rename_i hS
          have HB3 : Aside (Below w.heap.size w _) := HB1.out.trans (hS.1.mono HB1.out.size)
          clear hS hS0 hbd HS0 HB1
          go_wp2
          go_roundw
          case rel => exact ⟨k + 1, by omega, by go_num, HB3.out, HN⟩
          case measure => simp [intOf]; omega
      | false =>
        rw [if_neg (by simp)] at hd
        go_region_held3 (fun w' => BeS W1 w' bx x) (exact beS_step (by assumption) (by assumption)) (first | (go_at_call 33; refine (ublank_any _).mono ?_; rintro e w' ⟨rfl, hb'⟩))
        all_goals
          rename_i hS
          obtain ⟨V, hVe, hSV⟩ := name_world (P := fun W => BeS W1 W bx x) hS
          subst hVe
          have HB3 : Aside (Below w.heap.size w V) := HB1.out.trans (hSV.1.mono HB1.out.size)
          obtain ⟨_, k0, k1, k2, k3, k4⟩ := hSV
          clear hS hS0 hbd HS0 HB1 heq
          go_wp2_with fail
          refine (hce _).mono ?_
          rintro e w4 ⟨rfl, hb4⟩
          have HB4 : Aside (Below w.heap.size w w4) := step_below1 HB3.out hb4
          clear hce hb4 HB3 k0 k1 k2 k3 k4
          by_cases hz : d = 0
          · have HN : Hid (ckCells es = ckCells (es.drop (k + 1))) := by rw [Hid, hd.out, if_neg (by simpa using hz)]
            have hzb : (d != 0) = false := by rw [hz]; rfl
            clear hd hz
            go_wp2
            go_roundw
            case rel => exact ⟨k + 1, by omega, by go_num, HB4.out, HN⟩
            case measure => simp [intOf]; omega
          · have HR : Hid (ckCells es = d) := by rw [Hid, hd.out, if_pos hz]
            have hzb : (d != 0) = true := by rw [bne_iff_ne]; exact hz
            clear hd hz
            go_wp2
            go_ret
            exact ⟨by rw [HR.out]; rfl, HB4.out⟩
    · obtain rfl : k = 60 := by omega
      have HR : Hid (ckCells es = 0) := by
        rw [Hid, hst.out, List.drop_eq_nil_of_le (by have := HL.out; omega)]; rfl
      clear hst
      go_wp2
      go_ret
      exact ⟨by rw [HR.out]; rfl, hB⟩

/-- Package unit's Check. -/
theorem unitCheck_any (v : Value) (u : Un) (w : World) (h : EntSl w v u.cells) :
    Calls Try.prog 10 #[.agg #[.int .i64 u.p, v]] w fun e w' => e = .returned (.int .i64 u.ck) ∧ Below w.heap.size w w' := by
  obtain ⟨p, es⟩ := u
  have h' := h
  obtain ⟨a, c, rfl, _⟩ := h
  show Calls _ _ _ _ fun e w' => e = .returned (.int .i64 (Un.ck ⟨p, es⟩)) ∧ _
  have hc : p < 1 ∨ (1 ≤ p ∧ 20 < p) ∨ (1 ≤ p ∧ p ≤ 20) := by omega
  rcases hc with hp | ⟨hp, hp2⟩ | ⟨hp, hp2⟩
  · rw [Un.ck, if_pos (by simp; omega)]
    show Calls _ _ #[.agg #[.int .i64 p, .slice a es.length c]] _ _
    clear h'
    generalize es.length = n at *
    go_enter Try.func10, Try.ntmps10
    go_wp2
    go_ret
    exact ⟨rfl, grew (Below.refl _ _) _⟩
  · rw [Un.ck, if_pos (by simp; omega)]
    show Calls _ _ #[.agg #[.int .i64 p, .slice a es.length c]] _ _
    clear h'
    generalize es.length = n at *
    go_enter Try.func10, Try.ntmps10
    go_wp2
    go_ret
    exact ⟨rfl, grew (Below.refl _ _) _⟩
  · by_cases hl : es.length = 60
    · rw [Un.ck, if_neg (by simp; omega), if_neg (by simpa using hl)]
      have h2 : EntSl w (.slice a es.length c) es := h'
      show Calls _ _ #[.agg #[.int .i64 p, .slice a es.length c]] _ _
      rw [hl] at h2 ⊢
      exact unitCheck60 a c p es w h2 hl hp hp2
    · rw [Un.ck, if_neg (by simp; omega), if_pos hl]
      have hlb : ((es.length : Int) != 60) = true := by rw [bne_iff_ne]; omega
      show Calls _ _ #[.agg #[.int .i64 p, .slice a es.length c]] _ _
      clear h' hl
      generalize es.length = n at *
      go_enter Try.func10, Try.ntmps10
      go_wp2
      go_ret
      exact ⟨rfl, grew (Below.refl _ _) _⟩

end Go.Proofs.Ytaialgacaomaead
