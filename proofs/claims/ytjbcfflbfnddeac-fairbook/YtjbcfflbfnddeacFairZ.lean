/- Package fair: the walk of Lives. -/
import Derived.Test.YtjbcfflbfnddeacFairZd
namespace Go.Proofs.Ytjbcfflbfnddeac
open Go.RowKit Go.Shelf

set_option maxHeartbeats 1000000 in
theorem fair_many (a : Option Addr) (n c : Nat) (w : World) (hn : 60 < (n : Int)) :
    Calls Try.prog 6 #[.slice a n c] w fun e w' => e = .returned (.tuple #[nil0, .int .i64 2]) ∧ w' = w := by
  go_enter Try.func6, Try.ntmps6
  go_wp2
  exact bodyPost_ret (v := .tuple #[nil0, .int .i64 2]) (by simp [results, Try.results6, go_sem]) rfl ⟨rfl, rfl⟩

set_option linter.unusedSimpArgs false in
set_option maxHeartbeats 4000000 in
set_option maxRecDepth 100000 in
theorem fair_few (a : Option Addr) (n0 c : Nat) (es : List En) (w : World) (h : EntSl w (.slice a n0 c) es) (hn : es.length = n0) (h60 : (n0 : Int) ≤ 60) :
    Calls Try.prog 6 #[.slice a n0 c] w fun e w' => ∃ u, e = .returned (.tuple #[u, .int .i64 (lfold [] es).2]) ∧ LifeSl w' u (lfold [] es).1 ∧ Below w.heap.size w w' := by
  have HN : Hid (es.length = n0) := hn
  have HE : Hid (EntSl w (.slice a n0 c) es) := h
  have HS0 : Aside (Lrw w w nil0 0 []) := ⟨World.ownsRow_nil _ _ _ _, lok_nil, Below.refl _ _, rfl, by decide⟩
  clear hn h
  go_enter Try.func6, Try.ntmps6
  go_wp2
  go_loopw [4, 13] (fun l i wr => ∃ (k m : Nat) (ls : List Lf), k ≤ n0 ∧ i = .int .i64 k ∧ m ≤ k ∧ Aside (Lrw w wr l m ls) ∧ Hid (lfold [] es = lfold ls (es.drop k))) (fun _ i _ => n0 - (intOf i).toNat)
  case atStart => exact ⟨0, 0, [], Nat.zero_le _, rfl, Nat.le_refl _, HS0, rfl⟩
  case round =>
    obtain ⟨k, m, ls, hk, rfl, hmk, HS, hst⟩ := hrel
    obtain ⟨a4, c4, rfl⟩ := owns_slice HS.out.row
    by_cases hlt : k < n0
    · obtain ⟨x, hx⟩ : ∃ x, es[k]? = some x := ⟨es[k]'(by have := HN.out; omega), List.getElem?_eq_getElem _⟩
      obtain ⟨b, off, rfl, hE0⟩ : ∃ b off, a = some ⟨b, off, none⟩ ∧ EntsAt w b off es := by
        obtain ⟨a', c', e, hc⟩ := HE.out
        injection e with e1 e2 e3
        subst e1
        rcases hc with hc | hc
        · omega
        · exact hc
      have hE := hE0.later HS.out.below
      have d0 : wr.cell? ⟨b, off + k * 5, none⟩ = some (.int .i64 x.k) := hE k x hx 0 _ rfl
      have d1 : wr.cell? ⟨b, off + k * 5 + 1, none⟩ = some (.int .i64 x.j) := hE k x hx 1 _ rfl
      have d2 : wr.cell? ⟨b, off + k * 5 + 2, none⟩ = some (.int .i64 x.v) := hE k x hx 2 _ rfl
      have d3 : wr.cell? ⟨b, off + k * 5 + 3, none⟩ = some (.int .i64 x.t) := hE k x hx 3 _ rfl
      have d4 : wr.cell? ⟨b, off + k * 5 + 4, none⟩ = some (.int .i64 x.c) := hE k x hx 4 _ rfl
      have hce : Calls Try.prog 13 #[ev x.k x.j x.v x.t x.c] (wr.alloc (boxE x.k x.j x.v x.t x.c)) fun e w' => e = .returned (.int .i64 x.chk) ∧ Below (wr.alloc (boxE x.k x.j x.v x.t x.c)).heap.size (wr.alloc (boxE x.k x.j x.v x.t x.c)) w' := check_any x.k x.j x.v x.t x.c _
      have HD : Hid (lfold [] es = lfold ls (x :: es.drop (k + 1))) := by rw [Hid, hst.out, drop_at hx]
      have hXb : (wr.alloc (boxE x.k x.j x.v x.t x.c)).heap[wr.heap.size]? = some (boxE x.k x.j x.v x.t x.c) := heap_new _ _
      have HSa := HS.out.later (grew (Below.refl wr.heap.size wr) (boxE x.k x.j x.v x.t x.c))
      clear hE hE0 hx hst HE HS0 HS
      obtain ⟨d, hd⟩ : ∃ d, Hid (x.chk = d) := ⟨_, rfl⟩
      rw [hd.out] at hce
      go_wp2_with fail
      refine hce.mono ?_
      rintro e w1 ⟨rfl, hb1⟩
      have HS1 : Aside (Lrw w w1 (.slice a4 m c4) m ls) := HSa.later hb1
      have hX1 : w1.heap[wr.heap.size]? = some (boxE x.k x.j x.v x.t x.c) := heap_below hXb hb1 (heap_lt hXb)
      have zX : ∀ i, w1.cell? ⟨wr.heap.size, i, none⟩ = #[Value.int .i64 x.k, .int .i64 x.j, .int .i64 x.v, .int .i64 x.t, .int .i64 x.c][i]? := fun i => Joins.cell_of_block hX1 i
      clear hce hb1 hXb HSa d0 d1 d2 d3 d4 hX1
      by_cases he : d = 0
      · subst he
        have HF : Hid (lfold [] es = lfold (lstep ls x) (es.drop (k + 1))) := by rw [Hid, HD.out, lfold, if_neg (by simpa using hd.out)]
        have hfo := follow_any w w1 (.slice a4 m c4) m ls x HS1.out (by omega) hd.out
        clear HD hd HS1
        obtain ⟨l', hl'⟩ : ∃ l', lstep ls x = l' := ⟨_, rfl⟩
        rw [hl'] at hfo HF
        clear hl'
        go_wp2_with fail
        refine hfo.mono ?_
        rintro e w2 ⟨v2, m2, rfl, hm2, HS2⟩
        obtain ⟨a5, c5, rfl⟩ := owns_slice HS2.row
        have HSf : Aside _ := HS2
        clear hfo zX HS2
        go_wp2
        go_roundw
        case rel => exact ⟨k + 1, m2, l', by omega, by go_num, by omega, HSf, HF⟩
        case measure => simp [intOf]; omega
      · have heb : (d != 0) = true := by rw [bne_iff_ne]; exact he
        have HF : Hid (lfold [] es = ([], d)) := by rw [Hid, HD.out, lfold, if_pos (by rw [hd.out]; exact he), hd.out]
        have HBe : Aside (Below w.heap.size w w1) := HS1.out.below
        clear HD HS1 zX hd
        go_wp2
        exact bodyPost_ret (v := .tuple #[nil0, .int .i64 d]) (by simp [results, Try.results6, go_sem]) rfl ⟨nil0, by rw [HF.out], by rw [HF.out]; exact SlOf.nil _ _, HBe.out⟩
    · have hkn : k = n0 := by omega
      subst hkn
      have HF : Hid (lfold [] es = (ls, 0)) := by
        rw [Hid, hst.out, List.drop_of_length_le (by have := HN.out; omega)]
        rfl
      have HL : Aside (LifeSl wr (.slice a4 m c4) ls) := HS.out.sl
      have HBe : Aside (Below w.heap.size w wr) := HS.out.below
      clear hst HS HE HS0 HN
      go_wp2
      exact bodyPost_ret (v := .tuple #[.slice a4 m c4, .int .i64 0]) (by simp [results, Try.results6, go_sem]) rfl ⟨_, by rw [HF.out], by rw [HF.out]; exact HL.out, HBe.out⟩

/-- fair.Lives, at every slice of entries. -/
theorem lives_any : Lives := fun v es w hv _ => by
  have hv' := hv
  obtain ⟨a, c, rfl, _⟩ := hv
  unfold livesOf
  by_cases h : 60 < es.length
  · rw [if_pos h]
    exact (fair_many a es.length c w (by omega)).mono fun _ _ ⟨he, hw⟩ => ⟨nil0, he, SlOf.nil _ _, by rw [hw]; exact Below.refl _ _⟩
  · rw [if_neg h]
    exact fair_few a es.length c es w hv' rfl (by omega)

end Go.Proofs.Ytjbcfflbfnddeac
