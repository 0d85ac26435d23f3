/- Package book: the walk of Replay. -/
import Derived.Test.YtjbcfflbfnddeacBookZo
namespace Go.Proofs.Ytjbcfflbfnddeac
open Go.RowKit

theorem bk_apply (v1 v2 : Value) (js : List Jb) (rs : List Rg) (x : En) (w : World) (h1 : JobSl w v1 js) (h2 : RungSl w v2 rs) : Answers 12 #[.agg #[v1, v2], x.val] w (app js rs x) :=
  (bk_applyR v1 v2 js rs x w h1 h2).mono fun _ _ ⟨u1, u2, g1, g2, g3, g4, _⟩ => ⟨u1, u2, g1, g2, g3, g4⟩

set_option maxHeartbeats 1000000 in
theorem bk_of_many (a : Option Addr) (n c : Nat) (w : World) (hn : 60 < (n : Int)) :
    Calls Try.prog 10 #[.slice a n c] w fun e w' => e = .returned (.tuple #[.agg #[nil0, nil0], .int .i64 2]) ∧ Below w.heap.size w w' := by
  go_enter Try.func10, Try.ntmps10
  go_wp2
  exact ret_book (v1 := nil0) (v2 := nil0) Try.results10 rfl rfl rfl (heap_new _ _) ⟨rfl, grew (Below.refl _ _) _⟩

set_option maxHeartbeats 4000000 in
set_option maxRecDepth 100000 in
theorem bk_of_few (a : Option Addr) (n c : Nat) (es : List En) (w : World) (h : EntSl w (.slice a n c) es) (hn : es.length = n) (h60 : (n : Int) ≤ 60) :
    Answers 10 #[.slice a n c] w (bfold [] [] es) := by
  have HN : Hid (es.length = n) := hn
  have HE : Hid (EntSl w (.slice a n c) es) := h
  clear hn h
  go_enter Try.func10, Try.ntmps10
  go_wp2
  go_loopw [15] (fun i wr => ∃ (k : Nat) (a1 a2 : Option Addr) (c1 c2 : Nat) (js : List Jb) (rs : List Rg), k ≤ n ∧ i = .int .i64 k ∧ wr.heap[w.heap.size]? = some (boxB nil0 nil0) ∧ wr.heap[w.heap.size + 1]? = some (boxB (.slice a1 js.length c1) (.slice a2 rs.length c2)) ∧ Hid (JobSl wr (.slice a1 js.length c1) js ∧ RungSl wr (.slice a2 rs.length c2) rs) ∧ Below w.heap.size w wr ∧ Hid (bfold [] [] es = bfold js rs (es.drop k))) (fun i _ => n - (intOf i).toNat)
  case atStart =>
    refine ⟨0, none, none, 0, 0, [], [], Nat.zero_le _, rfl, heap_old (heap_new _ _) _, ?_, ⟨SlOf.nil _ _, SlOf.nil _ _⟩, grew (grew (Below.refl _ _) _) _, rfl⟩
    have := heap_new (w.alloc (boxB nil0 nil0)) (boxB nil0 nil0)
    rwa [World.size_alloc] at this
  case round =>
    obtain ⟨k, a1, a2, c1, c2, js, rs, hk, rfl, y0, y1, hJR, hB, hst⟩ := hrel
    have z1 : ∀ i, wr.cell? ⟨w.heap.size + 1, i, none⟩ = #[Value.slice a1 js.length c1, .slice a2 rs.length c2][i]? := fun i => Joins.cell_of_block y1 i
    have hz0 : w.heap.size < wr.heap.size := heap_lt y0
    have hz1 : w.heap.size + 1 < wr.heap.size := heap_lt y1
    by_cases hlt : k < n
    · obtain ⟨x, hx⟩ : ∃ x, es[k]? = some x := ⟨es[k]'(by have := HN.out; omega), List.getElem?_eq_getElem _⟩
      obtain ⟨b, off, rfl, hE0⟩ : ∃ b off, a = some ⟨b, off, none⟩ ∧ EntsAt w b off es := by
        obtain ⟨a', c', e, hc⟩ := HE.out
        injection e with e1 e2 e3
        subst e1
        rcases hc with hc | hc
        · omega
        · exact hc
      have hE := hE0.later hB
      have d0 : wr.cell? ⟨b, off + k * 5, none⟩ = some (.int .i64 x.k) := hE k x hx 0 _ rfl
      have d1 : wr.cell? ⟨b, off + k * 5 + 1, none⟩ = some (.int .i64 x.j) := hE k x hx 1 _ rfl
      have d2 : wr.cell? ⟨b, off + k * 5 + 2, none⟩ = some (.int .i64 x.v) := hE k x hx 2 _ rfl
      have d3 : wr.cell? ⟨b, off + k * 5 + 3, none⟩ = some (.int .i64 x.t) := hE k x hx 3 _ rfl
      have d4 : wr.cell? ⟨b, off + k * 5 + 4, none⟩ = some (.int .i64 x.c) := hE k x hx 4 _ rfl
      have hap : Hid (∀ W, JobSl W (.slice a1 js.length c1) js → RungSl W (.slice a2 rs.length c2) rs → Answers 12 #[.agg #[.slice a1 js.length c1, .slice a2 rs.length c2], x.val] W (app js rs x)) := fun W g1 g2 => bk_apply _ _ js rs x W g1 g2
      have HD : Hid (bfold [] [] es = bfold js rs (x :: es.drop (k + 1))) := by rw [Hid, hst.out, drop_at hx]
      clear hE hE0 hx hst HE
      go_wp2_with fail
      refine (hap.out _ (by exact hJR.out.1.later (grew (Below.refl _ _) _)) (by exact hJR.out.2.later (grew (Below.refl _ _) _))).mono ?_
      rintro e w1 ⟨u1, u2, rfl, hu1, hu2, hb1⟩
      have H1 : Hid (JobSl w1 u1 (app js rs x).1.1) := hu1
      have H2 : Hid (RungSl w1 u2 (app js rs x).1.2) := hu2
      obtain ⟨b1, q1, b2, q2, rfl, rfl⟩ := bk_slices hu1 hu2
      clear hu1 hu2 hap d0 d1 d2 d3 d4 z1 hJR
      replace y0 := heap_below (heap_old y0 (boxE x.k x.j x.v x.t x.c)) hb1 (by rw [World.size_alloc]; omega)
      replace y1 := heap_below (heap_old y1 (boxE x.k x.j x.v x.t x.c)) hb1 (by rw [World.size_alloc]; omega)
      have hB1 : Below w.heap.size w w1 := (grew hB _).trans (hb1.mono (by rw [World.size_alloc]; omega))
      clear hb1 hB hz0 hz1
      have z0 : ∀ i, w1.cell? ⟨w.heap.size, i, none⟩ = #[nil0, nil0][i]? := fun i => Joins.cell_of_block y0 i
      have f0 : ∀ i, w1.frozen? ⟨w.heap.size, i, none⟩ = false := fun i => Joins.unfrozen_of_block y0 i
      have z1 : ∀ i, w1.cell? ⟨w.heap.size + 1, i, none⟩ = #[Value.slice a1 js.length c1, .slice a2 rs.length c2][i]? := fun i => Joins.cell_of_block y1 i
      have f1 : ∀ i, w1.frozen? ⟨w.heap.size + 1, i, none⟩ = false := fun i => Joins.unfrozen_of_block y1 i
      have hz0 : w.heap.size < w1.heap.size := heap_lt y0
      have hz1 : w.heap.size + 1 < w1.heap.size := heap_lt y1
      by_cases he : (app js rs x).2 = 0
      · have HF : Hid (bfold [] [] es = bfold (app js rs x).1.1 (app js rs x).1.2 (es.drop (k + 1))) := by rw [Hid, HD.out, bfold_ok he]
        rw [he]
        clear HD he
        generalize (app js rs x).1.1 = js' at *
        generalize (app js rs x).1.2 = rs' at *
        have g0 : (w1.setCell ⟨w.heap.size + 1, 0, none⟩ (.slice b1 js'.length q1)).heap[w.heap.size + 1]? = some (boxB (.slice b1 js'.length q1) (.slice a2 rs.length c2)) := by rw [Joins.block_setCell y1]; rfl
        have g1 : ((w1.setCell ⟨w.heap.size + 1, 0, none⟩ (.slice b1 js'.length q1)).setCell ⟨w.heap.size + 1, 1, none⟩ (.slice b2 rs'.length q2)).heap[w.heap.size + 1]? = some (boxB (.slice b1 js'.length q1) (.slice b2 rs'.length q2)) := by rw [Joins.block_setCell g0]; rfl
        have g2 : ((w1.setCell ⟨w.heap.size + 1, 0, none⟩ (.slice b1 js'.length q1)).setCell ⟨w.heap.size + 1, 1, none⟩ (.slice b2 rs'.length q2)).heap[w.heap.size]? = some (boxB nil0 nil0) := by
          rw [Below.heap_setCell _ _ _ _ (by show w.heap.size ≠ w.heap.size + 1; omega), Below.heap_setCell _ _ _ _ (by show w.heap.size ≠ w.heap.size + 1; omega)]; exact y0
        have k1 : JobSl ((w1.setCell ⟨w.heap.size + 1, 0, none⟩ (.slice b1 js'.length q1)).setCell ⟨w.heap.size + 1, 1, none⟩ (.slice b2 rs'.length q2)) (.slice b1 js'.length q1) js' := (H1.out.beside Jb.ints y1 _ _).beside Jb.ints g0 _ _
        have k2 : RungSl ((w1.setCell ⟨w.heap.size + 1, 0, none⟩ (.slice b1 js'.length q1)).setCell ⟨w.heap.size + 1, 1, none⟩ (.slice b2 rs'.length q2)) (.slice b2 rs'.length q2) rs' := (H2.out.beside Rg.ints y1 _ _).beside Rg.ints g0 _ _
        have hG : Hid (_ ∧ _ ∧ _ ∧ _) := ⟨g1, g2, k1, k2⟩
        have hB2 : Hid (Below w.heap.size w ((w1.setCell ⟨w.heap.size + 1, 0, none⟩ (.slice b1 js'.length q1)).setCell ⟨w.heap.size + 1, 1, none⟩ (.slice b2 rs'.length q2))) := (hB1.setCell (p := ⟨w.heap.size + 1, 0, none⟩) (by show w.heap.size ≤ w.heap.size + 1; omega) _).setCell (p := ⟨w.heap.size + 1, 1, none⟩) (by show w.heap.size ≤ w.heap.size + 1; omega) _
        clear g0 g1 g2 k1 k2 H1 H2 hB1 y0 y1
        go_wp2
        go_roundw
        case rel =>
          refine ⟨k + 1, b1, b2, q1, q2, js', rs', by omega, by go_num, heap_old hG.out.2.1 _, heap_old hG.out.1 _, ⟨hG.out.2.2.1.later ?_, hG.out.2.2.2.later ?_⟩, grew hB2.out _, HF.out⟩
          · exact grew (Below.refl _ _) _
          · exact grew (Below.refl _ _) _
        case measure => simp [intOf]; omega
      · have HF : Hid (bfold [] [] es = (([], []), (app js rs x).2)) := by rw [Hid, HD.out, bfold_bad he]
        have heb : ((app js rs x).2 != 0) = true := by rw [bne_iff_ne]; exact he
        clear HD he H1 H2
        generalize (app js rs x).2 = m at *
        generalize (app js rs x).1.1 = js' at *
        generalize (app js rs x).1.2 = rs' at *
        go_wp2
        rw [HF.out]
        have g0 : (w1.setCell ⟨w.heap.size, 0, none⟩ nil0).heap[w.heap.size]? = some (boxB nil0 nil0) := by rw [Joins.block_setCell y0]; rfl
        have g1 : ((w1.setCell ⟨w.heap.size, 0, none⟩ nil0).setCell ⟨w.heap.size, 1, none⟩ nil0).heap[w.heap.size]? = some (boxB nil0 nil0) := by rw [Joins.block_setCell g0]; rfl
        exact ret_book (v1 := nil0) (v2 := nil0) Try.results10 rfl rfl rfl (heap_old g1 _) ⟨nil0, nil0, rfl, SlOf.nil _ _, SlOf.nil _ _, grew ((hB1.setCell (p := ⟨w.heap.size, 0, none⟩) (Nat.le_refl _) _).setCell (p := ⟨w.heap.size, 1, none⟩) (Nat.le_refl _) _) _⟩
    · have hkn : k = n := by omega
      subst hkn
      have HF : Hid (bfold [] [] es = ((js, rs), 0)) := by
        rw [Hid, hst.out, List.drop_of_length_le (by have := HN.out; omega)]; rfl
      clear hst HE
      have z0 : ∀ i, wr.cell? ⟨w.heap.size, i, none⟩ = #[nil0, nil0][i]? := fun i => Joins.cell_of_block y0 i
      have f0 : ∀ i, wr.frozen? ⟨w.heap.size, i, none⟩ = false := fun i => Joins.unfrozen_of_block y0 i
      go_wp2
      rw [HF.out]
      have g0 : (wr.setCell ⟨w.heap.size, 0, none⟩ (.slice a1 js.length c1)).heap[w.heap.size]? = some (boxB (.slice a1 js.length c1) nil0) := by rw [Joins.block_setCell y0]; rfl
      have g1 : ((wr.setCell ⟨w.heap.size, 0, none⟩ (.slice a1 js.length c1)).setCell ⟨w.heap.size, 1, none⟩ (.slice a2 rs.length c2)).heap[w.heap.size]? = some (boxB (.slice a1 js.length c1) (.slice a2 rs.length c2)) := by rw [Joins.block_setCell g0]; rfl
      exact ret_book (v1 := .slice a1 js.length c1) (v2 := .slice a2 rs.length c2) Try.results10 rfl rfl rfl g1 ⟨_, _, rfl, (hJR.out.1.beside Jb.ints y0 _ _).beside Jb.ints g0 _ _, (hJR.out.2.beside Rg.ints y0 _ _).beside Rg.ints g0 _ _, (hB.setCell (p := ⟨w.heap.size, 0, none⟩) (Nat.le_refl _) _).setCell (p := ⟨w.heap.size, 1, none⟩) (Nat.le_refl _) _⟩

/-- book.Replay, at every slice of entries. -/
theorem bk_replay (v : Value) (es : List En) (w : World) (h : EntSl w v es) : Answers 10 #[v] w (bookOf es) := by
  have h' := h
  obtain ⟨a, c, rfl, _⟩ := h
  unfold bookOf
  by_cases hm : 60 < es.length
  · rw [if_pos hm]
    exact zero_book (bk_of_many a _ c w (by omega))
  · rw [if_neg hm]
    exact bk_of_few a _ c es w h' rfl (by omega)

end Go.Proofs.Ytjbcfflbfnddeac
