/- The walk of the reference's DueAt. -/
import Derived.Test.YtmfoonalehmjoabDueK
namespace Go.Proofs.Ytmfoonalehmjoab
open Go.RowKit Go.Shelf

set_option maxHeartbeats 1000000 in
theorem isort0 (g : Nat) (lb : Array Value) (a : Option Addr) (c : Nat) (w : World) :
    Calls Try.prog 68 #[.slice a 0 c, .int .i64 0, .int .i64 (0 : Nat), .func (.func g) #[] lb] w fun e w' => e = .returned (.tuple #[]) ∧ w' = w := by
  go_enter Try.func68, Try.ntmps68
  go_wp2_with fail
  refine wp_loop_once ?_
  go_wp2
  exact bodyPost_end (v := .tuple #[]) (by simp [results, go_sem]) rfl ⟨rfl, rfl⟩

theorem srt_apart : ∀ {l : Int} {js : List Jb}, Srt l js → js.Pairwise (fun y z => y.i ≠ z.i)
  | _, [], _ => List.Pairwise.nil
  | _, x :: r, h => List.Pairwise.cons (fun y hy => by have := Srt.above h.2 y hy; omega) (srt_apart h.2)

/-- The jobs that are due, in the book's order. -/
def late (t : Int) (js : List Jb) : List Jb := js.filter fun y => decide (y.n ≤ t)

theorem late_row {js ys : List Jb} {rs : List Rg} {t : Int} (hok : Ok js rs) (hr : Row ys) (hm : ∀ z, z ∈ ys ↔ z ∈ late t js) : ys = dueOf js t := by
  refine row_ext hr (dueOf_row t hok.srt) fun z => ?_
  rw [hm z, dueOf_mem, late, List.mem_filter]
  simp

set_option maxHeartbeats 4000000 in
/-- The reference's DueAt, up to the sort. -/
theorem ref_due : RefDue := fun v1 v2 js rs t w h1 h2 hok => by
  obtain ⟨i0, hi, hz0, hz1, hz2⟩ := info_parts infoJ
  have H1 : Hid (JobSl w v1 js) := h1
  obtain ⟨a1, c1, rfl, _⟩ := h1
  obtain ⟨a2, c2, rfl, _⟩ := h2
  have hn : js.length ≤ 6 := hok.few
  have HO : Hid (Ok js rs) := hok
  clear hok hi hz0 hz1 hz2
  generalize rs.length = n2 at *
  obtain ⟨n1, hn1⟩ : ∃ n1, js.length = n1 := ⟨_, rfl⟩
  have L1 : Hid (js.length = n1) := hn1
  rw [hn1] at H1 hn ⊢
  clear hn1
  go_enter Try.func26, Try.ntmps26
  go_wp2
  go_loopw [5, 11] (fun l i wr => ∃ (k m : Nat), k ≤ n1 ∧ m ≤ k ∧ i = .int .i64 k ∧ Hid (wr.ownsRow w.heap.size 41 3 l m ((late t (js.take k)).flatMap Jb.cells)) ∧ Hid ((late t (js.take k)).length = m) ∧ Aside (Below w.heap.size w wr)) (fun _ i _ => n1 - (intOf i).toNat)
  case atStart => exact ⟨0, 0, Nat.zero_le _, Nat.le_refl _, rfl, World.ownsRow_nil _ _ _ _, rfl, grew (Below.refl _ _) _⟩
  case round =>
    obtain ⟨k, m, hk, hmk, rfl, hown, hml, hB⟩ := hrel
    by_cases hlt : k < n1
    · obtain ⟨x, hx⟩ : ∃ x, js[k]? = some x := ⟨js[k]'(by have := L1.out; omega), List.getElem?_eq_getElem _⟩
      obtain ⟨b, off, rfl, hE0⟩ := H1.out.at (by omega)
      have hE := hE0.later hB.out
      have c0 : wr.cell? ⟨b, off + k * 3, none⟩ = some (.int .i64 x.i) := hE k x hx 0 _ rfl
      have c1 : wr.cell? ⟨b, off + k * 3 + 1, none⟩ = some (.int .i64 x.e) := hE k x hx 1 _ rfl
      have c2 : wr.cell? ⟨b, off + k * 3 + 2, none⟩ = some (.int .i64 x.n) := hE k x hx 2 _ rfl
      have HL : Hid (late t (js.take (k + 1)) = if x.n ≤ t then late t (js.take k) ++ [x] else late t (js.take k)) := by
        rw [Hid, List.take_add_one, hx, late, List.filter_append]
        by_cases h : x.n ≤ t <;> simp [late, h]
      clear hE hE0 hx H1
      by_cases hnt : x.n ≤ t
      · have HF : Hid (late t (js.take (k + 1)) = late t (js.take k) ++ [x]) := by rw [Hid, HL.out, if_pos hnt]
        have hsz : w.heap.size ≤ wr.heap.size := hB.out.size
        have hown2 : Hid (((wr.alloc (boxJ x)).alloc (boxJ x)).ownsRow w.heap.size 41 3 u5 m ((late t (js.take k)).flatMap Jb.cells)) := (hown.out.alloc _).alloc _
        have hes : Hid (JobSl ((wr.alloc (boxJ x)).alloc (boxJ x)) (.slice (some ⟨wr.heap.size + 1, 0, none⟩) 1 1) [x]) := by
          have h0 := heap_new (wr.alloc (boxJ x)) (boxJ x)
          rw [World.size_alloc] at h0
          exact slOf_lit Jb.three (c := 1) (xs := [x]) h0 rfl
        clear HL
        go_wp2_with (at_builtin; refine appendJ rfl _ _ rfl w.heap.size _ _ m _ rfl hown2.out [x] rfl hes.out (by simp; omega) (by simp; omega) ?_)
        intro v' w' hown' hgrow
        have hB' : Aside (Below w.heap.size w w') := (grew (grew hB.out (boxJ x)) (boxJ x)).grown hgrow (by simp; omega) (fun z hz => (hown.out.lt z hz).1)
        have hown3 : Hid (w'.ownsRow w.heap.size 41 3 v' (m + 1) ((late t (js.take (k + 1))).flatMap Jb.cells)) := by
          rw [HF.out, List.flatMap_append]
          simpa [Hid] using hown'
        have hml' : Hid ((late t (js.take (k + 1))).length = m + 1) := by rw [HF.out, List.length_append, Hid, hml.out]; rfl
        clear hown' hgrow hown hes hown2 HF hml
        go_wp2
        go_roundw
        case rel => exact ⟨k + 1, m + 1, by omega, by omega, by go_num, hown3.out, hml'.out, hB'⟩
        case measure => simp [intOf]; omega
      · have HF : Hid (late t (js.take (k + 1)) = late t (js.take k)) := by rw [Hid, HL.out, if_neg hnt]
        have hown3 : Hid ((wr.alloc (boxJ x)).ownsRow w.heap.size 41 3 u5 m ((late t (js.take (k + 1))).flatMap Jb.cells)) := by rw [HF.out]; exact hown.out.alloc _
        have hml' : Hid ((late t (js.take (k + 1))).length = m) := by rw [HF.out]; exact hml.out
        clear HL hown HF hml
        go_wp2
        go_roundw
        case rel => exact ⟨k + 1, m, by omega, by omega, by go_num, hown3.out, hml'.out, grew hB.out _⟩
        case measure => simp [intOf]; omega
    · have hkn : k = n1 := by omega
      subst hkn
      have ht : js.take k = js := List.take_of_length_le (by have := L1.out; omega)
      rw [ht] at hown hml
      have hm12 : m ≤ 12 := by omega
      have hfew : ∀ x, x ∈ late t js → (0 ≤ x.i ∧ x.i ≤ 5) ∧ (0 ≤ x.n ∧ x.n ≤ 100100) := fun x hx => by
        have := Jb.good (HO.out.jobs x (List.mem_filter.1 hx).1)
        exact ⟨this.1, this.2.2⟩
      have eg : ∀ args w, (callFunc 51 args).run Try.prog w = .ok (.enter 51 args) w := enters_of Try.func51 (by kernel_rfl) rfl
      rcases hown.out.2 with ⟨rfl, hm0⟩ | ⟨gb, cap, cur, rfl, hgb, hcur, hle, _, hcs, htake⟩
      · subst hm0
        have hl0 : late t js = [] := List.length_eq_zero_iff.1 hml.out
        have hd0 : [] = dueOf js t := late_row HO.out trivial (fun z => by rw [hl0])
        have hs := sortF 51 #[] (.slice none 0 0) 0 wr (fun w' => w' = wr) ⟨none, 0, rfl⟩ (by omega) (isort0 _ _ none 0 wr)
        clear hown hml H1 hfew eg
        go_wp2_with fail
        refine hs.mono ?_
        rintro e w2 ⟨rfl, rfl⟩
        go_wp2
        go_ret
        exact ⟨_, rfl, by rw [← hd0]; exact SlOf.nil _ _, hB.out⟩
      · have hg : wr.heap[gb]? = some (.cells ((late t js).flatMap Jb.cells ++ cur.toList.drop (m * 3)).toArray 41) := by
          rw [← htake, List.take_append_drop]
          simpa using hcur
        have his := isort 51 #[] eg gb cap m (late t js) _ wr hml.out hm12 ((srt_apart HO.out.srt).filter _) hg (fun W x y hx hy => cmp_pred x y W (hfew x hx) (hfew y hy))
        have hs := sortF 51 #[] (.slice (some ⟨gb, 0, none⟩) m cap) m wr _ ⟨_, _, rfl⟩ hm12 his
        clear hown hml H1 hfew eg hg his hcur htake hcs
        go_wp2_with fail
        refine hs.mono ?_
        rintro e w2 ⟨rfl, ys, hr, hmem, hyl, hg2, hk2⟩
        have hyd := late_row HO.out hr hmem
        have J2 : Aside (JobSl w2 (.slice (some ⟨gb, 0, none⟩) m cap) (dueOf js t)) := by
          rw [← hyd, ← hyl]
          exact slOf_block Jb.three hg2 ⟨_, rfl⟩
        have B2 : Aside (Below w.heap.size w w2) := hB.out.trans (hk2.to hB.out.size (fun k hk => by simp at hk; omega))
        clear hr hmem hyl hg2 hk2 hyd hs
        go_wp2
        go_ret
        exact ⟨_, rfl, J2.out, B2.out⟩

end Go.Proofs.Ytmfoonalehmjoab
