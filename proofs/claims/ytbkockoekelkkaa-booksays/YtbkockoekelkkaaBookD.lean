/- The walks of the reference's SameBook and JobAt. -/
import Derived.Test.YtbkockoekelkkaaSlJob
import Derived.Test.YtbkockoekelkkaaSlRung
namespace Go.Proofs.Ytbkockoekelkkaa
open Go.RowKit
open scoped Classical

abbrev most : Nat := 9223372036854775807

set_option maxHeartbeats 2000000 in
/-- The reference's SameBook, at every two books. -/
theorem ref_same (v1 v2 u1 u2 : Value) (js js' : List Jb) (rs rs' : List Rg) (w : World) (h1 : JobSl w v1 js) (h2 : RungSl w v2 rs) (k1 : JobSl w u1 js') (k2 : RungSl w u2 rs') (hn1 : js.length ≤ most) (hn2 : rs.length ≤ most) :
    Calls Try.prog 12 #[.agg #[v1, v2], .agg #[u1, u2]] w fun e w' => e = .returned (.bool (decide (js = js') && decide (rs = rs'))) ∧ Below w.heap.size w w' := by
  have H1 : Hid (JobSl w v1 js) := h1
  have H2 : Hid (RungSl w v2 rs) := h2
  have K1 : Hid (JobSl w u1 js') := k1
  have K2 : Hid (RungSl w u2 rs') := k2
  obtain ⟨a1, c1, rfl, _⟩ := h1
  obtain ⟨a2, c2, rfl, _⟩ := h2
  obtain ⟨b1, d1, rfl, _⟩ := k1
  obtain ⟨b2, d2, rfl, _⟩ := k2
  have hq1 := fun W g1 g2 => equalJ (.slice a1 js.length c1) (.slice b1 js'.length d1) js js' W g1 g2 hn1
  have hq2 := fun W g1 g2 => equalR (.slice a2 rs.length c2) (.slice b2 rs'.length d2) rs rs' W g1 g2 hn2
  clear hn1 hn2
  generalize hm1 : js.length = n1 at *
  generalize hm2 : rs.length = n2 at *
  generalize hm3 : js'.length = n3 at *
  generalize hm4 : rs'.length = n4 at *
  clear hm1 hm2 hm3 hm4
  generalize decide (js = js') = p at *
  generalize decide (rs = rs') = q at *
  go_enter Try.func12, Try.ntmps12
  go_wp2_with fail
  have hB0 := grew (grew (Below.refl w.heap.size w) (boxB (.slice a1 n1 c1) (.slice a2 n2 c2))) (boxB (.slice b1 n3 d1) (.slice b2 n4 d2))
  refine (hq1 _ (by exact H1.out.later hB0) (by exact K1.out.later hB0)).mono ?_
  rintro e w1 ⟨rfl, hb1⟩
  have x1 : w1.heap[w.heap.size]? = some (boxB (.slice a1 n1 c1) (.slice a2 n2 c2)) := by rw [hb1.block _ (by simp only [World.size_alloc]; omega)]; exact heap_old (heap_new _ _) _
  have x2 : w1.heap[w.heap.size + 1]? = some (boxB (.slice b1 n3 d1) (.slice b2 n4 d2)) := by
    rw [hb1.block _ (by simp only [World.size_alloc]; omega)]
    have := heap_new (w.alloc (boxB (.slice a1 n1 c1) (.slice a2 n2 c2))) (boxB (.slice b1 n3 d1) (.slice b2 n4 d2))
    rwa [World.size_alloc] at this
  have hB1 : Below w.heap.size w w1 := hB0.trans (hb1.mono (by simp; omega))
  clear hb1 hB0 hq1
  have y1 : ∀ i, w1.cell? ⟨w.heap.size, i, none⟩ = #[Value.slice a1 n1 c1, .slice a2 n2 c2][i]? := fun i => Joins.cell_of_block x1 i
  have y2 : ∀ i, w1.cell? ⟨w.heap.size + 1, i, none⟩ = #[Value.slice b1 n3 d1, .slice b2 n4 d2][i]? := fun i => Joins.cell_of_block x2 i
  clear x1 x2
  cases p with
  | false =>
    clear hq2
    go_wp2
    go_ret
    exact ⟨rfl, hB1⟩
  | true =>
    go_wp2_with fail
    refine (hq2 _ (by exact H2.out.later hB1) (by exact K2.out.later hB1)).mono ?_
    rintro e w2 ⟨rfl, hb2⟩
    have hB2 := hB1.trans (hb2.mono hB1.size)
    clear hb2 hq2 hB1 y1 y2
    go_wp2
    go_ret
    exact ⟨by cases q <;> rfl, hB2⟩

/-- Where the first job of this ID is; -1: nowhere. -/
def jobAt (js : List Jb) (id : Int) : Int := match js.findIdx? (fun x => x.i == id) with
  | some k => k
  | none => -1

theorem jobAt_some {js : List Jb} {id : Int} {k : Nat} {x : Jb} (hx : js[k]? = some x) (he : x.i = id) (hb : ∀ y, y ∈ js.take k → y.i ≠ id) : jobAt js id = k := by
  have hlt := (List.getElem?_eq_some_iff.1 hx).1
  have : js.findIdx? (fun x => x.i == id) = some k := by
    rw [List.findIdx?_eq_some_iff_getElem]
    refine ⟨hlt, ?_, fun j hj => ?_⟩
    · have := (List.getElem?_eq_some_iff.1 hx).2
      rw [this]; simpa using he
    · have hm : js[j]'(by omega) ∈ js.take k := by
        rw [List.mem_take_iff_getElem]
        exact ⟨j, by omega, rfl⟩
      have := hb _ hm
      simpa using this
  rw [jobAt, this]

theorem jobAt_none {js : List Jb} {id : Int} (hb : ∀ y, y ∈ js → y.i ≠ id) : jobAt js id = -1 := by
  have : js.findIdx? (fun x => x.i == id) = none := by
    rw [List.findIdx?_eq_none_iff]
    intro x hx
    simpa using hb x hx
  rw [jobAt, this]

set_option maxHeartbeats 2000000 in
/-- The reference's JobAt, at every book. -/
theorem ref_jobAt (v1 v2 : Value) (js : List Jb) (rs : List Rg) (id : Int) (w : World) (h1 : JobSl w v1 js) (h2 : RungSl w v2 rs) (hn : js.length ≤ most) :
    Calls Try.prog 14 #[.agg #[v1, v2], .int .i64 id] w fun e w' => e = .returned (.int .i64 (jobAt js id)) ∧ Below w.heap.size w w' := by
  have H1 : Hid (JobSl w v1 js) := h1
  obtain ⟨a1, c1, rfl, _⟩ := h1
  obtain ⟨a2, c2, rfl, _⟩ := h2
  have L1 : Hid (js.length = js.length) := rfl
  generalize rs.length = n2 at *
  obtain ⟨n1, hn1⟩ : ∃ n1, js.length = n1 := ⟨_, rfl⟩
  rw [hn1] at H1 hn ⊢
  replace L1 : Hid (js.length = n1) := hn1
  replace hn : n1 ≤ 9223372036854775807 := hn
  clear hn1
  go_enter Try.func14, Try.ntmps14
  go_wp2
  go_loopg [10] n1 (fun g i wr => ∃ k : Nat, k ≤ n1 ∧ n1 - k ≤ g ∧ i = .int .i64 k ∧ Below w.heap.size w wr ∧ Hid (∀ y, y ∈ js.take k → y.i ≠ id))
  case atStart => exact ⟨0, Nat.zero_le _, by omega, rfl, grew (Below.refl _ _) _, fun y hy => by simp at hy⟩
  case round =>
    obtain ⟨k, hk, hg, rfl, hB, hst⟩ := hrel
    by_cases hlt : k < n1
    · obtain ⟨x, hx⟩ : ∃ x, js[k]? = some x := ⟨js[k]'(by have := L1.out; omega), List.getElem?_eq_getElem _⟩
      obtain ⟨b, off, rfl, hE0⟩ := H1.out.at (by omega)
      have hE := hE0.later hB
      have c0 : wr.cell? ⟨b, off + k * 3, none⟩ = some (.int .i64 x.i) := hE k x hx 0 _ rfl
      have c1 : wr.cell? ⟨b, off + k * 3 + 1, none⟩ = some (.int .i64 x.e) := hE k x hx 1 _ rfl
      have c2 : wr.cell? ⟨b, off + k * 3 + 2, none⟩ = some (.int .i64 x.n) := hE k x hx 2 _ rfl
      by_cases he : x.i = id
      · have HF : Hid (jobAt js id = k) := jobAt_some hx he hst.out
        have heb : (x.i == id) = true := by rw [beq_iff_eq]; exact he
        clear hE hE0 hx hst H1 he
        go_wp2
        go_ret
        exact ⟨by rw [HF.out]; rfl, grew hB _⟩
      · have HN : Hid (∀ y, y ∈ js.take (k + 1) → y.i ≠ id) := fun y hy => by
          rw [List.take_add_one, hx] at hy
          rcases List.mem_append.1 hy with hy | hy
          · exact hst.out y hy
          · simp at hy; rw [hy]; exact he
        have heb : (x.i == id) = false := by rw [beq_eq_false_iff_ne]; exact he
        clear hE hE0 hx hst H1 he
        go_wp2
        go_roundg (n1 - (k + 1))
        case measure => omega
        case rel => exact ⟨k + 1, by omega, by omega, by go_num, grew hB _, HN⟩
    · have hkn : k = n1 := by omega
      subst hkn
      have HF : Hid (jobAt js id = -1) := by
        have h := hst.out
        rw [List.take_of_length_le (by have := L1.out; omega)] at h
        exact jobAt_none h
      clear hst H1
      go_wp2
      go_ret
      exact ⟨by rw [HF.out]; rfl, hB⟩

end Go.Proofs.Ytbkockoekelkkaa
