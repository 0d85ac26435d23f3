/- The walks of the reference's SameBook and JobAt. -/
import Derived.Test.YtmfoonalehmjoabSlJob
import Derived.Test.YtmfoonalehmjoabSlRung
namespace Go.Proofs.Ytmfoonalehmjoab
open Go.RowKit
open scoped Classical

abbrev most : Nat := 9223372036854775807

set_option maxHeartbeats 2000000 in
/-- The reference's SameBook, at every two books. -/
theorem ref_same (v1 v2 u1 u2 : Value) (js js' : List Jb) (rs rs' : List Rg) (w : World) (h1 : JobSl w v1 js) (h2 : RungSl w v2 rs) (k1 : JobSl w u1 js') (k2 : RungSl w u2 rs') (hn1 : js.length ≤ most) (hn2 : rs.length ≤ most) :
    Calls Try.prog 12 #[.agg #[v1, v2], .agg #[u1, u2]] w fun e w' => e = .returned (.bool (decide (js = js') && decide (rs = rs'))) ∧ Below w.heap.size w w' := by
  have H1 : Hid (JobSl w v1 js) := h1
  have H2 : Hid (RungSl w v2 rs) := h2
  have K1 : Hid (JobSl w u1 js') := k1
  have K2 : Hid (RungSl w u2 rs') := k2
  obtain ⟨a1, c1, rfl, _⟩ := h1
  obtain ⟨a2, c2, rfl, _⟩ := h2
  obtain ⟨b1, d1, rfl, _⟩ := k1
  obtain ⟨b2, d2, rfl, _⟩ := k2
  have hq1 := fun W g1 g2 => equalJ (.slice a1 js.length c1) (.slice b1 js'.length d1) js js' W g1 g2 hn1
  have hq2 := fun W g1 g2 => equalR (.slice a2 rs.length c2) (.slice b2 rs'.length d2) rs rs' W g1 g2 hn2
  clear hn1 hn2
  generalize hm1 : js.length = n1 at *
  generalize hm2 : rs.length = n2 at *
  generalize hm3 : js'.length = n3 at *
  generalize hm4 : rs'.length = n4 at *
  clear hm1 hm2 hm3 hm4
  generalize decide (js = js') = p at *
  generalize decide (rs = rs') = q at *
  go_enter Try.func12, Try.ntmps12
  go_wp2_with fail
  have hB0 := grew (grew (Below.refl w.heap.size w) (boxB (.slice a1 n1 c1) (.slice a2 n2 c2))) (boxB (.slice b1 n3 d1) (.slice b2 n4 d2))
  refine (hq1 _ (by exact H1.out.later hB0) (by exact K1.out.later hB0)).mono ?_
  rintro e w1 ⟨rfl, hb1⟩
  have x1 : w1.heap[w.heap.size]? = some (boxB (.slice a1 n1 c1) (.slice a2 n2 c2)) := by rw [hb1.block _ (by simp only [World.size_alloc]; omega)]; exact heap_old (heap_new _ _) _
  have x2 : w1.heap[w.heap.size + 1]? = some (boxB (.slice b1 n3 d1) (.slice b2 n4 d2)) := by
    rw [hb1.block _ (by simp only [World.size_alloc]; omega)]
    have := heap_new (w.alloc (boxB (.slice a1 n1 c1) (.slice a2 n2 c2))) (boxB (.slice b1 n3 d1) (.slice b2 n4 d2))
    rwa [World.size_alloc] at this
  have hB1 : Below w.heap.size w w1 := hB0.trans (hb1.mono (by simp; omega))
  clear hb1 hB0 hq1
  have y1 : ∀ i, w1.cell? ⟨w.heap.size, i, none⟩ = #[Value.slice a1 n1 c1, .slice a2 n2 c2][i]? := fun i => Joins.cell_of_block x1 i
  have y2 : ∀ i, w1.cell? ⟨w.heap.size + 1, i, none⟩ = #[Value.slice b1 n3 d1, .slice b2 n4 d2][i]? := fun i => Joins.cell_of_block x2 i
  clear x1 x2
  cases p with
  | false =>
    clear hq2
    go_wp2
    go_ret
    exact ⟨rfl, hB1⟩
  | true =>
    go_wp2_with fail
    refine (hq2 _ (by exact H2.out.later hB1) (by exact K2.out.later hB1)).mono ?_
    rintro e w2 ⟨rfl, hb2⟩
    have hB2 := hB1.trans (hb2.mono hB1.size)
    clear hb2 hq2 hB1 y1 y2
    go_wp2
    go_ret
    exact ⟨by cases q <;> rfl, hB2⟩

/-- Where the first job of this ID is; -1: nowhere. -/
def jobAt (js : List Jb) (id : Int) : Int := match js.findIdx? (fun x => x.i == id) with
  | some k => k
  | none => -1

theorem jobAt_some {js : List Jb} {id : Int} {k : Nat} {x : Jb} (hx : js[k]? = some x) (he : x.i = id) (hb : ∀ y, y ∈ js.take k → y.i ≠ id) : jobAt js id = k := by
  have hlt := (List.getElem?_eq_some_iff.1 hx).1
  have : js.findIdx? (fun x => x.i == id) = some k := by
    rw [List.findIdx?_eq_some_iff_getElem]
    refine ⟨hlt, ?_, fun j hj => ?_⟩
    · have := (List.getElem?_eq_some_iff.1 hx).2
      rw [this]; simpa using he
    · have hm : js[j]'(by omega) ∈ js.take k := by
        rw [List.mem_take_iff_getElem]
        exact ⟨j, by omega, rfl⟩
      have := hb _ hm
      simpa using this
  rw [jobAt, this]

theorem jobAt_none {js : List Jb} {id : Int} (hb : ∀ y, y ∈ js → y.i ≠ id) : jobAt js id = -1 := by
  have : js.findIdx? (fun x => x.i == id) = none := by
    rw [List.findIdx?_eq_none_iff]
    intro x hx
    simpa using hb x hx
  rw [jobAt, this]

end Go.Proofs.Ytmfoonalehmjoab
