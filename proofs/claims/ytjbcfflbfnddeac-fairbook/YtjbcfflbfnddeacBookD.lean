/- The walks of the reference's SameBook and JobAt. -/
import Derived.Test.YtjbcfflbfnddeacSlJob
import Derived.Test.YtjbcfflbfnddeacSlRung
namespace Go.Proofs.Ytjbcfflbfnddeac
open Go.RowKit
open scoped Classical

abbrev most : Nat := 9223372036854775807

/-- Where the first job of this ID is; -1: nowhere. -/
def jobAt (js : List Jb) (id : Int) : Int := match js.findIdx? (fun x => x.i == id) with
  | some k => k
  | none => -1

theorem jobAt_some {js : List Jb} {id : Int} {k : Nat} {x : Jb} (hx : js[k]? = some x) (he : x.i = id) (hb : ∀ y, y ∈ js.take k → y.i ≠ id) : jobAt js id = k := by
  have hlt := (List.getElem?_eq_some_iff.1 hx).1
  have : js.findIdx? (fun x => x.i == id) = some k := by
    rw [List.findIdx?_eq_some_iff_getElem]
    refine ⟨hlt, ?_, fun j hj => ?_⟩
    · have := (List.getElem?_eq_some_iff.1 hx).2
      rw [this]; simpa using he
    · have hm : js[j]'(by omega) ∈ js.take k := by
        rw [List.mem_take_iff_getElem]
        exact ⟨j, by omega, rfl⟩
      have := hb _ hm
      simpa using this
  rw [jobAt, this]

theorem jobAt_none {js : List Jb} {id : Int} (hb : ∀ y, y ∈ js → y.i ≠ id) : jobAt js id = -1 := by
  have : js.findIdx? (fun x => x.i == id) = none := by
    rw [List.findIdx?_eq_none_iff]
    intro x hx
    simpa using hb x hx
  rw [jobAt, this]

end Go.Proofs.Ytjbcfflbfnddeac
