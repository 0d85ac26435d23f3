/- Jobs and rings in memory; the walks of the reference's CheckBook and JobAt. -/
import Derived.Test.YtjbcfflbfnddeacBookB
import Derived.Test.YtjbcfflbfnddeacGen
import Derived.Test.YtjbcfflbfnddeacRefB
namespace Go.Proofs.Ytjbcfflbfnddeac
open Go.RowKit

def Jb.cells (x : Jb) : List Value := [.int .i64 x.i, .int .i64 x.e, .int .i64 x.n]
def Rg.cells (x : Rg) : List Value := [.int .i64 x.j, .int .i64 x.t, .int .i64 x.c]
theorem Jb.three (x : Jb) : x.cells.length = 3 := rfl
theorem Rg.three (x : Rg) : x.cells.length = 3 := rfl
abbrev JobSl (w : World) (v : Value) (js : List Jb) : Prop := SlOf Jb.cells 3 w v js
abbrev RungSl (w : World) (v : Value) (rs : List Rg) : Prop := SlOf Rg.cells 3 w v rs
abbrev boxB (v1 v2 : Value) : Obj := .cells #[v1, v2] 35

theorem ckBook_many {js : List Jb} {rs : List Rg} (h : 6 < js.length ∨ 60 < rs.length) : ckBook js rs = 2 := by rw [ckBook, if_pos h]

theorem drop_at {α : Type} {xs : List α} {k : Nat} {x : α} (h : xs[k]? = some x) : xs.drop k = x :: xs.drop (k + 1) := by
  have hlt := (List.getElem?_eq_some_iff.1 h).1
  rw [List.drop_eq_getElem_cons hlt, (List.getElem?_eq_some_iff.1 h).2]

end Go.Proofs.Ytjbcfflbfnddeac
