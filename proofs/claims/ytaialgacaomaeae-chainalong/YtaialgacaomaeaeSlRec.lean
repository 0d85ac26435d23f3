/- Slices of records in memory: equal ones, appended ones, two as one. -/
import Derived.Test.YtaialgacaomaeaeGen
import Derived.Test.YtaialgacaomaeaeNoteB
import Derived.Deep.QuietTactic
import Derived.BigQuiet
import Derived.Lib.AppendZerosOnto
import Derived.Deep.Upon
import Derived.Laws.OwnMore
import Derived.Lib.ItoaMem
namespace Go.Proofs.Ytaialgacaomaeae
open Go.ChangeShapes Go.WideShapes Go.ChangeAt Go.RowKit
open scoped Classical

/-- A record's cells. -/
def Rc.cells (r : Rc) : List Value := [.int .i64 r.k, .int .i64 r.a, .int .i64 r.p, .int .i64 r.e.k, .int .i64 r.e.j, .int .i64 r.e.v, .int .i64 r.e.t, .int .i64 r.e.c]
theorem Rc.eight (r : Rc) : r.cells.length = 8 := rfl
abbrev RecSl (w : World) (v : Value) (l : List Rc) : Prop := SlOf Rc.cells 8 w v l

theorem infoC : (Try.prog.info? 34).map (fun i => (i.zero, i.size, i.bytes)) = some (some (Rc.zero.val), 8, 64) := by kernel_rfl

theorem oneC (es : List Rc) : ∀ u ∈ es.flatMap Rc.cells, u.oneCell' = true := fun u hu => by
  obtain ⟨e, _, he⟩ := List.mem_flatMap.1 hu
  simp only [Rc.cells, List.mem_cons, List.not_mem_nil, or_false] at he
  rcases he with rfl | rfl | rfl | rfl | rfl | rfl | rfl | rfl <;> rfl

end Go.Proofs.Ytaialgacaomaeae
