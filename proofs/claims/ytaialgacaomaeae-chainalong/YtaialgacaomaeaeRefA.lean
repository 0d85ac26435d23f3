/- The walk of the reference's CheckEntry. -/
import Derived.Test.YtaialgacaomaeaeKit
namespace Go.Proofs.Ytaialgacaomaeae
open Go.RowKit

/-- A field that is not 0, and that the kind has no use for. -/
def badB (u : ByteArray) (c : UInt8) (n : Int) : Bool := n != 0 && !decide (0 ≤ Lib.indexByte u.data.toList c)

abbrev useO : Obj := .cells #[.string ⟨#[]⟩, .string ⟨#[106, 101, 116]⟩, .string ⟨#[106]⟩, .string ⟨#[106, 116, 99]⟩] 9

end Go.Proofs.Ytaialgacaomaeae
