/- The reference's Linked at a right entry, unit 0. -/
import Derived.Test.YtaialgacaomaeaeChainD
namespace Go.Proofs.Ytaialgacaomaeae
open Go.RowKit
open scoped Classical

end Go.Proofs.Ytaialgacaomaeae
