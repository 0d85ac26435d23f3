/- The Go law carillonlaw.BookParts returns true at every input; no condition. -/
import Derived.Test.YtbkockoekelkkabBookRd
import Derived.Test.YtbkockoekelkkabBookZ
namespace Go.Proofs.Ytbkockoekelkkab
theorem bookParts_holds : Rows.BookPartsSaid := bookParts_given books_any
#print axioms bookParts_holds
end Go.Proofs.Ytbkockoekelkkab
