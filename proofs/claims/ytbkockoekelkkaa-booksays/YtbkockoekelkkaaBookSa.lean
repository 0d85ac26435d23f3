/- The Go law carillonlaw.BookSays returns true at every input; no condition. -/
import Derived.Test.YtbkockoekelkkaaBookRa
import Derived.Test.YtbkockoekelkkaaBookZ
namespace Go.Proofs.Ytbkockoekelkkaa
theorem bookSays_holds : Rows.BookSaysSaid := bookSays_given books_any
#print axioms bookSays_holds
end Go.Proofs.Ytbkockoekelkkaa
