/- The Go law carillonlaw.BookOnce returns true at every input; no condition. -/
import Derived.Test.YtbkockoekelkkabBookRc
import Derived.Test.YtbkockoekelkkabBookZ
namespace Go.Proofs.Ytbkockoekelkkab
theorem bookOnce_holds : Rows.BookOnceSaid := bookOnce_given books_any
#print axioms bookOnce_holds
end Go.Proofs.Ytbkockoekelkkab
