/- The Go law carillonlaw.BookReplays returns true at every input; no condition. -/
import Derived.Test.YtbkockoekelkkabBookRb
import Derived.Test.YtbkockoekelkkabBookZ
namespace Go.Proofs.Ytbkockoekelkkab
theorem bookReplays_holds : Rows.BookReplaysSaid := bookReplays_given books_any
#print axioms bookReplays_holds
end Go.Proofs.Ytbkockoekelkkab
