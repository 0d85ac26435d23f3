/- The Go law carillonlaw.FairBook returns true at every input; no condition. -/
import Derived.Test.YtjbcfflbfnddeacFairRb
import Derived.Test.YtjbcfflbfnddeacFairZ
import Derived.Test.YtjbcfflbfnddeacFairY
namespace Go.Proofs.Ytjbcfflbfnddeac
theorem fairBook_holds : Rows.FairBookSaid := fairBook_given lives_any bookF_any
#print axioms fairBook_holds
end Go.Proofs.Ytjbcfflbfnddeac
