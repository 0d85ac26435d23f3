/- The Go law carillonlaw.FairSteady returns true at every input; no condition. -/
import Derived.Test.YtjbcfflbfnddeacFairRc
import Derived.Test.YtjbcfflbfnddeacFairZ
import Derived.Test.YtjbcfflbfnddeacFairY
namespace Go.Proofs.Ytjbcfflbfnddeac
theorem fairSteady_holds : Rows.FairSteadySaid := fairSteady_given lives_any bookF_any
#print axioms fairSteady_holds
end Go.Proofs.Ytjbcfflbfnddeac
