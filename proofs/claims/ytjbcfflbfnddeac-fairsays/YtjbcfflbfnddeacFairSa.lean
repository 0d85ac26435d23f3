/- The Go law carillonlaw.FairSays returns true at every input; no condition. -/
import Derived.Test.YtjbcfflbfnddeacFairRa
import Derived.Test.YtjbcfflbfnddeacFairZ
import Derived.Test.YtjbcfflbfnddeacFairF
namespace Go.Proofs.Ytjbcfflbfnddeac
theorem fairSays_holds : Rows.FairSaysSaid := fairSays_given lives_any ref_lives
#print axioms fairSays_holds
end Go.Proofs.Ytjbcfflbfnddeac
