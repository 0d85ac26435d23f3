/- The Go law carillonlaw.UnitReplays returns true at every input; no condition. -/
import Derived.Test.YtnmapehbcccbhadUnitRb
import Derived.Test.YtnmapehbcccbhadUnitZ
namespace Go.Proofs.Ytnmapehbcccbhad
theorem unitReplays_holds : Rows.UnitReplaysSaid := unitReplays_given units_any
#print axioms unitReplays_holds
end Go.Proofs.Ytnmapehbcccbhad
