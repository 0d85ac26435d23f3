/- The Go law carillonlaw.UnitSays returns true at every input; no condition. -/
import Derived.Test.YtnmapehbcccbhadUnitRa
import Derived.Test.YtnmapehbcccbhadUnitZ
namespace Go.Proofs.Ytnmapehbcccbhad
theorem unitSays_holds : Rows.UnitSaysSaid := unitSays_given units_any
#print axioms unitSays_holds
end Go.Proofs.Ytnmapehbcccbhad
