/- The Go law carillonlaw.UnitOnce returns true at every input; the listed package variables start as the program's text lays them (the card ties them). -/
import Derived.Test.YtnmapehbcccbhadDoorUnitRc
import Derived.Test.YtnmapehbcccbhadDoorUnitZ
import Derived.Test.YtnmapehbcccbhadDoorDiskY
namespace Go.Proofs.YtnmapehbcccbhadDoor
theorem unitOnce_holds : Rows.UnitOnceCardSaid := unitOnce_given units_any disks3_any
#print axioms unitOnce_holds
end Go.Proofs.YtnmapehbcccbhadDoor
