/- Package disk keeps what UnitOnce asks of it. -/
import Derived.Test.YtnmapehbcccbhadDoorDiskZg
import Derived.Test.YtnmapehbcccbhadDoorUnitK
namespace Go.Proofs.YtnmapehbcccbhadDoor
open Go.RowKit

theorem disks3_any : Disks3 where
  put := diskPut_any
  sync := diskSync_any
  recover := diskRecover_any

end Go.Proofs.YtnmapehbcccbhadDoor
