/- The Go law carillonlaw.DiskSays returns true at every input; the listed package variables start as the program's text lays them (the card ties them). -/
import Derived.Test.YtknjdbpdlodpbacGreatDoorDiskRa
import Derived.Test.YtknjdbpdlodpbacGreatDoorDiskZ
namespace Go.Proofs.YtknjdbpdlodpbacGreatDoor
theorem diskSays_holds : Rows.DiskSaysCardSaid := diskSays_given disks_any
#print axioms diskSays_holds
end Go.Proofs.YtknjdbpdlodpbacGreatDoor
