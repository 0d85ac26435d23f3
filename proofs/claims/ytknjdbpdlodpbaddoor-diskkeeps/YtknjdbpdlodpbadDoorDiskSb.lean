/- The Go law carillonlaw.DiskKeeps returns true at every input; the listed package variables start as the program's text lays them (the card ties them). -/
import Derived.Test.YtknjdbpdlodpbadDoorDiskRb
import Derived.Test.YtknjdbpdlodpbadDoorDiskZ
namespace Go.Proofs.YtknjdbpdlodpbadDoor
theorem diskKeeps_holds : Rows.DiskKeepsCardSaid := diskKeeps_given disks_any
#print axioms diskKeeps_holds
end Go.Proofs.YtknjdbpdlodpbadDoor
