/- The Go law carillonlaw.WorldStands returns true at every input; the listed package variables start as the program's text lays them (the card ties them). -/
import Derived.Test.YtmoaobfmopimlafGreatDoorM69
set_option linter.unusedSimpArgs false
set_option linter.unusedVariables false
namespace Go.Proofs.YtmoaobfmopimlafGreatDoor
open Go.RowKit
theorem worldStands_holds : Rows.WorldStandsCardSaid := worldStands_given
end Go.Proofs.YtmoaobfmopimlafGreatDoor
