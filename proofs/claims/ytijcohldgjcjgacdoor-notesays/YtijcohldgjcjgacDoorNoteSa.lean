/- The Go law carillonlaw.NoteSays returns true at every input; the listed package variables start as the program's text lays them (the card ties them). -/
import Derived.Test.YtijcohldgjcjgacDoorNoteRa
import Derived.Test.YtijcohldgjcjgacDoorNoteZ
namespace Go.Proofs.YtijcohldgjcjgacDoor
theorem noteSays_holds : Rows.NoteSaysCardSaid := noteSays_given notes_any
#print axioms noteSays_holds
end Go.Proofs.YtijcohldgjcjgacDoor
