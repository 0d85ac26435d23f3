/- The Go law carillonlaw.NoteBack returns true at every input; the listed package variables start as the program's text lays them (the card ties them). -/
import Derived.Test.YtijcohldgjcjgacDoorNoteRb
import Derived.Test.YtijcohldgjcjgacDoorNoteZ
namespace Go.Proofs.YtijcohldgjcjgacDoor
theorem noteBack_holds : Rows.NoteBackCardSaid := noteBack_given notes_any
#print axioms noteBack_holds
end Go.Proofs.YtijcohldgjcjgacDoor
