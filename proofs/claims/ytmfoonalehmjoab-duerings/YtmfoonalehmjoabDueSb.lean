/- The Go law carillonlaw.DueRings returns true at every input; no condition. -/
import Derived.Test.YtmfoonalehmjoabDueRb
import Derived.Test.YtmfoonalehmjoabDueZ
namespace Go.Proofs.Ytmfoonalehmjoab
theorem dueRings_holds : Rows.DueRingsSaid := dueRings_given dues_any
#print axioms dueRings_holds
end Go.Proofs.Ytmfoonalehmjoab
