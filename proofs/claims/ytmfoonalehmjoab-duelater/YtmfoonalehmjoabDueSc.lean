/- The Go law carillonlaw.DueLater returns true at every input; no condition. -/
import Derived.Test.YtmfoonalehmjoabDueRc
import Derived.Test.YtmfoonalehmjoabDueZ
namespace Go.Proofs.Ytmfoonalehmjoab
theorem dueLater_holds : Rows.DueLaterSaid := dueLater_given dues_any
#print axioms dueLater_holds
end Go.Proofs.Ytmfoonalehmjoab
