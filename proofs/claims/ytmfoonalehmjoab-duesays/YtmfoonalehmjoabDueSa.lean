/- The Go law carillonlaw.DueSays returns true at every input; no condition. -/
import Derived.Test.YtmfoonalehmjoabDueRa
import Derived.Test.YtmfoonalehmjoabDueZ
import Derived.Test.YtmfoonalehmjoabDueL
namespace Go.Proofs.Ytmfoonalehmjoab
theorem dueSays_holds : Rows.DueSaysSaid := dueSays_given dues_any ref_due
#print axioms dueSays_holds
end Go.Proofs.Ytmfoonalehmjoab
