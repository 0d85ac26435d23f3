/- The Go law carillonlaw.ClientRings returns true at every input; no condition. -/
import Derived.Test.YtbokdcdnandgbaeClientRd
namespace Go.Proofs.Ytbokdcdnandgbae
theorem clientRings_holds : Rows.ClientRingsSaid := clientRings_given
#print axioms clientRings_holds
end Go.Proofs.Ytbokdcdnandgbae
