/- The Go law carillonlaw.ClientHears returns true at every input; no condition. -/
import Derived.Test.YtbokdcdnandgbaeClientRb
namespace Go.Proofs.Ytbokdcdnandgbae
theorem clientHears_holds : Rows.ClientHearsSaid := clientHears_given
#print axioms clientHears_holds
end Go.Proofs.Ytbokdcdnandgbae
