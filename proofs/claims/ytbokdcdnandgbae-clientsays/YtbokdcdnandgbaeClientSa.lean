/- The Go law carillonlaw.ClientSays returns true at every input; no condition. -/
import Derived.Test.YtbokdcdnandgbaeClientRa
namespace Go.Proofs.Ytbokdcdnandgbae
theorem clientSays_holds : Rows.ClientSaysSaid := clientSays_given
#print axioms clientSays_holds
end Go.Proofs.Ytbokdcdnandgbae
