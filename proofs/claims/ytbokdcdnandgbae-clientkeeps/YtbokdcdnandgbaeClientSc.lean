/- The Go law carillonlaw.ClientKeeps returns true at every input; no condition. -/
import Derived.Test.YtbokdcdnandgbaeClientRc
namespace Go.Proofs.Ytbokdcdnandgbae
theorem clientKeeps_holds : Rows.ClientKeepsSaid := clientKeeps_given
#print axioms clientKeeps_holds
end Go.Proofs.Ytbokdcdnandgbae
