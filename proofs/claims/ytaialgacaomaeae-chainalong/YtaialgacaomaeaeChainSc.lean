/- The Go law carillonlaw.ChainAlong returns true at every input; no condition. -/
import Derived.Test.YtaialgacaomaeaeChainRc
import Derived.Test.YtaialgacaomaeaeChainZ
namespace Go.Proofs.Ytaialgacaomaeae
theorem chainAlong_holds : Rows.ChainAlongSaid := chainAlong_given chains_any unitN_any
#print axioms chainAlong_holds
end Go.Proofs.Ytaialgacaomaeae
