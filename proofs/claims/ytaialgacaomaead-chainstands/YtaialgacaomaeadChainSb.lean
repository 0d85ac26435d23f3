/- The Go law carillonlaw.ChainStands returns true at every input; no condition. -/
import Derived.Test.YtaialgacaomaeadChainRb
import Derived.Test.YtaialgacaomaeadChainZ
namespace Go.Proofs.Ytaialgacaomaead
theorem chainStands_holds : Rows.ChainStandsSaid := chainStands_given chains_any unitN_any
#print axioms chainStands_holds
end Go.Proofs.Ytaialgacaomaead
