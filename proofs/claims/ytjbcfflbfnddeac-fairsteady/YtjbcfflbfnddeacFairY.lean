/- What the laws on lives ask of package book. -/
import Derived.Test.YtjbcfflbfnddeacBookZp
import Derived.Test.YtjbcfflbfnddeacFairD
namespace Go.Proofs.Ytjbcfflbfnddeac
open Go.RowKit

theorem bookF_any : BookF where
  find := fun v1 v2 js _ id W h1 _ hn _ => find_any v1 v2 js id W h1 hn
  applyR := fun v1 v2 js rs x W h1 h2 _ _ => bk_applyR v1 v2 js rs x W h1 h2
  replay := fun v es W h _ => bk_replay v es W h

end Go.Proofs.Ytjbcfflbfnddeac
