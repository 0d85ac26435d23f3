/- Contracts of the library at this program, laid by the shelf. -/
import Derived.Shelf.Lay
import Derived.Shelf.Strings.Search3
import Derived.Shelf.LaySoft

import Derived.Test.YtaialgacaomaeaeProg
namespace Go.Proofs
open Go.Shelf
end Go.Proofs
