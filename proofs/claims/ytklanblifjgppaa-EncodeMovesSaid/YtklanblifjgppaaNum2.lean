/-
  Contracts of package num, its second part: Parse, for every text.
-/
import Derived.Test.YtklanblifjgppaaNumD
import Derived.Test.YtklanblifjgppaaMath1
namespace Go.Proofs.Ytklanblifjgppaa
open Go.RowKit

end Go.Proofs.Ytklanblifjgppaa
