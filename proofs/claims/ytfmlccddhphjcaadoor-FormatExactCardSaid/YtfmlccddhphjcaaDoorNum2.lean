/-
  Contracts of package num, its second part: Parse, for every text.
-/
import Derived.Test.YtfmlccddhphjcaaDoorNumD
import Derived.Test.YtfmlccddhphjcaaDoorMath1
namespace Go.Proofs.YtfmlccddhphjcaaDoor
open Go.RowKit

end Go.Proofs.YtfmlccddhphjcaaDoor
