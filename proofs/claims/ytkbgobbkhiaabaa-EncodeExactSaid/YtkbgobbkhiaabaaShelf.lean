/- Nothing of the library's strings is called in this seat: the shelf's words alone. -/
import Derived.Shelf.Strconv.Itoa3
import Derived.Test.YtkbgobbkhiaabaaProg
namespace Go.Proofs.Ytkbgobbkhiaabaa
end Go.Proofs.Ytkbgobbkhiaabaa
