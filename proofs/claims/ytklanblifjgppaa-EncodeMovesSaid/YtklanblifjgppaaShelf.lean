/- Nothing of the library's strings is called in this seat: the shelf's words alone. -/
import Derived.Shelf.Strconv.Itoa3
import Derived.Test.YtklanblifjgppaaProg
namespace Go.Proofs.Ytklanblifjgppaa
end Go.Proofs.Ytklanblifjgppaa
