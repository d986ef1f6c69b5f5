/- A library function at a type of this program: the library's contract laid, in plain words (by program). -/
import Derived.Shelf.SlicesE.DeleteFunc
import Derived.Test.YtgkfioloceemcaaRows
set_option maxRecDepth 4000
namespace Go.Proofs.Ytgkfioloceemcaa
open Go.Shelf
end Go.Proofs.Ytgkfioloceemcaa
