/-
  The laws' own helpers on fractions (copying, comparing), and MakeFrac, the model's and the program's. Conditions: none.
-/
import Derived.Test.YtlfobdnjjbhehaaFrac5
import Derived.Test.YtlfobdnjjbhehaaTwo
namespace Go.Proofs.Ytlfobdnjjbhehaa
open Go.RowKit

end Go.Proofs.Ytlfobdnjjbhehaa
