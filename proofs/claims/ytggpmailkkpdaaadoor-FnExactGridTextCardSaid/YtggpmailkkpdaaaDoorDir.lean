/-
  Directions: which numbers are one, and the opposite one; the model's and the program's. Conditions: each theorem's own.
-/
import Derived.Test.YtggpmailkkpdaaaDoorInt
namespace Go.Proofs.YtggpmailkkpdaaaDoor
open Go.RowKit

end Go.Proofs.YtggpmailkkpdaaaDoor
