/-
  Directions: which numbers are one, and the opposite one; the model's and the program's. Conditions: each theorem's own.
-/
import Derived.Test.YtggpmailkkpdaaaInt
namespace Go.Proofs.Ytggpmailkkpdaaa
open Go.RowKit

end Go.Proofs.Ytggpmailkkpdaaa
