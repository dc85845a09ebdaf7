/-
  The form of an assembly: the program's test. Conditions: each theorem's own.
-/
import Derived.Test.YtggpmailkkpdaaaForm
namespace Go.Proofs.Ytggpmailkkpdaaa
open Go.RowKit

end Go.Proofs.Ytggpmailkkpdaaa
