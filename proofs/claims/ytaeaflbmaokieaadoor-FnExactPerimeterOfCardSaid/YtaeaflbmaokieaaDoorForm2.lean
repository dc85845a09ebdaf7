/-
  The form of an assembly: the program's test. Conditions: each theorem's own.
-/
import Derived.Test.YtaeaflbmaokieaaDoorForm
namespace Go.Proofs.YtaeaflbmaokieaaDoor
open Go.RowKit

end Go.Proofs.YtaeaflbmaokieaaDoor
