/-
  NARROWER THAN 'FOR EVERY INPUT', by the rows' own cells (each row's printed sentence says how): FnExactPerimeterOf: laid · FnExactIsConnected: laid.
  DERIVED. THE GIVEN ROWS OF THIS SEAT. 2 by the template 'for every input the law returns true; each argument reads behind the call as it read before'; 0 by the template 'total and deterministic' (their statements: YtaeaflbmaokieaaDoorTotals.lean).
  GIVEN WITH THE SEED: the statements are not yours to turn. If you find one false, say at which input.
  Laid BY PROGRAM, IN A SANDBOX (cutbox-rows.mjs): the forced cells as the released guide's own fill.sh prints them over the translation f6b3a8dfb3bb0e50… (all of the seat's roots in one cut). By AI agents, Wed Nov 11 2026. No macro, syntax, notation, axiom, sorry.
-/
import Derived.Test.YtaeaflbmaokieaaDoorChecked
import GoSem.Claim
import GoSem.ClaimJoined
import GoSem.ClaimMapViews
import Derived.JoinedTies
import Derived.KernelRfl
namespace Go.Proofs.YtaeaflbmaokieaaDoor
/- THE CELL 'sum', in the pinned program and in every row, IS THE sha256 OF THE DUMP (.gsa) THAT YtaeaflbmaokieaaDoorProg.lean LOADS. Nothing in Lean hashes anything: it is a label: what it is worth is what the hold of that sum in a sandbox is worth. -/
noncomputable def Tryd.pinned : Pinned := { name := "ytaeaflbmaokieaadoor", sum := "f6b3a8dfb3bb0e5088a60e195c6faeeb7d127c813549fde58dba6a9736c4482e", checked := Tryd.checked }
namespace Rows
def none {H : Type} : Left H := { results := [], args := [] }

/- WHAT THE LISTED PACKAGE-LEVEL VARIABLES READ AS WHEN THE CALL BEGINS. Each datum BY PROGRAM (the guide's laid-datum.mjs) off the statement by which the dump's own 'gosem.cut.vars' lays the variable. In a bare row this is a premise. The card (YtaeaflbmaokieaaDoorCards.lean) ties it to the program's text. -/
def laid_loop_example_g01081_impl_dirSteps {H : Type} : DataW H := .agg [.agg [.lit (.int .i64 0), .lit (.int .i64 1)], .agg [.lit (.int .i64 1), .lit (.int .i64 0)], .agg [.lit (.int .i64 0), .lit (.int .i64 (-1))], .agg [.lit (.int .i64 (-1)), .lit (.int .i64 0)]]

/-- 'laws.FnExactPerimeterOf': WHATEVER THE INPUT: true; the input reads as it did. -/
def fnExactPerimeterOfSpec : ChangeSpec := { name := "fnExactPerimeterOf", vars := ["loop.example/g01081/impl.dirSteps"], fn := fun _ => fun
  | [d, g1] => { results := [.lit (.bool true)], args := [d], vars := [g1] }
  | _ => none }
def fnExactPerimeterOfRow : OpenClaim := { program := "ytaeaflbmaokieaadoor", sum := "f6b3a8dfb3bb0e5088a60e195c6faeeb7d127c813549fde58dba6a9736c4482e", func := "loop.example/g01081/laws.FnExactPerimeterOf", spec := "fnExactPerimeterOf", named := ["loop.example/g01081/impl.dirSteps"], plainKeys := false, apart := false, laid := [("loop.example/g01081/impl.dirSteps", laid_loop_example_g01081_impl_dirSteps)] }
def FnExactPerimeterOfSaid : Prop := fnExactPerimeterOfRow.holds Tryd.pinned (OpenSpec.ofChange fnExactPerimeterOfSpec)

/-- ITS FALSE NEIGHBOUR: 'it returns false'. Refute it at one input. -/
def fnExactPerimeterOfWrong : ChangeSpec := { name := "fnExactPerimeterOf", vars := ["loop.example/g01081/impl.dirSteps"], fn := fun _ => fun
  | [d, g1] => { results := [.lit (.bool false)], args := [d], vars := [g1] }
  | _ => none }
def FnExactPerimeterOfWrongFalsely : Prop := fnExactPerimeterOfRow.holds Tryd.pinned (OpenSpec.ofChange fnExactPerimeterOfWrong)

/-- 'laws.FnExactIsConnected': WHATEVER THE INPUT: true; the input reads as it did. -/
def fnExactIsConnectedSpec : ChangeSpec := { name := "fnExactIsConnected", vars := ["loop.example/g01081/impl.dirSteps"], fn := fun _ => fun
  | [d, g1] => { results := [.lit (.bool true)], args := [d], vars := [g1] }
  | _ => none }
def fnExactIsConnectedRow : OpenClaim := { program := "ytaeaflbmaokieaadoor", sum := "f6b3a8dfb3bb0e5088a60e195c6faeeb7d127c813549fde58dba6a9736c4482e", func := "loop.example/g01081/laws.FnExactIsConnected", spec := "fnExactIsConnected", inPlace := ["internal/reflectlite.ValueOf", "internal/reflectlite.Swapper", "(internal/reflectlite.Value).Len"], unfollowed := true, recurses := true, named := ["loop.example/g01081/impl.dirSteps"], plainKeys := false, apart := false, laid := [("loop.example/g01081/impl.dirSteps", laid_loop_example_g01081_impl_dirSteps)] }
def FnExactIsConnectedSaid : Prop := fnExactIsConnectedRow.holds Tryd.pinned (OpenSpec.ofChange fnExactIsConnectedSpec)

/-- ITS FALSE NEIGHBOUR: 'it returns false'. Refute it at one input. -/
def fnExactIsConnectedWrong : ChangeSpec := { name := "fnExactIsConnected", vars := ["loop.example/g01081/impl.dirSteps"], fn := fun _ => fun
  | [d, g1] => { results := [.lit (.bool false)], args := [d], vars := [g1] }
  | _ => none }
def FnExactIsConnectedWrongFalsely : Prop := fnExactIsConnectedRow.holds Tryd.pinned (OpenSpec.ofChange fnExactIsConnectedWrong)

/- THE SECOND FORM. 'bulk': how many values and letters a reading holds, each counted each time it is reached (what is shared counts as often as it is met; a slice's spare places count too). A statement '..UptoSaid' is the law's where the arguments, and the package variables that the reading takes, are together of bulk at most 1048576: NARROWER than '..Said'. Prove '..Said' where nothing that the law and all that it calls make is longer than what came in: it says more and counts as full. Else prove '..UptoSaid'. A law counts once. -/
mutual
def uptoBulk {H : Type} : DataW H → Nat
  | .lit (.string bytes) => bytes.length + 1
  | .lit _ => 1
  | .nil => 1
  | .ptr d => uptoBulk d + 1
  | .slice elems spare => uptoBulkAll elems + uptoBulkAll spare + 1
  | .agg parts => uptoBulkAll parts + 1
  | .iface _ d => uptoBulk d + 1
  | .map entries => uptoBulkEntries entries + 1
  | .held _ => 1
def uptoBulkAll {H : Type} : List (DataW H) → Nat
  | [] => 0
  | d :: r => uptoBulk d + uptoBulkAll r
def uptoBulkEntries {H : Type} : List (Lit × DataW H) → Nat
  | [] => 0
  | x :: r => uptoBulkEntry x + uptoBulkEntries r
def uptoBulkEntry {H : Type} : Lit × DataW H → Nat
  | (.string bytes, d) => bytes.length + uptoBulk d + 1
  | (_, d) => uptoBulk d + 1
 end
def uptoSmall : (H : Type) → List (DataW H) → Bool := fun _ ds => decide (uptoBulkAll ds ≤ 1048576)
def OpenSpec.upto (s : _root_.Go.ChangeSpec) : _root_.Go.OpenSpec := { _root_.Go.OpenSpec.ofChange s with cond := some uptoSmall }

/-- 'laws.FnExactPerimeterOf', WHERE WHAT IT READS IS OF BULK AT MOST 1048576: true; the input reads as it did. -/
def fnExactPerimeterOfUptoRow : OpenClaim := { program := "ytaeaflbmaokieaadoor", sum := "f6b3a8dfb3bb0e5088a60e195c6faeeb7d127c813549fde58dba6a9736c4482e", func := "loop.example/g01081/laws.FnExactPerimeterOf", spec := "fnExactPerimeterOf", named := ["loop.example/g01081/impl.dirSteps"], plainKeys := false, apart := false, laid := [("loop.example/g01081/impl.dirSteps", laid_loop_example_g01081_impl_dirSteps)], narrowed := true }
def FnExactPerimeterOfUptoSaid : Prop := fnExactPerimeterOfUptoRow.holds Tryd.pinned (OpenSpec.upto fnExactPerimeterOfSpec)

/-- 'laws.FnExactIsConnected', WHERE WHAT IT READS IS OF BULK AT MOST 1048576: true; the input reads as it did. -/
def fnExactIsConnectedUptoRow : OpenClaim := { program := "ytaeaflbmaokieaadoor", sum := "f6b3a8dfb3bb0e5088a60e195c6faeeb7d127c813549fde58dba6a9736c4482e", func := "loop.example/g01081/laws.FnExactIsConnected", spec := "fnExactIsConnected", inPlace := ["internal/reflectlite.ValueOf", "internal/reflectlite.Swapper", "(internal/reflectlite.Value).Len"], unfollowed := true, recurses := true, named := ["loop.example/g01081/impl.dirSteps"], plainKeys := false, apart := false, laid := [("loop.example/g01081/impl.dirSteps", laid_loop_example_g01081_impl_dirSteps)], narrowed := true }
def FnExactIsConnectedUptoSaid : Prop := fnExactIsConnectedUptoRow.holds Tryd.pinned (OpenSpec.upto fnExactIsConnectedSpec)

end Rows
end Go.Proofs.YtaeaflbmaokieaaDoor
