/-
  NARROWER THAN 'FOR EVERY INPUT', by the rows' own cells (each row's printed sentence says how): FnExactBindingAt: laid · FnExactTotalStrength: laid · FnExactBondsOf: laid · FnExactMismatchesOf: laid · FnExactCutStrength: laid · FnExactBindingsOf: laid.
  DERIVED. THE GIVEN ROWS OF THIS SEAT. 6 by the template 'for every input the law returns true; each argument reads behind the call as it read before'; 0 by the template 'total and deterministic' (their statements: YtnofbeeihdgmdaaDoorTotals.lean).
  GIVEN WITH THE SEED: the statements are not yours to turn. If you find one false, say at which input.
  Laid BY PROGRAM, IN A SANDBOX (cutbox-rows.mjs): the forced cells as the released guide's own fill.sh prints them over the translation 02c3fd160ce83e91… (all of the seat's roots in one cut). By AI agents, Wed Nov 11 2026. No macro, syntax, notation, axiom, sorry.
-/
import Derived.Test.YtnofbeeihdgmdaaDoorChecked
import GoSem.Claim
import GoSem.ClaimJoined
import GoSem.ClaimMapViews
import Derived.JoinedTies
import Derived.KernelRfl
namespace Go.Proofs.YtnofbeeihdgmdaaDoor
/- THE CELL 'sum', in the pinned program and in every row, IS THE sha256 OF THE DUMP (.gsa) THAT YtnofbeeihdgmdaaDoorProg.lean LOADS. Nothing in Lean hashes anything: it is a label: what it is worth is what the hold of that sum in a sandbox is worth. -/
noncomputable def Tryd.pinned : Pinned := { name := "ytnofbeeihdgmdaadoor", sum := "02c3fd160ce83e91a97f75a6d093539362c16152c9c849ac750d59bf63ed1b8d", checked := Tryd.checked }
namespace Rows
def none {H : Type} : Left H := { results := [], args := [] }

/- WHAT THE LISTED PACKAGE-LEVEL VARIABLES READ AS WHEN THE CALL BEGINS. Each datum BY PROGRAM (the guide's laid-datum.mjs) off the statement by which the dump's own 'gosem.cut.vars' lays the variable. In a bare row this is a premise. The card (YtnofbeeihdgmdaaDoorCards.lean) ties it to the program's text. -/
def laid_loop_example_g01081_impl_dirSteps {H : Type} : DataW H := .agg [.agg [.lit (.int .i64 0), .lit (.int .i64 1)], .agg [.lit (.int .i64 1), .lit (.int .i64 0)], .agg [.lit (.int .i64 0), .lit (.int .i64 (-1))], .agg [.lit (.int .i64 (-1)), .lit (.int .i64 0)]]

/-- 'laws.FnExactBindingAt': WHATEVER THE INPUT: true; the input reads as it did. -/
def fnExactBindingAtSpec : ChangeSpec := { name := "fnExactBindingAt", vars := ["loop.example/g01081/impl.dirSteps"], fn := fun _ => fun
  | [d1, d2, d3, d4, g1] => { results := [.lit (.bool true)], args := [d1, d2, d3, d4], vars := [g1] }
  | _ => none }
def fnExactBindingAtRow : OpenClaim := { program := "ytnofbeeihdgmdaadoor", sum := "02c3fd160ce83e91a97f75a6d093539362c16152c9c849ac750d59bf63ed1b8d", func := "loop.example/g01081/laws.FnExactBindingAt", spec := "fnExactBindingAt", unfollowed := true, recurses := true, named := ["loop.example/g01081/impl.dirSteps"], plainKeys := false, apart := false, laid := [("loop.example/g01081/impl.dirSteps", laid_loop_example_g01081_impl_dirSteps)] }
def FnExactBindingAtSaid : Prop := fnExactBindingAtRow.holds Tryd.pinned (OpenSpec.ofChange fnExactBindingAtSpec)

/-- ITS FALSE NEIGHBOUR: 'it returns false'. Refute it at one input. -/
def fnExactBindingAtWrong : ChangeSpec := { name := "fnExactBindingAt", vars := ["loop.example/g01081/impl.dirSteps"], fn := fun _ => fun
  | [d1, d2, d3, d4, g1] => { results := [.lit (.bool false)], args := [d1, d2, d3, d4], vars := [g1] }
  | _ => none }
def FnExactBindingAtWrongFalsely : Prop := fnExactBindingAtRow.holds Tryd.pinned (OpenSpec.ofChange fnExactBindingAtWrong)

/-- 'laws.FnExactTotalStrength': WHATEVER THE INPUT: true; the input reads as it did. -/
def fnExactTotalStrengthSpec : ChangeSpec := { name := "fnExactTotalStrength", vars := ["loop.example/g01081/impl.dirSteps"], fn := fun _ => fun
  | [d1, d2, g1] => { results := [.lit (.bool true)], args := [d1, d2], vars := [g1] }
  | _ => none }
def fnExactTotalStrengthRow : OpenClaim := { program := "ytnofbeeihdgmdaadoor", sum := "02c3fd160ce83e91a97f75a6d093539362c16152c9c849ac750d59bf63ed1b8d", func := "loop.example/g01081/laws.FnExactTotalStrength", spec := "fnExactTotalStrength", unfollowed := true, recurses := true, named := ["loop.example/g01081/impl.dirSteps"], plainKeys := false, apart := false, laid := [("loop.example/g01081/impl.dirSteps", laid_loop_example_g01081_impl_dirSteps)] }
def FnExactTotalStrengthSaid : Prop := fnExactTotalStrengthRow.holds Tryd.pinned (OpenSpec.ofChange fnExactTotalStrengthSpec)

/-- ITS FALSE NEIGHBOUR: 'it returns false'. Refute it at one input. -/
def fnExactTotalStrengthWrong : ChangeSpec := { name := "fnExactTotalStrength", vars := ["loop.example/g01081/impl.dirSteps"], fn := fun _ => fun
  | [d1, d2, g1] => { results := [.lit (.bool false)], args := [d1, d2], vars := [g1] }
  | _ => none }
def FnExactTotalStrengthWrongFalsely : Prop := fnExactTotalStrengthRow.holds Tryd.pinned (OpenSpec.ofChange fnExactTotalStrengthWrong)

/-- 'laws.FnExactBondsOf': WHATEVER THE INPUT: true; the input reads as it did. -/
def fnExactBondsOfSpec : ChangeSpec := { name := "fnExactBondsOf", vars := ["loop.example/g01081/impl.dirSteps"], fn := fun _ => fun
  | [d1, d2, g1] => { results := [.lit (.bool true)], args := [d1, d2], vars := [g1] }
  | _ => none }
def fnExactBondsOfRow : OpenClaim := { program := "ytnofbeeihdgmdaadoor", sum := "02c3fd160ce83e91a97f75a6d093539362c16152c9c849ac750d59bf63ed1b8d", func := "loop.example/g01081/laws.FnExactBondsOf", spec := "fnExactBondsOf", unfollowed := true, recurses := true, named := ["loop.example/g01081/impl.dirSteps"], plainKeys := false, apart := false, laid := [("loop.example/g01081/impl.dirSteps", laid_loop_example_g01081_impl_dirSteps)] }
def FnExactBondsOfSaid : Prop := fnExactBondsOfRow.holds Tryd.pinned (OpenSpec.ofChange fnExactBondsOfSpec)

/-- ITS FALSE NEIGHBOUR: 'it returns false'. Refute it at one input. -/
def fnExactBondsOfWrong : ChangeSpec := { name := "fnExactBondsOf", vars := ["loop.example/g01081/impl.dirSteps"], fn := fun _ => fun
  | [d1, d2, g1] => { results := [.lit (.bool false)], args := [d1, d2], vars := [g1] }
  | _ => none }
def FnExactBondsOfWrongFalsely : Prop := fnExactBondsOfRow.holds Tryd.pinned (OpenSpec.ofChange fnExactBondsOfWrong)

/-- 'laws.FnExactMismatchesOf': WHATEVER THE INPUT: true; the input reads as it did. -/
def fnExactMismatchesOfSpec : ChangeSpec := { name := "fnExactMismatchesOf", vars := ["loop.example/g01081/impl.dirSteps"], fn := fun _ => fun
  | [d1, d2, g1] => { results := [.lit (.bool true)], args := [d1, d2], vars := [g1] }
  | _ => none }
def fnExactMismatchesOfRow : OpenClaim := { program := "ytnofbeeihdgmdaadoor", sum := "02c3fd160ce83e91a97f75a6d093539362c16152c9c849ac750d59bf63ed1b8d", func := "loop.example/g01081/laws.FnExactMismatchesOf", spec := "fnExactMismatchesOf", unfollowed := true, recurses := true, named := ["loop.example/g01081/impl.dirSteps"], plainKeys := false, apart := false, laid := [("loop.example/g01081/impl.dirSteps", laid_loop_example_g01081_impl_dirSteps)] }
def FnExactMismatchesOfSaid : Prop := fnExactMismatchesOfRow.holds Tryd.pinned (OpenSpec.ofChange fnExactMismatchesOfSpec)

/-- ITS FALSE NEIGHBOUR: 'it returns false'. Refute it at one input. -/
def fnExactMismatchesOfWrong : ChangeSpec := { name := "fnExactMismatchesOf", vars := ["loop.example/g01081/impl.dirSteps"], fn := fun _ => fun
  | [d1, d2, g1] => { results := [.lit (.bool false)], args := [d1, d2], vars := [g1] }
  | _ => none }
def FnExactMismatchesOfWrongFalsely : Prop := fnExactMismatchesOfRow.holds Tryd.pinned (OpenSpec.ofChange fnExactMismatchesOfWrong)

/-- 'laws.FnExactCutStrength': WHATEVER THE INPUT: true; the input reads as it did. -/
def fnExactCutStrengthSpec : ChangeSpec := { name := "fnExactCutStrength", vars := ["loop.example/g01081/impl.dirSteps"], fn := fun _ => fun
  | [d1, d2, d3, g1] => { results := [.lit (.bool true)], args := [d1, d2, d3], vars := [g1] }
  | _ => none }
def fnExactCutStrengthRow : OpenClaim := { program := "ytnofbeeihdgmdaadoor", sum := "02c3fd160ce83e91a97f75a6d093539362c16152c9c849ac750d59bf63ed1b8d", func := "loop.example/g01081/laws.FnExactCutStrength", spec := "fnExactCutStrength", unfollowed := true, recurses := true, named := ["loop.example/g01081/impl.dirSteps"], plainKeys := false, apart := false, laid := [("loop.example/g01081/impl.dirSteps", laid_loop_example_g01081_impl_dirSteps)] }
def FnExactCutStrengthSaid : Prop := fnExactCutStrengthRow.holds Tryd.pinned (OpenSpec.ofChange fnExactCutStrengthSpec)

/-- ITS FALSE NEIGHBOUR: 'it returns false'. Refute it at one input. -/
def fnExactCutStrengthWrong : ChangeSpec := { name := "fnExactCutStrength", vars := ["loop.example/g01081/impl.dirSteps"], fn := fun _ => fun
  | [d1, d2, d3, g1] => { results := [.lit (.bool false)], args := [d1, d2, d3], vars := [g1] }
  | _ => none }
def FnExactCutStrengthWrongFalsely : Prop := fnExactCutStrengthRow.holds Tryd.pinned (OpenSpec.ofChange fnExactCutStrengthWrong)

/-- 'laws.FnExactBindingsOf': WHATEVER THE INPUT: true; the input reads as it did. -/
def fnExactBindingsOfSpec : ChangeSpec := { name := "fnExactBindingsOf", vars := ["loop.example/g01081/impl.dirSteps"], fn := fun _ => fun
  | [d1, d2, g1] => { results := [.lit (.bool true)], args := [d1, d2], vars := [g1] }
  | _ => none }
def fnExactBindingsOfRow : OpenClaim := { program := "ytnofbeeihdgmdaadoor", sum := "02c3fd160ce83e91a97f75a6d093539362c16152c9c849ac750d59bf63ed1b8d", func := "loop.example/g01081/laws.FnExactBindingsOf", spec := "fnExactBindingsOf", unfollowed := true, recurses := true, named := ["loop.example/g01081/impl.dirSteps"], plainKeys := false, apart := false, laid := [("loop.example/g01081/impl.dirSteps", laid_loop_example_g01081_impl_dirSteps)] }
def FnExactBindingsOfSaid : Prop := fnExactBindingsOfRow.holds Tryd.pinned (OpenSpec.ofChange fnExactBindingsOfSpec)

/-- ITS FALSE NEIGHBOUR: 'it returns false'. Refute it at one input. -/
def fnExactBindingsOfWrong : ChangeSpec := { name := "fnExactBindingsOf", vars := ["loop.example/g01081/impl.dirSteps"], fn := fun _ => fun
  | [d1, d2, g1] => { results := [.lit (.bool false)], args := [d1, d2], vars := [g1] }
  | _ => none }
def FnExactBindingsOfWrongFalsely : Prop := fnExactBindingsOfRow.holds Tryd.pinned (OpenSpec.ofChange fnExactBindingsOfWrong)

/- THE SECOND FORM. 'bulk': how many values and letters a reading holds, each counted each time it is reached (what is shared counts as often as it is met; a slice's spare places count too). A statement '..UptoSaid' is the law's where the arguments, and the package variables that the reading takes, are together of bulk at most 1048576: NARROWER than '..Said'. Prove '..Said' where nothing that the law and all that it calls make is longer than what came in: it says more and counts as full. Else prove '..UptoSaid'. A law counts once. -/
mutual
def uptoBulk {H : Type} : DataW H → Nat
  | .lit (.string bytes) => bytes.length + 1
  | .lit _ => 1
  | .nil => 1
  | .ptr d => uptoBulk d + 1
  | .slice elems spare => uptoBulkAll elems + uptoBulkAll spare + 1
  | .agg parts => uptoBulkAll parts + 1
  | .iface _ d => uptoBulk d + 1
  | .map entries => uptoBulkEntries entries + 1
  | .held _ => 1
def uptoBulkAll {H : Type} : List (DataW H) → Nat
  | [] => 0
  | d :: r => uptoBulk d + uptoBulkAll r
def uptoBulkEntries {H : Type} : List (Lit × DataW H) → Nat
  | [] => 0
  | x :: r => uptoBulkEntry x + uptoBulkEntries r
def uptoBulkEntry {H : Type} : Lit × DataW H → Nat
  | (.string bytes, d) => bytes.length + uptoBulk d + 1
  | (_, d) => uptoBulk d + 1
 end
def uptoSmall : (H : Type) → List (DataW H) → Bool := fun _ ds => decide (uptoBulkAll ds ≤ 1048576)
def OpenSpec.upto (s : _root_.Go.ChangeSpec) : _root_.Go.OpenSpec := { _root_.Go.OpenSpec.ofChange s with cond := some uptoSmall }

/-- 'laws.FnExactBindingAt', WHERE WHAT IT READS IS OF BULK AT MOST 1048576: true; the input reads as it did. -/
def fnExactBindingAtUptoRow : OpenClaim := { program := "ytnofbeeihdgmdaadoor", sum := "02c3fd160ce83e91a97f75a6d093539362c16152c9c849ac750d59bf63ed1b8d", func := "loop.example/g01081/laws.FnExactBindingAt", spec := "fnExactBindingAt", unfollowed := true, recurses := true, named := ["loop.example/g01081/impl.dirSteps"], plainKeys := false, apart := false, laid := [("loop.example/g01081/impl.dirSteps", laid_loop_example_g01081_impl_dirSteps)], narrowed := true }
def FnExactBindingAtUptoSaid : Prop := fnExactBindingAtUptoRow.holds Tryd.pinned (OpenSpec.upto fnExactBindingAtSpec)

/-- 'laws.FnExactTotalStrength', WHERE WHAT IT READS IS OF BULK AT MOST 1048576: true; the input reads as it did. -/
def fnExactTotalStrengthUptoRow : OpenClaim := { program := "ytnofbeeihdgmdaadoor", sum := "02c3fd160ce83e91a97f75a6d093539362c16152c9c849ac750d59bf63ed1b8d", func := "loop.example/g01081/laws.FnExactTotalStrength", spec := "fnExactTotalStrength", unfollowed := true, recurses := true, named := ["loop.example/g01081/impl.dirSteps"], plainKeys := false, apart := false, laid := [("loop.example/g01081/impl.dirSteps", laid_loop_example_g01081_impl_dirSteps)], narrowed := true }
def FnExactTotalStrengthUptoSaid : Prop := fnExactTotalStrengthUptoRow.holds Tryd.pinned (OpenSpec.upto fnExactTotalStrengthSpec)

/-- 'laws.FnExactBondsOf', WHERE WHAT IT READS IS OF BULK AT MOST 1048576: true; the input reads as it did. -/
def fnExactBondsOfUptoRow : OpenClaim := { program := "ytnofbeeihdgmdaadoor", sum := "02c3fd160ce83e91a97f75a6d093539362c16152c9c849ac750d59bf63ed1b8d", func := "loop.example/g01081/laws.FnExactBondsOf", spec := "fnExactBondsOf", unfollowed := true, recurses := true, named := ["loop.example/g01081/impl.dirSteps"], plainKeys := false, apart := false, laid := [("loop.example/g01081/impl.dirSteps", laid_loop_example_g01081_impl_dirSteps)], narrowed := true }
def FnExactBondsOfUptoSaid : Prop := fnExactBondsOfUptoRow.holds Tryd.pinned (OpenSpec.upto fnExactBondsOfSpec)

/-- 'laws.FnExactMismatchesOf', WHERE WHAT IT READS IS OF BULK AT MOST 1048576: true; the input reads as it did. -/
def fnExactMismatchesOfUptoRow : OpenClaim := { program := "ytnofbeeihdgmdaadoor", sum := "02c3fd160ce83e91a97f75a6d093539362c16152c9c849ac750d59bf63ed1b8d", func := "loop.example/g01081/laws.FnExactMismatchesOf", spec := "fnExactMismatchesOf", unfollowed := true, recurses := true, named := ["loop.example/g01081/impl.dirSteps"], plainKeys := false, apart := false, laid := [("loop.example/g01081/impl.dirSteps", laid_loop_example_g01081_impl_dirSteps)], narrowed := true }
def FnExactMismatchesOfUptoSaid : Prop := fnExactMismatchesOfUptoRow.holds Tryd.pinned (OpenSpec.upto fnExactMismatchesOfSpec)

/-- 'laws.FnExactCutStrength', WHERE WHAT IT READS IS OF BULK AT MOST 1048576: true; the input reads as it did. -/
def fnExactCutStrengthUptoRow : OpenClaim := { program := "ytnofbeeihdgmdaadoor", sum := "02c3fd160ce83e91a97f75a6d093539362c16152c9c849ac750d59bf63ed1b8d", func := "loop.example/g01081/laws.FnExactCutStrength", spec := "fnExactCutStrength", unfollowed := true, recurses := true, named := ["loop.example/g01081/impl.dirSteps"], plainKeys := false, apart := false, laid := [("loop.example/g01081/impl.dirSteps", laid_loop_example_g01081_impl_dirSteps)], narrowed := true }
def FnExactCutStrengthUptoSaid : Prop := fnExactCutStrengthUptoRow.holds Tryd.pinned (OpenSpec.upto fnExactCutStrengthSpec)

/-- 'laws.FnExactBindingsOf', WHERE WHAT IT READS IS OF BULK AT MOST 1048576: true; the input reads as it did. -/
def fnExactBindingsOfUptoRow : OpenClaim := { program := "ytnofbeeihdgmdaadoor", sum := "02c3fd160ce83e91a97f75a6d093539362c16152c9c849ac750d59bf63ed1b8d", func := "loop.example/g01081/laws.FnExactBindingsOf", spec := "fnExactBindingsOf", unfollowed := true, recurses := true, named := ["loop.example/g01081/impl.dirSteps"], plainKeys := false, apart := false, laid := [("loop.example/g01081/impl.dirSteps", laid_loop_example_g01081_impl_dirSteps)], narrowed := true }
def FnExactBindingsOfUptoSaid : Prop := fnExactBindingsOfUptoRow.holds Tryd.pinned (OpenSpec.upto fnExactBindingsOfSpec)

end Rows
end Go.Proofs.YtnofbeeihdgmdaaDoor
