/-
  No cell of these rows narrows 'for every input' (looked for: loops, veiled, ifaces, maps, wideKeys, modest, calm, conditions, laid).
  DERIVED. THE GIVEN ROWS OF THIS SEAT. 10 by the template 'for every input the law returns true; each argument reads behind the call as it read before'; 0 by the template 'total and deterministic' (their statements: YtcaidemlhgepfaaTotals.lean).
  GIVEN WITH THE SEED: the statements are not yours to turn. If you find one false, say at which input.
  Laid BY PROGRAM, IN A SANDBOX (cutbox-rows.mjs): the forced cells as the released guide's own fill.sh prints them over the translation a6e947f43417d4c3… (all of the seat's roots in one cut). By AI agents, Wed Nov 11 2026. No macro, syntax, notation, axiom, sorry.
-/
import Derived.Test.YtcaidemlhgepfaaChecked
import GoSem.Claim
import GoSem.ClaimJoined
import GoSem.ClaimMapViews
import Derived.JoinedTies
import Derived.KernelRfl
namespace Go.Proofs.Ytcaidemlhgepfaa
/- THE CELL 'sum', in the pinned program and in every row, IS THE sha256 OF THE DUMP (.gsa) THAT YtcaidemlhgepfaaProg.lean LOADS. Nothing in Lean hashes anything: it is a label: what it is worth is what the hold of that sum in a sandbox is worth. -/
noncomputable def Try.pinned : Pinned := { name := "ytcaidemlhgepfaa", sum := "a6e947f43417d4c3beae8f5214d4927240e4b0134b371e1ecd8258589570793e", checked := Try.checked }
namespace Rows
def none {H : Type} : Left H := { results := [], args := [] }

/-- 'laws.FnExactSameAssembly': WHATEVER THE INPUT: true; the input reads as it did. -/
def fnExactSameAssemblySpec : ChangeSpec := { name := "fnExactSameAssembly", fn := fun _ => fun
  | [d1, d2] => { results := [.lit (.bool true)], args := [d1, d2] }
  | _ => none }
def fnExactSameAssemblyRow : OpenClaim := { program := "ytcaidemlhgepfaa", sum := "a6e947f43417d4c3beae8f5214d4927240e4b0134b371e1ecd8258589570793e", func := "loop.example/g01081/laws.FnExactSameAssembly", spec := "fnExactSameAssembly", plainKeys := false, apart := false }
def FnExactSameAssemblySaid : Prop := fnExactSameAssemblyRow.holds Try.pinned (OpenSpec.ofChange fnExactSameAssemblySpec)

/-- ITS FALSE NEIGHBOUR: 'it returns false'. Refute it at one input. -/
def fnExactSameAssemblyWrong : ChangeSpec := { name := "fnExactSameAssembly", fn := fun _ => fun
  | [d1, d2] => { results := [.lit (.bool false)], args := [d1, d2] }
  | _ => none }
def FnExactSameAssemblyWrongFalsely : Prop := fnExactSameAssemblyRow.holds Try.pinned (OpenSpec.ofChange fnExactSameAssemblyWrong)

/-- 'laws.FnExactTileAt': WHATEVER THE INPUT: true; the input reads as it did. -/
def fnExactTileAtSpec : ChangeSpec := { name := "fnExactTileAt", fn := fun _ => fun
  | [d1, d2] => { results := [.lit (.bool true)], args := [d1, d2] }
  | _ => none }
def fnExactTileAtRow : OpenClaim := { program := "ytcaidemlhgepfaa", sum := "a6e947f43417d4c3beae8f5214d4927240e4b0134b371e1ecd8258589570793e", func := "loop.example/g01081/laws.FnExactTileAt", spec := "fnExactTileAt", unfollowed := true, recurses := true, plainKeys := false, apart := false }
def FnExactTileAtSaid : Prop := fnExactTileAtRow.holds Try.pinned (OpenSpec.ofChange fnExactTileAtSpec)

/-- ITS FALSE NEIGHBOUR: 'it returns false'. Refute it at one input. -/
def fnExactTileAtWrong : ChangeSpec := { name := "fnExactTileAt", fn := fun _ => fun
  | [d1, d2] => { results := [.lit (.bool false)], args := [d1, d2] }
  | _ => none }
def FnExactTileAtWrongFalsely : Prop := fnExactTileAtRow.holds Try.pinned (OpenSpec.ofChange fnExactTileAtWrong)

/-- 'laws.FnExactPutTile': WHATEVER THE INPUT: true; the input reads as it did. -/
def fnExactPutTileSpec : ChangeSpec := { name := "fnExactPutTile", fn := fun _ => fun
  | [d1, d2, d3] => { results := [.lit (.bool true)], args := [d1, d2, d3] }
  | _ => none }
def fnExactPutTileRow : OpenClaim := { program := "ytcaidemlhgepfaa", sum := "a6e947f43417d4c3beae8f5214d4927240e4b0134b371e1ecd8258589570793e", func := "loop.example/g01081/laws.FnExactPutTile", spec := "fnExactPutTile", unfollowed := true, recurses := true, plainKeys := false, apart := false }
def FnExactPutTileSaid : Prop := fnExactPutTileRow.holds Try.pinned (OpenSpec.ofChange fnExactPutTileSpec)

/-- ITS FALSE NEIGHBOUR: 'it returns false'. Refute it at one input. -/
def fnExactPutTileWrong : ChangeSpec := { name := "fnExactPutTile", fn := fun _ => fun
  | [d1, d2, d3] => { results := [.lit (.bool false)], args := [d1, d2, d3] }
  | _ => none }
def FnExactPutTileWrongFalsely : Prop := fnExactPutTileRow.holds Try.pinned (OpenSpec.ofChange fnExactPutTileWrong)

/-- 'laws.FnExactTakeTile': WHATEVER THE INPUT: true; the input reads as it did. -/
def fnExactTakeTileSpec : ChangeSpec := { name := "fnExactTakeTile", fn := fun _ => fun
  | [d1, d2] => { results := [.lit (.bool true)], args := [d1, d2] }
  | _ => none }
def fnExactTakeTileRow : OpenClaim := { program := "ytcaidemlhgepfaa", sum := "a6e947f43417d4c3beae8f5214d4927240e4b0134b371e1ecd8258589570793e", func := "loop.example/g01081/laws.FnExactTakeTile", spec := "fnExactTakeTile", unfollowed := true, recurses := true, plainKeys := false, apart := false }
def FnExactTakeTileSaid : Prop := fnExactTakeTileRow.holds Try.pinned (OpenSpec.ofChange fnExactTakeTileSpec)

/-- ITS FALSE NEIGHBOUR: 'it returns false'. Refute it at one input. -/
def fnExactTakeTileWrong : ChangeSpec := { name := "fnExactTakeTile", fn := fun _ => fun
  | [d1, d2] => { results := [.lit (.bool false)], args := [d1, d2] }
  | _ => none }
def FnExactTakeTileWrongFalsely : Prop := fnExactTakeTileRow.holds Try.pinned (OpenSpec.ofChange fnExactTakeTileWrong)

/-- 'laws.FnExactPointsOf': WHATEVER THE INPUT: true; the input reads as it did. -/
def fnExactPointsOfSpec : ChangeSpec := { name := "fnExactPointsOf", fn := fun _ => fun
  | [d] => { results := [.lit (.bool true)], args := [d] }
  | _ => none }
def fnExactPointsOfRow : OpenClaim := { program := "ytcaidemlhgepfaa", sum := "a6e947f43417d4c3beae8f5214d4927240e4b0134b371e1ecd8258589570793e", func := "loop.example/g01081/laws.FnExactPointsOf", spec := "fnExactPointsOf", plainKeys := false, apart := false }
def FnExactPointsOfSaid : Prop := fnExactPointsOfRow.holds Try.pinned (OpenSpec.ofChange fnExactPointsOfSpec)

/-- ITS FALSE NEIGHBOUR: 'it returns false'. Refute it at one input. -/
def fnExactPointsOfWrong : ChangeSpec := { name := "fnExactPointsOf", fn := fun _ => fun
  | [d] => { results := [.lit (.bool false)], args := [d] }
  | _ => none }
def FnExactPointsOfWrongFalsely : Prop := fnExactPointsOfRow.holds Try.pinned (OpenSpec.ofChange fnExactPointsOfWrong)

/-- 'laws.FnExactBoundsOf': WHATEVER THE INPUT: true; the input reads as it did. -/
def fnExactBoundsOfSpec : ChangeSpec := { name := "fnExactBoundsOf", fn := fun _ => fun
  | [d] => { results := [.lit (.bool true)], args := [d] }
  | _ => none }
def fnExactBoundsOfRow : OpenClaim := { program := "ytcaidemlhgepfaa", sum := "a6e947f43417d4c3beae8f5214d4927240e4b0134b371e1ecd8258589570793e", func := "loop.example/g01081/laws.FnExactBoundsOf", spec := "fnExactBoundsOf", plainKeys := false, apart := false }
def FnExactBoundsOfSaid : Prop := fnExactBoundsOfRow.holds Try.pinned (OpenSpec.ofChange fnExactBoundsOfSpec)

/-- ITS FALSE NEIGHBOUR: 'it returns false'. Refute it at one input. -/
def fnExactBoundsOfWrong : ChangeSpec := { name := "fnExactBoundsOf", fn := fun _ => fun
  | [d] => { results := [.lit (.bool false)], args := [d] }
  | _ => none }
def FnExactBoundsOfWrongFalsely : Prop := fnExactBoundsOfRow.holds Try.pinned (OpenSpec.ofChange fnExactBoundsOfWrong)

/-- 'laws.FnExactMoveAssembly': WHATEVER THE INPUT: true; the input reads as it did. -/
def fnExactMoveAssemblySpec : ChangeSpec := { name := "fnExactMoveAssembly", fn := fun _ => fun
  | [d1, d2] => { results := [.lit (.bool true)], args := [d1, d2] }
  | _ => none }
def fnExactMoveAssemblyRow : OpenClaim := { program := "ytcaidemlhgepfaa", sum := "a6e947f43417d4c3beae8f5214d4927240e4b0134b371e1ecd8258589570793e", func := "loop.example/g01081/laws.FnExactMoveAssembly", spec := "fnExactMoveAssembly", plainKeys := false, apart := false }
def FnExactMoveAssemblySaid : Prop := fnExactMoveAssemblyRow.holds Try.pinned (OpenSpec.ofChange fnExactMoveAssemblySpec)

/-- ITS FALSE NEIGHBOUR: 'it returns false'. Refute it at one input. -/
def fnExactMoveAssemblyWrong : ChangeSpec := { name := "fnExactMoveAssembly", fn := fun _ => fun
  | [d1, d2] => { results := [.lit (.bool false)], args := [d1, d2] }
  | _ => none }
def FnExactMoveAssemblyWrongFalsely : Prop := fnExactMoveAssemblyRow.holds Try.pinned (OpenSpec.ofChange fnExactMoveAssemblyWrong)

/-- 'laws.FnExactJoinAssemblies': WHATEVER THE INPUT: true; the input reads as it did. -/
def fnExactJoinAssembliesSpec : ChangeSpec := { name := "fnExactJoinAssemblies", fn := fun _ => fun
  | [d1, d2] => { results := [.lit (.bool true)], args := [d1, d2] }
  | _ => none }
def fnExactJoinAssembliesRow : OpenClaim := { program := "ytcaidemlhgepfaa", sum := "a6e947f43417d4c3beae8f5214d4927240e4b0134b371e1ecd8258589570793e", func := "loop.example/g01081/laws.FnExactJoinAssemblies", spec := "fnExactJoinAssemblies", unfollowed := true, recurses := true, plainKeys := false, apart := false }
def FnExactJoinAssembliesSaid : Prop := fnExactJoinAssembliesRow.holds Try.pinned (OpenSpec.ofChange fnExactJoinAssembliesSpec)

/-- ITS FALSE NEIGHBOUR: 'it returns false'. Refute it at one input. -/
def fnExactJoinAssembliesWrong : ChangeSpec := { name := "fnExactJoinAssemblies", fn := fun _ => fun
  | [d1, d2] => { results := [.lit (.bool false)], args := [d1, d2] }
  | _ => none }
def FnExactJoinAssembliesWrongFalsely : Prop := fnExactJoinAssembliesRow.holds Try.pinned (OpenSpec.ofChange fnExactJoinAssembliesWrong)

/-- 'laws.FnExactIsWithin': WHATEVER THE INPUT: true; the input reads as it did. -/
def fnExactIsWithinSpec : ChangeSpec := { name := "fnExactIsWithin", fn := fun _ => fun
  | [d1, d2] => { results := [.lit (.bool true)], args := [d1, d2] }
  | _ => none }
def fnExactIsWithinRow : OpenClaim := { program := "ytcaidemlhgepfaa", sum := "a6e947f43417d4c3beae8f5214d4927240e4b0134b371e1ecd8258589570793e", func := "loop.example/g01081/laws.FnExactIsWithin", spec := "fnExactIsWithin", plainKeys := false, apart := false }
def FnExactIsWithinSaid : Prop := fnExactIsWithinRow.holds Try.pinned (OpenSpec.ofChange fnExactIsWithinSpec)

/-- ITS FALSE NEIGHBOUR: 'it returns false'. Refute it at one input. -/
def fnExactIsWithinWrong : ChangeSpec := { name := "fnExactIsWithin", fn := fun _ => fun
  | [d1, d2] => { results := [.lit (.bool false)], args := [d1, d2] }
  | _ => none }
def FnExactIsWithinWrongFalsely : Prop := fnExactIsWithinRow.holds Try.pinned (OpenSpec.ofChange fnExactIsWithinWrong)

/-- 'laws.FnExactFirstDifference': WHATEVER THE INPUT: true; the input reads as it did. -/
def fnExactFirstDifferenceSpec : ChangeSpec := { name := "fnExactFirstDifference", fn := fun _ => fun
  | [d1, d2] => { results := [.lit (.bool true)], args := [d1, d2] }
  | _ => none }
def fnExactFirstDifferenceRow : OpenClaim := { program := "ytcaidemlhgepfaa", sum := "a6e947f43417d4c3beae8f5214d4927240e4b0134b371e1ecd8258589570793e", func := "loop.example/g01081/laws.FnExactFirstDifference", spec := "fnExactFirstDifference", plainKeys := false, apart := false }
def FnExactFirstDifferenceSaid : Prop := fnExactFirstDifferenceRow.holds Try.pinned (OpenSpec.ofChange fnExactFirstDifferenceSpec)

/-- ITS FALSE NEIGHBOUR: 'it returns false'. Refute it at one input. -/
def fnExactFirstDifferenceWrong : ChangeSpec := { name := "fnExactFirstDifference", fn := fun _ => fun
  | [d1, d2] => { results := [.lit (.bool false)], args := [d1, d2] }
  | _ => none }
def FnExactFirstDifferenceWrongFalsely : Prop := fnExactFirstDifferenceRow.holds Try.pinned (OpenSpec.ofChange fnExactFirstDifferenceWrong)

/- THE SECOND FORM. 'bulk': how many values and letters a reading holds, each counted each time it is reached (what is shared counts as often as it is met; a slice's spare places count too). A statement '..UptoSaid' is the law's where the arguments, and the package variables that the reading takes, are together of bulk at most 1048576: NARROWER than '..Said'. Prove '..Said' where nothing that the law and all that it calls make is longer than what came in: it says more and counts as full. Else prove '..UptoSaid'. A law counts once. -/
mutual
def uptoBulk {H : Type} : DataW H → Nat
  | .lit (.string bytes) => bytes.length + 1
  | .lit _ => 1
  | .nil => 1
  | .ptr d => uptoBulk d + 1
  | .slice elems spare => uptoBulkAll elems + uptoBulkAll spare + 1
  | .agg parts => uptoBulkAll parts + 1
  | .iface _ d => uptoBulk d + 1
  | .map entries => uptoBulkEntries entries + 1
  | .held _ => 1
def uptoBulkAll {H : Type} : List (DataW H) → Nat
  | [] => 0
  | d :: r => uptoBulk d + uptoBulkAll r
def uptoBulkEntries {H : Type} : List (Lit × DataW H) → Nat
  | [] => 0
  | x :: r => uptoBulkEntry x + uptoBulkEntries r
def uptoBulkEntry {H : Type} : Lit × DataW H → Nat
  | (.string bytes, d) => bytes.length + uptoBulk d + 1
  | (_, d) => uptoBulk d + 1
 end
def uptoSmall : (H : Type) → List (DataW H) → Bool := fun _ ds => decide (uptoBulkAll ds ≤ 1048576)
def OpenSpec.upto (s : _root_.Go.ChangeSpec) : _root_.Go.OpenSpec := { _root_.Go.OpenSpec.ofChange s with cond := some uptoSmall }

/-- 'laws.FnExactSameAssembly', WHERE WHAT IT READS IS OF BULK AT MOST 1048576: true; the input reads as it did. -/
def fnExactSameAssemblyUptoRow : OpenClaim := { program := "ytcaidemlhgepfaa", sum := "a6e947f43417d4c3beae8f5214d4927240e4b0134b371e1ecd8258589570793e", func := "loop.example/g01081/laws.FnExactSameAssembly", spec := "fnExactSameAssembly", plainKeys := false, apart := false, narrowed := true }
def FnExactSameAssemblyUptoSaid : Prop := fnExactSameAssemblyUptoRow.holds Try.pinned (OpenSpec.upto fnExactSameAssemblySpec)

/-- 'laws.FnExactTileAt', WHERE WHAT IT READS IS OF BULK AT MOST 1048576: true; the input reads as it did. -/
def fnExactTileAtUptoRow : OpenClaim := { program := "ytcaidemlhgepfaa", sum := "a6e947f43417d4c3beae8f5214d4927240e4b0134b371e1ecd8258589570793e", func := "loop.example/g01081/laws.FnExactTileAt", spec := "fnExactTileAt", unfollowed := true, recurses := true, plainKeys := false, apart := false, narrowed := true }
def FnExactTileAtUptoSaid : Prop := fnExactTileAtUptoRow.holds Try.pinned (OpenSpec.upto fnExactTileAtSpec)

/-- 'laws.FnExactPutTile', WHERE WHAT IT READS IS OF BULK AT MOST 1048576: true; the input reads as it did. -/
def fnExactPutTileUptoRow : OpenClaim := { program := "ytcaidemlhgepfaa", sum := "a6e947f43417d4c3beae8f5214d4927240e4b0134b371e1ecd8258589570793e", func := "loop.example/g01081/laws.FnExactPutTile", spec := "fnExactPutTile", unfollowed := true, recurses := true, plainKeys := false, apart := false, narrowed := true }
def FnExactPutTileUptoSaid : Prop := fnExactPutTileUptoRow.holds Try.pinned (OpenSpec.upto fnExactPutTileSpec)

/-- 'laws.FnExactTakeTile', WHERE WHAT IT READS IS OF BULK AT MOST 1048576: true; the input reads as it did. -/
def fnExactTakeTileUptoRow : OpenClaim := { program := "ytcaidemlhgepfaa", sum := "a6e947f43417d4c3beae8f5214d4927240e4b0134b371e1ecd8258589570793e", func := "loop.example/g01081/laws.FnExactTakeTile", spec := "fnExactTakeTile", unfollowed := true, recurses := true, plainKeys := false, apart := false, narrowed := true }
def FnExactTakeTileUptoSaid : Prop := fnExactTakeTileUptoRow.holds Try.pinned (OpenSpec.upto fnExactTakeTileSpec)

/-- 'laws.FnExactPointsOf', WHERE WHAT IT READS IS OF BULK AT MOST 1048576: true; the input reads as it did. -/
def fnExactPointsOfUptoRow : OpenClaim := { program := "ytcaidemlhgepfaa", sum := "a6e947f43417d4c3beae8f5214d4927240e4b0134b371e1ecd8258589570793e", func := "loop.example/g01081/laws.FnExactPointsOf", spec := "fnExactPointsOf", plainKeys := false, apart := false, narrowed := true }
def FnExactPointsOfUptoSaid : Prop := fnExactPointsOfUptoRow.holds Try.pinned (OpenSpec.upto fnExactPointsOfSpec)

/-- 'laws.FnExactBoundsOf', WHERE WHAT IT READS IS OF BULK AT MOST 1048576: true; the input reads as it did. -/
def fnExactBoundsOfUptoRow : OpenClaim := { program := "ytcaidemlhgepfaa", sum := "a6e947f43417d4c3beae8f5214d4927240e4b0134b371e1ecd8258589570793e", func := "loop.example/g01081/laws.FnExactBoundsOf", spec := "fnExactBoundsOf", plainKeys := false, apart := false, narrowed := true }
def FnExactBoundsOfUptoSaid : Prop := fnExactBoundsOfUptoRow.holds Try.pinned (OpenSpec.upto fnExactBoundsOfSpec)

/-- 'laws.FnExactMoveAssembly', WHERE WHAT IT READS IS OF BULK AT MOST 1048576: true; the input reads as it did. -/
def fnExactMoveAssemblyUptoRow : OpenClaim := { program := "ytcaidemlhgepfaa", sum := "a6e947f43417d4c3beae8f5214d4927240e4b0134b371e1ecd8258589570793e", func := "loop.example/g01081/laws.FnExactMoveAssembly", spec := "fnExactMoveAssembly", plainKeys := false, apart := false, narrowed := true }
def FnExactMoveAssemblyUptoSaid : Prop := fnExactMoveAssemblyUptoRow.holds Try.pinned (OpenSpec.upto fnExactMoveAssemblySpec)

/-- 'laws.FnExactJoinAssemblies', WHERE WHAT IT READS IS OF BULK AT MOST 1048576: true; the input reads as it did. -/
def fnExactJoinAssembliesUptoRow : OpenClaim := { program := "ytcaidemlhgepfaa", sum := "a6e947f43417d4c3beae8f5214d4927240e4b0134b371e1ecd8258589570793e", func := "loop.example/g01081/laws.FnExactJoinAssemblies", spec := "fnExactJoinAssemblies", unfollowed := true, recurses := true, plainKeys := false, apart := false, narrowed := true }
def FnExactJoinAssembliesUptoSaid : Prop := fnExactJoinAssembliesUptoRow.holds Try.pinned (OpenSpec.upto fnExactJoinAssembliesSpec)

/-- 'laws.FnExactIsWithin', WHERE WHAT IT READS IS OF BULK AT MOST 1048576: true; the input reads as it did. -/
def fnExactIsWithinUptoRow : OpenClaim := { program := "ytcaidemlhgepfaa", sum := "a6e947f43417d4c3beae8f5214d4927240e4b0134b371e1ecd8258589570793e", func := "loop.example/g01081/laws.FnExactIsWithin", spec := "fnExactIsWithin", plainKeys := false, apart := false, narrowed := true }
def FnExactIsWithinUptoSaid : Prop := fnExactIsWithinUptoRow.holds Try.pinned (OpenSpec.upto fnExactIsWithinSpec)

/-- 'laws.FnExactFirstDifference', WHERE WHAT IT READS IS OF BULK AT MOST 1048576: true; the input reads as it did. -/
def fnExactFirstDifferenceUptoRow : OpenClaim := { program := "ytcaidemlhgepfaa", sum := "a6e947f43417d4c3beae8f5214d4927240e4b0134b371e1ecd8258589570793e", func := "loop.example/g01081/laws.FnExactFirstDifference", spec := "fnExactFirstDifference", plainKeys := false, apart := false, narrowed := true }
def FnExactFirstDifferenceUptoSaid : Prop := fnExactFirstDifferenceUptoRow.holds Try.pinned (OpenSpec.upto fnExactFirstDifferenceSpec)

end Rows
end Go.Proofs.Ytcaidemlhgepfaa
