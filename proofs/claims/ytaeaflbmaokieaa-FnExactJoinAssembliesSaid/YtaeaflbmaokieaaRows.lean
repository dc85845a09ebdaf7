/-
  No cell of these rows narrows 'for every input' (looked for: loops, veiled, ifaces, maps, wideKeys, modest, calm, conditions, laid).
  DERIVED. THE GIVEN ROWS OF THIS SEAT. 10 by the template 'for every input the law returns true; each argument reads behind the call as it read before'; 0 by the template 'total and deterministic' (their statements: YtaeaflbmaokieaaTotals.lean).
  GIVEN WITH THE SEED: the statements are not yours to turn. If you find one false, say at which input.
  Laid BY PROGRAM, IN A SANDBOX (cutbox-rows.mjs): the forced cells as the released guide's own fill.sh prints them over the translation 3c1299d9b49d3d83… (all of the seat's roots in one cut). By AI agents, Wed Nov 11 2026. No macro, syntax, notation, axiom, sorry.
-/
import Derived.Test.YtaeaflbmaokieaaChecked
import GoSem.Claim
import GoSem.ClaimJoined
import GoSem.ClaimMapViews
import Derived.JoinedTies
import Derived.KernelRfl
namespace Go.Proofs.Ytaeaflbmaokieaa
/- THE CELL 'sum', in the pinned program and in every row, IS THE sha256 OF THE DUMP (.gsa) THAT YtaeaflbmaokieaaProg.lean LOADS. Nothing in Lean hashes anything: it is a label: what it is worth is what the hold of that sum in a sandbox is worth. -/
noncomputable def Try.pinned : Pinned := { name := "ytaeaflbmaokieaa", sum := "3c1299d9b49d3d83d46d3a381534df4ad3209cb43372265323cc2bbf41521b9a", checked := Try.checked }
namespace Rows
def none {H : Type} : Left H := { results := [], args := [] }

/-- 'laws.FnExactMoveAssembly': WHATEVER THE INPUT: true; the input reads as it did. -/
def fnExactMoveAssemblySpec : ChangeSpec := { name := "fnExactMoveAssembly", fn := fun _ => fun
  | [d1, d2] => { results := [.lit (.bool true)], args := [d1, d2] }
  | _ => none }
def fnExactMoveAssemblyRow : OpenClaim := { program := "ytaeaflbmaokieaa", sum := "3c1299d9b49d3d83d46d3a381534df4ad3209cb43372265323cc2bbf41521b9a", func := "loop.example/g01081/laws.FnExactMoveAssembly", spec := "fnExactMoveAssembly", plainKeys := false, apart := false }
def FnExactMoveAssemblySaid : Prop := fnExactMoveAssemblyRow.holds Try.pinned (OpenSpec.ofChange fnExactMoveAssemblySpec)

/-- ITS FALSE NEIGHBOUR: 'it returns false'. Refute it at one input. -/
def fnExactMoveAssemblyWrong : ChangeSpec := { name := "fnExactMoveAssembly", fn := fun _ => fun
  | [d1, d2] => { results := [.lit (.bool false)], args := [d1, d2] }
  | _ => none }
def FnExactMoveAssemblyWrongFalsely : Prop := fnExactMoveAssemblyRow.holds Try.pinned (OpenSpec.ofChange fnExactMoveAssemblyWrong)

/-- 'laws.FnExactTakeTile': WHATEVER THE INPUT: true; the input reads as it did. -/
def fnExactTakeTileSpec : ChangeSpec := { name := "fnExactTakeTile", fn := fun _ => fun
  | [d1, d2] => { results := [.lit (.bool true)], args := [d1, d2] }
  | _ => none }
def fnExactTakeTileRow : OpenClaim := { program := "ytaeaflbmaokieaa", sum := "3c1299d9b49d3d83d46d3a381534df4ad3209cb43372265323cc2bbf41521b9a", func := "loop.example/g01081/laws.FnExactTakeTile", spec := "fnExactTakeTile", unfollowed := true, recurses := true, plainKeys := false, apart := false }
def FnExactTakeTileSaid : Prop := fnExactTakeTileRow.holds Try.pinned (OpenSpec.ofChange fnExactTakeTileSpec)

/-- ITS FALSE NEIGHBOUR: 'it returns false'. Refute it at one input. -/
def fnExactTakeTileWrong : ChangeSpec := { name := "fnExactTakeTile", fn := fun _ => fun
  | [d1, d2] => { results := [.lit (.bool false)], args := [d1, d2] }
  | _ => none }
def FnExactTakeTileWrongFalsely : Prop := fnExactTakeTileRow.holds Try.pinned (OpenSpec.ofChange fnExactTakeTileWrong)

/-- 'laws.FnExactPutTile': WHATEVER THE INPUT: true; the input reads as it did. -/
def fnExactPutTileSpec : ChangeSpec := { name := "fnExactPutTile", fn := fun _ => fun
  | [d1, d2, d3] => { results := [.lit (.bool true)], args := [d1, d2, d3] }
  | _ => none }
def fnExactPutTileRow : OpenClaim := { program := "ytaeaflbmaokieaa", sum := "3c1299d9b49d3d83d46d3a381534df4ad3209cb43372265323cc2bbf41521b9a", func := "loop.example/g01081/laws.FnExactPutTile", spec := "fnExactPutTile", unfollowed := true, recurses := true, plainKeys := false, apart := false }
def FnExactPutTileSaid : Prop := fnExactPutTileRow.holds Try.pinned (OpenSpec.ofChange fnExactPutTileSpec)

/-- ITS FALSE NEIGHBOUR: 'it returns false'. Refute it at one input. -/
def fnExactPutTileWrong : ChangeSpec := { name := "fnExactPutTile", fn := fun _ => fun
  | [d1, d2, d3] => { results := [.lit (.bool false)], args := [d1, d2, d3] }
  | _ => none }
def FnExactPutTileWrongFalsely : Prop := fnExactPutTileRow.holds Try.pinned (OpenSpec.ofChange fnExactPutTileWrong)

/-- 'laws.FnExactJoinAssemblies': WHATEVER THE INPUT: true; the input reads as it did. -/
def fnExactJoinAssembliesSpec : ChangeSpec := { name := "fnExactJoinAssemblies", fn := fun _ => fun
  | [d1, d2] => { results := [.lit (.bool true)], args := [d1, d2] }
  | _ => none }
def fnExactJoinAssembliesRow : OpenClaim := { program := "ytaeaflbmaokieaa", sum := "3c1299d9b49d3d83d46d3a381534df4ad3209cb43372265323cc2bbf41521b9a", func := "loop.example/g01081/laws.FnExactJoinAssemblies", spec := "fnExactJoinAssemblies", unfollowed := true, recurses := true, plainKeys := false, apart := false }
def FnExactJoinAssembliesSaid : Prop := fnExactJoinAssembliesRow.holds Try.pinned (OpenSpec.ofChange fnExactJoinAssembliesSpec)

/-- ITS FALSE NEIGHBOUR: 'it returns false'. Refute it at one input. -/
def fnExactJoinAssembliesWrong : ChangeSpec := { name := "fnExactJoinAssemblies", fn := fun _ => fun
  | [d1, d2] => { results := [.lit (.bool false)], args := [d1, d2] }
  | _ => none }
def FnExactJoinAssembliesWrongFalsely : Prop := fnExactJoinAssembliesRow.holds Try.pinned (OpenSpec.ofChange fnExactJoinAssembliesWrong)

/-- 'laws.FnExactBoundsOf': WHATEVER THE INPUT: true; the input reads as it did. -/
def fnExactBoundsOfSpec : ChangeSpec := { name := "fnExactBoundsOf", fn := fun _ => fun
  | [d] => { results := [.lit (.bool true)], args := [d] }
  | _ => none }
def fnExactBoundsOfRow : OpenClaim := { program := "ytaeaflbmaokieaa", sum := "3c1299d9b49d3d83d46d3a381534df4ad3209cb43372265323cc2bbf41521b9a", func := "loop.example/g01081/laws.FnExactBoundsOf", spec := "fnExactBoundsOf", plainKeys := false, apart := false }
def FnExactBoundsOfSaid : Prop := fnExactBoundsOfRow.holds Try.pinned (OpenSpec.ofChange fnExactBoundsOfSpec)

/-- ITS FALSE NEIGHBOUR: 'it returns false'. Refute it at one input. -/
def fnExactBoundsOfWrong : ChangeSpec := { name := "fnExactBoundsOf", fn := fun _ => fun
  | [d] => { results := [.lit (.bool false)], args := [d] }
  | _ => none }
def FnExactBoundsOfWrongFalsely : Prop := fnExactBoundsOfRow.holds Try.pinned (OpenSpec.ofChange fnExactBoundsOfWrong)

/-- 'laws.FnExactValidShape': WHATEVER THE INPUT: true; the input reads as it did. -/
def fnExactValidShapeSpec : ChangeSpec := { name := "fnExactValidShape", fn := fun _ => fun
  | [d] => { results := [.lit (.bool true)], args := [d] }
  | _ => none }
def fnExactValidShapeRow : OpenClaim := { program := "ytaeaflbmaokieaa", sum := "3c1299d9b49d3d83d46d3a381534df4ad3209cb43372265323cc2bbf41521b9a", func := "loop.example/g01081/laws.FnExactValidShape", spec := "fnExactValidShape", plainKeys := false, apart := false }
def FnExactValidShapeSaid : Prop := fnExactValidShapeRow.holds Try.pinned (OpenSpec.ofChange fnExactValidShapeSpec)

/-- ITS FALSE NEIGHBOUR: 'it returns false'. Refute it at one input. -/
def fnExactValidShapeWrong : ChangeSpec := { name := "fnExactValidShape", fn := fun _ => fun
  | [d] => { results := [.lit (.bool false)], args := [d] }
  | _ => none }
def FnExactValidShapeWrongFalsely : Prop := fnExactValidShapeRow.holds Try.pinned (OpenSpec.ofChange fnExactValidShapeWrong)

/-- 'laws.FnExactSameShape': WHATEVER THE INPUT: true; the input reads as it did. -/
def fnExactSameShapeSpec : ChangeSpec := { name := "fnExactSameShape", fn := fun _ => fun
  | [d1, d2] => { results := [.lit (.bool true)], args := [d1, d2] }
  | _ => none }
def fnExactSameShapeRow : OpenClaim := { program := "ytaeaflbmaokieaa", sum := "3c1299d9b49d3d83d46d3a381534df4ad3209cb43372265323cc2bbf41521b9a", func := "loop.example/g01081/laws.FnExactSameShape", spec := "fnExactSameShape", plainKeys := false, apart := false }
def FnExactSameShapeSaid : Prop := fnExactSameShapeRow.holds Try.pinned (OpenSpec.ofChange fnExactSameShapeSpec)

/-- ITS FALSE NEIGHBOUR: 'it returns false'. Refute it at one input. -/
def fnExactSameShapeWrong : ChangeSpec := { name := "fnExactSameShape", fn := fun _ => fun
  | [d1, d2] => { results := [.lit (.bool false)], args := [d1, d2] }
  | _ => none }
def FnExactSameShapeWrongFalsely : Prop := fnExactSameShapeRow.holds Try.pinned (OpenSpec.ofChange fnExactSameShapeWrong)

/-- 'laws.FnExactRectangleShape': WHATEVER THE INPUT: true; the input reads as it did. -/
def fnExactRectangleShapeSpec : ChangeSpec := { name := "fnExactRectangleShape", fn := fun _ => fun
  | [d1, d2] => { results := [.lit (.bool true)], args := [d1, d2] }
  | _ => none }
def fnExactRectangleShapeRow : OpenClaim := { program := "ytaeaflbmaokieaa", sum := "3c1299d9b49d3d83d46d3a381534df4ad3209cb43372265323cc2bbf41521b9a", func := "loop.example/g01081/laws.FnExactRectangleShape", spec := "fnExactRectangleShape", plainKeys := false, apart := false }
def FnExactRectangleShapeSaid : Prop := fnExactRectangleShapeRow.holds Try.pinned (OpenSpec.ofChange fnExactRectangleShapeSpec)

/-- ITS FALSE NEIGHBOUR: 'it returns false'. Refute it at one input. -/
def fnExactRectangleShapeWrong : ChangeSpec := { name := "fnExactRectangleShape", fn := fun _ => fun
  | [d1, d2] => { results := [.lit (.bool false)], args := [d1, d2] }
  | _ => none }
def FnExactRectangleShapeWrongFalsely : Prop := fnExactRectangleShapeRow.holds Try.pinned (OpenSpec.ofChange fnExactRectangleShapeWrong)

/-- 'laws.FnExactHomeShape': WHATEVER THE INPUT: true; the input reads as it did. -/
def fnExactHomeShapeSpec : ChangeSpec := { name := "fnExactHomeShape", fn := fun _ => fun
  | [d] => { results := [.lit (.bool true)], args := [d] }
  | _ => none }
def fnExactHomeShapeRow : OpenClaim := { program := "ytaeaflbmaokieaa", sum := "3c1299d9b49d3d83d46d3a381534df4ad3209cb43372265323cc2bbf41521b9a", func := "loop.example/g01081/laws.FnExactHomeShape", spec := "fnExactHomeShape", inPlace := ["internal/reflectlite.ValueOf", "internal/reflectlite.Swapper", "(internal/reflectlite.Value).Len"], unfollowed := true, recurses := true, plainKeys := false, apart := false }
def FnExactHomeShapeSaid : Prop := fnExactHomeShapeRow.holds Try.pinned (OpenSpec.ofChange fnExactHomeShapeSpec)

/-- ITS FALSE NEIGHBOUR: 'it returns false'. Refute it at one input. -/
def fnExactHomeShapeWrong : ChangeSpec := { name := "fnExactHomeShape", fn := fun _ => fun
  | [d] => { results := [.lit (.bool false)], args := [d] }
  | _ => none }
def FnExactHomeShapeWrongFalsely : Prop := fnExactHomeShapeRow.holds Try.pinned (OpenSpec.ofChange fnExactHomeShapeWrong)

/-- 'laws.FnExactTurnShape': WHATEVER THE INPUT: true; the input reads as it did. -/
def fnExactTurnShapeSpec : ChangeSpec := { name := "fnExactTurnShape", fn := fun _ => fun
  | [d1, d2] => { results := [.lit (.bool true)], args := [d1, d2] }
  | _ => none }
def fnExactTurnShapeRow : OpenClaim := { program := "ytaeaflbmaokieaa", sum := "3c1299d9b49d3d83d46d3a381534df4ad3209cb43372265323cc2bbf41521b9a", func := "loop.example/g01081/laws.FnExactTurnShape", spec := "fnExactTurnShape", inPlace := ["internal/reflectlite.ValueOf", "internal/reflectlite.Swapper", "(internal/reflectlite.Value).Len"], unfollowed := true, recurses := true, plainKeys := false, apart := false }
def FnExactTurnShapeSaid : Prop := fnExactTurnShapeRow.holds Try.pinned (OpenSpec.ofChange fnExactTurnShapeSpec)

/-- ITS FALSE NEIGHBOUR: 'it returns false'. Refute it at one input. -/
def fnExactTurnShapeWrong : ChangeSpec := { name := "fnExactTurnShape", fn := fun _ => fun
  | [d1, d2] => { results := [.lit (.bool false)], args := [d1, d2] }
  | _ => none }
def FnExactTurnShapeWrongFalsely : Prop := fnExactTurnShapeRow.holds Try.pinned (OpenSpec.ofChange fnExactTurnShapeWrong)

/- THE SECOND FORM. 'bulk': how many values and letters a reading holds, each counted each time it is reached (what is shared counts as often as it is met; a slice's spare places count too). A statement '..UptoSaid' is the law's where the arguments, and the package variables that the reading takes, are together of bulk at most 1048576: NARROWER than '..Said'. Prove '..Said' where nothing that the law and all that it calls make is longer than what came in: it says more and counts as full. Else prove '..UptoSaid'. A law counts once. -/
mutual
def uptoBulk {H : Type} : DataW H → Nat
  | .lit (.string bytes) => bytes.length + 1
  | .lit _ => 1
  | .nil => 1
  | .ptr d => uptoBulk d + 1
  | .slice elems spare => uptoBulkAll elems + uptoBulkAll spare + 1
  | .agg parts => uptoBulkAll parts + 1
  | .iface _ d => uptoBulk d + 1
  | .map entries => uptoBulkEntries entries + 1
  | .held _ => 1
def uptoBulkAll {H : Type} : List (DataW H) → Nat
  | [] => 0
  | d :: r => uptoBulk d + uptoBulkAll r
def uptoBulkEntries {H : Type} : List (Lit × DataW H) → Nat
  | [] => 0
  | x :: r => uptoBulkEntry x + uptoBulkEntries r
def uptoBulkEntry {H : Type} : Lit × DataW H → Nat
  | (.string bytes, d) => bytes.length + uptoBulk d + 1
  | (_, d) => uptoBulk d + 1
 end
def uptoSmall : (H : Type) → List (DataW H) → Bool := fun _ ds => decide (uptoBulkAll ds ≤ 1048576)
def OpenSpec.upto (s : _root_.Go.ChangeSpec) : _root_.Go.OpenSpec := { _root_.Go.OpenSpec.ofChange s with cond := some uptoSmall }

/-- 'laws.FnExactMoveAssembly', WHERE WHAT IT READS IS OF BULK AT MOST 1048576: true; the input reads as it did. -/
def fnExactMoveAssemblyUptoRow : OpenClaim := { program := "ytaeaflbmaokieaa", sum := "3c1299d9b49d3d83d46d3a381534df4ad3209cb43372265323cc2bbf41521b9a", func := "loop.example/g01081/laws.FnExactMoveAssembly", spec := "fnExactMoveAssembly", plainKeys := false, apart := false, narrowed := true }
def FnExactMoveAssemblyUptoSaid : Prop := fnExactMoveAssemblyUptoRow.holds Try.pinned (OpenSpec.upto fnExactMoveAssemblySpec)

/-- 'laws.FnExactTakeTile', WHERE WHAT IT READS IS OF BULK AT MOST 1048576: true; the input reads as it did. -/
def fnExactTakeTileUptoRow : OpenClaim := { program := "ytaeaflbmaokieaa", sum := "3c1299d9b49d3d83d46d3a381534df4ad3209cb43372265323cc2bbf41521b9a", func := "loop.example/g01081/laws.FnExactTakeTile", spec := "fnExactTakeTile", unfollowed := true, recurses := true, plainKeys := false, apart := false, narrowed := true }
def FnExactTakeTileUptoSaid : Prop := fnExactTakeTileUptoRow.holds Try.pinned (OpenSpec.upto fnExactTakeTileSpec)

/-- 'laws.FnExactPutTile', WHERE WHAT IT READS IS OF BULK AT MOST 1048576: true; the input reads as it did. -/
def fnExactPutTileUptoRow : OpenClaim := { program := "ytaeaflbmaokieaa", sum := "3c1299d9b49d3d83d46d3a381534df4ad3209cb43372265323cc2bbf41521b9a", func := "loop.example/g01081/laws.FnExactPutTile", spec := "fnExactPutTile", unfollowed := true, recurses := true, plainKeys := false, apart := false, narrowed := true }
def FnExactPutTileUptoSaid : Prop := fnExactPutTileUptoRow.holds Try.pinned (OpenSpec.upto fnExactPutTileSpec)

/-- 'laws.FnExactJoinAssemblies', WHERE WHAT IT READS IS OF BULK AT MOST 1048576: true; the input reads as it did. -/
def fnExactJoinAssembliesUptoRow : OpenClaim := { program := "ytaeaflbmaokieaa", sum := "3c1299d9b49d3d83d46d3a381534df4ad3209cb43372265323cc2bbf41521b9a", func := "loop.example/g01081/laws.FnExactJoinAssemblies", spec := "fnExactJoinAssemblies", unfollowed := true, recurses := true, plainKeys := false, apart := false, narrowed := true }
def FnExactJoinAssembliesUptoSaid : Prop := fnExactJoinAssembliesUptoRow.holds Try.pinned (OpenSpec.upto fnExactJoinAssembliesSpec)

/-- 'laws.FnExactBoundsOf', WHERE WHAT IT READS IS OF BULK AT MOST 1048576: true; the input reads as it did. -/
def fnExactBoundsOfUptoRow : OpenClaim := { program := "ytaeaflbmaokieaa", sum := "3c1299d9b49d3d83d46d3a381534df4ad3209cb43372265323cc2bbf41521b9a", func := "loop.example/g01081/laws.FnExactBoundsOf", spec := "fnExactBoundsOf", plainKeys := false, apart := false, narrowed := true }
def FnExactBoundsOfUptoSaid : Prop := fnExactBoundsOfUptoRow.holds Try.pinned (OpenSpec.upto fnExactBoundsOfSpec)

/-- 'laws.FnExactValidShape', WHERE WHAT IT READS IS OF BULK AT MOST 1048576: true; the input reads as it did. -/
def fnExactValidShapeUptoRow : OpenClaim := { program := "ytaeaflbmaokieaa", sum := "3c1299d9b49d3d83d46d3a381534df4ad3209cb43372265323cc2bbf41521b9a", func := "loop.example/g01081/laws.FnExactValidShape", spec := "fnExactValidShape", plainKeys := false, apart := false, narrowed := true }
def FnExactValidShapeUptoSaid : Prop := fnExactValidShapeUptoRow.holds Try.pinned (OpenSpec.upto fnExactValidShapeSpec)

/-- 'laws.FnExactSameShape', WHERE WHAT IT READS IS OF BULK AT MOST 1048576: true; the input reads as it did. -/
def fnExactSameShapeUptoRow : OpenClaim := { program := "ytaeaflbmaokieaa", sum := "3c1299d9b49d3d83d46d3a381534df4ad3209cb43372265323cc2bbf41521b9a", func := "loop.example/g01081/laws.FnExactSameShape", spec := "fnExactSameShape", plainKeys := false, apart := false, narrowed := true }
def FnExactSameShapeUptoSaid : Prop := fnExactSameShapeUptoRow.holds Try.pinned (OpenSpec.upto fnExactSameShapeSpec)

/-- 'laws.FnExactRectangleShape', WHERE WHAT IT READS IS OF BULK AT MOST 1048576: true; the input reads as it did. -/
def fnExactRectangleShapeUptoRow : OpenClaim := { program := "ytaeaflbmaokieaa", sum := "3c1299d9b49d3d83d46d3a381534df4ad3209cb43372265323cc2bbf41521b9a", func := "loop.example/g01081/laws.FnExactRectangleShape", spec := "fnExactRectangleShape", plainKeys := false, apart := false, narrowed := true }
def FnExactRectangleShapeUptoSaid : Prop := fnExactRectangleShapeUptoRow.holds Try.pinned (OpenSpec.upto fnExactRectangleShapeSpec)

/-- 'laws.FnExactHomeShape', WHERE WHAT IT READS IS OF BULK AT MOST 1048576: true; the input reads as it did. -/
def fnExactHomeShapeUptoRow : OpenClaim := { program := "ytaeaflbmaokieaa", sum := "3c1299d9b49d3d83d46d3a381534df4ad3209cb43372265323cc2bbf41521b9a", func := "loop.example/g01081/laws.FnExactHomeShape", spec := "fnExactHomeShape", inPlace := ["internal/reflectlite.ValueOf", "internal/reflectlite.Swapper", "(internal/reflectlite.Value).Len"], unfollowed := true, recurses := true, plainKeys := false, apart := false, narrowed := true }
def FnExactHomeShapeUptoSaid : Prop := fnExactHomeShapeUptoRow.holds Try.pinned (OpenSpec.upto fnExactHomeShapeSpec)

/-- 'laws.FnExactTurnShape', WHERE WHAT IT READS IS OF BULK AT MOST 1048576: true; the input reads as it did. -/
def fnExactTurnShapeUptoRow : OpenClaim := { program := "ytaeaflbmaokieaa", sum := "3c1299d9b49d3d83d46d3a381534df4ad3209cb43372265323cc2bbf41521b9a", func := "loop.example/g01081/laws.FnExactTurnShape", spec := "fnExactTurnShape", inPlace := ["internal/reflectlite.ValueOf", "internal/reflectlite.Swapper", "(internal/reflectlite.Value).Len"], unfollowed := true, recurses := true, plainKeys := false, apart := false, narrowed := true }
def FnExactTurnShapeUptoSaid : Prop := fnExactTurnShapeUptoRow.holds Try.pinned (OpenSpec.upto fnExactTurnShapeSpec)

end Rows
end Go.Proofs.Ytaeaflbmaokieaa
