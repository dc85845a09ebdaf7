/-
  DERIVED. GIVEN WITH THE SEED: THE CARDS: each row of YtaeaflbmaokieaaDoorRows.lean that lists a variable, with what it lists TIED to the program's text (the seventh form; the later family's looks); each row that meets fmt, with fmt's text TOLD by the authors' own Lean function (tested against real Go, not proved from fmt's source: count such statements apart). THE CARD IS WHAT COUNTS. Prove the row's statement (the work); the ties are given (YtaeaflbmaokieaaDoorTie.lean); close each card by the builder's one call (the guide's Derived/Test/ToyasCard.lean, 'card_holds'). Laid BY PROGRAM, IN A SANDBOX (cutbox-door.mjs). By AI agents, Wed Nov 11 2026. No macro, syntax, notation, axiom, sorry.
-/
import Derived.Test.YtaeaflbmaokieaaDoorRows
import GoSem.ClaimSeven
namespace Go.Proofs.YtaeaflbmaokieaaDoor
namespace Rows

/-- THE TIED CARD OF 'laws.FnExactPerimeterOf'. -/
def fnExactPerimeterOfCard : Claim7 := { stood := { row := fnExactPerimeterOfRow, standIns := [], harness := (true, "9a4a53fc5bb63d79d8a5be7c56208e6c3438aae8f3f19f5a31a91332bfd66644"), looks := false }, kinds := [], alts := [], laidByText := true, laidKinds := [.data], laidTests := true, laidLooks := .later }
def FnExactPerimeterOfCardSaid : Prop := Claim7.holds Tryd.pinned (.plain (OpenSpec.ofChange fnExactPerimeterOfSpec)) fnExactPerimeterOfCard

/-- THE TIED CARD OF 'laws.FnExactIsConnected'. -/
def fnExactIsConnectedCard : Claim7 := { stood := { row := fnExactIsConnectedRow, standIns := [], harness := (true, "9a4a53fc5bb63d79d8a5be7c56208e6c3438aae8f3f19f5a31a91332bfd66644"), looks := false }, kinds := [], alts := [], laidByText := true, laidKinds := [.data], laidTests := true, laidLooks := .later }
def FnExactIsConnectedCardSaid : Prop := Claim7.holds Tryd.pinned (.plain (OpenSpec.ofChange fnExactIsConnectedSpec)) fnExactIsConnectedCard

/-- THE SECOND FORM's CARD OF 'laws.FnExactPerimeterOf'. -/
def fnExactPerimeterOfUptoCard : Claim7 := { stood := { row := fnExactPerimeterOfUptoRow, standIns := [], harness := (true, "9a4a53fc5bb63d79d8a5be7c56208e6c3438aae8f3f19f5a31a91332bfd66644"), looks := false }, kinds := [], alts := [], laidByText := true, laidKinds := [.data], laidTests := true, laidLooks := .later }
def FnExactPerimeterOfUptoCardSaid : Prop := Claim7.holds Tryd.pinned (.plain (OpenSpec.upto fnExactPerimeterOfSpec)) fnExactPerimeterOfUptoCard

/-- THE SECOND FORM's CARD OF 'laws.FnExactIsConnected'. -/
def fnExactIsConnectedUptoCard : Claim7 := { stood := { row := fnExactIsConnectedUptoRow, standIns := [], harness := (true, "9a4a53fc5bb63d79d8a5be7c56208e6c3438aae8f3f19f5a31a91332bfd66644"), looks := false }, kinds := [], alts := [], laidByText := true, laidKinds := [.data], laidTests := true, laidLooks := .later }
def FnExactIsConnectedUptoCardSaid : Prop := Claim7.holds Tryd.pinned (.plain (OpenSpec.upto fnExactIsConnectedSpec)) fnExactIsConnectedUptoCard
end Rows
end Go.Proofs.YtaeaflbmaokieaaDoor
