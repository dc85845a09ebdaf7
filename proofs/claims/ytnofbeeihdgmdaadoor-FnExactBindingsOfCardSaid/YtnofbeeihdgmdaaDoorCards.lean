/-
  DERIVED. GIVEN WITH THE SEED: THE CARDS: each row of YtnofbeeihdgmdaaDoorRows.lean that lists a variable, with what it lists TIED to the program's text (the seventh form; the later family's looks); each row that meets fmt, with fmt's text TOLD by the authors' own Lean function (tested against real Go, not proved from fmt's source: count such statements apart). THE CARD IS WHAT COUNTS. Prove the row's statement (the work); the ties are given (YtnofbeeihdgmdaaDoorTie.lean); close each card by the builder's one call (the guide's Derived/Test/ToyasCard.lean, 'card_holds'). Laid BY PROGRAM, IN A SANDBOX (cutbox-door.mjs). By AI agents, Wed Nov 11 2026. No macro, syntax, notation, axiom, sorry.
-/
import Derived.Test.YtnofbeeihdgmdaaDoorRows
import GoSem.ClaimSeven
namespace Go.Proofs.YtnofbeeihdgmdaaDoor
namespace Rows

/-- THE TIED CARD OF 'laws.FnExactBindingAt'. -/
def fnExactBindingAtCard : Claim7 := { stood := { row := fnExactBindingAtRow, standIns := [], harness := (true, "f4725ad4e09333aeb199338b50f553b07293c170b5742dfcecd2e668fd6b6f64"), looks := false }, kinds := [], alts := [], laidByText := true, laidKinds := [.data], laidTests := true, laidLooks := .later }
def FnExactBindingAtCardSaid : Prop := Claim7.holds Tryd.pinned (.plain (OpenSpec.ofChange fnExactBindingAtSpec)) fnExactBindingAtCard

/-- THE TIED CARD OF 'laws.FnExactTotalStrength'. -/
def fnExactTotalStrengthCard : Claim7 := { stood := { row := fnExactTotalStrengthRow, standIns := [], harness := (true, "f4725ad4e09333aeb199338b50f553b07293c170b5742dfcecd2e668fd6b6f64"), looks := false }, kinds := [], alts := [], laidByText := true, laidKinds := [.data], laidTests := true, laidLooks := .later }
def FnExactTotalStrengthCardSaid : Prop := Claim7.holds Tryd.pinned (.plain (OpenSpec.ofChange fnExactTotalStrengthSpec)) fnExactTotalStrengthCard

/-- THE TIED CARD OF 'laws.FnExactBondsOf'. -/
def fnExactBondsOfCard : Claim7 := { stood := { row := fnExactBondsOfRow, standIns := [], harness := (true, "f4725ad4e09333aeb199338b50f553b07293c170b5742dfcecd2e668fd6b6f64"), looks := false }, kinds := [], alts := [], laidByText := true, laidKinds := [.data], laidTests := true, laidLooks := .later }
def FnExactBondsOfCardSaid : Prop := Claim7.holds Tryd.pinned (.plain (OpenSpec.ofChange fnExactBondsOfSpec)) fnExactBondsOfCard

/-- THE TIED CARD OF 'laws.FnExactMismatchesOf'. -/
def fnExactMismatchesOfCard : Claim7 := { stood := { row := fnExactMismatchesOfRow, standIns := [], harness := (true, "f4725ad4e09333aeb199338b50f553b07293c170b5742dfcecd2e668fd6b6f64"), looks := false }, kinds := [], alts := [], laidByText := true, laidKinds := [.data], laidTests := true, laidLooks := .later }
def FnExactMismatchesOfCardSaid : Prop := Claim7.holds Tryd.pinned (.plain (OpenSpec.ofChange fnExactMismatchesOfSpec)) fnExactMismatchesOfCard

/-- THE TIED CARD OF 'laws.FnExactCutStrength'. -/
def fnExactCutStrengthCard : Claim7 := { stood := { row := fnExactCutStrengthRow, standIns := [], harness := (true, "f4725ad4e09333aeb199338b50f553b07293c170b5742dfcecd2e668fd6b6f64"), looks := false }, kinds := [], alts := [], laidByText := true, laidKinds := [.data], laidTests := true, laidLooks := .later }
def FnExactCutStrengthCardSaid : Prop := Claim7.holds Tryd.pinned (.plain (OpenSpec.ofChange fnExactCutStrengthSpec)) fnExactCutStrengthCard

/-- THE TIED CARD OF 'laws.FnExactBindingsOf'. -/
def fnExactBindingsOfCard : Claim7 := { stood := { row := fnExactBindingsOfRow, standIns := [], harness := (true, "f4725ad4e09333aeb199338b50f553b07293c170b5742dfcecd2e668fd6b6f64"), looks := false }, kinds := [], alts := [], laidByText := true, laidKinds := [.data], laidTests := true, laidLooks := .later }
def FnExactBindingsOfCardSaid : Prop := Claim7.holds Tryd.pinned (.plain (OpenSpec.ofChange fnExactBindingsOfSpec)) fnExactBindingsOfCard

/-- THE SECOND FORM's CARD OF 'laws.FnExactBindingAt'. -/
def fnExactBindingAtUptoCard : Claim7 := { stood := { row := fnExactBindingAtUptoRow, standIns := [], harness := (true, "f4725ad4e09333aeb199338b50f553b07293c170b5742dfcecd2e668fd6b6f64"), looks := false }, kinds := [], alts := [], laidByText := true, laidKinds := [.data], laidTests := true, laidLooks := .later }
def FnExactBindingAtUptoCardSaid : Prop := Claim7.holds Tryd.pinned (.plain (OpenSpec.upto fnExactBindingAtSpec)) fnExactBindingAtUptoCard

/-- THE SECOND FORM's CARD OF 'laws.FnExactTotalStrength'. -/
def fnExactTotalStrengthUptoCard : Claim7 := { stood := { row := fnExactTotalStrengthUptoRow, standIns := [], harness := (true, "f4725ad4e09333aeb199338b50f553b07293c170b5742dfcecd2e668fd6b6f64"), looks := false }, kinds := [], alts := [], laidByText := true, laidKinds := [.data], laidTests := true, laidLooks := .later }
def FnExactTotalStrengthUptoCardSaid : Prop := Claim7.holds Tryd.pinned (.plain (OpenSpec.upto fnExactTotalStrengthSpec)) fnExactTotalStrengthUptoCard

/-- THE SECOND FORM's CARD OF 'laws.FnExactBondsOf'. -/
def fnExactBondsOfUptoCard : Claim7 := { stood := { row := fnExactBondsOfUptoRow, standIns := [], harness := (true, "f4725ad4e09333aeb199338b50f553b07293c170b5742dfcecd2e668fd6b6f64"), looks := false }, kinds := [], alts := [], laidByText := true, laidKinds := [.data], laidTests := true, laidLooks := .later }
def FnExactBondsOfUptoCardSaid : Prop := Claim7.holds Tryd.pinned (.plain (OpenSpec.upto fnExactBondsOfSpec)) fnExactBondsOfUptoCard

/-- THE SECOND FORM's CARD OF 'laws.FnExactMismatchesOf'. -/
def fnExactMismatchesOfUptoCard : Claim7 := { stood := { row := fnExactMismatchesOfUptoRow, standIns := [], harness := (true, "f4725ad4e09333aeb199338b50f553b07293c170b5742dfcecd2e668fd6b6f64"), looks := false }, kinds := [], alts := [], laidByText := true, laidKinds := [.data], laidTests := true, laidLooks := .later }
def FnExactMismatchesOfUptoCardSaid : Prop := Claim7.holds Tryd.pinned (.plain (OpenSpec.upto fnExactMismatchesOfSpec)) fnExactMismatchesOfUptoCard

/-- THE SECOND FORM's CARD OF 'laws.FnExactCutStrength'. -/
def fnExactCutStrengthUptoCard : Claim7 := { stood := { row := fnExactCutStrengthUptoRow, standIns := [], harness := (true, "f4725ad4e09333aeb199338b50f553b07293c170b5742dfcecd2e668fd6b6f64"), looks := false }, kinds := [], alts := [], laidByText := true, laidKinds := [.data], laidTests := true, laidLooks := .later }
def FnExactCutStrengthUptoCardSaid : Prop := Claim7.holds Tryd.pinned (.plain (OpenSpec.upto fnExactCutStrengthSpec)) fnExactCutStrengthUptoCard

/-- THE SECOND FORM's CARD OF 'laws.FnExactBindingsOf'. -/
def fnExactBindingsOfUptoCard : Claim7 := { stood := { row := fnExactBindingsOfUptoRow, standIns := [], harness := (true, "f4725ad4e09333aeb199338b50f553b07293c170b5742dfcecd2e668fd6b6f64"), looks := false }, kinds := [], alts := [], laidByText := true, laidKinds := [.data], laidTests := true, laidLooks := .later }
def FnExactBindingsOfUptoCardSaid : Prop := Claim7.holds Tryd.pinned (.plain (OpenSpec.upto fnExactBindingsOfSpec)) fnExactBindingsOfUptoCard
end Rows
end Go.Proofs.YtnofbeeihdgmdaaDoor
