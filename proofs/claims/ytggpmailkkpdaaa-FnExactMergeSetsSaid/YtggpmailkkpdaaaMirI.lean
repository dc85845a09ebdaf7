/-
  MirrorSet of the program. Conditions: each theorem's own.
-/
import Derived.Test.YtggpmailkkpdaaaStep_
import Derived.Deep.RegionHeld3
namespace Go.Proofs.Ytggpmailkkpdaaa
open Go.RowKit

/-- The sides of a mirrored tile. -/
def mir (zs : List Int) : List Int := [iAt zs 0, iAt zs 3, iAt zs 2, iAt zs 1]
def mirTs (ts : List Tl) : List Tl := ts.map fun t => ⟨t.name, mir t.sides⟩
def mirS (S : Set_) : Set_ := ⟨S.gs, mirTs S.ts⟩
theorem mirTs_len (ts : List Tl) : (mirTs ts).length = ts.length := by simp [mirTs]
theorem mirTs_N (ts : List Tl) {i : Nat} (h : i < ts.length) : tN (mirTs ts) i = tN ts i := by simp [tN, mirTs, h]
theorem mirTs_S (ts : List Tl) {i : Nat} (h : i < ts.length) : tS (mirTs ts) i = mir (tS ts i) := by simp [tS, mirTs, h]
/-- A call that returns a set of tiles in new memory, and a code. -/
def SetPost (W : World) (S : Set_) (c : Int) (e : Ending) (w' : World) : Prop := ∃ vg vt, e = .returned (.tuple #[.agg #[vg, vt], .int .i64 c]) ∧ OwnSet w' W.heap.size w'.heap.size vg vt S
noncomputable def mi1 (S : Set_) : Set_ := if validB S = true then mirS S else ⟨[], []⟩
noncomputable def mi2 (S : Set_) : Int := if validB S = true then 0 else 1

end Go.Proofs.Ytggpmailkkpdaaa
