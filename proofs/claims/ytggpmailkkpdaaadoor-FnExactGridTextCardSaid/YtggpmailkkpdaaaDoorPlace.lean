/-
  The place of a point, the program's search; TileAt. Conditions: each theorem's own.
-/
import Derived.Test.YtggpmailkkpdaaaDoorIdx
namespace Go.Proofs.YtggpmailkkpdaaaDoor
open Go.RowKit

/-- Are two points one? -/
def eqP (a b x y : Int) : Bool := a == x && b == y
theorem eqP_yes {a b x y : Int} (h : a = x ∧ b = y) : eqP a b x y = true := by simp [eqP, h]
theorem eqP_no {a b x y : Int} (h : ¬ (a = x ∧ b = y)) : eqP a b x y = false := by
  unfold eqP
  rw [Bool.and_eq_false_iff]
  by_cases ha : a = x
  · exact .inr (beq_eq_false_iff_ne.2 fun e => h ⟨ha, e⟩)
  · exact .inl (beq_eq_false_iff_ne.2 ha)

/-- Is there a tile at the point? -/
def hasB (ps : List Pl) (x y : Int) : Bool := decide (ixN ps x y < ps.length)
theorem hasB_yes {ps : List Pl} {x y : Int} (h : ixN ps x y < ps.length) : hasB ps x y = true := decide_eq_true h
theorem hasB_no {ps : List Pl} {x y : Int} (h : ¬ ixN ps x y < ps.length) : hasB ps x y = false := decide_eq_false h

end Go.Proofs.YtggpmailkkpdaaaDoor
