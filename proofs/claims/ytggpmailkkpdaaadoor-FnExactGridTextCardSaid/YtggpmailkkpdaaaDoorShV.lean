/-
  The validity of a shape and equality of shapes, the model's and the program's. Conditions: each theorem's own.
-/
import Derived.Test.YtggpmailkkpdaaaDoorPq
import Derived.Laws.StructEq
namespace Go.Proofs.YtggpmailkkpdaaaDoor
open Go.RowKit

/-- Coordinate j of point i. -/
def qX (D : Cols) (i : Nat) : Int := D.c i 0
def qY (D : Cols) (i : Nat) : Int := D.c i 1
/-- What a shape asks of point i. -/
structure QOk (D : Cols) (i : Nat) : Prop where
  pt : ptB (D.c i 0) (D.c i 1) = true
  lt : 0 < i → lessB (D.c (i - 1) 0) (D.c (i - 1) 1) (D.c i 0) (D.c i 1) = true
/-- A list of points is a shape. -/
structure Shp (D : Cols) : Prop where
  pos : 1 ≤ D.n
  len : D.n ≤ 500
  all : ∀ i, i < D.n → QOk D i
open Classical in
noncomputable def shB (D : Cols) : Bool := decide (Shp D)
theorem shB_yes {D : Cols} (h : Shp D) : shB D = true := by unfold shB; simpa using h
theorem shB_no {D : Cols} (h : ¬ Shp D) : shB D = false := by unfold shB; simpa using h
theorem shB_iff {D : Cols} : shB D = true ↔ Shp D := by unfold shB; simp
theorem Shp.below {D : Cols} (h : Shp D) {i j : Nat} (hij : i < j) (hj : j < D.n) : lessB (D.c i 0) (D.c i 1) (D.c j 0) (D.c j 1) = true := by
  induction j with
  | zero => omega
  | succ j ih =>
    have h1 := (h.all (j + 1) hj).lt (by omega)
    rw [Nat.add_sub_cancel] at h1
    by_cases hi : i = j
    · subst hi; exact h1
    · have h2 := ih (by omega) (by omega)
      rw [lessB_iff] at h1 h2 ⊢
      omega

end Go.Proofs.YtggpmailkkpdaaaDoor
