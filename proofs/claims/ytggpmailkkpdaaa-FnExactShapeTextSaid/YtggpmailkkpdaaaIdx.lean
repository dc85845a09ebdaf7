/-
  The place of a point in an assembly: the model's search by halves, and what both sides call the place. Conditions: each theorem's own.
-/
import Derived.Test.YtggpmailkkpdaaaForm2
namespace Go.Proofs.Ytggpmailkkpdaaa
open Go.RowKit

theorem pX_get {ps : List Pl} {i : Nat} (h : i < ps.length) : pX ps i = ps[i].x := by simp [pX, h]
theorem pY_get {ps : List Pl} {i : Nat} (h : i < ps.length) : pY ps i = ps[i].y := by simp [pY, h]
theorem pT_get {ps : List Pl} {i : Nat} (h : i < ps.length) : pT ps i = ps[i].t := by simp [pT, h]
/-- The first place with this point; the length where there is none. -/
def ixN (ps : List Pl) (x y : Int) : Nat := ps.findIdx fun p => p.x == x && p.y == y
theorem ixN_le (ps : List Pl) (x y : Int) : ixN ps x y ≤ ps.length := List.findIdx_le_length
theorem ixN_at {ps : List Pl} {x y : Int} (h : ixN ps x y < ps.length) : pX ps (ixN ps x y) = x ∧ pY ps (ixN ps x y) = y := by
  have := List.findIdx_getElem (w := h)
  simp only [Bool.and_eq_true, beq_iff_eq] at this
  exact ⟨(pX_get h).trans this.1, (pY_get h).trans this.2⟩
theorem ixN_no {ps : List Pl} {x y : Int} {i : Nat} (h : i < ixN ps x y) : ¬ (pX ps i = x ∧ pY ps i = y) := by
  have hl : i < ps.length := Nat.lt_of_lt_of_le h (ixN_le ps x y)
  have := List.not_of_lt_findIdx h
  rw [pX_get hl, pY_get hl]
  intro ⟨a, b⟩
  simp [a, b] at this
theorem ixN_none {ps : List Pl} {x y : Int} (h : ∀ i, i < ps.length → ¬ (pX ps i = x ∧ pY ps i = y)) : ixN ps x y = ps.length := by
  by_cases hl : ixN ps x y < ps.length
  · exact absurd (ixN_at hl) (h _ hl)
  · have := ixN_le ps x y; omega
theorem ixN_first {ps : List Pl} {x y : Int} {i : Nat} (hi : i < ps.length) (h : pX ps i = x ∧ pY ps i = y) (hno : ∀ j, j < i → ¬ (pX ps j = x ∧ pY ps j = y)) : ixN ps x y = i := by
  by_cases h1 : ixN ps x y < i
  · exact absurd (ixN_at (by omega)) (hno _ h1)
  · by_cases h2 : i < ixN ps x y
    · exact absurd h (ixN_no h2)
    · omega
theorem lessB_irrefl (x y : Int) : lessB x y x y = false := by rw [lessB_no]; omega
theorem Form.ne {ps : List Pl} (h : Form ps) {i j : Nat} (hij : i < j) (hj : j < ps.length) : ¬ (pX ps i = pX ps j ∧ pY ps i = pY ps j) := by
  intro ⟨a, b⟩
  have := h.below hij hj
  rw [a, b, lessB_irrefl] at this
  exact absurd this (by simp)
/-- In a list with the form of an assembly a point has one place. -/
theorem Form.ix {ps : List Pl} (h : Form ps) {x y : Int} {i : Nat} (hi : i < ps.length) (he : pX ps i = x ∧ pY ps i = y) : ixN ps x y = i :=
  ixN_first hi he fun _ hj hj2 => h.ne hj hi ⟨hj2.1.trans he.1.symm, hj2.2.trans he.2.symm⟩
/-- The place as the functions return it. -/
def ixI (ps : List Pl) (x y : Int) : Int := if ixN ps x y < ps.length then (ixN ps x y : Int) else -1
theorem ixI_yes {ps : List Pl} {x y : Int} {i : Nat} (hi : i < ps.length) (h : ixN ps x y = i) : ixI ps x y = (i : Int) := by unfold ixI; rw [h, if_pos hi]
theorem ixI_no {ps : List Pl} {x y : Int} (h : ∀ i, i < ps.length → ¬ (pX ps i = x ∧ pY ps i = y)) : ixI ps x y = -1 := by unfold ixI; rw [ixN_none h, if_neg (Nat.lt_irrefl _)]

/-- The tile at a point, as the model finds it. -/
def atI (ps : List Pl) (x y : Int) : Int := if ixN ps x y < ps.length then pT ps (ixN ps x y) else -1

end Go.Proofs.Ytggpmailkkpdaaa
