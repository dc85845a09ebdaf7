/-
  The form of an assembly: what the model's and the program's test return. Conditions: each theorem's own.
-/
import Derived.Test.YtggpmailkkpdaaaAsm2
namespace Go.Proofs.Ytggpmailkkpdaaa
open Go.RowKit

theorem lessB_iff {x y p q : Int} : lessB x y p q = true ↔ y < q ∨ (y = q ∧ x < p) := by simp [lessB]
theorem lessB_no {x y p q : Int} : lessB x y p q = false ↔ ¬ (y < q ∨ (y = q ∧ x < p)) := by
  rw [← lessB_iff]; simp
/-- What the form asks of placed tile i. -/
structure PlOk (ps : List Pl) (i : Nat) : Prop where
  pt : ptB (pX ps i) (pY ps i) = true
  tl : inB (pT ps i) 0 159 = true
  lt : 0 < i → lessB (pX ps (i - 1)) (pY ps (i - 1)) (pX ps i) (pY ps i) = true
/-- A list has the form of an assembly. -/
structure Form (ps : List Pl) : Prop where
  len : ps.length ≤ 500
  all : ∀ i, i < ps.length → PlOk ps i
open Classical in
noncomputable def formB (ps : List Pl) : Bool := decide (Form ps)
theorem formB_yes {ps : List Pl} (h : Form ps) : formB ps = true := by unfold formB; simpa using h
theorem formB_no {ps : List Pl} (h : ¬ Form ps) : formB ps = false := by unfold formB; simpa using h
theorem formB_iff {ps : List Pl} : formB ps = true ↔ Form ps := by unfold formB; simp
theorem Form.below {ps : List Pl} (h : Form ps) {i j : Nat} (hij : i < j) (hj : j < ps.length) : lessB (pX ps i) (pY ps i) (pX ps j) (pY ps j) = true := by
  induction j with
  | zero => omega
  | succ j ih =>
    have h1 := (h.all (j + 1) hj).lt (by omega)
    rw [Nat.add_sub_cancel] at h1
    by_cases hi : i = j
    · subst hi; exact h1
    · have h2 := ih (by omega) (by omega)
      rw [lessB_iff] at h1 h2 ⊢
      omega

end Go.Proofs.Ytggpmailkkpdaaa
