/-
  IsWithin, the model's and the program's. Conditions: each theorem's own.
-/
import Derived.Test.YtaeaflbmaokieaaTMap
namespace Go.Proofs.Ytaeaflbmaokieaa
open Go.RowKit Go.Maps

open Classical in
noncomputable def inAll (P Q : List Pl) : Bool := decide (∀ i, i < P.length → atI Q (pX P i) (pY P i) = pT P i)
theorem inAll_yes {P Q : List Pl} (h : ∀ i, i < P.length → atI Q (pX P i) (pY P i) = pT P i) : inAll P Q = true := by unfold inAll; simpa using h
theorem inAll_no {P Q : List Pl} {i : Nat} (hi : i < P.length) (h : ¬ atI Q (pX P i) (pY P i) = pT P i) : inAll P Q = false := by
  unfold inAll
  rw [decide_eq_false_iff_not]
  exact fun a => h (a i hi)
noncomputable def wiB (P Q : List Pl) : Bool := formB P && formB Q && inAll P Q
/-- The boxes of two assemblies. -/
theorem boxes_aa (w : World) (u v : Value) (t1 t2 : TypeId) : At1 ((w.alloc (.cells #[u] t1)).alloc (.cells #[v] t2)) w.heap.size u ∧ At1 ((w.alloc (.cells #[u] t1)).alloc (.cells #[v] t2)) (w.heap.size + 1) v := ⟨⟨by simp [go_sem]⟩, ⟨by simp [go_sem]⟩⟩

end Go.Proofs.Ytaeaflbmaokieaa
