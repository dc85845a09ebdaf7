/-
  What the laws on tile sets share: the model's ValidSet, and how the law's own variables are kept over calls that make new memory alone. Conditions: each theorem's own.
-/
import Derived.Test.YtnofbeeihdgmdaaDoorIOk
import Derived.Test.YtnofbeeihdgmdaaDoorEq
namespace Go.Proofs.YtnofbeeihdgmdaaDoor
open Go.RowKit Go.ChangeShapes Go.WideShapes

theorem SetIn.shape {w : World} {vg vt : Value} {S : Set_} (h : SetIn w vg vt S) : ∃ a m c b n d, vg = .slice a m c ∧ vt = .slice b n d := by
  obtain ⟨a, c, h1, -⟩ := h.g
  obtain ⟨sv, ⟨b, d, h2, -⟩, -⟩ := h.t
  exact ⟨a, _, c, b, _, d, h1, h2⟩

end Go.Proofs.YtnofbeeihdgmdaaDoor
