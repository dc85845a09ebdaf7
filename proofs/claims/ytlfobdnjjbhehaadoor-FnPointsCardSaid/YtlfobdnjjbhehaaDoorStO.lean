/-
  The listed table of steps as the row lays it. Conditions: each theorem's own.
-/
import Derived.Test.YtlfobdnjjbhehaaDoorStep
import Derived.Test.YtlfobdnjjbhehaaDoorCard
namespace Go.Proofs.YtlfobdnjjbhehaaDoor
open Go.RowKit

theorem steps_of {W : World} {rest : List (String × DataW Unit)} (hL : laidMet Tryd.prog (("loop.example/g01081/impl.dirSteps", Rows.laid_loop_example_g01081_impl_dirSteps) :: rest) W) : Steps W := by
  have h : ∀ {i : Nat} {a b : Int}, ([(0, 1), (1, 0), (0, -1), (-1, 0)] : List (Int × Int))[i]? = some (a, b) → W.cell? ⟨0, i * 2, none⟩ = some (.int .i64 a) ∧ W.cell? ⟨0, i * 2 + 1, none⟩ = some (.int .i64 b) := fun hi =>
    pairs_of_head (ks := [(0, 1), (1, 0), (0, -1), (-1, 0)]) (rest := rest) (k := 2) (by kernel_rfl) (by kernel_rfl) Tryd.underlying53 Tryd.underlying25 (by kernel_rfl) rfl rfl rfl rfl Tryd.underlying2 (by kernel_rfl) hL hi
  exact ⟨(h (i := 0) rfl).1, (h (i := 0) rfl).2, (h (i := 1) rfl).1, (h (i := 1) rfl).2, (h (i := 2) rfl).1, (h (i := 2) rfl).2, (h (i := 3) rfl).1, (h (i := 3) rfl).2⟩
end Go.Proofs.YtlfobdnjjbhehaaDoor
