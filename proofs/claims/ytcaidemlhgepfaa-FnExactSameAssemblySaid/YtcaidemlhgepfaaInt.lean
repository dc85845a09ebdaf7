/-
  What the model's function on intervals returns. Conditions: each theorem's own.
-/
import Derived.Test.YtcaidemlhgepfaaMath
namespace Go.Proofs.Ytcaidemlhgepfaa
open Go.RowKit

theorem l00In_any (n lo hi : Int) (w : World) : Calls Try.prog 54 #[.int .i64 n, .int .i64 lo, .int .i64 hi] w fun e w' => e = .returned (.bool (inB n lo hi)) ∧ w = w' := by
  by_cases h : lo ≤ n
  all_goals
    go_enter Try.func54, Try.ntmps54
    go_wp2
    go_ret
    exact ⟨ret_bool (by unfold inB; first | rw [decide_eq_true h, Bool.true_and] | rw [decide_eq_false (show ¬ lo ≤ n by omega), Bool.false_and]), rfl⟩

end Go.Proofs.Ytcaidemlhgepfaa
