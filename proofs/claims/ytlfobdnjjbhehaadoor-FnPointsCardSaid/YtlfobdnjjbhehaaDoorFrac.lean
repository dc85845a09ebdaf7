/-
  What each function on fractions of chapter 1 returns, the model's and the program's. Conditions: each theorem's own.
-/
import Derived.Test.YtlfobdnjjbhehaaDoorInt
namespace Go.Proofs.YtlfobdnjjbhehaaDoor
open Go.RowKit

theorem withinFrac_any (n : Int) (w : World) : Calls Tryd.prog 35 #[.int .i64 n] w fun e w' => e = .returned (.bool (inB n (-1000000000) 1000000000)) ∧ w = w' := by
  by_cases h : -1000000000 ≤ n
  all_goals
    go_enter Tryd.func35, Tryd.ntmps35
    go_wp2
    go_ret
    exact ⟨ret_bool (by unfold inB; first | rw [decide_eq_true h, Bool.true_and] | rw [decide_eq_false (show ¬ -1000000000 ≤ n by omega), Bool.false_and]), rfl⟩

end Go.Proofs.YtlfobdnjjbhehaaDoor
