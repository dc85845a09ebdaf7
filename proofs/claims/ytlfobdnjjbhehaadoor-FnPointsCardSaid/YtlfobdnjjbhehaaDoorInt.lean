/-
  What the model's function on intervals returns. Conditions: each theorem's own.
-/
import Derived.Test.YtlfobdnjjbhehaaDoorMath
namespace Go.Proofs.YtlfobdnjjbhehaaDoor
open Go.RowKit

theorem l00In_any (n lo hi : Int) (w : World) : Calls Tryd.prog 31 #[.int .i64 n, .int .i64 lo, .int .i64 hi] w fun e w' => e = .returned (.bool (inB n lo hi)) ∧ w = w' := by
  by_cases h : lo ≤ n
  all_goals
    go_enter Tryd.func31, Tryd.ntmps31
    go_wp2
    go_ret
    exact ⟨ret_bool (by unfold inB; first | rw [decide_eq_true h, Bool.true_and] | rw [decide_eq_false (show ¬ lo ≤ n by omega), Bool.false_and]), rfl⟩

def maxZ (a b : Int) : Int := if b < a then a else b
def minZ (a b : Int) : Int := if a < b then a else b
end Go.Proofs.YtlfobdnjjbhehaaDoor
