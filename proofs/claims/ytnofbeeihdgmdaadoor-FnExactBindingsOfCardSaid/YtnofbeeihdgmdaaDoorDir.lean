/-
  Directions: which numbers are one, and the opposite one; the model's and the program's. Conditions: each theorem's own.
-/
import Derived.Test.YtnofbeeihdgmdaaDoorInt
namespace Go.Proofs.YtnofbeeihdgmdaaDoor
open Go.RowKit

theorem l01Dir_any (n : Int) (w : World) : Calls Tryd.prog 118 #[.int .i64 n] w fun e w' => e = .returned (.bool (inB n 0 3)) ∧ w = w' := by
  go_enter Tryd.func118, Tryd.ntmps118
  go_wp2_with (go_at_call 70; refine (l00In_any _ _ _ _).mono ?_; rintro e w' ⟨rfl, rfl⟩)
  go_ret
  exact ⟨rfl, rfl⟩

theorem specOpp_any (n : Int) (w : World) : Calls Tryd.prog 103 #[.int .i64 n] w fun e w' => e = .returned (.int .i64 (oppZ n)) ∧ w = w' := by
  by_cases h : 0 ≤ n ∧ n ≤ 3
  · have hb : inB n 0 3 = true := inB_yes h.1 h.2
    have hz : oppZ n = (n + 2) % 4 := by unfold oppZ; omega
    have Hz := Lib.hid hz
    clear hz
    go_enter Tryd.func103, Tryd.ntmps103
    go_wp2_with (go_at_call 118; refine (l01Dir_any _ _).mono ?_; rintro e w' ⟨rfl, rfl⟩)
    go_ret
    exact ⟨ret_i64 (by rw [Hz.out]), rfl⟩
  · have hb : inB n 0 3 = false := inB_no h
    have hz : oppZ n = -1 := by unfold oppZ; omega
    have Hz := Lib.hid hz
    clear hz h
    go_enter Tryd.func103, Tryd.ntmps103
    go_wp2_with (go_at_call 118; refine (l01Dir_any _ _).mono ?_; rintro e w' ⟨rfl, rfl⟩)
    go_ret
    exact ⟨ret_i64 (by rw [Hz.out]), rfl⟩

theorem implOpp_any (n : Int) (w : World) : Calls Tryd.prog 94 #[.int .i64 n] w fun e w' => e = .returned (.int .i64 (oppZ n)) ∧ w = w' := by
  obtain h | rfl | rfl | rfl | rfl : (n < 0 ∨ 3 < n) ∨ n = 0 ∨ n = 1 ∨ n = 2 ∨ n = 3 := by omega
  · have h0 : (n == 0) = false := beq_eq_false_iff_ne.2 (by omega)
    have h1 : (n == 1) = false := beq_eq_false_iff_ne.2 (by omega)
    have h2 : (n == 2) = false := beq_eq_false_iff_ne.2 (by omega)
    have h3 : (n == 3) = false := beq_eq_false_iff_ne.2 (by omega)
    have hz : oppZ n = -1 := by unfold oppZ; omega
    have Hz := Lib.hid hz
    clear hz h
    go_enter Tryd.func94, Tryd.ntmps94
    go_wp2
    go_ret
    exact ⟨ret_i64 (by rw [Hz.out]), rfl⟩
  all_goals
    go_enter Tryd.func94, Tryd.ntmps94
    go_wp2
    go_ret
    exact ⟨rfl, rfl⟩

end Go.Proofs.YtnofbeeihdgmdaaDoor
