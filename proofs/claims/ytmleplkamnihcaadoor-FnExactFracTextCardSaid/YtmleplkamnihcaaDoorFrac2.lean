/-
  Validity of fractions in the program, and fractions brought to lowest terms, the model's and the program's. Conditions: each theorem's own.
-/
import Derived.Test.YtmleplkamnihcaaDoorFrac
namespace Go.Proofs.YtmleplkamnihcaaDoor
open Go.RowKit

theorem fits_any (n d : Int) (w : World) : Calls Tryd.prog 64 #[.agg #[.int .i64 n, .int .i64 d]] w fun e w' => e = .returned (.bool (fitB n d)) ∧ Below w.heap.size w w' := by
  have k : fitB n d = (inB n (-1000000000) 1000000000 && (decide (1 ≤ d) && decide (d ≤ 1000000000))) := rfl
  have K := Lib.hid k
  clear k
  cases h1 : inB n (-1000000000) 1000000000
  · go_enter Tryd.func64, Tryd.ntmps64
    go_wp2_with (go_at_call 43; refine (withinFrac_any _ _).mono ?_; rintro e w' ⟨rfl, rfl⟩)
    go_ret
    exact ⟨ret_bool (by rw [K.out, h1]; rfl), (Below.refl _ _).alloc (Nat.le_refl _) _⟩
  · by_cases h2 : 1 ≤ d
    all_goals
      go_enter Tryd.func64, Tryd.ntmps64
      go_wp2_with (go_at_call 43; refine (withinFrac_any _ _).mono ?_; rintro e w' ⟨rfl, rfl⟩)
      go_ret
      exact ⟨ret_bool (by rw [K.out, h1]; (first | rw [decide_eq_true h2] | rw [decide_eq_false (show ¬ 1 ≤ d by omega)]); simp only [Bool.true_and, Bool.false_and]), (Below.refl _ _).alloc (Nat.le_refl _) _⟩

/-- 'ValidFrac' of the program. -/
theorem validFrac_any (n d : Int) (w : World) : Calls Tryd.prog 53 #[.agg #[.int .i64 n, .int .i64 d]] w fun e w' => e = .returned (.bool (fracB n d)) ∧ Below w.heap.size w w' := by
  have k : fracB n d = (fitB n d && decide (Int.gcd n d = 1)) := rfl
  cases h1 : fitB n d
  · have K := Lib.hid k
    clear k
    go_enter Tryd.func53, Tryd.ntmps53
    go_wp2_with ((go_at_call 64; refine (fits_any _ _ _).mono ?_; rintro e w1 ⟨rfl, hb⟩))
    go_ret
    exact ⟨ret_bool (by rw [K.out, h1]; rfl), ((Below.refl _ _).alloc (Nat.le_refl _) _).trans (hb.mono (by simp))⟩
  · have hx := fitB_iff.1 h1
    have hz : fracB n d = (gcdZ n d == 1) := by
      rw [k, h1, Bool.true_and, Bool.eq_iff_iff, decide_eq_true_iff, beq_iff_eq]; unfold gcdZ; omega
    have K := Lib.hid hz
    obtain ⟨⟨ha, hb⟩, hc, hd⟩ := hx
    clear k hz
    go_enter Tryd.func53, Tryd.ntmps53
    go_wp2_with (first
      | (go_at_call 64; refine (fits_any _ _ _).mono ?_; rintro e w1 ⟨rfl, hb⟩; have hc1 := bcell hb)
      | (go_at_call 65; refine (divisor_any _ _ _ (by omega) (by omega) (by omega) (by omega)).mono ?_; rintro e w2 ⟨rfl, n2, rfl⟩))
    go_ret
    exact ⟨ret_bool (by rw [K.out]), belowN (((Below.refl _ _).alloc (Nat.le_refl _) _).trans (hb.mono (by simp))) _⟩
end Go.Proofs.YtmleplkamnihcaaDoor
