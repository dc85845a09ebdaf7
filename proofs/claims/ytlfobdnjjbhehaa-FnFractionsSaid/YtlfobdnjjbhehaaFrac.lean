/-
  What each function on fractions of chapter 1 returns, the model's and the program's. Conditions: each theorem's own.
-/
import Derived.Test.YtlfobdnjjbhehaaInt
namespace Go.Proofs.Ytlfobdnjjbhehaa
open Go.RowKit

theorem l01Gcd_any (a b : Int) (w : World) (ha : 0 ≤ a) (hb : 0 ≤ b) (hb2 : b ≤ 9223372036854775807) : Calls Try.prog 25 #[.int .i64 a, .int .i64 b] w fun e w' => e = .returned (.int .i64 (gcdZ a b)) ∧ w = w' := by
  go_enter Try.func25, Try.ntmps25
  go_wp2
  go_loop [0, 1] (fun u v => ∃ x y : Int, u = .int .i64 x ∧ v = .int .i64 y ∧ 0 ≤ x ∧ 0 ≤ y ∧ y ≤ 9223372036854775807 ∧ Hid (gcdZ x y = gcdZ a b)) (fun _ v => (intOf v).toNat)
  case atStart => exact ⟨a, b, rfl, rfl, ha, hb, hb2, Lib.hid rfl⟩
  case round =>
    obtain ⟨x, y, rfl, rfl, hx, hy, hy2, hg⟩ := hrel
    by_cases h0 : 0 < y
    · have h1 := Int.emod_nonneg x (show y ≠ 0 by omega)
      have h2 := Int.emod_lt_of_pos x h0
      go_wp2
      go_round
      case rel => exact ⟨y, x % y, rfl, rfl, by omega, h1, by omega, Lib.hid (by rw [← hg.out]; unfold gcdZ; rw [gcd_step hx hy])⟩
      case measure => simp [intOf]; omega
    · obtain rfl : y = 0 := by omega
      go_wp2
      go_ret
      exact ⟨ret_i64 (by rw [← hg.out]; unfold gcdZ; rw [gcd_end hx]), rfl⟩

theorem l01Abs_any (n : Int) (w : World) (h : -9223372036854775807 ≤ n) (h2 : n ≤ 9223372036854775807) : Calls Try.prog 26 #[.int .i64 n] w fun e w' => e = .returned (.int .i64 (absZ n)) ∧ w = w' := by
  by_cases h0 : n < 0
  all_goals
    have hz : absZ n = if n < 0 then -n else n := rfl
    have Hz := Lib.hid hz
    clear hz
    go_enter Try.func26, Try.ntmps26
    go_wp2
    go_ret
    exact ⟨ret_i64 (by rw [Hz.out]; first | rw [if_pos (by assumption)] | rw [if_neg (by omega)]), rfl⟩

set_option maxHeartbeats 1000000 in
/-- A fraction's validity in the model: three ways, each with its guard decided ahead. -/
theorem l01Frac_any (n d : Int) (w : World) : Calls Try.prog 14 #[.agg #[.int .i64 n, .int .i64 d]] w fun e w' => e = .returned (.bool (fracB n d)) ∧ Below w.heap.size w w' := by
  by_cases h1 : -1000000000 ≤ n ∧ n ≤ 1000000000
  · by_cases h2 : 1 ≤ d ∧ d ≤ 1000000000
    · have k1 : inB n (-1000000000) 1000000000 = true := inB_yes h1.1 h1.2
      have k2 : inB d 1 1000000000 = true := inB_yes h2.1 h2.2
      have hz : fracB n d = (gcdZ (absZ n) d == 1) := by
        have e : gcdZ (absZ n) d = (Int.gcd n d : Nat) := by unfold gcdZ; rw [gcd_absZ]
        rw [e, Bool.eq_iff_iff, fracB_iff, beq_iff_eq]
        omega
      have Hz := Lib.hid hz
      have p1 := absZ_nonneg n
      obtain ⟨h1a, h1b⟩ := h1
      obtain ⟨h2a, h2b⟩ := h2
      clear hz
      go_enter Try.func14, Try.ntmps14
      go_wp2
      go_quiet (first
        | (go_at_call 24; exact quietL (l00In_any _ _ _ _))
        | (go_at_call 26; exact quietL (l01Abs_any _ _ (by omega) (by omega)))
        | (go_at_call 25; exact quietL (l01Gcd_any _ _ _ p1 (by omega) (by omega))))
      go_wp2
      go_ret
      exact ⟨ret_bool (by rw [Hz.out]), belowN ((Below.refl _ _).alloc (Nat.le_refl _) _) _⟩
    · have k1 : inB n (-1000000000) 1000000000 = true := inB_yes h1.1 h1.2
      have k2 : inB d 1 1000000000 = false := inB_no h2
      have hz : fracB n d = false := by rw [fracB_no]; omega
      clear h1 h2
      go_enter Try.func14, Try.ntmps14
      go_wp2
      go_quiet ((go_at_call 24; exact quietL (l00In_any _ _ _ _)))
      go_wp2
      go_ret
      exact ⟨ret_bool hz.symm, belowN ((Below.refl _ _).alloc (Nat.le_refl _) _) _⟩
  · have k1 : inB n (-1000000000) 1000000000 = false := inB_no h1
    have hz : fracB n d = false := by rw [fracB_no]; omega
    clear h1
    go_enter Try.func14, Try.ntmps14
    go_wp2
    go_quiet ((go_at_call 24; exact quietL (l00In_any _ _ _ _)))
    go_wp2
    go_ret
    exact ⟨ret_bool hz.symm, belowN ((Below.refl _ _).alloc (Nat.le_refl _) _) _⟩
theorem withinFrac_any (n : Int) (w : World) : Calls Try.prog 28 #[.int .i64 n] w fun e w' => e = .returned (.bool (inB n (-1000000000) 1000000000)) ∧ w = w' := by
  by_cases h : -1000000000 ≤ n
  all_goals
    go_enter Try.func28, Try.ntmps28
    go_wp2
    go_ret
    exact ⟨ret_bool (by unfold inB; first | rw [decide_eq_true h, Bool.true_and] | rw [decide_eq_false (show ¬ -1000000000 ≤ n by omega), Bool.false_and]), rfl⟩

theorem divisor_any (a b : Int) (w : World) (ha : -9223372036854775807 ≤ a) (ha2 : a ≤ 9223372036854775807) (hb : 0 ≤ b) (hb2 : b ≤ 9223372036854775807) :
    Calls Try.prog 20 #[.int .i64 a, .int .i64 b] w fun e w' => e = .returned (.int .i64 (gcdZ a b)) ∧ ∃ n, w' = w.drewN n := by
  have hab : Hid (gcdZ (absZ a) b = gcdZ a b) := Lib.hid (by unfold gcdZ; rw [gcd_absZ])
  have hz : absZ a = if a < 0 then -a else a := rfl
  have Hz := Lib.hid hz
  have p1 := absZ_nonneg a
  clear hz
  by_cases h0 : a < 0
  all_goals
    have hq : Hid (absZ a = if a < 0 then -a else a) := Hz
    go_enter Try.func20, Try.ntmps20
    go_wp2
    go_loopw [5, 6] (fun u v wr => ∃ (x y : Int) (n : Nat), u = .int .i64 x ∧ v = .int .i64 y ∧ 0 ≤ x ∧ 0 ≤ y ∧ y ≤ 9223372036854775807 ∧ wr = w.drewN n ∧ Hid (gcdZ x y = gcdZ a b)) (fun _ v _ => (intOf v).toNat)
    case atStart => exact ⟨absZ a, b, 0, by rw [Hz.out]; first | rw [if_pos h0] | rw [if_neg (by omega)], rfl, p1, hb, hb2, rfl, hab⟩
    case round =>
      obtain ⟨x, y, nn, rfl, rfl, hx, hy, hy2, hw, hg⟩ := hrel
      subst hw
      by_cases hy0 : y = 0
      · subst hy0
        go_wp2
        go_ret
        exact ⟨ret_i64 (by rw [← hg.out]; unfold gcdZ; rw [gcd_end hx]), _, rfl⟩
      · have h1 := Int.emod_nonneg x hy0
        have h2 := Int.emod_lt_of_pos x (show 0 < y by omega)
        have hyb : (y != 0) = true := by rw [bne_iff_ne]; exact hy0
        go_wp2
        go_quiet (fail)
        go_wp2
        go_roundw
        case rel => exact ⟨y, x % y, _, rfl, rfl, by omega, h1, by omega, by rw [World.drewN_drewN], Lib.hid (by rw [← hg.out]; unfold gcdZ; rw [gcd_step hx hy])⟩
        case measure => simp [intOf]; omega
end Go.Proofs.Ytlfobdnjjbhehaa
