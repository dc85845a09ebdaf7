/-
  What each function on points of chapter 1 returns (validity, order), the model's and the program's; the laws' own helpers on points. Conditions: none.
-/
import Derived.Test.YtnofbeeihdgmdaaDoorInt
import Derived.Test.YtnofbeeihdgmdaaDoorMath
import Derived.Test.YtnofbeeihdgmdaaDoorTwo
namespace Go.Proofs.YtnofbeeihdgmdaaDoor
open Go.RowKit

theorem toPoint_any (n d : Int) (w : World) : Calls Tryd.prog 14 #[.agg #[.int .i64 n, .int .i64 d]] w fun e w' => e = .returned (.agg #[.int .i64 n, .int .i64 d]) ∧
    ((w.alloc (.cells #[.int .i64 n, .int .i64 d] 30)).alloc (.cells #[.int .i64 n, .int .i64 d] 44)).alloc (.cells #[.int .i64 n, .int .i64 d] 44) = w' := by
  go_enter Tryd.func14, Tryd.ntmps14
  go_wp2
  exact bodyPost_ret (v := .agg #[.int .i64 n, .int .i64 d]) (by simp [results, Tryd.results14, go_sem]) rfl ⟨rfl, rfl⟩

theorem l01Point_any (x y : Int) (w : World) : Calls Tryd.prog 41 #[.agg #[.int .i64 x, .int .i64 y]] w fun e w' => e = .returned (.bool (ptB x y)) ∧ Below w.heap.size w w' := by
  have K : Hid (ptB x y = (inB x (-60) 60 && inB y (-60) 60)) := Lib.hid rfl
  cases h1 : inB x (-60) 60
  all_goals
    go_enter Tryd.func41, Tryd.ntmps41
    go_wp2_with (go_at_call 70; refine (l00In_any _ _ _ _).mono ?_; rintro e w' ⟨rfl, rfl⟩)
    go_ret
    exact ⟨ret_bool (by rw [K.out, h1]; rfl), by (repeat (first | exact Below.refl _ _ | refine Below.setCell ?_ (by first | (simp; done) | (simp; omega) | omega) _ | refine belowN ?_ _ | refine Below.drew ?_ | refine Below.alloc ?_ (by first | (simp; done) | (simp; omega) | omega) _ | refine Below.trans ?_ (Below.mono (by assumption) (by first | (simp; done) | (simp; omega) | omega))))⟩

theorem withinCoord_any (n : Int) (w : World) : Calls Tryd.prog 79 #[.int .i64 n] w fun e w' => e = .returned (.bool (inB n (-60) 60)) ∧ w = w' := by
  by_cases h : -60 ≤ n
  all_goals
    go_enter Tryd.func79, Tryd.ntmps79
    go_wp2
    go_ret
    exact ⟨ret_bool (by unfold inB; first | rw [decide_eq_true h, Bool.true_and] | rw [decide_eq_false (show ¬ -60 ≤ n by omega), Bool.false_and]), rfl⟩

theorem implValidPoint_any (x y : Int) (w : World) : Calls Tryd.prog 48 #[.agg #[.int .i64 x, .int .i64 y]] w fun e w' => e = .returned (.bool (ptB x y)) ∧ Below w.heap.size w w' := by
  have K : Hid (ptB x y = (inB x (-60) 60 && inB y (-60) 60)) := Lib.hid rfl
  cases h1 : inB x (-60) 60
  all_goals
    go_enter Tryd.func48, Tryd.ntmps48
    go_wp2_with (go_at_call 79; refine (withinCoord_any _ _).mono ?_; rintro e w' ⟨rfl, rfl⟩)
    go_ret
    exact ⟨ret_bool (by rw [K.out, h1]; rfl), by (repeat (first | exact Below.refl _ _ | refine Below.setCell ?_ (by first | (simp; done) | (simp; omega) | omega) _ | refine belowN ?_ _ | refine Below.drew ?_ | refine Below.alloc ?_ (by first | (simp; done) | (simp; omega) | omega) _ | refine Below.trans ?_ (Below.mono (by assumption) (by first | (simp; done) | (simp; omega) | omega))))⟩


/-- One point lies before another one: by the second coordinate, then by the first. -/
def lessB (x y p q : Int) : Bool := decide (y < q) || (y == q && decide (x < p))
theorem specLess_any (x y p q : Int) (w : World) : Calls Tryd.prog 117 #[.agg #[.int .i64 x, .int .i64 y], .agg #[.int .i64 p, .int .i64 q]] w fun e w' => e = .returned (.bool (lessB x y p q)) ∧ Below w.heap.size w w' := by
  obtain h | h | h : y < q ∨ q < y ∨ y = q := by omega
  · have k1 : decide (y < q) = true := decide_eq_true h
    have K : Hid (lessB x y p q = true) := Lib.hid (by unfold lessB; rw [k1]; rfl)
    go_enter Tryd.func117, Tryd.ntmps117
    go_wp2
    go_ret
    exact ⟨ret_bool (by rw [K.out]), by (repeat (first | exact Below.refl _ _ | refine Below.setCell ?_ (by first | (simp; done) | (simp; omega) | omega) _ | refine belowN ?_ _ | refine Below.drew ?_ | refine Below.alloc ?_ (by first | (simp; done) | (simp; omega) | omega) _ | refine Below.trans ?_ (Below.mono (by assumption) (by first | (simp; done) | (simp; omega) | omega))))⟩
  · have k1 : decide (y < q) = false := decide_eq_false (by omega)
    have k2 : (y == q) = false := beq_eq_false_iff_ne.2 (by omega)
    have K : Hid (lessB x y p q = false) := Lib.hid (by unfold lessB; rw [k1, k2]; rfl)
    go_enter Tryd.func117, Tryd.ntmps117
    go_wp2
    go_ret
    exact ⟨ret_bool (by rw [K.out]), by (repeat (first | exact Below.refl _ _ | refine Below.setCell ?_ (by first | (simp; done) | (simp; omega) | omega) _ | refine belowN ?_ _ | refine Below.drew ?_ | refine Below.alloc ?_ (by first | (simp; done) | (simp; omega) | omega) _ | refine Below.trans ?_ (Below.mono (by assumption) (by first | (simp; done) | (simp; omega) | omega))))⟩
  · subst h
    have k1 : decide (y < y) = false := decide_eq_false (by omega)
    have K : Hid (lessB x y p y = decide (x < p)) := Lib.hid (by unfold lessB; rw [k1]; simp)
    go_enter Tryd.func117, Tryd.ntmps117
    go_wp2
    go_ret
    exact ⟨ret_bool (by rw [K.out]), by (repeat (first | exact Below.refl _ _ | refine Below.setCell ?_ (by first | (simp; done) | (simp; omega) | omega) _ | refine belowN ?_ _ | refine Below.drew ?_ | refine Below.alloc ?_ (by first | (simp; done) | (simp; omega) | omega) _ | refine Below.trans ?_ (Below.mono (by assumption) (by first | (simp; done) | (simp; omega) | omega))))⟩

theorem implLess_any (x y p q : Int) (w : World) : Calls Tryd.prog 123 #[.agg #[.int .i64 x, .int .i64 y], .agg #[.int .i64 p, .int .i64 q]] w fun e w' => e = .returned (.bool (lessB x y p q)) ∧ Below w.heap.size w w' := by
  obtain h | h | h : y < q ∨ q < y ∨ y = q := by omega
  · have k1 : decide (y < q) = true := decide_eq_true h
    have K : Hid (lessB x y p q = true) := Lib.hid (by unfold lessB; rw [k1]; rfl)
    go_enter Tryd.func123, Tryd.ntmps123
    go_wp2
    go_ret
    exact ⟨ret_bool (by rw [K.out]), by (repeat (first | exact Below.refl _ _ | refine Below.setCell ?_ (by first | (simp; done) | (simp; omega) | omega) _ | refine belowN ?_ _ | refine Below.drew ?_ | refine Below.alloc ?_ (by first | (simp; done) | (simp; omega) | omega) _ | refine Below.trans ?_ (Below.mono (by assumption) (by first | (simp; done) | (simp; omega) | omega))))⟩
  · have k1 : decide (y < q) = false := decide_eq_false (by omega)
    have k2 : (y == q) = false := beq_eq_false_iff_ne.2 (by omega)
    have K : Hid (lessB x y p q = false) := Lib.hid (by unfold lessB; rw [k1, k2]; rfl)
    go_enter Tryd.func123, Tryd.ntmps123
    go_wp2
    go_ret
    exact ⟨ret_bool (by rw [K.out]), by (repeat (first | exact Below.refl _ _ | refine Below.setCell ?_ (by first | (simp; done) | (simp; omega) | omega) _ | refine belowN ?_ _ | refine Below.drew ?_ | refine Below.alloc ?_ (by first | (simp; done) | (simp; omega) | omega) _ | refine Below.trans ?_ (Below.mono (by assumption) (by first | (simp; done) | (simp; omega) | omega))))⟩
  · subst h
    have k1 : decide (y < y) = false := decide_eq_false (by omega)
    have K : Hid (lessB x y p y = decide (x < p)) := Lib.hid (by unfold lessB; rw [k1]; simp)
    go_enter Tryd.func123, Tryd.ntmps123
    go_wp2
    go_ret
    exact ⟨ret_bool (by rw [K.out]), by (repeat (first | exact Below.refl _ _ | refine Below.setCell ?_ (by first | (simp; done) | (simp; omega) | omega) _ | refine belowN ?_ _ | refine Below.drew ?_ | refine Below.alloc ?_ (by first | (simp; done) | (simp; omega) | omega) _ | refine Below.trans ?_ (Below.mono (by assumption) (by first | (simp; done) | (simp; omega) | omega))))⟩

end Go.Proofs.YtnofbeeihdgmdaaDoor
