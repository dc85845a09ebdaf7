/-
  What each function on points of chapter 1 returns (validity, order), the model's and the program's; the laws' own helpers on points. Conditions: none.
-/
import Derived.Test.YtlfobdnjjbhehaaDoorInt
import Derived.Test.YtlfobdnjjbhehaaDoorMath
import Derived.Test.YtlfobdnjjbhehaaDoorTwo
namespace Go.Proofs.YtlfobdnjjbhehaaDoor
open Go.RowKit

theorem l01Point_any (x y : Int) (w : World) : Calls Tryd.prog 20 #[.agg #[.int .i64 x, .int .i64 y]] w fun e w' => e = .returned (.bool (ptB x y)) ∧ Below w.heap.size w w' := by
  have K : Hid (ptB x y = (inB x (-60) 60 && inB y (-60) 60)) := Lib.hid rfl
  cases h1 : inB x (-60) 60
  all_goals
    go_enter Tryd.func20, Tryd.ntmps20
    go_wp2_with (go_at_call 31; refine (l00In_any _ _ _ _).mono ?_; rintro e w' ⟨rfl, rfl⟩)
    go_ret
    exact ⟨ret_bool (by rw [K.out, h1]; rfl), by (repeat (first | exact Below.refl _ _ | refine Below.setCell ?_ (by first | (simp; done) | (simp; omega) | omega) _ | refine belowN ?_ _ | refine Below.drew ?_ | refine Below.alloc ?_ (by first | (simp; done) | (simp; omega) | omega) _ | refine Below.trans ?_ (Below.mono (by assumption) (by first | (simp; done) | (simp; omega) | omega))))⟩

theorem withinCoord_any (n : Int) (w : World) : Calls Tryd.prog 30 #[.int .i64 n] w fun e w' => e = .returned (.bool (inB n (-60) 60)) ∧ w = w' := by
  by_cases h : -60 ≤ n
  all_goals
    go_enter Tryd.func30, Tryd.ntmps30
    go_wp2
    go_ret
    exact ⟨ret_bool (by unfold inB; first | rw [decide_eq_true h, Bool.true_and] | rw [decide_eq_false (show ¬ -60 ≤ n by omega), Bool.false_and]), rfl⟩

theorem implValidPoint_any (x y : Int) (w : World) : Calls Tryd.prog 17 #[.agg #[.int .i64 x, .int .i64 y]] w fun e w' => e = .returned (.bool (ptB x y)) ∧ Below w.heap.size w w' := by
  have K : Hid (ptB x y = (inB x (-60) 60 && inB y (-60) 60)) := Lib.hid rfl
  cases h1 : inB x (-60) 60
  all_goals
    go_enter Tryd.func17, Tryd.ntmps17
    go_wp2_with (go_at_call 30; refine (withinCoord_any _ _).mono ?_; rintro e w' ⟨rfl, rfl⟩)
    go_ret
    exact ⟨ret_bool (by rw [K.out, h1]; rfl), by (repeat (first | exact Below.refl _ _ | refine Below.setCell ?_ (by first | (simp; done) | (simp; omega) | omega) _ | refine belowN ?_ _ | refine Below.drew ?_ | refine Below.alloc ?_ (by first | (simp; done) | (simp; omega) | omega) _ | refine Below.trans ?_ (Below.mono (by assumption) (by first | (simp; done) | (simp; omega) | omega))))⟩


/-- One point lies before another one: by the second coordinate, then by the first. -/
def lessB (x y p q : Int) : Bool := decide (y < q) || (y == q && decide (x < p))
theorem implLess_any (x y p q : Int) (w : World) : Calls Tryd.prog 13 #[.agg #[.int .i64 x, .int .i64 y], .agg #[.int .i64 p, .int .i64 q]] w fun e w' => e = .returned (.bool (lessB x y p q)) ∧ Below w.heap.size w w' := by
  obtain h | h | h : y < q ∨ q < y ∨ y = q := by omega
  · have k1 : decide (y < q) = true := decide_eq_true h
    have K : Hid (lessB x y p q = true) := Lib.hid (by unfold lessB; rw [k1]; rfl)
    go_enter Tryd.func13, Tryd.ntmps13
    go_wp2
    go_ret
    exact ⟨ret_bool (by rw [K.out]), by (repeat (first | exact Below.refl _ _ | refine Below.setCell ?_ (by first | (simp; done) | (simp; omega) | omega) _ | refine belowN ?_ _ | refine Below.drew ?_ | refine Below.alloc ?_ (by first | (simp; done) | (simp; omega) | omega) _ | refine Below.trans ?_ (Below.mono (by assumption) (by first | (simp; done) | (simp; omega) | omega))))⟩
  · have k1 : decide (y < q) = false := decide_eq_false (by omega)
    have k2 : (y == q) = false := beq_eq_false_iff_ne.2 (by omega)
    have K : Hid (lessB x y p q = false) := Lib.hid (by unfold lessB; rw [k1, k2]; rfl)
    go_enter Tryd.func13, Tryd.ntmps13
    go_wp2
    go_ret
    exact ⟨ret_bool (by rw [K.out]), by (repeat (first | exact Below.refl _ _ | refine Below.setCell ?_ (by first | (simp; done) | (simp; omega) | omega) _ | refine belowN ?_ _ | refine Below.drew ?_ | refine Below.alloc ?_ (by first | (simp; done) | (simp; omega) | omega) _ | refine Below.trans ?_ (Below.mono (by assumption) (by first | (simp; done) | (simp; omega) | omega))))⟩
  · subst h
    have k1 : decide (y < y) = false := decide_eq_false (by omega)
    have K : Hid (lessB x y p y = decide (x < p)) := Lib.hid (by unfold lessB; rw [k1]; simp)
    go_enter Tryd.func13, Tryd.ntmps13
    go_wp2
    go_ret
    exact ⟨ret_bool (by rw [K.out]), by (repeat (first | exact Below.refl _ _ | refine Below.setCell ?_ (by first | (simp; done) | (simp; omega) | omega) _ | refine belowN ?_ _ | refine Below.drew ?_ | refine Below.alloc ?_ (by first | (simp; done) | (simp; omega) | omega) _ | refine Below.trans ?_ (Below.mono (by assumption) (by first | (simp; done) | (simp; omega) | omega))))⟩

end Go.Proofs.YtlfobdnjjbhehaaDoor
