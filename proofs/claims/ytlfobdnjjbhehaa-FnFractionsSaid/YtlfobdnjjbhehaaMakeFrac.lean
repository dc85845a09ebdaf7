/-
  For every pair of numbers, MakeFrac of the program answers as the model's, every field; the law FnExactMakeFrac returns true and leaves its arguments as they were. Conditions: none.
-/
import Derived.Test.YtlfobdnjjbhehaaLaw
namespace Go.Proofs.Ytlfobdnjjbhehaa
open Go.RowKit

def makeB (n d : Int) : Bool := inB n (-1000000000) 1000000000 && inB d (-1000000000) 1000000000 && !(d == 0)
def make1 (n d : Int) : Int := if makeB n d = true then mk1 n d else 0
def make2 (n d : Int) : Int := if makeB n d = true then mk2 n d else 0
def make3 (n d : Int) : Int := if makeB n d = true then mk3 n d else 2

theorem specMake_no1 (n d : Int) (w : World) (h1 : inB n (-1000000000) 1000000000 = false) : Calls Try.prog 31 #[.int .i64 n, .int .i64 d] w fun e w' => e = .returned (.tuple #[.agg #[.int .i64 (make1 n d), .int .i64 (make2 n d)], .int .i64 (make3 n d)]) ∧ Below w.heap.size w w' := by
  have K : Hid (make1 n d = 0 ∧ make2 n d = 0 ∧ make3 n d = 2) := Lib.hid (by unfold make1 make2 make3 makeB; simp [h1])
  go_enter Try.func31, Try.ntmps31
  go_wp2_with (go_at_call 24; refine (l00In_any _ _ _ _).mono ?_; rintro e w' ⟨rfl, rfl⟩)
  refine bodyPost_ret (v := .tuple #[.agg #[.int .i64 0, .int .i64 0], .int .i64 2]) (by simp [results, Try.results31, go_sem]) rfl ⟨?_, ?_⟩
  · rw [K.out.1, K.out.2.1, K.out.2.2]
  · (repeat (first | exact Below.refl _ _ | refine Below.setCell ?_ (by first | (simp; done) | (simp; omega) | omega) _ | refine belowN ?_ _ | refine Below.drew ?_ | refine Below.alloc ?_ (by first | (simp; done) | (simp; omega) | omega) _ | refine Below.trans ?_ (Below.mono (by assumption) (by first | (simp; done) | (simp; omega) | omega))))

theorem specMake_no2 (n d : Int) (w : World) (h1 : inB n (-1000000000) 1000000000 = true) (h2 : inB d (-1000000000) 1000000000 = false) : Calls Try.prog 31 #[.int .i64 n, .int .i64 d] w fun e w' => e = .returned (.tuple #[.agg #[.int .i64 (make1 n d), .int .i64 (make2 n d)], .int .i64 (make3 n d)]) ∧ Below w.heap.size w w' := by
  have K : Hid (make1 n d = 0 ∧ make2 n d = 0 ∧ make3 n d = 2) := Lib.hid (by unfold make1 make2 make3 makeB; simp [h2])
  go_enter Try.func31, Try.ntmps31
  go_wp2_with (go_at_call 24; refine (l00In_any _ _ _ _).mono ?_; rintro e w' ⟨rfl, rfl⟩)
  refine bodyPost_ret (v := .tuple #[.agg #[.int .i64 0, .int .i64 0], .int .i64 2]) (by simp [results, Try.results31, go_sem]) rfl ⟨?_, ?_⟩
  · rw [K.out.1, K.out.2.1, K.out.2.2]
  · (repeat (first | exact Below.refl _ _ | refine Below.setCell ?_ (by first | (simp; done) | (simp; omega) | omega) _ | refine belowN ?_ _ | refine Below.drew ?_ | refine Below.alloc ?_ (by first | (simp; done) | (simp; omega) | omega) _ | refine Below.trans ?_ (Below.mono (by assumption) (by first | (simp; done) | (simp; omega) | omega))))

theorem specMake_no3 (n : Int) (w : World) (h1 : inB n (-1000000000) 1000000000 = true) : Calls Try.prog 31 #[.int .i64 n, .int .i64 0] w fun e w' => e = .returned (.tuple #[.agg #[.int .i64 (make1 n 0), .int .i64 (make2 n 0)], .int .i64 (make3 n 0)]) ∧ Below w.heap.size w w' := by
  have h2 : inB 0 (-1000000000) 1000000000 = true := inB_yes (by omega) (by omega)
  have K : Hid (make1 n 0 = 0 ∧ make2 n 0 = 0 ∧ make3 n 0 = 2) := Lib.hid (by unfold make1 make2 make3 makeB; simp)
  go_enter Try.func31, Try.ntmps31
  go_wp2_with (go_at_call 24; refine (l00In_any _ _ _ _).mono ?_; rintro e w' ⟨rfl, rfl⟩)
  refine bodyPost_ret (v := .tuple #[.agg #[.int .i64 0, .int .i64 0], .int .i64 2]) (by simp [results, Try.results31, go_sem]) rfl ⟨?_, ?_⟩
  · rw [K.out.1, K.out.2.1, K.out.2.2]
  · (repeat (first | exact Below.refl _ _ | refine Below.setCell ?_ (by first | (simp; done) | (simp; omega) | omega) _ | refine belowN ?_ _ | refine Below.drew ?_ | refine Below.alloc ?_ (by first | (simp; done) | (simp; omega) | omega) _ | refine Below.trans ?_ (Below.mono (by assumption) (by first | (simp; done) | (simp; omega) | omega))))

theorem specMake_yes (n d : Int) (w : World) (h1 : inB n (-1000000000) 1000000000 = true) (h2 : inB d (-1000000000) 1000000000 = true) (h3 : (d == 0) = false) : Calls Try.prog 31 #[.int .i64 n, .int .i64 d] w fun e w' => e = .returned (.tuple #[.agg #[.int .i64 (make1 n d), .int .i64 (make2 n d)], .int .i64 (make3 n d)]) ∧ Below w.heap.size w w' := by
  have K : Hid (make1 n d = mk1 n d ∧ make2 n d = mk2 n d ∧ make3 n d = mk3 n d) := Lib.hid (by unfold make1 make2 make3 makeB; simp [h1, h2, h3])
  obtain ⟨f1, f2⟩ := inB_iff.1 h1
  obtain ⟨f3, f4⟩ := inB_iff.1 h2
  have f5 : d ≠ 0 := by simpa using h3
  go_enter Try.func31, Try.ntmps31
  go_wp2_with (first | (go_at_call 24; refine (l00In_any _ _ _ _).mono ?_; rintro e w' ⟨rfl, rfl⟩) | (go_at_call 27; fail))
  refine (l01Make_any n d _ f5 (by omega) (by omega) (by omega) (by omega)).mono ?_
  rintro e w1 ⟨rfl, hb1⟩
  obtain ⟨c4, c5, z4, z5⟩ := Two.below (b := w.heap.size) (x := .int .i64 0) (y := .int .i64 0) ⟨by simp [go_sem], by simp [go_sem], by simp [go_sem], by simp [go_sem]⟩ hb1
  go_wp2
  refine bodyPost_ret (v := .tuple #[.agg #[.int .i64 (mk1 n d), .int .i64 (mk2 n d)], .int .i64 (mk3 n d)]) (by simp [results, Try.results31, go_sem, c4, c5]) rfl ⟨?_, ?_⟩
  · rw [K.out.1, K.out.2.1, K.out.2.2]
  · (repeat (first | exact Below.refl _ _ | refine Below.setCell ?_ (by first | (simp; done) | (simp; omega) | omega) _ | refine belowN ?_ _ | refine Below.drew ?_ | refine Below.alloc ?_ (by first | (simp; done) | (simp; omega) | omega) _ | refine Below.trans ?_ (Below.mono (by assumption) (by first | (simp; done) | (simp; omega) | omega))))

theorem specMake_any (n d : Int) (w : World) : Calls Try.prog 31 #[.int .i64 n, .int .i64 d] w fun e w' => e = .returned (.tuple #[.agg #[.int .i64 (make1 n d), .int .i64 (make2 n d)], .int .i64 (make3 n d)]) ∧ Below w.heap.size w w' := by
  cases h1 : inB n (-1000000000) 1000000000
  · exact specMake_no1 n d w h1
  · cases h2 : inB d (-1000000000) 1000000000
    · exact specMake_no2 n d w h1 h2
    · by_cases h3 : d = 0
      · subst h3; exact specMake_no3 n w h1
      · exact specMake_yes n d w h1 h2 (by simpa using h3)

namespace fnExactMakeFrac
open Go.ChangeShapes Go.WideShapes Go.ChangeAt Go.RowKit Go.Joins
open Go.ChangeMaps (open_string shut_string)
theorem own : ownKnob Try.prog.godebug = none := by kernel_rfl
end fnExactMakeFrac
end Go.Proofs.Ytlfobdnjjbhehaa
