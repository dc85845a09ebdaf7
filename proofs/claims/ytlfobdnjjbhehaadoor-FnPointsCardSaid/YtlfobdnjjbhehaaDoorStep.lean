/-
  One step in a direction, the model's and the program's, and StepPoint of both. Conditions: each theorem's own; the program's reads the listed table of steps.
-/
import Derived.Test.YtlfobdnjjbhehaaDoorCard
import Derived.Test.YtlfobdnjjbhehaaDoorPoint
namespace Go.Proofs.YtlfobdnjjbhehaaDoor
open Go.RowKit

theorem l01Dir_any (n : Int) (w : World) : Calls Tryd.prog 21 #[.int .i64 n] w fun e w' => e = .returned (.bool (inB n 0 3)) ∧ w = w' := by
  go_enter Tryd.func21, Tryd.ntmps21
  go_wp2_with (go_at_call 31; refine (l00In_any _ _ _ _).mono ?_; rintro e w' ⟨rfl, rfl⟩)
  go_ret
  exact ⟨rfl, rfl⟩

theorem isDirection_any (n : Int) (w : World) : Calls Tryd.prog 18 #[.int .i64 n] w fun e w' => e = .returned (.bool (inB n 0 3)) ∧ w = w' := by
  by_cases h : 0 ≤ n
  all_goals
    go_enter Tryd.func18, Tryd.ntmps18
    go_wp2
    go_ret
    exact ⟨ret_bool (by unfold inB; first | rw [decide_eq_true h, Bool.true_and] | rw [decide_eq_false (show ¬ 0 ≤ n by omega), Bool.false_and]), rfl⟩

def stepX (x d : Int) : Int := if d = 1 then x + 1 else if d = 3 then x - 1 else x
def stepY (y d : Int) : Int := if d = 0 then y + 1 else if d = 2 then y - 1 else y
def stepB (x y d : Int) : Bool := ptB x y && inB d 0 3 && ptB (stepX x d) (stepY y d)
def step1 (x y d : Int) : Int := if stepB x y d = true then stepX x d else 0
def step2 (x y d : Int) : Int := if stepB x y d = true then stepY y d else 0
def step3 (x y d : Int) : Int := if stepB x y d = true then 0 else 2

theorem ret_point {a b x y : Int} (h : a = x) (k : b = y) : Ending.returned (.agg #[.int .i64 a, .int .i64 b]) = .returned (.agg #[.int .i64 x, .int .i64 y]) := by rw [h, k]

theorem l01Step_any (x y d : Int) (w : World) (h0 : 0 ≤ d) (h3 : d ≤ 3) (hx : -60 ≤ x) (hx2 : x ≤ 60) (hy : -60 ≤ y) (hy2 : y ≤ 60) :
    Calls Tryd.prog 22 #[.agg #[.int .i64 x, .int .i64 y], .int .i64 d] w fun e w' => e = .returned (.agg #[.int .i64 (stepX x d), .int .i64 (stepY y d)]) ∧ Below w.heap.size w w' := by
  obtain rfl | rfl | rfl | rfl : d = 0 ∨ d = 1 ∨ d = 2 ∨ d = 3 := by omega
  · go_enter Tryd.func22, Tryd.ntmps22
    go_wp2
    refine bodyPost_ret (v := .agg #[.int .i64 x, .int .i64 (y + 1)]) (by simp [results, Tryd.results22, go_sem]) rfl ⟨rfl, ?_⟩
    (repeat (first | exact Below.refl _ _ | refine Below.setCell ?_ (by first | (simp; done) | (simp; omega) | omega) _ | refine belowN ?_ _ | refine Below.drew ?_ | refine Below.alloc ?_ (by first | (simp; done) | (simp; omega) | omega) _ | refine Below.trans ?_ (Below.mono (by assumption) (by first | (simp; done) | (simp; omega) | omega))))
  · go_enter Tryd.func22, Tryd.ntmps22
    go_wp2
    refine bodyPost_ret (v := .agg #[.int .i64 (x + 1), .int .i64 y]) (by simp [results, Tryd.results22, go_sem]) rfl ⟨rfl, ?_⟩
    (repeat (first | exact Below.refl _ _ | refine Below.setCell ?_ (by first | (simp; done) | (simp; omega) | omega) _ | refine belowN ?_ _ | refine Below.drew ?_ | refine Below.alloc ?_ (by first | (simp; done) | (simp; omega) | omega) _ | refine Below.trans ?_ (Below.mono (by assumption) (by first | (simp; done) | (simp; omega) | omega))))
  · go_enter Tryd.func22, Tryd.ntmps22
    go_wp2
    refine bodyPost_ret (v := .agg #[.int .i64 x, .int .i64 (y - 1)]) (by simp [results, Tryd.results22, go_sem]) rfl ⟨rfl, ?_⟩
    (repeat (first | exact Below.refl _ _ | refine Below.setCell ?_ (by first | (simp; done) | (simp; omega) | omega) _ | refine belowN ?_ _ | refine Below.drew ?_ | refine Below.alloc ?_ (by first | (simp; done) | (simp; omega) | omega) _ | refine Below.trans ?_ (Below.mono (by assumption) (by first | (simp; done) | (simp; omega) | omega))))
  · go_enter Tryd.func22, Tryd.ntmps22
    go_wp2
    refine bodyPost_ret (v := .agg #[.int .i64 (x - 1), .int .i64 y]) (by simp [results, Tryd.results22, go_sem]) rfl ⟨rfl, ?_⟩
    (repeat (first | exact Below.refl _ _ | refine Below.setCell ?_ (by first | (simp; done) | (simp; omega) | omega) _ | refine belowN ?_ _ | refine Below.drew ?_ | refine Below.alloc ?_ (by first | (simp; done) | (simp; omega) | omega) _ | refine Below.trans ?_ (Below.mono (by assumption) (by first | (simp; done) | (simp; omega) | omega))))

/-- The listed table of steps, cell for cell. -/
structure Steps (w : World) : Prop where
  a0 : w.cell? ⟨0, 0, none⟩ = some (.int .i64 0)
  b0 : w.cell? ⟨0, 1, none⟩ = some (.int .i64 1)
  a1 : w.cell? ⟨0, 2, none⟩ = some (.int .i64 1)
  b1 : w.cell? ⟨0, 3, none⟩ = some (.int .i64 0)
  a2 : w.cell? ⟨0, 4, none⟩ = some (.int .i64 0)
  b2 : w.cell? ⟨0, 5, none⟩ = some (.int .i64 (-1))
  a3 : w.cell? ⟨0, 6, none⟩ = some (.int .i64 (-1))
  b3 : w.cell? ⟨0, 7, none⟩ = some (.int .i64 0)
theorem Steps.lt {w : World} (h : Steps w) : 0 < w.heap.size := World.block_lt_of_cell? w ⟨0, 0, none⟩ h.a0
theorem Steps.below {W w : World} {B : Nat} (h : Steps W) (hb : Below B W w) (hB : 0 < B) : Steps w :=
  ⟨(hb.cell (p := ⟨_, _, none⟩) hB).trans h.a0, (hb.cell (p := ⟨_, _, none⟩) hB).trans h.b0, (hb.cell (p := ⟨_, _, none⟩) hB).trans h.a1, (hb.cell (p := ⟨_, _, none⟩) hB).trans h.b1,
    (hb.cell (p := ⟨_, _, none⟩) hB).trans h.a2, (hb.cell (p := ⟨_, _, none⟩) hB).trans h.b2, (hb.cell (p := ⟨_, _, none⟩) hB).trans h.a3, (hb.cell (p := ⟨_, _, none⟩) hB).trans h.b3⟩

theorem neighbor_any (x y d : Int) (w : World) (hS : Steps w) (h0 : 0 ≤ d) (h3 : d ≤ 3) (hx : -60 ≤ x) (hx2 : x ≤ 60) (hy : -60 ≤ y) (hy2 : y ≤ 60) :
    Calls Tryd.prog 19 #[.agg #[.int .i64 x, .int .i64 y], .int .i64 d] w fun e w' => e = .returned (.agg #[.int .i64 (stepX x d), .int .i64 (stepY y d)]) ∧ Below w.heap.size w w' := by
  have hlt := hS.lt
  obtain rfl | rfl | rfl | rfl : d = 0 ∨ d = 1 ∨ d = 2 ∨ d = 3 := by omega
  · have ca := hS.a0
    have cb := hS.b0
    clear hS
    go_enter Tryd.func19, Tryd.ntmps19
    go_wp2
    refine bodyPost_ret (v := .agg #[.int .i64 (x), .int .i64 (y + 1)]) (by simp [results, Tryd.results19, go_sem]; try omega) rfl ⟨rfl, ?_⟩
    (repeat (first | exact Below.refl _ _ | refine Below.setCell ?_ (by first | (simp; done) | (simp; omega) | omega) _ | refine belowN ?_ _ | refine Below.drew ?_ | refine Below.alloc ?_ (by first | (simp; done) | (simp; omega) | omega) _ | refine Below.trans ?_ (Below.mono (by assumption) (by first | (simp; done) | (simp; omega) | omega))))
  · have ca := hS.a1
    have cb := hS.b1
    clear hS
    go_enter Tryd.func19, Tryd.ntmps19
    go_wp2
    refine bodyPost_ret (v := .agg #[.int .i64 (x + 1), .int .i64 (y)]) (by simp [results, Tryd.results19, go_sem]; try omega) rfl ⟨rfl, ?_⟩
    (repeat (first | exact Below.refl _ _ | refine Below.setCell ?_ (by first | (simp; done) | (simp; omega) | omega) _ | refine belowN ?_ _ | refine Below.drew ?_ | refine Below.alloc ?_ (by first | (simp; done) | (simp; omega) | omega) _ | refine Below.trans ?_ (Below.mono (by assumption) (by first | (simp; done) | (simp; omega) | omega))))
  · have ca := hS.a2
    have cb := hS.b2
    clear hS
    go_enter Tryd.func19, Tryd.ntmps19
    go_wp2
    refine bodyPost_ret (v := .agg #[.int .i64 (x), .int .i64 (y - 1)]) (by simp [results, Tryd.results19, go_sem]; try omega) rfl ⟨rfl, ?_⟩
    (repeat (first | exact Below.refl _ _ | refine Below.setCell ?_ (by first | (simp; done) | (simp; omega) | omega) _ | refine belowN ?_ _ | refine Below.drew ?_ | refine Below.alloc ?_ (by first | (simp; done) | (simp; omega) | omega) _ | refine Below.trans ?_ (Below.mono (by assumption) (by first | (simp; done) | (simp; omega) | omega))))
  · have ca := hS.a3
    have cb := hS.b3
    clear hS
    go_enter Tryd.func19, Tryd.ntmps19
    go_wp2
    refine bodyPost_ret (v := .agg #[.int .i64 (x - 1), .int .i64 (y)]) (by simp [results, Tryd.results19, go_sem]; try omega) rfl ⟨rfl, ?_⟩
    (repeat (first | exact Below.refl _ _ | refine Below.setCell ?_ (by first | (simp; done) | (simp; omega) | omega) _ | refine belowN ?_ _ | refine Below.drew ?_ | refine Below.alloc ?_ (by first | (simp; done) | (simp; omega) | omega) _ | refine Below.trans ?_ (Below.mono (by assumption) (by first | (simp; done) | (simp; omega) | omega))))

theorem specStep_no1 (x y d : Int) (w : World) (h : ptB x y = false) : Calls Tryd.prog 7 #[.agg #[.int .i64 x, .int .i64 y], .int .i64 d] w fun e w' => e = .returned (.tuple #[.agg #[.int .i64 (step1 x y d), .int .i64 (step2 x y d)], .int .i64 (step3 x y d)]) ∧ Below w.heap.size w w' := by
  have K : Hid (step1 x y d = 0 ∧ step2 x y d = 0 ∧ step3 x y d = 2) := Lib.hid (by unfold step1 step2 step3 stepB; simp [h])
  go_enter Tryd.func7, Tryd.ntmps7
  go_wp2_with fail
  refine (l01Point_any x y _).mono ?_
  rintro e w1 ⟨rfl, hb1⟩
  obtain ⟨c0, c1, z0, z1⟩ := Two.below (b := w.heap.size) (x := .int .i64 x) (y := .int .i64 y) ⟨by simp [go_sem], by simp [go_sem], by simp [go_sem], by simp [go_sem]⟩ hb1
  obtain ⟨c4, c5, z4, z5⟩ := Two.below (b := w.heap.size + 1) (x := .int .i64 0) (y := .int .i64 0) ⟨by simp [go_sem], by simp [go_sem], by simp [go_sem], by simp [go_sem]⟩ hb1
  have s1 : w.heap.size + 2 ≤ w1.heap.size := by have := hb1.size; simp at this; omega
  go_wp2
  refine bodyPost_ret (v := .tuple #[.agg #[.int .i64 (0), .int .i64 (0)], .int .i64 (2)]) (by simp [results, Tryd.results7, go_sem, c4, c5]) rfl ⟨?_, ?_⟩
  · rw [K.out.1, K.out.2.1, K.out.2.2]
  · (repeat (first | exact Below.refl _ _ | refine Below.setCell ?_ (by first | (simp; done) | (simp; omega) | omega) _ | refine belowN ?_ _ | refine Below.drew ?_ | refine Below.alloc ?_ (by first | (simp; done) | (simp; omega) | omega) _ | refine Below.trans ?_ (Below.mono (by assumption) (by first | (simp; done) | (simp; omega) | omega))))

theorem specStep_no2 (x y d : Int) (w : World) (h : ptB x y = true) (h2 : inB d 0 3 = false) : Calls Tryd.prog 7 #[.agg #[.int .i64 x, .int .i64 y], .int .i64 d] w fun e w' => e = .returned (.tuple #[.agg #[.int .i64 (step1 x y d), .int .i64 (step2 x y d)], .int .i64 (step3 x y d)]) ∧ Below w.heap.size w w' := by
  have K : Hid (step1 x y d = 0 ∧ step2 x y d = 0 ∧ step3 x y d = 2) := Lib.hid (by unfold step1 step2 step3 stepB; simp [h2])
  go_enter Tryd.func7, Tryd.ntmps7
  go_wp2_with fail
  refine (l01Point_any x y _).mono ?_
  rintro e w1 ⟨rfl, hb1⟩
  obtain ⟨c0, c1, z0, z1⟩ := Two.below (b := w.heap.size) (x := .int .i64 x) (y := .int .i64 y) ⟨by simp [go_sem], by simp [go_sem], by simp [go_sem], by simp [go_sem]⟩ hb1
  obtain ⟨c4, c5, z4, z5⟩ := Two.below (b := w.heap.size + 1) (x := .int .i64 0) (y := .int .i64 0) ⟨by simp [go_sem], by simp [go_sem], by simp [go_sem], by simp [go_sem]⟩ hb1
  have s1 : w.heap.size + 2 ≤ w1.heap.size := by have := hb1.size; simp at this; omega
  go_wp2_with (first | (go_at_call 21; refine (l01Dir_any _ _).mono ?_; rintro e w' ⟨rfl, rfl⟩) | (go_at_call 22; fail))
  refine bodyPost_ret (v := .tuple #[.agg #[.int .i64 (0), .int .i64 (0)], .int .i64 (2)]) (by simp [results, Tryd.results7, go_sem, c4, c5]) rfl ⟨?_, ?_⟩
  · rw [K.out.1, K.out.2.1, K.out.2.2]
  · (repeat (first | exact Below.refl _ _ | refine Below.setCell ?_ (by first | (simp; done) | (simp; omega) | omega) _ | refine belowN ?_ _ | refine Below.drew ?_ | refine Below.alloc ?_ (by first | (simp; done) | (simp; omega) | omega) _ | refine Below.trans ?_ (Below.mono (by assumption) (by first | (simp; done) | (simp; omega) | omega))))

set_option maxHeartbeats 400000 in
theorem specStep_no3 (x y d : Int) (w : World) (h : ptB x y = true) (h2 : inB d 0 3 = true) (h4 : ptB (stepX x d) (stepY y d) = false) : Calls Tryd.prog 7 #[.agg #[.int .i64 x, .int .i64 y], .int .i64 d] w fun e w' => e = .returned (.tuple #[.agg #[.int .i64 (step1 x y d), .int .i64 (step2 x y d)], .int .i64 (step3 x y d)]) ∧ Below w.heap.size w w' := by
  have K : Hid (step1 x y d = 0 ∧ step2 x y d = 0 ∧ step3 x y d = 2) := Lib.hid (by unfold step1 step2 step3 stepB; simp [h4])
  obtain ⟨⟨p1, p2⟩, p3, p4⟩ := ptB_iff.1 h
  obtain ⟨d1, d2⟩ := inB_iff.1 h2
  go_enter Tryd.func7, Tryd.ntmps7
  go_wp2_with fail
  refine (l01Point_any x y _).mono ?_
  rintro e w1 ⟨rfl, hb1⟩
  obtain ⟨c0, c1, z0, z1⟩ := Two.below (b := w.heap.size) (x := .int .i64 x) (y := .int .i64 y) ⟨by simp [go_sem], by simp [go_sem], by simp [go_sem], by simp [go_sem]⟩ hb1
  obtain ⟨c4, c5, z4, z5⟩ := Two.below (b := w.heap.size + 1) (x := .int .i64 0) (y := .int .i64 0) ⟨by simp [go_sem], by simp [go_sem], by simp [go_sem], by simp [go_sem]⟩ hb1
  have s1 : w.heap.size + 2 ≤ w1.heap.size := by have := hb1.size; simp at this; omega
  go_wp2_with (first | (go_at_call 21; refine (l01Dir_any _ _).mono ?_; rintro e w' ⟨rfl, rfl⟩) | (go_at_call 22; fail))
  refine (l01Step_any x y d _ d1 d2 p1 p2 p3 p4).mono ?_
  rintro e w2 ⟨rfl, hb2⟩
  obtain ⟨d4, d5, y4, y5⟩ := Two.below (b := w.heap.size + 1) (x := .int .i64 0) (y := .int .i64 0) ⟨c4, c5, z4, z5⟩ hb2
  have s2 : w.heap.size + 2 ≤ w2.heap.size := by have := hb2.size; omega
  clear c0 c1 z0 z1 c4 c5 z4 z5
  have s2' : w.heap.size + 1 < w2.heap.size := by omega
  go_wp2_with fail
  refine (l01Point_any _ _ _).mono ?_
  rintro e w3 ⟨rfl, hb3⟩
  obtain ⟨e4, e5, x4, x5⟩ := Two.below (b := w.heap.size + 1) (x := .int .i64 0) (y := .int .i64 0) ⟨by simp [go_sem, d4, s2'], by simp [go_sem, d5, s2'], by simp [go_sem, y4, s2'], by simp [go_sem, y5, s2']⟩ hb3
  obtain ⟨f4, f5, u4, u5⟩ := Two.below (b := w2.heap.size) (x := .int .i64 (stepX x d)) (y := .int .i64 (stepY y d)) ⟨by simp [go_sem], by simp [go_sem], by simp [go_sem], by simp [go_sem]⟩ hb3
  have s3 : w2.heap.size + 1 ≤ w3.heap.size := by have := hb3.size; simp at this; omega
  clear d4 d5 y4 y5
  go_wp2
  refine bodyPost_ret (v := .tuple #[.agg #[.int .i64 (0), .int .i64 (0)], .int .i64 (2)]) (by simp [results, Tryd.results7, go_sem, e4, e5]) rfl ⟨?_, ?_⟩
  · rw [K.out.1, K.out.2.1, K.out.2.2]
  · (repeat (first | exact Below.refl _ _ | refine Below.setCell ?_ (by first | (simp; done) | (simp; omega) | omega) _ | refine belowN ?_ _ | refine Below.drew ?_ | refine Below.alloc ?_ (by first | (simp; done) | (simp; omega) | omega) _ | refine Below.trans ?_ (Below.mono (by assumption) (by first | (simp; done) | (simp; omega) | omega))))

set_option maxHeartbeats 400000 in
theorem specStep_yes (x y d : Int) (w : World) (h : ptB x y = true) (h2 : inB d 0 3 = true) (h4 : ptB (stepX x d) (stepY y d) = true) : Calls Tryd.prog 7 #[.agg #[.int .i64 x, .int .i64 y], .int .i64 d] w fun e w' => e = .returned (.tuple #[.agg #[.int .i64 (step1 x y d), .int .i64 (step2 x y d)], .int .i64 (step3 x y d)]) ∧ Below w.heap.size w w' := by
  have K : Hid (step1 x y d = stepX x d ∧ step2 x y d = stepY y d ∧ step3 x y d = 0) := Lib.hid (by unfold step1 step2 step3 stepB; simp [h, h2, h4])
  obtain ⟨⟨p1, p2⟩, p3, p4⟩ := ptB_iff.1 h
  obtain ⟨d1, d2⟩ := inB_iff.1 h2
  go_enter Tryd.func7, Tryd.ntmps7
  go_wp2_with fail
  refine (l01Point_any x y _).mono ?_
  rintro e w1 ⟨rfl, hb1⟩
  obtain ⟨c0, c1, z0, z1⟩ := Two.below (b := w.heap.size) (x := .int .i64 x) (y := .int .i64 y) ⟨by simp [go_sem], by simp [go_sem], by simp [go_sem], by simp [go_sem]⟩ hb1
  obtain ⟨c4, c5, z4, z5⟩ := Two.below (b := w.heap.size + 1) (x := .int .i64 0) (y := .int .i64 0) ⟨by simp [go_sem], by simp [go_sem], by simp [go_sem], by simp [go_sem]⟩ hb1
  have s1 : w.heap.size + 2 ≤ w1.heap.size := by have := hb1.size; simp at this; omega
  go_wp2_with (first | (go_at_call 21; refine (l01Dir_any _ _).mono ?_; rintro e w' ⟨rfl, rfl⟩) | (go_at_call 22; fail))
  refine (l01Step_any x y d _ d1 d2 p1 p2 p3 p4).mono ?_
  rintro e w2 ⟨rfl, hb2⟩
  obtain ⟨d4, d5, y4, y5⟩ := Two.below (b := w.heap.size + 1) (x := .int .i64 0) (y := .int .i64 0) ⟨c4, c5, z4, z5⟩ hb2
  have s2 : w.heap.size + 2 ≤ w2.heap.size := by have := hb2.size; omega
  clear c0 c1 z0 z1 c4 c5 z4 z5
  have s2' : w.heap.size + 1 < w2.heap.size := by omega
  go_wp2_with fail
  refine (l01Point_any _ _ _).mono ?_
  rintro e w3 ⟨rfl, hb3⟩
  obtain ⟨e4, e5, x4, x5⟩ := Two.below (b := w.heap.size + 1) (x := .int .i64 0) (y := .int .i64 0) ⟨by simp [go_sem, d4, s2'], by simp [go_sem, d5, s2'], by simp [go_sem, y4, s2'], by simp [go_sem, y5, s2']⟩ hb3
  obtain ⟨f4, f5, u4, u5⟩ := Two.below (b := w2.heap.size) (x := .int .i64 (stepX x d)) (y := .int .i64 (stepY y d)) ⟨by simp [go_sem], by simp [go_sem], by simp [go_sem], by simp [go_sem]⟩ hb3
  have s3 : w2.heap.size + 1 ≤ w3.heap.size := by have := hb3.size; simp at this; omega
  clear d4 d5 y4 y5
  go_wp2
  refine bodyPost_ret (v := .tuple #[.agg #[.int .i64 (stepX x d), .int .i64 (stepY y d)], .int .i64 (0)]) (by simp [results, Tryd.results7, go_sem, e4, e5]) rfl ⟨?_, ?_⟩
  · rw [K.out.1, K.out.2.1, K.out.2.2]
  · (repeat (first | exact Below.refl _ _ | refine Below.setCell ?_ (by first | (simp; done) | (simp; omega) | omega) _ | refine belowN ?_ _ | refine Below.drew ?_ | refine Below.alloc ?_ (by first | (simp; done) | (simp; omega) | omega) _ | refine Below.trans ?_ (Below.mono (by assumption) (by first | (simp; done) | (simp; omega) | omega))))

theorem specStep_any (x y d : Int) (w : World) : Calls Tryd.prog 7 #[.agg #[.int .i64 x, .int .i64 y], .int .i64 d] w fun e w' => e = .returned (.tuple #[.agg #[.int .i64 (step1 x y d), .int .i64 (step2 x y d)], .int .i64 (step3 x y d)]) ∧ Below w.heap.size w w' := by
  cases h : ptB x y
  · exact specStep_no1 x y d w h
  · cases h2 : inB d 0 3
    · exact specStep_no2 x y d w h h2
    · cases h4 : ptB (stepX x d) (stepY y d)
      · exact specStep_no3 x y d w h h2 h4
      · exact specStep_yes x y d w h h2 h4

theorem implStep_no1 (x y d : Int) (w : World) (h : ptB x y = false) : Calls Tryd.prog 6 #[.agg #[.int .i64 x, .int .i64 y], .int .i64 d] w fun e w' => e = .returned (.tuple #[.agg #[.int .i64 (step1 x y d), .int .i64 (step2 x y d)], .int .i64 (step3 x y d)]) ∧ Below w.heap.size w w' := by
  have K : Hid (step1 x y d = 0 ∧ step2 x y d = 0 ∧ step3 x y d = 2) := Lib.hid (by unfold step1 step2 step3 stepB; simp [h])
  go_enter Tryd.func6, Tryd.ntmps6
  go_wp2_with fail
  refine (implValidPoint_any x y _).mono ?_
  rintro e w1 ⟨rfl, hb1⟩
  obtain ⟨c0, c1, z0, z1⟩ := Two.below (b := w.heap.size) (x := .int .i64 x) (y := .int .i64 y) ⟨by simp [go_sem], by simp [go_sem], by simp [go_sem], by simp [go_sem]⟩ hb1
  obtain ⟨c4, c5, z4, z5⟩ := Two.below (b := w.heap.size + 1) (x := .int .i64 0) (y := .int .i64 0) ⟨by simp [go_sem], by simp [go_sem], by simp [go_sem], by simp [go_sem]⟩ hb1
  have s1 : w.heap.size + 2 ≤ w1.heap.size := by have := hb1.size; simp at this; omega
  go_wp2
  refine bodyPost_ret (v := .tuple #[.agg #[.int .i64 (0), .int .i64 (0)], .int .i64 (2)]) (by simp [results, Tryd.results6, go_sem, c4, c5]) rfl ⟨?_, ?_⟩
  · rw [K.out.1, K.out.2.1, K.out.2.2]
  · (repeat (first | exact Below.refl _ _ | refine Below.setCell ?_ (by first | (simp; done) | (simp; omega) | omega) _ | refine belowN ?_ _ | refine Below.drew ?_ | refine Below.alloc ?_ (by first | (simp; done) | (simp; omega) | omega) _ | refine Below.trans ?_ (Below.mono (by assumption) (by first | (simp; done) | (simp; omega) | omega))))

theorem implStep_no2 (x y d : Int) (w : World) (h : ptB x y = true) (h2 : inB d 0 3 = false) : Calls Tryd.prog 6 #[.agg #[.int .i64 x, .int .i64 y], .int .i64 d] w fun e w' => e = .returned (.tuple #[.agg #[.int .i64 (step1 x y d), .int .i64 (step2 x y d)], .int .i64 (step3 x y d)]) ∧ Below w.heap.size w w' := by
  have K : Hid (step1 x y d = 0 ∧ step2 x y d = 0 ∧ step3 x y d = 2) := Lib.hid (by unfold step1 step2 step3 stepB; simp [h2])
  go_enter Tryd.func6, Tryd.ntmps6
  go_wp2_with fail
  refine (implValidPoint_any x y _).mono ?_
  rintro e w1 ⟨rfl, hb1⟩
  obtain ⟨c0, c1, z0, z1⟩ := Two.below (b := w.heap.size) (x := .int .i64 x) (y := .int .i64 y) ⟨by simp [go_sem], by simp [go_sem], by simp [go_sem], by simp [go_sem]⟩ hb1
  obtain ⟨c4, c5, z4, z5⟩ := Two.below (b := w.heap.size + 1) (x := .int .i64 0) (y := .int .i64 0) ⟨by simp [go_sem], by simp [go_sem], by simp [go_sem], by simp [go_sem]⟩ hb1
  have s1 : w.heap.size + 2 ≤ w1.heap.size := by have := hb1.size; simp at this; omega
  go_wp2_with (first | (go_at_call 18; refine (isDirection_any _ _).mono ?_; rintro e w' ⟨rfl, rfl⟩) | (go_at_call 19; fail))
  refine bodyPost_ret (v := .tuple #[.agg #[.int .i64 (0), .int .i64 (0)], .int .i64 (2)]) (by simp [results, Tryd.results6, go_sem, c4, c5]) rfl ⟨?_, ?_⟩
  · rw [K.out.1, K.out.2.1, K.out.2.2]
  · (repeat (first | exact Below.refl _ _ | refine Below.setCell ?_ (by first | (simp; done) | (simp; omega) | omega) _ | refine belowN ?_ _ | refine Below.drew ?_ | refine Below.alloc ?_ (by first | (simp; done) | (simp; omega) | omega) _ | refine Below.trans ?_ (Below.mono (by assumption) (by first | (simp; done) | (simp; omega) | omega))))

set_option maxHeartbeats 400000 in
theorem implStep_no3 (x y d : Int) (w : World) (hS : Steps w) (h : ptB x y = true) (h2 : inB d 0 3 = true) (h4 : ptB (stepX x d) (stepY y d) = false) : Calls Tryd.prog 6 #[.agg #[.int .i64 x, .int .i64 y], .int .i64 d] w fun e w' => e = .returned (.tuple #[.agg #[.int .i64 (step1 x y d), .int .i64 (step2 x y d)], .int .i64 (step3 x y d)]) ∧ Below w.heap.size w w' := by
  have K : Hid (step1 x y d = 0 ∧ step2 x y d = 0 ∧ step3 x y d = 2) := Lib.hid (by unfold step1 step2 step3 stepB; simp [h4])
  obtain ⟨⟨p1, p2⟩, p3, p4⟩ := ptB_iff.1 h
  obtain ⟨d1, d2⟩ := inB_iff.1 h2
  go_enter Tryd.func6, Tryd.ntmps6
  go_wp2_with fail
  refine (implValidPoint_any x y _).mono ?_
  rintro e w1 ⟨rfl, hb1⟩
  obtain ⟨c0, c1, z0, z1⟩ := Two.below (b := w.heap.size) (x := .int .i64 x) (y := .int .i64 y) ⟨by simp [go_sem], by simp [go_sem], by simp [go_sem], by simp [go_sem]⟩ hb1
  obtain ⟨c4, c5, z4, z5⟩ := Two.below (b := w.heap.size + 1) (x := .int .i64 0) (y := .int .i64 0) ⟨by simp [go_sem], by simp [go_sem], by simp [go_sem], by simp [go_sem]⟩ hb1
  have s1 : w.heap.size + 2 ≤ w1.heap.size := by have := hb1.size; simp at this; omega
  have hS1 : Steps w1 := hS.below (B := w.heap.size) (by (repeat (first | exact Below.refl _ _ | refine Below.setCell ?_ (by first | (simp; done) | (simp; omega) | omega) _ | refine belowN ?_ _ | refine Below.drew ?_ | refine Below.alloc ?_ (by first | (simp; done) | (simp; omega) | omega) _ | refine Below.trans ?_ (Below.mono (by assumption) (by first | (simp; done) | (simp; omega) | omega))))) hS.lt
  go_wp2_with (first | (go_at_call 18; refine (isDirection_any _ _).mono ?_; rintro e w' ⟨rfl, rfl⟩) | (go_at_call 19; fail))
  refine (neighbor_any x y d _ hS1 d1 d2 p1 p2 p3 p4).mono ?_
  rintro e w2 ⟨rfl, hb2⟩
  obtain ⟨d4, d5, y4, y5⟩ := Two.below (b := w.heap.size + 1) (x := .int .i64 0) (y := .int .i64 0) ⟨c4, c5, z4, z5⟩ hb2
  have s2 : w.heap.size + 2 ≤ w2.heap.size := by have := hb2.size; omega
  clear c0 c1 z0 z1 c4 c5 z4 z5
  have s2' : w.heap.size + 1 < w2.heap.size := by omega
  go_wp2_with fail
  refine (implValidPoint_any _ _ _).mono ?_
  rintro e w3 ⟨rfl, hb3⟩
  obtain ⟨e4, e5, x4, x5⟩ := Two.below (b := w.heap.size + 1) (x := .int .i64 0) (y := .int .i64 0) ⟨by simp [go_sem, d4, s2'], by simp [go_sem, d5, s2'], by simp [go_sem, y4, s2'], by simp [go_sem, y5, s2']⟩ hb3
  obtain ⟨f4, f5, u4, u5⟩ := Two.below (b := w2.heap.size) (x := .int .i64 (stepX x d)) (y := .int .i64 (stepY y d)) ⟨by simp [go_sem], by simp [go_sem], by simp [go_sem], by simp [go_sem]⟩ hb3
  have s3 : w2.heap.size + 1 ≤ w3.heap.size := by have := hb3.size; simp at this; omega
  clear d4 d5 y4 y5
  go_wp2
  refine bodyPost_ret (v := .tuple #[.agg #[.int .i64 (0), .int .i64 (0)], .int .i64 (2)]) (by simp [results, Tryd.results6, go_sem, e4, e5]) rfl ⟨?_, ?_⟩
  · rw [K.out.1, K.out.2.1, K.out.2.2]
  · (repeat (first | exact Below.refl _ _ | refine Below.setCell ?_ (by first | (simp; done) | (simp; omega) | omega) _ | refine belowN ?_ _ | refine Below.drew ?_ | refine Below.alloc ?_ (by first | (simp; done) | (simp; omega) | omega) _ | refine Below.trans ?_ (Below.mono (by assumption) (by first | (simp; done) | (simp; omega) | omega))))

set_option maxHeartbeats 400000 in
theorem implStep_yes (x y d : Int) (w : World) (hS : Steps w) (h : ptB x y = true) (h2 : inB d 0 3 = true) (h4 : ptB (stepX x d) (stepY y d) = true) : Calls Tryd.prog 6 #[.agg #[.int .i64 x, .int .i64 y], .int .i64 d] w fun e w' => e = .returned (.tuple #[.agg #[.int .i64 (step1 x y d), .int .i64 (step2 x y d)], .int .i64 (step3 x y d)]) ∧ Below w.heap.size w w' := by
  have K : Hid (step1 x y d = stepX x d ∧ step2 x y d = stepY y d ∧ step3 x y d = 0) := Lib.hid (by unfold step1 step2 step3 stepB; simp [h, h2, h4])
  obtain ⟨⟨p1, p2⟩, p3, p4⟩ := ptB_iff.1 h
  obtain ⟨d1, d2⟩ := inB_iff.1 h2
  go_enter Tryd.func6, Tryd.ntmps6
  go_wp2_with fail
  refine (implValidPoint_any x y _).mono ?_
  rintro e w1 ⟨rfl, hb1⟩
  obtain ⟨c0, c1, z0, z1⟩ := Two.below (b := w.heap.size) (x := .int .i64 x) (y := .int .i64 y) ⟨by simp [go_sem], by simp [go_sem], by simp [go_sem], by simp [go_sem]⟩ hb1
  obtain ⟨c4, c5, z4, z5⟩ := Two.below (b := w.heap.size + 1) (x := .int .i64 0) (y := .int .i64 0) ⟨by simp [go_sem], by simp [go_sem], by simp [go_sem], by simp [go_sem]⟩ hb1
  have s1 : w.heap.size + 2 ≤ w1.heap.size := by have := hb1.size; simp at this; omega
  have hS1 : Steps w1 := hS.below (B := w.heap.size) (by (repeat (first | exact Below.refl _ _ | refine Below.setCell ?_ (by first | (simp; done) | (simp; omega) | omega) _ | refine belowN ?_ _ | refine Below.drew ?_ | refine Below.alloc ?_ (by first | (simp; done) | (simp; omega) | omega) _ | refine Below.trans ?_ (Below.mono (by assumption) (by first | (simp; done) | (simp; omega) | omega))))) hS.lt
  go_wp2_with (first | (go_at_call 18; refine (isDirection_any _ _).mono ?_; rintro e w' ⟨rfl, rfl⟩) | (go_at_call 19; fail))
  refine (neighbor_any x y d _ hS1 d1 d2 p1 p2 p3 p4).mono ?_
  rintro e w2 ⟨rfl, hb2⟩
  obtain ⟨d4, d5, y4, y5⟩ := Two.below (b := w.heap.size + 1) (x := .int .i64 0) (y := .int .i64 0) ⟨c4, c5, z4, z5⟩ hb2
  have s2 : w.heap.size + 2 ≤ w2.heap.size := by have := hb2.size; omega
  clear c0 c1 z0 z1 c4 c5 z4 z5
  have s2' : w.heap.size + 1 < w2.heap.size := by omega
  go_wp2_with fail
  refine (implValidPoint_any _ _ _).mono ?_
  rintro e w3 ⟨rfl, hb3⟩
  obtain ⟨e4, e5, x4, x5⟩ := Two.below (b := w.heap.size + 1) (x := .int .i64 0) (y := .int .i64 0) ⟨by simp [go_sem, d4, s2'], by simp [go_sem, d5, s2'], by simp [go_sem, y4, s2'], by simp [go_sem, y5, s2']⟩ hb3
  obtain ⟨f4, f5, u4, u5⟩ := Two.below (b := w2.heap.size) (x := .int .i64 (stepX x d)) (y := .int .i64 (stepY y d)) ⟨by simp [go_sem], by simp [go_sem], by simp [go_sem], by simp [go_sem]⟩ hb3
  have s3 : w2.heap.size + 1 ≤ w3.heap.size := by have := hb3.size; simp at this; omega
  clear d4 d5 y4 y5
  go_wp2
  refine bodyPost_ret (v := .tuple #[.agg #[.int .i64 (stepX x d), .int .i64 (stepY y d)], .int .i64 (0)]) (by simp [results, Tryd.results6, go_sem, e4, e5]) rfl ⟨?_, ?_⟩
  · rw [K.out.1, K.out.2.1, K.out.2.2]
  · (repeat (first | exact Below.refl _ _ | refine Below.setCell ?_ (by first | (simp; done) | (simp; omega) | omega) _ | refine belowN ?_ _ | refine Below.drew ?_ | refine Below.alloc ?_ (by first | (simp; done) | (simp; omega) | omega) _ | refine Below.trans ?_ (Below.mono (by assumption) (by first | (simp; done) | (simp; omega) | omega))))

theorem implStep_any (x y d : Int) (w : World) (hS : Steps w) : Calls Tryd.prog 6 #[.agg #[.int .i64 x, .int .i64 y], .int .i64 d] w fun e w' => e = .returned (.tuple #[.agg #[.int .i64 (step1 x y d), .int .i64 (step2 x y d)], .int .i64 (step3 x y d)]) ∧ Below w.heap.size w w' := by
  cases h : ptB x y
  · exact implStep_no1 x y d w h
  · cases h2 : inB d 0 3
    · exact implStep_no2 x y d w h h2
    · cases h4 : ptB (stepX x d) (stepY y d)
      · exact implStep_no3 x y d w hS h h2 h4
      · exact implStep_yes x y d w hS h h2 h4

end Go.Proofs.YtlfobdnjjbhehaaDoor
