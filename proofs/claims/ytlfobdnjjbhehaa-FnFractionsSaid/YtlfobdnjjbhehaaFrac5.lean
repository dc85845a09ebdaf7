/-
  Sums, products and quotients of two fractions, the model's functions and the program's. Conditions: none.
-/
import Derived.Test.YtlfobdnjjbhehaaFrac4
namespace Go.Proofs.Ytlfobdnjjbhehaa
open Go.RowKit

theorem ret_pair {a b x y : Int} (h : a = x) (k : b = y) : Ending.returned (.tuple #[.int .i64 a, .int .i64 b]) = .returned (.tuple #[.int .i64 x, .int .i64 y]) := by rw [h, k]

theorem specAddFrac_no1 (n d p q : Int) (w : World) (h : fracB n d = false) : Calls Try.prog 7 #[.agg #[.int .i64 n, .int .i64 d], .agg #[.int .i64 p, .int .i64 q]] w fun e w' => e = .returned (.tuple #[.agg #[.int .i64 (add1 n d p q), .int .i64 (add2 n d p q)], .int .i64 (add3 n d p q)]) ∧ Below w.heap.size w w' := by
  have K : Hid (add1 n d p q = 0 ∧ add2 n d p q = 0 ∧ add3 n d p q = 1) := Lib.hid (by unfold add1 add2 add3 bothB; simp [h])
  go_enter Try.func7, Try.ntmps7
  go_wp2_with fail
  refine (l01Frac_any n d _).mono ?_
  rintro e w1 ⟨rfl, hb1⟩
  obtain ⟨c0, c1, z0, z1⟩ := Two.below (b := w.heap.size) (x := .int .i64 n) (y := .int .i64 d) ⟨by simp [go_sem], by simp [go_sem], by simp [go_sem], by simp [go_sem]⟩ hb1
  obtain ⟨c2, c3, z2, z3⟩ := Two.below (b := w.heap.size + 1) (x := .int .i64 p) (y := .int .i64 q) ⟨by simp [go_sem], by simp [go_sem], by simp [go_sem], by simp [go_sem]⟩ hb1
  obtain ⟨c4, c5, z4, z5⟩ := Two.below (b := w.heap.size + 2) (x := .int .i64 0) (y := .int .i64 0) ⟨by simp [go_sem], by simp [go_sem], by simp [go_sem], by simp [go_sem]⟩ hb1
  have s1 : w.heap.size + 3 ≤ w1.heap.size := by have := hb1.size; simp at this; omega
  go_wp2
  refine bodyPost_ret (v := .tuple #[.agg #[.int .i64 (0), .int .i64 (0)], .int .i64 (1)]) (by simp [results, Try.results7, go_sem, c4, c5]) rfl ⟨?_, ?_⟩
  · rw [K.out.1, K.out.2.1, K.out.2.2]
  · (repeat (first | exact Below.refl _ _ | refine Below.setCell ?_ (by first | (simp; done) | (simp; omega) | omega) _ | refine belowN ?_ _ | refine Below.drew ?_ | refine Below.alloc ?_ (by first | (simp; done) | (simp; omega) | omega) _ | refine Below.trans ?_ (Below.mono (by assumption) (by first | (simp; done) | (simp; omega) | omega))))

theorem specAddFrac_no2 (n d p q : Int) (w : World) (h : fracB n d = true) (h2 : fracB p q = false) : Calls Try.prog 7 #[.agg #[.int .i64 n, .int .i64 d], .agg #[.int .i64 p, .int .i64 q]] w fun e w' => e = .returned (.tuple #[.agg #[.int .i64 (add1 n d p q), .int .i64 (add2 n d p q)], .int .i64 (add3 n d p q)]) ∧ Below w.heap.size w w' := by
  have K : Hid (add1 n d p q = 0 ∧ add2 n d p q = 0 ∧ add3 n d p q = 1) := Lib.hid (by unfold add1 add2 add3 bothB; simp [h2])
  go_enter Try.func7, Try.ntmps7
  go_wp2_with fail
  refine (l01Frac_any n d _).mono ?_
  rintro e w1 ⟨rfl, hb1⟩
  obtain ⟨c0, c1, z0, z1⟩ := Two.below (b := w.heap.size) (x := .int .i64 n) (y := .int .i64 d) ⟨by simp [go_sem], by simp [go_sem], by simp [go_sem], by simp [go_sem]⟩ hb1
  obtain ⟨c2, c3, z2, z3⟩ := Two.below (b := w.heap.size + 1) (x := .int .i64 p) (y := .int .i64 q) ⟨by simp [go_sem], by simp [go_sem], by simp [go_sem], by simp [go_sem]⟩ hb1
  obtain ⟨c4, c5, z4, z5⟩ := Two.below (b := w.heap.size + 2) (x := .int .i64 0) (y := .int .i64 0) ⟨by simp [go_sem], by simp [go_sem], by simp [go_sem], by simp [go_sem]⟩ hb1
  have s1 : w.heap.size + 3 ≤ w1.heap.size := by have := hb1.size; simp at this; omega
  go_wp2_with fail
  refine (l01Frac_any p q _).mono ?_
  rintro e w2 ⟨rfl, hb2⟩
  obtain ⟨d0, d1, y0, y1⟩ := Two.below (b := w.heap.size) (x := .int .i64 n) (y := .int .i64 d) ⟨c0, c1, z0, z1⟩ hb2
  obtain ⟨d2, d3, y2, y3⟩ := Two.below (b := w.heap.size + 1) (x := .int .i64 p) (y := .int .i64 q) ⟨c2, c3, z2, z3⟩ hb2
  obtain ⟨d4, d5, y4, y5⟩ := Two.below (b := w.heap.size + 2) (x := .int .i64 0) (y := .int .i64 0) ⟨c4, c5, z4, z5⟩ hb2
  clear c4 c5 z4 z5
  have s2 : w.heap.size + 3 ≤ w2.heap.size := by have := hb2.size; omega
  clear c0 c1 z0 z1 c2 c3 z2 z3
  go_wp2
  refine bodyPost_ret (v := .tuple #[.agg #[.int .i64 (0), .int .i64 (0)], .int .i64 (1)]) (by simp [results, Try.results7, go_sem, d4, d5]) rfl ⟨?_, ?_⟩
  · rw [K.out.1, K.out.2.1, K.out.2.2]
  · (repeat (first | exact Below.refl _ _ | refine Below.setCell ?_ (by first | (simp; done) | (simp; omega) | omega) _ | refine belowN ?_ _ | refine Below.drew ?_ | refine Below.alloc ?_ (by first | (simp; done) | (simp; omega) | omega) _ | refine Below.trans ?_ (Below.mono (by assumption) (by first | (simp; done) | (simp; omega) | omega))))

theorem specAddFrac_yes (n d p q : Int) (w : World) (h : fracB n d = true) (h2 : fracB p q = true) : Calls Try.prog 7 #[.agg #[.int .i64 n, .int .i64 d], .agg #[.int .i64 p, .int .i64 q]] w fun e w' => e = .returned (.tuple #[.agg #[.int .i64 (add1 n d p q), .int .i64 (add2 n d p q)], .int .i64 (add3 n d p q)]) ∧ Below w.heap.size w w' := by
  have K : Hid (add1 n d p q = mk1 (sumN n d p q) (d * q) ∧ add2 n d p q = mk2 (sumN n d p q) (d * q) ∧ add3 n d p q = mk3 (sumN n d p q) (d * q)) := Lib.hid (by unfold add1 add2 add3 bothB; simp [h, h2])
  obtain ⟨⟨⟨f1, f2⟩, f3, f4⟩, -⟩ := fracB_iff.1 h
  obtain ⟨⟨⟨g1, g2⟩, g3, g4⟩, -⟩ := fracB_iff.1 h2
  go_enter Try.func7, Try.ntmps7
  go_wp2_with fail
  refine (l01Frac_any n d _).mono ?_
  rintro e w1 ⟨rfl, hb1⟩
  obtain ⟨c0, c1, z0, z1⟩ := Two.below (b := w.heap.size) (x := .int .i64 n) (y := .int .i64 d) ⟨by simp [go_sem], by simp [go_sem], by simp [go_sem], by simp [go_sem]⟩ hb1
  obtain ⟨c2, c3, z2, z3⟩ := Two.below (b := w.heap.size + 1) (x := .int .i64 p) (y := .int .i64 q) ⟨by simp [go_sem], by simp [go_sem], by simp [go_sem], by simp [go_sem]⟩ hb1
  obtain ⟨c4, c5, z4, z5⟩ := Two.below (b := w.heap.size + 2) (x := .int .i64 0) (y := .int .i64 0) ⟨by simp [go_sem], by simp [go_sem], by simp [go_sem], by simp [go_sem]⟩ hb1
  have s1 : w.heap.size + 3 ≤ w1.heap.size := by have := hb1.size; simp at this; omega
  go_wp2_with fail
  refine (l01Frac_any p q _).mono ?_
  rintro e w2 ⟨rfl, hb2⟩
  obtain ⟨d0, d1, y0, y1⟩ := Two.below (b := w.heap.size) (x := .int .i64 n) (y := .int .i64 d) ⟨c0, c1, z0, z1⟩ hb2
  obtain ⟨d2, d3, y2, y3⟩ := Two.below (b := w.heap.size + 1) (x := .int .i64 p) (y := .int .i64 q) ⟨c2, c3, z2, z3⟩ hb2
  obtain ⟨d4, d5, y4, y5⟩ := Two.below (b := w.heap.size + 2) (x := .int .i64 0) (y := .int .i64 0) ⟨c4, c5, z4, z5⟩ hb2
  clear c4 c5 z4 z5
  have s2 : w.heap.size + 3 ≤ w2.heap.size := by have := hb2.size; omega
  clear c0 c1 z0 z1 c2 c3 z2 z3
  go_wp2_with fail
  refine (l01Sum_any n d p q _ f1 f2 f3 f4 g1 g2 g3 g4).mono ?_
  rintro e w3 ⟨rfl, hb3⟩
  obtain ⟨e4, e5, x4, x5⟩ := Two.below (b := w.heap.size + 2) (x := .int .i64 0) (y := .int .i64 0) ⟨d4, d5, y4, y5⟩ hb3
  have s3 : w.heap.size + 3 ≤ w3.heap.size := by have := hb3.size; omega
  clear d0 d1 y0 y1 d2 d3 y2 y3 d4 d5 y4 y5
  go_wp2
  refine bodyPost_ret (v := .tuple #[.agg #[.int .i64 (mk1 (sumN n d p q) (d * q)), .int .i64 (mk2 (sumN n d p q) (d * q))], .int .i64 (mk3 (sumN n d p q) (d * q))]) (by simp [results, Try.results7, go_sem, e4, e5]) rfl ⟨?_, ?_⟩
  · rw [K.out.1, K.out.2.1, K.out.2.2]
  · (repeat (first | exact Below.refl _ _ | refine Below.setCell ?_ (by first | (simp; done) | (simp; omega) | omega) _ | refine belowN ?_ _ | refine Below.drew ?_ | refine Below.alloc ?_ (by first | (simp; done) | (simp; omega) | omega) _ | refine Below.trans ?_ (Below.mono (by assumption) (by first | (simp; done) | (simp; omega) | omega))))

theorem specAddFrac_any (n d p q : Int) (w : World) : Calls Try.prog 7 #[.agg #[.int .i64 n, .int .i64 d], .agg #[.int .i64 p, .int .i64 q]] w fun e w' => e = .returned (.tuple #[.agg #[.int .i64 (add1 n d p q), .int .i64 (add2 n d p q)], .int .i64 (add3 n d p q)]) ∧ Below w.heap.size w w' := by
  cases h : fracB n d
  · exact specAddFrac_no1 n d p q w h
  · cases h2 : fracB p q
    · exact specAddFrac_no2 n d p q w h h2
    · exact specAddFrac_yes n d p q w h h2

theorem implAddFrac_no1 (n d p q : Int) (w : World) (h : fracB n d = false) : Calls Try.prog 6 #[.agg #[.int .i64 n, .int .i64 d], .agg #[.int .i64 p, .int .i64 q]] w fun e w' => e = .returned (.tuple #[.agg #[.int .i64 (add1 n d p q), .int .i64 (add2 n d p q)], .int .i64 (add3 n d p q)]) ∧ Below w.heap.size w w' := by
  have K : Hid (add1 n d p q = 0 ∧ add2 n d p q = 0 ∧ add3 n d p q = 1) := Lib.hid (by unfold add1 add2 add3 bothB; simp [h])
  go_enter Try.func6, Try.ntmps6
  go_wp2_with fail
  refine (validFrac_any n d _).mono ?_
  rintro e w1 ⟨rfl, hb1⟩
  obtain ⟨c0, c1, z0, z1⟩ := Two.below (b := w.heap.size) (x := .int .i64 n) (y := .int .i64 d) ⟨by simp [go_sem], by simp [go_sem], by simp [go_sem], by simp [go_sem]⟩ hb1
  obtain ⟨c2, c3, z2, z3⟩ := Two.below (b := w.heap.size + 1) (x := .int .i64 p) (y := .int .i64 q) ⟨by simp [go_sem], by simp [go_sem], by simp [go_sem], by simp [go_sem]⟩ hb1
  obtain ⟨c4, c5, z4, z5⟩ := Two.below (b := w.heap.size + 2) (x := .int .i64 0) (y := .int .i64 0) ⟨by simp [go_sem], by simp [go_sem], by simp [go_sem], by simp [go_sem]⟩ hb1
  have s1 : w.heap.size + 3 ≤ w1.heap.size := by have := hb1.size; simp at this; omega
  go_wp2
  refine bodyPost_ret (v := .tuple #[.agg #[.int .i64 (0), .int .i64 (0)], .int .i64 (1)]) (by simp [results, Try.results6, go_sem, c4, c5]) rfl ⟨?_, ?_⟩
  · rw [K.out.1, K.out.2.1, K.out.2.2]
  · (repeat (first | exact Below.refl _ _ | refine Below.setCell ?_ (by first | (simp; done) | (simp; omega) | omega) _ | refine belowN ?_ _ | refine Below.drew ?_ | refine Below.alloc ?_ (by first | (simp; done) | (simp; omega) | omega) _ | refine Below.trans ?_ (Below.mono (by assumption) (by first | (simp; done) | (simp; omega) | omega))))

theorem implAddFrac_no2 (n d p q : Int) (w : World) (h : fracB n d = true) (h2 : fracB p q = false) : Calls Try.prog 6 #[.agg #[.int .i64 n, .int .i64 d], .agg #[.int .i64 p, .int .i64 q]] w fun e w' => e = .returned (.tuple #[.agg #[.int .i64 (add1 n d p q), .int .i64 (add2 n d p q)], .int .i64 (add3 n d p q)]) ∧ Below w.heap.size w w' := by
  have K : Hid (add1 n d p q = 0 ∧ add2 n d p q = 0 ∧ add3 n d p q = 1) := Lib.hid (by unfold add1 add2 add3 bothB; simp [h2])
  go_enter Try.func6, Try.ntmps6
  go_wp2_with fail
  refine (validFrac_any n d _).mono ?_
  rintro e w1 ⟨rfl, hb1⟩
  obtain ⟨c0, c1, z0, z1⟩ := Two.below (b := w.heap.size) (x := .int .i64 n) (y := .int .i64 d) ⟨by simp [go_sem], by simp [go_sem], by simp [go_sem], by simp [go_sem]⟩ hb1
  obtain ⟨c2, c3, z2, z3⟩ := Two.below (b := w.heap.size + 1) (x := .int .i64 p) (y := .int .i64 q) ⟨by simp [go_sem], by simp [go_sem], by simp [go_sem], by simp [go_sem]⟩ hb1
  obtain ⟨c4, c5, z4, z5⟩ := Two.below (b := w.heap.size + 2) (x := .int .i64 0) (y := .int .i64 0) ⟨by simp [go_sem], by simp [go_sem], by simp [go_sem], by simp [go_sem]⟩ hb1
  have s1 : w.heap.size + 3 ≤ w1.heap.size := by have := hb1.size; simp at this; omega
  go_wp2_with fail
  refine (validFrac_any p q _).mono ?_
  rintro e w2 ⟨rfl, hb2⟩
  obtain ⟨d0, d1, y0, y1⟩ := Two.below (b := w.heap.size) (x := .int .i64 n) (y := .int .i64 d) ⟨c0, c1, z0, z1⟩ hb2
  obtain ⟨d2, d3, y2, y3⟩ := Two.below (b := w.heap.size + 1) (x := .int .i64 p) (y := .int .i64 q) ⟨c2, c3, z2, z3⟩ hb2
  obtain ⟨d4, d5, y4, y5⟩ := Two.below (b := w.heap.size + 2) (x := .int .i64 0) (y := .int .i64 0) ⟨c4, c5, z4, z5⟩ hb2
  clear c4 c5 z4 z5
  have s2 : w.heap.size + 3 ≤ w2.heap.size := by have := hb2.size; omega
  clear c0 c1 z0 z1 c2 c3 z2 z3
  go_wp2
  refine bodyPost_ret (v := .tuple #[.agg #[.int .i64 (0), .int .i64 (0)], .int .i64 (1)]) (by simp [results, Try.results6, go_sem, d4, d5]) rfl ⟨?_, ?_⟩
  · rw [K.out.1, K.out.2.1, K.out.2.2]
  · (repeat (first | exact Below.refl _ _ | refine Below.setCell ?_ (by first | (simp; done) | (simp; omega) | omega) _ | refine belowN ?_ _ | refine Below.drew ?_ | refine Below.alloc ?_ (by first | (simp; done) | (simp; omega) | omega) _ | refine Below.trans ?_ (Below.mono (by assumption) (by first | (simp; done) | (simp; omega) | omega))))

theorem implAddFrac_yes (n d p q : Int) (w : World) (h : fracB n d = true) (h2 : fracB p q = true) : Calls Try.prog 6 #[.agg #[.int .i64 n, .int .i64 d], .agg #[.int .i64 p, .int .i64 q]] w fun e w' => e = .returned (.tuple #[.agg #[.int .i64 (add1 n d p q), .int .i64 (add2 n d p q)], .int .i64 (add3 n d p q)]) ∧ Below w.heap.size w w' := by
  have K : Hid (add1 n d p q = mk1 (sumN n d p q) (d * q) ∧ add2 n d p q = mk2 (sumN n d p q) (d * q) ∧ add3 n d p q = mk3 (sumN n d p q) (d * q)) := Lib.hid (by unfold add1 add2 add3 bothB; simp [h, h2])
  obtain ⟨⟨⟨f1, f2⟩, f3, f4⟩, -⟩ := fracB_iff.1 h
  obtain ⟨⟨⟨g1, g2⟩, g3, g4⟩, -⟩ := fracB_iff.1 h2
  go_enter Try.func6, Try.ntmps6
  go_wp2_with fail
  refine (validFrac_any n d _).mono ?_
  rintro e w1 ⟨rfl, hb1⟩
  obtain ⟨c0, c1, z0, z1⟩ := Two.below (b := w.heap.size) (x := .int .i64 n) (y := .int .i64 d) ⟨by simp [go_sem], by simp [go_sem], by simp [go_sem], by simp [go_sem]⟩ hb1
  obtain ⟨c2, c3, z2, z3⟩ := Two.below (b := w.heap.size + 1) (x := .int .i64 p) (y := .int .i64 q) ⟨by simp [go_sem], by simp [go_sem], by simp [go_sem], by simp [go_sem]⟩ hb1
  obtain ⟨c4, c5, z4, z5⟩ := Two.below (b := w.heap.size + 2) (x := .int .i64 0) (y := .int .i64 0) ⟨by simp [go_sem], by simp [go_sem], by simp [go_sem], by simp [go_sem]⟩ hb1
  have s1 : w.heap.size + 3 ≤ w1.heap.size := by have := hb1.size; simp at this; omega
  go_wp2_with fail
  refine (validFrac_any p q _).mono ?_
  rintro e w2 ⟨rfl, hb2⟩
  obtain ⟨d0, d1, y0, y1⟩ := Two.below (b := w.heap.size) (x := .int .i64 n) (y := .int .i64 d) ⟨c0, c1, z0, z1⟩ hb2
  obtain ⟨d2, d3, y2, y3⟩ := Two.below (b := w.heap.size + 1) (x := .int .i64 p) (y := .int .i64 q) ⟨c2, c3, z2, z3⟩ hb2
  obtain ⟨d4, d5, y4, y5⟩ := Two.below (b := w.heap.size + 2) (x := .int .i64 0) (y := .int .i64 0) ⟨c4, c5, z4, z5⟩ hb2
  clear c4 c5 z4 z5
  have s2 : w.heap.size + 3 ≤ w2.heap.size := by have := hb2.size; omega
  clear c0 c1 z0 z1 c2 c3 z2 z3
  go_wp2_with fail
  refine (plus_any n d p q _ f1 f2 f3 f4 g1 g2 g3 g4).mono ?_
  rintro e w3 ⟨rfl, hb3⟩
  obtain ⟨e4, e5, x4, x5⟩ := Two.below (b := w.heap.size + 2) (x := .int .i64 0) (y := .int .i64 0) ⟨d4, d5, y4, y5⟩ hb3
  have s3 : w.heap.size + 3 ≤ w3.heap.size := by have := hb3.size; omega
  clear d0 d1 y0 y1 d2 d3 y2 y3 d4 d5 y4 y5
  go_wp2
  refine bodyPost_ret (v := .tuple #[.agg #[.int .i64 (mk1 (sumN n d p q) (d * q)), .int .i64 (mk2 (sumN n d p q) (d * q))], .int .i64 (mk3 (sumN n d p q) (d * q))]) (by simp [results, Try.results6, go_sem, e4, e5]) rfl ⟨?_, ?_⟩
  · rw [K.out.1, K.out.2.1, K.out.2.2]
  · (repeat (first | exact Below.refl _ _ | refine Below.setCell ?_ (by first | (simp; done) | (simp; omega) | omega) _ | refine belowN ?_ _ | refine Below.drew ?_ | refine Below.alloc ?_ (by first | (simp; done) | (simp; omega) | omega) _ | refine Below.trans ?_ (Below.mono (by assumption) (by first | (simp; done) | (simp; omega) | omega))))

theorem implAddFrac_any (n d p q : Int) (w : World) : Calls Try.prog 6 #[.agg #[.int .i64 n, .int .i64 d], .agg #[.int .i64 p, .int .i64 q]] w fun e w' => e = .returned (.tuple #[.agg #[.int .i64 (add1 n d p q), .int .i64 (add2 n d p q)], .int .i64 (add3 n d p q)]) ∧ Below w.heap.size w w' := by
  cases h : fracB n d
  · exact implAddFrac_no1 n d p q w h
  · cases h2 : fracB p q
    · exact implAddFrac_no2 n d p q w h h2
    · exact implAddFrac_yes n d p q w h h2

theorem implMulFrac_no1 (n d p q : Int) (w : World) (h : fracB n d = false) : Calls Try.prog 9 #[.agg #[.int .i64 n, .int .i64 d], .agg #[.int .i64 p, .int .i64 q]] w fun e w' => e = .returned (.tuple #[.agg #[.int .i64 (mul1 n d p q), .int .i64 (mul2 n d p q)], .int .i64 (mul3 n d p q)]) ∧ Below w.heap.size w w' := by
  have K : Hid (mul1 n d p q = 0 ∧ mul2 n d p q = 0 ∧ mul3 n d p q = 1) := Lib.hid (by unfold mul1 mul2 mul3 bothB; simp [h])
  go_enter Try.func9, Try.ntmps9
  go_wp2_with fail
  refine (validFrac_any n d _).mono ?_
  rintro e w1 ⟨rfl, hb1⟩
  obtain ⟨c0, c1, z0, z1⟩ := Two.below (b := w.heap.size) (x := .int .i64 n) (y := .int .i64 d) ⟨by simp [go_sem], by simp [go_sem], by simp [go_sem], by simp [go_sem]⟩ hb1
  obtain ⟨c2, c3, z2, z3⟩ := Two.below (b := w.heap.size + 1) (x := .int .i64 p) (y := .int .i64 q) ⟨by simp [go_sem], by simp [go_sem], by simp [go_sem], by simp [go_sem]⟩ hb1
  obtain ⟨c4, c5, z4, z5⟩ := Two.below (b := w.heap.size + 2) (x := .int .i64 0) (y := .int .i64 0) ⟨by simp [go_sem], by simp [go_sem], by simp [go_sem], by simp [go_sem]⟩ hb1
  have s1 : w.heap.size + 3 ≤ w1.heap.size := by have := hb1.size; simp at this; omega
  go_wp2
  refine bodyPost_ret (v := .tuple #[.agg #[.int .i64 (0), .int .i64 (0)], .int .i64 (1)]) (by simp [results, Try.results9, go_sem, c4, c5]) rfl ⟨?_, ?_⟩
  · rw [K.out.1, K.out.2.1, K.out.2.2]
  · (repeat (first | exact Below.refl _ _ | refine Below.setCell ?_ (by first | (simp; done) | (simp; omega) | omega) _ | refine belowN ?_ _ | refine Below.drew ?_ | refine Below.alloc ?_ (by first | (simp; done) | (simp; omega) | omega) _ | refine Below.trans ?_ (Below.mono (by assumption) (by first | (simp; done) | (simp; omega) | omega))))

theorem implMulFrac_no2 (n d p q : Int) (w : World) (h : fracB n d = true) (h2 : fracB p q = false) : Calls Try.prog 9 #[.agg #[.int .i64 n, .int .i64 d], .agg #[.int .i64 p, .int .i64 q]] w fun e w' => e = .returned (.tuple #[.agg #[.int .i64 (mul1 n d p q), .int .i64 (mul2 n d p q)], .int .i64 (mul3 n d p q)]) ∧ Below w.heap.size w w' := by
  have K : Hid (mul1 n d p q = 0 ∧ mul2 n d p q = 0 ∧ mul3 n d p q = 1) := Lib.hid (by unfold mul1 mul2 mul3 bothB; simp [h2])
  go_enter Try.func9, Try.ntmps9
  go_wp2_with fail
  refine (validFrac_any n d _).mono ?_
  rintro e w1 ⟨rfl, hb1⟩
  obtain ⟨c0, c1, z0, z1⟩ := Two.below (b := w.heap.size) (x := .int .i64 n) (y := .int .i64 d) ⟨by simp [go_sem], by simp [go_sem], by simp [go_sem], by simp [go_sem]⟩ hb1
  obtain ⟨c2, c3, z2, z3⟩ := Two.below (b := w.heap.size + 1) (x := .int .i64 p) (y := .int .i64 q) ⟨by simp [go_sem], by simp [go_sem], by simp [go_sem], by simp [go_sem]⟩ hb1
  obtain ⟨c4, c5, z4, z5⟩ := Two.below (b := w.heap.size + 2) (x := .int .i64 0) (y := .int .i64 0) ⟨by simp [go_sem], by simp [go_sem], by simp [go_sem], by simp [go_sem]⟩ hb1
  have s1 : w.heap.size + 3 ≤ w1.heap.size := by have := hb1.size; simp at this; omega
  go_wp2_with fail
  refine (validFrac_any p q _).mono ?_
  rintro e w2 ⟨rfl, hb2⟩
  obtain ⟨d0, d1, y0, y1⟩ := Two.below (b := w.heap.size) (x := .int .i64 n) (y := .int .i64 d) ⟨c0, c1, z0, z1⟩ hb2
  obtain ⟨d2, d3, y2, y3⟩ := Two.below (b := w.heap.size + 1) (x := .int .i64 p) (y := .int .i64 q) ⟨c2, c3, z2, z3⟩ hb2
  obtain ⟨d4, d5, y4, y5⟩ := Two.below (b := w.heap.size + 2) (x := .int .i64 0) (y := .int .i64 0) ⟨c4, c5, z4, z5⟩ hb2
  clear c4 c5 z4 z5
  have s2 : w.heap.size + 3 ≤ w2.heap.size := by have := hb2.size; omega
  clear c0 c1 z0 z1 c2 c3 z2 z3
  go_wp2
  refine bodyPost_ret (v := .tuple #[.agg #[.int .i64 (0), .int .i64 (0)], .int .i64 (1)]) (by simp [results, Try.results9, go_sem, d4, d5]) rfl ⟨?_, ?_⟩
  · rw [K.out.1, K.out.2.1, K.out.2.2]
  · (repeat (first | exact Below.refl _ _ | refine Below.setCell ?_ (by first | (simp; done) | (simp; omega) | omega) _ | refine belowN ?_ _ | refine Below.drew ?_ | refine Below.alloc ?_ (by first | (simp; done) | (simp; omega) | omega) _ | refine Below.trans ?_ (Below.mono (by assumption) (by first | (simp; done) | (simp; omega) | omega))))

theorem implMulFrac_yes (n d p q : Int) (w : World) (h : fracB n d = true) (h2 : fracB p q = true) : Calls Try.prog 9 #[.agg #[.int .i64 n, .int .i64 d], .agg #[.int .i64 p, .int .i64 q]] w fun e w' => e = .returned (.tuple #[.agg #[.int .i64 (mul1 n d p q), .int .i64 (mul2 n d p q)], .int .i64 (mul3 n d p q)]) ∧ Below w.heap.size w w' := by
  have K : Hid (mul1 n d p q = mk1 (n * p) (d * q) ∧ mul2 n d p q = mk2 (n * p) (d * q) ∧ mul3 n d p q = mk3 (n * p) (d * q)) := Lib.hid (by unfold mul1 mul2 mul3 bothB; simp [h, h2])
  obtain ⟨⟨⟨f1, f2⟩, f3, f4⟩, -⟩ := fracB_iff.1 h
  obtain ⟨⟨⟨g1, g2⟩, g3, g4⟩, -⟩ := fracB_iff.1 h2
  go_enter Try.func9, Try.ntmps9
  go_wp2_with fail
  refine (validFrac_any n d _).mono ?_
  rintro e w1 ⟨rfl, hb1⟩
  obtain ⟨c0, c1, z0, z1⟩ := Two.below (b := w.heap.size) (x := .int .i64 n) (y := .int .i64 d) ⟨by simp [go_sem], by simp [go_sem], by simp [go_sem], by simp [go_sem]⟩ hb1
  obtain ⟨c2, c3, z2, z3⟩ := Two.below (b := w.heap.size + 1) (x := .int .i64 p) (y := .int .i64 q) ⟨by simp [go_sem], by simp [go_sem], by simp [go_sem], by simp [go_sem]⟩ hb1
  obtain ⟨c4, c5, z4, z5⟩ := Two.below (b := w.heap.size + 2) (x := .int .i64 0) (y := .int .i64 0) ⟨by simp [go_sem], by simp [go_sem], by simp [go_sem], by simp [go_sem]⟩ hb1
  have s1 : w.heap.size + 3 ≤ w1.heap.size := by have := hb1.size; simp at this; omega
  go_wp2_with fail
  refine (validFrac_any p q _).mono ?_
  rintro e w2 ⟨rfl, hb2⟩
  obtain ⟨d0, d1, y0, y1⟩ := Two.below (b := w.heap.size) (x := .int .i64 n) (y := .int .i64 d) ⟨c0, c1, z0, z1⟩ hb2
  obtain ⟨d2, d3, y2, y3⟩ := Two.below (b := w.heap.size + 1) (x := .int .i64 p) (y := .int .i64 q) ⟨c2, c3, z2, z3⟩ hb2
  obtain ⟨d4, d5, y4, y5⟩ := Two.below (b := w.heap.size + 2) (x := .int .i64 0) (y := .int .i64 0) ⟨c4, c5, z4, z5⟩ hb2
  clear c4 c5 z4 z5
  have s2 : w.heap.size + 3 ≤ w2.heap.size := by have := hb2.size; omega
  clear c0 c1 z0 z1 c2 c3 z2 z3
  go_wp2_with fail
  refine (times_any n d p q _ f1 f2 f3 f4 g1 g2 g3 g4).mono ?_
  rintro e w3 ⟨rfl, hb3⟩
  obtain ⟨e4, e5, x4, x5⟩ := Two.below (b := w.heap.size + 2) (x := .int .i64 0) (y := .int .i64 0) ⟨d4, d5, y4, y5⟩ hb3
  have s3 : w.heap.size + 3 ≤ w3.heap.size := by have := hb3.size; omega
  clear d0 d1 y0 y1 d2 d3 y2 y3 d4 d5 y4 y5
  go_wp2
  refine bodyPost_ret (v := .tuple #[.agg #[.int .i64 (mk1 (n * p) (d * q)), .int .i64 (mk2 (n * p) (d * q))], .int .i64 (mk3 (n * p) (d * q))]) (by simp [results, Try.results9, go_sem, e4, e5]) rfl ⟨?_, ?_⟩
  · rw [K.out.1, K.out.2.1, K.out.2.2]
  · (repeat (first | exact Below.refl _ _ | refine Below.setCell ?_ (by first | (simp; done) | (simp; omega) | omega) _ | refine belowN ?_ _ | refine Below.drew ?_ | refine Below.alloc ?_ (by first | (simp; done) | (simp; omega) | omega) _ | refine Below.trans ?_ (Below.mono (by assumption) (by first | (simp; done) | (simp; omega) | omega))))

theorem implMulFrac_any (n d p q : Int) (w : World) : Calls Try.prog 9 #[.agg #[.int .i64 n, .int .i64 d], .agg #[.int .i64 p, .int .i64 q]] w fun e w' => e = .returned (.tuple #[.agg #[.int .i64 (mul1 n d p q), .int .i64 (mul2 n d p q)], .int .i64 (mul3 n d p q)]) ∧ Below w.heap.size w w' := by
  cases h : fracB n d
  · exact implMulFrac_no1 n d p q w h
  · cases h2 : fracB p q
    · exact implMulFrac_no2 n d p q w h h2
    · exact implMulFrac_yes n d p q w h h2

theorem implDivFrac_no1 (n d p q : Int) (w : World) (h : fracB n d = false) : Calls Try.prog 10 #[.agg #[.int .i64 n, .int .i64 d], .agg #[.int .i64 p, .int .i64 q]] w fun e w' => e = .returned (.tuple #[.agg #[.int .i64 (div1 n d p q), .int .i64 (div2 n d p q)], .int .i64 (div3 n d p q)]) ∧ Below w.heap.size w w' := by
  have K : Hid (div1 n d p q = 0 ∧ div2 n d p q = 0 ∧ div3 n d p q = 1) := Lib.hid (by unfold div1 div2 div3 bothB; simp [h])
  go_enter Try.func10, Try.ntmps10
  go_wp2_with fail
  refine (validFrac_any n d _).mono ?_
  rintro e w1 ⟨rfl, hb1⟩
  obtain ⟨c0, c1, z0, z1⟩ := Two.below (b := w.heap.size) (x := .int .i64 n) (y := .int .i64 d) ⟨by simp [go_sem], by simp [go_sem], by simp [go_sem], by simp [go_sem]⟩ hb1
  obtain ⟨c2, c3, z2, z3⟩ := Two.below (b := w.heap.size + 1) (x := .int .i64 p) (y := .int .i64 q) ⟨by simp [go_sem], by simp [go_sem], by simp [go_sem], by simp [go_sem]⟩ hb1
  obtain ⟨c4, c5, z4, z5⟩ := Two.below (b := w.heap.size + 2) (x := .int .i64 0) (y := .int .i64 0) ⟨by simp [go_sem], by simp [go_sem], by simp [go_sem], by simp [go_sem]⟩ hb1
  have s1 : w.heap.size + 3 ≤ w1.heap.size := by have := hb1.size; simp at this; omega
  go_wp2
  refine bodyPost_ret (v := .tuple #[.agg #[.int .i64 (0), .int .i64 (0)], .int .i64 (1)]) (by simp [results, Try.results10, go_sem, c4, c5]) rfl ⟨?_, ?_⟩
  · rw [K.out.1, K.out.2.1, K.out.2.2]
  · (repeat (first | exact Below.refl _ _ | refine Below.setCell ?_ (by first | (simp; done) | (simp; omega) | omega) _ | refine belowN ?_ _ | refine Below.drew ?_ | refine Below.alloc ?_ (by first | (simp; done) | (simp; omega) | omega) _ | refine Below.trans ?_ (Below.mono (by assumption) (by first | (simp; done) | (simp; omega) | omega))))

theorem implDivFrac_no2 (n d p q : Int) (w : World) (h : fracB n d = true) (h2 : fracB p q = false) : Calls Try.prog 10 #[.agg #[.int .i64 n, .int .i64 d], .agg #[.int .i64 p, .int .i64 q]] w fun e w' => e = .returned (.tuple #[.agg #[.int .i64 (div1 n d p q), .int .i64 (div2 n d p q)], .int .i64 (div3 n d p q)]) ∧ Below w.heap.size w w' := by
  have K : Hid (div1 n d p q = 0 ∧ div2 n d p q = 0 ∧ div3 n d p q = 1) := Lib.hid (by unfold div1 div2 div3 bothB; simp [h2])
  go_enter Try.func10, Try.ntmps10
  go_wp2_with fail
  refine (validFrac_any n d _).mono ?_
  rintro e w1 ⟨rfl, hb1⟩
  obtain ⟨c0, c1, z0, z1⟩ := Two.below (b := w.heap.size) (x := .int .i64 n) (y := .int .i64 d) ⟨by simp [go_sem], by simp [go_sem], by simp [go_sem], by simp [go_sem]⟩ hb1
  obtain ⟨c2, c3, z2, z3⟩ := Two.below (b := w.heap.size + 1) (x := .int .i64 p) (y := .int .i64 q) ⟨by simp [go_sem], by simp [go_sem], by simp [go_sem], by simp [go_sem]⟩ hb1
  obtain ⟨c4, c5, z4, z5⟩ := Two.below (b := w.heap.size + 2) (x := .int .i64 0) (y := .int .i64 0) ⟨by simp [go_sem], by simp [go_sem], by simp [go_sem], by simp [go_sem]⟩ hb1
  have s1 : w.heap.size + 3 ≤ w1.heap.size := by have := hb1.size; simp at this; omega
  go_wp2_with fail
  refine (validFrac_any p q _).mono ?_
  rintro e w2 ⟨rfl, hb2⟩
  obtain ⟨d0, d1, y0, y1⟩ := Two.below (b := w.heap.size) (x := .int .i64 n) (y := .int .i64 d) ⟨c0, c1, z0, z1⟩ hb2
  obtain ⟨d2, d3, y2, y3⟩ := Two.below (b := w.heap.size + 1) (x := .int .i64 p) (y := .int .i64 q) ⟨c2, c3, z2, z3⟩ hb2
  obtain ⟨d4, d5, y4, y5⟩ := Two.below (b := w.heap.size + 2) (x := .int .i64 0) (y := .int .i64 0) ⟨c4, c5, z4, z5⟩ hb2
  clear c4 c5 z4 z5
  have s2 : w.heap.size + 3 ≤ w2.heap.size := by have := hb2.size; omega
  clear c0 c1 z0 z1 c2 c3 z2 z3
  go_wp2
  refine bodyPost_ret (v := .tuple #[.agg #[.int .i64 (0), .int .i64 (0)], .int .i64 (1)]) (by simp [results, Try.results10, go_sem, d4, d5]) rfl ⟨?_, ?_⟩
  · rw [K.out.1, K.out.2.1, K.out.2.2]
  · (repeat (first | exact Below.refl _ _ | refine Below.setCell ?_ (by first | (simp; done) | (simp; omega) | omega) _ | refine belowN ?_ _ | refine Below.drew ?_ | refine Below.alloc ?_ (by first | (simp; done) | (simp; omega) | omega) _ | refine Below.trans ?_ (Below.mono (by assumption) (by first | (simp; done) | (simp; omega) | omega))))

theorem implDivFrac_zero (n d p q : Int) (w : World) (h : fracB n d = true) (h2 : fracB p q = true) (h0 : p = 0) : Calls Try.prog 10 #[.agg #[.int .i64 n, .int .i64 d], .agg #[.int .i64 p, .int .i64 q]] w fun e w' => e = .returned (.tuple #[.agg #[.int .i64 (div1 n d p q), .int .i64 (div2 n d p q)], .int .i64 (div3 n d p q)]) ∧ Below w.heap.size w w' := by
  subst h0
  have K : Hid (div1 n d 0 q = 0 ∧ div2 n d 0 q = 0 ∧ div3 n d 0 q = 2) := Lib.hid (by unfold div1 div2 div3 bothB; simp [h, h2])
  go_enter Try.func10, Try.ntmps10
  go_wp2_with fail
  refine (validFrac_any n d _).mono ?_
  rintro e w1 ⟨rfl, hb1⟩
  obtain ⟨c0, c1, z0, z1⟩ := Two.below (b := w.heap.size) (x := .int .i64 n) (y := .int .i64 d) ⟨by simp [go_sem], by simp [go_sem], by simp [go_sem], by simp [go_sem]⟩ hb1
  obtain ⟨c2, c3, z2, z3⟩ := Two.below (b := w.heap.size + 1) (x := .int .i64 0) (y := .int .i64 q) ⟨by simp [go_sem], by simp [go_sem], by simp [go_sem], by simp [go_sem]⟩ hb1
  obtain ⟨c4, c5, z4, z5⟩ := Two.below (b := w.heap.size + 2) (x := .int .i64 0) (y := .int .i64 0) ⟨by simp [go_sem], by simp [go_sem], by simp [go_sem], by simp [go_sem]⟩ hb1
  have s1 : w.heap.size + 3 ≤ w1.heap.size := by have := hb1.size; simp at this; omega
  go_wp2_with fail
  refine (validFrac_any 0 q _).mono ?_
  rintro e w2 ⟨rfl, hb2⟩
  obtain ⟨d0, d1, y0, y1⟩ := Two.below (b := w.heap.size) (x := .int .i64 n) (y := .int .i64 d) ⟨c0, c1, z0, z1⟩ hb2
  obtain ⟨d2, d3, y2, y3⟩ := Two.below (b := w.heap.size + 1) (x := .int .i64 0) (y := .int .i64 q) ⟨c2, c3, z2, z3⟩ hb2
  obtain ⟨d4, d5, y4, y5⟩ := Two.below (b := w.heap.size + 2) (x := .int .i64 0) (y := .int .i64 0) ⟨c4, c5, z4, z5⟩ hb2
  clear c4 c5 z4 z5
  have s2 : w.heap.size + 3 ≤ w2.heap.size := by have := hb2.size; omega
  clear c0 c1 z0 z1 c2 c3 z2 z3
  go_wp2
  refine bodyPost_ret (v := .tuple #[.agg #[.int .i64 (0), .int .i64 (0)], .int .i64 (2)]) (by simp [results, Try.results10, go_sem, d4, d5]) rfl ⟨?_, ?_⟩
  · rw [K.out.1, K.out.2.1, K.out.2.2]
  · (repeat (first | exact Below.refl _ _ | refine Below.setCell ?_ (by first | (simp; done) | (simp; omega) | omega) _ | refine belowN ?_ _ | refine Below.drew ?_ | refine Below.alloc ?_ (by first | (simp; done) | (simp; omega) | omega) _ | refine Below.trans ?_ (Below.mono (by assumption) (by first | (simp; done) | (simp; omega) | omega))))

theorem implDivFrac_yes (n d p q : Int) (w : World) (h : fracB n d = true) (h2 : fracB p q = true) (h0 : p ≠ 0) : Calls Try.prog 10 #[.agg #[.int .i64 n, .int .i64 d], .agg #[.int .i64 p, .int .i64 q]] w fun e w' => e = .returned (.tuple #[.agg #[.int .i64 (div1 n d p q), .int .i64 (div2 n d p q)], .int .i64 (div3 n d p q)]) ∧ Below w.heap.size w w' := by
  have K : Hid (div1 n d p q = mk1 (n * q) (d * p) ∧ div2 n d p q = mk2 (n * q) (d * p) ∧ div3 n d p q = mk3 (n * q) (d * p)) := Lib.hid (by unfold div1 div2 div3 bothB; simp [h, h2, h0])
  obtain ⟨⟨⟨f1, f2⟩, f3, f4⟩, -⟩ := fracB_iff.1 h
  obtain ⟨⟨⟨g1, g2⟩, g3, g4⟩, -⟩ := fracB_iff.1 h2
  go_enter Try.func10, Try.ntmps10
  go_wp2_with fail
  refine (validFrac_any n d _).mono ?_
  rintro e w1 ⟨rfl, hb1⟩
  obtain ⟨c0, c1, z0, z1⟩ := Two.below (b := w.heap.size) (x := .int .i64 n) (y := .int .i64 d) ⟨by simp [go_sem], by simp [go_sem], by simp [go_sem], by simp [go_sem]⟩ hb1
  obtain ⟨c2, c3, z2, z3⟩ := Two.below (b := w.heap.size + 1) (x := .int .i64 p) (y := .int .i64 q) ⟨by simp [go_sem], by simp [go_sem], by simp [go_sem], by simp [go_sem]⟩ hb1
  obtain ⟨c4, c5, z4, z5⟩ := Two.below (b := w.heap.size + 2) (x := .int .i64 0) (y := .int .i64 0) ⟨by simp [go_sem], by simp [go_sem], by simp [go_sem], by simp [go_sem]⟩ hb1
  have s1 : w.heap.size + 3 ≤ w1.heap.size := by have := hb1.size; simp at this; omega
  go_wp2_with fail
  refine (validFrac_any p q _).mono ?_
  rintro e w2 ⟨rfl, hb2⟩
  obtain ⟨d0, d1, y0, y1⟩ := Two.below (b := w.heap.size) (x := .int .i64 n) (y := .int .i64 d) ⟨c0, c1, z0, z1⟩ hb2
  obtain ⟨d2, d3, y2, y3⟩ := Two.below (b := w.heap.size + 1) (x := .int .i64 p) (y := .int .i64 q) ⟨c2, c3, z2, z3⟩ hb2
  obtain ⟨d4, d5, y4, y5⟩ := Two.below (b := w.heap.size + 2) (x := .int .i64 0) (y := .int .i64 0) ⟨c4, c5, z4, z5⟩ hb2
  clear c4 c5 z4 z5
  have s2 : w.heap.size + 3 ≤ w2.heap.size := by have := hb2.size; omega
  clear c0 c1 z0 z1 c2 c3 z2 z3
  go_wp2_with fail
  refine (over_any n d p q _ f1 f2 f3 f4 g1 g2 g3 g4 h0).mono ?_
  rintro e w3 ⟨rfl, hb3⟩
  obtain ⟨e4, e5, x4, x5⟩ := Two.below (b := w.heap.size + 2) (x := .int .i64 0) (y := .int .i64 0) ⟨d4, d5, y4, y5⟩ hb3
  have s3 : w.heap.size + 3 ≤ w3.heap.size := by have := hb3.size; omega
  clear d0 d1 y0 y1 d2 d3 y2 y3 d4 d5 y4 y5
  go_wp2
  refine bodyPost_ret (v := .tuple #[.agg #[.int .i64 (mk1 (n * q) (d * p)), .int .i64 (mk2 (n * q) (d * p))], .int .i64 (mk3 (n * q) (d * p))]) (by simp [results, Try.results10, go_sem, e4, e5]) rfl ⟨?_, ?_⟩
  · rw [K.out.1, K.out.2.1, K.out.2.2]
  · (repeat (first | exact Below.refl _ _ | refine Below.setCell ?_ (by first | (simp; done) | (simp; omega) | omega) _ | refine belowN ?_ _ | refine Below.drew ?_ | refine Below.alloc ?_ (by first | (simp; done) | (simp; omega) | omega) _ | refine Below.trans ?_ (Below.mono (by assumption) (by first | (simp; done) | (simp; omega) | omega))))

theorem implDivFrac_any (n d p q : Int) (w : World) : Calls Try.prog 10 #[.agg #[.int .i64 n, .int .i64 d], .agg #[.int .i64 p, .int .i64 q]] w fun e w' => e = .returned (.tuple #[.agg #[.int .i64 (div1 n d p q), .int .i64 (div2 n d p q)], .int .i64 (div3 n d p q)]) ∧ Below w.heap.size w w' := by
  cases h : fracB n d
  · exact implDivFrac_no1 n d p q w h
  · cases h2 : fracB p q
    · exact implDivFrac_no2 n d p q w h h2
    · by_cases h0 : p = 0
      · exact implDivFrac_zero n d p q w h h2 h0
      · exact implDivFrac_yes n d p q w h h2 h0

theorem implCompareFrac_no1 (n d p q : Int) (w : World) (h : fracB n d = false) : Calls Try.prog 8 #[.agg #[.int .i64 n, .int .i64 d], .agg #[.int .i64 p, .int .i64 q]] w fun e w' => e = .returned (.tuple #[.int .i64 (cmp1 n d p q), .int .i64 (cmp2 n d p q)]) ∧ Below w.heap.size w w' := by
  have K : Hid (cmp1 n d p q = 0 ∧ cmp2 n d p q = 1) := Lib.hid (by unfold cmp1 cmp2 bothB; simp [h])
  go_enter Try.func8, Try.ntmps8
  go_wp2_with fail
  refine (validFrac_any n d _).mono ?_
  rintro e w1 ⟨rfl, hb1⟩
  obtain ⟨c0, c1, z0, z1⟩ := Two.below (b := w.heap.size) (x := .int .i64 n) (y := .int .i64 d) ⟨by simp [go_sem], by simp [go_sem], by simp [go_sem], by simp [go_sem]⟩ hb1
  obtain ⟨c2, c3, z2, z3⟩ := Two.below (b := w.heap.size + 1) (x := .int .i64 p) (y := .int .i64 q) ⟨by simp [go_sem], by simp [go_sem], by simp [go_sem], by simp [go_sem]⟩ hb1
  have s1 : w.heap.size + 2 ≤ w1.heap.size := by have := hb1.size; simp at this; omega
  go_wp2
  go_ret2
  exact ⟨ret_pair K.out.1.symm K.out.2.symm, by (repeat (first | exact Below.refl _ _ | refine Below.setCell ?_ (by first | (simp; done) | (simp; omega) | omega) _ | refine belowN ?_ _ | refine Below.drew ?_ | refine Below.alloc ?_ (by first | (simp; done) | (simp; omega) | omega) _ | refine Below.trans ?_ (Below.mono (by assumption) (by first | (simp; done) | (simp; omega) | omega))))⟩

theorem implCompareFrac_no2 (n d p q : Int) (w : World) (h : fracB n d = true) (h2 : fracB p q = false) : Calls Try.prog 8 #[.agg #[.int .i64 n, .int .i64 d], .agg #[.int .i64 p, .int .i64 q]] w fun e w' => e = .returned (.tuple #[.int .i64 (cmp1 n d p q), .int .i64 (cmp2 n d p q)]) ∧ Below w.heap.size w w' := by
  have K : Hid (cmp1 n d p q = 0 ∧ cmp2 n d p q = 1) := Lib.hid (by unfold cmp1 cmp2 bothB; simp [h2])
  go_enter Try.func8, Try.ntmps8
  go_wp2_with fail
  refine (validFrac_any n d _).mono ?_
  rintro e w1 ⟨rfl, hb1⟩
  obtain ⟨c0, c1, z0, z1⟩ := Two.below (b := w.heap.size) (x := .int .i64 n) (y := .int .i64 d) ⟨by simp [go_sem], by simp [go_sem], by simp [go_sem], by simp [go_sem]⟩ hb1
  obtain ⟨c2, c3, z2, z3⟩ := Two.below (b := w.heap.size + 1) (x := .int .i64 p) (y := .int .i64 q) ⟨by simp [go_sem], by simp [go_sem], by simp [go_sem], by simp [go_sem]⟩ hb1
  have s1 : w.heap.size + 2 ≤ w1.heap.size := by have := hb1.size; simp at this; omega
  go_wp2_with fail
  refine (validFrac_any p q _).mono ?_
  rintro e w2 ⟨rfl, hb2⟩
  obtain ⟨d0, d1, y0, y1⟩ := Two.below (b := w.heap.size) (x := .int .i64 n) (y := .int .i64 d) ⟨c0, c1, z0, z1⟩ hb2
  obtain ⟨d2, d3, y2, y3⟩ := Two.below (b := w.heap.size + 1) (x := .int .i64 p) (y := .int .i64 q) ⟨c2, c3, z2, z3⟩ hb2
  have s2 : w.heap.size + 2 ≤ w2.heap.size := by have := hb2.size; omega
  clear c0 c1 z0 z1 c2 c3 z2 z3
  go_wp2
  go_ret2
  exact ⟨ret_pair K.out.1.symm K.out.2.symm, by (repeat (first | exact Below.refl _ _ | refine Below.setCell ?_ (by first | (simp; done) | (simp; omega) | omega) _ | refine belowN ?_ _ | refine Below.drew ?_ | refine Below.alloc ?_ (by first | (simp; done) | (simp; omega) | omega) _ | refine Below.trans ?_ (Below.mono (by assumption) (by first | (simp; done) | (simp; omega) | omega))))⟩

theorem implCompareFrac_yes (n d p q : Int) (w : World) (h : fracB n d = true) (h2 : fracB p q = true) : Calls Try.prog 8 #[.agg #[.int .i64 n, .int .i64 d], .agg #[.int .i64 p, .int .i64 q]] w fun e w' => e = .returned (.tuple #[.int .i64 (cmp1 n d p q), .int .i64 (cmp2 n d p q)]) ∧ Below w.heap.size w w' := by
  have K : Hid (cmp1 n d p q = cmpZ n d p q ∧ cmp2 n d p q = 0) := Lib.hid (by unfold cmp1 cmp2 bothB; simp [h, h2])
  obtain ⟨⟨⟨f1, f2⟩, f3, f4⟩, -⟩ := fracB_iff.1 h
  obtain ⟨⟨⟨g1, g2⟩, g3, g4⟩, -⟩ := fracB_iff.1 h2
  go_enter Try.func8, Try.ntmps8
  go_wp2_with fail
  refine (validFrac_any n d _).mono ?_
  rintro e w1 ⟨rfl, hb1⟩
  obtain ⟨c0, c1, z0, z1⟩ := Two.below (b := w.heap.size) (x := .int .i64 n) (y := .int .i64 d) ⟨by simp [go_sem], by simp [go_sem], by simp [go_sem], by simp [go_sem]⟩ hb1
  obtain ⟨c2, c3, z2, z3⟩ := Two.below (b := w.heap.size + 1) (x := .int .i64 p) (y := .int .i64 q) ⟨by simp [go_sem], by simp [go_sem], by simp [go_sem], by simp [go_sem]⟩ hb1
  have s1 : w.heap.size + 2 ≤ w1.heap.size := by have := hb1.size; simp at this; omega
  go_wp2_with fail
  refine (validFrac_any p q _).mono ?_
  rintro e w2 ⟨rfl, hb2⟩
  obtain ⟨d0, d1, y0, y1⟩ := Two.below (b := w.heap.size) (x := .int .i64 n) (y := .int .i64 d) ⟨c0, c1, z0, z1⟩ hb2
  obtain ⟨d2, d3, y2, y3⟩ := Two.below (b := w.heap.size + 1) (x := .int .i64 p) (y := .int .i64 q) ⟨c2, c3, z2, z3⟩ hb2
  have s2 : w.heap.size + 2 ≤ w2.heap.size := by have := hb2.size; omega
  clear c0 c1 z0 z1 c2 c3 z2 z3
  go_wp2_with fail
  refine (compare_any n d p q _ f1 f2 f3 f4 g1 g2 g3 g4).mono ?_
  rintro e w3 ⟨rfl, hb3⟩
  have s3 : w.heap.size + 2 ≤ w3.heap.size := by have := hb3.size; omega
  go_wp2
  go_ret2
  exact ⟨ret_pair K.out.1.symm K.out.2.symm, by (repeat (first | exact Below.refl _ _ | refine Below.setCell ?_ (by first | (simp; done) | (simp; omega) | omega) _ | refine belowN ?_ _ | refine Below.drew ?_ | refine Below.alloc ?_ (by first | (simp; done) | (simp; omega) | omega) _ | refine Below.trans ?_ (Below.mono (by assumption) (by first | (simp; done) | (simp; omega) | omega))))⟩

theorem implCompareFrac_any (n d p q : Int) (w : World) : Calls Try.prog 8 #[.agg #[.int .i64 n, .int .i64 d], .agg #[.int .i64 p, .int .i64 q]] w fun e w' => e = .returned (.tuple #[.int .i64 (cmp1 n d p q), .int .i64 (cmp2 n d p q)]) ∧ Below w.heap.size w w' := by
  cases h : fracB n d
  · exact implCompareFrac_no1 n d p q w h
  · cases h2 : fracB p q
    · exact implCompareFrac_no2 n d p q w h h2
    · exact implCompareFrac_yes n d p q w h h2

end Go.Proofs.Ytlfobdnjjbhehaa
