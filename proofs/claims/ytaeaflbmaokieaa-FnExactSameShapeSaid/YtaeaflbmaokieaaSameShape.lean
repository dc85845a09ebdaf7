/-
  For every two lists of points, SameShape of the program answers as the model's; the law FnExactSameShape returns true and leaves its arguments as they were. Conditions: none.
-/
import Derived.Test.YtaeaflbmaokieaaShS
namespace Go.Proofs.Ytaeaflbmaokieaa
open Go.RowKit

theorem specSameShape_law (v1 : Value) (D : Cols) (v2 : Value) (E : Cols) (w : World) (h1 : Qs w v1 D) (_s1 : ∃ a k q, v1 = .slice (some a) k q) (_o1 : D.ok) (_m1 : D.n ≤ 1048576) (h2 : Qs w v2 E) (_s2 : ∃ a k q, v2 = .slice (some a) k q) (_o2 : E.ok) (_m2 : E.n ≤ 1048576) :
    Calls Try.prog 35 #[v1, v2] w fun e w' => e = .returned (.bool (sameQ D E)) ∧ Below w.heap.size w w' := by
  go_enter Try.func35, Try.ntmps35
  go_wp2_with fail
  refine (l04Same_any v1 v2 D E _ (h1.below (by (repeat (first | exact Below.refl _ _ | refine Below.setCell ?_ (by first | (simp; done) | (simp; omega) | omega) _ | refine belowN ?_ _ | refine Below.drew ?_ | refine Below.alloc ?_ (by first | (simp; done) | (simp; omega) | omega) _ | refine Below.trans ?_ (Below.mono (by assumption) (by first | (simp; done) | (simp; omega) | omega)))))) (h2.below (by (repeat (first | exact Below.refl _ _ | refine Below.setCell ?_ (by first | (simp; done) | (simp; omega) | omega) _ | refine belowN ?_ _ | refine Below.drew ?_ | refine Below.alloc ?_ (by first | (simp; done) | (simp; omega) | omega) _ | refine Below.trans ?_ (Below.mono (by assumption) (by first | (simp; done) | (simp; omega) | omega))))))).mono ?_
  rintro e w1 ⟨rfl, hb⟩
  go_wp2
  go_ret
  exact ⟨rfl, by (repeat (first | exact Below.refl _ _ | refine Below.setCell ?_ (by first | (simp; done) | (simp; omega) | omega) _ | refine belowN ?_ _ | refine Below.drew ?_ | refine Below.alloc ?_ (by first | (simp; done) | (simp; omega) | omega) _ | refine Below.trans ?_ (Below.mono (by assumption) (by first | (simp; done) | (simp; omega) | omega))))⟩
theorem implSameShape_law (v1 : Value) (D : Cols) (v2 : Value) (E : Cols) (w : World) (h1 : Qs w v1 D) (_s1 : ∃ a k q, v1 = .slice (some a) k q) (_o1 : D.ok) (_m1 : D.n ≤ 1048576) (h2 : Qs w v2 E) (_s2 : ∃ a k q, v2 = .slice (some a) k q) (_o2 : E.ok) (_m2 : E.n ≤ 1048576) :
    Calls Try.prog 36 #[v1, v2] w fun e w' => e = .returned (.bool (sameQ D E)) ∧ Below w.heap.size w w' := by
  go_enter Try.func36, Try.ntmps36
  go_wp2_with fail
  refine (equalQ_any v1 v2 D E _ (h1.below (by (repeat (first | exact Below.refl _ _ | refine Below.setCell ?_ (by first | (simp; done) | (simp; omega) | omega) _ | refine belowN ?_ _ | refine Below.drew ?_ | refine Below.alloc ?_ (by first | (simp; done) | (simp; omega) | omega) _ | refine Below.trans ?_ (Below.mono (by assumption) (by first | (simp; done) | (simp; omega) | omega)))))) (h2.below (by (repeat (first | exact Below.refl _ _ | refine Below.setCell ?_ (by first | (simp; done) | (simp; omega) | omega) _ | refine belowN ?_ _ | refine Below.drew ?_ | refine Below.alloc ?_ (by first | (simp; done) | (simp; omega) | omega) _ | refine Below.trans ?_ (Below.mono (by assumption) (by first | (simp; done) | (simp; omega) | omega))))))).mono ?_
  rintro e w1 ⟨rfl, hb⟩
  go_wp2
  go_ret
  exact ⟨rfl, by (repeat (first | exact Below.refl _ _ | refine Below.setCell ?_ (by first | (simp; done) | (simp; omega) | omega) _ | refine belowN ?_ _ | refine Below.drew ?_ | refine Below.alloc ?_ (by first | (simp; done) | (simp; omega) | omega) _ | refine Below.trans ?_ (Below.mono (by assumption) (by first | (simp; done) | (simp; omega) | omega))))⟩

set_option maxRecDepth 100000 in
set_option maxHeartbeats 1000000 in
set_option linter.unusedVariables false in
set_option linter.unusedSimpArgs false in
theorem walk_FnExactSameShape (v1 : Value) (Q1 : Cols) (v2 : Value) (Q2 : Cols) (w : World) (h1 : Qs w v1 Q1) (ok1 : Q1.ok) (h2 : Qs w v2 Q2) (ok2 : Q2.ok) :
    Calls Try.prog 9 #[v1, v2] w fun e w' => e = .returned (.bool true) ∧ Below w.heap.size w w' := by
  have H1 := Lib.hid h1
  clear h1
  have H2 := Lib.hid h2
  clear h2
  go_enter Try.func9, Try.ntmps9
  go_wp2_with fail
  refine (szPointS_any v1 Q1 1048576 _ (H1.out.below (by (repeat (first | exact Below.refl _ _ | refine Below.setCell ?_ (by first | (simp; done) | (simp; omega) | omega) _ | refine belowN ?_ _ | refine Below.drew ?_ | refine Below.alloc ?_ (by first | (simp; done) | (simp; omega) | omega) _ | refine Below.trans ?_ (Below.mono (by assumption) (by first | (simp; done) | (simp; omega) | omega)))))) (by omega) (by omega)).mono ?_
  rintro e w1 ⟨⟨r1, rfl, hr⟩, hb⟩
  have B1 : Below w.heap.size w w1 := by (repeat (first | exact Below.refl _ _ | refine Below.setCell ?_ (by first | (simp; done) | (simp; omega) | omega) _ | refine belowN ?_ _ | refine Below.drew ?_ | refine Below.alloc ?_ (by first | (simp; done) | (simp; omega) | omega) _ | refine Below.trans ?_ (Below.mono (by assumption) (by first | (simp; done) | (simp; omega) | omega))))
  have s1 : w.heap.size ≤ w1.heap.size := B1.size
  clear hb
  rcases hr with rfl | ⟨hl1, hm1, hs1⟩
  · go_wp2
    go_ret
    exact ⟨rfl, B1⟩
  have bb1 : decide (r1 < 0) = false := by simp; omega
  go_wp2_with fail
  refine (szPointS_any v2 Q2 r1 _ (H2.out.below (by (repeat (first | exact Below.refl _ _ | refine Below.setCell ?_ (by first | (simp; done) | (simp; omega) | omega) _ | refine belowN ?_ _ | refine Below.drew ?_ | refine Below.alloc ?_ (by first | (simp; done) | (simp; omega) | omega) _ | refine Below.trans ?_ (Below.mono (by assumption) (by first | (simp; done) | (simp; omega) | omega)))))) hl1 (by omega)).mono ?_
  rintro e w2 ⟨⟨r2, rfl, hr⟩, hb⟩
  have q2 : Below w1.heap.size w1 w2 := by (repeat (first | exact Below.refl _ _ | refine Below.setCell ?_ (by first | (simp; done) | (simp; omega) | omega) _ | refine belowN ?_ _ | refine Below.drew ?_ | refine Below.alloc ?_ (by first | (simp; done) | (simp; omega) | omega) _ | refine Below.trans ?_ (Below.mono (by assumption) (by first | (simp; done) | (simp; omega) | omega))))
  have s2 : w1.heap.size ≤ w2.heap.size := q2.size
  have B2 : Below w.heap.size w w2 := B1.trans (q2.mono (by omega))
  clear hb q2
  rcases hr with rfl | ⟨hl2, hm2, hs2⟩
  · go_wp2
    go_ret
    exact ⟨rfl, B2⟩
  have bb2 : decide (r2 < 0) = false := by simp; omega
  go_wp2_with fail
  refine (toPointS_any v1 Q1 _ (H1.out.below (by (repeat (first | exact Below.refl _ _ | refine Below.setCell ?_ (by first | (simp; done) | (simp; omega) | omega) _ | refine belowN ?_ _ | refine Below.drew ?_ | refine Below.alloc ?_ (by first | (simp; done) | (simp; omega) | omega) _ | refine Below.trans ?_ (Below.mono (by assumption) (by first | (simp; done) | (simp; omega) | omega)))))) hs1).mono ?_
  rintro e w3 ⟨⟨z1, rfl, zo1⟩, hb⟩
  have q3 : Below w2.heap.size w2 w3 := by (repeat (first | exact Below.refl _ _ | refine Below.setCell ?_ (by first | (simp; done) | (simp; omega) | omega) _ | refine belowN ?_ _ | refine Below.drew ?_ | refine Below.alloc ?_ (by first | (simp; done) | (simp; omega) | omega) _ | refine Below.trans ?_ (Below.mono (by assumption) (by first | (simp; done) | (simp; omega) | omega))))
  have s3 : w2.heap.size ≤ w3.heap.size := q3.size
  have B3 : Below w.heap.size w w3 := B2.trans (q3.mono (by omega))
  have Nz1_3 := Lib.hid zo1.1
  have SN1 := zo1.2
  clear hb zo1 q3
  go_wp2_with fail
  refine (toPointS_any v2 Q2 _ (H2.out.below (by (repeat (first | exact Below.refl _ _ | refine Below.setCell ?_ (by first | (simp; done) | (simp; omega) | omega) _ | refine belowN ?_ _ | refine Below.drew ?_ | refine Below.alloc ?_ (by first | (simp; done) | (simp; omega) | omega) _ | refine Below.trans ?_ (Below.mono (by assumption) (by first | (simp; done) | (simp; omega) | omega)))))) hs2).mono ?_
  rintro e w4 ⟨⟨z2, rfl, zo2⟩, hb⟩
  have q4 : Below w3.heap.size w3 w4 := by (repeat (first | exact Below.refl _ _ | refine Below.setCell ?_ (by first | (simp; done) | (simp; omega) | omega) _ | refine belowN ?_ _ | refine Below.drew ?_ | refine Below.alloc ?_ (by first | (simp; done) | (simp; omega) | omega) _ | refine Below.trans ?_ (Below.mono (by assumption) (by first | (simp; done) | (simp; omega) | omega))))
  have s4 : w3.heap.size ≤ w4.heap.size := q4.size
  have B4 : Below w.heap.size w w4 := B3.trans (q4.mono (by omega))
  have Nz1_4 := Lib.hid (Nz1_3.out.below q4)
  have Nz2_4 := Lib.hid zo2.1
  have SN2 := zo2.2
  clear hb zo2 q4
  go_wp2_with fail
  refine (specSameShape_law z1 Q1 z2 Q2 _ (Nz1_4.out.qs.below (by (repeat (first | exact Below.refl _ _ | refine Below.setCell ?_ (by first | (simp; done) | (simp; omega) | omega) _ | refine belowN ?_ _ | refine Below.drew ?_ | refine Below.alloc ?_ (by first | (simp; done) | (simp; omega) | omega) _ | refine Below.trans ?_ (Below.mono (by assumption) (by first | (simp; done) | (simp; omega) | omega)))))) SN1 ok1 hs1 (Nz2_4.out.qs.below (by (repeat (first | exact Below.refl _ _ | refine Below.setCell ?_ (by first | (simp; done) | (simp; omega) | omega) _ | refine belowN ?_ _ | refine Below.drew ?_ | refine Below.alloc ?_ (by first | (simp; done) | (simp; omega) | omega) _ | refine Below.trans ?_ (Below.mono (by assumption) (by first | (simp; done) | (simp; omega) | omega)))))) SN2 ok2 hs2).mono ?_
  rintro e w5 ⟨rfl, hb⟩
  have q5 : Below w4.heap.size w4 w5 := by (repeat (first | exact Below.refl _ _ | refine Below.setCell ?_ (by first | (simp; done) | (simp; omega) | omega) _ | refine belowN ?_ _ | refine Below.drew ?_ | refine Below.alloc ?_ (by first | (simp; done) | (simp; omega) | omega) _ | refine Below.trans ?_ (Below.mono (by assumption) (by first | (simp; done) | (simp; omega) | omega))))
  have s5 : w4.heap.size ≤ w5.heap.size := q5.size
  have B5 : Below w.heap.size w w5 := B4.trans (q5.mono (by omega))
  clear hb q5 SN1 SN2
  go_wp2_with fail
  refine (toPointS_any v1 Q1 _ (H1.out.below (by (repeat (first | exact Below.refl _ _ | refine Below.setCell ?_ (by first | (simp; done) | (simp; omega) | omega) _ | refine belowN ?_ _ | refine Below.drew ?_ | refine Below.alloc ?_ (by first | (simp; done) | (simp; omega) | omega) _ | refine Below.trans ?_ (Below.mono (by assumption) (by first | (simp; done) | (simp; omega) | omega)))))) hs1).mono ?_
  rintro e w6 ⟨⟨x1_, rfl, own⟩, hb⟩
  have q6 : Below w5.heap.size w5 w6 := by (repeat (first | exact Below.refl _ _ | refine Below.setCell ?_ (by first | (simp; done) | (simp; omega) | omega) _ | refine belowN ?_ _ | refine Below.drew ?_ | refine Below.alloc ?_ (by first | (simp; done) | (simp; omega) | omega) _ | refine Below.trans ?_ (Below.mono (by assumption) (by first | (simp; done) | (simp; omega) | omega))))
  have s6 : w5.heap.size ≤ w6.heap.size := q6.size
  have B6 : Below w.heap.size w w6 := B5.trans (q6.mono (by omega))
  have C6 := Lib.hid q6
  have SL1 := own.2
  have X1_6 := Lib.hid (OwnQ.mono (lo' := w5.heap.size) (hi' := w6.heap.size) own.1 (by first | (simp; done) | (simp; omega)) (Nat.le_refl _))
  clear hb q6 own 
  obtain ⟨x1_a, x1_n, x1_c, rfl⟩ := X1_6.out.qs.shape
  go_wp2_with fail
  refine (toPointS_any v2 Q2 _ (H2.out.below (by (repeat (first | exact Below.refl _ _ | refine Below.setCell ?_ (by first | (simp; done) | (simp; omega) | omega) _ | refine belowN ?_ _ | refine Below.drew ?_ | refine Below.alloc ?_ (by first | (simp; done) | (simp; omega) | omega) _ | refine Below.trans ?_ (Below.mono (by assumption) (by first | (simp; done) | (simp; omega) | omega)))))) hs2).mono ?_
  rintro e w7 ⟨⟨x2_, rfl, own⟩, hb⟩
  have q7 : Below w6.heap.size w6 w7 := by (repeat (first | exact Below.refl _ _ | refine Below.setCell ?_ (by first | (simp; done) | (simp; omega) | omega) _ | refine belowN ?_ _ | refine Below.drew ?_ | refine Below.alloc ?_ (by first | (simp; done) | (simp; omega) | omega) _ | refine Below.trans ?_ (Below.mono (by assumption) (by first | (simp; done) | (simp; omega) | omega))))
  have s7 : w6.heap.size ≤ w7.heap.size := q7.size
  have B7 : Below w.heap.size w w7 := B6.trans (q7.mono (by omega))
  have C7 := Lib.hid (C6.out.trans (q7.mono (by omega)))
  have X1_7 := Lib.hid (X1_6.out.below q7)
  have SL2 := own.2
  have X2_7 := Lib.hid (OwnQ.mono (lo' := w6.heap.size) (hi' := w7.heap.size) own.1 (by first | (simp; done) | (simp; omega)) (Nat.le_refl _))
  clear hb q7 own 
  obtain ⟨x2_a, x2_n, x2_c, rfl⟩ := X2_7.out.qs.shape
  go_wp2_with fail
  refine (implSameShape_law (.slice x1_a x1_n x1_c) Q1 (.slice x2_a x2_n x2_c) Q2 _ (X1_7.out.qs.below (by (repeat (first | exact Below.refl _ _ | refine Below.setCell ?_ (by first | (simp; done) | (simp; omega) | omega) _ | refine belowN ?_ _ | refine Below.drew ?_ | refine Below.alloc ?_ (by first | (simp; done) | (simp; omega) | omega) _ | refine Below.trans ?_ (Below.mono (by assumption) (by first | (simp; done) | (simp; omega) | omega)))))) SL1 ok1 hs1 (X2_7.out.qs.below (by (repeat (first | exact Below.refl _ _ | refine Below.setCell ?_ (by first | (simp; done) | (simp; omega) | omega) _ | refine belowN ?_ _ | refine Below.drew ?_ | refine Below.alloc ?_ (by first | (simp; done) | (simp; omega) | omega) _ | refine Below.trans ?_ (Below.mono (by assumption) (by first | (simp; done) | (simp; omega) | omega)))))) SL2 ok2 hs2).mono ?_
  rintro e w8 ⟨rfl, hb⟩
  have q8 : Below w7.heap.size w7 w8 := by (repeat (first | exact Below.refl _ _ | refine Below.setCell ?_ (by first | (simp; done) | (simp; omega) | omega) _ | refine belowN ?_ _ | refine Below.drew ?_ | refine Below.alloc ?_ (by first | (simp; done) | (simp; omega) | omega) _ | refine Below.trans ?_ (Below.mono (by assumption) (by first | (simp; done) | (simp; omega) | omega))))
  have s8 : w7.heap.size ≤ w8.heap.size := q8.size
  have B8 : Below w.heap.size w w8 := B7.trans (q8.mono (by omega))
  have C8 := Lib.hid (C7.out.trans (q8.mono (by omega)))
  have X1_8 := Lib.hid (X1_7.out.below q8)
  have X2_8 := Lib.hid (X2_7.out.below q8)
  clear hb q8 
  go_wp2_with fail
  refine (toPointS_any v1 Q1 _ (H1.out.below (by (repeat (first | exact Below.refl _ _ | refine Below.setCell ?_ (by first | (simp; done) | (simp; omega) | omega) _ | refine belowN ?_ _ | refine Below.drew ?_ | refine Below.alloc ?_ (by first | (simp; done) | (simp; omega) | omega) _ | refine Below.trans ?_ (Below.mono (by assumption) (by first | (simp; done) | (simp; omega) | omega)))))) hs1).mono ?_
  rintro e w9 ⟨⟨u1, rfl, own⟩, hb⟩
  have q9 : Below w8.heap.size w8 w9 := by (repeat (first | exact Below.refl _ _ | refine Below.setCell ?_ (by first | (simp; done) | (simp; omega) | omega) _ | refine belowN ?_ _ | refine Below.drew ?_ | refine Below.alloc ?_ (by first | (simp; done) | (simp; omega) | omega) _ | refine Below.trans ?_ (Below.mono (by assumption) (by first | (simp; done) | (simp; omega) | omega))))
  have s9 : w8.heap.size ≤ w9.heap.size := q9.size
  have B9 : Below w.heap.size w w9 := B8.trans (q9.mono (by omega))
  have C9 := Lib.hid (C8.out.trans (q9.mono (by omega)))
  have X1_9 := Lib.hid (X1_8.out.below q9)
  have X2_9 := Lib.hid (X2_8.out.below q9)
  clear hb q9
  go_wp2_with fail
  refine (eqPointS_yes _ _ Q1 _ (X1_9.out.qs.below (by (repeat (first | exact Below.refl _ _ | refine Below.setCell ?_ (by first | (simp; done) | (simp; omega) | omega) _ | refine belowN ?_ _ | refine Below.drew ?_ | refine Below.alloc ?_ (by first | (simp; done) | (simp; omega) | omega) _ | refine Below.trans ?_ (Below.mono (by assumption) (by first | (simp; done) | (simp; omega) | omega)))))) (own.1.qs.below (by (repeat (first | exact Below.refl _ _ | refine Below.setCell ?_ (by first | (simp; done) | (simp; omega) | omega) _ | refine belowN ?_ _ | refine Below.drew ?_ | refine Below.alloc ?_ (by first | (simp; done) | (simp; omega) | omega) _ | refine Below.trans ?_ (Below.mono (by assumption) (by first | (simp; done) | (simp; omega) | omega))))))).mono ?_
  rintro e w10 ⟨rfl, hb⟩
  have q10 : Below w9.heap.size w9 w10 := by (repeat (first | exact Below.refl _ _ | refine Below.setCell ?_ (by first | (simp; done) | (simp; omega) | omega) _ | refine belowN ?_ _ | refine Below.drew ?_ | refine Below.alloc ?_ (by first | (simp; done) | (simp; omega) | omega) _ | refine Below.trans ?_ (Below.mono (by assumption) (by first | (simp; done) | (simp; omega) | omega))))
  have s10 : w9.heap.size ≤ w10.heap.size := q10.size
  have B10 : Below w.heap.size w w10 := B9.trans (q10.mono (by omega))
  have C10 := Lib.hid (C9.out.trans (q10.mono (by omega)))
  have X1_10 := Lib.hid (X1_9.out.below q10)
  have X2_10 := Lib.hid (X2_9.out.below q10)
  clear hb q10 own
  go_wp2_with fail
  refine (toPointS_any v2 Q2 _ (H2.out.below (by (repeat (first | exact Below.refl _ _ | refine Below.setCell ?_ (by first | (simp; done) | (simp; omega) | omega) _ | refine belowN ?_ _ | refine Below.drew ?_ | refine Below.alloc ?_ (by first | (simp; done) | (simp; omega) | omega) _ | refine Below.trans ?_ (Below.mono (by assumption) (by first | (simp; done) | (simp; omega) | omega)))))) hs2).mono ?_
  rintro e w11 ⟨⟨u2, rfl, own⟩, hb⟩
  have q11 : Below w10.heap.size w10 w11 := by (repeat (first | exact Below.refl _ _ | refine Below.setCell ?_ (by first | (simp; done) | (simp; omega) | omega) _ | refine belowN ?_ _ | refine Below.drew ?_ | refine Below.alloc ?_ (by first | (simp; done) | (simp; omega) | omega) _ | refine Below.trans ?_ (Below.mono (by assumption) (by first | (simp; done) | (simp; omega) | omega))))
  have s11 : w10.heap.size ≤ w11.heap.size := q11.size
  have B11 : Below w.heap.size w w11 := B10.trans (q11.mono (by omega))
  have C11 := Lib.hid (C10.out.trans (q11.mono (by omega)))
  have X1_11 := Lib.hid (X1_10.out.below q11)
  have X2_11 := Lib.hid (X2_10.out.below q11)
  clear hb q11
  go_wp2_with fail
  refine (eqPointS_yes _ _ Q2 _ (X2_11.out.qs.below (by (repeat (first | exact Below.refl _ _ | refine Below.setCell ?_ (by first | (simp; done) | (simp; omega) | omega) _ | refine belowN ?_ _ | refine Below.drew ?_ | refine Below.alloc ?_ (by first | (simp; done) | (simp; omega) | omega) _ | refine Below.trans ?_ (Below.mono (by assumption) (by first | (simp; done) | (simp; omega) | omega)))))) (own.1.qs.below (by (repeat (first | exact Below.refl _ _ | refine Below.setCell ?_ (by first | (simp; done) | (simp; omega) | omega) _ | refine belowN ?_ _ | refine Below.drew ?_ | refine Below.alloc ?_ (by first | (simp; done) | (simp; omega) | omega) _ | refine Below.trans ?_ (Below.mono (by assumption) (by first | (simp; done) | (simp; omega) | omega))))))).mono ?_
  rintro e w12 ⟨rfl, hb⟩
  have q12 : Below w11.heap.size w11 w12 := by (repeat (first | exact Below.refl _ _ | refine Below.setCell ?_ (by first | (simp; done) | (simp; omega) | omega) _ | refine belowN ?_ _ | refine Below.drew ?_ | refine Below.alloc ?_ (by first | (simp; done) | (simp; omega) | omega) _ | refine Below.trans ?_ (Below.mono (by assumption) (by first | (simp; done) | (simp; omega) | omega))))
  have s12 : w11.heap.size ≤ w12.heap.size := q12.size
  have B12 : Below w.heap.size w w12 := B11.trans (q12.mono (by omega))
  have C12 := Lib.hid (C11.out.trans (q12.mono (by omega)))
  have X1_12 := Lib.hid (X1_11.out.below q12)
  have X2_12 := Lib.hid (X2_11.out.below q12)
  clear hb q12 own
  go_wp2_with fail
  go_ret
  exact ⟨rfl, B12⟩

namespace fnExactSameShape
open Go.ChangeShapes Go.WideShapes Go.ChangeAt Go.RowKit Go.Joins
open Go.ChangeMaps (open_string shut_string)
theorem own : ownKnob Try.prog.godebug = none := by kernel_rfl
theorem laidOut : laidOutB Try.prog = true := by kernel_rfl
theorem readable : (Try.f9.params.toList.all fun t => Try.prog.readableRec t && decide (t < Try.prog.types.size)) = true := by kernel_rfl
set_option maxRecDepth 100000 in
set_option linter.unusedVariables false in
theorem contract (H : Type) (enc : TypeId × Value → H) (W : World) (base : Nat) (args : Array Value) (ds gs : List (DataW H)) (before : List MemPlace)
    (hval : ∀ (j : Nat) t v, Try.f9.params[j]? = some t → args[j]? = some v → Value.okWide Try.prog W .any base t v)
    (hW : DataW.Whole enc Try.prog Try.f9.params.toList Rows.fnExactSameShapeSpec.vars false W args.toList ds gs before) :
    Calls Try.prog 9 args W fun e W' => ∃ v, e = .returned v ∧ Rows.fnExactSameShapeSpec.post enc Try.prog Try.f9 false true false false W args v W' := by
  have hW' := hW
  obtain ⟨p, q, hA0, hV, rfl, hfz, hnd⟩ := hW
  have hA : DataW.TrodAll enc Try.prog W 0 (fun _ => true) true Try.f9.params.toList args.toList ds p := hA0
  rw [Try.params9] at hA hval
  obtain ⟨v0, vs0, d0, ds0, p0, q0, ha0, rfl, rfl, h0, r0⟩ := trodAll_cons hA
  obtain ⟨v1, vs1, d1, ds1, p1, q1, ha1, rfl, rfl, h1, r1⟩ := trodAll_cons r0
  obtain ⟨rfl, rfl, rfl⟩ := trodAll_nil r1
  obtain rfl : args = #[v0, v1] := by cases args; simp_all
  obtain ⟨rfl, rfl⟩ := trodVars_none hV
  obtain ⟨n0, y0, hy0⟩ := open_value Try.underlying47 (hval 0 47 v0 rfl rfl) h0
  obtain ⟨Q0, hg0, og0⟩ := open_points (t := 47) (e := 26) (ti := 2) Try.underlying47 Try.underlying26 (by kernel_rfl) (by kernel_rfl) ⟨rfl, rfl⟩ ⟨rfl, rfl⟩ Try.underlying2 hy0
  obtain ⟨n1, y1, hy1⟩ := open_value Try.underlying47 (hval 1 47 v1 rfl rfl) h1
  obtain ⟨Q1, hg1, og1⟩ := open_points (t := 47) (e := 26) (ti := 2) Try.underlying47 Try.underlying26 (by kernel_rfl) (by kernel_rfl) ⟨rfl, rfl⟩ ⟨rfl, rfl⟩ Try.underlying2 hy1
  refine (walk_FnExactSameShape v0 Q0 v1 Q1 W hg0 og0 hg1 og1).mono fun e W' ⟨he, hg⟩ => ?_
  subst he
  exact ⟨_, rfl, post_mem laidOut readable hW' (fun _ _ _ => (trodAll_cons_mk (shut_bool Try.underlying4 _) trodAll_mk0)) hA0 rfl rfl (by simp) hg⟩
set_option maxRecDepth 100000 in
theorem lifted (os : Os) (started : os.Started) (H : Type) (enc : TypeId × Value → H) :
    ReturnsInHanded {} Try.checked os 9 .any (Rows.fnExactSameShapeSpec.pre6 enc Try.prog Try.f9 Rows.fnExactSameShapeRow.domain false) (Rows.fnExactSameShapeSpec.post enc Try.prog Try.f9 false true false false) := by
  refine returnsInHanded_of_change (C := Try.checked) own started (by kernel_rfl) Try.func9
    (ChangeSpec.witness6 (enc := enc) (C := Try.checked) false ⟨#[], #[.slice none 0 0, .slice none 0 0], []⟩ 8 (by kernel_rfl) (by kernel_rfl) (by kernel_rfl) (by kernel_rfl)) ?_
  intro W base args ds gs before hval hW _ _
  exact contract H enc W base args ds gs before hval hW
end fnExactSameShape
theorem fnExactSameShape_holds : Rows.FnExactSameShapeSaid :=
  OpenClaim.holds_of_wide 9 Try.f9 rfl rfl rfl rfl rfl rfl rfl ⟨rfl, rfl, rfl, rfl, rfl⟩ rfl rfl rfl rfl rfl (by kernel_rfl) Try.func9 (by kernel_rfl)
    (of_decide_eq_true (by kernel_rfl)) (by unfold Func.isWrapper; first | (rw [if_pos (by decide +kernel)]; kernel_rfl) | (rw [if_neg (by decide +kernel)]; exact ⟨rfl, rfl⟩))
    (fun os started H enc _ => fnExactSameShape.lifted os started H enc)
end Go.Proofs.Ytaeaflbmaokieaa
