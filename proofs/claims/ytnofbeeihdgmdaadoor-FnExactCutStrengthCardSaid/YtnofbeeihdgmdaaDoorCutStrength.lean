/-
  For every set of tiles, every assembly and every list of numbers, CutStrength of the program answers as the model's, both results; the law FnExactCutStrength returns true and leaves its arguments as they were. Condition: the listed table of steps starts as the program's text lays it (the card ties it).
-/
import Derived.Test.YtnofbeeihdgmdaaDoorCut
import Derived.Test.YtnofbeeihdgmdaaDoorMark
import Derived.Test.YtnofbeeihdgmdaaDoorZs
import Derived.Test.YtnofbeeihdgmdaaDoorStO
namespace Go.Proofs.YtnofbeeihdgmdaaDoor
open Go.RowKit

set_option maxRecDepth 100000 in
set_option maxHeartbeats 1000000 in
set_option linter.unusedVariables false in
set_option linter.unusedSimpArgs false in
theorem walk_FnExactCutStrength (vg1 vt1 : Value) (S1 : Set_) (v2 : Value) (P2 : List Pl) (v3 : Value) (Z3 : List Int) (w : World) (h1 : SetIn w vg1 vt1 S1) (ok1 : S1.ok) (h2 : Plcs w v2 P2) (ok2 : ∀ p ∈ P2, p.ok) (h3 : Ints w v3 Z3) (ok3 : ∀ z ∈ Z3, (Lit.int .i64 z).wf = true) (hL : laidMetH Tryd.prog Rows.fnExactCutStrengthRow.laid w) :
    Calls Tryd.prog 7 #[.agg #[vg1, vt1], .agg #[v2], v3] w fun e w' => e = .returned (.bool true) ∧ Below w.heap.size w w' := by
  have hTab := Lib.hid (steps_of (rest := []) hL)
  have hTlt := hTab.out.lt
  clear hL
  have H1 := Lib.hid h1
  clear h1
  have H2 := Lib.hid h2
  clear h2
  have H3 := Lib.hid h3
  clear h3
  have A1_0' : At ((w.alloc (.cells #[vg1, vt1] 25)).alloc (.cells #[v2] 28)) (w.heap.size) (vg1) (vt1) := ⟨by simp [go_sem], by simp [go_sem]⟩
  have A1_0 := Lib.hid A1_0'
  clear A1_0'
  have A2_0' : At1 ((w.alloc (.cells #[vg1, vt1] 25)).alloc (.cells #[v2] 28)) (w.heap.size + 1) v2 := ⟨by simp [go_sem]⟩
  have A2_0 := Lib.hid A2_0'
  clear A2_0'
  obtain ⟨ao3, cp3, rfl, hcl3, hcm3, -⟩ := id H3.out
  unfold maxLen at hcm3
  by_cases hs3 : 1048576 < Z3.length
  · have kp : decide ((1048576 : Int) < (Z3.length : Int)) = true := by simp; omega
    go_enter Tryd.func7, Tryd.ntmps7
    go_wp2
    go_ret
    exact ⟨rfl, by (repeat (first | exact Below.refl _ _ | refine Below.setCell ?_ (by first | (simp; done) | (simp; omega) | omega) _ | refine belowN ?_ _ | refine Below.drew ?_ | refine Below.alloc ?_ (by first | (simp; done) | (simp; omega) | omega) _ | refine Below.trans ?_ (Below.mono (by assumption) (by first | (simp; done) | (simp; omega) | omega))))⟩
  have kp3 : decide ((1048576 : Int) < (Z3.length : Int)) = false := by simp; omega
  replace hs3 : Z3.length ≤ 1048576 := by omega
  go_enter Tryd.func7, Tryd.ntmps7
  go_wp2_with fail
  clear kp3
  refine (szTileSet_any vg1 vt1 S1 1048576 _ (H1.out.below (by (repeat (first | exact Below.refl _ _ | refine Below.setCell ?_ (by first | (simp; done) | (simp; omega) | omega) _ | refine belowN ?_ _ | refine Below.drew ?_ | refine Below.alloc ?_ (by first | (simp; done) | (simp; omega) | omega) _ | refine Below.trans ?_ (Below.mono (by assumption) (by first | (simp; done) | (simp; omega) | omega)))))) ok1 (by omega) (by omega)).mono ?_
  rintro e w1 ⟨⟨r1, rfl, hr⟩, hb⟩
  have B1 : Below w.heap.size w w1 := by (repeat (first | exact Below.refl _ _ | refine Below.setCell ?_ (by first | (simp; done) | (simp; omega) | omega) _ | refine belowN ?_ _ | refine Below.drew ?_ | refine Below.alloc ?_ (by first | (simp; done) | (simp; omega) | omega) _ | refine Below.trans ?_ (Below.mono (by assumption) (by first | (simp; done) | (simp; omega) | omega))))
  have A1_1 := Lib.hid (A1_0.out.below hb)
  have A2_1 := Lib.hid (A2_0.out.below hb)
  have s1 : w.heap.size + 1 < w1.heap.size := A2_1.out.lt
  clear hb
  rcases hr with rfl | ⟨hl1, hm1, hs1⟩
  · go_wp2
    go_ret
    exact ⟨rfl, B1⟩
  have bb1 : decide (r1 < 0) = false := by simp; omega
  obtain ⟨kA10, kA11⟩ := A1_1.out
  have lA1 := A1_1.out.lt
  obtain ⟨kA20⟩ := A2_1.out
  have lA2 := A2_1.out.lt
  go_wp2_with fail
  clear kA10 kA11 lA1 kA20 lA2
  refine (szAssembly_any v2 P2 r1 _ (H2.out.below (by (repeat (first | exact Below.refl _ _ | refine Below.setCell ?_ (by first | (simp; done) | (simp; omega) | omega) _ | refine belowN ?_ _ | refine Below.drew ?_ | refine Below.alloc ?_ (by first | (simp; done) | (simp; omega) | omega) _ | refine Below.trans ?_ (Below.mono (by assumption) (by first | (simp; done) | (simp; omega) | omega)))))) hl1 (by omega)).mono ?_
  rintro e w2 ⟨⟨r2, rfl, hr⟩, hb⟩
  have q2 : Below w1.heap.size w1 w2 := by (repeat (first | exact Below.refl _ _ | refine Below.setCell ?_ (by first | (simp; done) | (simp; omega) | omega) _ | refine belowN ?_ _ | refine Below.drew ?_ | refine Below.alloc ?_ (by first | (simp; done) | (simp; omega) | omega) _ | refine Below.trans ?_ (Below.mono (by assumption) (by first | (simp; done) | (simp; omega) | omega))))
  have s2 : w1.heap.size ≤ w2.heap.size := q2.size
  have B2 : Below w.heap.size w w2 := B1.trans (q2.mono (by omega))
  have A1_2 := Lib.hid (A1_1.out.below q2)
  have A2_2 := Lib.hid (A2_1.out.below q2)
  clear hb q2
  rcases hr with rfl | ⟨hl2, hm2, hs2⟩
  · go_wp2
    go_ret
    exact ⟨rfl, B2⟩
  have bb2 : decide (r2 < 0) = false := by simp; omega
  obtain ⟨kA10, kA11⟩ := A1_2.out
  have lA1 := A1_2.out.lt
  obtain ⟨kA20⟩ := A2_2.out
  have lA2 := A2_2.out.lt
  go_wp2_with fail
  go_region_held3 (fun w' => w'.cell? ⟨w.heap.size, 0, none⟩ = some (vg1) ∧ w'.cell? ⟨w.heap.size, 1, none⟩ = some (vt1) ∧ w'.cell? ⟨w.heap.size + 1, 0, none⟩ = some (v2)) ((((try go_split_ands); (try dsimp only); (repeat' apply And.intro)) <;> (repeat (first | with_reducible assumption | ((with_reducible refine cnew0 ?_); simp; done) | ((with_reducible refine cnew1 ?_); simp; done) | (with_reducible refine akeep ?_) | (with_reducible refine dkeep ?_) | ((with_reducible refine skeep ?_ ?_); rotate_left; (first | ((try dsimp only); omega) | (simp; done) | (simp; omega))) | (with_reducible refine bkeep hb3 ?_)))))
    (first
      | (go_at_call_of 12 (Value.agg #[vg1, vt1]); refine (toTileSet_any vg1 vt1 S1 _ (H1.out.below (by (repeat (first | exact Below.refl _ _ | refine Below.setCell ?_ (by first | (simp; done) | (simp; omega) | omega) _ | refine belowN ?_ _ | refine Below.drew ?_ | refine Below.alloc ?_ (by first | (simp; done) | (simp; omega) | omega) _ | refine Below.trans ?_ (Below.mono (by assumption) (by first | (simp; done) | (simp; omega) | omega)))))) hs1).mono ?_; rintro e w3 ⟨⟨z1g, z1t, rfl, zo1⟩, hb3⟩; have s3 : w2.heap.size ≤ w3.heap.size := Nat.le_trans (by first | exact Nat.le_refl _ | (simp; done) | (simp; omega)) hb3.size)
      | (go_at_call_of 13 (Value.agg #[v2]); refine (toAssembly_any v2 P2 _ (H2.out.below (by (repeat (first | exact Below.refl _ _ | refine Below.setCell ?_ (by first | (simp; done) | (simp; omega) | omega) _ | refine belowN ?_ _ | refine Below.drew ?_ | refine Below.alloc ?_ (by first | (simp; done) | (simp; omega) | omega) _ | refine Below.trans ?_ (Below.mono (by assumption) (by first | (simp; done) | (simp; omega) | omega)))))) hs2).mono ?_; rintro e w4 ⟨⟨z2, rfl, zo2⟩, hb3⟩; have s4 : w3.heap.size ≤ w4.heap.size := Nat.le_trans (by first | exact Nat.le_refl _ | (simp; done) | (simp; omega)) hb3.size)
      | (go_at_call_of 30 (Value.slice ao3 Z3.length cp3); refine (toInt64S_new (.slice ao3 Z3.length cp3) Z3 _ (H3.out.below (by (repeat (first | exact Below.refl _ _ | refine Below.setCell ?_ (by first | (simp; done) | (simp; omega) | omega) _ | refine belowN ?_ _ | refine Below.drew ?_ | refine Below.alloc ?_ (by first | (simp; done) | (simp; omega) | omega) _ | refine Below.trans ?_ (Below.mono (by assumption) (by first | (simp; done) | (simp; omega) | omega)))))) hs3).mono ?_; rintro e w5 ⟨⟨z3, rfl, zo3⟩, hb3⟩; have s5 : w4.heap.size ≤ w5.heap.size := Nat.le_trans (by first | exact Nat.le_refl _ | (simp; done) | (simp; omega)) hb3.size)
      | (go_at_call 29; refine (specCutStrength_law z1g z1t S1 z2 P2 z3 Z3 _ ((zo1.setIn hs1).below (by (repeat (first | exact Below.refl _ _ | refine Below.setCell ?_ (by first | (simp; done) | (simp; omega) | omega) _ | refine belowN ?_ _ | refine Below.drew ?_ | refine Below.alloc ?_ (by first | (simp; done) | (simp; omega) | omega) _ | refine Below.trans ?_ (Below.mono (by assumption) (by first | (simp; done) | (simp; omega) | omega)))))) zo1.sol ok1 hs1 (zo2.1.plcs.below (by (repeat (first | exact Below.refl _ _ | refine Below.setCell ?_ (by first | (simp; done) | (simp; omega) | omega) _ | refine belowN ?_ _ | refine Below.drew ?_ | refine Below.alloc ?_ (by first | (simp; done) | (simp; omega) | omega) _ | refine Below.trans ?_ (Below.mono (by assumption) (by first | (simp; done) | (simp; omega) | omega)))))) zo2.2 ok2 hs2 (zo3.1.ints.below (by (repeat (first | exact Below.refl _ _ | refine Below.setCell ?_ (by first | (simp; done) | (simp; omega) | omega) _ | refine belowN ?_ _ | refine Below.drew ?_ | refine Below.alloc ?_ (by first | (simp; done) | (simp; omega) | omega) _ | refine Below.trans ?_ (Below.mono (by assumption) (by first | (simp; done) | (simp; omega) | omega)))))) zo3.2 ok3 hs3).mono ?_; rintro e w6 ⟨rfl, hb3⟩; have s6 : w5.heap.size ≤ w6.heap.size := Nat.le_trans (by first | exact Nat.le_refl _ | (simp; done) | (simp; omega)) hb3.size))
  have q6 : Below w2.heap.size w2 w6 := by (repeat (first | exact Below.refl _ _ | refine Below.setCell ?_ (by first | (simp; done) | (simp; omega) | omega) _ | refine belowN ?_ _ | refine Below.drew ?_ | refine Below.alloc ?_ (by first | (simp; done) | (simp; omega) | omega) _ | refine Below.trans ?_ (Below.mono (by assumption) (by first | (simp; done) | (simp; omega) | omega))))
  have B6 : Below w.heap.size w w6 := B2.trans (q6.mono (by omega))
  have A1_6 := Lib.hid (A1_2.out.below q6)
  have A2_6 := Lib.hid (A2_2.out.below q6)
  clear kA10 kA11 lA1 kA20 lA2
  clear hb3 q6
  obtain ⟨kA10, kA11⟩ := A1_6.out
  have lA1 := A1_6.out.lt
  go_wp2_with fail
  refine (toTileSet_any vg1 vt1 S1 _ (H1.out.below (by (repeat (first | exact Below.refl _ _ | refine Below.setCell ?_ (by first | (simp; done) | (simp; omega) | omega) _ | refine belowN ?_ _ | refine Below.drew ?_ | refine Below.alloc ?_ (by first | (simp; done) | (simp; omega) | omega) _ | refine Below.trans ?_ (Below.mono (by assumption) (by first | (simp; done) | (simp; omega) | omega)))))) hs1).mono ?_
  rintro e w7 ⟨⟨x1_g, x1_t, rfl, own⟩, hb⟩
  have q7 : Below w6.heap.size w6 w7 := by (repeat (first | exact Below.refl _ _ | refine Below.setCell ?_ (by first | (simp; done) | (simp; omega) | omega) _ | refine belowN ?_ _ | refine Below.drew ?_ | refine Below.alloc ?_ (by first | (simp; done) | (simp; omega) | omega) _ | refine Below.trans ?_ (Below.mono (by assumption) (by first | (simp; done) | (simp; omega) | omega))))
  have s7 : w6.heap.size ≤ w7.heap.size := q7.size
  have B7 : Below w.heap.size w w7 := B6.trans (q7.mono (by omega))
  have C7 := Lib.hid q7
  have A1_7 := Lib.hid (A1_6.out.below q7)
  have A2_7 := Lib.hid (A2_6.out.below q7)
  have SL1 := own.sol
  have X1_7 := Lib.hid (OwnSet.mono (lo' := w6.heap.size) (hi' := w7.heap.size) (own.own hs1) (by first | (simp; done) | (simp; omega)) (Nat.le_refl _))
  clear hb q7 own kA10 kA11 lA1
  obtain ⟨x1_g0, x1_g1, x1_g2, x1_g3, x1_g4, x1_g5, rfl, rfl⟩ := X1_7.out.setIn.shape
  obtain ⟨kA20⟩ := A2_7.out
  have lA2 := A2_7.out.lt
  go_wp2_with fail
  refine (toAssembly_any v2 P2 _ (H2.out.below (by (repeat (first | exact Below.refl _ _ | refine Below.setCell ?_ (by first | (simp; done) | (simp; omega) | omega) _ | refine belowN ?_ _ | refine Below.drew ?_ | refine Below.alloc ?_ (by first | (simp; done) | (simp; omega) | omega) _ | refine Below.trans ?_ (Below.mono (by assumption) (by first | (simp; done) | (simp; omega) | omega)))))) hs2).mono ?_
  rintro e w8 ⟨⟨x2_, rfl, own⟩, hb⟩
  have q8 : Below w7.heap.size w7 w8 := by (repeat (first | exact Below.refl _ _ | refine Below.setCell ?_ (by first | (simp; done) | (simp; omega) | omega) _ | refine belowN ?_ _ | refine Below.drew ?_ | refine Below.alloc ?_ (by first | (simp; done) | (simp; omega) | omega) _ | refine Below.trans ?_ (Below.mono (by assumption) (by first | (simp; done) | (simp; omega) | omega))))
  have s8 : w7.heap.size ≤ w8.heap.size := q8.size
  have B8 : Below w.heap.size w w8 := B7.trans (q8.mono (by omega))
  have C8 := Lib.hid (C7.out.trans (q8.mono (by omega)))
  have A1_8 := Lib.hid (A1_7.out.below q8)
  have A2_8 := Lib.hid (A2_7.out.below q8)
  have X1_8 := Lib.hid (X1_7.out.below q8)
  have Y1_8 := Lib.hid (At.below (p := w7.heap.size) (vg := (.slice x1_g0 x1_g1 x1_g2)) (vt := (.slice x1_g3 x1_g4 x1_g5)) (by exact ⟨by simp [go_sem], by simp [go_sem]⟩) hb)
  have lbY1 := Y1_8.out.lt
  have SL2 := own.2
  have X2_8 := Lib.hid (OwnA.mono (lo' := w7.heap.size + 1) (hi' := w8.heap.size) own.1 (by first | (simp; done) | (simp; omega)) (Nat.le_refl _))
  clear hb q8 own kA20 lA2
  obtain ⟨x2_a, x2_n, x2_c, rfl⟩ := X2_8.out.plcs.shape
  go_wp2_with fail
  refine (toInt64S_new (.slice ao3 Z3.length cp3) Z3 _ (H3.out.below (by (repeat (first | exact Below.refl _ _ | refine Below.setCell ?_ (by first | (simp; done) | (simp; omega) | omega) _ | refine belowN ?_ _ | refine Below.drew ?_ | refine Below.alloc ?_ (by first | (simp; done) | (simp; omega) | omega) _ | refine Below.trans ?_ (Below.mono (by assumption) (by first | (simp; done) | (simp; omega) | omega)))))) hs3).mono ?_
  rintro e w9 ⟨⟨x3_, rfl, own⟩, hb⟩
  have q9 : Below w8.heap.size w8 w9 := by (repeat (first | exact Below.refl _ _ | refine Below.setCell ?_ (by first | (simp; done) | (simp; omega) | omega) _ | refine belowN ?_ _ | refine Below.drew ?_ | refine Below.alloc ?_ (by first | (simp; done) | (simp; omega) | omega) _ | refine Below.trans ?_ (Below.mono (by assumption) (by first | (simp; done) | (simp; omega) | omega))))
  have s9 : w8.heap.size ≤ w9.heap.size := q9.size
  have B9 : Below w.heap.size w w9 := B8.trans (q9.mono (by omega))
  have C9 := Lib.hid (C8.out.trans (q9.mono (by omega)))
  have A1_9 := Lib.hid (A1_8.out.below q9)
  have A2_9 := Lib.hid (A2_8.out.below q9)
  have X1_9 := Lib.hid (X1_8.out.below q9)
  have Y1_9 := Lib.hid (Y1_8.out.below q9)
  have X2_9 := Lib.hid (X2_8.out.below q9)
  have Y2_9 := Lib.hid (At1.below (p := w8.heap.size) (v := (.slice x2_a x2_n x2_c)) (by exact ⟨by simp [go_sem]⟩) hb)
  have lbY2 := Y2_9.out.lt
  have SL3 := own.2
  have X3_9 := Lib.hid (OwnZ.mono (lo' := w8.heap.size + 1) (hi' := w9.heap.size) own.1 (by first | (simp; done) | (simp; omega)) (Nat.le_refl _))
  clear hb q9 own 
  obtain ⟨x3_a, x3_n, x3_c, rfl⟩ := X3_9.out.ints.shape
  obtain ⟨kY10, kY11⟩ := Y1_9.out
  have lY1 := Y1_9.out.lt
  obtain ⟨kY20⟩ := Y2_9.out
  have lY2 := Y2_9.out.lt
  go_wp2_with fail
  refine (implCutStrength_law (.slice x1_g0 x1_g1 x1_g2) (.slice x1_g3 x1_g4 x1_g5) S1 (.slice x2_a x2_n x2_c) P2 (.slice x3_a x3_n x3_c) Z3 _ (X1_9.out.setIn.below (by (repeat (first | exact Below.refl _ _ | refine Below.setCell ?_ (by first | (simp; done) | (simp; omega) | omega) _ | refine belowN ?_ _ | refine Below.drew ?_ | refine Below.alloc ?_ (by first | (simp; done) | (simp; omega) | omega) _ | refine Below.trans ?_ (Below.mono (by assumption) (by first | (simp; done) | (simp; omega) | omega)))))) SL1 ok1 hs1 (X2_9.out.plcs.below (by (repeat (first | exact Below.refl _ _ | refine Below.setCell ?_ (by first | (simp; done) | (simp; omega) | omega) _ | refine belowN ?_ _ | refine Below.drew ?_ | refine Below.alloc ?_ (by first | (simp; done) | (simp; omega) | omega) _ | refine Below.trans ?_ (Below.mono (by assumption) (by first | (simp; done) | (simp; omega) | omega)))))) SL2 ok2 hs2 (X3_9.out.ints.below (by (repeat (first | exact Below.refl _ _ | refine Below.setCell ?_ (by first | (simp; done) | (simp; omega) | omega) _ | refine belowN ?_ _ | refine Below.drew ?_ | refine Below.alloc ?_ (by first | (simp; done) | (simp; omega) | omega) _ | refine Below.trans ?_ (Below.mono (by assumption) (by first | (simp; done) | (simp; omega) | omega)))))) SL3 ok3 hs3 (hTab.out.below (B := w.heap.size) (by (repeat (first | exact Below.refl _ _ | refine Below.setCell ?_ (by first | (simp; done) | (simp; omega) | omega) _ | refine belowN ?_ _ | refine Below.drew ?_ | refine Below.alloc ?_ (by first | (simp; done) | (simp; omega) | omega) _ | refine Below.trans ?_ (Below.mono (by assumption) (by first | (simp; done) | (simp; omega) | omega))))) hTlt)).mono ?_
  rintro e w10 ⟨rfl, hb⟩
  have q10 : Below w9.heap.size w9 w10 := by (repeat (first | exact Below.refl _ _ | refine Below.setCell ?_ (by first | (simp; done) | (simp; omega) | omega) _ | refine belowN ?_ _ | refine Below.drew ?_ | refine Below.alloc ?_ (by first | (simp; done) | (simp; omega) | omega) _ | refine Below.trans ?_ (Below.mono (by assumption) (by first | (simp; done) | (simp; omega) | omega))))
  have s10 : w9.heap.size ≤ w10.heap.size := q10.size
  have B10 : Below w.heap.size w w10 := B9.trans (q10.mono (by omega))
  have C10 := Lib.hid (C9.out.trans (q10.mono (by omega)))
  have A1_10 := Lib.hid (A1_9.out.below q10)
  have A2_10 := Lib.hid (A2_9.out.below q10)
  have X1_10 := Lib.hid (X1_9.out.below q10)
  have Y1_10 := Lib.hid (Y1_9.out.below q10)
  have X2_10 := Lib.hid (X2_9.out.below q10)
  have Y2_10 := Lib.hid (Y2_9.out.below q10)
  have X3_10 := Lib.hid (X3_9.out.below q10)
  clear hb q10 kY10 kY11 lY1 kY20 lY2
  obtain ⟨kA10, kA11⟩ := A1_10.out
  have lA1 := A1_10.out.lt
  obtain ⟨kY10, kY11⟩ := Y1_10.out
  have lY1 := Y1_10.out.lt
  go_wp2_with fail
  go_region_held3 (fun w' => w'.cell? ⟨w.heap.size, 0, none⟩ = some (vg1) ∧ w'.cell? ⟨w.heap.size, 1, none⟩ = some (vt1) ∧ w'.cell? ⟨w7.heap.size, 0, none⟩ = some (.slice x1_g0 x1_g1 x1_g2) ∧ w'.cell? ⟨w7.heap.size, 1, none⟩ = some (.slice x1_g3 x1_g4 x1_g5)) ((((try go_split_ands); (try dsimp only); (repeat' apply And.intro)) <;> (repeat (first | with_reducible assumption | ((with_reducible refine cnew0 ?_); simp; done) | ((with_reducible refine cnew1 ?_); simp; done) | (with_reducible refine akeep ?_) | (with_reducible refine dkeep ?_) | ((with_reducible refine skeep ?_ ?_); rotate_left; (first | ((try dsimp only); omega) | (simp; done) | (simp; omega))) | (with_reducible refine bkeep hb3 ?_)))))
    (first
      | (go_at_call 12; refine (toTileSet_any vg1 vt1 S1 _ (H1.out.below (by (repeat (first | exact Below.refl _ _ | refine Below.setCell ?_ (by first | (simp; done) | (simp; omega) | omega) _ | refine belowN ?_ _ | refine Below.drew ?_ | refine Below.alloc ?_ (by first | (simp; done) | (simp; omega) | omega) _ | refine Below.trans ?_ (Below.mono (by assumption) (by first | (simp; done) | (simp; omega) | omega)))))) hs1).mono ?_; rintro e w11 ⟨⟨u1g, u1t, rfl, own⟩, hb3⟩; have s11 : w10.heap.size ≤ w11.heap.size := Nat.le_trans (by first | exact Nat.le_refl _ | (simp; done) | (simp; omega)) hb3.size)
      | (go_at_call 16; refine (eqTileSet_yes _ _ _ _ S1 _ (X1_10.out.setIn.below (by (repeat (first | exact Below.refl _ _ | refine Below.setCell ?_ (by first | (simp; done) | (simp; omega) | omega) _ | refine belowN ?_ _ | refine Below.drew ?_ | refine Below.alloc ?_ (by first | (simp; done) | (simp; omega) | omega) _ | refine Below.trans ?_ (Below.mono (by assumption) (by first | (simp; done) | (simp; omega) | omega)))))) ((own.setIn hs1).below (by (repeat (first | exact Below.refl _ _ | refine Below.setCell ?_ (by first | (simp; done) | (simp; omega) | omega) _ | refine belowN ?_ _ | refine Below.drew ?_ | refine Below.alloc ?_ (by first | (simp; done) | (simp; omega) | omega) _ | refine Below.trans ?_ (Below.mono (by assumption) (by first | (simp; done) | (simp; omega) | omega))))))).mono ?_; rintro e w12 ⟨rfl, hb3⟩; have s12 : w11.heap.size ≤ w12.heap.size := Nat.le_trans (by first | exact Nat.le_refl _ | (simp; done) | (simp; omega)) hb3.size))
  have q12 : Below w10.heap.size w10 w12 := by (repeat (first | exact Below.refl _ _ | refine Below.setCell ?_ (by first | (simp; done) | (simp; omega) | omega) _ | refine belowN ?_ _ | refine Below.drew ?_ | refine Below.alloc ?_ (by first | (simp; done) | (simp; omega) | omega) _ | refine Below.trans ?_ (Below.mono (by assumption) (by first | (simp; done) | (simp; omega) | omega))))
  have B12 : Below w.heap.size w w12 := B10.trans (q12.mono (by omega))
  have C12 := Lib.hid (C10.out.trans (q12.mono (by omega)))
  have A1_12 := Lib.hid (A1_10.out.below q12)
  have A2_12 := Lib.hid (A2_10.out.below q12)
  have X1_12 := Lib.hid (X1_10.out.below q12)
  have Y1_12 := Lib.hid (Y1_10.out.below q12)
  have X2_12 := Lib.hid (X2_10.out.below q12)
  have Y2_12 := Lib.hid (Y2_10.out.below q12)
  have X3_12 := Lib.hid (X3_10.out.below q12)
  clear hb3 q12 own kA10 kA11 lA1 kY10 kY11 lY1
  obtain ⟨kA20⟩ := A2_12.out
  have lA2 := A2_12.out.lt
  obtain ⟨kY20⟩ := Y2_12.out
  have lY2 := Y2_12.out.lt
  go_wp2_with fail
  go_region_held3 (fun w' => w'.cell? ⟨w.heap.size + 1, 0, none⟩ = some (v2) ∧ w'.cell? ⟨w8.heap.size, 0, none⟩ = some (.slice x2_a x2_n x2_c)) ((((try go_split_ands); (try dsimp only); (repeat' apply And.intro)) <;> (repeat (first | with_reducible assumption | ((with_reducible refine cnew0 ?_); simp; done) | ((with_reducible refine cnew1 ?_); simp; done) | (with_reducible refine akeep ?_) | (with_reducible refine dkeep ?_) | ((with_reducible refine skeep ?_ ?_); rotate_left; (first | ((try dsimp only); omega) | (simp; done) | (simp; omega))) | (with_reducible refine bkeep hb3 ?_)))))
    (first
      | (go_at_call 13; refine (toAssembly_any v2 P2 _ (H2.out.below (by (repeat (first | exact Below.refl _ _ | refine Below.setCell ?_ (by first | (simp; done) | (simp; omega) | omega) _ | refine belowN ?_ _ | refine Below.drew ?_ | refine Below.alloc ?_ (by first | (simp; done) | (simp; omega) | omega) _ | refine Below.trans ?_ (Below.mono (by assumption) (by first | (simp; done) | (simp; omega) | omega)))))) hs2).mono ?_; rintro e w13 ⟨⟨u2, rfl, own⟩, hb3⟩; have s13 : w12.heap.size ≤ w13.heap.size := Nat.le_trans (by first | exact Nat.le_refl _ | (simp; done) | (simp; omega)) hb3.size)
      | (go_at_call 17; refine (eqAssembly_yes _ _ P2 _ (X2_12.out.plcs.below (by (repeat (first | exact Below.refl _ _ | refine Below.setCell ?_ (by first | (simp; done) | (simp; omega) | omega) _ | refine belowN ?_ _ | refine Below.drew ?_ | refine Below.alloc ?_ (by first | (simp; done) | (simp; omega) | omega) _ | refine Below.trans ?_ (Below.mono (by assumption) (by first | (simp; done) | (simp; omega) | omega)))))) (own.1.plcs.below (by (repeat (first | exact Below.refl _ _ | refine Below.setCell ?_ (by first | (simp; done) | (simp; omega) | omega) _ | refine belowN ?_ _ | refine Below.drew ?_ | refine Below.alloc ?_ (by first | (simp; done) | (simp; omega) | omega) _ | refine Below.trans ?_ (Below.mono (by assumption) (by first | (simp; done) | (simp; omega) | omega))))))).mono ?_; rintro e w14 ⟨rfl, hb3⟩; have s14 : w13.heap.size ≤ w14.heap.size := Nat.le_trans (by first | exact Nat.le_refl _ | (simp; done) | (simp; omega)) hb3.size))
  have q14 : Below w12.heap.size w12 w14 := by (repeat (first | exact Below.refl _ _ | refine Below.setCell ?_ (by first | (simp; done) | (simp; omega) | omega) _ | refine belowN ?_ _ | refine Below.drew ?_ | refine Below.alloc ?_ (by first | (simp; done) | (simp; omega) | omega) _ | refine Below.trans ?_ (Below.mono (by assumption) (by first | (simp; done) | (simp; omega) | omega))))
  have B14 : Below w.heap.size w w14 := B12.trans (q14.mono (by omega))
  have C14 := Lib.hid (C12.out.trans (q14.mono (by omega)))
  have A1_14 := Lib.hid (A1_12.out.below q14)
  have A2_14 := Lib.hid (A2_12.out.below q14)
  have X1_14 := Lib.hid (X1_12.out.below q14)
  have Y1_14 := Lib.hid (Y1_12.out.below q14)
  have X2_14 := Lib.hid (X2_12.out.below q14)
  have Y2_14 := Lib.hid (Y2_12.out.below q14)
  have X3_14 := Lib.hid (X3_12.out.below q14)
  clear hb3 q14 own kA20 lA2 kY20 lY2
  go_wp2_with fail
  refine (toInt64S_new (.slice ao3 Z3.length cp3) Z3 _ (H3.out.below (by (repeat (first | exact Below.refl _ _ | refine Below.setCell ?_ (by first | (simp; done) | (simp; omega) | omega) _ | refine belowN ?_ _ | refine Below.drew ?_ | refine Below.alloc ?_ (by first | (simp; done) | (simp; omega) | omega) _ | refine Below.trans ?_ (Below.mono (by assumption) (by first | (simp; done) | (simp; omega) | omega)))))) hs3).mono ?_
  rintro e w15 ⟨⟨u3, rfl, own⟩, hb⟩
  have q15 : Below w14.heap.size w14 w15 := by (repeat (first | exact Below.refl _ _ | refine Below.setCell ?_ (by first | (simp; done) | (simp; omega) | omega) _ | refine belowN ?_ _ | refine Below.drew ?_ | refine Below.alloc ?_ (by first | (simp; done) | (simp; omega) | omega) _ | refine Below.trans ?_ (Below.mono (by assumption) (by first | (simp; done) | (simp; omega) | omega))))
  have s15 : w14.heap.size ≤ w15.heap.size := q15.size
  have B15 : Below w.heap.size w w15 := B14.trans (q15.mono (by omega))
  have C15 := Lib.hid (C14.out.trans (q15.mono (by omega)))
  have A1_15 := Lib.hid (A1_14.out.below q15)
  have A2_15 := Lib.hid (A2_14.out.below q15)
  have X1_15 := Lib.hid (X1_14.out.below q15)
  have Y1_15 := Lib.hid (Y1_14.out.below q15)
  have X2_15 := Lib.hid (X2_14.out.below q15)
  have Y2_15 := Lib.hid (Y2_14.out.below q15)
  have X3_15 := Lib.hid (X3_14.out.below q15)
  clear hb q15
  go_wp2_with fail
  refine (eqInt64S_yes _ _ Z3 _ (X3_15.out.ints.below (by (repeat (first | exact Below.refl _ _ | refine Below.setCell ?_ (by first | (simp; done) | (simp; omega) | omega) _ | refine belowN ?_ _ | refine Below.drew ?_ | refine Below.alloc ?_ (by first | (simp; done) | (simp; omega) | omega) _ | refine Below.trans ?_ (Below.mono (by assumption) (by first | (simp; done) | (simp; omega) | omega)))))) (own.1.ints.below (by (repeat (first | exact Below.refl _ _ | refine Below.setCell ?_ (by first | (simp; done) | (simp; omega) | omega) _ | refine belowN ?_ _ | refine Below.drew ?_ | refine Below.alloc ?_ (by first | (simp; done) | (simp; omega) | omega) _ | refine Below.trans ?_ (Below.mono (by assumption) (by first | (simp; done) | (simp; omega) | omega))))))).mono ?_
  rintro e w16 ⟨rfl, hb⟩
  have q16 : Below w15.heap.size w15 w16 := by (repeat (first | exact Below.refl _ _ | refine Below.setCell ?_ (by first | (simp; done) | (simp; omega) | omega) _ | refine belowN ?_ _ | refine Below.drew ?_ | refine Below.alloc ?_ (by first | (simp; done) | (simp; omega) | omega) _ | refine Below.trans ?_ (Below.mono (by assumption) (by first | (simp; done) | (simp; omega) | omega))))
  have s16 : w15.heap.size ≤ w16.heap.size := q16.size
  have B16 : Below w.heap.size w w16 := B15.trans (q16.mono (by omega))
  have C16 := Lib.hid (C15.out.trans (q16.mono (by omega)))
  have A1_16 := Lib.hid (A1_15.out.below q16)
  have A2_16 := Lib.hid (A2_15.out.below q16)
  have X1_16 := Lib.hid (X1_15.out.below q16)
  have Y1_16 := Lib.hid (Y1_15.out.below q16)
  have X2_16 := Lib.hid (X2_15.out.below q16)
  have Y2_16 := Lib.hid (Y2_15.out.below q16)
  have X3_16 := Lib.hid (X3_15.out.below q16)
  clear hb q16 own
  go_wp2_with fail
  go_ret
  exact ⟨rfl, B16⟩

namespace fnExactCutStrength
open Go.ChangeShapes Go.WideShapes Go.ChangeAt Go.RowKit Go.Joins Go.WideElems
open Go.ChangeMaps (open_string shut_string)
theorem own : ownKnob Tryd.prog.godebug = none := by kernel_rfl
theorem laidOut : laidOutB Tryd.prog = true := by kernel_rfl
theorem readable : (Tryd.f7.params.toList.all fun t => Tryd.prog.readableRec t && decide (t < Tryd.prog.types.size)) = true := by kernel_rfl
theorem rowed : varsRowed Tryd.prog Rows.fnExactCutStrengthSpec.vars = true := by kernel_rfl
theorem cells_0 : Tryd.prog.cellsOf 25 = 2 := by kernel_rfl
theorem cells_1 : Tryd.prog.cellsOf 28 = 1 := by kernel_rfl
theorem door_met (os : Os) (args : Array Value) : laidMetH Tryd.prog Rows.fnExactCutStrengthRow.laid ((World.doorLaid Tryd.prog 4000 os).forCall (fun _ _ => 0) ⟨#[], args, []⟩).memory :=
  laidMetH_of_parts3 (fuel := 8) (laidMet_of_run' 8 (by kernel_rfl) (by kernel_rfl)) (by kernel_rfl) (by kernel_rfl)
set_option maxRecDepth 100000 in
set_option linter.unusedVariables false in
theorem contract (H : Type) (enc : TypeId × Value → H) (W : World) (base : Nat) (args : Array Value) (ds gs : List (DataW H)) (before : List MemPlace)
    (hval : ∀ (j : Nat) t v, Tryd.f7.params[j]? = some t → args[j]? = some v → Value.okWide Tryd.prog W .any base t v)
    (hW : DataW.Whole enc Tryd.prog Tryd.f7.params.toList Rows.fnExactCutStrengthSpec.vars false W args.toList ds gs before) (hL : laidMetH Tryd.prog Rows.fnExactCutStrengthRow.laid W) :
    Calls Tryd.prog 7 args W fun e W' => ∃ v, e = .returned v ∧ Rows.fnExactCutStrengthSpec.post enc Tryd.prog Tryd.f7 false true false false W args v W' := by
  have hW' := hW
  obtain ⟨p, q, hA0, hV, rfl, hfz, hnd⟩ := hW
  have hA : DataW.TrodAll enc Tryd.prog W 0 (fun _ => true) true Tryd.f7.params.toList args.toList ds p := hA0
  rw [Tryd.params7] at hA hval
  obtain ⟨v0, vs0, d0, ds0, p0, q0, ha0, rfl, rfl, h0, r0⟩ := trodAll_cons hA
  obtain ⟨v1, vs1, d1, ds1, p1, q1, ha1, rfl, rfl, h1, r1⟩ := trodAll_cons r0
  obtain ⟨v2, vs2, d2, ds2, p2, q2, ha2, rfl, rfl, h2, r2⟩ := trodAll_cons r1
  obtain ⟨rfl, rfl, rfl⟩ := trodAll_nil r2
  obtain rfl : args = #[v0, v1, v2] := by cases args; simp_all
  have hV2 := hV
  obtain ⟨_, _, _, _, dv, _, rfl, -, -, -, -, -⟩ := trodVars_one hV
  obtain ⟨c0, e0, y0, z0, m0, rfl, -, -, hy0, hz0⟩ := open_agg2 Tryd.underlying25 (by kernel_rfl) cells_0 (hval 0 25 v0 rfl rfl) h0
  obtain ⟨gs0, hg0, og0⟩ := open_glues (t := 22) (e := 103) Tryd.underlying22 Tryd.underlying103 (by kernel_rfl) (by kernel_rfl) rfl rfl Tryd.underlying9 Tryd.underlying2 hy0
  obtain ⟨ts0, ht0, ot0⟩ := open_tiles (t := 23) (e := 106) Tryd.underlying23 Tryd.underlying106 (by kernel_rfl) (by kernel_rfl) rfl rfl Tryd.underlying9 Tryd.underlying58 Tryd.underlying2 (by kernel_rfl) hz0
  obtain ⟨c1, y1, m1, rfl, hy1⟩ := open_one Tryd.underlying28 (by kernel_rfl) cells_1 (hval 1 28 v1 rfl rfl) h1
  obtain ⟨ps1, hg1, og1⟩ := open_placed (t := 26) (e := 119) (tp := 30) (ti := 2) Tryd.underlying26 Tryd.underlying119 Tryd.underlying30 (by kernel_rfl) ⟨rfl, rfl⟩ ⟨rfl, rfl⟩ (by kernel_rfl) (by kernel_rfl) ⟨rfl, rfl⟩ ⟨rfl, rfl⟩ Tryd.underlying2 hy1
  obtain ⟨n2, y2, hy2⟩ := open_valueZ Tryd.underlying58 (hval 2 58 v2 rfl rfl) h2
  obtain ⟨Z2, hg2, og2⟩ := open_i64 (t := 58) (e := 2) Tryd.underlying58 Tryd.underlying2 (by kernel_rfl) hy2
  refine (walk_FnExactCutStrength c0 e0 ⟨gs0, ts0⟩ c1 ps1 v2 Z2 W ⟨hg0, ht0⟩ ⟨og0, ot0⟩ hg1 og1 hg2 og2 hL).mono fun e W' ⟨he, hg⟩ => ?_
  subst he
  exact ⟨_, rfl, post_card (pa := _) (pv := _) hW' (fun _ _ _ => (trodAll_cons_mk (shut_bool Tryd.underlying4 _) trodAll_mk0)) (Below.trodAll laidOut readable hA0 hg fun x hx => hW'.lt x (List.mem_append_left _ hx)) (Below.trodVars laidOut hg rowed hV2) rfl hg⟩
set_option maxRecDepth 100000 in
theorem lifted (os : Os) (started : os.Started) (H : Type) (enc : TypeId × Value → H) :
    ReturnsInHanded {} Tryd.checked os 7 .any (fun w args => (Rows.fnExactCutStrengthSpec.pre enc Tryd.prog Tryd.f7 [] false w args ∧ laidMetH Tryd.prog Rows.fnExactCutStrengthRow.laid w) ∧ sizedMet enc Tryd.prog Tryd.f7 (OpenSpec.ofChange Rows.fnExactCutStrengthSpec) false w args)
      (Rows.fnExactCutStrengthSpec.post enc Tryd.prog Tryd.f7 false true false false) := by
  refine returnsInHanded_of_change_and (C := Tryd.checked) (X := fun w _ => laidMetH Tryd.prog Rows.fnExactCutStrengthRow.laid w) (fun _ _ _ hh h => h.of_heap hh) own started (by kernel_rfl) Tryd.func7
    (ChangeSpec.witness_shaped (enc := enc) (C := Tryd.checked) (os := os) (X := fun w _ => laidMetH Tryd.prog Rows.fnExactCutStrengthRow.laid w) false (World.doorLaid Tryd.prog 4000 os) #[.agg #[.slice none 0 0, .slice none 0 0], .agg #[.slice none 0 0], .slice none 0 0] 8 rfl (World.shaped_of_RefB (by kernel_rfl) (by kernel_rfl)) (by kernel_rfl) (by kernel_rfl) (by kernel_rfl) (door_met os _)) ?_
  intro W base args ds gs before hval hW _ _ hL _
  exact contract H enc W base args ds gs before hval hW hL
theorem said : Rows.FnExactCutStrengthSaid :=
  OpenClaim.holds_of_wide 7 Tryd.f7 rfl rfl rfl rfl rfl rfl rfl ⟨rfl, rfl, rfl, rfl, rfl⟩ rfl rfl rfl rfl rfl (by kernel_rfl) Tryd.func7 (by kernel_rfl)
    (of_decide_eq_true (by kernel_rfl)) (by unfold Func.isWrapper; first | (rw [if_pos (by decide +kernel)]; kernel_rfl) | (rw [if_neg (by decide +kernel)]; exact ⟨rfl, rfl⟩))
    (fun os started H enc _ => lifted os started H enc)
theorem plain (f : FuncId) (fn : Func) (hf : Tryd.pinned.checked.prog.funcNamed "loop.example/g01081/laws.FnExactCutStrength" = some f) (hfn : Tryd.pinned.checked.prog.funcs[f]? = some fn) :
    Rows.fnExactCutStrengthCard.stood.looks = Tryd.pinned.checked.prog.looks [] ∧ ∀ (j : Nat) t, fn.params[j]? = some t → Tryd.pinned.checked.prog.wantsStandIn t = false := by
  obtain rfl : f = 7 := Option.some.inj ((show Tryd.prog.funcNamed "loop.example/g01081/laws.FnExactCutStrength" = some 7 by kernel_rfl).symm.trans hf) |>.symm
  obtain rfl : fn = Tryd.f7 := (Option.some.inj (Tryd.func7.symm.trans hfn)).symm
  refine ⟨by kernel_rfl, fun j t ht => ?_⟩
  rw [Tryd.params7] at ht
  have hm := Array.mem_of_getElem? ht
  simp at hm
  rcases hm with rfl | rfl | rfl
  · exact (show Tryd.prog.wantsStandIn 25 = false by kernel_rfl)
  · exact (show Tryd.prog.wantsStandIn 28 = false by kernel_rfl)
  · exact (show Tryd.prog.wantsStandIn 58 = false by kernel_rfl)
end fnExactCutStrength
theorem fnExactCutStrength_card : Rows.FnExactCutStrengthCardSaid :=
  Claim7.holds_tied_plain_at .later [] _ _ _ _ fnExactCutStrength.said (fun _ h => by cases h) (by kernel_rfl) (fun _ h => by cases h) fnExactCutStrength_row_tie rfl ⟨rfl, rfl⟩ (by kernel_rfl) rfl fnExactCutStrength.plain (by kernel_rfl)
end Go.Proofs.YtnofbeeihdgmdaaDoor
