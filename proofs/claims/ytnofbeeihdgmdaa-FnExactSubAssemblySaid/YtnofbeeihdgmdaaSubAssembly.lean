/-
  For every assembly and every list of numbers, SubAssembly of the program answers as the model's, both results, in memory of its own; the law FnExactSubAssembly returns true and leaves its arguments as they were. Conditions: none.
-/
import Derived.Test.YtnofbeeihdgmdaaSub
namespace Go.Proofs.Ytnofbeeihdgmdaa
open Go.RowKit

set_option maxRecDepth 100000 in
set_option maxHeartbeats 1000000 in
set_option linter.unusedVariables false in
set_option linter.unusedSimpArgs false in
theorem walk_FnExactSubAssembly (v1 : Value) (P1 : List Pl) (v2 : Value) (Z2 : List Int) (w : World) (h1 : Plcs w v1 P1) (ok1 : ∀ p ∈ P1, p.ok) (h2 : Ints w v2 Z2) (ok2 : ∀ z ∈ Z2, (Lit.int .i64 z).wf = true) :
    Calls Try.prog 3 #[.agg #[v1], v2] w fun e w' => e = .returned (.bool true) ∧ Below w.heap.size w w' := by
  have H1 := Lib.hid h1
  clear h1
  have H2 := Lib.hid h2
  clear h2
  have A1_0' : At1 (w.alloc (.cells #[v1] 24)) (w.heap.size) v1 := ⟨by simp [go_sem]⟩
  have A1_0 := Lib.hid A1_0'
  clear A1_0'
  obtain ⟨ao2, cp2, rfl, hcl2, hcm2, -⟩ := id H2.out
  unfold maxLen at hcm2
  by_cases hs2 : 1048576 < Z2.length
  · have kp : decide ((1048576 : Int) < (Z2.length : Int)) = true := by simp; omega
    go_enter Try.func3, Try.ntmps3
    go_wp2
    go_ret
    exact ⟨rfl, by (repeat (first | exact Below.refl _ _ | refine Below.setCell ?_ (by first | (simp; done) | (simp; omega) | omega) _ | refine belowN ?_ _ | refine Below.drew ?_ | refine Below.alloc ?_ (by first | (simp; done) | (simp; omega) | omega) _ | refine Below.trans ?_ (Below.mono (by assumption) (by first | (simp; done) | (simp; omega) | omega))))⟩
  have kp2 : decide ((1048576 : Int) < (Z2.length : Int)) = false := by simp; omega
  replace hs2 : Z2.length ≤ 1048576 := by omega
  go_enter Try.func3, Try.ntmps3
  go_wp2_with fail
  clear kp2
  refine (szAssembly_any v1 P1 1048576 _ (H1.out.below (by (repeat (first | exact Below.refl _ _ | refine Below.setCell ?_ (by first | (simp; done) | (simp; omega) | omega) _ | refine belowN ?_ _ | refine Below.drew ?_ | refine Below.alloc ?_ (by first | (simp; done) | (simp; omega) | omega) _ | refine Below.trans ?_ (Below.mono (by assumption) (by first | (simp; done) | (simp; omega) | omega)))))) (by omega) (by omega)).mono ?_
  rintro e w1 ⟨⟨r1, rfl, hr⟩, hb⟩
  have B1 : Below w.heap.size w w1 := by (repeat (first | exact Below.refl _ _ | refine Below.setCell ?_ (by first | (simp; done) | (simp; omega) | omega) _ | refine belowN ?_ _ | refine Below.drew ?_ | refine Below.alloc ?_ (by first | (simp; done) | (simp; omega) | omega) _ | refine Below.trans ?_ (Below.mono (by assumption) (by first | (simp; done) | (simp; omega) | omega))))
  have A1_1 := Lib.hid (A1_0.out.below hb)
  have s1 : w.heap.size < w1.heap.size := A1_1.out.lt
  clear hb
  rcases hr with rfl | ⟨hl1, hm1, hs1⟩
  · go_wp2
    go_ret
    exact ⟨rfl, B1⟩
  have bb1 : decide (r1 < 0) = false := by simp; omega
  obtain ⟨kA10⟩ := A1_1.out
  have lA1 := A1_1.out.lt
  go_wp2_with fail
  refine (toAssembly_any v1 P1 _ (H1.out.below (by (repeat (first | exact Below.refl _ _ | refine Below.setCell ?_ (by first | (simp; done) | (simp; omega) | omega) _ | refine belowN ?_ _ | refine Below.drew ?_ | refine Below.alloc ?_ (by first | (simp; done) | (simp; omega) | omega) _ | refine Below.trans ?_ (Below.mono (by assumption) (by first | (simp; done) | (simp; omega) | omega)))))) hs1).mono ?_
  rintro e w2 ⟨⟨z1, rfl, zo1⟩, hb⟩
  have q2 : Below w1.heap.size w1 w2 := by (repeat (first | exact Below.refl _ _ | refine Below.setCell ?_ (by first | (simp; done) | (simp; omega) | omega) _ | refine belowN ?_ _ | refine Below.drew ?_ | refine Below.alloc ?_ (by first | (simp; done) | (simp; omega) | omega) _ | refine Below.trans ?_ (Below.mono (by assumption) (by first | (simp; done) | (simp; omega) | omega))))
  have s2 : w1.heap.size ≤ w2.heap.size := q2.size
  have B2 : Below w.heap.size w w2 := B1.trans (q2.mono (by omega))
  have A1_2 := Lib.hid (A1_1.out.below q2)
  have Nz1_2 := Lib.hid zo1.1
  have SN1 := zo1.2
  clear hb zo1 q2
  clear kA10 lA1
  go_wp2_with fail
  refine (toInt64S_new (.slice ao2 Z2.length cp2) Z2 _ (H2.out.below (by (repeat (first | exact Below.refl _ _ | refine Below.setCell ?_ (by first | (simp; done) | (simp; omega) | omega) _ | refine belowN ?_ _ | refine Below.drew ?_ | refine Below.alloc ?_ (by first | (simp; done) | (simp; omega) | omega) _ | refine Below.trans ?_ (Below.mono (by assumption) (by first | (simp; done) | (simp; omega) | omega)))))) hs2).mono ?_
  rintro e w3 ⟨⟨z2, rfl, zo2⟩, hb⟩
  have q3 : Below w2.heap.size w2 w3 := by (repeat (first | exact Below.refl _ _ | refine Below.setCell ?_ (by first | (simp; done) | (simp; omega) | omega) _ | refine belowN ?_ _ | refine Below.drew ?_ | refine Below.alloc ?_ (by first | (simp; done) | (simp; omega) | omega) _ | refine Below.trans ?_ (Below.mono (by assumption) (by first | (simp; done) | (simp; omega) | omega))))
  have s3 : w2.heap.size ≤ w3.heap.size := q3.size
  have B3 : Below w.heap.size w w3 := B2.trans (q3.mono (by omega))
  have A1_3 := Lib.hid (A1_2.out.below q3)
  have Nz1_3 := Lib.hid (Nz1_2.out.below q3)
  have Nz2_3 := Lib.hid zo2.1
  have SN2 := zo2.2
  clear hb zo2 q3
  go_wp2_with fail
  refine (specSubAssembly_law z1 P1 z2 Z2 _ (Nz1_3.out.plcs.below (by (repeat (first | exact Below.refl _ _ | refine Below.setCell ?_ (by first | (simp; done) | (simp; omega) | omega) _ | refine belowN ?_ _ | refine Below.drew ?_ | refine Below.alloc ?_ (by first | (simp; done) | (simp; omega) | omega) _ | refine Below.trans ?_ (Below.mono (by assumption) (by first | (simp; done) | (simp; omega) | omega)))))) SN1 ok1 hs1 (Nz2_3.out.ints.below (by (repeat (first | exact Below.refl _ _ | refine Below.setCell ?_ (by first | (simp; done) | (simp; omega) | omega) _ | refine belowN ?_ _ | refine Below.drew ?_ | refine Below.alloc ?_ (by first | (simp; done) | (simp; omega) | omega) _ | refine Below.trans ?_ (Below.mono (by assumption) (by first | (simp; done) | (simp; omega) | omega)))))) SN2 ok2 hs2).mono ?_
  rintro e w4 ⟨⟨zr, rfl, zro⟩, hb⟩
  have q4 : Below w3.heap.size w3 w4 := by (repeat (first | exact Below.refl _ _ | refine Below.setCell ?_ (by first | (simp; done) | (simp; omega) | omega) _ | refine belowN ?_ _ | refine Below.drew ?_ | refine Below.alloc ?_ (by first | (simp; done) | (simp; omega) | omega) _ | refine Below.trans ?_ (Below.mono (by assumption) (by first | (simp; done) | (simp; omega) | omega))))
  have s4 : w3.heap.size ≤ w4.heap.size := q4.size
  have B4 : Below w.heap.size w w4 := B3.trans (q4.mono (by omega))
  have A1_4 := Lib.hid (A1_3.out.below q4)
  clear hb q4 SN1 SN2
  obtain ⟨zra, zrn, zrc, rfl⟩ := zro.plcs.shape
  have VS := Lib.hid zro.plcs
  clear zro
  obtain ⟨kA10⟩ := A1_4.out
  have lA1 := A1_4.out.lt
  go_wp2_with fail
  refine (toAssembly_any v1 P1 _ (H1.out.below (by (repeat (first | exact Below.refl _ _ | refine Below.setCell ?_ (by first | (simp; done) | (simp; omega) | omega) _ | refine belowN ?_ _ | refine Below.drew ?_ | refine Below.alloc ?_ (by first | (simp; done) | (simp; omega) | omega) _ | refine Below.trans ?_ (Below.mono (by assumption) (by first | (simp; done) | (simp; omega) | omega)))))) hs1).mono ?_
  rintro e w5 ⟨⟨x1_, rfl, own⟩, hb⟩
  have q5 : Below w4.heap.size w4 w5 := by (repeat (first | exact Below.refl _ _ | refine Below.setCell ?_ (by first | (simp; done) | (simp; omega) | omega) _ | refine belowN ?_ _ | refine Below.drew ?_ | refine Below.alloc ?_ (by first | (simp; done) | (simp; omega) | omega) _ | refine Below.trans ?_ (Below.mono (by assumption) (by first | (simp; done) | (simp; omega) | omega))))
  have s5 : w4.heap.size ≤ w5.heap.size := q5.size
  have B5 : Below w.heap.size w w5 := B4.trans (q5.mono (by omega))
  have C5 := Lib.hid q5
  have A1_5 := Lib.hid (A1_4.out.below q5)
  have W0_5 := Lib.hid (At1.below (p := w4.heap.size) (v := (.slice zra zrn zrc)) (by exact ⟨by simp [go_sem]⟩) hb)
  have lbW0 := W0_5.out.lt
  have SL1 := own.2
  have X1_5 := Lib.hid (OwnA.mono (lo' := w4.heap.size + 1) (hi' := w5.heap.size) own.1 (by first | (simp; done) | (simp; omega)) (Nat.le_refl _))
  clear hb q5 own kA10 lA1
  obtain ⟨x1_a, x1_n, x1_c, rfl⟩ := X1_5.out.plcs.shape
  go_wp2_with fail
  refine (toInt64S_new (.slice ao2 Z2.length cp2) Z2 _ (H2.out.below (by (repeat (first | exact Below.refl _ _ | refine Below.setCell ?_ (by first | (simp; done) | (simp; omega) | omega) _ | refine belowN ?_ _ | refine Below.drew ?_ | refine Below.alloc ?_ (by first | (simp; done) | (simp; omega) | omega) _ | refine Below.trans ?_ (Below.mono (by assumption) (by first | (simp; done) | (simp; omega) | omega)))))) hs2).mono ?_
  rintro e w6 ⟨⟨x2_, rfl, own⟩, hb⟩
  have q6 : Below w5.heap.size w5 w6 := by (repeat (first | exact Below.refl _ _ | refine Below.setCell ?_ (by first | (simp; done) | (simp; omega) | omega) _ | refine belowN ?_ _ | refine Below.drew ?_ | refine Below.alloc ?_ (by first | (simp; done) | (simp; omega) | omega) _ | refine Below.trans ?_ (Below.mono (by assumption) (by first | (simp; done) | (simp; omega) | omega))))
  have s6 : w5.heap.size ≤ w6.heap.size := q6.size
  have B6 : Below w.heap.size w w6 := B5.trans (q6.mono (by omega))
  have C6 := Lib.hid (C5.out.trans (q6.mono (by omega)))
  have A1_6 := Lib.hid (A1_5.out.below q6)
  have W0_6 := Lib.hid (W0_5.out.below q6)
  have X1_6 := Lib.hid (X1_5.out.below q6)
  have Y1_6 := Lib.hid (At1.below (p := w5.heap.size) (v := (.slice x1_a x1_n x1_c)) (by exact ⟨by simp [go_sem]⟩) hb)
  have lbY1 := Y1_6.out.lt
  have SL2 := own.2
  have X2_6 := Lib.hid (OwnZ.mono (lo' := w5.heap.size + 1) (hi' := w6.heap.size) own.1 (by first | (simp; done) | (simp; omega)) (Nat.le_refl _))
  clear hb q6 own 
  obtain ⟨x2_a, x2_n, x2_c, rfl⟩ := X2_6.out.ints.shape
  obtain ⟨kY10⟩ := Y1_6.out
  have lY1 := Y1_6.out.lt
  go_wp2_with fail
  refine (implSubAssembly_law (.slice x1_a x1_n x1_c) P1 (.slice x2_a x2_n x2_c) Z2 _ (X1_6.out.plcs.below (by (repeat (first | exact Below.refl _ _ | refine Below.setCell ?_ (by first | (simp; done) | (simp; omega) | omega) _ | refine belowN ?_ _ | refine Below.drew ?_ | refine Below.alloc ?_ (by first | (simp; done) | (simp; omega) | omega) _ | refine Below.trans ?_ (Below.mono (by assumption) (by first | (simp; done) | (simp; omega) | omega)))))) SL1 ok1 hs1 (X2_6.out.ints.below (by (repeat (first | exact Below.refl _ _ | refine Below.setCell ?_ (by first | (simp; done) | (simp; omega) | omega) _ | refine belowN ?_ _ | refine Below.drew ?_ | refine Below.alloc ?_ (by first | (simp; done) | (simp; omega) | omega) _ | refine Below.trans ?_ (Below.mono (by assumption) (by first | (simp; done) | (simp; omega) | omega)))))) SL2 ok2 hs2).mono ?_
  rintro e w7 ⟨⟨gr, rfl, gro⟩, hb⟩
  have q7 : Below w6.heap.size w6 w7 := by (repeat (first | exact Below.refl _ _ | refine Below.setCell ?_ (by first | (simp; done) | (simp; omega) | omega) _ | refine belowN ?_ _ | refine Below.drew ?_ | refine Below.alloc ?_ (by first | (simp; done) | (simp; omega) | omega) _ | refine Below.trans ?_ (Below.mono (by assumption) (by first | (simp; done) | (simp; omega) | omega))))
  have s7 : w6.heap.size ≤ w7.heap.size := q7.size
  have B7 : Below w.heap.size w w7 := B6.trans (q7.mono (by omega))
  have C7 := Lib.hid (C6.out.trans (q7.mono (by omega)))
  have A1_7 := Lib.hid (A1_6.out.below q7)
  have W0_7 := Lib.hid (W0_6.out.below q7)
  have X1_7 := Lib.hid (X1_6.out.below q7)
  have Y1_7 := Lib.hid (Y1_6.out.below q7)
  have X2_7 := Lib.hid (X2_6.out.below q7)
  clear hb q7 kY10 lY1
  obtain ⟨gra, grn, grc, rfl⟩ := gro.plcs.shape
  have U_7 := Lib.hid (OwnA.mono (lo' := w6.heap.size + 0) (hi' := w7.heap.size) gro (by first | omega | (simp; done) | (simp; omega)) (Nat.le_refl _))
  clear gro
  have hsR : ((saR P1 Z2)).length ≤ 1048576 := smallSubAssembly hs1 hs2
  obtain ⟨kW00⟩ := W0_7.out
  have lW0 := W0_7.out.lt
  go_wp2_with fail
  refine (eqAssembly_yes _ _ (saR P1 Z2) _ (U_7.out.plcs.below (by (repeat (first | exact Below.refl _ _ | refine Below.setCell ?_ (by first | (simp; done) | (simp; omega) | omega) _ | refine belowN ?_ _ | refine Below.drew ?_ | refine Below.alloc ?_ (by first | (simp; done) | (simp; omega) | omega) _ | refine Below.trans ?_ (Below.mono (by assumption) (by first | (simp; done) | (simp; omega) | omega)))))) ((VS.out.below C7.out).below (by (repeat (first | exact Below.refl _ _ | refine Below.setCell ?_ (by first | (simp; done) | (simp; omega) | omega) _ | refine belowN ?_ _ | refine Below.drew ?_ | refine Below.alloc ?_ (by first | (simp; done) | (simp; omega) | omega) _ | refine Below.trans ?_ (Below.mono (by assumption) (by first | (simp; done) | (simp; omega) | omega))))))).mono ?_
  rintro e w8 ⟨rfl, hb⟩
  have q8 : Below w7.heap.size w7 w8 := by (repeat (first | exact Below.refl _ _ | refine Below.setCell ?_ (by first | (simp; done) | (simp; omega) | omega) _ | refine belowN ?_ _ | refine Below.drew ?_ | refine Below.alloc ?_ (by first | (simp; done) | (simp; omega) | omega) _ | refine Below.trans ?_ (Below.mono (by assumption) (by first | (simp; done) | (simp; omega) | omega))))
  have s8 : w7.heap.size ≤ w8.heap.size := q8.size
  have B8 : Below w.heap.size w w8 := B7.trans (q8.mono (by omega))
  have C8 := Lib.hid (C7.out.trans (q8.mono (by omega)))
  have A1_8 := Lib.hid (A1_7.out.below q8)
  have W0_8 := Lib.hid (W0_7.out.below q8)
  have X1_8 := Lib.hid (X1_7.out.below q8)
  have Y1_8 := Lib.hid (Y1_7.out.below q8)
  have X2_8 := Lib.hid (X2_7.out.below q8)
  have U_8 := Lib.hid (U_7.out.below q8)
  have Z0_8 := Lib.hid (At1.below (p := w7.heap.size) (v := (.slice gra grn grc)) (by exact ⟨by simp [go_sem]⟩) hb)
  have lbZ0 := Z0_8.out.lt
  clear hb q8 kW00 lW0
  obtain ⟨kA10⟩ := A1_8.out
  have lA1 := A1_8.out.lt
  obtain ⟨kY10⟩ := Y1_8.out
  have lY1 := Y1_8.out.lt
  go_wp2_with fail
  go_region_held3 (fun w' => w'.cell? ⟨w.heap.size, 0, none⟩ = some (v1) ∧ w'.cell? ⟨w5.heap.size, 0, none⟩ = some (.slice x1_a x1_n x1_c)) ((((try go_split_ands); (try dsimp only); (repeat' apply And.intro)) <;> (repeat (first | with_reducible assumption | ((with_reducible refine cnew0 ?_); simp; done) | ((with_reducible refine cnew1 ?_); simp; done) | (with_reducible refine akeep ?_) | (with_reducible refine dkeep ?_) | ((with_reducible refine skeep ?_ ?_); rotate_left; (first | ((try dsimp only); omega) | (simp; done) | (simp; omega))) | (with_reducible refine bkeep hb3 ?_)))))
    (first
      | (go_at_call 9; refine (toAssembly_any v1 P1 _ (H1.out.below (by (repeat (first | exact Below.refl _ _ | refine Below.setCell ?_ (by first | (simp; done) | (simp; omega) | omega) _ | refine belowN ?_ _ | refine Below.drew ?_ | refine Below.alloc ?_ (by first | (simp; done) | (simp; omega) | omega) _ | refine Below.trans ?_ (Below.mono (by assumption) (by first | (simp; done) | (simp; omega) | omega)))))) hs1).mono ?_; rintro e w9 ⟨⟨u1, rfl, own⟩, hb3⟩; have s9 : w8.heap.size ≤ w9.heap.size := Nat.le_trans (by first | exact Nat.le_refl _ | (simp; done) | (simp; omega)) hb3.size)
      | (go_at_call 12; refine (eqAssembly_yes _ _ P1 _ (X1_8.out.plcs.below (by (repeat (first | exact Below.refl _ _ | refine Below.setCell ?_ (by first | (simp; done) | (simp; omega) | omega) _ | refine belowN ?_ _ | refine Below.drew ?_ | refine Below.alloc ?_ (by first | (simp; done) | (simp; omega) | omega) _ | refine Below.trans ?_ (Below.mono (by assumption) (by first | (simp; done) | (simp; omega) | omega)))))) (own.1.plcs.below (by (repeat (first | exact Below.refl _ _ | refine Below.setCell ?_ (by first | (simp; done) | (simp; omega) | omega) _ | refine belowN ?_ _ | refine Below.drew ?_ | refine Below.alloc ?_ (by first | (simp; done) | (simp; omega) | omega) _ | refine Below.trans ?_ (Below.mono (by assumption) (by first | (simp; done) | (simp; omega) | omega))))))).mono ?_; rintro e w10 ⟨rfl, hb3⟩; have s10 : w9.heap.size ≤ w10.heap.size := Nat.le_trans (by first | exact Nat.le_refl _ | (simp; done) | (simp; omega)) hb3.size))
  have q10 : Below w8.heap.size w8 w10 := by (repeat (first | exact Below.refl _ _ | refine Below.setCell ?_ (by first | (simp; done) | (simp; omega) | omega) _ | refine belowN ?_ _ | refine Below.drew ?_ | refine Below.alloc ?_ (by first | (simp; done) | (simp; omega) | omega) _ | refine Below.trans ?_ (Below.mono (by assumption) (by first | (simp; done) | (simp; omega) | omega))))
  have B10 : Below w.heap.size w w10 := B8.trans (q10.mono (by omega))
  have C10 := Lib.hid (C8.out.trans (q10.mono (by omega)))
  have A1_10 := Lib.hid (A1_8.out.below q10)
  have W0_10 := Lib.hid (W0_8.out.below q10)
  have X1_10 := Lib.hid (X1_8.out.below q10)
  have Y1_10 := Lib.hid (Y1_8.out.below q10)
  have X2_10 := Lib.hid (X2_8.out.below q10)
  have U_10 := Lib.hid (U_8.out.below q10)
  have Z0_10 := Lib.hid (Z0_8.out.below q10)
  clear hb3 q10 own kA10 lA1 kY10 lY1
  go_wp2_with fail
  refine (toInt64S_new (.slice ao2 Z2.length cp2) Z2 _ (H2.out.below (by (repeat (first | exact Below.refl _ _ | refine Below.setCell ?_ (by first | (simp; done) | (simp; omega) | omega) _ | refine belowN ?_ _ | refine Below.drew ?_ | refine Below.alloc ?_ (by first | (simp; done) | (simp; omega) | omega) _ | refine Below.trans ?_ (Below.mono (by assumption) (by first | (simp; done) | (simp; omega) | omega)))))) hs2).mono ?_
  rintro e w11 ⟨⟨u2, rfl, own⟩, hb⟩
  have q11 : Below w10.heap.size w10 w11 := by (repeat (first | exact Below.refl _ _ | refine Below.setCell ?_ (by first | (simp; done) | (simp; omega) | omega) _ | refine belowN ?_ _ | refine Below.drew ?_ | refine Below.alloc ?_ (by first | (simp; done) | (simp; omega) | omega) _ | refine Below.trans ?_ (Below.mono (by assumption) (by first | (simp; done) | (simp; omega) | omega))))
  have s11 : w10.heap.size ≤ w11.heap.size := q11.size
  have B11 : Below w.heap.size w w11 := B10.trans (q11.mono (by omega))
  have C11 := Lib.hid (C10.out.trans (q11.mono (by omega)))
  have A1_11 := Lib.hid (A1_10.out.below q11)
  have W0_11 := Lib.hid (W0_10.out.below q11)
  have X1_11 := Lib.hid (X1_10.out.below q11)
  have Y1_11 := Lib.hid (Y1_10.out.below q11)
  have X2_11 := Lib.hid (X2_10.out.below q11)
  have U_11 := Lib.hid (U_10.out.below q11)
  have Z0_11 := Lib.hid (Z0_10.out.below q11)
  clear hb q11
  go_wp2_with fail
  refine (eqInt64S_yes _ _ Z2 _ (X2_11.out.ints.below (by (repeat (first | exact Below.refl _ _ | refine Below.setCell ?_ (by first | (simp; done) | (simp; omega) | omega) _ | refine belowN ?_ _ | refine Below.drew ?_ | refine Below.alloc ?_ (by first | (simp; done) | (simp; omega) | omega) _ | refine Below.trans ?_ (Below.mono (by assumption) (by first | (simp; done) | (simp; omega) | omega)))))) (own.1.ints.below (by (repeat (first | exact Below.refl _ _ | refine Below.setCell ?_ (by first | (simp; done) | (simp; omega) | omega) _ | refine belowN ?_ _ | refine Below.drew ?_ | refine Below.alloc ?_ (by first | (simp; done) | (simp; omega) | omega) _ | refine Below.trans ?_ (Below.mono (by assumption) (by first | (simp; done) | (simp; omega) | omega))))))).mono ?_
  rintro e w12 ⟨rfl, hb⟩
  have q12 : Below w11.heap.size w11 w12 := by (repeat (first | exact Below.refl _ _ | refine Below.setCell ?_ (by first | (simp; done) | (simp; omega) | omega) _ | refine belowN ?_ _ | refine Below.drew ?_ | refine Below.alloc ?_ (by first | (simp; done) | (simp; omega) | omega) _ | refine Below.trans ?_ (Below.mono (by assumption) (by first | (simp; done) | (simp; omega) | omega))))
  have s12 : w11.heap.size ≤ w12.heap.size := q12.size
  have B12 : Below w.heap.size w w12 := B11.trans (q12.mono (by omega))
  have C12 := Lib.hid (C11.out.trans (q12.mono (by omega)))
  have A1_12 := Lib.hid (A1_11.out.below q12)
  have W0_12 := Lib.hid (W0_11.out.below q12)
  have X1_12 := Lib.hid (X1_11.out.below q12)
  have Y1_12 := Lib.hid (Y1_11.out.below q12)
  have X2_12 := Lib.hid (X2_11.out.below q12)
  have U_12 := Lib.hid (U_11.out.below q12)
  have Z0_12 := Lib.hid (Z0_11.out.below q12)
  clear hb q12 own
  clear SL1 SL2
  obtain ⟨kY10⟩ := Y1_12.out
  have lY1 := Y1_12.out.lt
  go_wp2_with fail
  refine (markAssembly_one (w4.heap.size + 1) w5.heap.size _ P1 _ X1_12.out hs1 (by omega)).mono ?_
  rintro e w13 ⟨rfl, -, hw⟩
  have s13 : w12.heap.size ≤ w13.heap.size := hw.size
  have B13 : Below w.heap.size w w13 := B12.trans (hw.belowK (by omega) (by omega))
  have C13 := Lib.hid (C12.out.trans (hw.belowK (by omega) (by omega)))
  have A1_13 := Lib.hid (A1_12.out.keep hw (by omega))
  have W0_13 := Lib.hid (W0_12.out.keep hw (by omega))
  have Y1_13 := Lib.hid (Y1_12.out.keep hw (by omega))
  have X2_13 := Lib.hid (X2_12.out.keep hw (by omega))
  have U_13 := Lib.hid (U_12.out.keep hw (by omega))
  have Z0_13 := Lib.hid (Z0_12.out.keep hw (by omega))
  clear hw kY10 lY1
  have hk2 : (mkE 3 P1.length 1) ≤ 1125899906842624 := by have := mkE_le (k := 1) (m := 3) hs1 (by omega); omega
  go_wp2_with fail
  refine (markInt64S_k (w5.heap.size + 1) w6.heap.size _ Z2 (mkE 3 P1.length 1) _ X2_13.out hs2 (by have := hk2; omega) (by omega)).mono ?_
  rintro e w14 ⟨rfl, -, hw⟩
  have s14 : w13.heap.size ≤ w14.heap.size := hw.size
  have B14 : Below w.heap.size w w14 := B13.trans (hw.belowK (by omega) (by omega))
  have C14 := Lib.hid (C13.out.trans (hw.belowK (by omega) (by omega)))
  have A1_14 := Lib.hid (A1_13.out.keep hw (by omega))
  have W0_14 := Lib.hid (W0_13.out.keep hw (by omega))
  have U_14 := Lib.hid (U_13.out.keep hw (by omega))
  have Z0_14 := Lib.hid (Z0_13.out.keep hw (by omega))
  clear hw 
  have bn : decide ((((zEnd (mkE 3 P1.length 1) Z2.length) : Nat) : Int) < 0) = false := by simp
  obtain ⟨kZ00⟩ := Z0_14.out
  have lZ0 := Z0_14.out.lt
  obtain ⟨kW00⟩ := W0_14.out
  have lW0 := W0_14.out.lt
  go_wp2_with fail
  refine (eqAssembly_yes _ _ (saR P1 Z2) _ (U_14.out.plcs.below (by (repeat (first | exact Below.refl _ _ | refine Below.setCell ?_ (by first | (simp; done) | (simp; omega) | omega) _ | refine belowN ?_ _ | refine Below.drew ?_ | refine Below.alloc ?_ (by first | (simp; done) | (simp; omega) | omega) _ | refine Below.trans ?_ (Below.mono (by assumption) (by first | (simp; done) | (simp; omega) | omega)))))) ((VS.out.below C14.out).below (by (repeat (first | exact Below.refl _ _ | refine Below.setCell ?_ (by first | (simp; done) | (simp; omega) | omega) _ | refine belowN ?_ _ | refine Below.drew ?_ | refine Below.alloc ?_ (by first | (simp; done) | (simp; omega) | omega) _ | refine Below.trans ?_ (Below.mono (by assumption) (by first | (simp; done) | (simp; omega) | omega))))))).mono ?_
  rintro e w15 ⟨rfl, hb⟩
  have q15 : Below w14.heap.size w14 w15 := by (repeat (first | exact Below.refl _ _ | refine Below.setCell ?_ (by first | (simp; done) | (simp; omega) | omega) _ | refine belowN ?_ _ | refine Below.drew ?_ | refine Below.alloc ?_ (by first | (simp; done) | (simp; omega) | omega) _ | refine Below.trans ?_ (Below.mono (by assumption) (by first | (simp; done) | (simp; omega) | omega))))
  have s15 : w14.heap.size ≤ w15.heap.size := q15.size
  have B15 : Below w.heap.size w w15 := B14.trans (q15.mono (by omega))
  have C15 := Lib.hid (C14.out.trans (q15.mono (by omega)))
  have A1_15 := Lib.hid (A1_14.out.below q15)
  have W0_15 := Lib.hid (W0_14.out.below q15)
  have U_15 := Lib.hid (U_14.out.below q15)
  have Z0_15 := Lib.hid (Z0_14.out.below q15)
  clear hb q15 kZ00 lZ0 kW00 lW0
  obtain ⟨kZ00⟩ := Z0_15.out
  have lZ0 := Z0_15.out.lt
  go_wp2_with fail
  refine (markAssembly_one (w6.heap.size + 0) w7.heap.size _ (saR P1 Z2) _ U_15.out hsR (by omega)).mono ?_
  rintro e w16 ⟨rfl, hu, hw⟩
  have s16 : w15.heap.size ≤ w16.heap.size := hw.size
  have B16 : Below w.heap.size w w16 := B15.trans (hw.belowK (by omega) (by omega))
  have C16 := Lib.hid (C15.out.trans (hw.belowK (by omega) (by omega)))
  have A1_16 := Lib.hid (A1_15.out.keep hw (by omega))
  have W0_16 := Lib.hid (W0_15.out.keep hw (by omega))
  have Z0_16 := Lib.hid (Z0_15.out.keep hw (by omega))
  have U_16 := Lib.hid hu
  clear hw hu kZ00 lZ0
  have bi : decide (((mkE 3 (saR P1 Z2).length 1 : Nat) : Int) < 0) = false := by simp
  obtain ⟨kZ00⟩ := Z0_16.out
  have lZ0 := Z0_16.out.lt
  go_wp2_with fail
  refine (heldAssembly_one _ (saR P1 Z2).length _ U_16.out hsR).mono ?_
  rintro e w17 ⟨rfl, hb⟩
  have q17 : Below w16.heap.size w16 w17 := by (repeat (first | exact Below.refl _ _ | refine Below.setCell ?_ (by first | (simp; done) | (simp; omega) | omega) _ | refine belowN ?_ _ | refine Below.drew ?_ | refine Below.alloc ?_ (by first | (simp; done) | (simp; omega) | omega) _ | refine Below.trans ?_ (Below.mono (by assumption) (by first | (simp; done) | (simp; omega) | omega))))
  have s17 : w16.heap.size ≤ w17.heap.size := q17.size
  have B17 : Below w.heap.size w w17 := B16.trans (q17.mono (by omega))
  have C17 := Lib.hid (C16.out.trans (q17.mono (by omega)))
  have A1_17 := Lib.hid (A1_16.out.below q17)
  have W0_17 := Lib.hid (W0_16.out.below q17)
  have U_17 := Lib.hid (U_16.out.below q17)
  have Z0_17 := Lib.hid (Z0_16.out.below q17)
  clear hb q17 kZ00 lZ0
  obtain ⟨kA10⟩ := A1_17.out
  have lA1 := A1_17.out.lt
  go_wp2_with fail
  refine (toAssembly_any v1 P1 _ (H1.out.below (by (repeat (first | exact Below.refl _ _ | refine Below.setCell ?_ (by first | (simp; done) | (simp; omega) | omega) _ | refine belowN ?_ _ | refine Below.drew ?_ | refine Below.alloc ?_ (by first | (simp; done) | (simp; omega) | omega) _ | refine Below.trans ?_ (Below.mono (by assumption) (by first | (simp; done) | (simp; omega) | omega)))))) hs1).mono ?_
  rintro e w18 ⟨⟨h1, rfl, ho1⟩, hb⟩
  have q18 : Below w17.heap.size w17 w18 := by (repeat (first | exact Below.refl _ _ | refine Below.setCell ?_ (by first | (simp; done) | (simp; omega) | omega) _ | refine belowN ?_ _ | refine Below.drew ?_ | refine Below.alloc ?_ (by first | (simp; done) | (simp; omega) | omega) _ | refine Below.trans ?_ (Below.mono (by assumption) (by first | (simp; done) | (simp; omega) | omega))))
  have s18 : w17.heap.size ≤ w18.heap.size := q18.size
  have B18 : Below w.heap.size w w18 := B17.trans (q18.mono (by omega))
  have C18 := Lib.hid (C17.out.trans (q18.mono (by omega)))
  have A1_18 := Lib.hid (A1_17.out.below q18)
  have W0_18 := Lib.hid (W0_17.out.below q18)
  have U_18 := Lib.hid (U_17.out.below q18)
  have Z0_18 := Lib.hid (Z0_17.out.below q18)
  have Nh1_18 := Lib.hid ho1.1
  have SN1 := ho1.2
  clear hb ho1 q18
  clear kA10 lA1
  go_wp2_with fail
  refine (toInt64S_new (.slice ao2 Z2.length cp2) Z2 _ (H2.out.below (by (repeat (first | exact Below.refl _ _ | refine Below.setCell ?_ (by first | (simp; done) | (simp; omega) | omega) _ | refine belowN ?_ _ | refine Below.drew ?_ | refine Below.alloc ?_ (by first | (simp; done) | (simp; omega) | omega) _ | refine Below.trans ?_ (Below.mono (by assumption) (by first | (simp; done) | (simp; omega) | omega)))))) hs2).mono ?_
  rintro e w19 ⟨⟨h2, rfl, ho2⟩, hb⟩
  have q19 : Below w18.heap.size w18 w19 := by (repeat (first | exact Below.refl _ _ | refine Below.setCell ?_ (by first | (simp; done) | (simp; omega) | omega) _ | refine belowN ?_ _ | refine Below.drew ?_ | refine Below.alloc ?_ (by first | (simp; done) | (simp; omega) | omega) _ | refine Below.trans ?_ (Below.mono (by assumption) (by first | (simp; done) | (simp; omega) | omega))))
  have s19 : w18.heap.size ≤ w19.heap.size := q19.size
  have B19 : Below w.heap.size w w19 := B18.trans (q19.mono (by omega))
  have C19 := Lib.hid (C18.out.trans (q19.mono (by omega)))
  have A1_19 := Lib.hid (A1_18.out.below q19)
  have W0_19 := Lib.hid (W0_18.out.below q19)
  have U_19 := Lib.hid (U_18.out.below q19)
  have Z0_19 := Lib.hid (Z0_18.out.below q19)
  have Nh1_19 := Lib.hid (Nh1_18.out.below q19)
  have Nh2_19 := Lib.hid ho2.1
  have SN2 := ho2.2
  clear hb ho2 q19
  go_wp2_with fail
  refine (implSubAssembly_law h1 P1 h2 Z2 _ (Nh1_19.out.plcs.below (by (repeat (first | exact Below.refl _ _ | refine Below.setCell ?_ (by first | (simp; done) | (simp; omega) | omega) _ | refine belowN ?_ _ | refine Below.drew ?_ | refine Below.alloc ?_ (by first | (simp; done) | (simp; omega) | omega) _ | refine Below.trans ?_ (Below.mono (by assumption) (by first | (simp; done) | (simp; omega) | omega)))))) SN1 ok1 hs1 (Nh2_19.out.ints.below (by (repeat (first | exact Below.refl _ _ | refine Below.setCell ?_ (by first | (simp; done) | (simp; omega) | omega) _ | refine belowN ?_ _ | refine Below.drew ?_ | refine Below.alloc ?_ (by first | (simp; done) | (simp; omega) | omega) _ | refine Below.trans ?_ (Below.mono (by assumption) (by first | (simp; done) | (simp; omega) | omega)))))) SN2 ok2 hs2).mono ?_
  rintro e w20 ⟨⟨hr, rfl, hro⟩, hb⟩
  have q20 : Below w19.heap.size w19 w20 := by (repeat (first | exact Below.refl _ _ | refine Below.setCell ?_ (by first | (simp; done) | (simp; omega) | omega) _ | refine belowN ?_ _ | refine Below.drew ?_ | refine Below.alloc ?_ (by first | (simp; done) | (simp; omega) | omega) _ | refine Below.trans ?_ (Below.mono (by assumption) (by first | (simp; done) | (simp; omega) | omega))))
  have s20 : w19.heap.size ≤ w20.heap.size := q20.size
  have B20 : Below w.heap.size w w20 := B19.trans (q20.mono (by omega))
  have C20 := Lib.hid (C19.out.trans (q20.mono (by omega)))
  have A1_20 := Lib.hid (A1_19.out.below q20)
  have W0_20 := Lib.hid (W0_19.out.below q20)
  have U_20 := Lib.hid (U_19.out.below q20)
  have Z0_20 := Lib.hid (Z0_19.out.below q20)
  clear hb q20 SN1 SN2
  obtain ⟨hra, hrn, hrc, rfl⟩ := hro.plcs.shape
  have HI := Lib.hid hro.plcs
  clear hro
  obtain ⟨kW00⟩ := W0_20.out
  have lW0 := W0_20.out.lt
  go_wp2_with fail
  refine (eqAssembly_yes _ _ (saR P1 Z2) _ (HI.out.below (by (repeat (first | exact Below.refl _ _ | refine Below.setCell ?_ (by first | (simp; done) | (simp; omega) | omega) _ | refine belowN ?_ _ | refine Below.drew ?_ | refine Below.alloc ?_ (by first | (simp; done) | (simp; omega) | omega) _ | refine Below.trans ?_ (Below.mono (by assumption) (by first | (simp; done) | (simp; omega) | omega)))))) ((VS.out.below C20.out).below (by (repeat (first | exact Below.refl _ _ | refine Below.setCell ?_ (by first | (simp; done) | (simp; omega) | omega) _ | refine belowN ?_ _ | refine Below.drew ?_ | refine Below.alloc ?_ (by first | (simp; done) | (simp; omega) | omega) _ | refine Below.trans ?_ (Below.mono (by assumption) (by first | (simp; done) | (simp; omega) | omega))))))).mono ?_
  rintro e w21 ⟨rfl, hb⟩
  have q21 : Below w20.heap.size w20 w21 := by (repeat (first | exact Below.refl _ _ | refine Below.setCell ?_ (by first | (simp; done) | (simp; omega) | omega) _ | refine belowN ?_ _ | refine Below.drew ?_ | refine Below.alloc ?_ (by first | (simp; done) | (simp; omega) | omega) _ | refine Below.trans ?_ (Below.mono (by assumption) (by first | (simp; done) | (simp; omega) | omega))))
  have s21 : w20.heap.size ≤ w21.heap.size := q21.size
  have B21 : Below w.heap.size w w21 := B20.trans (q21.mono (by omega))
  have C21 := Lib.hid (C20.out.trans (q21.mono (by omega)))
  have A1_21 := Lib.hid (A1_20.out.below q21)
  have W0_21 := Lib.hid (W0_20.out.below q21)
  have U_21 := Lib.hid (U_20.out.below q21)
  have Z0_21 := Lib.hid (Z0_20.out.below q21)
  have J0_21 := Lib.hid (At1.below (p := w20.heap.size) (v := (.slice hra hrn hrc)) (by exact ⟨by simp [go_sem]⟩) hb)
  have lbJ0 := J0_21.out.lt
  clear hb q21 kW00 lW0
  obtain ⟨kZ00⟩ := Z0_21.out
  have lZ0 := Z0_21.out.lt
  go_wp2_with fail
  refine (heldAssembly_one _ (saR P1 Z2).length _ U_21.out hsR).mono ?_
  rintro e w22 ⟨rfl, hb⟩
  have q22 : Below w21.heap.size w21 w22 := by (repeat (first | exact Below.refl _ _ | refine Below.setCell ?_ (by first | (simp; done) | (simp; omega) | omega) _ | refine belowN ?_ _ | refine Below.drew ?_ | refine Below.alloc ?_ (by first | (simp; done) | (simp; omega) | omega) _ | refine Below.trans ?_ (Below.mono (by assumption) (by first | (simp; done) | (simp; omega) | omega))))
  have s22 : w21.heap.size ≤ w22.heap.size := q22.size
  have B22 : Below w.heap.size w w22 := B21.trans (q22.mono (by omega))
  have C22 := Lib.hid (C21.out.trans (q22.mono (by omega)))
  have A1_22 := Lib.hid (A1_21.out.below q22)
  have W0_22 := Lib.hid (W0_21.out.below q22)
  have U_22 := Lib.hid (U_21.out.below q22)
  have Z0_22 := Lib.hid (Z0_21.out.below q22)
  have J0_22 := Lib.hid (J0_21.out.below q22)
  clear hb q22 kZ00 lZ0
  go_wp2_with fail
  go_ret
  exact ⟨rfl, B22⟩

namespace fnExactSubAssembly
open Go.ChangeShapes Go.WideShapes Go.ChangeAt Go.RowKit Go.Joins
open Go.ChangeMaps (open_string shut_string)
theorem own : ownKnob Try.prog.godebug = none := by kernel_rfl
theorem laidOut : laidOutB Try.prog = true := by kernel_rfl
theorem readable : (Try.f3.params.toList.all fun t => Try.prog.readableRec t && decide (t < Try.prog.types.size)) = true := by kernel_rfl
theorem cells_0 : Try.prog.cellsOf 24 = 1 := by kernel_rfl
set_option maxRecDepth 100000 in
set_option linter.unusedVariables false in
theorem contract (H : Type) (enc : TypeId × Value → H) (W : World) (base : Nat) (args : Array Value) (ds gs : List (DataW H)) (before : List MemPlace)
    (hval : ∀ (j : Nat) t v, Try.f3.params[j]? = some t → args[j]? = some v → Value.okWide Try.prog W .any base t v)
    (hW : DataW.Whole enc Try.prog Try.f3.params.toList Rows.fnExactSubAssemblySpec.vars false W args.toList ds gs before) :
    Calls Try.prog 3 args W fun e W' => ∃ v, e = .returned v ∧ Rows.fnExactSubAssemblySpec.post enc Try.prog Try.f3 false true false false W args v W' := by
  have hW' := hW
  obtain ⟨p, q, hA0, hV, rfl, hfz, hnd⟩ := hW
  have hA : DataW.TrodAll enc Try.prog W 0 (fun _ => true) true Try.f3.params.toList args.toList ds p := hA0
  rw [Try.params3] at hA hval
  obtain ⟨v0, vs0, d0, ds0, p0, q0, ha0, rfl, rfl, h0, r0⟩ := trodAll_cons hA
  obtain ⟨v1, vs1, d1, ds1, p1, q1, ha1, rfl, rfl, h1, r1⟩ := trodAll_cons r0
  obtain ⟨rfl, rfl, rfl⟩ := trodAll_nil r1
  obtain rfl : args = #[v0, v1] := by cases args; simp_all
  obtain ⟨rfl, rfl⟩ := trodVars_none hV
  obtain ⟨c0, y0, m0, rfl, hy0⟩ := open_one Try.underlying24 (by kernel_rfl) cells_0 (hval 0 24 v0 rfl rfl) h0
  obtain ⟨ps0, hg0, og0⟩ := open_placed (t := 22) (e := 136) (tp := 134) (ti := 2) Try.underlying22 Try.underlying136 Try.underlying134 (by kernel_rfl) ⟨rfl, rfl⟩ ⟨rfl, rfl⟩ (by kernel_rfl) (by kernel_rfl) ⟨rfl, rfl⟩ ⟨rfl, rfl⟩ Try.underlying2 hy0
  obtain ⟨n1, y1, hy1⟩ := open_valueZ Try.underlying25 (hval 1 25 v1 rfl rfl) h1
  obtain ⟨Z1, hg1, og1⟩ := open_i64 (t := 25) (e := 2) Try.underlying25 Try.underlying2 (by kernel_rfl) hy1
  refine (walk_FnExactSubAssembly c0 ps0 v1 Z1 W hg0 og0 hg1 og1).mono fun e W' ⟨he, hg⟩ => ?_
  subst he
  exact ⟨_, rfl, post_mem laidOut readable hW' (fun _ _ _ => (trodAll_cons_mk (shut_bool Try.underlying4 _) trodAll_mk0)) hA0 rfl rfl (by simp) hg⟩
set_option maxRecDepth 100000 in
theorem lifted (os : Os) (started : os.Started) (H : Type) (enc : TypeId × Value → H) :
    ReturnsInHanded {} Try.checked os 3 .any (Rows.fnExactSubAssemblySpec.pre6 enc Try.prog Try.f3 Rows.fnExactSubAssemblyRow.domain false) (Rows.fnExactSubAssemblySpec.post enc Try.prog Try.f3 false true false false) := by
  refine returnsInHanded_of_change (C := Try.checked) own started (by kernel_rfl) Try.func3
    (ChangeSpec.witness6 (enc := enc) (C := Try.checked) false ⟨#[], #[.agg #[.slice none 0 0], .slice none 0 0], []⟩ 8 (by kernel_rfl) (by kernel_rfl) (by kernel_rfl) (by kernel_rfl)) ?_
  intro W base args ds gs before hval hW _ _
  exact contract H enc W base args ds gs before hval hW
end fnExactSubAssembly
theorem fnExactSubAssembly_holds : Rows.FnExactSubAssemblySaid :=
  OpenClaim.holds_of_wide 3 Try.f3 rfl rfl rfl rfl rfl rfl rfl ⟨rfl, rfl, rfl, rfl, rfl⟩ rfl rfl rfl rfl rfl (by kernel_rfl) Try.func3 (by kernel_rfl)
    (of_decide_eq_true (by kernel_rfl)) (by unfold Func.isWrapper; first | (rw [if_pos (by decide +kernel)]; kernel_rfl) | (rw [if_neg (by decide +kernel)]; exact ⟨rfl, rfl⟩))
    (fun os started H enc _ => fnExactSubAssembly.lifted os started H enc)
end Go.Proofs.Ytnofbeeihdgmdaa
