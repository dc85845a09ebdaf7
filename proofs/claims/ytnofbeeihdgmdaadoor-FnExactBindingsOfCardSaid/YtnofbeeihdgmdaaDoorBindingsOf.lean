/-
  For every set of tiles and every assembly, BindingsOf of the program answers as the model's, both results, in memory of its own; the law FnExactBindingsOf returns true and leaves its arguments as they were. Condition: the listed table of steps starts as the program's text lays it (the card ties it).
-/
import Derived.Test.YtnofbeeihdgmdaaDoorBiL
import Derived.Test.YtnofbeeihdgmdaaDoorStO
namespace Go.Proofs.YtnofbeeihdgmdaaDoor
open Go.RowKit

set_option maxRecDepth 100000 in
set_option maxHeartbeats 1000000 in
set_option linter.unusedVariables false in
set_option linter.unusedSimpArgs false in
theorem walk_FnExactBindingsOf (vg1 vt1 : Value) (S1 : Set_) (v2 : Value) (P2 : List Pl) (w : World) (h1 : SetIn w vg1 vt1 S1) (ok1 : S1.ok) (h2 : Plcs w v2 P2) (ok2 : ∀ p ∈ P2, p.ok) (hL : laidMetH Tryd.prog Rows.fnExactBindingsOfRow.laid w) :
    Calls Tryd.prog 8 #[.agg #[vg1, vt1], .agg #[v2]] w fun e w' => e = .returned (.bool true) ∧ Below w.heap.size w w' := by
  have hTab := Lib.hid (steps_of (rest := []) hL)
  have hTlt := hTab.out.lt
  clear hL
  have H1 := Lib.hid h1
  clear h1
  have H2 := Lib.hid h2
  clear h2
  have A1_0' : At ((w.alloc (.cells #[vg1, vt1] 25)).alloc (.cells #[v2] 28)) (w.heap.size) (vg1) (vt1) := ⟨by simp [go_sem], by simp [go_sem]⟩
  have A1_0 := Lib.hid A1_0'
  clear A1_0'
  have A2_0' : At1 ((w.alloc (.cells #[vg1, vt1] 25)).alloc (.cells #[v2] 28)) (w.heap.size + 1) v2 := ⟨by simp [go_sem]⟩
  have A2_0 := Lib.hid A2_0'
  clear A2_0'
  go_enter Tryd.func8, Tryd.ntmps8
  go_wp2_with fail
  refine (szTileSet_any vg1 vt1 S1 1048576 _ (H1.out.below (by (repeat (first | exact Below.refl _ _ | refine Below.setCell ?_ (by first | (simp; done) | (simp; omega) | omega) _ | refine belowN ?_ _ | refine Below.drew ?_ | refine Below.alloc ?_ (by first | (simp; done) | (simp; omega) | omega) _ | refine Below.trans ?_ (Below.mono (by assumption) (by first | (simp; done) | (simp; omega) | omega)))))) ok1 (by omega) (by omega)).mono ?_
  rintro e w1 ⟨⟨r1, rfl, hr⟩, hb⟩
  have B1 : Below w.heap.size w w1 := by (repeat (first | exact Below.refl _ _ | refine Below.setCell ?_ (by first | (simp; done) | (simp; omega) | omega) _ | refine belowN ?_ _ | refine Below.drew ?_ | refine Below.alloc ?_ (by first | (simp; done) | (simp; omega) | omega) _ | refine Below.trans ?_ (Below.mono (by assumption) (by first | (simp; done) | (simp; omega) | omega))))
  have A1_1 := Lib.hid (A1_0.out.below hb)
  have A2_1 := Lib.hid (A2_0.out.below hb)
  have s1 : w.heap.size + 1 < w1.heap.size := A2_1.out.lt
  clear hb
  rcases hr with rfl | ⟨hl1, hm1, hs1⟩
  · go_wp2
    go_ret
    exact ⟨rfl, B1⟩
  have bb1 : decide (r1 < 0) = false := by simp; omega
  obtain ⟨kA10, kA11⟩ := A1_1.out
  have lA1 := A1_1.out.lt
  obtain ⟨kA20⟩ := A2_1.out
  have lA2 := A2_1.out.lt
  go_wp2_with fail
  clear kA10 kA11 lA1 kA20 lA2
  refine (szAssembly_any v2 P2 r1 _ (H2.out.below (by (repeat (first | exact Below.refl _ _ | refine Below.setCell ?_ (by first | (simp; done) | (simp; omega) | omega) _ | refine belowN ?_ _ | refine Below.drew ?_ | refine Below.alloc ?_ (by first | (simp; done) | (simp; omega) | omega) _ | refine Below.trans ?_ (Below.mono (by assumption) (by first | (simp; done) | (simp; omega) | omega)))))) hl1 (by omega)).mono ?_
  rintro e w2 ⟨⟨r2, rfl, hr⟩, hb⟩
  have q2 : Below w1.heap.size w1 w2 := by (repeat (first | exact Below.refl _ _ | refine Below.setCell ?_ (by first | (simp; done) | (simp; omega) | omega) _ | refine belowN ?_ _ | refine Below.drew ?_ | refine Below.alloc ?_ (by first | (simp; done) | (simp; omega) | omega) _ | refine Below.trans ?_ (Below.mono (by assumption) (by first | (simp; done) | (simp; omega) | omega))))
  have s2 : w1.heap.size ≤ w2.heap.size := q2.size
  have B2 : Below w.heap.size w w2 := B1.trans (q2.mono (by omega))
  have A1_2 := Lib.hid (A1_1.out.below q2)
  have A2_2 := Lib.hid (A2_1.out.below q2)
  clear hb q2
  rcases hr with rfl | ⟨hl2, hm2, hs2⟩
  · go_wp2
    go_ret
    exact ⟨rfl, B2⟩
  have bb2 : decide (r2 < 0) = false := by simp; omega
  obtain ⟨kA10, kA11⟩ := A1_2.out
  have lA1 := A1_2.out.lt
  obtain ⟨kA20⟩ := A2_2.out
  have lA2 := A2_2.out.lt
  go_wp2_with fail
  go_region_held3 (fun w' => w'.cell? ⟨w.heap.size, 0, none⟩ = some (vg1) ∧ w'.cell? ⟨w.heap.size, 1, none⟩ = some (vt1) ∧ w'.cell? ⟨w.heap.size + 1, 0, none⟩ = some (v2)) ((((try go_split_ands); (try dsimp only); (repeat' apply And.intro)) <;> (repeat (first | with_reducible assumption | ((with_reducible refine cnew0 ?_); simp; done) | ((with_reducible refine cnew1 ?_); simp; done) | (with_reducible refine akeep ?_) | (with_reducible refine dkeep ?_) | ((with_reducible refine skeep ?_ ?_); rotate_left; (first | ((try dsimp only); omega) | (simp; done) | (simp; omega))) | (with_reducible refine bkeep hb3 ?_)))))
    (first
      | (go_at_call_of 12 (Value.agg #[vg1, vt1]); refine (toTileSet_any vg1 vt1 S1 _ (H1.out.below (by (repeat (first | exact Below.refl _ _ | refine Below.setCell ?_ (by first | (simp; done) | (simp; omega) | omega) _ | refine belowN ?_ _ | refine Below.drew ?_ | refine Below.alloc ?_ (by first | (simp; done) | (simp; omega) | omega) _ | refine Below.trans ?_ (Below.mono (by assumption) (by first | (simp; done) | (simp; omega) | omega)))))) hs1).mono ?_; rintro e w3 ⟨⟨z1g, z1t, rfl, zo1⟩, hb3⟩; have s3 : w2.heap.size ≤ w3.heap.size := Nat.le_trans (by first | exact Nat.le_refl _ | (simp; done) | (simp; omega)) hb3.size)
      | (go_at_call_of 13 (Value.agg #[v2]); refine (toAssembly_any v2 P2 _ (H2.out.below (by (repeat (first | exact Below.refl _ _ | refine Below.setCell ?_ (by first | (simp; done) | (simp; omega) | omega) _ | refine belowN ?_ _ | refine Below.drew ?_ | refine Below.alloc ?_ (by first | (simp; done) | (simp; omega) | omega) _ | refine Below.trans ?_ (Below.mono (by assumption) (by first | (simp; done) | (simp; omega) | omega)))))) hs2).mono ?_; rintro e w4 ⟨⟨z2, rfl, zo2⟩, hb3⟩; have s4 : w3.heap.size ≤ w4.heap.size := Nat.le_trans (by first | exact Nat.le_refl _ | (simp; done) | (simp; omega)) hb3.size)
      | (go_at_call 33; refine (specBindingsOf_law z1g z1t S1 z2 P2 _ ((zo1.setIn hs1).below (by (repeat (first | exact Below.refl _ _ | refine Below.setCell ?_ (by first | (simp; done) | (simp; omega) | omega) _ | refine belowN ?_ _ | refine Below.drew ?_ | refine Below.alloc ?_ (by first | (simp; done) | (simp; omega) | omega) _ | refine Below.trans ?_ (Below.mono (by assumption) (by first | (simp; done) | (simp; omega) | omega)))))) zo1.sol ok1 hs1 (zo2.1.plcs.below (by (repeat (first | exact Below.refl _ _ | refine Below.setCell ?_ (by first | (simp; done) | (simp; omega) | omega) _ | refine belowN ?_ _ | refine Below.drew ?_ | refine Below.alloc ?_ (by first | (simp; done) | (simp; omega) | omega) _ | refine Below.trans ?_ (Below.mono (by assumption) (by first | (simp; done) | (simp; omega) | omega)))))) zo2.2 ok2 hs2).mono ?_; rintro e w5 ⟨⟨zr, rfl, zro⟩, hb3⟩; have s5 : w4.heap.size ≤ w5.heap.size := Nat.le_trans (by first | exact Nat.le_refl _ | (simp; done) | (simp; omega)) hb3.size; obtain ⟨zra, zrn, zrc, rfl⟩ := zro.ints.shape))
  have q5 : Below w2.heap.size w2 w5 := by (repeat (first | exact Below.refl _ _ | refine Below.setCell ?_ (by first | (simp; done) | (simp; omega) | omega) _ | refine belowN ?_ _ | refine Below.drew ?_ | refine Below.alloc ?_ (by first | (simp; done) | (simp; omega) | omega) _ | refine Below.trans ?_ (Below.mono (by assumption) (by first | (simp; done) | (simp; omega) | omega))))
  have B5 : Below w.heap.size w w5 := B2.trans (q5.mono (by omega))
  have A1_5 := Lib.hid (A1_2.out.below q5)
  have A2_5 := Lib.hid (A2_2.out.below q5)
  clear kA10 kA11 lA1 kA20 lA2
  clear hb3 q5
  have VS := Lib.hid zro.ints
  clear zro
  obtain ⟨kA10, kA11⟩ := A1_5.out
  have lA1 := A1_5.out.lt
  go_wp2_with fail
  refine (toTileSet_any vg1 vt1 S1 _ (H1.out.below (by (repeat (first | exact Below.refl _ _ | refine Below.setCell ?_ (by first | (simp; done) | (simp; omega) | omega) _ | refine belowN ?_ _ | refine Below.drew ?_ | refine Below.alloc ?_ (by first | (simp; done) | (simp; omega) | omega) _ | refine Below.trans ?_ (Below.mono (by assumption) (by first | (simp; done) | (simp; omega) | omega)))))) hs1).mono ?_
  rintro e w6 ⟨⟨x1_g, x1_t, rfl, own⟩, hb⟩
  have q6 : Below w5.heap.size w5 w6 := by (repeat (first | exact Below.refl _ _ | refine Below.setCell ?_ (by first | (simp; done) | (simp; omega) | omega) _ | refine belowN ?_ _ | refine Below.drew ?_ | refine Below.alloc ?_ (by first | (simp; done) | (simp; omega) | omega) _ | refine Below.trans ?_ (Below.mono (by assumption) (by first | (simp; done) | (simp; omega) | omega))))
  have s6 : w5.heap.size ≤ w6.heap.size := q6.size
  have B6 : Below w.heap.size w w6 := B5.trans (q6.mono (by omega))
  have C6 := Lib.hid q6
  have A1_6 := Lib.hid (A1_5.out.below q6)
  have A2_6 := Lib.hid (A2_5.out.below q6)
  have SL1 := own.sol
  have X1_6 := Lib.hid (OwnSet.mono (lo' := w5.heap.size) (hi' := w6.heap.size) (own.own hs1) (by first | (simp; done) | (simp; omega)) (Nat.le_refl _))
  clear hb q6 own kA10 kA11 lA1
  obtain ⟨x1_g0, x1_g1, x1_g2, x1_g3, x1_g4, x1_g5, rfl, rfl⟩ := X1_6.out.setIn.shape
  obtain ⟨kA20⟩ := A2_6.out
  have lA2 := A2_6.out.lt
  go_wp2_with fail
  refine (toAssembly_any v2 P2 _ (H2.out.below (by (repeat (first | exact Below.refl _ _ | refine Below.setCell ?_ (by first | (simp; done) | (simp; omega) | omega) _ | refine belowN ?_ _ | refine Below.drew ?_ | refine Below.alloc ?_ (by first | (simp; done) | (simp; omega) | omega) _ | refine Below.trans ?_ (Below.mono (by assumption) (by first | (simp; done) | (simp; omega) | omega)))))) hs2).mono ?_
  rintro e w7 ⟨⟨x2_, rfl, own⟩, hb⟩
  have q7 : Below w6.heap.size w6 w7 := by (repeat (first | exact Below.refl _ _ | refine Below.setCell ?_ (by first | (simp; done) | (simp; omega) | omega) _ | refine belowN ?_ _ | refine Below.drew ?_ | refine Below.alloc ?_ (by first | (simp; done) | (simp; omega) | omega) _ | refine Below.trans ?_ (Below.mono (by assumption) (by first | (simp; done) | (simp; omega) | omega))))
  have s7 : w6.heap.size ≤ w7.heap.size := q7.size
  have B7 : Below w.heap.size w w7 := B6.trans (q7.mono (by omega))
  have C7 := Lib.hid (C6.out.trans (q7.mono (by omega)))
  have A1_7 := Lib.hid (A1_6.out.below q7)
  have A2_7 := Lib.hid (A2_6.out.below q7)
  have X1_7 := Lib.hid (X1_6.out.below q7)
  have Y1_7 := Lib.hid (At.below (p := w6.heap.size) (vg := (.slice x1_g0 x1_g1 x1_g2)) (vt := (.slice x1_g3 x1_g4 x1_g5)) (by exact ⟨by simp [go_sem], by simp [go_sem]⟩) hb)
  have SL2 := own.2
  have X2_7 := Lib.hid (OwnA.mono (lo' := w6.heap.size + 1) (hi' := w7.heap.size) own.1 (by first | (simp; done) | (simp; omega)) (Nat.le_refl _))
  clear hb q7 own kA20 lA2
  obtain ⟨x2_a, x2_n, x2_c, rfl⟩ := X2_7.out.plcs.shape
  obtain ⟨kY10, kY11⟩ := Y1_7.out
  have lY1 := Y1_7.out.lt
  go_wp2_with fail
  refine (implBindingsOf_law (.slice x1_g0 x1_g1 x1_g2) (.slice x1_g3 x1_g4 x1_g5) S1 (.slice x2_a x2_n x2_c) P2 _ (X1_7.out.setIn.below (by (repeat (first | exact Below.refl _ _ | refine Below.setCell ?_ (by first | (simp; done) | (simp; omega) | omega) _ | refine belowN ?_ _ | refine Below.drew ?_ | refine Below.alloc ?_ (by first | (simp; done) | (simp; omega) | omega) _ | refine Below.trans ?_ (Below.mono (by assumption) (by first | (simp; done) | (simp; omega) | omega)))))) SL1 ok1 hs1 (X2_7.out.plcs.below (by (repeat (first | exact Below.refl _ _ | refine Below.setCell ?_ (by first | (simp; done) | (simp; omega) | omega) _ | refine belowN ?_ _ | refine Below.drew ?_ | refine Below.alloc ?_ (by first | (simp; done) | (simp; omega) | omega) _ | refine Below.trans ?_ (Below.mono (by assumption) (by first | (simp; done) | (simp; omega) | omega)))))) SL2 ok2 hs2 (hTab.out.below (B := w.heap.size) (by (repeat (first | exact Below.refl _ _ | refine Below.setCell ?_ (by first | (simp; done) | (simp; omega) | omega) _ | refine belowN ?_ _ | refine Below.drew ?_ | refine Below.alloc ?_ (by first | (simp; done) | (simp; omega) | omega) _ | refine Below.trans ?_ (Below.mono (by assumption) (by first | (simp; done) | (simp; omega) | omega))))) hTlt)).mono ?_
  rintro e w8 ⟨⟨gr, rfl, gro⟩, hb⟩
  have q8 : Below w7.heap.size w7 w8 := by (repeat (first | exact Below.refl _ _ | refine Below.setCell ?_ (by first | (simp; done) | (simp; omega) | omega) _ | refine belowN ?_ _ | refine Below.drew ?_ | refine Below.alloc ?_ (by first | (simp; done) | (simp; omega) | omega) _ | refine Below.trans ?_ (Below.mono (by assumption) (by first | (simp; done) | (simp; omega) | omega))))
  have s8 : w7.heap.size ≤ w8.heap.size := q8.size
  have B8 : Below w.heap.size w w8 := B7.trans (q8.mono (by omega))
  have C8 := Lib.hid (C7.out.trans (q8.mono (by omega)))
  have A1_8 := Lib.hid (A1_7.out.below q8)
  have A2_8 := Lib.hid (A2_7.out.below q8)
  have X1_8 := Lib.hid (X1_7.out.below q8)
  have Y1_8 := Lib.hid (Y1_7.out.below q8)
  have X2_8 := Lib.hid (X2_7.out.below q8)
  have Y2_8 := Lib.hid (At1.below (p := w7.heap.size) (v := (.slice x2_a x2_n x2_c)) (by exact ⟨by simp [go_sem]⟩) hb)
  clear hb q8 kY10 kY11 lY1
  obtain ⟨gra, grn, grc, rfl⟩ := gro.ints.shape
  have U_8 := Lib.hid (OwnZ.mono (lo' := w7.heap.size + 1) (hi' := w8.heap.size) gro (by first | omega | (simp; done) | (simp; omega)) (Nat.le_refl _))
  clear gro
  have hsR := smallBindingsOf hs1 hs2
  go_wp2_with fail
  refine (eqInt64S_yes _ _ (biZ S1 P2) _ (U_8.out.ints.below (by (repeat (first | exact Below.refl _ _ | refine Below.setCell ?_ (by first | (simp; done) | (simp; omega) | omega) _ | refine belowN ?_ _ | refine Below.drew ?_ | refine Below.alloc ?_ (by first | (simp; done) | (simp; omega) | omega) _ | refine Below.trans ?_ (Below.mono (by assumption) (by first | (simp; done) | (simp; omega) | omega)))))) ((VS.out.below C8.out).below (by (repeat (first | exact Below.refl _ _ | refine Below.setCell ?_ (by first | (simp; done) | (simp; omega) | omega) _ | refine belowN ?_ _ | refine Below.drew ?_ | refine Below.alloc ?_ (by first | (simp; done) | (simp; omega) | omega) _ | refine Below.trans ?_ (Below.mono (by assumption) (by first | (simp; done) | (simp; omega) | omega))))))).mono ?_
  rintro e w9 ⟨rfl, hb⟩
  have q9 : Below w8.heap.size w8 w9 := by (repeat (first | exact Below.refl _ _ | refine Below.setCell ?_ (by first | (simp; done) | (simp; omega) | omega) _ | refine belowN ?_ _ | refine Below.drew ?_ | refine Below.alloc ?_ (by first | (simp; done) | (simp; omega) | omega) _ | refine Below.trans ?_ (Below.mono (by assumption) (by first | (simp; done) | (simp; omega) | omega))))
  have s9 : w8.heap.size ≤ w9.heap.size := q9.size
  have B9 : Below w.heap.size w w9 := B8.trans (q9.mono (by omega))
  have C9 := Lib.hid (C8.out.trans (q9.mono (by omega)))
  have A1_9 := Lib.hid (A1_8.out.below q9)
  have A2_9 := Lib.hid (A2_8.out.below q9)
  have X1_9 := Lib.hid (X1_8.out.below q9)
  have Y1_9 := Lib.hid (Y1_8.out.below q9)
  have X2_9 := Lib.hid (X2_8.out.below q9)
  have Y2_9 := Lib.hid (Y2_8.out.below q9)
  have U_9 := Lib.hid (U_8.out.below q9)
  clear hb q9 
  obtain ⟨kA10, kA11⟩ := A1_9.out
  have lA1 := A1_9.out.lt
  obtain ⟨kY10, kY11⟩ := Y1_9.out
  have lY1 := Y1_9.out.lt
  go_wp2_with fail
  go_region_held3 (fun w' => w'.cell? ⟨w.heap.size, 0, none⟩ = some (vg1) ∧ w'.cell? ⟨w.heap.size, 1, none⟩ = some (vt1) ∧ w'.cell? ⟨w6.heap.size, 0, none⟩ = some (.slice x1_g0 x1_g1 x1_g2) ∧ w'.cell? ⟨w6.heap.size, 1, none⟩ = some (.slice x1_g3 x1_g4 x1_g5)) ((((try go_split_ands); (try dsimp only); (repeat' apply And.intro)) <;> (repeat (first | with_reducible assumption | ((with_reducible refine cnew0 ?_); simp; done) | ((with_reducible refine cnew1 ?_); simp; done) | (with_reducible refine akeep ?_) | (with_reducible refine dkeep ?_) | ((with_reducible refine skeep ?_ ?_); rotate_left; (first | ((try dsimp only); omega) | (simp; done) | (simp; omega))) | (with_reducible refine bkeep hb3 ?_)))))
    (first
      | (go_at_call 12; refine (toTileSet_any vg1 vt1 S1 _ (H1.out.below (by (repeat (first | exact Below.refl _ _ | refine Below.setCell ?_ (by first | (simp; done) | (simp; omega) | omega) _ | refine belowN ?_ _ | refine Below.drew ?_ | refine Below.alloc ?_ (by first | (simp; done) | (simp; omega) | omega) _ | refine Below.trans ?_ (Below.mono (by assumption) (by first | (simp; done) | (simp; omega) | omega)))))) hs1).mono ?_; rintro e w10 ⟨⟨u1g, u1t, rfl, own⟩, hb3⟩; have s10 : w9.heap.size ≤ w10.heap.size := Nat.le_trans (by first | exact Nat.le_refl _ | (simp; done) | (simp; omega)) hb3.size)
      | (go_at_call 16; refine (eqTileSet_yes _ _ _ _ S1 _ (X1_9.out.setIn.below (by (repeat (first | exact Below.refl _ _ | refine Below.setCell ?_ (by first | (simp; done) | (simp; omega) | omega) _ | refine belowN ?_ _ | refine Below.drew ?_ | refine Below.alloc ?_ (by first | (simp; done) | (simp; omega) | omega) _ | refine Below.trans ?_ (Below.mono (by assumption) (by first | (simp; done) | (simp; omega) | omega)))))) ((own.setIn hs1).below (by (repeat (first | exact Below.refl _ _ | refine Below.setCell ?_ (by first | (simp; done) | (simp; omega) | omega) _ | refine belowN ?_ _ | refine Below.drew ?_ | refine Below.alloc ?_ (by first | (simp; done) | (simp; omega) | omega) _ | refine Below.trans ?_ (Below.mono (by assumption) (by first | (simp; done) | (simp; omega) | omega))))))).mono ?_; rintro e w11 ⟨rfl, hb3⟩; have s11 : w10.heap.size ≤ w11.heap.size := Nat.le_trans (by first | exact Nat.le_refl _ | (simp; done) | (simp; omega)) hb3.size))
  have q11 : Below w9.heap.size w9 w11 := by (repeat (first | exact Below.refl _ _ | refine Below.setCell ?_ (by first | (simp; done) | (simp; omega) | omega) _ | refine belowN ?_ _ | refine Below.drew ?_ | refine Below.alloc ?_ (by first | (simp; done) | (simp; omega) | omega) _ | refine Below.trans ?_ (Below.mono (by assumption) (by first | (simp; done) | (simp; omega) | omega))))
  have B11 : Below w.heap.size w w11 := B9.trans (q11.mono (by omega))
  have C11 := Lib.hid (C9.out.trans (q11.mono (by omega)))
  have A1_11 := Lib.hid (A1_9.out.below q11)
  have A2_11 := Lib.hid (A2_9.out.below q11)
  have X1_11 := Lib.hid (X1_9.out.below q11)
  have Y1_11 := Lib.hid (Y1_9.out.below q11)
  have X2_11 := Lib.hid (X2_9.out.below q11)
  have Y2_11 := Lib.hid (Y2_9.out.below q11)
  have U_11 := Lib.hid (U_9.out.below q11)
  clear hb3 q11 own kA10 kA11 lA1 kY10 kY11 lY1
  obtain ⟨kA20⟩ := A2_11.out
  have lA2 := A2_11.out.lt
  obtain ⟨kY20⟩ := Y2_11.out
  have lY2 := Y2_11.out.lt
  go_wp2_with fail
  go_region_held3 (fun w' => w'.cell? ⟨w.heap.size + 1, 0, none⟩ = some (v2) ∧ w'.cell? ⟨w7.heap.size, 0, none⟩ = some (.slice x2_a x2_n x2_c)) ((((try go_split_ands); (try dsimp only); (repeat' apply And.intro)) <;> (repeat (first | with_reducible assumption | ((with_reducible refine cnew0 ?_); simp; done) | ((with_reducible refine cnew1 ?_); simp; done) | (with_reducible refine akeep ?_) | (with_reducible refine dkeep ?_) | ((with_reducible refine skeep ?_ ?_); rotate_left; (first | ((try dsimp only); omega) | (simp; done) | (simp; omega))) | (with_reducible refine bkeep hb3 ?_)))))
    (first
      | (go_at_call 13; refine (toAssembly_any v2 P2 _ (H2.out.below (by (repeat (first | exact Below.refl _ _ | refine Below.setCell ?_ (by first | (simp; done) | (simp; omega) | omega) _ | refine belowN ?_ _ | refine Below.drew ?_ | refine Below.alloc ?_ (by first | (simp; done) | (simp; omega) | omega) _ | refine Below.trans ?_ (Below.mono (by assumption) (by first | (simp; done) | (simp; omega) | omega)))))) hs2).mono ?_; rintro e w12 ⟨⟨u2, rfl, own⟩, hb3⟩; have s12 : w11.heap.size ≤ w12.heap.size := Nat.le_trans (by first | exact Nat.le_refl _ | (simp; done) | (simp; omega)) hb3.size)
      | (go_at_call 17; refine (eqAssembly_yes _ _ P2 _ (X2_11.out.plcs.below (by (repeat (first | exact Below.refl _ _ | refine Below.setCell ?_ (by first | (simp; done) | (simp; omega) | omega) _ | refine belowN ?_ _ | refine Below.drew ?_ | refine Below.alloc ?_ (by first | (simp; done) | (simp; omega) | omega) _ | refine Below.trans ?_ (Below.mono (by assumption) (by first | (simp; done) | (simp; omega) | omega)))))) (own.1.plcs.below (by (repeat (first | exact Below.refl _ _ | refine Below.setCell ?_ (by first | (simp; done) | (simp; omega) | omega) _ | refine belowN ?_ _ | refine Below.drew ?_ | refine Below.alloc ?_ (by first | (simp; done) | (simp; omega) | omega) _ | refine Below.trans ?_ (Below.mono (by assumption) (by first | (simp; done) | (simp; omega) | omega))))))).mono ?_; rintro e w13 ⟨rfl, hb3⟩; have s13 : w12.heap.size ≤ w13.heap.size := Nat.le_trans (by first | exact Nat.le_refl _ | (simp; done) | (simp; omega)) hb3.size))
  have q13 : Below w11.heap.size w11 w13 := by (repeat (first | exact Below.refl _ _ | refine Below.setCell ?_ (by first | (simp; done) | (simp; omega) | omega) _ | refine belowN ?_ _ | refine Below.drew ?_ | refine Below.alloc ?_ (by first | (simp; done) | (simp; omega) | omega) _ | refine Below.trans ?_ (Below.mono (by assumption) (by first | (simp; done) | (simp; omega) | omega))))
  have B13 : Below w.heap.size w w13 := B11.trans (q13.mono (by omega))
  have C13 := Lib.hid (C11.out.trans (q13.mono (by omega)))
  have A1_13 := Lib.hid (A1_11.out.below q13)
  have A2_13 := Lib.hid (A2_11.out.below q13)
  have X1_13 := Lib.hid (X1_11.out.below q13)
  have Y1_13 := Lib.hid (Y1_11.out.below q13)
  have X2_13 := Lib.hid (X2_11.out.below q13)
  have Y2_13 := Lib.hid (Y2_11.out.below q13)
  have U_13 := Lib.hid (U_11.out.below q13)
  clear hb3 q13 own kA20 lA2 kY20 lY2
  clear SL1 SL2
  obtain ⟨kY10, kY11⟩ := Y1_13.out
  have lY1 := Y1_13.out.lt
  go_wp2_with fail
  refine (markTileSet_one (w5.heap.size) w6.heap.size _ _ S1 _ X1_13.out hs1 (by omega)).mono ?_
  rintro e w14 ⟨rfl, -, hw⟩
  have s14 : w13.heap.size ≤ w14.heap.size := hw.size
  have B14 : Below w.heap.size w w14 := B13.trans (hw.belowK (by omega) (by omega))
  have C14 := Lib.hid (C13.out.trans (hw.belowK (by omega) (by omega)))
  have A1_14 := Lib.hid (A1_13.out.keep hw (by omega))
  have A2_14 := Lib.hid (A2_13.out.keep hw (by omega))
  have Y1_14 := Lib.hid (Y1_13.out.keep hw (by omega))
  have X2_14 := Lib.hid (X2_13.out.keep hw (by omega))
  have Y2_14 := Lib.hid (Y2_13.out.keep hw (by omega))
  have U_14 := Lib.hid (U_13.out.keep hw (by omega))
  clear hw kY10 kY11 lY1
  have hk2 : 1 ≤ (mEnd S1 1) ∧ (mEnd S1 1) ≤ 17592186044416 := by have := mEnd_le S1 1 hs1; omega
  obtain ⟨kY20⟩ := Y2_14.out
  have lY2 := Y2_14.out.lt
  go_wp2_with fail
  refine (markAssembly_any (w6.heap.size + 1) w7.heap.size _ P2 (mEnd S1 1) _ X2_14.out hs2 (by have := hk2; omega) (by omega)).mono ?_
  rintro e w15 ⟨rfl, -, hw⟩
  have s15 : w14.heap.size ≤ w15.heap.size := hw.size
  have B15 : Below w.heap.size w w15 := B14.trans (hw.belowK (by omega) (by omega))
  have C15 := Lib.hid (C14.out.trans (hw.belowK (by omega) (by omega)))
  have A1_15 := Lib.hid (A1_14.out.keep hw (by omega))
  have A2_15 := Lib.hid (A2_14.out.keep hw (by omega))
  have Y2_15 := Lib.hid (Y2_14.out.keep hw (by omega))
  have U_15 := Lib.hid (U_14.out.keep hw (by omega))
  clear hw kY20 lY2
  have bn : decide ((((mkE 3 P2.length (mEnd S1 1)) : Nat) : Int) < 0) = false := by simp
  go_wp2_with fail
  refine (eqInt64S_yes _ _ (biZ S1 P2) _ (U_15.out.ints.below (by (repeat (first | exact Below.refl _ _ | refine Below.setCell ?_ (by first | (simp; done) | (simp; omega) | omega) _ | refine belowN ?_ _ | refine Below.drew ?_ | refine Below.alloc ?_ (by first | (simp; done) | (simp; omega) | omega) _ | refine Below.trans ?_ (Below.mono (by assumption) (by first | (simp; done) | (simp; omega) | omega)))))) ((VS.out.below C15.out).below (by (repeat (first | exact Below.refl _ _ | refine Below.setCell ?_ (by first | (simp; done) | (simp; omega) | omega) _ | refine belowN ?_ _ | refine Below.drew ?_ | refine Below.alloc ?_ (by first | (simp; done) | (simp; omega) | omega) _ | refine Below.trans ?_ (Below.mono (by assumption) (by first | (simp; done) | (simp; omega) | omega))))))).mono ?_
  rintro e w16 ⟨rfl, hb⟩
  have q16 : Below w15.heap.size w15 w16 := by (repeat (first | exact Below.refl _ _ | refine Below.setCell ?_ (by first | (simp; done) | (simp; omega) | omega) _ | refine belowN ?_ _ | refine Below.drew ?_ | refine Below.alloc ?_ (by first | (simp; done) | (simp; omega) | omega) _ | refine Below.trans ?_ (Below.mono (by assumption) (by first | (simp; done) | (simp; omega) | omega))))
  have s16 : w15.heap.size ≤ w16.heap.size := q16.size
  have B16 : Below w.heap.size w w16 := B15.trans (q16.mono (by omega))
  have C16 := Lib.hid (C15.out.trans (q16.mono (by omega)))
  have A1_16 := Lib.hid (A1_15.out.below q16)
  have A2_16 := Lib.hid (A2_15.out.below q16)
  have U_16 := Lib.hid (U_15.out.below q16)
  clear hb q16 
  go_wp2_with fail
  refine (markInt64S_own (w7.heap.size + 1) w8.heap.size _ (biZ S1 P2) _ U_16.out hsR (by omega)).mono ?_
  rintro e w17 ⟨rfl, hu, hw⟩
  have s17 : w16.heap.size ≤ w17.heap.size := hw.size
  have B17 : Below w.heap.size w w17 := B16.trans (hw.belowK (by omega) (by omega))
  have C17 := Lib.hid (C16.out.trans (hw.belowK (by omega) (by omega)))
  have A1_17 := Lib.hid (A1_16.out.keep hw (by omega))
  have A2_17 := Lib.hid (A2_16.out.keep hw (by omega))
  have U_17 := Lib.hid hu
  clear hw hu 
  have bi : decide (((iEnd (biZ S1 P2).length : Nat) : Int) < 0) = false := by simp
  go_wp2_with fail
  refine (heldInt64S_own _ (biZ S1 P2) _ U_17.out hsR).mono ?_
  rintro e w18 ⟨rfl, hb⟩
  have q18 : Below w17.heap.size w17 w18 := by (repeat (first | exact Below.refl _ _ | refine Below.setCell ?_ (by first | (simp; done) | (simp; omega) | omega) _ | refine belowN ?_ _ | refine Below.drew ?_ | refine Below.alloc ?_ (by first | (simp; done) | (simp; omega) | omega) _ | refine Below.trans ?_ (Below.mono (by assumption) (by first | (simp; done) | (simp; omega) | omega))))
  have s18 : w17.heap.size ≤ w18.heap.size := q18.size
  have B18 : Below w.heap.size w w18 := B17.trans (q18.mono (by omega))
  have C18 := Lib.hid (C17.out.trans (q18.mono (by omega)))
  have A1_18 := Lib.hid (A1_17.out.below q18)
  have A2_18 := Lib.hid (A2_17.out.below q18)
  have U_18 := Lib.hid (U_17.out.below q18)
  clear hb q18 
  obtain ⟨kA10, kA11⟩ := A1_18.out
  have lA1 := A1_18.out.lt
  obtain ⟨kA20⟩ := A2_18.out
  have lA2 := A2_18.out.lt
  go_wp2_with fail
  go_region_held3 (fun w' => w'.cell? ⟨w.heap.size, 0, none⟩ = some (vg1) ∧ w'.cell? ⟨w.heap.size, 1, none⟩ = some (vt1) ∧ w'.cell? ⟨w.heap.size + 1, 0, none⟩ = some (v2)) ((((try go_split_ands); (try dsimp only); (repeat' apply And.intro)) <;> (repeat (first | with_reducible assumption | ((with_reducible refine cnew0 ?_); simp; done) | ((with_reducible refine cnew1 ?_); simp; done) | (with_reducible refine akeep ?_) | (with_reducible refine dkeep ?_) | ((with_reducible refine skeep ?_ ?_); rotate_left; (first | ((try dsimp only); omega) | (simp; done) | (simp; omega))) | (with_reducible refine bkeep hb3 ?_)))))
    (first
      | (go_at_call_of 12 (Value.agg #[vg1, vt1]); refine (toTileSet_any vg1 vt1 S1 _ (H1.out.below (by (repeat (first | exact Below.refl _ _ | refine Below.setCell ?_ (by first | (simp; done) | (simp; omega) | omega) _ | refine belowN ?_ _ | refine Below.drew ?_ | refine Below.alloc ?_ (by first | (simp; done) | (simp; omega) | omega) _ | refine Below.trans ?_ (Below.mono (by assumption) (by first | (simp; done) | (simp; omega) | omega)))))) hs1).mono ?_; rintro e w19 ⟨⟨h1g, h1t, rfl, ho1⟩, hb3⟩; have s19 : w18.heap.size ≤ w19.heap.size := Nat.le_trans (by first | exact Nat.le_refl _ | (simp; done) | (simp; omega)) hb3.size)
      | (go_at_call_of 13 (Value.agg #[v2]); refine (toAssembly_any v2 P2 _ (H2.out.below (by (repeat (first | exact Below.refl _ _ | refine Below.setCell ?_ (by first | (simp; done) | (simp; omega) | omega) _ | refine belowN ?_ _ | refine Below.drew ?_ | refine Below.alloc ?_ (by first | (simp; done) | (simp; omega) | omega) _ | refine Below.trans ?_ (Below.mono (by assumption) (by first | (simp; done) | (simp; omega) | omega)))))) hs2).mono ?_; rintro e w20 ⟨⟨h2, rfl, ho2⟩, hb3⟩; have s20 : w19.heap.size ≤ w20.heap.size := Nat.le_trans (by first | exact Nat.le_refl _ | (simp; done) | (simp; omega)) hb3.size)
      | (go_at_call 34; refine (implBindingsOf_law h1g h1t S1 h2 P2 _ ((ho1.setIn hs1).below (by (repeat (first | exact Below.refl _ _ | refine Below.setCell ?_ (by first | (simp; done) | (simp; omega) | omega) _ | refine belowN ?_ _ | refine Below.drew ?_ | refine Below.alloc ?_ (by first | (simp; done) | (simp; omega) | omega) _ | refine Below.trans ?_ (Below.mono (by assumption) (by first | (simp; done) | (simp; omega) | omega)))))) ho1.sol ok1 hs1 (ho2.1.plcs.below (by (repeat (first | exact Below.refl _ _ | refine Below.setCell ?_ (by first | (simp; done) | (simp; omega) | omega) _ | refine belowN ?_ _ | refine Below.drew ?_ | refine Below.alloc ?_ (by first | (simp; done) | (simp; omega) | omega) _ | refine Below.trans ?_ (Below.mono (by assumption) (by first | (simp; done) | (simp; omega) | omega)))))) ho2.2 ok2 hs2 (hTab.out.below (B := w.heap.size) (by (repeat (first | exact Below.refl _ _ | refine Below.setCell ?_ (by first | (simp; done) | (simp; omega) | omega) _ | refine belowN ?_ _ | refine Below.drew ?_ | refine Below.alloc ?_ (by first | (simp; done) | (simp; omega) | omega) _ | refine Below.trans ?_ (Below.mono (by assumption) (by first | (simp; done) | (simp; omega) | omega))))) hTlt)).mono ?_; rintro e w21 ⟨⟨hr, rfl, hro⟩, hb3⟩; have s21 : w20.heap.size ≤ w21.heap.size := Nat.le_trans (by first | exact Nat.le_refl _ | (simp; done) | (simp; omega)) hb3.size; obtain ⟨hra, hrn, hrc, rfl⟩ := hro.ints.shape))
  have q21 : Below w18.heap.size w18 w21 := by (repeat (first | exact Below.refl _ _ | refine Below.setCell ?_ (by first | (simp; done) | (simp; omega) | omega) _ | refine belowN ?_ _ | refine Below.drew ?_ | refine Below.alloc ?_ (by first | (simp; done) | (simp; omega) | omega) _ | refine Below.trans ?_ (Below.mono (by assumption) (by first | (simp; done) | (simp; omega) | omega))))
  have B21 : Below w.heap.size w w21 := B18.trans (q21.mono (by omega))
  have C21 := Lib.hid (C18.out.trans (q21.mono (by omega)))
  have A1_21 := Lib.hid (A1_18.out.below q21)
  have A2_21 := Lib.hid (A2_18.out.below q21)
  have U_21 := Lib.hid (U_18.out.below q21)
  clear kA10 kA11 lA1 kA20 lA2
  clear hb3 q21
  have HI := Lib.hid hro.ints
  clear hro
  go_wp2_with fail
  refine (eqInt64S_yes _ _ (biZ S1 P2) _ (HI.out.below (by (repeat (first | exact Below.refl _ _ | refine Below.setCell ?_ (by first | (simp; done) | (simp; omega) | omega) _ | refine belowN ?_ _ | refine Below.drew ?_ | refine Below.alloc ?_ (by first | (simp; done) | (simp; omega) | omega) _ | refine Below.trans ?_ (Below.mono (by assumption) (by first | (simp; done) | (simp; omega) | omega)))))) ((VS.out.below C21.out).below (by (repeat (first | exact Below.refl _ _ | refine Below.setCell ?_ (by first | (simp; done) | (simp; omega) | omega) _ | refine belowN ?_ _ | refine Below.drew ?_ | refine Below.alloc ?_ (by first | (simp; done) | (simp; omega) | omega) _ | refine Below.trans ?_ (Below.mono (by assumption) (by first | (simp; done) | (simp; omega) | omega))))))).mono ?_
  rintro e w22 ⟨rfl, hb⟩
  have q22 : Below w21.heap.size w21 w22 := by (repeat (first | exact Below.refl _ _ | refine Below.setCell ?_ (by first | (simp; done) | (simp; omega) | omega) _ | refine belowN ?_ _ | refine Below.drew ?_ | refine Below.alloc ?_ (by first | (simp; done) | (simp; omega) | omega) _ | refine Below.trans ?_ (Below.mono (by assumption) (by first | (simp; done) | (simp; omega) | omega))))
  have s22 : w21.heap.size ≤ w22.heap.size := q22.size
  have B22 : Below w.heap.size w w22 := B21.trans (q22.mono (by omega))
  have C22 := Lib.hid (C21.out.trans (q22.mono (by omega)))
  have A1_22 := Lib.hid (A1_21.out.below q22)
  have A2_22 := Lib.hid (A2_21.out.below q22)
  have U_22 := Lib.hid (U_21.out.below q22)
  clear hb q22 
  go_wp2_with fail
  refine (heldInt64S_own _ (biZ S1 P2) _ U_22.out hsR).mono ?_
  rintro e w23 ⟨rfl, hb⟩
  have q23 : Below w22.heap.size w22 w23 := by (repeat (first | exact Below.refl _ _ | refine Below.setCell ?_ (by first | (simp; done) | (simp; omega) | omega) _ | refine belowN ?_ _ | refine Below.drew ?_ | refine Below.alloc ?_ (by first | (simp; done) | (simp; omega) | omega) _ | refine Below.trans ?_ (Below.mono (by assumption) (by first | (simp; done) | (simp; omega) | omega))))
  have s23 : w22.heap.size ≤ w23.heap.size := q23.size
  have B23 : Below w.heap.size w w23 := B22.trans (q23.mono (by omega))
  have C23 := Lib.hid (C22.out.trans (q23.mono (by omega)))
  have A1_23 := Lib.hid (A1_22.out.below q23)
  have A2_23 := Lib.hid (A2_22.out.below q23)
  have U_23 := Lib.hid (U_22.out.below q23)
  clear hb q23 
  go_wp2_with fail
  go_ret
  exact ⟨rfl, B23⟩

namespace fnExactBindingsOf
open Go.ChangeShapes Go.WideShapes Go.ChangeAt Go.RowKit Go.Joins Go.WideElems
open Go.ChangeMaps (open_string shut_string)
theorem own : ownKnob Tryd.prog.godebug = none := by kernel_rfl
theorem laidOut : laidOutB Tryd.prog = true := by kernel_rfl
theorem readable : (Tryd.f8.params.toList.all fun t => Tryd.prog.readableRec t && decide (t < Tryd.prog.types.size)) = true := by kernel_rfl
theorem rowed : varsRowed Tryd.prog Rows.fnExactBindingsOfSpec.vars = true := by kernel_rfl
theorem cells_0 : Tryd.prog.cellsOf 25 = 2 := by kernel_rfl
theorem cells_1 : Tryd.prog.cellsOf 28 = 1 := by kernel_rfl
theorem door_met (os : Os) (args : Array Value) : laidMetH Tryd.prog Rows.fnExactBindingsOfRow.laid ((World.doorLaid Tryd.prog 4000 os).forCall (fun _ _ => 0) ⟨#[], args, []⟩).memory :=
  laidMetH_of_parts3 (fuel := 8) (laidMet_of_run' 8 (by kernel_rfl) (by kernel_rfl)) (by kernel_rfl) (by kernel_rfl)
set_option maxRecDepth 100000 in
set_option linter.unusedVariables false in
theorem contract (H : Type) (enc : TypeId × Value → H) (W : World) (base : Nat) (args : Array Value) (ds gs : List (DataW H)) (before : List MemPlace)
    (hval : ∀ (j : Nat) t v, Tryd.f8.params[j]? = some t → args[j]? = some v → Value.okWide Tryd.prog W .any base t v)
    (hW : DataW.Whole enc Tryd.prog Tryd.f8.params.toList Rows.fnExactBindingsOfSpec.vars false W args.toList ds gs before) (hL : laidMetH Tryd.prog Rows.fnExactBindingsOfRow.laid W) :
    Calls Tryd.prog 8 args W fun e W' => ∃ v, e = .returned v ∧ Rows.fnExactBindingsOfSpec.post enc Tryd.prog Tryd.f8 false true false false W args v W' := by
  have hW' := hW
  obtain ⟨p, q, hA0, hV, rfl, hfz, hnd⟩ := hW
  have hA : DataW.TrodAll enc Tryd.prog W 0 (fun _ => true) true Tryd.f8.params.toList args.toList ds p := hA0
  rw [Tryd.params8] at hA hval
  obtain ⟨v0, vs0, d0, ds0, p0, q0, ha0, rfl, rfl, h0, r0⟩ := trodAll_cons hA
  obtain ⟨v1, vs1, d1, ds1, p1, q1, ha1, rfl, rfl, h1, r1⟩ := trodAll_cons r0
  obtain ⟨rfl, rfl, rfl⟩ := trodAll_nil r1
  obtain rfl : args = #[v0, v1] := by cases args; simp_all
  have hV2 := hV
  obtain ⟨_, _, _, _, dv, _, rfl, -, -, -, -, -⟩ := trodVars_one hV
  obtain ⟨c0, e0, y0, z0, m0, rfl, -, -, hy0, hz0⟩ := open_agg2 Tryd.underlying25 (by kernel_rfl) cells_0 (hval 0 25 v0 rfl rfl) h0
  obtain ⟨gs0, hg0, og0⟩ := open_glues (t := 22) (e := 103) Tryd.underlying22 Tryd.underlying103 (by kernel_rfl) (by kernel_rfl) rfl rfl Tryd.underlying9 Tryd.underlying2 hy0
  obtain ⟨ts0, ht0, ot0⟩ := open_tiles (t := 23) (e := 106) Tryd.underlying23 Tryd.underlying106 (by kernel_rfl) (by kernel_rfl) rfl rfl Tryd.underlying9 Tryd.underlying58 Tryd.underlying2 (by kernel_rfl) hz0
  obtain ⟨c1, y1, m1, rfl, hy1⟩ := open_one Tryd.underlying28 (by kernel_rfl) cells_1 (hval 1 28 v1 rfl rfl) h1
  obtain ⟨ps1, hg1, og1⟩ := open_placed (t := 26) (e := 119) (tp := 30) (ti := 2) Tryd.underlying26 Tryd.underlying119 Tryd.underlying30 (by kernel_rfl) ⟨rfl, rfl⟩ ⟨rfl, rfl⟩ (by kernel_rfl) (by kernel_rfl) ⟨rfl, rfl⟩ ⟨rfl, rfl⟩ Tryd.underlying2 hy1
  refine (walk_FnExactBindingsOf c0 e0 ⟨gs0, ts0⟩ c1 ps1 W ⟨hg0, ht0⟩ ⟨og0, ot0⟩ hg1 og1 hL).mono fun e W' ⟨he, hg⟩ => ?_
  subst he
  exact ⟨_, rfl, post_card (pa := _) (pv := _) hW' (fun _ _ _ => (trodAll_cons_mk (shut_bool Tryd.underlying4 _) trodAll_mk0)) (Below.trodAll laidOut readable hA0 hg fun x hx => hW'.lt x (List.mem_append_left _ hx)) (Below.trodVars laidOut hg rowed hV2) rfl hg⟩
set_option maxRecDepth 100000 in
theorem lifted (os : Os) (started : os.Started) (H : Type) (enc : TypeId × Value → H) :
    ReturnsInHanded {} Tryd.checked os 8 .any (fun w args => (Rows.fnExactBindingsOfSpec.pre enc Tryd.prog Tryd.f8 [] false w args ∧ laidMetH Tryd.prog Rows.fnExactBindingsOfRow.laid w) ∧ sizedMet enc Tryd.prog Tryd.f8 (OpenSpec.ofChange Rows.fnExactBindingsOfSpec) false w args)
      (Rows.fnExactBindingsOfSpec.post enc Tryd.prog Tryd.f8 false true false false) := by
  refine returnsInHanded_of_change_and (C := Tryd.checked) (X := fun w _ => laidMetH Tryd.prog Rows.fnExactBindingsOfRow.laid w) (fun _ _ _ hh h => h.of_heap hh) own started (by kernel_rfl) Tryd.func8
    (ChangeSpec.witness_shaped (enc := enc) (C := Tryd.checked) (os := os) (X := fun w _ => laidMetH Tryd.prog Rows.fnExactBindingsOfRow.laid w) false (World.doorLaid Tryd.prog 4000 os) #[.agg #[.slice none 0 0, .slice none 0 0], .agg #[.slice none 0 0]] 8 rfl (World.shaped_of_RefB (by kernel_rfl) (by kernel_rfl)) (by kernel_rfl) (by kernel_rfl) (by kernel_rfl) (door_met os _)) ?_
  intro W base args ds gs before hval hW _ _ hL _
  exact contract H enc W base args ds gs before hval hW hL
theorem said : Rows.FnExactBindingsOfSaid :=
  OpenClaim.holds_of_wide 8 Tryd.f8 rfl rfl rfl rfl rfl rfl rfl ⟨rfl, rfl, rfl, rfl, rfl⟩ rfl rfl rfl rfl rfl (by kernel_rfl) Tryd.func8 (by kernel_rfl)
    (of_decide_eq_true (by kernel_rfl)) (by unfold Func.isWrapper; first | (rw [if_pos (by decide +kernel)]; kernel_rfl) | (rw [if_neg (by decide +kernel)]; exact ⟨rfl, rfl⟩))
    (fun os started H enc _ => lifted os started H enc)
theorem plain (f : FuncId) (fn : Func) (hf : Tryd.pinned.checked.prog.funcNamed "loop.example/g01081/laws.FnExactBindingsOf" = some f) (hfn : Tryd.pinned.checked.prog.funcs[f]? = some fn) :
    Rows.fnExactBindingsOfCard.stood.looks = Tryd.pinned.checked.prog.looks [] ∧ ∀ (j : Nat) t, fn.params[j]? = some t → Tryd.pinned.checked.prog.wantsStandIn t = false := by
  obtain rfl : f = 8 := Option.some.inj ((show Tryd.prog.funcNamed "loop.example/g01081/laws.FnExactBindingsOf" = some 8 by kernel_rfl).symm.trans hf) |>.symm
  obtain rfl : fn = Tryd.f8 := (Option.some.inj (Tryd.func8.symm.trans hfn)).symm
  refine ⟨by kernel_rfl, fun j t ht => ?_⟩
  rw [Tryd.params8] at ht
  have hm := Array.mem_of_getElem? ht
  simp at hm
  rcases hm with rfl | rfl
  · exact (show Tryd.prog.wantsStandIn 25 = false by kernel_rfl)
  · exact (show Tryd.prog.wantsStandIn 28 = false by kernel_rfl)
end fnExactBindingsOf
theorem fnExactBindingsOf_card : Rows.FnExactBindingsOfCardSaid :=
  Claim7.holds_tied_plain_at .later [] _ _ _ _ fnExactBindingsOf.said (fun _ h => by cases h) (by kernel_rfl) (fun _ h => by cases h) fnExactBindingsOf_row_tie rfl ⟨rfl, rfl⟩ (by kernel_rfl) rfl fnExactBindingsOf.plain (by kernel_rfl)
end Go.Proofs.YtnofbeeihdgmdaaDoor
