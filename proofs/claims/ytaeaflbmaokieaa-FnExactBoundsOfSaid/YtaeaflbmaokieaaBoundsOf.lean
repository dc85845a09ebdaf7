/-
  For every assembly, BoundsOf of the program answers as the model's, all three results; the law FnExactBoundsOf returns true and leaves its argument as it was. Conditions: none.
-/
import Derived.Test.YtaeaflbmaokieaaBounds
import Derived.Test.YtaeaflbmaokieaaPtsI
namespace Go.Proofs.Ytaeaflbmaokieaa
open Go.RowKit

theorem bndV_po {P : List Pl} (h : formB P = true) : bndV (poQ P) = .tuple #[.agg #[.int .i64 (mnF (pX P) (P.length - 1)), .int .i64 (mnF (pY P) (P.length - 1))], .agg #[.int .i64 (mxF (pX P) (P.length - 1)), .int .i64 (mxF (pY P) (P.length - 1))]] := by
  rw [poQ_yes h]
  rfl

set_option maxRecDepth 100000 in
set_option maxHeartbeats 2000000 in
set_option linter.unusedSimpArgs false in
theorem implBoundsOf_any (v1 : Value) (P1 : List Pl) (w : World) (h1 : Plcs w v1 P1) (s1 : ∃ a k q, v1 = .slice (some a) k q) (o1 : ∀ p ∈ P1, p.ok) (m1 : P1.length ≤ 1048576) :
    Calls Try.prog 28 #[.agg #[v1]] w fun e w' => e = .returned (boR P1) ∧ Below w.heap.size w w' := by
  have HV := Lib.hid h1
  obtain ⟨ao, cap, rfl, hl, hm, hc⟩ := h1.open_
  unfold maxLen at hm
  have HB := Lib.hid (boxes_b w (.slice ao P1.length cap) 30 34)
  clear h1 hc
  go_enter Try.func28, Try.ntmps28
  go_wp2_with fail
  refine (hasForm_any _ P1 _ (HV.out.below (by (repeat (first | exact Below.refl _ _ | refine Below.setCell ?_ (by first | (simp; done) | (simp; omega) | omega) _ | refine belowN ?_ _ | refine Below.drew ?_ | refine Below.alloc ?_ (by first | (simp; done) | (simp; omega) | omega) _ | refine Below.trans ?_ (Below.mono (by assumption) (by first | (simp; done) | (simp; omega) | omega))))))).mono ?_
  rintro e w1 ⟨rfl, hb1⟩
  have B1 : Below w.heap.size w w1 := by (repeat (first | exact Below.refl _ _ | refine Below.setCell ?_ (by first | (simp; done) | (simp; omega) | omega) _ | refine belowN ?_ _ | refine Below.drew ?_ | refine Below.alloc ?_ (by first | (simp; done) | (simp; omega) | omega) _ | refine Below.trans ?_ (Below.mono (by assumption) (by first | (simp; done) | (simp; omega) | omega))))
  have z1 := B1.size
  have A1 := Lib.hid (HB.out.1.below hb1)
  have R1 := Lib.hid (HB.out.2.1.below hb1)
  have S1 := Lib.hid (HB.out.2.2.below hb1)
  have z2 := S1.out.lt
  clear hb1
  obtain ⟨x0, x1, zx0, zx1⟩ := R1.out
  obtain ⟨y0, y1, zy0, zy1⟩ := S1.out
  have a0 := A1.out.c0
  cases hf : formB P1
  · have K := Lib.hid (boR_1 hf)
    go_wp2_with fail
    refine bodyPost_ret (v := boR P1) ?_ rfl ⟨rfl, by (repeat (first | exact Below.refl _ _ | refine Below.setCell ?_ (by first | (simp; done) | (simp; omega) | omega) _ | refine belowN ?_ _ | refine Below.drew ?_ | refine Below.alloc ?_ (by first | (simp; done) | (simp; omega) | omega) _ | refine Below.trans ?_ (Below.mono (by assumption) (by first | (simp; done) | (simp; omega) | omega))))⟩
    rw [K.out]
    simp [results, Try.results28, go_sem, x0, x1, y0, y1]
  by_cases h0 : P1.length = 0
  · have K := Lib.hid (boR_3 hf h0)
    have hb : ((P1.length : Int) == 0) = true := by rw [h0]; rfl
    clear h0
    go_wp2_with fail
    refine bodyPost_ret (v := boR P1) ?_ rfl ⟨rfl, by (repeat (first | exact Below.refl _ _ | refine Below.setCell ?_ (by first | (simp; done) | (simp; omega) | omega) _ | refine belowN ?_ _ | refine Below.drew ?_ | refine Below.alloc ?_ (by first | (simp; done) | (simp; omega) | omega) _ | refine Below.trans ?_ (Below.mono (by assumption) (by first | (simp; done) | (simp; omega) | omega))))⟩
    rw [K.out]
    simp [results, Try.results28, go_sem, x0, x1, y0, y1]
  have K := Lib.hid (boR_0 hf h0)
  have KB := Lib.hid (bndV_po hf)
  have KN := Lib.hid (show 0 < (poQ P1).n by rw [poQ_yes hf]; dsimp only; omega)
  have hb : ((P1.length : Int) == 0) = false := by rw [beq_eq_false_iff_ne]; omega
  clear h0 x0 x1 zx0 zx1 y0 y1 zy0 zy1
  go_wp2_with fail
  refine (implPointsOf_law _ P1 _ (HV.out.below (by (repeat (first | exact Below.refl _ _ | refine Below.setCell ?_ (by first | (simp; done) | (simp; omega) | omega) _ | refine belowN ?_ _ | refine Below.drew ?_ | refine Below.alloc ?_ (by first | (simp; done) | (simp; omega) | omega) _ | refine Below.trans ?_ (Below.mono (by assumption) (by first | (simp; done) | (simp; omega) | omega)))))) s1 o1 m1).mono ?_
  rintro e w2 ⟨⟨u, rfl, own⟩, hb2⟩
  have B2 : Below w.heap.size w w2 := by (repeat (first | exact Below.refl _ _ | refine Below.setCell ?_ (by first | (simp; done) | (simp; omega) | omega) _ | refine belowN ?_ _ | refine Below.drew ?_ | refine Below.alloc ?_ (by first | (simp; done) | (simp; omega) | omega) _ | refine Below.trans ?_ (Below.mono (by assumption) (by first | (simp; done) | (simp; omega) | omega))))
  have R2 := Lib.hid (R1.out.below hb2)
  have S2 := Lib.hid (S1.out.below hb2)
  have z3 := S2.out.lt
  have HO := Lib.hid own
  clear hb2 own a0
  go_wp2_with fail
  refine (pointBounds_any _ (poQ P1) _ HO.out.qs KN.out).mono ?_
  rintro e w3 ⟨rfl, hb3⟩
  rw [KB.out]
  have B3 : Below w.heap.size w w3 := by (repeat (first | exact Below.refl _ _ | refine Below.setCell ?_ (by first | (simp; done) | (simp; omega) | omega) _ | refine belowN ?_ _ | refine Below.drew ?_ | refine Below.alloc ?_ (by first | (simp; done) | (simp; omega) | omega) _ | refine Below.trans ?_ (Below.mono (by assumption) (by first | (simp; done) | (simp; omega) | omega))))
  have R3 := Lib.hid (R2.out.below hb3)
  have S3 := Lib.hid (S2.out.below hb3)
  have z4 := S3.out.lt
  clear hb3
  go_wp2_with fail
  have p0 : ((w3.alloc (.cells #[.int .i64 (mnF (pX P1) (P1.length - 1)), .int .i64 (mnF (pY P1) (P1.length - 1))] 34)).alloc (.cells #[.int .i64 (mxF (pX P1) (P1.length - 1)), .int .i64 (mxF (pY P1) (P1.length - 1))] 34)).cell? ⟨w3.heap.size, 0, none⟩ = some (.int .i64 (mnF (pX P1) (P1.length - 1))) := by simp [go_sem]
  have p1 : ((w3.alloc (.cells #[.int .i64 (mnF (pX P1) (P1.length - 1)), .int .i64 (mnF (pY P1) (P1.length - 1))] 34)).alloc (.cells #[.int .i64 (mxF (pX P1) (P1.length - 1)), .int .i64 (mxF (pY P1) (P1.length - 1))] 34)).cell? ⟨w3.heap.size, 1, none⟩ = some (.int .i64 (mnF (pY P1) (P1.length - 1))) := by simp [go_sem]
  have p2 : ((w3.alloc (.cells #[.int .i64 (mnF (pX P1) (P1.length - 1)), .int .i64 (mnF (pY P1) (P1.length - 1))] 34)).alloc (.cells #[.int .i64 (mxF (pX P1) (P1.length - 1)), .int .i64 (mxF (pY P1) (P1.length - 1))] 34)).cell? ⟨w3.heap.size + 1, 0, none⟩ = some (.int .i64 (mxF (pX P1) (P1.length - 1))) := by simp [go_sem]
  have p3 : ((w3.alloc (.cells #[.int .i64 (mnF (pX P1) (P1.length - 1)), .int .i64 (mnF (pY P1) (P1.length - 1))] 34)).alloc (.cells #[.int .i64 (mxF (pX P1) (P1.length - 1)), .int .i64 (mxF (pY P1) (P1.length - 1))] 34)).cell? ⟨w3.heap.size + 1, 1, none⟩ = some (.int .i64 (mxF (pY P1) (P1.length - 1))) := by simp [go_sem]
  have R4 := (R3.out.alloc (.cells #[.int .i64 (mnF (pX P1) (P1.length - 1)), .int .i64 (mnF (pY P1) (P1.length - 1))] 34)).alloc (.cells #[.int .i64 (mxF (pX P1) (P1.length - 1)), .int .i64 (mxF (pY P1) (P1.length - 1))] 34)
  have S4 := (S3.out.alloc (.cells #[.int .i64 (mnF (pX P1) (P1.length - 1)), .int .i64 (mnF (pY P1) (P1.length - 1))] 34)).alloc (.cells #[.int .i64 (mxF (pX P1) (P1.length - 1)), .int .i64 (mxF (pY P1) (P1.length - 1))] 34)
  have B4 : Below w.heap.size w ((w3.alloc (.cells #[.int .i64 (mnF (pX P1) (P1.length - 1)), .int .i64 (mnF (pY P1) (P1.length - 1))] 34)).alloc (.cells #[.int .i64 (mxF (pX P1) (P1.length - 1)), .int .i64 (mxF (pY P1) (P1.length - 1))] 34)) := by (repeat (first | exact Below.refl _ _ | refine Below.setCell ?_ (by first | (simp; done) | (simp; omega) | omega) _ | refine belowN ?_ _ | refine Below.drew ?_ | refine Below.alloc ?_ (by first | (simp; done) | (simp; omega) | omega) _ | refine Below.trans ?_ (Below.mono (by assumption) (by first | (simp; done) | (simp; omega) | omega))))
  generalize ((w3.alloc (.cells #[.int .i64 (mnF (pX P1) (P1.length - 1)), .int .i64 (mnF (pY P1) (P1.length - 1))] 34)).alloc (.cells #[.int .i64 (mxF (pX P1) (P1.length - 1)), .int .i64 (mxF (pY P1) (P1.length - 1))] 34)) = w4 at *
  obtain ⟨x0, x1, zx0, zx1⟩ := R4
  obtain ⟨y0, y1, zy0, zy1⟩ := S4
  refine wp_region_held_drew (S := (fun w' => w'.cell? ⟨w3.heap.size, 0, none⟩ = some (.int .i64 (mnF (pX P1) (P1.length - 1))) ∧ w'.cell? ⟨w3.heap.size, 1, none⟩ = some (.int .i64 (mnF (pY P1) (P1.length - 1))) ∧ w'.cell? ⟨w3.heap.size + 1, 0, none⟩ = some (.int .i64 (mxF (pX P1) (P1.length - 1))) ∧ w'.cell? ⟨w3.heap.size + 1, 1, none⟩ = some (.int .i64 (mxF (pY P1) (P1.length - 1))))) (by kernel_rfl) ?_ (fun hHeld => ?_)
  · (try dsimp only)
    (((try go_split_ands); (try dsimp only); (repeat' apply And.intro)) <;> (repeat (first | with_reducible assumption | ((with_reducible refine cnew0 ?_); simp; done) | ((with_reducible refine cnew1 ?_); simp; done) | (with_reducible refine akeep ?_) | (with_reducible refine dkeep ?_) | ((with_reducible refine skeep ?_ ?_); rotate_left; (first | ((try dsimp only); omega) | (simp; done) | (simp; omega))) | (with_reducible refine bkeep hb3 ?_))))
  refine wpAnyH_take (i := 0) (oi := ⟨_, _, _, _, _, _⟩) (v := ?_) rfl (by kernel_rfl) (by kernel_rfl) (by kernel_rfl) (fun _ _ _ h => h) (Or.inl ⟨by rfl, ?_⟩) (by assumption) ?_
  rotate_left
  · (intro w hSw; (try dsimp only at hSw); go_simp; (try with_reducible rfl))
  (try simp only [Act.put, List.setIfInBounds_toArray, List.set_cons_zero, List.set_cons_succ])
  refine wpAnyH_take (i := 1) (oi := ⟨_, _, _, _, _, _⟩) (v := ?_) rfl (by kernel_rfl) (by kernel_rfl) (by kernel_rfl) (fun _ _ _ h => h) (Or.inl ⟨by rfl, ?_⟩) (by assumption) ?_
  rotate_left
  · (intro w hSw; (try dsimp only at hSw); go_simp; (try with_reducible rfl))
  (try simp only [Act.put, List.setIfInBounds_toArray, List.set_cons_zero, List.set_cons_succ])
  refine wpAnyH_ready (rs := [2]) (by kernel_rfl) (by simp) ?_
  refine AllReadyH.cons (o := ⟨_, _, _, _, _, _⟩) rfl (fun K hK => ?_) AllReadyH.nil
  go_simp
  refine hK.out _ _ ?_ (fun hHeld => ?_)
  · (try dsimp only)
    (((try go_split_ands); (try dsimp only); (repeat' apply And.intro)) <;> (repeat (first | with_reducible assumption | ((with_reducible refine cnew0 ?_); simp; done) | ((with_reducible refine cnew1 ?_); simp; done) | (with_reducible refine akeep ?_) | (with_reducible refine dkeep ?_) | ((with_reducible refine skeep ?_ ?_); rotate_left; (first | ((try dsimp only); omega) | (simp; done) | (simp; omega))) | (with_reducible refine bkeep hb3 ?_))))
  clear hK K
  (try simp only [Act.put, List.setIfInBounds_toArray, List.set_cons_zero, List.set_cons_succ])
  refine wpAnyH_ready (rs := [3]) (by kernel_rfl) (by simp) ?_
  refine AllReadyH.cons (o := ⟨_, _, _, _, _, _⟩) rfl (fun K hK => ?_) AllReadyH.nil
  go_simp
  refine hK.out _ _ ?_ (fun hHeld => ?_)
  · (try dsimp only)
    (((try go_split_ands); (try dsimp only); (repeat' apply And.intro)) <;> (repeat (first | with_reducible assumption | ((with_reducible refine cnew0 ?_); simp; done) | ((with_reducible refine cnew1 ?_); simp; done) | (with_reducible refine akeep ?_) | (with_reducible refine dkeep ?_) | ((with_reducible refine skeep ?_ ?_); rotate_left; (first | ((try dsimp only); omega) | (simp; done) | (simp; omega))) | (with_reducible refine bkeep hb3 ?_))))
  clear hK K
  (try simp only [Act.put, List.setIfInBounds_toArray, List.set_cons_zero, List.set_cons_succ])
  refine wpAnyH_take (i := 4) (oi := ⟨_, _, _, _, _, _⟩) (v := ?_) rfl (by kernel_rfl) (by kernel_rfl) (by kernel_rfl) (fun _ _ _ h => h) (Or.inl ⟨by rfl, ?_⟩) (by assumption) ?_
  rotate_left
  · (intro w hSw; (try dsimp only at hSw); go_simp; (try with_reducible rfl))
  (try simp only [Act.put, List.setIfInBounds_toArray, List.set_cons_zero, List.set_cons_succ])
  refine wpAnyH_done (by kernel_rfl) ?_ _
  go_wp2_with fail
  refine bodyPost_ret (v := boR P1) ?_ rfl ⟨rfl, by (repeat (first | exact Below.refl _ _ | refine Below.setCell ?_ (by first | (simp; done) | (simp; omega) | omega) _ | refine belowN ?_ _ | refine Below.drew ?_ | refine Below.alloc ?_ (by first | (simp; done) | (simp; omega) | omega) _ | refine Below.trans ?_ (Below.mono (by assumption) (by first | (simp; done) | (simp; omega) | omega))))⟩
  rw [K.out]
  simp [results, Try.results28, go_sem, x0, x1, y0, y1]

theorem specBoundsOf_law (v1 : Value) (P1 : List Pl) (w : World) (h1 : Plcs w v1 P1) (s1 : ∃ a k q, v1 = .slice (some a) k q) (o1 : ∀ p ∈ P1, p.ok) (m1 : P1.length ≤ 1048576) :
    Calls Try.prog 27 #[.agg #[v1]] w fun e w' => e = .returned (.tuple #[.agg #[.int .i64 (boW P1), .int .i64 (boS P1)], .agg #[.int .i64 (boE P1), .int .i64 (boN P1)], .int .i64 (boC P1)]) ∧ Below w.heap.size w w' := specBoundsOf_any v1 P1 w h1 s1 o1 m1
theorem implBoundsOf_law (v1 : Value) (P1 : List Pl) (w : World) (h1 : Plcs w v1 P1) (s1 : ∃ a k q, v1 = .slice (some a) k q) (o1 : ∀ p ∈ P1, p.ok) (m1 : P1.length ≤ 1048576) :
    Calls Try.prog 28 #[.agg #[v1]] w fun e w' => e = .returned (.tuple #[.agg #[.int .i64 (boW P1), .int .i64 (boS P1)], .agg #[.int .i64 (boE P1), .int .i64 (boN P1)], .int .i64 (boC P1)]) ∧ Below w.heap.size w w' := implBoundsOf_any v1 P1 w h1 s1 o1 m1

set_option maxRecDepth 100000 in
set_option maxHeartbeats 1000000 in
set_option linter.unusedVariables false in
set_option linter.unusedSimpArgs false in
theorem walk_FnExactBoundsOf (v1 : Value) (P1 : List Pl) (w : World) (h1 : Plcs w v1 P1) (ok1 : ∀ p ∈ P1, p.ok) :
    Calls Try.prog 7 #[.agg #[v1]] w fun e w' => e = .returned (.bool true) ∧ Below w.heap.size w w' := by
  have H1 := Lib.hid h1
  clear h1
  have A1_0' : At1 (w.alloc (.cells #[v1] 24)) (w.heap.size) v1 := ⟨by simp [go_sem]⟩
  have A1_0 := Lib.hid A1_0'
  clear A1_0'
  go_enter Try.func7, Try.ntmps7
  go_wp2_with fail
  refine (szAssembly_any v1 P1 1048576 _ (H1.out.below (by (repeat (first | exact Below.refl _ _ | refine Below.setCell ?_ (by first | (simp; done) | (simp; omega) | omega) _ | refine belowN ?_ _ | refine Below.drew ?_ | refine Below.alloc ?_ (by first | (simp; done) | (simp; omega) | omega) _ | refine Below.trans ?_ (Below.mono (by assumption) (by first | (simp; done) | (simp; omega) | omega)))))) (by omega) (by omega)).mono ?_
  rintro e w1 ⟨⟨r1, rfl, hr⟩, hb⟩
  have B1 : Below w.heap.size w w1 := by (repeat (first | exact Below.refl _ _ | refine Below.setCell ?_ (by first | (simp; done) | (simp; omega) | omega) _ | refine belowN ?_ _ | refine Below.drew ?_ | refine Below.alloc ?_ (by first | (simp; done) | (simp; omega) | omega) _ | refine Below.trans ?_ (Below.mono (by assumption) (by first | (simp; done) | (simp; omega) | omega))))
  have A1_1 := Lib.hid (A1_0.out.below hb)
  have s1 : w.heap.size < w1.heap.size := A1_1.out.lt
  clear hb
  rcases hr with rfl | ⟨hl1, hm1, hs1⟩
  · go_wp2
    go_ret
    exact ⟨rfl, B1⟩
  have bb1 : decide (r1 < 0) = false := by simp; omega
  obtain ⟨kA10⟩ := A1_1.out
  have lA1 := A1_1.out.lt
  go_wp2_with fail
  refine (toAssembly_any v1 P1 _ (H1.out.below (by (repeat (first | exact Below.refl _ _ | refine Below.setCell ?_ (by first | (simp; done) | (simp; omega) | omega) _ | refine belowN ?_ _ | refine Below.drew ?_ | refine Below.alloc ?_ (by first | (simp; done) | (simp; omega) | omega) _ | refine Below.trans ?_ (Below.mono (by assumption) (by first | (simp; done) | (simp; omega) | omega)))))) hs1).mono ?_
  rintro e w2 ⟨⟨z1, rfl, zo1⟩, hb⟩
  have q2 : Below w1.heap.size w1 w2 := by (repeat (first | exact Below.refl _ _ | refine Below.setCell ?_ (by first | (simp; done) | (simp; omega) | omega) _ | refine belowN ?_ _ | refine Below.drew ?_ | refine Below.alloc ?_ (by first | (simp; done) | (simp; omega) | omega) _ | refine Below.trans ?_ (Below.mono (by assumption) (by first | (simp; done) | (simp; omega) | omega))))
  have s2 : w1.heap.size ≤ w2.heap.size := q2.size
  have B2 : Below w.heap.size w w2 := B1.trans (q2.mono (by omega))
  have A1_2 := Lib.hid (A1_1.out.below q2)
  have IN := Lib.hid zo1.1.plcs
  have SOL := zo1.2
  clear hb q2 zo1
  clear kA10 lA1
  go_wp2_with fail
  refine (specBoundsOf_law z1 P1 _ (IN.out.below (by (repeat (first | exact Below.refl _ _ | refine Below.setCell ?_ (by first | (simp; done) | (simp; omega) | omega) _ | refine belowN ?_ _ | refine Below.drew ?_ | refine Below.alloc ?_ (by first | (simp; done) | (simp; omega) | omega) _ | refine Below.trans ?_ (Below.mono (by assumption) (by first | (simp; done) | (simp; omega) | omega)))))) SOL ok1 hs1).mono ?_
  rintro e w3 ⟨rfl, hb⟩
  have q3 : Below w2.heap.size w2 w3 := by (repeat (first | exact Below.refl _ _ | refine Below.setCell ?_ (by first | (simp; done) | (simp; omega) | omega) _ | refine belowN ?_ _ | refine Below.drew ?_ | refine Below.alloc ?_ (by first | (simp; done) | (simp; omega) | omega) _ | refine Below.trans ?_ (Below.mono (by assumption) (by first | (simp; done) | (simp; omega) | omega))))
  have s3 : w2.heap.size ≤ w3.heap.size := q3.size
  have B3 : Below w.heap.size w w3 := B2.trans (q3.mono (by omega))
  have A1_3 := Lib.hid (A1_2.out.below q3)
  clear hb q3 IN SOL
  obtain ⟨kA10⟩ := A1_3.out
  have lA1 := A1_3.out.lt
  go_wp2_with fail
  refine (toAssembly_any v1 P1 _ (H1.out.below (by (repeat (first | exact Below.refl _ _ | refine Below.setCell ?_ (by first | (simp; done) | (simp; omega) | omega) _ | refine belowN ?_ _ | refine Below.drew ?_ | refine Below.alloc ?_ (by first | (simp; done) | (simp; omega) | omega) _ | refine Below.trans ?_ (Below.mono (by assumption) (by first | (simp; done) | (simp; omega) | omega)))))) hs1).mono ?_
  rintro e w4 ⟨⟨x1_, rfl, own⟩, hb⟩
  have q4 : Below w3.heap.size w3 w4 := by (repeat (first | exact Below.refl _ _ | refine Below.setCell ?_ (by first | (simp; done) | (simp; omega) | omega) _ | refine belowN ?_ _ | refine Below.drew ?_ | refine Below.alloc ?_ (by first | (simp; done) | (simp; omega) | omega) _ | refine Below.trans ?_ (Below.mono (by assumption) (by first | (simp; done) | (simp; omega) | omega))))
  have s4 : w3.heap.size ≤ w4.heap.size := q4.size
  have B4 : Below w.heap.size w w4 := B3.trans (q4.mono (by omega))
  have C4 := Lib.hid q4
  have A1_4 := Lib.hid (A1_3.out.below q4)
  have W0_4 := Lib.hid (At.below (p := w3.heap.size) (vg := (.int .i64 (boW P1))) (vt := (.int .i64 (boS P1))) (by exact ⟨by simp [go_sem], by simp [go_sem]⟩) hb)
  have W1_4 := Lib.hid (At.below (p := w3.heap.size + 1) (vg := (.int .i64 (boE P1))) (vt := (.int .i64 (boN P1))) (by exact ⟨by simp [go_sem], by simp [go_sem]⟩) hb)
  have SL1 := own.2
  have X1_4 := Lib.hid (OwnA.mono (lo' := w3.heap.size + 1 + 1) (hi' := w4.heap.size) own.1 (by first | (simp; done) | (simp; omega)) (Nat.le_refl _))
  clear hb q4 own kA10 lA1
  obtain ⟨x1_a, x1_n, x1_c, rfl⟩ := X1_4.out.plcs.shape
  go_wp2_with fail
  refine (implBoundsOf_law (.slice x1_a x1_n x1_c) P1 _ (X1_4.out.plcs.below (by (repeat (first | exact Below.refl _ _ | refine Below.setCell ?_ (by first | (simp; done) | (simp; omega) | omega) _ | refine belowN ?_ _ | refine Below.drew ?_ | refine Below.alloc ?_ (by first | (simp; done) | (simp; omega) | omega) _ | refine Below.trans ?_ (Below.mono (by assumption) (by first | (simp; done) | (simp; omega) | omega)))))) SL1 ok1 hs1).mono ?_
  rintro e w5 ⟨rfl, hb⟩
  have q5 : Below w4.heap.size w4 w5 := by (repeat (first | exact Below.refl _ _ | refine Below.setCell ?_ (by first | (simp; done) | (simp; omega) | omega) _ | refine belowN ?_ _ | refine Below.drew ?_ | refine Below.alloc ?_ (by first | (simp; done) | (simp; omega) | omega) _ | refine Below.trans ?_ (Below.mono (by assumption) (by first | (simp; done) | (simp; omega) | omega))))
  have s5 : w4.heap.size ≤ w5.heap.size := q5.size
  have B5 : Below w.heap.size w w5 := B4.trans (q5.mono (by omega))
  have C5 := Lib.hid (C4.out.trans (q5.mono (by omega)))
  have A1_5 := Lib.hid (A1_4.out.below q5)
  have W0_5 := Lib.hid (W0_4.out.below q5)
  have W1_5 := Lib.hid (W1_4.out.below q5)
  have X1_5 := Lib.hid (X1_4.out.below q5)
  have Y1_5 := Lib.hid (At1.below (p := w4.heap.size) (v := (.slice x1_a x1_n x1_c)) (by exact ⟨by simp [go_sem]⟩) hb)
  clear hb q5 
  obtain ⟨kW00, kW01⟩ := W0_5.out
  have lW0 := W0_5.out.lt
  go_wp2_with fail
  refine (eqPoint_yes (boW P1) (boS P1) _).mono ?_
  rintro e w6 ⟨rfl, hb⟩
  have q6 : Below w5.heap.size w5 w6 := by (repeat (first | exact Below.refl _ _ | refine Below.setCell ?_ (by first | (simp; done) | (simp; omega) | omega) _ | refine belowN ?_ _ | refine Below.drew ?_ | refine Below.alloc ?_ (by first | (simp; done) | (simp; omega) | omega) _ | refine Below.trans ?_ (Below.mono (by assumption) (by first | (simp; done) | (simp; omega) | omega))))
  have s6 : w5.heap.size ≤ w6.heap.size := q6.size
  have B6 : Below w.heap.size w w6 := B5.trans (q6.mono (by omega))
  have C6 := Lib.hid (C5.out.trans (q6.mono (by omega)))
  have A1_6 := Lib.hid (A1_5.out.below q6)
  have W0_6 := Lib.hid (W0_5.out.below q6)
  have W1_6 := Lib.hid (W1_5.out.below q6)
  have X1_6 := Lib.hid (X1_5.out.below q6)
  have Y1_6 := Lib.hid (Y1_5.out.below q6)
  have Z0_6 := Lib.hid (At.below (p := w5.heap.size) (vg := (.int .i64 (boW P1))) (vt := (.int .i64 (boS P1))) (by exact ⟨by simp [go_sem], by simp [go_sem]⟩) hb)
  have Z1_6 := Lib.hid (At.below (p := w5.heap.size + 1) (vg := (.int .i64 (boE P1))) (vt := (.int .i64 (boN P1))) (by exact ⟨by simp [go_sem], by simp [go_sem]⟩) hb)
  clear hb q6 kW00 kW01 lW0
  obtain ⟨kW10, kW11⟩ := W1_6.out
  have lW1 := W1_6.out.lt
  obtain ⟨kZ10, kZ11⟩ := Z1_6.out
  have lZ1 := Z1_6.out.lt
  go_wp2_with fail
  refine (eqPoint_yes (boE P1) (boN P1) _).mono ?_
  rintro e w7 ⟨rfl, hb⟩
  have q7 : Below w6.heap.size w6 w7 := by (repeat (first | exact Below.refl _ _ | refine Below.setCell ?_ (by first | (simp; done) | (simp; omega) | omega) _ | refine belowN ?_ _ | refine Below.drew ?_ | refine Below.alloc ?_ (by first | (simp; done) | (simp; omega) | omega) _ | refine Below.trans ?_ (Below.mono (by assumption) (by first | (simp; done) | (simp; omega) | omega))))
  have s7 : w6.heap.size ≤ w7.heap.size := q7.size
  have B7 : Below w.heap.size w w7 := B6.trans (q7.mono (by omega))
  have C7 := Lib.hid (C6.out.trans (q7.mono (by omega)))
  have A1_7 := Lib.hid (A1_6.out.below q7)
  have W0_7 := Lib.hid (W0_6.out.below q7)
  have W1_7 := Lib.hid (W1_6.out.below q7)
  have X1_7 := Lib.hid (X1_6.out.below q7)
  have Y1_7 := Lib.hid (Y1_6.out.below q7)
  have Z0_7 := Lib.hid (Z0_6.out.below q7)
  have Z1_7 := Lib.hid (Z1_6.out.below q7)
  clear hb q7 kW10 kW11 lW1 kZ10 kZ11 lZ1
  obtain ⟨kA10⟩ := A1_7.out
  have lA1 := A1_7.out.lt
  obtain ⟨kY10⟩ := Y1_7.out
  have lY1 := Y1_7.out.lt
  go_wp2_with fail
  go_region_held3 (fun w' => w'.cell? ⟨w.heap.size, 0, none⟩ = some (v1) ∧ w'.cell? ⟨w4.heap.size, 0, none⟩ = some (.slice x1_a x1_n x1_c)) ((((try go_split_ands); (try dsimp only); (repeat' apply And.intro)) <;> (repeat (first | with_reducible assumption | ((with_reducible refine cnew0 ?_); simp; done) | ((with_reducible refine cnew1 ?_); simp; done) | (with_reducible refine akeep ?_) | (with_reducible refine dkeep ?_) | ((with_reducible refine skeep ?_ ?_); rotate_left; (first | ((try dsimp only); omega) | (simp; done) | (simp; omega))) | (with_reducible refine bkeep hb3 ?_)))))
    (first
      | (go_at_call 15; refine (toAssembly_any v1 P1 _ (H1.out.below (by (repeat (first | exact Below.refl _ _ | refine Below.setCell ?_ (by first | (simp; done) | (simp; omega) | omega) _ | refine belowN ?_ _ | refine Below.drew ?_ | refine Below.alloc ?_ (by first | (simp; done) | (simp; omega) | omega) _ | refine Below.trans ?_ (Below.mono (by assumption) (by first | (simp; done) | (simp; omega) | omega)))))) hs1).mono ?_; rintro e w8 ⟨⟨u1, rfl, own⟩, hb3⟩; have s8 : w7.heap.size ≤ w8.heap.size := Nat.le_trans (by first | exact Nat.le_refl _ | (simp; done) | (simp; omega)) hb3.size)
      | (go_at_call 18; refine (eqAssembly_yes _ _ P1 _ (X1_7.out.plcs.below (by (repeat (first | exact Below.refl _ _ | refine Below.setCell ?_ (by first | (simp; done) | (simp; omega) | omega) _ | refine belowN ?_ _ | refine Below.drew ?_ | refine Below.alloc ?_ (by first | (simp; done) | (simp; omega) | omega) _ | refine Below.trans ?_ (Below.mono (by assumption) (by first | (simp; done) | (simp; omega) | omega)))))) (own.1.plcs.below (by (repeat (first | exact Below.refl _ _ | refine Below.setCell ?_ (by first | (simp; done) | (simp; omega) | omega) _ | refine belowN ?_ _ | refine Below.drew ?_ | refine Below.alloc ?_ (by first | (simp; done) | (simp; omega) | omega) _ | refine Below.trans ?_ (Below.mono (by assumption) (by first | (simp; done) | (simp; omega) | omega))))))).mono ?_; rintro e w9 ⟨rfl, hb3⟩; have s9 : w8.heap.size ≤ w9.heap.size := Nat.le_trans (by first | exact Nat.le_refl _ | (simp; done) | (simp; omega)) hb3.size))
  have q9 : Below w7.heap.size w7 w9 := by (repeat (first | exact Below.refl _ _ | refine Below.setCell ?_ (by first | (simp; done) | (simp; omega) | omega) _ | refine belowN ?_ _ | refine Below.drew ?_ | refine Below.alloc ?_ (by first | (simp; done) | (simp; omega) | omega) _ | refine Below.trans ?_ (Below.mono (by assumption) (by first | (simp; done) | (simp; omega) | omega))))
  have B9 : Below w.heap.size w w9 := B7.trans (q9.mono (by omega))
  have C9 := Lib.hid (C7.out.trans (q9.mono (by omega)))
  have A1_9 := Lib.hid (A1_7.out.below q9)
  have W0_9 := Lib.hid (W0_7.out.below q9)
  have W1_9 := Lib.hid (W1_7.out.below q9)
  have X1_9 := Lib.hid (X1_7.out.below q9)
  have Y1_9 := Lib.hid (Y1_7.out.below q9)
  have Z0_9 := Lib.hid (Z0_7.out.below q9)
  have Z1_9 := Lib.hid (Z1_7.out.below q9)
  clear hb3 q9 own kA10 lA1 kY10 lY1
  go_wp2_with fail
  go_ret
  exact ⟨rfl, B9⟩

namespace fnExactBoundsOf
open Go.ChangeShapes Go.WideShapes Go.ChangeAt Go.RowKit Go.Joins
open Go.ChangeMaps (open_string shut_string)
theorem own : ownKnob Try.prog.godebug = none := by kernel_rfl
theorem laidOut : laidOutB Try.prog = true := by kernel_rfl
theorem readable : (Try.f7.params.toList.all fun t => Try.prog.readableRec t && decide (t < Try.prog.types.size)) = true := by kernel_rfl
theorem cells_0 : Try.prog.cellsOf 24 = 1 := by kernel_rfl
set_option maxRecDepth 100000 in
set_option linter.unusedVariables false in
theorem contract (H : Type) (enc : TypeId × Value → H) (W : World) (base : Nat) (args : Array Value) (ds gs : List (DataW H)) (before : List MemPlace)
    (hval : ∀ (j : Nat) t v, Try.f7.params[j]? = some t → args[j]? = some v → Value.okWide Try.prog W .any base t v)
    (hW : DataW.Whole enc Try.prog Try.f7.params.toList Rows.fnExactBoundsOfSpec.vars false W args.toList ds gs before) :
    Calls Try.prog 7 args W fun e W' => ∃ v, e = .returned v ∧ Rows.fnExactBoundsOfSpec.post enc Try.prog Try.f7 false true false false W args v W' := by
  have hW' := hW
  obtain ⟨p, q, hA0, hV, rfl, hfz, hnd⟩ := hW
  have hA : DataW.TrodAll enc Try.prog W 0 (fun _ => true) true Try.f7.params.toList args.toList ds p := hA0
  rw [Try.params7] at hA hval
  obtain ⟨v0, vs0, d0, ds0, p0, q0, ha0, rfl, rfl, h0, r0⟩ := trodAll_cons hA
  obtain ⟨rfl, rfl, rfl⟩ := trodAll_nil r0
  obtain rfl : args = #[v0] := by cases args; simp_all
  obtain ⟨rfl, rfl⟩ := trodVars_none hV
  obtain ⟨c0, y0, m0, rfl, hy0⟩ := open_one Try.underlying24 (by kernel_rfl) cells_0 (hval 0 24 v0 rfl rfl) h0
  obtain ⟨ps0, hg0, og0⟩ := open_placed (t := 22) (e := 98) (tp := 26) (ti := 2) Try.underlying22 Try.underlying98 Try.underlying26 (by kernel_rfl) ⟨rfl, rfl⟩ ⟨rfl, rfl⟩ (by kernel_rfl) (by kernel_rfl) ⟨rfl, rfl⟩ ⟨rfl, rfl⟩ Try.underlying2 hy0
  refine (walk_FnExactBoundsOf c0 ps0 W hg0 og0).mono fun e W' ⟨he, hg⟩ => ?_
  subst he
  exact ⟨_, rfl, post_mem laidOut readable hW' (fun _ _ _ => (trodAll_cons_mk (shut_bool Try.underlying4 _) trodAll_mk0)) hA0 rfl rfl (by simp) hg⟩
set_option maxRecDepth 100000 in
theorem lifted (os : Os) (started : os.Started) (H : Type) (enc : TypeId × Value → H) :
    ReturnsInHanded {} Try.checked os 7 .any (Rows.fnExactBoundsOfSpec.pre6 enc Try.prog Try.f7 Rows.fnExactBoundsOfRow.domain false) (Rows.fnExactBoundsOfSpec.post enc Try.prog Try.f7 false true false false) := by
  refine returnsInHanded_of_change (C := Try.checked) own started (by kernel_rfl) Try.func7
    (ChangeSpec.witness6 (enc := enc) (C := Try.checked) false ⟨#[], #[.agg #[.slice none 0 0]], []⟩ 8 (by kernel_rfl) (by kernel_rfl) (by kernel_rfl) (by kernel_rfl)) ?_
  intro W base args ds gs before hval hW _ _
  exact contract H enc W base args ds gs before hval hW
end fnExactBoundsOf
theorem fnExactBoundsOf_holds : Rows.FnExactBoundsOfSaid :=
  OpenClaim.holds_of_wide 7 Try.f7 rfl rfl rfl rfl rfl rfl rfl ⟨rfl, rfl, rfl, rfl, rfl⟩ rfl rfl rfl rfl rfl (by kernel_rfl) Try.func7 (by kernel_rfl)
    (of_decide_eq_true (by kernel_rfl)) (by unfold Func.isWrapper; first | (rw [if_pos (by decide +kernel)]; kernel_rfl) | (rw [if_neg (by decide +kernel)]; exact ⟨rfl, rfl⟩))
    (fun os started H enc _ => fnExactBoundsOf.lifted os started H enc)
end Go.Proofs.Ytaeaflbmaokieaa
