/-
  For every assembly and every point, TileAt of the program answers as the model's, both results; the law FnExactTileAt returns true and leaves its arguments as they were. Conditions: none.
-/
import Derived.Test.YtcaidemlhgepfaaPlace
namespace Go.Proofs.Ytcaidemlhgepfaa
open Go.RowKit

noncomputable def taB (ps : List Pl) (x y : Int) : Bool := formB ps && hasB ps x y
noncomputable def taT (ps : List Pl) (x y : Int) : Int := if taB ps x y = true then pT ps (ixN ps x y) else 0
theorem taB_yes {ps : List Pl} {x y : Int} (h1 : formB ps = true) (h2 : ixN ps x y < ps.length) : taB ps x y = true ∧ taT ps x y = pT ps (ixN ps x y) := by
  have h : taB ps x y = true := by unfold taB; rw [h1, hasB_yes h2]; rfl
  exact ⟨h, by unfold taT; rw [if_pos h]⟩
theorem taB_no {ps : List Pl} {x y : Int} (h : formB ps = false ∨ ¬ ixN ps x y < ps.length) : taB ps x y = false ∧ taT ps x y = 0 := by
  have h : taB ps x y = false := by
    unfold taB
    rcases h with h | h
    · rw [h]; rfl
    · rw [hasB_no h, Bool.and_false]
  exact ⟨h, by unfold taT; rw [h]; rfl⟩
theorem ret_ib2 {a b : Int} {c d : Bool} (h : a = b ∧ c = d) : Ending.returned (.tuple #[.int .i64 a, .bool c]) = .returned (.tuple #[.int .i64 b, .bool d]) := by rw [h.1, h.2]

theorem specTileAt_law (v1 : Value) (P1 : List Pl) (x2 y2 : Int) (w : World) (h1 : Plcs w v1 P1) (_s1 : ∃ a k q, v1 = .slice (some a) k q) (_o1 : ∀ p ∈ P1, p.ok) (_m1 : P1.length ≤ 1048576) :
    Calls Try.prog 18 #[.agg #[v1], .agg #[.int .i64 x2, .int .i64 y2]] w fun e w' => e = .returned (.tuple #[.int .i64 (taT P1 x2 y2), .bool (taB P1 x2 y2)]) ∧ Below w.heap.size w w' := by
  have HV := Lib.hid h1
  have A0 : At1 ((w.alloc (.cells #[v1] 29)).alloc (.cells #[.int .i64 x2, .int .i64 y2] 36)) w.heap.size v1 := ⟨by simp [go_sem]⟩
  have E0 : At ((w.alloc (.cells #[v1] 29)).alloc (.cells #[.int .i64 x2, .int .i64 y2] 36)) (w.heap.size + 1) (.int .i64 x2) (.int .i64 y2) := ⟨by simp [go_sem], by simp [go_sem]⟩
  have HA := Lib.hid A0
  have HE := Lib.hid E0
  clear A0 E0 h1
  go_enter Try.func18, Try.ntmps18
  go_wp2_with fail
  refine (l03Form_any _ v1 P1 _ HA.out (HV.out.below (by (repeat (first | exact Below.refl _ _ | refine Below.setCell ?_ (by first | (simp; done) | (simp; omega) | omega) _ | refine belowN ?_ _ | refine Below.drew ?_ | refine Below.alloc ?_ (by first | (simp; done) | (simp; omega) | omega) _ | refine Below.trans ?_ (Below.mono (by assumption) (by first | (simp; done) | (simp; omega) | omega))))))).mono ?_
  rintro e w1 ⟨rfl, hb1⟩
  have B1 : Below w.heap.size w w1 := by (repeat (first | exact Below.refl _ _ | refine Below.setCell ?_ (by first | (simp; done) | (simp; omega) | omega) _ | refine belowN ?_ _ | refine Below.drew ?_ | refine Below.alloc ?_ (by first | (simp; done) | (simp; omega) | omega) _ | refine Below.trans ?_ (Below.mono (by assumption) (by first | (simp; done) | (simp; omega) | omega))))
  have z1 := B1.size
  have A1 := Lib.hid (HA.out.below hb1)
  obtain ⟨e0, e1⟩ := HE.out.below hb1
  clear hb1
  cases hf : formB P1
  · have K := Lib.hid (taB_no (ps := P1) (x := x2) (y := y2) (.inl hf))
    go_wp2_with fail
    go_ret2
    exact ⟨ret_ib2 ⟨K.out.2.symm, K.out.1.symm⟩, B1⟩
  · have F := Lib.hid (formB_iff.1 hf)
    go_wp2_with fail
    refine (l03At_any _ v1 P1 x2 y2 _ A1.out (HV.out.below B1) F.out).mono ?_
    rintro e w2 ⟨rfl, hb2⟩
    have B2 : Below w.heap.size w w2 := by (repeat (first | exact Below.refl _ _ | refine Below.setCell ?_ (by first | (simp; done) | (simp; omega) | omega) _ | refine belowN ?_ _ | refine Below.drew ?_ | refine Below.alloc ?_ (by first | (simp; done) | (simp; omega) | omega) _ | refine Below.trans ?_ (Below.mono (by assumption) (by first | (simp; done) | (simp; omega) | omega))))
    clear hb2 e0 e1
    by_cases hn : ixN P1 x2 y2 < P1.length
    · have K := Lib.hid (taB_yes hf hn)
      have K2 : atI P1 x2 y2 = pT P1 (ixN P1 x2 y2) := by unfold atI; rw [if_pos hn]
      have ht := inB_iff.1 (F.out.all _ hn).tl
      rw [K2]
      have K3 := Lib.hid (show maxZ (pT P1 (ixN P1 x2 y2)) 0 = taT P1 x2 y2 by rw [K.out.2]; unfold maxZ; split <;> omega)
      generalize pT P1 (ixN P1 x2 y2) = t at *
      clear K2 hf hn
      have hg : decide (0 ≤ t) = true := by simp; omega
      go_wp2_with fail
      refine (l00Max_any _ _ _).mono ?_
      rintro e w3 ⟨rfl, rfl⟩
      rw [K3.out]
      go_wp2_with fail
      go_ret2
      exact ⟨ret_ib2 ⟨rfl, K.out.1.symm⟩, B2⟩
    · have K := Lib.hid (taB_no (ps := P1) (x := x2) (y := y2) (.inr hn))
      have K2 : atI P1 x2 y2 = -1 := by unfold atI; rw [if_neg hn]
      rw [K2]
      have K3 := Lib.hid (show maxZ (-1) 0 = taT P1 x2 y2 by rw [K.out.2]; rfl)
      clear K2 hf hn
      go_wp2_with fail
      refine (l00Max_any _ _ _).mono ?_
      rintro e w3 ⟨rfl, rfl⟩
      rw [K3.out]
      go_wp2_with fail
      go_ret2
      exact ⟨ret_ib2 ⟨rfl, K.out.1.symm⟩, B2⟩

theorem implTileAt_law (v1 : Value) (P1 : List Pl) (x2 y2 : Int) (w : World) (h1 : Plcs w v1 P1) (_s1 : ∃ a k q, v1 = .slice (some a) k q) (_o1 : ∀ p ∈ P1, p.ok) (_m1 : P1.length ≤ 1048576) :
    Calls Try.prog 20 #[.agg #[v1], .agg #[.int .i64 x2, .int .i64 y2]] w fun e w' => e = .returned (.tuple #[.int .i64 (taT P1 x2 y2), .bool (taB P1 x2 y2)]) ∧ Below w.heap.size w w' := by
  have HV := Lib.hid h1
  obtain ⟨ao, cap, rfl, hl, hm, hc⟩ := h1.open_
  unfold maxLen at hm
  have H0 := Lib.hid hc
  have A0 : At1 ((w.alloc (.cells #[.slice ao P1.length cap] 29)).alloc (.cells #[.int .i64 x2, .int .i64 y2] 36)) w.heap.size (.slice ao P1.length cap) := ⟨by simp [go_sem]⟩
  have E0 : At ((w.alloc (.cells #[.slice ao P1.length cap] 29)).alloc (.cells #[.int .i64 x2, .int .i64 y2] 36)) (w.heap.size + 1) (.int .i64 x2) (.int .i64 y2) := ⟨by simp [go_sem], by simp [go_sem]⟩
  have HA := Lib.hid A0
  have HE := Lib.hid E0
  clear A0 E0 h1 hc
  go_enter Try.func20, Try.ntmps20
  go_wp2_with fail
  refine (hasForm_any _ P1 _ (HV.out.below (by (repeat (first | exact Below.refl _ _ | refine Below.setCell ?_ (by first | (simp; done) | (simp; omega) | omega) _ | refine belowN ?_ _ | refine Below.drew ?_ | refine Below.alloc ?_ (by first | (simp; done) | (simp; omega) | omega) _ | refine Below.trans ?_ (Below.mono (by assumption) (by first | (simp; done) | (simp; omega) | omega))))))).mono ?_
  rintro e w1 ⟨rfl, hb1⟩
  have B1 : Below w.heap.size w w1 := by (repeat (first | exact Below.refl _ _ | refine Below.setCell ?_ (by first | (simp; done) | (simp; omega) | omega) _ | refine belowN ?_ _ | refine Below.drew ?_ | refine Below.alloc ?_ (by first | (simp; done) | (simp; omega) | omega) _ | refine Below.trans ?_ (Below.mono (by assumption) (by first | (simp; done) | (simp; omega) | omega))))
  have z1 := B1.size
  have A1 := Lib.hid (HA.out.below hb1)
  have a0 := A1.out.c0
  obtain ⟨e0, e1⟩ := HE.out.below hb1
  clear hb1
  cases hf : formB P1
  · have K := Lib.hid (taB_no (ps := P1) (x := x2) (y := y2) (.inl hf))
    go_wp2_with fail
    go_ret2
    exact ⟨ret_ib2 ⟨K.out.2.symm, K.out.1.symm⟩, B1⟩
  · have F := Lib.hid (formB_iff.1 hf)
    go_wp2_with fail
    refine (placeOf_any _ P1 x2 y2 _ (HV.out.below B1)).mono ?_
    rintro e w2 ⟨rfl, hb2⟩
    have B2 : Below w.heap.size w w2 := by (repeat (first | exact Below.refl _ _ | refine Below.setCell ?_ (by first | (simp; done) | (simp; omega) | omega) _ | refine belowN ?_ _ | refine Below.drew ?_ | refine Below.alloc ?_ (by first | (simp; done) | (simp; omega) | omega) _ | refine Below.trans ?_ (Below.mono (by assumption) (by first | (simp; done) | (simp; omega) | omega))))
    have a0 := (A1.out.below hb2).c0
    clear hb2 e0 e1
    by_cases hn : ixN P1 x2 y2 < P1.length
    · have K := Lib.hid (taB_yes hf hn)
      have K2 : ixI P1 x2 y2 = (ixN P1 x2 y2 : Int) := by unfold ixI; rw [if_pos hn]
      rw [K2, hasB_yes hn]
      obtain ⟨b, off, rfl, H1⟩ := H0.out (by omega)
      obtain ⟨-, -, c2⟩ := H1 _ hn
      have c2 := cell_below B2 c2
      generalize ixN P1 x2 y2 = m at *
      clear K2 H1 hf
      go_wp2_with fail
      go_ret2
      exact ⟨ret_ib2 ⟨K.out.2.symm, K.out.1.symm⟩, B2⟩
    · have K := Lib.hid (taB_no (ps := P1) (x := x2) (y := y2) (.inr hn))
      have K2 : ixI P1 x2 y2 = -1 := by unfold ixI; rw [if_neg hn]
      rw [K2, hasB_no hn]
      clear K2 hf hn
      go_wp2_with fail
      go_ret2
      exact ⟨ret_ib2 ⟨K.out.2.symm, K.out.1.symm⟩, B2⟩

set_option maxRecDepth 100000 in
set_option maxHeartbeats 1000000 in
set_option linter.unusedVariables false in
theorem walk_FnExactTileAt (v1 : Value) (P1 : List Pl) (x2 y2 : Int) (w : World) (h1 : Plcs w v1 P1) (ok1 : ∀ p ∈ P1, p.ok) (_wx2 : (Lit.int .i64 x2).wf = true) (_wy2 : (Lit.int .i64 y2).wf = true) :
    Calls Try.prog 4 #[.agg #[v1], .agg #[.int .i64 x2, .int .i64 y2]] w fun e w' => e = .returned (.bool true) ∧ Below w.heap.size w w' := by
  have H1 := Lib.hid h1
  clear h1
  have A1_0' : At1 ((w.alloc (.cells #[v1] 24)).alloc (.cells #[.int .i64 x2, .int .i64 y2] 33)) (w.heap.size) v1 := ⟨by simp [go_sem]⟩
  have A1_0 := Lib.hid A1_0'
  clear A1_0'
  have A2_0' : At ((w.alloc (.cells #[v1] 24)).alloc (.cells #[.int .i64 x2, .int .i64 y2] 33)) (w.heap.size + 1) (.int .i64 x2) (.int .i64 y2) := ⟨by simp [go_sem], by simp [go_sem]⟩
  have A2_0 := Lib.hid A2_0'
  clear A2_0'
  go_enter Try.func4, Try.ntmps4
  go_wp2_with fail
  refine (szAssembly_any v1 P1 1048576 _ (H1.out.below (by (repeat (first | exact Below.refl _ _ | refine Below.setCell ?_ (by first | (simp; done) | (simp; omega) | omega) _ | refine belowN ?_ _ | refine Below.drew ?_ | refine Below.alloc ?_ (by first | (simp; done) | (simp; omega) | omega) _ | refine Below.trans ?_ (Below.mono (by assumption) (by first | (simp; done) | (simp; omega) | omega)))))) (by omega) (by omega)).mono ?_
  rintro e w1 ⟨⟨r1, rfl, hr⟩, hb⟩
  have B1 : Below w.heap.size w w1 := by (repeat (first | exact Below.refl _ _ | refine Below.setCell ?_ (by first | (simp; done) | (simp; omega) | omega) _ | refine belowN ?_ _ | refine Below.drew ?_ | refine Below.alloc ?_ (by first | (simp; done) | (simp; omega) | omega) _ | refine Below.trans ?_ (Below.mono (by assumption) (by first | (simp; done) | (simp; omega) | omega))))
  have A1_1 := Lib.hid (A1_0.out.below hb)
  have A2_1 := Lib.hid (A2_0.out.below hb)
  have s1 : w.heap.size + 1 < w1.heap.size := A2_1.out.lt
  clear hb
  rcases hr with rfl | ⟨hl1, hm1, hs1⟩
  · go_wp2
    go_ret
    exact ⟨rfl, B1⟩
  have bb1 : decide (r1 < 0) = false := by simp; omega
  obtain ⟨kA10⟩ := A1_1.out
  have lA1 := A1_1.out.lt
  obtain ⟨kA20, kA21⟩ := A2_1.out
  have lA2 := A2_1.out.lt
  go_wp2_with fail
  go_region_held3 (fun w' => w'.cell? ⟨w.heap.size, 0, none⟩ = some (v1) ∧ w'.cell? ⟨w.heap.size + 1, 0, none⟩ = some (.int .i64 x2) ∧ w'.cell? ⟨w.heap.size + 1, 1, none⟩ = some (.int .i64 y2)) ((((try go_split_ands); (try dsimp only); (repeat' apply And.intro)) <;> (repeat (first | with_reducible assumption | ((with_reducible refine cnew0 ?_); simp; done) | ((with_reducible refine cnew1 ?_); simp; done) | (with_reducible refine akeep ?_) | (with_reducible refine dkeep ?_) | ((with_reducible refine skeep ?_ ?_); rotate_left; (first | ((try dsimp only); omega) | (simp; done) | (simp; omega))) | (with_reducible refine bkeep hb3 ?_)))))
    (first
      | (go_at_call_of 15 (Value.agg #[v1]); refine (toAssembly_any v1 P1 _ (H1.out.below (by (repeat (first | exact Below.refl _ _ | refine Below.setCell ?_ (by first | (simp; done) | (simp; omega) | omega) _ | refine belowN ?_ _ | refine Below.drew ?_ | refine Below.alloc ?_ (by first | (simp; done) | (simp; omega) | omega) _ | refine Below.trans ?_ (Below.mono (by assumption) (by first | (simp; done) | (simp; omega) | omega)))))) hs1).mono ?_; rintro e w2 ⟨⟨z1, rfl, zo1⟩, hb3⟩; have s2 : w1.heap.size ≤ w2.heap.size := Nat.le_trans (by first | exact Nat.le_refl _ | (simp; done) | (simp; omega)) hb3.size)
      | (go_at_call_of 19 (Value.agg #[.int .i64 x2, .int .i64 y2]); refine (toPoint_bel x2 y2 _).mono ?_; rintro e w3 ⟨rfl, hb3⟩; have s3 : w2.heap.size ≤ w3.heap.size := Nat.le_trans (by first | exact Nat.le_refl _ | (simp; done) | (simp; omega)) hb3.size)
      | (go_at_call 18; refine (specTileAt_law z1 P1 x2 y2 _ (zo1.1.plcs.below (by (repeat (first | exact Below.refl _ _ | refine Below.setCell ?_ (by first | (simp; done) | (simp; omega) | omega) _ | refine belowN ?_ _ | refine Below.drew ?_ | refine Below.alloc ?_ (by first | (simp; done) | (simp; omega) | omega) _ | refine Below.trans ?_ (Below.mono (by assumption) (by first | (simp; done) | (simp; omega) | omega)))))) zo1.2 ok1 hs1).mono ?_; rintro e w4 ⟨rfl, hb3⟩; have s4 : w3.heap.size ≤ w4.heap.size := Nat.le_trans (by first | exact Nat.le_refl _ | (simp; done) | (simp; omega)) hb3.size))
  have q4 : Below w1.heap.size w1 w4 := by (repeat (first | exact Below.refl _ _ | refine Below.setCell ?_ (by first | (simp; done) | (simp; omega) | omega) _ | refine belowN ?_ _ | refine Below.drew ?_ | refine Below.alloc ?_ (by first | (simp; done) | (simp; omega) | omega) _ | refine Below.trans ?_ (Below.mono (by assumption) (by first | (simp; done) | (simp; omega) | omega))))
  have B4 : Below w.heap.size w w4 := B1.trans (q4.mono (by omega))
  have A1_4 := Lib.hid (A1_1.out.below q4)
  have A2_4 := Lib.hid (A2_1.out.below q4)
  clear kA10 lA1 kA20 kA21 lA2
  clear hb3 q4
  obtain ⟨kA10⟩ := A1_4.out
  have lA1 := A1_4.out.lt
  go_wp2_with fail
  refine (toAssembly_any v1 P1 _ (H1.out.below (by (repeat (first | exact Below.refl _ _ | refine Below.setCell ?_ (by first | (simp; done) | (simp; omega) | omega) _ | refine belowN ?_ _ | refine Below.drew ?_ | refine Below.alloc ?_ (by first | (simp; done) | (simp; omega) | omega) _ | refine Below.trans ?_ (Below.mono (by assumption) (by first | (simp; done) | (simp; omega) | omega)))))) hs1).mono ?_
  rintro e w5 ⟨⟨x1_, rfl, own⟩, hb⟩
  have q5 : Below w4.heap.size w4 w5 := by (repeat (first | exact Below.refl _ _ | refine Below.setCell ?_ (by first | (simp; done) | (simp; omega) | omega) _ | refine belowN ?_ _ | refine Below.drew ?_ | refine Below.alloc ?_ (by first | (simp; done) | (simp; omega) | omega) _ | refine Below.trans ?_ (Below.mono (by assumption) (by first | (simp; done) | (simp; omega) | omega))))
  have s5 : w4.heap.size ≤ w5.heap.size := q5.size
  have B5 : Below w.heap.size w w5 := B4.trans (q5.mono (by omega))
  have C5 := Lib.hid q5
  have A1_5 := Lib.hid (A1_4.out.below q5)
  have A2_5 := Lib.hid (A2_4.out.below q5)
  have SL1 := own.2
  have X1_5 := Lib.hid (OwnA.mono (lo' := w4.heap.size) (hi' := w5.heap.size) own.1 (by first | (simp; done) | (simp; omega)) (Nat.le_refl _))
  clear hb q5 own kA10 lA1
  obtain ⟨x1_a, x1_n, x1_c, rfl⟩ := X1_5.out.plcs.shape
  obtain ⟨kA20, kA21⟩ := A2_5.out
  have lA2 := A2_5.out.lt
  go_wp2_with fail
  have pkY10 : (w5.alloc (.cells #[(.slice x1_a x1_n x1_c)] 29)).cell? ⟨w5.heap.size, 0, none⟩ = some (.slice x1_a x1_n x1_c) := by simp [go_sem]
  go_region_held3 (fun w' => w'.cell? ⟨w5.heap.size, 0, none⟩ = some (.slice x1_a x1_n x1_c) ∧ w'.cell? ⟨w.heap.size + 1, 0, none⟩ = some (.int .i64 x2) ∧ w'.cell? ⟨w.heap.size + 1, 1, none⟩ = some (.int .i64 y2)) ((((try go_split_ands); (try dsimp only); (repeat' apply And.intro)) <;> (repeat (first | with_reducible assumption | ((with_reducible refine cnew0 ?_); simp; done) | ((with_reducible refine cnew1 ?_); simp; done) | (with_reducible refine akeep ?_) | (with_reducible refine dkeep ?_) | ((with_reducible refine skeep ?_ ?_); rotate_left; (first | ((try dsimp only); omega) | (simp; done) | (simp; omega))) | (with_reducible refine bkeep hb3 ?_)))))
    (first
      | (go_at_call_of 19 (Value.agg #[.int .i64 x2, .int .i64 y2]); refine (toPoint_bel x2 y2 _).mono ?_; rintro e w6 ⟨rfl, hb3⟩; have s6 : w5.heap.size ≤ w6.heap.size := Nat.le_trans (by first | exact Nat.le_refl _ | (simp; done) | (simp; omega)) hb3.size; have sp6 : w5.heap.size + 1 ≤ w6.heap.size := Nat.le_trans (by first | exact Nat.le_refl _ | (simp; done) | (simp; omega)) hb3.size)
      | (go_at_call 20; refine (implTileAt_law (.slice x1_a x1_n x1_c) P1 x2 y2 _ (X1_5.out.plcs.below (by (repeat (first | exact Below.refl _ _ | refine Below.setCell ?_ (by first | (simp; done) | (simp; omega) | omega) _ | refine belowN ?_ _ | refine Below.drew ?_ | refine Below.alloc ?_ (by first | (simp; done) | (simp; omega) | omega) _ | refine Below.trans ?_ (Below.mono (by assumption) (by first | (simp; done) | (simp; omega) | omega)))))) SL1 ok1 hs1).mono ?_; rintro e w7 ⟨rfl, hb3⟩; have s7 : w6.heap.size ≤ w7.heap.size := Nat.le_trans (by first | exact Nat.le_refl _ | (simp; done) | (simp; omega)) hb3.size))
  have QAY1 : Below (w5.alloc (.cells #[(.slice x1_a x1_n x1_c)] 29)).heap.size (w5.alloc (.cells #[(.slice x1_a x1_n x1_c)] 29)) w7 := by (repeat (first | exact Below.refl _ _ | refine Below.setCell ?_ (by first | (simp; done) | (simp; omega) | omega) _ | refine belowN ?_ _ | refine Below.drew ?_ | refine Below.alloc ?_ (by first | (simp; done) | (simp; omega) | omega) _ | refine Below.trans ?_ (Below.mono (by assumption) (by first | (simp; done) | (simp; omega) | omega))))
  have Y1_7 := Lib.hid (At1.below (p := w5.heap.size) (v := (.slice x1_a x1_n x1_c)) (by exact ⟨by simp [go_sem]⟩) QAY1)
  clear pkY10
  have q7 : Below w5.heap.size w5 w7 := by (repeat (first | exact Below.refl _ _ | refine Below.setCell ?_ (by first | (simp; done) | (simp; omega) | omega) _ | refine belowN ?_ _ | refine Below.drew ?_ | refine Below.alloc ?_ (by first | (simp; done) | (simp; omega) | omega) _ | refine Below.trans ?_ (Below.mono (by assumption) (by first | (simp; done) | (simp; omega) | omega))))
  have B7 : Below w.heap.size w w7 := B5.trans (q7.mono (by omega))
  have C7 := Lib.hid (C5.out.trans (q7.mono (by omega)))
  have A1_7 := Lib.hid (A1_5.out.below q7)
  have A2_7 := Lib.hid (A2_5.out.below q7)
  have X1_7 := Lib.hid (X1_5.out.below q7)
  clear QAY1
  clear hb3 q7 kA20 kA21 lA2
  obtain ⟨kA10⟩ := A1_7.out
  have lA1 := A1_7.out.lt
  obtain ⟨kY10⟩ := Y1_7.out
  have lY1 := Y1_7.out.lt
  go_wp2_with fail
  go_region_held3 (fun w' => w'.cell? ⟨w.heap.size, 0, none⟩ = some (v1) ∧ w'.cell? ⟨w5.heap.size, 0, none⟩ = some (.slice x1_a x1_n x1_c)) ((((try go_split_ands); (try dsimp only); (repeat' apply And.intro)) <;> (repeat (first | with_reducible assumption | ((with_reducible refine cnew0 ?_); simp; done) | ((with_reducible refine cnew1 ?_); simp; done) | (with_reducible refine akeep ?_) | (with_reducible refine dkeep ?_) | ((with_reducible refine skeep ?_ ?_); rotate_left; (first | ((try dsimp only); omega) | (simp; done) | (simp; omega))) | (with_reducible refine bkeep hb3 ?_)))))
    (first
      | (go_at_call 15; refine (toAssembly_any v1 P1 _ (H1.out.below (by (repeat (first | exact Below.refl _ _ | refine Below.setCell ?_ (by first | (simp; done) | (simp; omega) | omega) _ | refine belowN ?_ _ | refine Below.drew ?_ | refine Below.alloc ?_ (by first | (simp; done) | (simp; omega) | omega) _ | refine Below.trans ?_ (Below.mono (by assumption) (by first | (simp; done) | (simp; omega) | omega)))))) hs1).mono ?_; rintro e w8 ⟨⟨u1, rfl, own⟩, hb3⟩; have s8 : w7.heap.size ≤ w8.heap.size := Nat.le_trans (by first | exact Nat.le_refl _ | (simp; done) | (simp; omega)) hb3.size)
      | (go_at_call 17; refine (eqAssembly_yes _ _ P1 _ (X1_7.out.plcs.below (by (repeat (first | exact Below.refl _ _ | refine Below.setCell ?_ (by first | (simp; done) | (simp; omega) | omega) _ | refine belowN ?_ _ | refine Below.drew ?_ | refine Below.alloc ?_ (by first | (simp; done) | (simp; omega) | omega) _ | refine Below.trans ?_ (Below.mono (by assumption) (by first | (simp; done) | (simp; omega) | omega)))))) (own.1.plcs.below (by (repeat (first | exact Below.refl _ _ | refine Below.setCell ?_ (by first | (simp; done) | (simp; omega) | omega) _ | refine belowN ?_ _ | refine Below.drew ?_ | refine Below.alloc ?_ (by first | (simp; done) | (simp; omega) | omega) _ | refine Below.trans ?_ (Below.mono (by assumption) (by first | (simp; done) | (simp; omega) | omega))))))).mono ?_; rintro e w9 ⟨rfl, hb3⟩; have s9 : w8.heap.size ≤ w9.heap.size := Nat.le_trans (by first | exact Nat.le_refl _ | (simp; done) | (simp; omega)) hb3.size))
  have q9 : Below w7.heap.size w7 w9 := by (repeat (first | exact Below.refl _ _ | refine Below.setCell ?_ (by first | (simp; done) | (simp; omega) | omega) _ | refine belowN ?_ _ | refine Below.drew ?_ | refine Below.alloc ?_ (by first | (simp; done) | (simp; omega) | omega) _ | refine Below.trans ?_ (Below.mono (by assumption) (by first | (simp; done) | (simp; omega) | omega))))
  have B9 : Below w.heap.size w w9 := B7.trans (q9.mono (by omega))
  have C9 := Lib.hid (C7.out.trans (q9.mono (by omega)))
  have A1_9 := Lib.hid (A1_7.out.below q9)
  have A2_9 := Lib.hid (A2_7.out.below q9)
  have X1_9 := Lib.hid (X1_7.out.below q9)
  have Y1_9 := Lib.hid (Y1_7.out.below q9)
  clear hb3 q9 own kA10 lA1 kY10 lY1
  go_wp2_with fail
  go_ret
  exact ⟨rfl, B9⟩

namespace fnExactTileAt
open Go.ChangeShapes Go.WideShapes Go.ChangeAt Go.RowKit Go.Joins
open Go.ChangeMaps (open_string shut_string)
theorem own : ownKnob Try.prog.godebug = none := by kernel_rfl
theorem laidOut : laidOutB Try.prog = true := by kernel_rfl
theorem readable : (Try.f4.params.toList.all fun t => Try.prog.readableRec t && decide (t < Try.prog.types.size)) = true := by kernel_rfl
theorem cells_0 : Try.prog.cellsOf 24 = 1 := by kernel_rfl
theorem cells_1 : Try.prog.cellsOf 33 = 2 := by kernel_rfl
set_option maxRecDepth 100000 in
set_option linter.unusedVariables false in
theorem contract (H : Type) (enc : TypeId × Value → H) (W : World) (base : Nat) (args : Array Value) (ds gs : List (DataW H)) (before : List MemPlace)
    (hval : ∀ (j : Nat) t v, Try.f4.params[j]? = some t → args[j]? = some v → Value.okWide Try.prog W .any base t v)
    (hW : DataW.Whole enc Try.prog Try.f4.params.toList Rows.fnExactTileAtSpec.vars false W args.toList ds gs before) :
    Calls Try.prog 4 args W fun e W' => ∃ v, e = .returned v ∧ Rows.fnExactTileAtSpec.post enc Try.prog Try.f4 false true false false W args v W' := by
  have hW' := hW
  obtain ⟨p, q, hA0, hV, rfl, hfz, hnd⟩ := hW
  have hA : DataW.TrodAll enc Try.prog W 0 (fun _ => true) true Try.f4.params.toList args.toList ds p := hA0
  rw [Try.params4] at hA hval
  obtain ⟨v0, vs0, d0, ds0, p0, q0, ha0, rfl, rfl, h0, r0⟩ := trodAll_cons hA
  obtain ⟨v1, vs1, d1, ds1, p1, q1, ha1, rfl, rfl, h1, r1⟩ := trodAll_cons r0
  obtain ⟨rfl, rfl, rfl⟩ := trodAll_nil r1
  obtain rfl : args = #[v0, v1] := by cases args; simp_all
  obtain ⟨rfl, rfl⟩ := trodVars_none hV
  obtain ⟨c0, y0, m0, rfl, hy0⟩ := open_one Try.underlying24 (by kernel_rfl) cells_0 (hval 0 24 v0 rfl rfl) h0
  obtain ⟨ps0, hg0, og0⟩ := open_placed (t := 22) (e := 88) (tp := 33) (ti := 2) Try.underlying22 Try.underlying88 Try.underlying33 (by kernel_rfl) ⟨rfl, rfl⟩ ⟨rfl, rfl⟩ (by kernel_rfl) (by kernel_rfl) ⟨rfl, rfl⟩ ⟨rfl, rfl⟩ Try.underlying2 hy0
  obtain ⟨c1, e1, y1, z1, m1, rfl, -, -, hy1, hz1⟩ := open_agg2 Try.underlying33 (by kernel_rfl) cells_1 (hval 1 33 v1 rfl rfl) h1
  obtain ⟨a1, f1, rfl, w1a⟩ := DataW.trod_int Try.underlying2 hy1
  obtain ⟨b1, g1, rfl, w1b⟩ := DataW.trod_int Try.underlying2 hz1
  simp at f1 g1
  subst f1 g1
  refine (walk_FnExactTileAt c0 ps0 a1 b1 W hg0 og0 w1a w1b).mono fun e W' ⟨he, hg⟩ => ?_
  subst he
  exact ⟨_, rfl, post_mem laidOut readable hW' (fun _ _ _ => (trodAll_cons_mk (shut_bool Try.underlying4 _) trodAll_mk0)) hA0 rfl rfl (by simp) hg⟩
set_option maxRecDepth 100000 in
theorem lifted (os : Os) (started : os.Started) (H : Type) (enc : TypeId × Value → H) :
    ReturnsInHanded {} Try.checked os 4 .any (Rows.fnExactTileAtSpec.pre6 enc Try.prog Try.f4 Rows.fnExactTileAtRow.domain false) (Rows.fnExactTileAtSpec.post enc Try.prog Try.f4 false true false false) := by
  refine returnsInHanded_of_change (C := Try.checked) own started (by kernel_rfl) Try.func4
    (ChangeSpec.witness6 (enc := enc) (C := Try.checked) false ⟨#[], #[.agg #[.slice none 0 0], .agg #[.int .i64 0, .int .i64 0]], []⟩ 8 (by kernel_rfl) (by kernel_rfl) (by kernel_rfl) (by kernel_rfl)) ?_
  intro W base args ds gs before hval hW _ _
  exact contract H enc W base args ds gs before hval hW
end fnExactTileAt
theorem fnExactTileAt_holds : Rows.FnExactTileAtSaid :=
  OpenClaim.holds_of_wide 4 Try.f4 rfl rfl rfl rfl rfl rfl rfl ⟨rfl, rfl, rfl, rfl, rfl⟩ rfl rfl rfl rfl rfl (by kernel_rfl) Try.func4 (by kernel_rfl)
    (of_decide_eq_true (by kernel_rfl)) (by unfold Func.isWrapper; first | (rw [if_pos (by decide +kernel)]; kernel_rfl) | (rw [if_neg (by decide +kernel)]; exact ⟨rfl, rfl⟩))
    (fun os started H enc _ => fnExactTileAt.lifted os started H enc)
end Go.Proofs.Ytcaidemlhgepfaa
