/-
  PutTile, the model's and the program's. Conditions: each theorem's own.
-/
import Derived.Test.YtaeaflbmaokieaaIns
namespace Go.Proofs.Ytaeaflbmaokieaa
open Go.RowKit

open Classical in
noncomputable def ptC (P : List Pl) (x y t : Int) : Int := if formB P = true then (if ptB x y = true ∧ inB t 0 159 = true then (if ixN P x y < P.length then 7 else if P.length = 500 then 4 else 0) else 2) else 1
noncomputable def ptR (P : List Pl) (x y t : Int) : List Pl := if ptC P x y t = 0 then insP P (upN P x y) ⟨x, y, t⟩ else []
theorem pt_1 {P : List Pl} {x y t : Int} (h : formB P = false) : ptC P x y t = 1 := by simp [ptC, h]
theorem pt_2 {P : List Pl} {x y t : Int} (h : formB P = true) (hn : ¬ (ptB x y = true ∧ inB t 0 159 = true)) : ptC P x y t = 2 := by unfold ptC; rw [if_pos h, if_neg hn]
theorem pt_7 {P : List Pl} {x y t : Int} (h : formB P = true) (h1 : ptB x y = true) (h2 : inB t 0 159 = true) (hi : ixN P x y < P.length) : ptC P x y t = 7 := by unfold ptC; rw [if_pos h, if_pos ⟨h1, h2⟩, if_pos hi]
theorem pt_4 {P : List Pl} {x y t : Int} (h : formB P = true) (h1 : ptB x y = true) (h2 : inB t 0 159 = true) (hi : ¬ ixN P x y < P.length) (hl : P.length = 500) : ptC P x y t = 4 := by unfold ptC; rw [if_pos h, if_pos ⟨h1, h2⟩, if_neg hi, if_pos hl]
theorem pt_0 {P : List Pl} {x y t : Int} (h : formB P = true) (h1 : ptB x y = true) (h2 : inB t 0 159 = true) (hi : ¬ ixN P x y < P.length) (hl : P.length ≠ 500) : ptC P x y t = 0 := by unfold ptC; rw [if_pos h, if_pos ⟨h1, h2⟩, if_neg hi, if_neg hl]
theorem ptR_no {P : List Pl} {x y t c : Int} (h : ptC P x y t = c) (h0 : c ≠ 0) : ptR P x y t = [] := by unfold ptR; rw [if_neg (by rw [h]; exact h0)]
theorem smallPutTile {P : List Pl} {x y t : Int} (_h : P.length ≤ 1048576) : (ptR P x y t).length ≤ 1048576 := by
  unfold ptR
  split
  · rename_i h
    rw [insP_len (upN_le P x y)]
    cases hf : formB P
    · rw [pt_1 hf] at h; cases h
    · have := (formB_iff.1 hf).len
      omega
  · exact Nat.zero_le _

set_option maxRecDepth 100000 in
set_option maxHeartbeats 2000000 in
set_option linter.unusedSimpArgs false in
theorem specPut_any (v1 : Value) (P1 : List Pl) (x y t : Int) (w : World) (h1 : Plcs w v1 P1) :
    Calls Try.prog 23 #[.agg #[v1], .agg #[.int .i64 x, .int .i64 y], .int .i64 t] w fun e w' => ArPost w (ptR P1 x y t) (ptC P1 x y t) e w' ∧ Below w.heap.size w w' := by
  have HV := Lib.hid h1
  obtain ⟨ao, cap, rfl, -, -, -⟩ := h1.open_
  have HB := Lib.hid (boxes_m w (.slice ao P1.length cap) (.int .i64 x) (.int .i64 y) 30 34 30)
  clear h1
  go_enter Try.func23, Try.ntmps23
  go_wp2_with fail
  refine (l03Form_any _ _ P1 _ HB.out.1 (HV.out.below (by (repeat (first | exact Below.refl _ _ | refine Below.setCell ?_ (by first | (simp; done) | (simp; omega) | omega) _ | refine belowN ?_ _ | refine Below.drew ?_ | refine Below.alloc ?_ (by first | (simp; done) | (simp; omega) | omega) _ | refine Below.trans ?_ (Below.mono (by assumption) (by first | (simp; done) | (simp; omega) | omega))))))).mono ?_
  rintro e w1 ⟨rfl, hb1⟩
  have B1 : Below w.heap.size w w1 := by (repeat (first | exact Below.refl _ _ | refine Below.setCell ?_ (by first | (simp; done) | (simp; omega) | omega) _ | refine belowN ?_ _ | refine Below.drew ?_ | refine Below.alloc ?_ (by first | (simp; done) | (simp; omega) | omega) _ | refine Below.trans ?_ (Below.mono (by assumption) (by first | (simp; done) | (simp; omega) | omega))))
  have z1 := B1.size
  have A1 := Lib.hid (HB.out.1.below hb1)
  have D1 := Lib.hid (HB.out.2.1.below hb1)
  have R1 := Lib.hid (HB.out.2.2.1.below hb1)
  have Z1 := Lib.hid ((hb1.frozen (p := ⟨w.heap.size + 1 + 1, 0, none⟩) (by simp)).trans HB.out.2.2.2)
  have l1 := R1.out.lt
  clear hb1 HB
  have x0 := R1.out.c0
  have zx := Z1.out
  obtain ⟨d0, d1, -, -⟩ := D1.out
  cases hf : formB P1
  · have K := Lib.hid (pt_1 (x := x) (y := y) (t := t) hf)
    go_wp2_with fail
    refine bodyPost_ret (v := .tuple #[.agg #[.slice none 0 0], .int .i64 1]) ?_ rfl ⟨ar_nil K.out.symm (ptR_no K.out (by decide)), by (repeat (first | exact Below.refl _ _ | refine Below.setCell ?_ (by first | (simp; done) | (simp; omega) | omega) _ | refine belowN ?_ _ | refine Below.drew ?_ | refine Below.alloc ?_ (by first | (simp; done) | (simp; omega) | omega) _ | refine Below.trans ?_ (Below.mono (by assumption) (by first | (simp; done) | (simp; omega) | omega))))⟩
    simp [results, Try.results23, go_sem, x0, zx]
  have HF := Lib.hid hf
  have FF := Lib.hid (formB_iff.1 hf)
  clear hf
  have h500 := FF.out.len
  go_wp2_with fail
  refine (l01Point_any _ _ _).mono ?_
  rintro e w2 ⟨rfl, hb2⟩
  have B2 : Below w.heap.size w w2 := by (repeat (first | exact Below.refl _ _ | refine Below.setCell ?_ (by first | (simp; done) | (simp; omega) | omega) _ | refine belowN ?_ _ | refine Below.drew ?_ | refine Below.alloc ?_ (by first | (simp; done) | (simp; omega) | omega) _ | refine Below.trans ?_ (Below.mono (by assumption) (by first | (simp; done) | (simp; omega) | omega))))
  have z2 := B2.size
  have A2 := Lib.hid (A1.out.below hb2)
  have D2 := Lib.hid (D1.out.below hb2)
  have R2 := Lib.hid (R1.out.below hb2)
  have Z2 := Lib.hid ((hb2.frozen (p := ⟨w.heap.size + 1 + 1, 0, none⟩) (by dsimp only; omega)).trans zx)
  have l2 := R2.out.lt
  clear hb2 x0 zx d0 d1
  have x0 := R2.out.c0
  have zx := Z2.out
  obtain ⟨d0, d1, -, -⟩ := D2.out
  cases hp : ptB x y
  · have K := Lib.hid (pt_2 (t := t) HF.out (fun h => by rw [hp] at h; cases h.1))
    go_wp2_with fail
    refine bodyPost_ret (v := .tuple #[.agg #[.slice none 0 0], .int .i64 2]) ?_ rfl ⟨ar_nil K.out.symm (ptR_no K.out (by decide)), by (repeat (first | exact Below.refl _ _ | refine Below.setCell ?_ (by first | (simp; done) | (simp; omega) | omega) _ | refine belowN ?_ _ | refine Below.drew ?_ | refine Below.alloc ?_ (by first | (simp; done) | (simp; omega) | omega) _ | refine Below.trans ?_ (Below.mono (by assumption) (by first | (simp; done) | (simp; omega) | omega))))⟩
    simp [results, Try.results23, go_sem, x0, zx]
  cases ht : inB t 0 159
  · have K := Lib.hid (pt_2 (x := x) (y := y) HF.out (fun h => by rw [ht] at h; cases h.2))
    go_wp2_with (go_at_call 47; refine (l00In_any _ _ _ _).mono ?_; rintro e w3 ⟨rfl, rfl⟩; rw [ht])
    refine bodyPost_ret (v := .tuple #[.agg #[.slice none 0 0], .int .i64 2]) ?_ rfl ⟨ar_nil K.out.symm (ptR_no K.out (by decide)), by (repeat (first | exact Below.refl _ _ | refine Below.setCell ?_ (by first | (simp; done) | (simp; omega) | omega) _ | refine belowN ?_ _ | refine Below.drew ?_ | refine Below.alloc ?_ (by first | (simp; done) | (simp; omega) | omega) _ | refine Below.trans ?_ (Below.mono (by assumption) (by first | (simp; done) | (simp; omega) | omega))))⟩
    simp [results, Try.results23, go_sem, x0, zx]
  have HP := Lib.hid hp
  have HT := Lib.hid ht
  go_wp2_with (go_at_call 47; refine (l00In_any _ _ _ _).mono ?_; rintro e w3 ⟨rfl, rfl⟩; rw [ht])
  refine (l03Index_any _ _ P1 x y _ A2.out (HV.out.below B2) FF.out).mono ?_
  rintro e w3 ⟨rfl, hb3⟩
  have B3 : Below w.heap.size w w3 := by (repeat (first | exact Below.refl _ _ | refine Below.setCell ?_ (by first | (simp; done) | (simp; omega) | omega) _ | refine belowN ?_ _ | refine Below.drew ?_ | refine Below.alloc ?_ (by first | (simp; done) | (simp; omega) | omega) _ | refine Below.trans ?_ (Below.mono (by assumption) (by first | (simp; done) | (simp; omega) | omega))))
  have z3 := B3.size
  have A3 := Lib.hid (A2.out.below hb3)
  have D3 := Lib.hid (D2.out.below hb3)
  have R3 := Lib.hid (R2.out.below hb3)
  have Z3 := Lib.hid ((hb3.frozen (p := ⟨w.heap.size + 1 + 1, 0, none⟩) (by dsimp only; omega)).trans zx)
  have l3 := R3.out.lt
  clear hb3 x0 zx d0 d1 hp ht
  have x0 := R3.out.c0
  have zx := Z3.out
  have a0 := A3.out.c0
  obtain ⟨d0, d1, -, -⟩ := D3.out
  by_cases hx : ixN P1 x y < P1.length
  · have K := Lib.hid (pt_7 HF.out HP.out HT.out hx)
    have HI : ixI P1 x y = ((ixN P1 x y : Nat) : Int) := ixI_yes hx rfl
    rw [HI]
    have hd : decide ((0 : Int) ≤ ((ixN P1 x y : Nat) : Int)) = true := by simp
    clear HI
    generalize ixN P1 x y = k at *
    go_wp2_with fail
    refine bodyPost_ret (v := .tuple #[.agg #[.slice none 0 0], .int .i64 7]) ?_ rfl ⟨ar_nil K.out.symm (ptR_no K.out (by decide)), by (repeat (first | exact Below.refl _ _ | refine Below.setCell ?_ (by first | (simp; done) | (simp; omega) | omega) _ | refine belowN ?_ _ | refine Below.drew ?_ | refine Below.alloc ?_ (by first | (simp; done) | (simp; omega) | omega) _ | refine Below.trans ?_ (Below.mono (by assumption) (by first | (simp; done) | (simp; omega) | omega))))⟩
    simp [results, Try.results23, go_sem, x0, zx]
  have HI : ixI P1 x y = -1 := by unfold ixI; rw [if_neg hx]
  rw [HI]
  clear HI
  by_cases hl : P1.length = 500
  · have K := Lib.hid (pt_4 HF.out HP.out HT.out hx hl)
    have hb : ((P1.length : Int) == 500) = true := by rw [hl]; rfl
    clear hl
    go_wp2_with fail
    refine bodyPost_ret (v := .tuple #[.agg #[.slice none 0 0], .int .i64 4]) ?_ rfl ⟨ar_nil K.out.symm (ptR_no K.out (by decide)), by (repeat (first | exact Below.refl _ _ | refine Below.setCell ?_ (by first | (simp; done) | (simp; omega) | omega) _ | refine belowN ?_ _ | refine Below.drew ?_ | refine Below.alloc ?_ (by first | (simp; done) | (simp; omega) | omega) _ | refine Below.trans ?_ (Below.mono (by assumption) (by first | (simp; done) | (simp; omega) | omega))))⟩
    simp [results, Try.results23, go_sem, x0, zx]
  have K := Lib.hid (pt_0 HF.out HP.out HT.out hx hl)
  have hb : ((P1.length : Int) == 500) = false := by rw [beq_eq_false_iff_ne]; omega
  clear hl
  go_wp2_with fail
  refine (l03Put_any _ _ P1 x y t _ A3.out (HV.out.below B3) h500).mono ?_
  rintro e w4 ⟨⟨v4, rfl, own4⟩, hb4⟩
  have B4 : Below w.heap.size w w4 := by (repeat (first | exact Below.refl _ _ | refine Below.setCell ?_ (by first | (simp; done) | (simp; omega) | omega) _ | refine belowN ?_ _ | refine Below.drew ?_ | refine Below.alloc ?_ (by first | (simp; done) | (simp; omega) | omega) _ | refine Below.trans ?_ (Below.mono (by assumption) (by first | (simp; done) | (simp; omega) | omega))))
  have x4 := (R3.out.below hb4).c0
  have f4 := (hb4.frozen (p := ⟨w.heap.size + 1 + 1, 0, none⟩) (by dsimp only; omega)).trans zx
  have l4 := (R3.out.below hb4).lt
  obtain ⟨va, vn, vc, rfl⟩ := own4.plcs.shape
  have HO := Lib.hid own4
  clear hb4 x0 zx own4
  go_wp2_with fail
  refine bodyPost_ret (v := .tuple #[.agg #[.slice va vn vc], .int .i64 0]) ?_ rfl ⟨⟨_, by rw [K.out], ?_⟩, by (repeat (first | exact Below.refl _ _ | refine Below.setCell ?_ (by first | (simp; done) | (simp; omega) | omega) _ | refine belowN ?_ _ | refine Below.drew ?_ | refine Below.alloc ?_ (by first | (simp; done) | (simp; omega) | omega) _ | refine Below.trans ?_ (Below.mono (by assumption) (by first | (simp; done) | (simp; omega) | omega))))⟩
  · simp [results, Try.results23, go_sem, x4, f4]
  · have e : ptR P1 x y t = insP P1 (upN P1 x y) ⟨x, y, t⟩ := by unfold ptR; rw [if_pos K.out]
    rw [e]
    exact OwnA.mono (HO.out.keep (Within.set (w.heap.size + 1 + 1) (w.heap.size + 1 + 1 + 1) w4 (a := ⟨w.heap.size + 1 + 1, 0, none⟩) (Nat.le_refl _) (Nat.lt_succ_self _) (.slice va vn vc)) (.inr (by omega))) (by omega) (by first | exact Nat.le_refl _ | (simp [World.setCell]; done) | (simp [World.setCell]; omega))

set_option maxRecDepth 100000 in
set_option maxHeartbeats 2000000 in
set_option linter.unusedSimpArgs false in
theorem implPut_any (v1 : Value) (P1 : List Pl) (x y t : Int) (w : World) (h1 : Plcs w v1 P1) (m1 : P1.length ≤ 1048576) :
    Calls Try.prog 24 #[.agg #[v1], .agg #[.int .i64 x, .int .i64 y], .int .i64 t] w fun e w' => ArPost w (ptR P1 x y t) (ptC P1 x y t) e w' ∧ Below w.heap.size w w' := by
  have HV := Lib.hid h1
  obtain ⟨ao, cap, rfl, -, -, -⟩ := h1.open_
  have HB := Lib.hid (boxes_m w (.slice ao P1.length cap) (.int .i64 x) (.int .i64 y) 30 34 30)
  clear h1
  go_enter Try.func24, Try.ntmps24
  go_wp2_with fail
  refine (hasForm_any _ P1 _ (HV.out.below (by (repeat (first | exact Below.refl _ _ | refine Below.setCell ?_ (by first | (simp; done) | (simp; omega) | omega) _ | refine belowN ?_ _ | refine Below.drew ?_ | refine Below.alloc ?_ (by first | (simp; done) | (simp; omega) | omega) _ | refine Below.trans ?_ (Below.mono (by assumption) (by first | (simp; done) | (simp; omega) | omega))))))).mono ?_
  rintro e w1 ⟨rfl, hb1⟩
  have B1 : Below w.heap.size w w1 := by (repeat (first | exact Below.refl _ _ | refine Below.setCell ?_ (by first | (simp; done) | (simp; omega) | omega) _ | refine belowN ?_ _ | refine Below.drew ?_ | refine Below.alloc ?_ (by first | (simp; done) | (simp; omega) | omega) _ | refine Below.trans ?_ (Below.mono (by assumption) (by first | (simp; done) | (simp; omega) | omega))))
  have z1 := B1.size
  have A1 := Lib.hid (HB.out.1.below hb1)
  have D1 := Lib.hid (HB.out.2.1.below hb1)
  have R1 := Lib.hid (HB.out.2.2.1.below hb1)
  have Z1 := Lib.hid ((hb1.frozen (p := ⟨w.heap.size + 1 + 1, 0, none⟩) (by simp)).trans HB.out.2.2.2)
  have l1 := R1.out.lt
  clear hb1 HB
  have x0 := R1.out.c0
  have zx := Z1.out
  obtain ⟨d0, d1, -, -⟩ := D1.out
  cases hf : formB P1
  · have K := Lib.hid (pt_1 (x := x) (y := y) (t := t) hf)
    go_wp2_with fail
    refine bodyPost_ret (v := .tuple #[.agg #[.slice none 0 0], .int .i64 1]) ?_ rfl ⟨ar_nil K.out.symm (ptR_no K.out (by decide)), by (repeat (first | exact Below.refl _ _ | refine Below.setCell ?_ (by first | (simp; done) | (simp; omega) | omega) _ | refine belowN ?_ _ | refine Below.drew ?_ | refine Below.alloc ?_ (by first | (simp; done) | (simp; omega) | omega) _ | refine Below.trans ?_ (Below.mono (by assumption) (by first | (simp; done) | (simp; omega) | omega))))⟩
    simp [results, Try.results24, go_sem, x0, zx]
  have HF := Lib.hid hf
  have FF := Lib.hid (formB_iff.1 hf)
  clear hf
  have h500 := FF.out.len
  go_wp2_with fail
  refine (implValidPoint_any _ _ _).mono ?_
  rintro e w2 ⟨rfl, hb2⟩
  have B2 : Below w.heap.size w w2 := by (repeat (first | exact Below.refl _ _ | refine Below.setCell ?_ (by first | (simp; done) | (simp; omega) | omega) _ | refine belowN ?_ _ | refine Below.drew ?_ | refine Below.alloc ?_ (by first | (simp; done) | (simp; omega) | omega) _ | refine Below.trans ?_ (Below.mono (by assumption) (by first | (simp; done) | (simp; omega) | omega))))
  have z2 := B2.size
  have A2 := Lib.hid (A1.out.below hb2)
  have D2 := Lib.hid (D1.out.below hb2)
  have R2 := Lib.hid (R1.out.below hb2)
  have Z2 := Lib.hid ((hb2.frozen (p := ⟨w.heap.size + 1 + 1, 0, none⟩) (by dsimp only; omega)).trans zx)
  have l2 := R2.out.lt
  clear hb2 x0 zx d0 d1
  have x0 := R2.out.c0
  have zx := Z2.out
  have a0 := A2.out.c0
  obtain ⟨d0, d1, -, -⟩ := D2.out
  cases hp : ptB x y
  · have K := Lib.hid (pt_2 (t := t) HF.out (fun h => by rw [hp] at h; cases h.1))
    go_wp2_with fail
    refine bodyPost_ret (v := .tuple #[.agg #[.slice none 0 0], .int .i64 2]) ?_ rfl ⟨ar_nil K.out.symm (ptR_no K.out (by decide)), by (repeat (first | exact Below.refl _ _ | refine Below.setCell ?_ (by first | (simp; done) | (simp; omega) | omega) _ | refine belowN ?_ _ | refine Below.drew ?_ | refine Below.alloc ?_ (by first | (simp; done) | (simp; omega) | omega) _ | refine Below.trans ?_ (Below.mono (by assumption) (by first | (simp; done) | (simp; omega) | omega))))⟩
    simp [results, Try.results24, go_sem, x0, zx]
  cases ht : inB t 0 159
  · have K := Lib.hid (pt_2 (x := x) (y := y) HF.out (fun h => by rw [ht] at h; cases h.2))
    go_wp2_with (go_at_call 61; refine (withinTiles_any _ _).mono ?_; rintro e w3 ⟨rfl, rfl⟩; rw [ht])
    refine bodyPost_ret (v := .tuple #[.agg #[.slice none 0 0], .int .i64 2]) ?_ rfl ⟨ar_nil K.out.symm (ptR_no K.out (by decide)), by (repeat (first | exact Below.refl _ _ | refine Below.setCell ?_ (by first | (simp; done) | (simp; omega) | omega) _ | refine belowN ?_ _ | refine Below.drew ?_ | refine Below.alloc ?_ (by first | (simp; done) | (simp; omega) | omega) _ | refine Below.trans ?_ (Below.mono (by assumption) (by first | (simp; done) | (simp; omega) | omega))))⟩
    simp [results, Try.results24, go_sem, x0, zx]
  have HP := Lib.hid hp
  have HT := Lib.hid ht
  go_wp2_with (go_at_call 61; refine (withinTiles_any _ _).mono ?_; rintro e w3 ⟨rfl, rfl⟩; rw [ht])
  refine (placeOf_any _ P1 x y _ (HV.out.below B2)).mono ?_
  rintro e w3 ⟨rfl, hb3⟩
  have B3 : Below w.heap.size w w3 := by (repeat (first | exact Below.refl _ _ | refine Below.setCell ?_ (by first | (simp; done) | (simp; omega) | omega) _ | refine belowN ?_ _ | refine Below.drew ?_ | refine Below.alloc ?_ (by first | (simp; done) | (simp; omega) | omega) _ | refine Below.trans ?_ (Below.mono (by assumption) (by first | (simp; done) | (simp; omega) | omega))))
  have z3 := B3.size
  have A3 := Lib.hid (A2.out.below hb3)
  have D3 := Lib.hid (D2.out.below hb3)
  have R3 := Lib.hid (R2.out.below hb3)
  have Z3 := Lib.hid ((hb3.frozen (p := ⟨w.heap.size + 1 + 1, 0, none⟩) (by dsimp only; omega)).trans zx)
  have l3 := R3.out.lt
  clear hb3 x0 zx d0 d1 hp ht a0
  have x0 := R3.out.c0
  have zx := Z3.out
  have a0 := A3.out.c0
  obtain ⟨d0, d1, -, -⟩ := D3.out
  by_cases hx : ixN P1 x y < P1.length
  · have K := Lib.hid (pt_7 HF.out HP.out HT.out hx)
    rw [hasB_yes hx]
    go_wp2_with fail
    refine bodyPost_ret (v := .tuple #[.agg #[.slice none 0 0], .int .i64 7]) ?_ rfl ⟨ar_nil K.out.symm (ptR_no K.out (by decide)), by (repeat (first | exact Below.refl _ _ | refine Below.setCell ?_ (by first | (simp; done) | (simp; omega) | omega) _ | refine belowN ?_ _ | refine Below.drew ?_ | refine Below.alloc ?_ (by first | (simp; done) | (simp; omega) | omega) _ | refine Below.trans ?_ (Below.mono (by assumption) (by first | (simp; done) | (simp; omega) | omega))))⟩
    simp [results, Try.results24, go_sem, x0, zx]
  rw [hasB_no hx]
  by_cases hl : P1.length = 500
  · have K := Lib.hid (pt_4 HF.out HP.out HT.out hx hl)
    have hb : ((P1.length : Int) == 500) = true := by rw [hl]; rfl
    clear hl
    go_wp2_with fail
    refine bodyPost_ret (v := .tuple #[.agg #[.slice none 0 0], .int .i64 4]) ?_ rfl ⟨ar_nil K.out.symm (ptR_no K.out (by decide)), by (repeat (first | exact Below.refl _ _ | refine Below.setCell ?_ (by first | (simp; done) | (simp; omega) | omega) _ | refine belowN ?_ _ | refine Below.drew ?_ | refine Below.alloc ?_ (by first | (simp; done) | (simp; omega) | omega) _ | refine Below.trans ?_ (Below.mono (by assumption) (by first | (simp; done) | (simp; omega) | omega))))⟩
    simp [results, Try.results24, go_sem, x0, zx]
  have K := Lib.hid (pt_0 HF.out HP.out HT.out hx hl)
  have hb : ((P1.length : Int) == 500) = false := by rw [beq_eq_false_iff_ne]; omega
  clear hl hx
  go_wp2_with fail
  refine wp_region_held_drew (S := (fun w' => w'.cell? ⟨w.heap.size, 0, none⟩ = some (.slice ao P1.length cap) ∧ w'.cell? ⟨w.heap.size + 1, 0, none⟩ = some (.int .i64 x) ∧ w'.cell? ⟨w.heap.size + 1, 1, none⟩ = some (.int .i64 y))) (by kernel_rfl) ?_ (fun hHeld => ?_)
  · (try dsimp only)
    (((try go_split_ands); (try dsimp only); (repeat' apply And.intro)) <;> (repeat (first | with_reducible assumption | ((with_reducible refine cnew0 ?_); simp; done) | ((with_reducible refine cnew1 ?_); simp; done) | (with_reducible refine akeep ?_) | (with_reducible refine dkeep ?_) | ((with_reducible refine skeep ?_ ?_); rotate_left; (first | ((try dsimp only); omega) | (simp; done) | (simp; omega))) | (with_reducible refine bkeep hb3 ?_))))
  refine wpAnyH_take (i := 0) (oi := ⟨_, _, _, _, _, _⟩) (v := ?_) rfl (by kernel_rfl) (by kernel_rfl) (by kernel_rfl) (fun _ _ _ h => h) (Or.inl ⟨by rfl, ?_⟩) (by assumption) ?_
  rotate_left
  · (intro w hSw; (try dsimp only at hSw); go_simp; (try with_reducible rfl))
  (try simp only [Act.put, List.setIfInBounds_toArray, List.set_cons_zero, List.set_cons_succ])
  refine wpAnyH_take (i := 1) (oi := ⟨_, _, _, _, _, _⟩) (v := ?_) rfl (by kernel_rfl) (by kernel_rfl) (by kernel_rfl) (fun _ _ _ h => h) (Or.inl ⟨by rfl, ?_⟩) (by assumption) ?_
  rotate_left
  · (intro w hSw; (try dsimp only at hSw); go_simp; (try with_reducible rfl))
  (try simp only [Act.put, List.setIfInBounds_toArray, List.set_cons_zero, List.set_cons_succ])
  refine wpAnyH_take (i := 3) (oi := ⟨_, _, _, _, _, _⟩) (v := ?_) rfl (by kernel_rfl) (by kernel_rfl) (by kernel_rfl) (fun _ _ _ h => h) (Or.inl ⟨by rfl, ?_⟩) (by assumption) ?_
  rotate_left
  · (intro w hSw; (try dsimp only at hSw); go_simp; (try with_reducible rfl))
  (try simp only [Act.put, List.setIfInBounds_toArray, List.set_cons_zero, List.set_cons_succ])
  refine wpAnyH_take (i := 4) (oi := ⟨_, _, _, _, _, _⟩) (v := ?_) rfl (by kernel_rfl) (by kernel_rfl) (by kernel_rfl) (fun _ _ _ h => h) (Or.inl ⟨by rfl, ?_⟩) (by assumption) ?_
  rotate_left
  · (intro w hSw; (try dsimp only at hSw); go_simp; (try with_reducible rfl))
  (try simp only [Act.put, List.setIfInBounds_toArray, List.set_cons_zero, List.set_cons_succ])
  refine wpAnyH_take (i := 5) (oi := ⟨_, _, _, _, _, _⟩) (v := ?_) rfl (by kernel_rfl) (by kernel_rfl) (by kernel_rfl) (fun _ _ _ h => h) (Or.inl ⟨by rfl, ?_⟩) (by assumption) ?_
  rotate_left
  · (intro w hSw; (try dsimp only at hSw); go_simp; (try with_reducible rfl))
  (try simp only [Act.put, List.setIfInBounds_toArray, List.set_cons_zero, List.set_cons_succ])
  refine wpAnyH_ready (rs := [2]) (by kernel_rfl) (by simp) ?_
  refine AllReadyH.cons (o := ⟨_, _, _, _, _, _⟩) rfl (fun K hK => ?_) AllReadyH.nil
  go_simp
  (go_at_call 52; refine (copyPlaced_any _ P1 _ (HV.out.below (by (repeat (first | exact Below.refl _ _ | refine Below.setCell ?_ (by first | (simp; done) | (simp; omega) | omega) _ | refine belowN ?_ _ | refine Below.drew ?_ | refine Below.alloc ?_ (by first | (simp; done) | (simp; omega) | omega) _ | refine Below.trans ?_ (Below.mono (by assumption) (by first | (simp; done) | (simp; omega) | omega)))))) m1).mono ?_; rintro e w4 ⟨⟨rfl, hrow⟩, hb3⟩; have s4 : w3.heap.size ≤ w4.heap.size := hb3.size; have HB4 := Lib.hid (show Below w3.heap.size w3 w4 by (repeat (first | exact Below.refl _ _ | refine Below.setCell ?_ (by first | (simp; done) | (simp; omega) | omega) _ | refine belowN ?_ _ | refine Below.drew ?_ | refine Below.alloc ?_ (by first | (simp; done) | (simp; omega) | omega) _ | refine Below.trans ?_ (Below.mono (by assumption) (by first | (simp; done) | (simp; omega) | omega))))); have HR4 := Lib.hid (show w4.ownsRow w3.heap.size 73 3 (.slice (some ⟨w3.heap.size, 0, none⟩) P1.length P1.length) P1.length (cRow 3 (pC P1) P1.length) from ownsRow_of_row hrow (Nat.le_refl _) (maxLen_of m1) (Nat.le_refl _) (by rw [cRow_len]) (fun j hj => by have h3 : j % 3 < 3 := Nat.mod_lt _ (by omega); have h := cRow_at 3 (pC P1) (n := P1.length) (i := j / 3) (j := j % 3) (by omega) h3; rw [show j / 3 * 3 + j % 3 = j by omega] at h; rw [h]; rfl)))
  refine hK.out _ _ ?_ (fun hHeld => ?_)
  · (try dsimp only)
    (((try go_split_ands); (try dsimp only); (repeat' apply And.intro)) <;> (repeat (first | with_reducible assumption | ((with_reducible refine cnew0 ?_); simp; done) | ((with_reducible refine cnew1 ?_); simp; done) | (with_reducible refine akeep ?_) | (with_reducible refine dkeep ?_) | ((with_reducible refine skeep ?_ ?_); rotate_left; (first | ((try dsimp only); omega) | (simp; done) | (simp; omega))) | (with_reducible refine bkeep hb3 ?_))))
  clear hK K
  (try simp only [Act.put, List.setIfInBounds_toArray, List.set_cons_zero, List.set_cons_succ])
  refine wpAnyH_ready (rs := [6]) (by kernel_rfl) (by simp) ?_
  refine AllReadyH.cons (o := ⟨_, _, _, _, _, _⟩) rfl (fun K hK => ?_) AllReadyH.nil
  go_simp
  (go_at_call 62; refine (insert_any w3.heap.size _ P1 x y t _ HR4.out (by omega) (by omega) (FF.out.mono x y)).mono ?_; rintro e w5 ⟨⟨v5, rfl, own5⟩, hb5⟩; obtain ⟨va, vn, vc, rfl⟩ := own_shape own5; have hb6 : Below w3.heap.size w3 w5 := HB4.out.trans hb5; have q0 := cell_below hb6 a0; have q1 := cell_below hb6 d0; have q2 := cell_below hb6 d1; have x5 := cell_below hb6 x0; have f5 := (hb6.frozen (p := ⟨w.heap.size + 1 + 1, 0, none⟩) (by dsimp only; omega)).trans zx; have s5 := hb6.size; have HO5 := Lib.hid own5; have B5 : Below w.heap.size w w5 := B3.trans (hb6.mono z3))
  refine hK.out _ _ ?_ (fun hHeld => ?_)
  · (try dsimp only)
    (((try go_split_ands); (try dsimp only); (repeat' apply And.intro)) <;> (repeat (first | with_reducible assumption | ((with_reducible refine cnew0 ?_); simp; done) | ((with_reducible refine cnew1 ?_); simp; done) | (with_reducible refine akeep ?_) | (with_reducible refine dkeep ?_) | ((with_reducible refine skeep ?_ ?_); rotate_left; (first | ((try dsimp only); omega) | (simp; done) | (simp; omega))) | (with_reducible refine bkeep hb3 ?_))))
  clear hK K
  (try simp only [Act.put, List.setIfInBounds_toArray, List.set_cons_zero, List.set_cons_succ])
  refine wpAnyH_take (i := 7) (oi := ⟨_, _, _, _, _, _⟩) (v := ?_) rfl (by kernel_rfl) (by kernel_rfl) (by kernel_rfl) (fun _ _ _ h => h) (Or.inl ⟨by rfl, ?_⟩) (by assumption) ?_
  rotate_left
  · (intro w hSw; (try dsimp only at hSw); go_simp; (try with_reducible rfl))
  (try simp only [Act.put, List.setIfInBounds_toArray, List.set_cons_zero, List.set_cons_succ])
  refine wpAnyH_ready (rs := [8]) (by kernel_rfl) (by simp) ?_
  refine AllReadyH.cons (o := ⟨_, _, _, _, _, _⟩) rfl (fun K hK => ?_) AllReadyH.nil
  go_simp
  refine hK.out _ _ ?_ (fun hHeld => ?_)
  · (try dsimp only)
    (((try go_split_ands); (try dsimp only); (repeat' apply And.intro)) <;> (repeat (first | with_reducible assumption | ((with_reducible refine cnew0 ?_); simp; done) | ((with_reducible refine cnew1 ?_); simp; done) | (with_reducible refine akeep ?_) | (with_reducible refine dkeep ?_) | ((with_reducible refine skeep ?_ ?_); rotate_left; (first | ((try dsimp only); omega) | (simp; done) | (simp; omega))) | (with_reducible refine bkeep hb3 ?_))))
  clear hK K
  (try simp only [Act.put, List.setIfInBounds_toArray, List.set_cons_zero, List.set_cons_succ])
  refine wpAnyH_take (i := 9) (oi := ⟨_, _, _, _, _, _⟩) (v := ?_) rfl (by kernel_rfl) (by kernel_rfl) (by kernel_rfl) (fun _ _ _ h => h) (Or.inl ⟨by rfl, ?_⟩) (by assumption) ?_
  rotate_left
  · (intro w hSw; (try dsimp only at hSw); go_simp; (try with_reducible rfl))
  (try simp only [Act.put, List.setIfInBounds_toArray, List.set_cons_zero, List.set_cons_succ])
  refine wpAnyH_done (by kernel_rfl) ?_ _
  go_wp2_with fail
  refine bodyPost_ret (v := .tuple #[.agg #[.slice va vn vc], .int .i64 0]) ?_ rfl ⟨⟨_, by rw [K.out], ?_⟩, by (repeat (first | exact Below.refl _ _ | refine Below.setCell ?_ (by first | (simp; done) | (simp; omega) | omega) _ | refine belowN ?_ _ | refine Below.drew ?_ | refine Below.alloc ?_ (by first | (simp; done) | (simp; omega) | omega) _ | refine Below.trans ?_ (Below.mono (by assumption) (by first | (simp; done) | (simp; omega) | omega))))⟩
  · simp [results, Try.results24, go_sem, x5, f5]
  · have e : ptR P1 x y t = insP P1 (upN P1 x y) ⟨x, y, t⟩ := by unfold ptR; rw [if_pos K.out]
    rw [e]
    unfold OwnA
    rw [insP_len (upN_le P1 x y)]
    exact OwnC.mono (OwnC.of_row (ownsRow_setCell_below HO5.out (by dsimp only; omega) _)) (by omega) (by first | exact Nat.le_refl _ | (simp [World.setCell]; done) | (simp [World.setCell]; omega))

end Go.Proofs.Ytaeaflbmaokieaa
