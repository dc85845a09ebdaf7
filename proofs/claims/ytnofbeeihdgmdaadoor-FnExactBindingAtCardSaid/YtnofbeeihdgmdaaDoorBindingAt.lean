/-
  For every set of tiles, assembly, point and number, BindingAt of the program answers as the model's, both results; the law FnExactBindingAt returns true and leaves its arguments as they were. Condition: the listed table of steps starts as the program's text lays it (the card ties it).
-/
import Derived.Test.YtnofbeeihdgmdaaDoorAsk
import Derived.Test.YtnofbeeihdgmdaaDoorMark
import Derived.Test.YtnofbeeihdgmdaaDoorCard
namespace Go.Proofs.YtnofbeeihdgmdaaDoor
open Go.RowKit

theorem steps_of {W : World} {rest : List (String × DataW Unit)} (hL : laidMet Tryd.prog (("loop.example/g01081/impl.dirSteps", Rows.laid_loop_example_g01081_impl_dirSteps) :: rest) W) : Steps W := by
  have h : ∀ {i : Nat} {a b : Int}, ([(0, 1), (1, 0), (0, -1), (-1, 0)] : List (Int × Int))[i]? = some (a, b) → W.cell? ⟨0, i * 2, none⟩ = some (.int .i64 a) ∧ W.cell? ⟨0, i * 2 + 1, none⟩ = some (.int .i64 b) := fun hi =>
    pairs_of_head (ks := [(0, 1), (1, 0), (0, -1), (-1, 0)]) (rest := rest) (k := 2) (by kernel_rfl) (by kernel_rfl) Tryd.underlying150 Tryd.underlying44 (by kernel_rfl) rfl rfl rfl rfl Tryd.underlying2 (by kernel_rfl) hL hi
  exact ⟨(h (i := 0) rfl).1, (h (i := 0) rfl).2, (h (i := 1) rfl).1, (h (i := 1) rfl).2, (h (i := 2) rfl).1, (h (i := 2) rfl).2, (h (i := 3) rfl).1, (h (i := 3) rfl).2⟩

/-- BindingAt: the strength and the code. -/
def baOk (S : Set_) (x y t : Int) : Prop := ptB x y = true ∧ inB t 0 ((S.ts.length : Int) - 1) = true
open Classical in
noncomputable def baR (S : Set_) (ps : List Pl) (x y t : Int) : Int := if vaB S ps = true ∧ baOk S x y t then bndZ S ps x y t.toNat 4 else 0
open Classical in
noncomputable def baC (S : Set_) (ps : List Pl) (x y t : Int) : Int := if vaB S ps = true then (if baOk S x y t then 0 else 2) else 1
theorem ba_1 {S : Set_} {ps : List Pl} {x y t : Int} (h : vaB S ps = false) : baR S ps x y t = 0 ∧ baC S ps x y t = 1 := by simp [baR, baC, h]
theorem ba_2 {S : Set_} {ps : List Pl} {x y t : Int} (h : vaB S ps = true) (h2 : ¬ baOk S x y t) : baR S ps x y t = 0 ∧ baC S ps x y t = 2 := by simp [baR, baC, h, h2]
theorem ba_0 {S : Set_} {ps : List Pl} {x y t : Int} (h : vaB S ps = true) (h2 : baOk S x y t) : baR S ps x y t = bndZ S ps x y t.toNat 4 ∧ baC S ps x y t = 0 := by simp [baR, baC, h, h2]

set_option maxRecDepth 100000 in
set_option maxHeartbeats 4000000 in
set_option linter.unusedSimpArgs false in
theorem specBindingAt_law (vg1 vt1 : Value) (S1 : Set_) (v2 : Value) (P2 : List Pl) (x3 y3 a4 : Int) (w : World) (h1 : SetIn w vg1 vt1 S1) (_s1 : ∃ a k q, vg1 = .slice (some a) k q) (ok1 : S1.ok) (m1 : S1.small) (h2 : Plcs w v2 P2) (_s2 : ∃ a k q, v2 = .slice (some a) k q) (_o2 : ∀ p ∈ P2, p.ok) (_m2 : P2.length ≤ 1048576) :
    Calls Tryd.prog 11 #[.agg #[vg1, vt1], .agg #[v2], .agg #[.int .i64 x3, .int .i64 y3], .int .i64 a4] w fun e w' => e = .returned (.tuple #[.int .i64 (baR S1 P2 x3 y3 a4), .int .i64 (baC S1 P2 x3 y3 a4)]) ∧ Below w.heap.size w w' := by
  have HS := Lib.hid h1
  have HV := Lib.hid h2
  have htl := m1.tl
  have HB := Lib.hid (boxes_sap w vg1 vt1 v2 (.int .i64 x3) (.int .i64 y3) 38 42 44)
  clear h1 h2
  go_enter Tryd.func11, Tryd.ntmps11
  go_wp2_with fail
  refine (l06Asked_any _ _ vg1 vt1 v2 S1 P2 _ HB.out.1 HB.out.2.1 (HS.out.below (by (repeat (first | exact Below.refl _ _ | refine Below.setCell ?_ (by first | (simp; done) | (simp; omega) | omega) _ | refine belowN ?_ _ | refine Below.drew ?_ | refine Below.alloc ?_ (by first | (simp; done) | (simp; omega) | omega) _ | refine Below.trans ?_ (Below.mono (by assumption) (by first | (simp; done) | (simp; omega) | omega)))))) ok1 m1 (HV.out.below (by (repeat (first | exact Below.refl _ _ | refine Below.setCell ?_ (by first | (simp; done) | (simp; omega) | omega) _ | refine belowN ?_ _ | refine Below.drew ?_ | refine Below.alloc ?_ (by first | (simp; done) | (simp; omega) | omega) _ | refine Below.trans ?_ (Below.mono (by assumption) (by first | (simp; done) | (simp; omega) | omega))))))).mono ?_
  rintro e w1 ⟨rfl, hb1⟩
  have B1 : Below w.heap.size w w1 := by (repeat (first | exact Below.refl _ _ | refine Below.setCell ?_ (by first | (simp; done) | (simp; omega) | omega) _ | refine belowN ?_ _ | refine Below.drew ?_ | refine Below.alloc ?_ (by first | (simp; done) | (simp; omega) | omega) _ | refine Below.trans ?_ (Below.mono (by assumption) (by first | (simp; done) | (simp; omega) | omega))))
  have z1 := B1.size
  have G1 := Lib.hid (HB.out.1.below hb1)
  have A1 := Lib.hid (HB.out.2.1.below hb1)
  have P1 := Lib.hid (HB.out.2.2.below hb1)
  have lp := P1.out.lt
  obtain ⟨p0, p1⟩ := P1.out
  clear hb1 HB
  cases hv : vaB S1 P2
  · have K := Lib.hid (ba_1 (x := x3) (y := y3) (t := a4) hv)
    rw [askC_no hv]
    go_wp2_with fail
    go_ret2
    exact ⟨ret_ii K.out.1.symm K.out.2.symm, B1⟩
  have HVa := Lib.hid (vaB_va hv)
  have HV1 := Lib.hid hv
  rw [askC_yes hv]
  clear hv
  cases hp : ptB x3 y3
  · have K := Lib.hid (ba_2 (x := x3) (y := y3) (t := a4) HV1.out (fun h => by rw [h.1] at hp; exact absurd hp (by simp)))
    go_wp2_with (go_at_call 41; refine (l01Point_any _ _ _).mono ?_; rintro e w2 ⟨rfl, hb2⟩; have s2 := hb2.size; rw [hp])
    go_ret2
    exact ⟨ret_ii K.out.1.symm K.out.2.symm, by (repeat (first | exact Below.refl _ _ | refine Below.setCell ?_ (by first | (simp; done) | (simp; omega) | omega) _ | refine belowN ?_ _ | refine Below.drew ?_ | refine Below.alloc ?_ (by first | (simp; done) | (simp; omega) | omega) _ | refine Below.trans ?_ (Below.mono (by assumption) (by first | (simp; done) | (simp; omega) | omega))))⟩
  have HPt := Lib.hid hp
  have hxy : inB x3 (-60) 60 = true ∧ inB y3 (-60) 60 = true := by simpa [ptB] using hp
  have hx := inB_iff.1 hxy.1
  have hy := inB_iff.1 hxy.2
  clear hxy hp
  cases ht : inB a4 0 ((S1.ts.length : Int) - 1)
  · have K := Lib.hid (ba_2 (x := x3) (y := y3) (t := a4) HV1.out (fun h => by rw [h.2] at ht; exact absurd ht (by simp)))
    go_wp2_with (first
      | (go_at_call 41; refine (l01Point_any _ _ _).mono ?_; rintro e w2 ⟨rfl, hb2⟩; have s2 := hb2.size; rw [HPt.out])
      | (go_at_call 42; refine (l02Index_any _ vg1 vt1 S1.ts a4 _ (G1.out.below hb2) (HS.out.t.below (show Below w.heap.size w _ by (repeat (first | exact Below.refl _ _ | refine Below.setCell ?_ (by first | (simp; done) | (simp; omega) | omega) _ | refine belowN ?_ _ | refine Below.drew ?_ | refine Below.alloc ?_ (by first | (simp; done) | (simp; omega) | omega) _ | refine Below.trans ?_ (Below.mono (by assumption) (by first | (simp; done) | (simp; omega) | omega)))))) htl).mono ?_; rintro e w3 ⟨rfl, rfl⟩; rw [ht]))
    go_ret2
    exact ⟨ret_ii K.out.1.symm K.out.2.symm, by (repeat (first | exact Below.refl _ _ | refine Below.setCell ?_ (by first | (simp; done) | (simp; omega) | omega) _ | refine belowN ?_ _ | refine Below.drew ?_ | refine Below.alloc ?_ (by first | (simp; done) | (simp; omega) | omega) _ | refine Below.trans ?_ (Below.mono (by assumption) (by first | (simp; done) | (simp; omega) | omega))))⟩
  have K := Lib.hid (ba_0 (x := x3) (y := y3) (t := a4) HV1.out ⟨HPt.out, ht⟩)
  have hti := inB_iff.1 ht
  have HTI := Lib.hid ht
  obtain ⟨t, rfl⟩ : ∃ t : Nat, a4 = (t : Int) := ⟨a4.toNat, by omega⟩
  have htn : t < S1.ts.length := by omega
  clear ht
  go_wp2_with fail
  refine (l01Point_any _ _ _).mono ?_
  rintro e w2 ⟨rfl, hb2⟩
  rw [HPt.out]
  have B2 : Below w.heap.size w w2 := B1.trans (hb2.mono z1)
  have z2 := B2.size
  have G2 := Lib.hid (G1.out.below hb2)
  have A2 := Lib.hid (A1.out.below hb2)
  have P2' := Lib.hid (P1.out.below hb2)
  clear hb2 p0 p1 lp
  have lp := P2'.out.lt
  obtain ⟨p0, p1⟩ := P2'.out
  go_wp2_with (go_at_call 42; refine (l02Index_any _ vg1 vt1 S1.ts t _ G2.out (HS.out.t.below B2) htl).mono ?_; rintro e w3 ⟨rfl, rfl⟩; rw [HTI.out])
  refine (l06Binding_any _ _ vg1 vt1 v2 S1 P2 x3 y3 t _ G2.out A2.out (HS.out.below B2) m1 (HV.out.below B2) HVa.out hx hy htn).mono ?_
  rintro e w4 ⟨rfl, hb4⟩
  go_wp2_with fail
  go_ret2
  exact ⟨ret_ii (by rw [K.out.1, Int.toNat_natCast]) K.out.2.symm, by (repeat (first | exact Below.refl _ _ | refine Below.setCell ?_ (by first | (simp; done) | (simp; omega) | omega) _ | refine belowN ?_ _ | refine Below.drew ?_ | refine Below.alloc ?_ (by first | (simp; done) | (simp; omega) | omega) _ | refine Below.trans ?_ (Below.mono (by assumption) (by first | (simp; done) | (simp; omega) | omega))))⟩

set_option maxRecDepth 100000 in
set_option maxHeartbeats 4000000 in
set_option linter.unusedSimpArgs false in
theorem implBindingAt_law (vg1 vt1 : Value) (S1 : Set_) (v2 : Value) (P2 : List Pl) (x3 y3 a4 : Int) (w : World) (h1 : SetIn w vg1 vt1 S1) (s1 : ∃ a k q, vg1 = .slice (some a) k q) (ok1 : S1.ok) (m1 : S1.small) (h2 : Plcs w v2 P2) (s2 : ∃ a k q, v2 = .slice (some a) k q) (o2 : ∀ p ∈ P2, p.ok) (m2 : P2.length ≤ 1048576) (hT : Steps w) :
    Calls Tryd.prog 15 #[.agg #[vg1, vt1], .agg #[v2], .agg #[.int .i64 x3, .int .i64 y3], .int .i64 a4] w fun e w' => e = .returned (.tuple #[.int .i64 (baR S1 P2 x3 y3 a4), .int .i64 (baC S1 P2 x3 y3 a4)]) ∧ Below w.heap.size w w' := by
  have HS := Lib.hid h1
  have HV := Lib.hid h2
  have HT := Lib.hid hT
  have hTl := hT.lt
  have htl := m1.tl
  have HB := Lib.hid (boxes_sap w vg1 vt1 v2 (.int .i64 x3) (.int .i64 y3) 38 42 44)
  clear h1 h2 hT
  obtain ⟨b0, b1⟩ := HB.out.1
  obtain ⟨b2⟩ := HB.out.2.1
  go_enter Tryd.func15, Tryd.ntmps15
  go_wp2_with fail
  refine (implValidAssembly_law vg1 vt1 S1 v2 P2 _ (HS.out.below (by (repeat (first | exact Below.refl _ _ | refine Below.setCell ?_ (by first | (simp; done) | (simp; omega) | omega) _ | refine belowN ?_ _ | refine Below.drew ?_ | refine Below.alloc ?_ (by first | (simp; done) | (simp; omega) | omega) _ | refine Below.trans ?_ (Below.mono (by assumption) (by first | (simp; done) | (simp; omega) | omega)))))) s1 ok1 m1 (HV.out.below (by (repeat (first | exact Below.refl _ _ | refine Below.setCell ?_ (by first | (simp; done) | (simp; omega) | omega) _ | refine belowN ?_ _ | refine Below.drew ?_ | refine Below.alloc ?_ (by first | (simp; done) | (simp; omega) | omega) _ | refine Below.trans ?_ (Below.mono (by assumption) (by first | (simp; done) | (simp; omega) | omega)))))) s2 o2 m2).mono ?_
  rintro e w1 ⟨rfl, hb1⟩
  have B1 : Below w.heap.size w w1 := by (repeat (first | exact Below.refl _ _ | refine Below.setCell ?_ (by first | (simp; done) | (simp; omega) | omega) _ | refine belowN ?_ _ | refine Below.drew ?_ | refine Below.alloc ?_ (by first | (simp; done) | (simp; omega) | omega) _ | refine Below.trans ?_ (Below.mono (by assumption) (by first | (simp; done) | (simp; omega) | omega))))
  have z1 := B1.size
  have G1 := Lib.hid (HB.out.1.below hb1)
  have A1 := Lib.hid (HB.out.2.1.below hb1)
  have P1 := Lib.hid (HB.out.2.2.below hb1)
  have lp := P1.out.lt
  obtain ⟨p0, p1⟩ := P1.out
  clear hb1 HB b0 b1 b2
  cases hv : vaB S1 P2
  · have K := Lib.hid (ba_1 (x := x3) (y := y3) (t := a4) hv)
    go_wp2_with fail
    go_ret2
    exact ⟨ret_ii K.out.1.symm K.out.2.symm, B1⟩
  have HVa := Lib.hid (vaB_va hv)
  have HV1 := Lib.hid hv
  clear hv
  go_wp2_with fail
  refine (implValidPoint_any _ _ _).mono ?_
  rintro e w2 ⟨rfl, hb2⟩
  have B2 : Below w.heap.size w w2 := B1.trans (hb2.mono z1)
  have z2 := B2.size
  have G2 := Lib.hid (G1.out.below hb2)
  have A2 := Lib.hid (A1.out.below hb2)
  have P2' := Lib.hid (P1.out.below hb2)
  clear hb2 p0 p1 lp
  have lp := P2'.out.lt
  obtain ⟨g0, g1⟩ := G2.out
  cases hp : ptB x3 y3
  · have K := Lib.hid (ba_2 (x := x3) (y := y3) (t := a4) HV1.out (fun h => by rw [h.1] at hp; exact absurd hp (by simp)))
    go_wp2_with fail
    go_ret2
    exact ⟨ret_ii K.out.1.symm K.out.2.symm, B2⟩
  have HPt := Lib.hid hp
  have hxy : inB x3 (-60) 60 = true ∧ inB y3 (-60) 60 = true := by simpa [ptB] using hp
  have hx := inB_iff.1 hxy.1
  have hy := inB_iff.1 hxy.2
  clear hxy hp
  go_wp2_with fail
  refine (hasTile_any vg1 vt1 S1.ts a4 _ (HS.out.t.below B2) htl).mono ?_
  rintro e w3 ⟨rfl, hb3⟩
  have B3 : Below w.heap.size w w3 := B2.trans (hb3.mono z2)
  have z3 := B3.size
  have G3 := Lib.hid (G2.out.below hb3)
  have A3 := Lib.hid (A2.out.below hb3)
  have P3 := Lib.hid (P2'.out.below hb3)
  clear hb3 g0 g1 lp
  cases ht : inB a4 0 ((S1.ts.length : Int) - 1)
  · have K := Lib.hid (ba_2 (x := x3) (y := y3) (t := a4) HV1.out (fun h => by rw [h.2] at ht; exact absurd ht (by simp)))
    go_wp2_with fail
    go_ret2
    exact ⟨ret_ii K.out.1.symm K.out.2.symm, B3⟩
  have K := Lib.hid (ba_0 (x := x3) (y := y3) (t := a4) HV1.out ⟨HPt.out, ht⟩)
  have hti := inB_iff.1 ht
  obtain ⟨t, rfl⟩ : ∃ t : Nat, a4 = (t : Int) := ⟨a4.toNat, by omega⟩
  have htn : t < S1.ts.length := by omega
  have HT3 := Lib.hid (HT.out.below B3 hTl)
  have lp := P3.out.lt
  obtain ⟨g0, g1⟩ := G3.out
  obtain ⟨a0⟩ := A3.out
  obtain ⟨p0, p1⟩ := P3.out
  clear ht
  go_wp2_with fail
  refine (binding_any vg1 vt1 v2 S1 P2 x3 y3 t _ (HS.out.below B3) m1 (HV.out.below B3) HVa.out HT3.out hx hy htn).mono ?_
  rintro e w4 ⟨rfl, hb4⟩
  go_wp2_with fail
  go_ret2
  exact ⟨ret_ii (by rw [K.out.1, Int.toNat_natCast]) K.out.2.symm, by (repeat (first | exact Below.refl _ _ | refine Below.setCell ?_ (by first | (simp; done) | (simp; omega) | omega) _ | refine belowN ?_ _ | refine Below.drew ?_ | refine Below.alloc ?_ (by first | (simp; done) | (simp; omega) | omega) _ | refine Below.trans ?_ (Below.mono (by assumption) (by first | (simp; done) | (simp; omega) | omega))))⟩

set_option maxRecDepth 100000 in
set_option maxHeartbeats 1000000 in
set_option linter.unusedVariables false in
set_option linter.unusedSimpArgs false in
theorem walk_FnExactBindingAt (vg1 vt1 : Value) (S1 : Set_) (v2 : Value) (P2 : List Pl) (x3 y3 : Int) (a4 : Int) (w : World) (h1 : SetIn w vg1 vt1 S1) (ok1 : S1.ok) (h2 : Plcs w v2 P2) (ok2 : ∀ p ∈ P2, p.ok) (_wx3 : (Lit.int .i64 x3).wf = true) (_wy3 : (Lit.int .i64 y3).wf = true) (_w4 : (Lit.int .i64 a4).wf = true) (hL : laidMetH Tryd.prog Rows.fnExactBindingAtRow.laid w) :
    Calls Tryd.prog 3 #[.agg #[vg1, vt1], .agg #[v2], .agg #[.int .i64 x3, .int .i64 y3], .int .i64 a4] w fun e w' => e = .returned (.bool true) ∧ Below w.heap.size w w' := by
  have hTab := Lib.hid (steps_of (rest := []) hL)
  have hTlt := hTab.out.lt
  clear hL
  have H1 := Lib.hid h1
  clear h1
  have H2 := Lib.hid h2
  clear h2
  have A1_0' : At (((w.alloc (.cells #[vg1, vt1] 25)).alloc (.cells #[v2] 28)).alloc (.cells #[.int .i64 x3, .int .i64 y3] 30)) (w.heap.size) (vg1) (vt1) := ⟨by simp [go_sem], by simp [go_sem]⟩
  have A1_0 := Lib.hid A1_0'
  clear A1_0'
  have A2_0' : At1 (((w.alloc (.cells #[vg1, vt1] 25)).alloc (.cells #[v2] 28)).alloc (.cells #[.int .i64 x3, .int .i64 y3] 30)) (w.heap.size + 1) v2 := ⟨by simp [go_sem]⟩
  have A2_0 := Lib.hid A2_0'
  clear A2_0'
  have A3_0' : At (((w.alloc (.cells #[vg1, vt1] 25)).alloc (.cells #[v2] 28)).alloc (.cells #[.int .i64 x3, .int .i64 y3] 30)) (w.heap.size + 1 + 1) (.int .i64 x3) (.int .i64 y3) := ⟨by simp [go_sem], by simp [go_sem]⟩
  have A3_0 := Lib.hid A3_0'
  clear A3_0'
  go_enter Tryd.func3, Tryd.ntmps3
  go_wp2_with fail
  refine (szTileSet_any vg1 vt1 S1 1048576 _ (H1.out.below (by (repeat (first | exact Below.refl _ _ | refine Below.setCell ?_ (by first | (simp; done) | (simp; omega) | omega) _ | refine belowN ?_ _ | refine Below.drew ?_ | refine Below.alloc ?_ (by first | (simp; done) | (simp; omega) | omega) _ | refine Below.trans ?_ (Below.mono (by assumption) (by first | (simp; done) | (simp; omega) | omega)))))) ok1 (by omega) (by omega)).mono ?_
  rintro e w1 ⟨⟨r1, rfl, hr⟩, hb⟩
  have B1 : Below w.heap.size w w1 := by (repeat (first | exact Below.refl _ _ | refine Below.setCell ?_ (by first | (simp; done) | (simp; omega) | omega) _ | refine belowN ?_ _ | refine Below.drew ?_ | refine Below.alloc ?_ (by first | (simp; done) | (simp; omega) | omega) _ | refine Below.trans ?_ (Below.mono (by assumption) (by first | (simp; done) | (simp; omega) | omega))))
  have A1_1 := Lib.hid (A1_0.out.below hb)
  have A2_1 := Lib.hid (A2_0.out.below hb)
  have A3_1 := Lib.hid (A3_0.out.below hb)
  have s1 : w.heap.size + 1 + 1 < w1.heap.size := A3_1.out.lt
  clear hb
  rcases hr with rfl | ⟨hl1, hm1, hs1⟩
  · go_wp2
    go_ret
    exact ⟨rfl, B1⟩
  have bb1 : decide (r1 < 0) = false := by simp; omega
  obtain ⟨kA10, kA11⟩ := A1_1.out
  have lA1 := A1_1.out.lt
  obtain ⟨kA20⟩ := A2_1.out
  have lA2 := A2_1.out.lt
  obtain ⟨kA30, kA31⟩ := A3_1.out
  have lA3 := A3_1.out.lt
  go_wp2_with fail
  clear kA10 kA11 lA1 kA20 lA2 kA30 kA31 lA3
  refine (szAssembly_any v2 P2 r1 _ (H2.out.below (by (repeat (first | exact Below.refl _ _ | refine Below.setCell ?_ (by first | (simp; done) | (simp; omega) | omega) _ | refine belowN ?_ _ | refine Below.drew ?_ | refine Below.alloc ?_ (by first | (simp; done) | (simp; omega) | omega) _ | refine Below.trans ?_ (Below.mono (by assumption) (by first | (simp; done) | (simp; omega) | omega)))))) hl1 (by omega)).mono ?_
  rintro e w2 ⟨⟨r2, rfl, hr⟩, hb⟩
  have q2 : Below w1.heap.size w1 w2 := by (repeat (first | exact Below.refl _ _ | refine Below.setCell ?_ (by first | (simp; done) | (simp; omega) | omega) _ | refine belowN ?_ _ | refine Below.drew ?_ | refine Below.alloc ?_ (by first | (simp; done) | (simp; omega) | omega) _ | refine Below.trans ?_ (Below.mono (by assumption) (by first | (simp; done) | (simp; omega) | omega))))
  have s2 : w1.heap.size ≤ w2.heap.size := q2.size
  have B2 : Below w.heap.size w w2 := B1.trans (q2.mono (by omega))
  have A1_2 := Lib.hid (A1_1.out.below q2)
  have A2_2 := Lib.hid (A2_1.out.below q2)
  have A3_2 := Lib.hid (A3_1.out.below q2)
  clear hb q2
  rcases hr with rfl | ⟨hl2, hm2, hs2⟩
  · go_wp2
    go_ret
    exact ⟨rfl, B2⟩
  have bb2 : decide (r2 < 0) = false := by simp; omega
  obtain ⟨kA10, kA11⟩ := A1_2.out
  have lA1 := A1_2.out.lt
  obtain ⟨kA20⟩ := A2_2.out
  have lA2 := A2_2.out.lt
  obtain ⟨kA30, kA31⟩ := A3_2.out
  have lA3 := A3_2.out.lt
  go_wp2_with fail
  go_region_held3 (fun w' => w'.cell? ⟨w.heap.size, 0, none⟩ = some (vg1) ∧ w'.cell? ⟨w.heap.size, 1, none⟩ = some (vt1) ∧ w'.cell? ⟨w.heap.size + 1, 0, none⟩ = some (v2) ∧ w'.cell? ⟨w.heap.size + 1 + 1, 0, none⟩ = some (.int .i64 x3) ∧ w'.cell? ⟨w.heap.size + 1 + 1, 1, none⟩ = some (.int .i64 y3)) ((((try go_split_ands); (try dsimp only); (repeat' apply And.intro)) <;> (repeat (first | with_reducible assumption | ((with_reducible refine cnew0 ?_); simp; done) | ((with_reducible refine cnew1 ?_); simp; done) | (with_reducible refine akeep ?_) | (with_reducible refine dkeep ?_) | ((with_reducible refine skeep ?_ ?_); rotate_left; (first | ((try dsimp only); omega) | (simp; done) | (simp; omega))) | (with_reducible refine bkeep hb3 ?_)))))
    (first
      | (go_at_call_of 12 (Value.agg #[vg1, vt1]); refine (toTileSet_any vg1 vt1 S1 _ (H1.out.below (by (repeat (first | exact Below.refl _ _ | refine Below.setCell ?_ (by first | (simp; done) | (simp; omega) | omega) _ | refine belowN ?_ _ | refine Below.drew ?_ | refine Below.alloc ?_ (by first | (simp; done) | (simp; omega) | omega) _ | refine Below.trans ?_ (Below.mono (by assumption) (by first | (simp; done) | (simp; omega) | omega)))))) hs1).mono ?_; rintro e w3 ⟨⟨z1g, z1t, rfl, zo1⟩, hb3⟩; have s3 : w2.heap.size ≤ w3.heap.size := Nat.le_trans (by first | exact Nat.le_refl _ | (simp; done) | (simp; omega)) hb3.size)
      | (go_at_call_of 13 (Value.agg #[v2]); refine (toAssembly_any v2 P2 _ (H2.out.below (by (repeat (first | exact Below.refl _ _ | refine Below.setCell ?_ (by first | (simp; done) | (simp; omega) | omega) _ | refine belowN ?_ _ | refine Below.drew ?_ | refine Below.alloc ?_ (by first | (simp; done) | (simp; omega) | omega) _ | refine Below.trans ?_ (Below.mono (by assumption) (by first | (simp; done) | (simp; omega) | omega)))))) hs2).mono ?_; rintro e w4 ⟨⟨z2, rfl, zo2⟩, hb3⟩; have s4 : w3.heap.size ≤ w4.heap.size := Nat.le_trans (by first | exact Nat.le_refl _ | (simp; done) | (simp; omega)) hb3.size)
      | (go_at_call_of 14 (Value.agg #[.int .i64 x3, .int .i64 y3]); refine (toPoint_bel x3 y3 _).mono ?_; rintro e w5 ⟨rfl, hb3⟩; have s5 : w4.heap.size ≤ w5.heap.size := Nat.le_trans (by first | exact Nat.le_refl _ | (simp; done) | (simp; omega)) hb3.size)
      | (go_at_call 11; refine (specBindingAt_law z1g z1t S1 z2 P2 x3 y3 a4 _ ((zo1.setIn hs1).below (by (repeat (first | exact Below.refl _ _ | refine Below.setCell ?_ (by first | (simp; done) | (simp; omega) | omega) _ | refine belowN ?_ _ | refine Below.drew ?_ | refine Below.alloc ?_ (by first | (simp; done) | (simp; omega) | omega) _ | refine Below.trans ?_ (Below.mono (by assumption) (by first | (simp; done) | (simp; omega) | omega)))))) zo1.sol ok1 hs1 (zo2.1.plcs.below (by (repeat (first | exact Below.refl _ _ | refine Below.setCell ?_ (by first | (simp; done) | (simp; omega) | omega) _ | refine belowN ?_ _ | refine Below.drew ?_ | refine Below.alloc ?_ (by first | (simp; done) | (simp; omega) | omega) _ | refine Below.trans ?_ (Below.mono (by assumption) (by first | (simp; done) | (simp; omega) | omega)))))) zo2.2 ok2 hs2).mono ?_; rintro e w6 ⟨rfl, hb3⟩; have s6 : w5.heap.size ≤ w6.heap.size := Nat.le_trans (by first | exact Nat.le_refl _ | (simp; done) | (simp; omega)) hb3.size))
  have q6 : Below w2.heap.size w2 w6 := by (repeat (first | exact Below.refl _ _ | refine Below.setCell ?_ (by first | (simp; done) | (simp; omega) | omega) _ | refine belowN ?_ _ | refine Below.drew ?_ | refine Below.alloc ?_ (by first | (simp; done) | (simp; omega) | omega) _ | refine Below.trans ?_ (Below.mono (by assumption) (by first | (simp; done) | (simp; omega) | omega))))
  have B6 : Below w.heap.size w w6 := B2.trans (q6.mono (by omega))
  have A1_6 := Lib.hid (A1_2.out.below q6)
  have A2_6 := Lib.hid (A2_2.out.below q6)
  have A3_6 := Lib.hid (A3_2.out.below q6)
  clear kA10 kA11 lA1 kA20 lA2 kA30 kA31 lA3
  clear hb3 q6
  obtain ⟨kA10, kA11⟩ := A1_6.out
  have lA1 := A1_6.out.lt
  go_wp2_with fail
  refine (toTileSet_any vg1 vt1 S1 _ (H1.out.below (by (repeat (first | exact Below.refl _ _ | refine Below.setCell ?_ (by first | (simp; done) | (simp; omega) | omega) _ | refine belowN ?_ _ | refine Below.drew ?_ | refine Below.alloc ?_ (by first | (simp; done) | (simp; omega) | omega) _ | refine Below.trans ?_ (Below.mono (by assumption) (by first | (simp; done) | (simp; omega) | omega)))))) hs1).mono ?_
  rintro e w7 ⟨⟨x1_g, x1_t, rfl, own⟩, hb⟩
  have q7 : Below w6.heap.size w6 w7 := by (repeat (first | exact Below.refl _ _ | refine Below.setCell ?_ (by first | (simp; done) | (simp; omega) | omega) _ | refine belowN ?_ _ | refine Below.drew ?_ | refine Below.alloc ?_ (by first | (simp; done) | (simp; omega) | omega) _ | refine Below.trans ?_ (Below.mono (by assumption) (by first | (simp; done) | (simp; omega) | omega))))
  have s7 : w6.heap.size ≤ w7.heap.size := q7.size
  have B7 : Below w.heap.size w w7 := B6.trans (q7.mono (by omega))
  have C7 := Lib.hid q7
  have A1_7 := Lib.hid (A1_6.out.below q7)
  have A2_7 := Lib.hid (A2_6.out.below q7)
  have A3_7 := Lib.hid (A3_6.out.below q7)
  have SL1 := own.sol
  have X1_7 := Lib.hid (OwnSet.mono (lo' := w6.heap.size) (hi' := w7.heap.size) (own.own hs1) (by first | (simp; done) | (simp; omega)) (Nat.le_refl _))
  clear hb q7 own kA10 kA11 lA1
  obtain ⟨x1_g0, x1_g1, x1_g2, x1_g3, x1_g4, x1_g5, rfl, rfl⟩ := X1_7.out.setIn.shape
  obtain ⟨kA20⟩ := A2_7.out
  have lA2 := A2_7.out.lt
  go_wp2_with fail
  refine (toAssembly_any v2 P2 _ (H2.out.below (by (repeat (first | exact Below.refl _ _ | refine Below.setCell ?_ (by first | (simp; done) | (simp; omega) | omega) _ | refine belowN ?_ _ | refine Below.drew ?_ | refine Below.alloc ?_ (by first | (simp; done) | (simp; omega) | omega) _ | refine Below.trans ?_ (Below.mono (by assumption) (by first | (simp; done) | (simp; omega) | omega)))))) hs2).mono ?_
  rintro e w8 ⟨⟨x2_, rfl, own⟩, hb⟩
  have q8 : Below w7.heap.size w7 w8 := by (repeat (first | exact Below.refl _ _ | refine Below.setCell ?_ (by first | (simp; done) | (simp; omega) | omega) _ | refine belowN ?_ _ | refine Below.drew ?_ | refine Below.alloc ?_ (by first | (simp; done) | (simp; omega) | omega) _ | refine Below.trans ?_ (Below.mono (by assumption) (by first | (simp; done) | (simp; omega) | omega))))
  have s8 : w7.heap.size ≤ w8.heap.size := q8.size
  have B8 : Below w.heap.size w w8 := B7.trans (q8.mono (by omega))
  have C8 := Lib.hid (C7.out.trans (q8.mono (by omega)))
  have A1_8 := Lib.hid (A1_7.out.below q8)
  have A2_8 := Lib.hid (A2_7.out.below q8)
  have A3_8 := Lib.hid (A3_7.out.below q8)
  have X1_8 := Lib.hid (X1_7.out.below q8)
  have Y1_8 := Lib.hid (At.below (p := w7.heap.size) (vg := (.slice x1_g0 x1_g1 x1_g2)) (vt := (.slice x1_g3 x1_g4 x1_g5)) (by exact ⟨by simp [go_sem], by simp [go_sem]⟩) hb)
  have SL2 := own.2
  have X2_8 := Lib.hid (OwnA.mono (lo' := w7.heap.size + 1) (hi' := w8.heap.size) own.1 (by first | (simp; done) | (simp; omega)) (Nat.le_refl _))
  clear hb q8 own kA20 lA2
  obtain ⟨x2_a, x2_n, x2_c, rfl⟩ := X2_8.out.plcs.shape
  obtain ⟨kY10, kY11⟩ := Y1_8.out
  have lY1 := Y1_8.out.lt
  obtain ⟨kA30, kA31⟩ := A3_8.out
  have lA3 := A3_8.out.lt
  go_wp2_with fail
  have pkY20 : (w8.alloc (.cells #[(.slice x2_a x2_n x2_c)] 42)).cell? ⟨w8.heap.size, 0, none⟩ = some (.slice x2_a x2_n x2_c) := by simp [go_sem]
  go_region_held3 (fun w' => w'.cell? ⟨w7.heap.size, 0, none⟩ = some (.slice x1_g0 x1_g1 x1_g2) ∧ w'.cell? ⟨w7.heap.size, 1, none⟩ = some (.slice x1_g3 x1_g4 x1_g5) ∧ w'.cell? ⟨w8.heap.size, 0, none⟩ = some (.slice x2_a x2_n x2_c) ∧ w'.cell? ⟨w.heap.size + 1 + 1, 0, none⟩ = some (.int .i64 x3) ∧ w'.cell? ⟨w.heap.size + 1 + 1, 1, none⟩ = some (.int .i64 y3)) ((((try go_split_ands); (try dsimp only); (repeat' apply And.intro)) <;> (repeat (first | with_reducible assumption | ((with_reducible refine cnew0 ?_); simp; done) | ((with_reducible refine cnew1 ?_); simp; done) | (with_reducible refine akeep ?_) | (with_reducible refine dkeep ?_) | ((with_reducible refine skeep ?_ ?_); rotate_left; (first | ((try dsimp only); omega) | (simp; done) | (simp; omega))) | (with_reducible refine bkeep hb3 ?_)))))
    (first
      | (go_at_call_of 14 (Value.agg #[.int .i64 x3, .int .i64 y3]); refine (toPoint_bel x3 y3 _).mono ?_; rintro e w9 ⟨rfl, hb3⟩; have s9 : w8.heap.size ≤ w9.heap.size := Nat.le_trans (by first | exact Nat.le_refl _ | (simp; done) | (simp; omega)) hb3.size; have sp9 : w8.heap.size + 1 ≤ w9.heap.size := Nat.le_trans (by first | exact Nat.le_refl _ | (simp; done) | (simp; omega)) hb3.size)
      | (go_at_call 15; refine (implBindingAt_law (.slice x1_g0 x1_g1 x1_g2) (.slice x1_g3 x1_g4 x1_g5) S1 (.slice x2_a x2_n x2_c) P2 x3 y3 a4 _ (X1_8.out.setIn.below (by (repeat (first | exact Below.refl _ _ | refine Below.setCell ?_ (by first | (simp; done) | (simp; omega) | omega) _ | refine belowN ?_ _ | refine Below.drew ?_ | refine Below.alloc ?_ (by first | (simp; done) | (simp; omega) | omega) _ | refine Below.trans ?_ (Below.mono (by assumption) (by first | (simp; done) | (simp; omega) | omega)))))) SL1 ok1 hs1 (X2_8.out.plcs.below (by (repeat (first | exact Below.refl _ _ | refine Below.setCell ?_ (by first | (simp; done) | (simp; omega) | omega) _ | refine belowN ?_ _ | refine Below.drew ?_ | refine Below.alloc ?_ (by first | (simp; done) | (simp; omega) | omega) _ | refine Below.trans ?_ (Below.mono (by assumption) (by first | (simp; done) | (simp; omega) | omega)))))) SL2 ok2 hs2 (hTab.out.below (B := w.heap.size) (by (repeat (first | exact Below.refl _ _ | refine Below.setCell ?_ (by first | (simp; done) | (simp; omega) | omega) _ | refine belowN ?_ _ | refine Below.drew ?_ | refine Below.alloc ?_ (by first | (simp; done) | (simp; omega) | omega) _ | refine Below.trans ?_ (Below.mono (by assumption) (by first | (simp; done) | (simp; omega) | omega))))) hTlt)).mono ?_; rintro e w10 ⟨rfl, hb3⟩; have s10 : w9.heap.size ≤ w10.heap.size := Nat.le_trans (by first | exact Nat.le_refl _ | (simp; done) | (simp; omega)) hb3.size))
  have QAY2 : Below (w8.alloc (.cells #[(.slice x2_a x2_n x2_c)] 42)).heap.size (w8.alloc (.cells #[(.slice x2_a x2_n x2_c)] 42)) w10 := by (repeat (first | exact Below.refl _ _ | refine Below.setCell ?_ (by first | (simp; done) | (simp; omega) | omega) _ | refine belowN ?_ _ | refine Below.drew ?_ | refine Below.alloc ?_ (by first | (simp; done) | (simp; omega) | omega) _ | refine Below.trans ?_ (Below.mono (by assumption) (by first | (simp; done) | (simp; omega) | omega))))
  have Y2_10 := Lib.hid (At1.below (p := w8.heap.size) (v := (.slice x2_a x2_n x2_c)) (by exact ⟨by simp [go_sem]⟩) QAY2)
  clear pkY20
  have q10 : Below w8.heap.size w8 w10 := by (repeat (first | exact Below.refl _ _ | refine Below.setCell ?_ (by first | (simp; done) | (simp; omega) | omega) _ | refine belowN ?_ _ | refine Below.drew ?_ | refine Below.alloc ?_ (by first | (simp; done) | (simp; omega) | omega) _ | refine Below.trans ?_ (Below.mono (by assumption) (by first | (simp; done) | (simp; omega) | omega))))
  have B10 : Below w.heap.size w w10 := B8.trans (q10.mono (by omega))
  have C10 := Lib.hid (C8.out.trans (q10.mono (by omega)))
  have A1_10 := Lib.hid (A1_8.out.below q10)
  have A2_10 := Lib.hid (A2_8.out.below q10)
  have A3_10 := Lib.hid (A3_8.out.below q10)
  have X1_10 := Lib.hid (X1_8.out.below q10)
  have Y1_10 := Lib.hid (Y1_8.out.below q10)
  have X2_10 := Lib.hid (X2_8.out.below q10)
  clear QAY2
  clear hb3 q10 kY10 kY11 lY1 kA30 kA31 lA3
  obtain ⟨kA10, kA11⟩ := A1_10.out
  have lA1 := A1_10.out.lt
  obtain ⟨kY10, kY11⟩ := Y1_10.out
  have lY1 := Y1_10.out.lt
  go_wp2_with fail
  go_region_held3 (fun w' => w'.cell? ⟨w.heap.size, 0, none⟩ = some (vg1) ∧ w'.cell? ⟨w.heap.size, 1, none⟩ = some (vt1) ∧ w'.cell? ⟨w7.heap.size, 0, none⟩ = some (.slice x1_g0 x1_g1 x1_g2) ∧ w'.cell? ⟨w7.heap.size, 1, none⟩ = some (.slice x1_g3 x1_g4 x1_g5)) ((((try go_split_ands); (try dsimp only); (repeat' apply And.intro)) <;> (repeat (first | with_reducible assumption | ((with_reducible refine cnew0 ?_); simp; done) | ((with_reducible refine cnew1 ?_); simp; done) | (with_reducible refine akeep ?_) | (with_reducible refine dkeep ?_) | ((with_reducible refine skeep ?_ ?_); rotate_left; (first | ((try dsimp only); omega) | (simp; done) | (simp; omega))) | (with_reducible refine bkeep hb3 ?_)))))
    (first
      | (go_at_call 12; refine (toTileSet_any vg1 vt1 S1 _ (H1.out.below (by (repeat (first | exact Below.refl _ _ | refine Below.setCell ?_ (by first | (simp; done) | (simp; omega) | omega) _ | refine belowN ?_ _ | refine Below.drew ?_ | refine Below.alloc ?_ (by first | (simp; done) | (simp; omega) | omega) _ | refine Below.trans ?_ (Below.mono (by assumption) (by first | (simp; done) | (simp; omega) | omega)))))) hs1).mono ?_; rintro e w11 ⟨⟨u1g, u1t, rfl, own⟩, hb3⟩; have s11 : w10.heap.size ≤ w11.heap.size := Nat.le_trans (by first | exact Nat.le_refl _ | (simp; done) | (simp; omega)) hb3.size)
      | (go_at_call 16; refine (eqTileSet_yes _ _ _ _ S1 _ (X1_10.out.setIn.below (by (repeat (first | exact Below.refl _ _ | refine Below.setCell ?_ (by first | (simp; done) | (simp; omega) | omega) _ | refine belowN ?_ _ | refine Below.drew ?_ | refine Below.alloc ?_ (by first | (simp; done) | (simp; omega) | omega) _ | refine Below.trans ?_ (Below.mono (by assumption) (by first | (simp; done) | (simp; omega) | omega)))))) ((own.setIn hs1).below (by (repeat (first | exact Below.refl _ _ | refine Below.setCell ?_ (by first | (simp; done) | (simp; omega) | omega) _ | refine belowN ?_ _ | refine Below.drew ?_ | refine Below.alloc ?_ (by first | (simp; done) | (simp; omega) | omega) _ | refine Below.trans ?_ (Below.mono (by assumption) (by first | (simp; done) | (simp; omega) | omega))))))).mono ?_; rintro e w12 ⟨rfl, hb3⟩; have s12 : w11.heap.size ≤ w12.heap.size := Nat.le_trans (by first | exact Nat.le_refl _ | (simp; done) | (simp; omega)) hb3.size))
  have q12 : Below w10.heap.size w10 w12 := by (repeat (first | exact Below.refl _ _ | refine Below.setCell ?_ (by first | (simp; done) | (simp; omega) | omega) _ | refine belowN ?_ _ | refine Below.drew ?_ | refine Below.alloc ?_ (by first | (simp; done) | (simp; omega) | omega) _ | refine Below.trans ?_ (Below.mono (by assumption) (by first | (simp; done) | (simp; omega) | omega))))
  have B12 : Below w.heap.size w w12 := B10.trans (q12.mono (by omega))
  have C12 := Lib.hid (C10.out.trans (q12.mono (by omega)))
  have A1_12 := Lib.hid (A1_10.out.below q12)
  have A2_12 := Lib.hid (A2_10.out.below q12)
  have A3_12 := Lib.hid (A3_10.out.below q12)
  have X1_12 := Lib.hid (X1_10.out.below q12)
  have Y1_12 := Lib.hid (Y1_10.out.below q12)
  have X2_12 := Lib.hid (X2_10.out.below q12)
  have Y2_12 := Lib.hid (Y2_10.out.below q12)
  clear hb3 q12 own kA10 kA11 lA1 kY10 kY11 lY1
  obtain ⟨kA20⟩ := A2_12.out
  have lA2 := A2_12.out.lt
  obtain ⟨kY20⟩ := Y2_12.out
  have lY2 := Y2_12.out.lt
  go_wp2_with fail
  go_region_held3 (fun w' => w'.cell? ⟨w.heap.size + 1, 0, none⟩ = some (v2) ∧ w'.cell? ⟨w8.heap.size, 0, none⟩ = some (.slice x2_a x2_n x2_c)) ((((try go_split_ands); (try dsimp only); (repeat' apply And.intro)) <;> (repeat (first | with_reducible assumption | ((with_reducible refine cnew0 ?_); simp; done) | ((with_reducible refine cnew1 ?_); simp; done) | (with_reducible refine akeep ?_) | (with_reducible refine dkeep ?_) | ((with_reducible refine skeep ?_ ?_); rotate_left; (first | ((try dsimp only); omega) | (simp; done) | (simp; omega))) | (with_reducible refine bkeep hb3 ?_)))))
    (first
      | (go_at_call 13; refine (toAssembly_any v2 P2 _ (H2.out.below (by (repeat (first | exact Below.refl _ _ | refine Below.setCell ?_ (by first | (simp; done) | (simp; omega) | omega) _ | refine belowN ?_ _ | refine Below.drew ?_ | refine Below.alloc ?_ (by first | (simp; done) | (simp; omega) | omega) _ | refine Below.trans ?_ (Below.mono (by assumption) (by first | (simp; done) | (simp; omega) | omega)))))) hs2).mono ?_; rintro e w13 ⟨⟨u2, rfl, own⟩, hb3⟩; have s13 : w12.heap.size ≤ w13.heap.size := Nat.le_trans (by first | exact Nat.le_refl _ | (simp; done) | (simp; omega)) hb3.size)
      | (go_at_call 17; refine (eqAssembly_yes _ _ P2 _ (X2_12.out.plcs.below (by (repeat (first | exact Below.refl _ _ | refine Below.setCell ?_ (by first | (simp; done) | (simp; omega) | omega) _ | refine belowN ?_ _ | refine Below.drew ?_ | refine Below.alloc ?_ (by first | (simp; done) | (simp; omega) | omega) _ | refine Below.trans ?_ (Below.mono (by assumption) (by first | (simp; done) | (simp; omega) | omega)))))) (own.1.plcs.below (by (repeat (first | exact Below.refl _ _ | refine Below.setCell ?_ (by first | (simp; done) | (simp; omega) | omega) _ | refine belowN ?_ _ | refine Below.drew ?_ | refine Below.alloc ?_ (by first | (simp; done) | (simp; omega) | omega) _ | refine Below.trans ?_ (Below.mono (by assumption) (by first | (simp; done) | (simp; omega) | omega))))))).mono ?_; rintro e w14 ⟨rfl, hb3⟩; have s14 : w13.heap.size ≤ w14.heap.size := Nat.le_trans (by first | exact Nat.le_refl _ | (simp; done) | (simp; omega)) hb3.size))
  have q14 : Below w12.heap.size w12 w14 := by (repeat (first | exact Below.refl _ _ | refine Below.setCell ?_ (by first | (simp; done) | (simp; omega) | omega) _ | refine belowN ?_ _ | refine Below.drew ?_ | refine Below.alloc ?_ (by first | (simp; done) | (simp; omega) | omega) _ | refine Below.trans ?_ (Below.mono (by assumption) (by first | (simp; done) | (simp; omega) | omega))))
  have B14 : Below w.heap.size w w14 := B12.trans (q14.mono (by omega))
  have C14 := Lib.hid (C12.out.trans (q14.mono (by omega)))
  have A1_14 := Lib.hid (A1_12.out.below q14)
  have A2_14 := Lib.hid (A2_12.out.below q14)
  have A3_14 := Lib.hid (A3_12.out.below q14)
  have X1_14 := Lib.hid (X1_12.out.below q14)
  have Y1_14 := Lib.hid (Y1_12.out.below q14)
  have X2_14 := Lib.hid (X2_12.out.below q14)
  have Y2_14 := Lib.hid (Y2_12.out.below q14)
  clear hb3 q14 own kA20 lA2 kY20 lY2
  go_wp2_with fail
  go_ret
  exact ⟨rfl, B14⟩

namespace fnExactBindingAt
open Go.ChangeShapes Go.WideShapes Go.ChangeAt Go.RowKit Go.Joins Go.WideElems
open Go.ChangeMaps (open_string shut_string)
theorem own : ownKnob Tryd.prog.godebug = none := by kernel_rfl
theorem laidOut : laidOutB Tryd.prog = true := by kernel_rfl
theorem readable : (Tryd.f3.params.toList.all fun t => Tryd.prog.readableRec t && decide (t < Tryd.prog.types.size)) = true := by kernel_rfl
theorem rowed : varsRowed Tryd.prog Rows.fnExactBindingAtSpec.vars = true := by kernel_rfl
theorem cells_0 : Tryd.prog.cellsOf 25 = 2 := by kernel_rfl
theorem cells_1 : Tryd.prog.cellsOf 28 = 1 := by kernel_rfl
theorem cells_2 : Tryd.prog.cellsOf 30 = 2 := by kernel_rfl
theorem door_met (os : Os) (args : Array Value) : laidMetH Tryd.prog Rows.fnExactBindingAtRow.laid ((World.doorLaid Tryd.prog 4000 os).forCall (fun _ _ => 0) ⟨#[], args, []⟩).memory :=
  laidMetH_of_parts3 (fuel := 8) (laidMet_of_run' 8 (by kernel_rfl) (by kernel_rfl)) (by kernel_rfl) (by kernel_rfl)
set_option maxRecDepth 100000 in
set_option linter.unusedVariables false in
theorem contract (H : Type) (enc : TypeId × Value → H) (W : World) (base : Nat) (args : Array Value) (ds gs : List (DataW H)) (before : List MemPlace)
    (hval : ∀ (j : Nat) t v, Tryd.f3.params[j]? = some t → args[j]? = some v → Value.okWide Tryd.prog W .any base t v)
    (hW : DataW.Whole enc Tryd.prog Tryd.f3.params.toList Rows.fnExactBindingAtSpec.vars false W args.toList ds gs before) (hL : laidMetH Tryd.prog Rows.fnExactBindingAtRow.laid W) :
    Calls Tryd.prog 3 args W fun e W' => ∃ v, e = .returned v ∧ Rows.fnExactBindingAtSpec.post enc Tryd.prog Tryd.f3 false true false false W args v W' := by
  have hW' := hW
  obtain ⟨p, q, hA0, hV, rfl, hfz, hnd⟩ := hW
  have hA : DataW.TrodAll enc Tryd.prog W 0 (fun _ => true) true Tryd.f3.params.toList args.toList ds p := hA0
  rw [Tryd.params3] at hA hval
  obtain ⟨v0, vs0, d0, ds0, p0, q0, ha0, rfl, rfl, h0, r0⟩ := trodAll_cons hA
  obtain ⟨v1, vs1, d1, ds1, p1, q1, ha1, rfl, rfl, h1, r1⟩ := trodAll_cons r0
  obtain ⟨v2, vs2, d2, ds2, p2, q2, ha2, rfl, rfl, h2, r2⟩ := trodAll_cons r1
  obtain ⟨v3, vs3, d3, ds3, p3, q3, ha3, rfl, rfl, h3, r3⟩ := trodAll_cons r2
  obtain ⟨rfl, rfl, rfl⟩ := trodAll_nil r3
  obtain rfl : args = #[v0, v1, v2, v3] := by cases args; simp_all
  have hV2 := hV
  obtain ⟨_, _, _, _, dv, _, rfl, -, -, -, -, -⟩ := trodVars_one hV
  obtain ⟨c0, e0, y0, z0, m0, rfl, -, -, hy0, hz0⟩ := open_agg2 Tryd.underlying25 (by kernel_rfl) cells_0 (hval 0 25 v0 rfl rfl) h0
  obtain ⟨gs0, hg0, og0⟩ := open_glues (t := 22) (e := 103) Tryd.underlying22 Tryd.underlying103 (by kernel_rfl) (by kernel_rfl) rfl rfl Tryd.underlying9 Tryd.underlying2 hy0
  obtain ⟨ts0, ht0, ot0⟩ := open_tiles (t := 23) (e := 106) Tryd.underlying23 Tryd.underlying106 (by kernel_rfl) (by kernel_rfl) rfl rfl Tryd.underlying9 Tryd.underlying58 Tryd.underlying2 (by kernel_rfl) hz0
  obtain ⟨c1, y1, m1, rfl, hy1⟩ := open_one Tryd.underlying28 (by kernel_rfl) cells_1 (hval 1 28 v1 rfl rfl) h1
  obtain ⟨ps1, hg1, og1⟩ := open_placed (t := 26) (e := 119) (tp := 30) (ti := 2) Tryd.underlying26 Tryd.underlying119 Tryd.underlying30 (by kernel_rfl) ⟨rfl, rfl⟩ ⟨rfl, rfl⟩ (by kernel_rfl) (by kernel_rfl) ⟨rfl, rfl⟩ ⟨rfl, rfl⟩ Tryd.underlying2 hy1
  obtain ⟨c2, e2, y2, z2, m2, rfl, -, -, hy2, hz2⟩ := open_agg2 Tryd.underlying30 (by kernel_rfl) cells_2 (hval 2 30 v2 rfl rfl) h2
  obtain ⟨a2, f2, rfl, w2a⟩ := DataW.trod_int Tryd.underlying2 hy2
  obtain ⟨b2, g2, rfl, w2b⟩ := DataW.trod_int Tryd.underlying2 hz2
  simp at f2 g2
  subst f2 g2
  obtain ⟨a3, rfl, rfl, rfl, w3⟩ := open_int Tryd.underlying2 (hval 3 2 v3 rfl rfl) h3
  refine (walk_FnExactBindingAt c0 e0 ⟨gs0, ts0⟩ c1 ps1 a2 b2 a3 W ⟨hg0, ht0⟩ ⟨og0, ot0⟩ hg1 og1 w2a w2b w3 hL).mono fun e W' ⟨he, hg⟩ => ?_
  subst he
  exact ⟨_, rfl, post_card (pa := _) (pv := _) hW' (fun _ _ _ => (trodAll_cons_mk (shut_bool Tryd.underlying4 _) trodAll_mk0)) (Below.trodAll laidOut readable hA0 hg fun x hx => hW'.lt x (List.mem_append_left _ hx)) (Below.trodVars laidOut hg rowed hV2) rfl hg⟩
set_option maxRecDepth 100000 in
theorem lifted (os : Os) (started : os.Started) (H : Type) (enc : TypeId × Value → H) :
    ReturnsInHanded {} Tryd.checked os 3 .any (fun w args => (Rows.fnExactBindingAtSpec.pre enc Tryd.prog Tryd.f3 [] false w args ∧ laidMetH Tryd.prog Rows.fnExactBindingAtRow.laid w) ∧ sizedMet enc Tryd.prog Tryd.f3 (OpenSpec.ofChange Rows.fnExactBindingAtSpec) false w args)
      (Rows.fnExactBindingAtSpec.post enc Tryd.prog Tryd.f3 false true false false) := by
  refine returnsInHanded_of_change_and (C := Tryd.checked) (X := fun w _ => laidMetH Tryd.prog Rows.fnExactBindingAtRow.laid w) (fun _ _ _ hh h => h.of_heap hh) own started (by kernel_rfl) Tryd.func3
    (ChangeSpec.witness_shaped (enc := enc) (C := Tryd.checked) (os := os) (X := fun w _ => laidMetH Tryd.prog Rows.fnExactBindingAtRow.laid w) false (World.doorLaid Tryd.prog 4000 os) #[.agg #[.slice none 0 0, .slice none 0 0], .agg #[.slice none 0 0], .agg #[.int .i64 0, .int .i64 0], .int .i64 0] 8 rfl (World.shaped_of_RefB (by kernel_rfl) (by kernel_rfl)) (by kernel_rfl) (by kernel_rfl) (by kernel_rfl) (door_met os _)) ?_
  intro W base args ds gs before hval hW _ _ hL _
  exact contract H enc W base args ds gs before hval hW hL
theorem said : Rows.FnExactBindingAtSaid :=
  OpenClaim.holds_of_wide 3 Tryd.f3 rfl rfl rfl rfl rfl rfl rfl ⟨rfl, rfl, rfl, rfl, rfl⟩ rfl rfl rfl rfl rfl (by kernel_rfl) Tryd.func3 (by kernel_rfl)
    (of_decide_eq_true (by kernel_rfl)) (by unfold Func.isWrapper; first | (rw [if_pos (by decide +kernel)]; kernel_rfl) | (rw [if_neg (by decide +kernel)]; exact ⟨rfl, rfl⟩))
    (fun os started H enc _ => lifted os started H enc)
theorem plain (f : FuncId) (fn : Func) (hf : Tryd.pinned.checked.prog.funcNamed "loop.example/g01081/laws.FnExactBindingAt" = some f) (hfn : Tryd.pinned.checked.prog.funcs[f]? = some fn) :
    Rows.fnExactBindingAtCard.stood.looks = Tryd.pinned.checked.prog.looks [] ∧ ∀ (j : Nat) t, fn.params[j]? = some t → Tryd.pinned.checked.prog.wantsStandIn t = false := by
  obtain rfl : f = 3 := Option.some.inj ((show Tryd.prog.funcNamed "loop.example/g01081/laws.FnExactBindingAt" = some 3 by kernel_rfl).symm.trans hf) |>.symm
  obtain rfl : fn = Tryd.f3 := (Option.some.inj (Tryd.func3.symm.trans hfn)).symm
  refine ⟨by kernel_rfl, fun j t ht => ?_⟩
  rw [Tryd.params3] at ht
  have hm := Array.mem_of_getElem? ht
  simp at hm
  rcases hm with rfl | rfl | rfl | rfl
  · exact (show Tryd.prog.wantsStandIn 25 = false by kernel_rfl)
  · exact (show Tryd.prog.wantsStandIn 28 = false by kernel_rfl)
  · exact (show Tryd.prog.wantsStandIn 30 = false by kernel_rfl)
  · exact (show Tryd.prog.wantsStandIn 2 = false by kernel_rfl)
end fnExactBindingAt
theorem fnExactBindingAt_card : Rows.FnExactBindingAtCardSaid :=
  Claim7.holds_tied_plain_at .later [] _ _ _ _ fnExactBindingAt.said (fun _ h => by cases h) (by kernel_rfl) (fun _ h => by cases h) fnExactBindingAt_row_tie rfl ⟨rfl, rfl⟩ (by kernel_rfl) rfl fnExactBindingAt.plain (by kernel_rfl)
end Go.Proofs.YtnofbeeihdgmdaaDoor
