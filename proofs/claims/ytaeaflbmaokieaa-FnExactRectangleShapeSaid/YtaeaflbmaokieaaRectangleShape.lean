/-
  For every width and height, RectangleShape of the program answers as the model's, in memory of its own; the law FnExactRectangleShape returns true. Conditions: none.
-/
import Derived.Test.YtaeaflbmaokieaaRect
namespace Go.Proofs.Ytaeaflbmaokieaa
open Go.RowKit

set_option maxRecDepth 100000 in
set_option maxHeartbeats 1000000 in
set_option linter.unusedVariables false in
set_option linter.unusedSimpArgs false in
theorem walk_FnExactRectangleShape (a1 : Int) (a2 : Int) (w : World) (_w1 : (Lit.int .i64 a1).wf = true) (_w2 : (Lit.int .i64 a2).wf = true) :
    Calls Try.prog 10 #[.int .i64 a1, .int .i64 a2] w fun e w' => e = .returned (.bool true) ∧ Below w.heap.size w w' := by
  go_enter Try.func10, Try.ntmps10
  go_wp2_with fail
  refine (specRectangleShape_law a1 a2 _ ).mono ?_
  rintro e w1 ⟨⟨zr, rfl, zro⟩, hb⟩
  have B1 : Below w.heap.size w w1 := by (repeat (first | exact Below.refl _ _ | refine Below.setCell ?_ (by first | (simp; done) | (simp; omega) | omega) _ | refine belowN ?_ _ | refine Below.drew ?_ | refine Below.alloc ?_ (by first | (simp; done) | (simp; omega) | omega) _ | refine Below.trans ?_ (Below.mono (by assumption) (by first | (simp; done) | (simp; omega) | omega))))
  have s1 : w.heap.size ≤ w1.heap.size := B1.size
  clear hb  
  obtain ⟨zra, zrn, zrc, rfl⟩ := zro.qs.shape
  have VS := Lib.hid zro.qs
  clear zro
  go_wp2_with fail
  refine (implRectangleShape_law a1 a2 _ ).mono ?_
  rintro e w2 ⟨⟨gr, rfl, gro⟩, hb⟩
  have q2 : Below w1.heap.size w1 w2 := by (repeat (first | exact Below.refl _ _ | refine Below.setCell ?_ (by first | (simp; done) | (simp; omega) | omega) _ | refine belowN ?_ _ | refine Below.drew ?_ | refine Below.alloc ?_ (by first | (simp; done) | (simp; omega) | omega) _ | refine Below.trans ?_ (Below.mono (by assumption) (by first | (simp; done) | (simp; omega) | omega))))
  have s2 : w1.heap.size ≤ w2.heap.size := q2.size
  have B2 : Below w.heap.size w w2 := B1.trans (q2.mono (by omega))
  have C2 := Lib.hid q2
  clear hb q2 
  obtain ⟨gra, grn, grc, rfl⟩ := gro.qs.shape
  have U_2 := Lib.hid (OwnQ.mono (lo' := w1.heap.size + 0) (hi' := w2.heap.size) gro (by first | omega | (simp; done) | (simp; omega)) (Nat.le_refl _))
  clear gro
  have hsR : ((rcR a1 a2)).n ≤ 1048576 := smallRectangleShape 
  go_wp2_with fail
  refine (eqPointS_yes _ _ (rcR a1 a2) _ (U_2.out.qs.below (by (repeat (first | exact Below.refl _ _ | refine Below.setCell ?_ (by first | (simp; done) | (simp; omega) | omega) _ | refine belowN ?_ _ | refine Below.drew ?_ | refine Below.alloc ?_ (by first | (simp; done) | (simp; omega) | omega) _ | refine Below.trans ?_ (Below.mono (by assumption) (by first | (simp; done) | (simp; omega) | omega)))))) ((VS.out.below C2.out).below (by (repeat (first | exact Below.refl _ _ | refine Below.setCell ?_ (by first | (simp; done) | (simp; omega) | omega) _ | refine belowN ?_ _ | refine Below.drew ?_ | refine Below.alloc ?_ (by first | (simp; done) | (simp; omega) | omega) _ | refine Below.trans ?_ (Below.mono (by assumption) (by first | (simp; done) | (simp; omega) | omega))))))).mono ?_
  rintro e w3 ⟨rfl, hb⟩
  have q3 : Below w2.heap.size w2 w3 := by (repeat (first | exact Below.refl _ _ | refine Below.setCell ?_ (by first | (simp; done) | (simp; omega) | omega) _ | refine belowN ?_ _ | refine Below.drew ?_ | refine Below.alloc ?_ (by first | (simp; done) | (simp; omega) | omega) _ | refine Below.trans ?_ (Below.mono (by assumption) (by first | (simp; done) | (simp; omega) | omega))))
  have s3 : w2.heap.size ≤ w3.heap.size := q3.size
  have B3 : Below w.heap.size w w3 := B2.trans (q3.mono (by omega))
  have C3 := Lib.hid (C2.out.trans (q3.mono (by omega)))
  have U_3 := Lib.hid (U_2.out.below q3)
  clear hb q3 
  go_wp2_with fail
  refine (markPointS_one (w1.heap.size + 0) w2.heap.size _ (rcR a1 a2) _ U_3.out hsR (by omega)).mono ?_
  rintro e w4 ⟨rfl, hu, hw⟩
  have s4 : w3.heap.size ≤ w4.heap.size := hw.size
  have B4 : Below w.heap.size w w4 := B3.trans (hw.belowK (by omega) (by omega))
  have C4 := Lib.hid (C3.out.trans (hw.belowK (by omega) (by omega)))
  have U_4 := Lib.hid hu
  clear hw hu 
  have bi : decide (((mkE 2 (rcR a1 a2).n 1 : Nat) : Int) < 0) = false := by simp
  go_wp2_with fail
  refine (heldPointS_one _ (rcR a1 a2).n _ U_4.out hsR).mono ?_
  rintro e w5 ⟨rfl, hb⟩
  have q5 : Below w4.heap.size w4 w5 := by (repeat (first | exact Below.refl _ _ | refine Below.setCell ?_ (by first | (simp; done) | (simp; omega) | omega) _ | refine belowN ?_ _ | refine Below.drew ?_ | refine Below.alloc ?_ (by first | (simp; done) | (simp; omega) | omega) _ | refine Below.trans ?_ (Below.mono (by assumption) (by first | (simp; done) | (simp; omega) | omega))))
  have s5 : w4.heap.size ≤ w5.heap.size := q5.size
  have B5 : Below w.heap.size w w5 := B4.trans (q5.mono (by omega))
  have C5 := Lib.hid (C4.out.trans (q5.mono (by omega)))
  have U_5 := Lib.hid (U_4.out.below q5)
  clear hb q5 
  go_wp2_with fail
  refine (implRectangleShape_law a1 a2 _ ).mono ?_
  rintro e w6 ⟨⟨hr, rfl, hro⟩, hb⟩
  have q6 : Below w5.heap.size w5 w6 := by (repeat (first | exact Below.refl _ _ | refine Below.setCell ?_ (by first | (simp; done) | (simp; omega) | omega) _ | refine belowN ?_ _ | refine Below.drew ?_ | refine Below.alloc ?_ (by first | (simp; done) | (simp; omega) | omega) _ | refine Below.trans ?_ (Below.mono (by assumption) (by first | (simp; done) | (simp; omega) | omega))))
  have s6 : w5.heap.size ≤ w6.heap.size := q6.size
  have B6 : Below w.heap.size w w6 := B5.trans (q6.mono (by omega))
  have C6 := Lib.hid (C5.out.trans (q6.mono (by omega)))
  have U_6 := Lib.hid (U_5.out.below q6)
  clear hb q6 
  obtain ⟨hra, hrn, hrc, rfl⟩ := hro.qs.shape
  have HI := Lib.hid hro.qs
  clear hro
  go_wp2_with fail
  refine (eqPointS_yes _ _ (rcR a1 a2) _ (HI.out.below (by (repeat (first | exact Below.refl _ _ | refine Below.setCell ?_ (by first | (simp; done) | (simp; omega) | omega) _ | refine belowN ?_ _ | refine Below.drew ?_ | refine Below.alloc ?_ (by first | (simp; done) | (simp; omega) | omega) _ | refine Below.trans ?_ (Below.mono (by assumption) (by first | (simp; done) | (simp; omega) | omega)))))) ((VS.out.below C6.out).below (by (repeat (first | exact Below.refl _ _ | refine Below.setCell ?_ (by first | (simp; done) | (simp; omega) | omega) _ | refine belowN ?_ _ | refine Below.drew ?_ | refine Below.alloc ?_ (by first | (simp; done) | (simp; omega) | omega) _ | refine Below.trans ?_ (Below.mono (by assumption) (by first | (simp; done) | (simp; omega) | omega))))))).mono ?_
  rintro e w7 ⟨rfl, hb⟩
  have q7 : Below w6.heap.size w6 w7 := by (repeat (first | exact Below.refl _ _ | refine Below.setCell ?_ (by first | (simp; done) | (simp; omega) | omega) _ | refine belowN ?_ _ | refine Below.drew ?_ | refine Below.alloc ?_ (by first | (simp; done) | (simp; omega) | omega) _ | refine Below.trans ?_ (Below.mono (by assumption) (by first | (simp; done) | (simp; omega) | omega))))
  have s7 : w6.heap.size ≤ w7.heap.size := q7.size
  have B7 : Below w.heap.size w w7 := B6.trans (q7.mono (by omega))
  have C7 := Lib.hid (C6.out.trans (q7.mono (by omega)))
  have U_7 := Lib.hid (U_6.out.below q7)
  clear hb q7 
  go_wp2_with fail
  refine (heldPointS_one _ (rcR a1 a2).n _ U_7.out hsR).mono ?_
  rintro e w8 ⟨rfl, hb⟩
  have q8 : Below w7.heap.size w7 w8 := by (repeat (first | exact Below.refl _ _ | refine Below.setCell ?_ (by first | (simp; done) | (simp; omega) | omega) _ | refine belowN ?_ _ | refine Below.drew ?_ | refine Below.alloc ?_ (by first | (simp; done) | (simp; omega) | omega) _ | refine Below.trans ?_ (Below.mono (by assumption) (by first | (simp; done) | (simp; omega) | omega))))
  have s8 : w7.heap.size ≤ w8.heap.size := q8.size
  have B8 : Below w.heap.size w w8 := B7.trans (q8.mono (by omega))
  have C8 := Lib.hid (C7.out.trans (q8.mono (by omega)))
  have U_8 := Lib.hid (U_7.out.below q8)
  clear hb q8 
  go_wp2_with fail
  go_ret
  exact ⟨rfl, B8⟩

namespace fnExactRectangleShape
open Go.ChangeShapes Go.WideShapes Go.ChangeAt Go.RowKit Go.Joins
open Go.ChangeMaps (open_string shut_string)
theorem own : ownKnob Try.prog.godebug = none := by kernel_rfl
theorem laidOut : laidOutB Try.prog = true := by kernel_rfl
theorem readable : (Try.f10.params.toList.all fun t => Try.prog.readableRec t && decide (t < Try.prog.types.size)) = true := by kernel_rfl
set_option maxRecDepth 100000 in
set_option linter.unusedVariables false in
theorem contract (H : Type) (enc : TypeId × Value → H) (W : World) (base : Nat) (args : Array Value) (ds gs : List (DataW H)) (before : List MemPlace)
    (hval : ∀ (j : Nat) t v, Try.f10.params[j]? = some t → args[j]? = some v → Value.okWide Try.prog W .any base t v)
    (hW : DataW.Whole enc Try.prog Try.f10.params.toList Rows.fnExactRectangleShapeSpec.vars false W args.toList ds gs before) :
    Calls Try.prog 10 args W fun e W' => ∃ v, e = .returned v ∧ Rows.fnExactRectangleShapeSpec.post enc Try.prog Try.f10 false true false false W args v W' := by
  have hW' := hW
  obtain ⟨p, q, hA0, hV, rfl, hfz, hnd⟩ := hW
  have hA : DataW.TrodAll enc Try.prog W 0 (fun _ => true) true Try.f10.params.toList args.toList ds p := hA0
  rw [Try.params10] at hA hval
  obtain ⟨v0, vs0, d0, ds0, p0, q0, ha0, rfl, rfl, h0, r0⟩ := trodAll_cons hA
  obtain ⟨v1, vs1, d1, ds1, p1, q1, ha1, rfl, rfl, h1, r1⟩ := trodAll_cons r0
  obtain ⟨rfl, rfl, rfl⟩ := trodAll_nil r1
  obtain rfl : args = #[v0, v1] := by cases args; simp_all
  obtain ⟨rfl, rfl⟩ := trodVars_none hV
  obtain ⟨a0, rfl, rfl, rfl, w0⟩ := open_int Try.underlying2 (hval 0 2 v0 rfl rfl) h0
  obtain ⟨a1, rfl, rfl, rfl, w1⟩ := open_int Try.underlying2 (hval 1 2 v1 rfl rfl) h1
  refine (walk_FnExactRectangleShape a0 a1 W w0 w1).mono fun e W' ⟨he, hg⟩ => ?_
  subst he
  exact ⟨_, rfl, post_mem laidOut readable hW' (fun _ _ _ => (trodAll_cons_mk (shut_bool Try.underlying4 _) trodAll_mk0)) hA0 rfl rfl (by simp) hg⟩
set_option maxRecDepth 100000 in
theorem lifted (os : Os) (started : os.Started) (H : Type) (enc : TypeId × Value → H) :
    ReturnsInHanded {} Try.checked os 10 .any (Rows.fnExactRectangleShapeSpec.pre6 enc Try.prog Try.f10 Rows.fnExactRectangleShapeRow.domain false) (Rows.fnExactRectangleShapeSpec.post enc Try.prog Try.f10 false true false false) := by
  refine returnsInHanded_of_change (C := Try.checked) own started (by kernel_rfl) Try.func10
    (ChangeSpec.witness6 (enc := enc) (C := Try.checked) false ⟨#[], #[.int .i64 0, .int .i64 0], []⟩ 8 (by kernel_rfl) (by kernel_rfl) (by kernel_rfl) (by kernel_rfl)) ?_
  intro W base args ds gs before hval hW _ _
  exact contract H enc W base args ds gs before hval hW
end fnExactRectangleShape
theorem fnExactRectangleShape_holds : Rows.FnExactRectangleShapeSaid :=
  OpenClaim.holds_of_wide 10 Try.f10 rfl rfl rfl rfl rfl rfl rfl ⟨rfl, rfl, rfl, rfl, rfl⟩ rfl rfl rfl rfl rfl (by kernel_rfl) Try.func10 (by kernel_rfl)
    (of_decide_eq_true (by kernel_rfl)) (by unfold Func.isWrapper; first | (rw [if_pos (by decide +kernel)]; kernel_rfl) | (rw [if_neg (by decide +kernel)]; exact ⟨rfl, rfl⟩))
    (fun os started H enc _ => fnExactRectangleShape.lifted os started H enc)
end Go.Proofs.Ytaeaflbmaokieaa
