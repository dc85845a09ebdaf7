/-
  For every pair of numbers, MakeFrac of the program answers as the model's, every field; the law FnExactMakeFrac returns true and leaves its arguments as they were. Conditions: none.
-/
import Derived.Test.YtmleplkamnihcaaLaw
namespace Go.Proofs.Ytmleplkamnihcaa
open Go.RowKit

def makeB (n d : Int) : Bool := inB n (-1000000000) 1000000000 && inB d (-1000000000) 1000000000 && !(d == 0)
def make1 (n d : Int) : Int := if makeB n d = true then mk1 n d else 0
def make2 (n d : Int) : Int := if makeB n d = true then mk2 n d else 0
def make3 (n d : Int) : Int := if makeB n d = true then mk3 n d else 2

theorem specMake_no1 (n d : Int) (w : World) (h1 : inB n (-1000000000) 1000000000 = false) : Calls Try.prog 26 #[.int .i64 n, .int .i64 d] w fun e w' => e = .returned (.tuple #[.agg #[.int .i64 (make1 n d), .int .i64 (make2 n d)], .int .i64 (make3 n d)]) ∧ Below w.heap.size w w' := by
  have K : Hid (make1 n d = 0 ∧ make2 n d = 0 ∧ make3 n d = 2) := Lib.hid (by unfold make1 make2 make3 makeB; simp [h1])
  go_enter Try.func26, Try.ntmps26
  go_wp2_with (go_at_call 49; refine (l00In_any _ _ _ _).mono ?_; rintro e w' ⟨rfl, rfl⟩)
  refine bodyPost_ret (v := .tuple #[.agg #[.int .i64 0, .int .i64 0], .int .i64 2]) (by simp [results, Try.results26, go_sem]) rfl ⟨?_, ?_⟩
  · rw [K.out.1, K.out.2.1, K.out.2.2]
  · (repeat (first | exact Below.refl _ _ | refine Below.setCell ?_ (by first | (simp; done) | (simp; omega) | omega) _ | refine belowN ?_ _ | refine Below.drew ?_ | refine Below.alloc ?_ (by first | (simp; done) | (simp; omega) | omega) _ | refine Below.trans ?_ (Below.mono (by assumption) (by first | (simp; done) | (simp; omega) | omega))))

theorem specMake_no2 (n d : Int) (w : World) (h1 : inB n (-1000000000) 1000000000 = true) (h2 : inB d (-1000000000) 1000000000 = false) : Calls Try.prog 26 #[.int .i64 n, .int .i64 d] w fun e w' => e = .returned (.tuple #[.agg #[.int .i64 (make1 n d), .int .i64 (make2 n d)], .int .i64 (make3 n d)]) ∧ Below w.heap.size w w' := by
  have K : Hid (make1 n d = 0 ∧ make2 n d = 0 ∧ make3 n d = 2) := Lib.hid (by unfold make1 make2 make3 makeB; simp [h2])
  go_enter Try.func26, Try.ntmps26
  go_wp2_with (go_at_call 49; refine (l00In_any _ _ _ _).mono ?_; rintro e w' ⟨rfl, rfl⟩)
  refine bodyPost_ret (v := .tuple #[.agg #[.int .i64 0, .int .i64 0], .int .i64 2]) (by simp [results, Try.results26, go_sem]) rfl ⟨?_, ?_⟩
  · rw [K.out.1, K.out.2.1, K.out.2.2]
  · (repeat (first | exact Below.refl _ _ | refine Below.setCell ?_ (by first | (simp; done) | (simp; omega) | omega) _ | refine belowN ?_ _ | refine Below.drew ?_ | refine Below.alloc ?_ (by first | (simp; done) | (simp; omega) | omega) _ | refine Below.trans ?_ (Below.mono (by assumption) (by first | (simp; done) | (simp; omega) | omega))))

theorem specMake_no3 (n : Int) (w : World) (h1 : inB n (-1000000000) 1000000000 = true) : Calls Try.prog 26 #[.int .i64 n, .int .i64 0] w fun e w' => e = .returned (.tuple #[.agg #[.int .i64 (make1 n 0), .int .i64 (make2 n 0)], .int .i64 (make3 n 0)]) ∧ Below w.heap.size w w' := by
  have h2 : inB 0 (-1000000000) 1000000000 = true := inB_yes (by omega) (by omega)
  have K : Hid (make1 n 0 = 0 ∧ make2 n 0 = 0 ∧ make3 n 0 = 2) := Lib.hid (by unfold make1 make2 make3 makeB; simp)
  go_enter Try.func26, Try.ntmps26
  go_wp2_with (go_at_call 49; refine (l00In_any _ _ _ _).mono ?_; rintro e w' ⟨rfl, rfl⟩)
  refine bodyPost_ret (v := .tuple #[.agg #[.int .i64 0, .int .i64 0], .int .i64 2]) (by simp [results, Try.results26, go_sem]) rfl ⟨?_, ?_⟩
  · rw [K.out.1, K.out.2.1, K.out.2.2]
  · (repeat (first | exact Below.refl _ _ | refine Below.setCell ?_ (by first | (simp; done) | (simp; omega) | omega) _ | refine belowN ?_ _ | refine Below.drew ?_ | refine Below.alloc ?_ (by first | (simp; done) | (simp; omega) | omega) _ | refine Below.trans ?_ (Below.mono (by assumption) (by first | (simp; done) | (simp; omega) | omega))))

theorem specMake_yes (n d : Int) (w : World) (h1 : inB n (-1000000000) 1000000000 = true) (h2 : inB d (-1000000000) 1000000000 = true) (h3 : (d == 0) = false) : Calls Try.prog 26 #[.int .i64 n, .int .i64 d] w fun e w' => e = .returned (.tuple #[.agg #[.int .i64 (make1 n d), .int .i64 (make2 n d)], .int .i64 (make3 n d)]) ∧ Below w.heap.size w w' := by
  have K : Hid (make1 n d = mk1 n d ∧ make2 n d = mk2 n d ∧ make3 n d = mk3 n d) := Lib.hid (by unfold make1 make2 make3 makeB; simp [h1, h2, h3])
  obtain ⟨f1, f2⟩ := inB_iff.1 h1
  obtain ⟨f3, f4⟩ := inB_iff.1 h2
  have f5 : d ≠ 0 := by simpa using h3
  go_enter Try.func26, Try.ntmps26
  go_wp2_with (first | (go_at_call 49; refine (l00In_any _ _ _ _).mono ?_; rintro e w' ⟨rfl, rfl⟩) | (go_at_call 50; fail))
  refine (l01Make_any n d _ f5 (by omega) (by omega) (by omega) (by omega)).mono ?_
  rintro e w1 ⟨rfl, hb1⟩
  obtain ⟨c4, c5, z4, z5⟩ := Two.below (b := w.heap.size) (x := .int .i64 0) (y := .int .i64 0) ⟨by simp [go_sem], by simp [go_sem], by simp [go_sem], by simp [go_sem]⟩ hb1
  go_wp2
  refine bodyPost_ret (v := .tuple #[.agg #[.int .i64 (mk1 n d), .int .i64 (mk2 n d)], .int .i64 (mk3 n d)]) (by simp [results, Try.results26, go_sem, c4, c5]) rfl ⟨?_, ?_⟩
  · rw [K.out.1, K.out.2.1, K.out.2.2]
  · (repeat (first | exact Below.refl _ _ | refine Below.setCell ?_ (by first | (simp; done) | (simp; omega) | omega) _ | refine belowN ?_ _ | refine Below.drew ?_ | refine Below.alloc ?_ (by first | (simp; done) | (simp; omega) | omega) _ | refine Below.trans ?_ (Below.mono (by assumption) (by first | (simp; done) | (simp; omega) | omega))))

theorem specMake_any (n d : Int) (w : World) : Calls Try.prog 26 #[.int .i64 n, .int .i64 d] w fun e w' => e = .returned (.tuple #[.agg #[.int .i64 (make1 n d), .int .i64 (make2 n d)], .int .i64 (make3 n d)]) ∧ Below w.heap.size w w' := by
  cases h1 : inB n (-1000000000) 1000000000
  · exact specMake_no1 n d w h1
  · cases h2 : inB d (-1000000000) 1000000000
    · exact specMake_no2 n d w h1 h2
    · by_cases h3 : d = 0
      · subst h3; exact specMake_no3 n w h1
      · exact specMake_yes n d w h1 h2 (by simpa using h3)

theorem implMake_no1 (n d : Int) (w : World) (h1 : inB n (-1000000000) 1000000000 = false) : Calls Try.prog 27 #[.int .i64 n, .int .i64 d] w fun e w' => e = .returned (.tuple #[.agg #[.int .i64 (make1 n d), .int .i64 (make2 n d)], .int .i64 (make3 n d)]) ∧ Below w.heap.size w w' := by
  have K : Hid (make1 n d = 0 ∧ make2 n d = 0 ∧ make3 n d = 2) := Lib.hid (by unfold make1 make2 make3 makeB; simp [h1])
  go_enter Try.func27, Try.ntmps27
  go_wp2_with (go_at_call 51; refine (withinFrac_any _ _).mono ?_; rintro e w' ⟨rfl, rfl⟩)
  refine bodyPost_ret (v := .tuple #[.agg #[.int .i64 0, .int .i64 0], .int .i64 2]) (by simp [results, Try.results27, go_sem]) rfl ⟨?_, ?_⟩
  · rw [K.out.1, K.out.2.1, K.out.2.2]
  · (repeat (first | exact Below.refl _ _ | refine Below.setCell ?_ (by first | (simp; done) | (simp; omega) | omega) _ | refine belowN ?_ _ | refine Below.drew ?_ | refine Below.alloc ?_ (by first | (simp; done) | (simp; omega) | omega) _ | refine Below.trans ?_ (Below.mono (by assumption) (by first | (simp; done) | (simp; omega) | omega))))

theorem implMake_no2 (n d : Int) (w : World) (h1 : inB n (-1000000000) 1000000000 = true) (h2 : inB d (-1000000000) 1000000000 = false) : Calls Try.prog 27 #[.int .i64 n, .int .i64 d] w fun e w' => e = .returned (.tuple #[.agg #[.int .i64 (make1 n d), .int .i64 (make2 n d)], .int .i64 (make3 n d)]) ∧ Below w.heap.size w w' := by
  have K : Hid (make1 n d = 0 ∧ make2 n d = 0 ∧ make3 n d = 2) := Lib.hid (by unfold make1 make2 make3 makeB; simp [h2])
  go_enter Try.func27, Try.ntmps27
  go_wp2_with (go_at_call 51; refine (withinFrac_any _ _).mono ?_; rintro e w' ⟨rfl, rfl⟩)
  refine bodyPost_ret (v := .tuple #[.agg #[.int .i64 0, .int .i64 0], .int .i64 2]) (by simp [results, Try.results27, go_sem]) rfl ⟨?_, ?_⟩
  · rw [K.out.1, K.out.2.1, K.out.2.2]
  · (repeat (first | exact Below.refl _ _ | refine Below.setCell ?_ (by first | (simp; done) | (simp; omega) | omega) _ | refine belowN ?_ _ | refine Below.drew ?_ | refine Below.alloc ?_ (by first | (simp; done) | (simp; omega) | omega) _ | refine Below.trans ?_ (Below.mono (by assumption) (by first | (simp; done) | (simp; omega) | omega))))

theorem implMake_no3 (n : Int) (w : World) (h1 : inB n (-1000000000) 1000000000 = true) : Calls Try.prog 27 #[.int .i64 n, .int .i64 0] w fun e w' => e = .returned (.tuple #[.agg #[.int .i64 (make1 n 0), .int .i64 (make2 n 0)], .int .i64 (make3 n 0)]) ∧ Below w.heap.size w w' := by
  have h2 : inB 0 (-1000000000) 1000000000 = true := inB_yes (by omega) (by omega)
  have K : Hid (make1 n 0 = 0 ∧ make2 n 0 = 0 ∧ make3 n 0 = 2) := Lib.hid (by unfold make1 make2 make3 makeB; simp)
  go_enter Try.func27, Try.ntmps27
  go_wp2_with (go_at_call 51; refine (withinFrac_any _ _).mono ?_; rintro e w' ⟨rfl, rfl⟩)
  refine bodyPost_ret (v := .tuple #[.agg #[.int .i64 0, .int .i64 0], .int .i64 2]) (by simp [results, Try.results27, go_sem]) rfl ⟨?_, ?_⟩
  · rw [K.out.1, K.out.2.1, K.out.2.2]
  · (repeat (first | exact Below.refl _ _ | refine Below.setCell ?_ (by first | (simp; done) | (simp; omega) | omega) _ | refine belowN ?_ _ | refine Below.drew ?_ | refine Below.alloc ?_ (by first | (simp; done) | (simp; omega) | omega) _ | refine Below.trans ?_ (Below.mono (by assumption) (by first | (simp; done) | (simp; omega) | omega))))

theorem implMake_yes (n d : Int) (w : World) (h1 : inB n (-1000000000) 1000000000 = true) (h2 : inB d (-1000000000) 1000000000 = true) (h3 : (d == 0) = false) : Calls Try.prog 27 #[.int .i64 n, .int .i64 d] w fun e w' => e = .returned (.tuple #[.agg #[.int .i64 (make1 n d), .int .i64 (make2 n d)], .int .i64 (make3 n d)]) ∧ Below w.heap.size w w' := by
  have K : Hid (make1 n d = mk1 n d ∧ make2 n d = mk2 n d ∧ make3 n d = mk3 n d) := Lib.hid (by unfold make1 make2 make3 makeB; simp [h1, h2, h3])
  obtain ⟨f1, f2⟩ := inB_iff.1 h1
  obtain ⟨f3, f4⟩ := inB_iff.1 h2
  have f5 : d ≠ 0 := by simpa using h3
  go_enter Try.func27, Try.ntmps27
  go_wp2_with (first | (go_at_call 51; refine (withinFrac_any _ _).mono ?_; rintro e w' ⟨rfl, rfl⟩) | (go_at_call 52; fail))
  refine (lowestTerms_any n d _ f5 (by omega) (by omega) (by omega) (by omega)).mono ?_
  rintro e w1 ⟨rfl, hb1⟩
  obtain ⟨c4, c5, z4, z5⟩ := Two.below (b := w.heap.size) (x := .int .i64 0) (y := .int .i64 0) ⟨by simp [go_sem], by simp [go_sem], by simp [go_sem], by simp [go_sem]⟩ hb1
  go_wp2
  refine bodyPost_ret (v := .tuple #[.agg #[.int .i64 (mk1 n d), .int .i64 (mk2 n d)], .int .i64 (mk3 n d)]) (by simp [results, Try.results27, go_sem, c4, c5]) rfl ⟨?_, ?_⟩
  · rw [K.out.1, K.out.2.1, K.out.2.2]
  · (repeat (first | exact Below.refl _ _ | refine Below.setCell ?_ (by first | (simp; done) | (simp; omega) | omega) _ | refine belowN ?_ _ | refine Below.drew ?_ | refine Below.alloc ?_ (by first | (simp; done) | (simp; omega) | omega) _ | refine Below.trans ?_ (Below.mono (by assumption) (by first | (simp; done) | (simp; omega) | omega))))

theorem implMake_any (n d : Int) (w : World) : Calls Try.prog 27 #[.int .i64 n, .int .i64 d] w fun e w' => e = .returned (.tuple #[.agg #[.int .i64 (make1 n d), .int .i64 (make2 n d)], .int .i64 (make3 n d)]) ∧ Below w.heap.size w w' := by
  cases h1 : inB n (-1000000000) 1000000000
  · exact implMake_no1 n d w h1
  · cases h2 : inB d (-1000000000) 1000000000
    · exact implMake_no2 n d w h1 h2
    · by_cases h3 : d = 0
      · subst h3; exact implMake_no3 n w h1
      · exact implMake_yes n d w h1 h2 (by simpa using h3)


theorem walk_FnExactMakeFrac (n : Int) (d : Int) (_w0 : (Lit.int .i64 n).wf = true) (_w1 : (Lit.int .i64 d).wf = true) (w : World) :
    Calls Try.prog 8 #[.int .i64 n, .int .i64 d] w fun e w' => e = .returned (.bool true) ∧ Below w.heap.size w w' := by
  go_enter Try.func8, Try.ntmps8
  go_wp2_with fail
  refine (specMake_any n d _).mono ?_
  rintro e w1 ⟨rfl, hb1⟩
  have s1 := hb1.size
  go_wp2_with fail
  refine (implMake_any n d _).mono ?_
  rintro e w2 ⟨rfl, hb2⟩
  obtain ⟨c4, c5, z4, z5⟩ := Two.below (b := w1.heap.size) (x := .int .i64 (make1 n d)) (y := .int .i64 (make2 n d)) ⟨by simp [go_sem], by simp [go_sem], by simp [go_sem], by simp [go_sem]⟩ hb2
  have s2 : w1.heap.size < w2.heap.size := by have := hb2.size; simp at this; omega
  go_wp2_with fail
  refine (eqFrac_yes _ _ _).mono ?_
  rintro e w5 ⟨rfl, hb5⟩
  have s5 := hb5.size
  go_wp2
  go_ret
  exact ⟨rfl, by (repeat (first | exact Below.refl _ _ | refine Below.setCell ?_ (by first | (simp; done) | (simp; omega) | omega) _ | refine belowN ?_ _ | refine Below.drew ?_ | refine Below.alloc ?_ (by first | (simp; done) | (simp; omega) | omega) _ | refine Below.trans ?_ (Below.mono (by assumption) (by first | (simp; done) | (simp; omega) | omega))))⟩

namespace fnExactMakeFrac
open Go.ChangeShapes Go.WideShapes Go.ChangeAt Go.RowKit Go.Joins
open Go.ChangeMaps (open_string shut_string)
theorem own : ownKnob Try.prog.godebug = none := by kernel_rfl
set_option linter.unusedVariables false in
theorem contract (H : Type) (enc : TypeId × Value → H) (W : World) (base : Nat) (args : Array Value) (ds gs : List (DataW H)) (before : List MemPlace)
    (hval : ∀ (j : Nat) t v, Try.f8.params[j]? = some t → args[j]? = some v → Value.okWide Try.prog W .any base t v)
    (hW : DataW.Whole enc Try.prog Try.f8.params.toList Rows.fnExactMakeFracSpec.vars false W args.toList ds gs before) :
    Calls Try.prog 8 args W fun e W' => ∃ v, e = .returned v ∧ Rows.fnExactMakeFracSpec.post enc Try.prog Try.f8 false true false false W args v W' := by
  have hW' := hW
  obtain ⟨p, q, hA0, hV, rfl, hfz, hnd⟩ := hW
  have hA : DataW.TrodAll enc Try.prog W 0 (fun _ => true) true Try.f8.params.toList args.toList ds p := hA0
  rw [Try.params8] at hA hval
  obtain ⟨v0, vs0, d0, ds0, p0, q0, ha0, rfl, rfl, h0, r0⟩ := trodAll_cons hA
  obtain ⟨v1, vs1, d1, ds1, p1, q1, ha1, rfl, rfl, h1, r1⟩ := trodAll_cons r0
  obtain ⟨rfl, rfl, rfl⟩ := trodAll_nil r1
  obtain rfl : args = #[v0, v1] := by cases args; simp_all
  obtain ⟨rfl, rfl⟩ := trodVars_none hV
  obtain ⟨a0, rfl, rfl, rfl, w0⟩ := open_int Try.underlying2 (hval 0 2 v0 rfl rfl) h0
  obtain ⟨a1, rfl, rfl, rfl, w1⟩ := open_int Try.underlying2 (hval 1 2 v1 rfl rfl) h1
  clear hA0
  simp only [List.append_nil] at hW'
  refine (walk_FnExactMakeFrac a0 a1 w0 w1 W).mono fun e W' ⟨he, hg⟩ => ?_
  subst he
  exact ⟨_, rfl, post_law (pa := []) (pv := []) hW' (fun _ _ _ => (trodAll_cons_mk (shut_bool Try.underlying4 _) trodAll_mk0)) (fun sp _ => (trodAll_cons_mk (shut_int Try.underlying2 w0) (trodAll_cons_mk (shut_int Try.underlying2 w1) trodAll_mk0))) (fun _ _ => rfl) rfl hg⟩
set_option maxRecDepth 100000 in
theorem lifted (os : Os) (started : os.Started) (H : Type) (enc : TypeId × Value → H) :
    ReturnsInHanded {} Try.checked os 8 .any (Rows.fnExactMakeFracSpec.pre6 enc Try.prog Try.f8 Rows.fnExactMakeFracRow.domain false) (Rows.fnExactMakeFracSpec.post enc Try.prog Try.f8 false true false false) := by
  refine returnsInHanded_of_change (C := Try.checked) own started (by kernel_rfl) Try.func8
    (ChangeSpec.witness6 (enc := enc) (C := Try.checked) false ⟨#[], #[.int .i64 0, .int .i64 0], []⟩ 8 (by kernel_rfl) (by kernel_rfl) (by kernel_rfl) (by kernel_rfl)) ?_
  intro W base args ds gs before hval hW _ _
  exact contract H enc W base args ds gs before hval hW
end fnExactMakeFrac
theorem fnExactMakeFrac_holds : Rows.FnExactMakeFracSaid :=
  OpenClaim.holds_of_wide 8 Try.f8 rfl rfl rfl rfl rfl rfl rfl ⟨rfl, rfl, rfl, rfl, rfl⟩ rfl rfl rfl rfl rfl (by kernel_rfl) Try.func8 (by kernel_rfl)
    (of_decide_eq_true (by kernel_rfl)) (by unfold Func.isWrapper; first | (rw [if_pos (by decide +kernel)]; kernel_rfl) | (rw [if_neg (by decide +kernel)]; exact ⟨rfl, rfl⟩))
    (fun os started H enc _ => fnExactMakeFrac.lifted os started H enc)
end Go.Proofs.Ytmleplkamnihcaa
