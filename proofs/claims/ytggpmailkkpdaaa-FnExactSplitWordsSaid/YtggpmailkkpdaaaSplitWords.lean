/-
  For every string, SplitWords of the program answers as the model's, in memory of its own; the law FnExactSplitWords returns true and leaves its argument as it was. Conditions: none.
-/
import Derived.Test.YtggpmailkkpdaaaSplW
namespace Go.Proofs.Ytggpmailkkpdaaa
open Go.RowKit

set_option maxHeartbeats 1000000 in
theorem walk_FnExactSplitWords (s : ByteArray) (ws : s.size ≤ maxLen) (w : World) :
    Calls Try.prog 6 #[.string s] w fun e w' => e = .returned (.bool true) ∧ Below w.heap.size w w' := by
  unfold maxLen at ws
  by_cases h : 1048576 < s.size
  · have h' : (1048576 : Int) < s.size := by omega
    go_enter Try.func6, Try.ntmps6
    go_wp2
    go_ret
    exact ⟨rfl, Below.refl _ _⟩
  · have h' : ¬ (1048576 : Int) < s.size := by omega
    have hln := wds_len s
    have hl2 : (wds s).length ≤ 2097152 := by omega
    have R1 := fun w => specSplitWords_any s w (by omega)
    have R2 := fun w => implSplitWords_any s w (by omega)
    generalize wds s = xs at *
    go_enter Try.func6, Try.ntmps6
    go_wp2_with fail
    refine (R1 _).mono ?_
    rintro e w1 ⟨⟨v0, b0, rfl, -, hv0⟩, B1⟩
    have V1 := Lib.hid hv0.strs
    have s1 := B1.size
    clear hv0
    go_wp2_with fail
    refine (R2 _).mono ?_
    rintro e w2 ⟨⟨u0, bu, rfl, hbu, hu0⟩, C2⟩
    have B2 : Below w.heap.size w w2 := B1.trans (C2.mono (by omega))
    have s2 : w1.heap.size ≤ w2.heap.size := C2.size
    have V2 := Lib.hid (V1.out.below C2)
    have U2 := Lib.hid hu0
    clear hu0
    go_wp2_with fail
    refine (eqStringS_yes u0 v0 xs _ U2.out.strs V2.out).mono ?_
    rintro e w3 ⟨rfl, q3⟩
    have B3 : Below w.heap.size w w3 := B2.trans (q3.mono (by omega))
    have C3 : Below w1.heap.size w1 w3 := C2.trans (q3.mono (by omega))
    have s3 : w2.heap.size ≤ w3.heap.size := q3.size
    have U3 := Lib.hid (U2.out.below q3)
    clear q3
    go_wp2_with fail
    refine (markStringS_one bu u0 xs _ U3.out hl2).mono ?_
    rintro e w4 ⟨rfl, hu4, hw4⟩
    have U4 := Lib.hid hu4.strs
    have B4 : Below w.heap.size w w4 := B3.trans (hw4.belowK (by omega) (by omega))
    have C4 : Below w1.heap.size w1 w4 := C3.trans (hw4.belowK (by omega) (by omega))
    have s4 : w3.heap.size ≤ w4.heap.size := hw4.size
    have V4 := Lib.hid (V1.out.below C4)
    clear hw4 hu4
    have bi : decide ((wEnd xs.length : Int) < 0) = false := by simp
    go_wp2_with fail
    refine (heldStringS_one u0 xs.length _ U4.out hl2).mono ?_
    rintro e w5 ⟨rfl, q5⟩
    have B5 : Below w.heap.size w w5 := B4.trans (q5.mono (by omega))
    have U5 := Lib.hid (U4.out.below q5)
    have V5 := Lib.hid (V4.out.below q5)
    have s5 : w4.heap.size ≤ w5.heap.size := q5.size
    have C5 : Below w1.heap.size w1 w5 := C4.trans (q5.mono (by omega))
    clear q5
    go_wp2_with fail
    refine (R2 _).mono ?_
    rintro e w6 ⟨⟨h0, bh, rfl, -, hh0⟩, q6⟩
    have B6 : Below w.heap.size w w6 := B5.trans (q6.mono (by omega))
    have U6 := Lib.hid (U5.out.below q6)
    have V6 := Lib.hid (V5.out.below q6)
    have H6 := Lib.hid hh0.strs
    have s6 : w5.heap.size ≤ w6.heap.size := q6.size
    clear q6 hh0
    go_wp2_with fail
    refine (eqStringS_yes h0 v0 xs _ H6.out V6.out).mono ?_
    rintro e w7 ⟨rfl, q7⟩
    have B7 : Below w.heap.size w w7 := B6.trans (q7.mono (by omega))
    have U7 := Lib.hid (U6.out.below q7)
    have s7 : w6.heap.size ≤ w7.heap.size := q7.size
    clear q7
    go_wp2_with fail
    refine (heldStringS_one u0 xs.length _ U7.out hl2).mono ?_
    rintro e w8 ⟨rfl, q8⟩
    have B8 : Below w.heap.size w w8 := B7.trans (q8.mono (by omega))
    go_wp2
    go_ret
    exact ⟨rfl, B8⟩
namespace fnExactSplitWords
open Go.ChangeShapes Go.WideShapes Go.ChangeAt Go.RowKit Go.Joins
open Go.ChangeMaps (open_string shut_string)
theorem own : ownKnob Try.prog.godebug = none := by kernel_rfl
set_option maxRecDepth 100000 in
set_option linter.unusedVariables false in
theorem contract (H : Type) (enc : TypeId × Value → H) (W : World) (base : Nat) (args : Array Value) (ds gs : List (DataW H)) (before : List MemPlace)
    (hval : ∀ (j : Nat) t v, Try.f6.params[j]? = some t → args[j]? = some v → Value.okWide Try.prog W .any base t v)
    (hW : DataW.Whole enc Try.prog Try.f6.params.toList Rows.fnExactSplitWordsSpec.vars false W args.toList ds gs before) :
    Calls Try.prog 6 args W fun e W' => ∃ v, e = .returned v ∧ Rows.fnExactSplitWordsSpec.post enc Try.prog Try.f6 false true false false W args v W' := by
  have hW' := hW
  obtain ⟨p, q, hA0, hV, rfl, hfz, hnd⟩ := hW
  have hA : DataW.TrodAll enc Try.prog W 0 (fun _ => true) true Try.f6.params.toList args.toList ds p := hA0
  rw [Try.params6] at hA hval
  obtain ⟨v0, vs0, d0, ds0, p0, q0, ha0, rfl, rfl, h0, r0⟩ := trodAll_cons hA
  obtain ⟨rfl, rfl, rfl⟩ := trodAll_nil r0
  obtain rfl : args = #[v0] := by cases args; simp_all
  obtain ⟨rfl, rfl⟩ := trodVars_none hV
  obtain ⟨s0, rfl, rfl, rfl, w0⟩ := open_string Try.underlying9 (hval 0 9 v0 rfl rfl) h0
  clear hA0
  simp only [List.append_nil] at hW'
  refine (walk_FnExactSplitWords s0 w0 W).mono fun e W' ⟨he, hg⟩ => ?_
  subst he
  exact ⟨_, rfl, post_law (pa := []) (pv := []) hW' (fun _ _ _ => (trodAll_cons_mk (shut_bool Try.underlying4 _) trodAll_mk0)) (fun sp _ => (trodAll_cons_mk (shut_string Try.underlying9 w0) trodAll_mk0)) (fun _ _ => rfl) rfl hg⟩
set_option maxRecDepth 100000 in
theorem lifted (os : Os) (started : os.Started) (H : Type) (enc : TypeId × Value → H) :
    ReturnsInHanded {} Try.checked os 6 .any (Rows.fnExactSplitWordsSpec.pre6 enc Try.prog Try.f6 Rows.fnExactSplitWordsRow.domain false) (Rows.fnExactSplitWordsSpec.post enc Try.prog Try.f6 false true false false) := by
  refine returnsInHanded_of_change (C := Try.checked) own started (by kernel_rfl) Try.func6
    (ChangeSpec.witness6 (enc := enc) (C := Try.checked) false ⟨#[], #[.string ⟨#[]⟩], []⟩ 8 (by kernel_rfl) (by kernel_rfl) (by kernel_rfl) (by kernel_rfl)) ?_
  intro W base args ds gs before hval hW _ _
  exact contract H enc W base args ds gs before hval hW
end fnExactSplitWords
theorem fnExactSplitWords_holds : Rows.FnExactSplitWordsSaid :=
  OpenClaim.holds_of_wide 6 Try.f6 rfl rfl rfl rfl rfl rfl rfl ⟨rfl, rfl, rfl, rfl, rfl⟩ rfl rfl rfl rfl rfl (by kernel_rfl) Try.func6 (by kernel_rfl)
    (of_decide_eq_true (by kernel_rfl)) (by unfold Func.isWrapper; first | (rw [if_pos (by decide +kernel)]; kernel_rfl) | (rw [if_neg (by decide +kernel)]; exact ⟨rfl, rfl⟩))
    (fun os started H enc _ => fnExactSplitWords.lifted os started H enc)
end Go.Proofs.Ytggpmailkkpdaaa
