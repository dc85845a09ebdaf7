/-
  For every string, SplitLines of the program answers as the model's, in memory of its own; the law FnExactSplitLines returns true and leaves its argument as it was. Condition: the library's listed tables start as its text lays them (the card ties them).
-/
import Derived.Test.YtggpmailkkpdaaaDoorSplL
import Derived.Test.YtggpmailkkpdaaaDoorCard
import Derived.Deep.DeepWitnessRowRef
import Derived.Lay
namespace Go.Proofs.YtggpmailkkpdaaaDoor
open Go.RowKit

set_option maxHeartbeats 1000000 in
theorem walk_FnExactSplitLines (s : ByteArray) (ws : s.size ≤ maxLen) (w : World) (_hL : laidMetH Tryd.prog Rows.fnExactSplitLinesRow.laid w) (hsh : w.ShapedOpen Tryd.prog) :
    Calls Tryd.prog 3 #[.string s] w fun e w' => e = .returned (.bool true) ∧ Below w.heap.size w w' := by
  unfold maxLen at ws
  have HM := Lib.hid (maxI_of hsh)
  clear _hL hsh
  by_cases h : 1048576 < s.size
  · have h' : (1048576 : Int) < s.size := by omega
    go_enter Tryd.func3, Tryd.ntmps3
    go_wp2
    go_ret
    exact ⟨rfl, Below.refl _ _⟩
  · have h' : ¬ (1048576 : Int) < s.size := by omega
    have hln := lns_len s
    have hl2 : (lns s).length ≤ 2097152 := by omega
    have R1 := fun w => specSplitLines_any s w (by omega)
    have R2 := fun w hM => implSplitLines_any s w (by omega) hM
    generalize lns s = xs at *
    go_enter Tryd.func3, Tryd.ntmps3
    go_wp2_with fail
    refine (R1 _).mono ?_
    rintro e w1 ⟨⟨v0, rfl, hv0⟩, B1⟩
    have V1 := Lib.hid hv0
    have s1 := B1.size
    clear hv0
    go_wp2_with fail
    refine (R2 _ (HM.out.below B1)).mono ?_
    rintro e w2 ⟨⟨u0, bu, rfl, hbu, hu0⟩, C2⟩
    have B2 : Below w.heap.size w w2 := B1.trans (C2.mono (by omega))
    have s2 : w1.heap.size ≤ w2.heap.size := C2.size
    have V2 := Lib.hid (V1.out.below C2)
    have U2 := Lib.hid hu0
    clear hu0
    go_wp2_with fail
    refine (eqStringS_yes u0 v0 xs _ U2.out.strs V2.out).mono ?_
    rintro e w3 ⟨rfl, q3⟩
    have B3 : Below w.heap.size w w3 := B2.trans (q3.mono (by omega))
    have C3 : Below w1.heap.size w1 w3 := C2.trans (q3.mono (by omega))
    have s3 : w2.heap.size ≤ w3.heap.size := q3.size
    have U3 := Lib.hid (U2.out.below q3)
    clear q3
    go_wp2_with fail
    refine (markStringS_one bu u0 xs _ U3.out hl2).mono ?_
    rintro e w4 ⟨rfl, hu4, hw4⟩
    have U4 := Lib.hid hu4.strs
    have B4 : Below w.heap.size w w4 := B3.trans (hw4.belowK (by omega) (by omega))
    have C4 : Below w1.heap.size w1 w4 := C3.trans (hw4.belowK (by omega) (by omega))
    have s4 : w3.heap.size ≤ w4.heap.size := hw4.size
    have V4 := Lib.hid (V1.out.below C4)
    clear hw4 hu4
    have bi : decide ((wEnd xs.length : Int) < 0) = false := by simp
    go_wp2_with fail
    refine (heldStringS_one u0 xs.length _ U4.out hl2).mono ?_
    rintro e w5 ⟨rfl, q5⟩
    have B5 : Below w.heap.size w w5 := B4.trans (q5.mono (by omega))
    have U5 := Lib.hid (U4.out.below q5)
    have V5 := Lib.hid (V4.out.below q5)
    have s5 : w4.heap.size ≤ w5.heap.size := q5.size
    have C5 : Below w1.heap.size w1 w5 := C4.trans (q5.mono (by omega))
    clear q5
    go_wp2_with fail
    refine (R2 _ (HM.out.below B5)).mono ?_
    rintro e w6 ⟨⟨h0, bh, rfl, -, hh0⟩, q6⟩
    have B6 : Below w.heap.size w w6 := B5.trans (q6.mono (by omega))
    have U6 := Lib.hid (U5.out.below q6)
    have V6 := Lib.hid (V5.out.below q6)
    have H6 := Lib.hid hh0.strs
    have s6 : w5.heap.size ≤ w6.heap.size := q6.size
    clear q6 hh0
    go_wp2_with fail
    refine (eqStringS_yes h0 v0 xs _ H6.out V6.out).mono ?_
    rintro e w7 ⟨rfl, q7⟩
    have B7 : Below w.heap.size w w7 := B6.trans (q7.mono (by omega))
    have U7 := Lib.hid (U6.out.below q7)
    have s7 : w6.heap.size ≤ w7.heap.size := q7.size
    clear q7
    go_wp2_with fail
    refine (heldStringS_one u0 xs.length _ U7.out hl2).mono ?_
    rintro e w8 ⟨rfl, q8⟩
    have B8 : Below w.heap.size w w8 := B7.trans (q8.mono (by omega))
    go_wp2
    go_ret
    exact ⟨rfl, B8⟩
namespace fnExactSplitLines
open Go.ChangeShapes Go.WideShapes Go.ChangeAt Go.RowKit Go.Joins Go.WideElems
open Go.ChangeMaps (open_string shut_string)
theorem own : ownKnob Tryd.prog.godebug = none := by kernel_rfl
theorem laidOut : laidOutB Tryd.prog = true := by kernel_rfl
theorem rowed : varsRowed Tryd.prog Rows.fnExactSplitLinesSpec.vars = true := by kernel_rfl
theorem door_met (os : Os) (args : Array Value) : laidMetH Tryd.prog Rows.fnExactSplitLinesRow.laid ((World.laidAll Tryd.prog os Rows.fnExactSplitLinesRow.laid).forCall (fun _ _ => 0) ⟨#[], args, []⟩).memory :=
  by rw [MakeChecks.laidMetH_plain _ _ _ (by kernel_rfl)]; exact laidMet_laidAll _ (by kernel_rfl) (by kernel_rfl)
set_option maxRecDepth 100000 in
set_option linter.unusedVariables false in
theorem contract (H : Type) (enc : TypeId × Value → H) (W : World) (base : Nat) (args : Array Value) (ds gs : List (DataW H)) (before : List MemPlace)
    (hval : ∀ (j : Nat) t v, Tryd.f3.params[j]? = some t → args[j]? = some v → Value.okWide Tryd.prog W .any base t v)
    (hW : DataW.Whole enc Tryd.prog Tryd.f3.params.toList Rows.fnExactSplitLinesSpec.vars false W args.toList ds gs before) (hL : laidMetH Tryd.prog Rows.fnExactSplitLinesRow.laid W) (hsh : W.ShapedOpen Tryd.prog) :
    Calls Tryd.prog 3 args W fun e W' => ∃ v, e = .returned v ∧ Rows.fnExactSplitLinesSpec.post enc Tryd.prog Tryd.f3 false true false false W args v W' := by
  have hW' := hW
  obtain ⟨p, q, hA0, hV, rfl, hfz, hnd⟩ := hW
  have hA : DataW.TrodAll enc Tryd.prog W 0 (fun _ => true) true Tryd.f3.params.toList args.toList ds p := hA0
  rw [Tryd.params3] at hA hval
  obtain ⟨v0, vs0, d0, ds0, p0, q0, ha0, rfl, rfl, h0, r0⟩ := trodAll_cons hA
  obtain ⟨rfl, rfl, rfl⟩ := trodAll_nil r0
  obtain rfl : args = #[v0] := by cases args; simp_all
  obtain ⟨rfl, rfl⟩ := trodVars_none hV
  obtain ⟨s0, rfl, rfl, rfl, w0⟩ := open_string Tryd.underlying9 (hval 0 9 v0 rfl rfl) h0
  clear hA0
  simp only [List.append_nil] at hW'
  refine (walk_FnExactSplitLines s0 w0 W hL hsh).mono fun e W' ⟨he, hg⟩ => ?_
  subst he
  exact ⟨_, rfl, post_law (pa := []) (pv := []) hW' (fun _ _ _ => (trodAll_cons_mk (shut_bool Tryd.underlying4 _) trodAll_mk0)) (fun sp _ => (trodAll_cons_mk (shut_string Tryd.underlying9 w0) trodAll_mk0)) (fun _ _ => rfl) rfl hg⟩
theorem witness_row (os : Os) {H : Type} (enc : TypeId × Value → H) : (OpenSpec.ofChange Rows.fnExactSplitLinesSpec).preRow enc Tryd.prog Tryd.f3 Rows.fnExactSplitLinesRow.domain false Rows.fnExactSplitLinesRow.laid ((World.laidAll Tryd.prog os Rows.fnExactSplitLinesRow.laid).forCall (fun _ _ => 0) ⟨#[], #[.string ⟨#[]⟩], []⟩).memory #[.string ⟨#[]⟩] := by
  have hw : (DataW.whole enc Tryd.prog ((World.laidAll Tryd.prog os Rows.fnExactSplitLinesRow.laid).forCall (fun _ _ => 0) ⟨#[], #[.string ⟨#[]⟩], []⟩).memory Tryd.f3.params.toList (OpenSpec.ofChange Rows.fnExactSplitLinesSpec).vars false (#[.string ⟨#[]⟩] : Array Value).toList 8).map (fun x => (x.1, x.2.1)) = some ([.lit (.string [])], []) := by kernel_rfl
  obtain ⟨⟨x1, x2, x3⟩, hx, hx1⟩ := Option.map_eq_some_iff.1 hw
  simp only [Prod.mk.injEq] at hx1
  obtain ⟨rfl, rfl⟩ := hx1
  exact OpenSpec.preRow_of_cond 8 hx (by kernel_rfl) (fun k hk => by cases hk) (by kernel_rfl) (door_met os _)
set_option maxRecDepth 100000 in
theorem lifted (os : Os) (started : os.Started) (H : Type) (enc : TypeId × Value → H) (F0 : Stop.Interp) :
    ReturnsInHanded {} Tryd.checked os 3 .any ((OpenSpec.ofChange Rows.fnExactSplitLinesSpec).preRow enc Tryd.prog Tryd.f3 Rows.fnExactSplitLinesRow.domain false Rows.fnExactSplitLinesRow.laid) (((OpenSpec.ofChange Rows.fnExactSplitLinesSpec).at F0).post enc Tryd.prog Tryd.f3 false true false false) := by
  refine returnsInHanded_of_row (C := Tryd.checked) (s := (OpenSpec.ofChange Rows.fnExactSplitLinesSpec)) own started (by kernel_rfl) Tryd.func3
    (witness_row_atRef (enc := enc) (C := Tryd.checked) false (World.laidAll Tryd.prog os Rows.fnExactSplitLinesRow.laid) #[.string ⟨#[]⟩] (World.laidAll_os _ _ _) (by kernel_rfl) (by kernel_rfl) (by kernel_rfl) (witness_row os enc)) ?_
  intro W base args ds gs before hval hW _ _ _ hL hsh _
  exact contract H enc W base args ds gs before hval hW hL hsh
theorem said : Rows.FnExactSplitLinesSaid :=
  OpenClaim.holds_of_cond 3 Tryd.f3 rfl rfl rfl rfl rfl rfl rfl ⟨rfl, rfl, rfl, rfl, rfl⟩ rfl rfl rfl rfl rfl (by kernel_rfl) Tryd.func3 (by kernel_rfl)
    (of_decide_eq_true (by kernel_rfl)) (by unfold Func.isWrapper; first | (rw [if_pos (by decide +kernel)]; kernel_rfl) | (rw [if_neg (by decide +kernel)]; exact ⟨rfl, rfl⟩))
    (fun os started H enc _ F0 => by rw [OpenClaim.pre_eq_preRow]; exact lifted os started H enc F0)
theorem plain (f : FuncId) (fn : Func) (hf : Tryd.pinned.checked.prog.funcNamed "loop.example/g01081/laws.FnExactSplitLines" = some f) (hfn : Tryd.pinned.checked.prog.funcs[f]? = some fn) :
    Rows.fnExactSplitLinesCard.stood.looks = Tryd.pinned.checked.prog.looks [] ∧ ∀ (j : Nat) t, fn.params[j]? = some t → Tryd.pinned.checked.prog.wantsStandIn t = false := by
  obtain rfl : f = 3 := Option.some.inj ((show Tryd.prog.funcNamed "loop.example/g01081/laws.FnExactSplitLines" = some 3 by kernel_rfl).symm.trans hf) |>.symm
  obtain rfl : fn = Tryd.f3 := (Option.some.inj (Tryd.func3.symm.trans hfn)).symm
  refine ⟨by kernel_rfl, fun j t ht => ?_⟩
  rw [Tryd.params3] at ht
  have hm := Array.mem_of_getElem? ht
  simp at hm
  subst hm
  exact (show Tryd.prog.wantsStandIn 9 = false by kernel_rfl)
end fnExactSplitLines
theorem fnExactSplitLines_card : Rows.FnExactSplitLinesCardSaid :=
  Claim7.holds_tied_plain_at .later [] _ _ _ _ fnExactSplitLines.said (fun _ h => by cases h) (by kernel_rfl) (fun _ h => by cases h) fnExactSplitLines_row_tie rfl ⟨rfl, rfl⟩ (by kernel_rfl) rfl fnExactSplitLines.plain (by kernel_rfl)
end Go.Proofs.YtggpmailkkpdaaaDoor
