/-
  For every set of tiles, SetText of the program answers as the model's; the law FnExactSetText returns true and leaves its argument as it was. Condition: the library's listed tables start as its text lays them (the card ties them).
-/
import Derived.Test.YtggpmailkkpdaaaDoorSetM
import Derived.Test.YtggpmailkkpdaaaDoorSetI
import Derived.Test.YtggpmailkkpdaaaDoorVA
namespace Go.Proofs.YtggpmailkkpdaaaDoor
open Go.RowKit

theorem specSetText_law (vg1 vt1 : Value) (S1 : Set_) (w : World) (h1 : SetIn w vg1 vt1 S1) (_s1 : ∃ a k q, vg1 = .slice (some a) k q) (ok1 : S1.ok) (m1 : S1.small) :
    Calls Tryd.prog 13 #[.agg #[vg1, vt1]] w fun e w' => e = .returned (.string (stT S1)) ∧ Below w.heap.size w w' := specSetText_any vg1 vt1 S1 w h1 ok1 m1
theorem implSetText_law (vg1 vt1 : Value) (S1 : Set_) (w : World) (h1 : SetIn w vg1 vt1 S1) (_s1 : ∃ a k q, vg1 = .slice (some a) k q) (ok1 : S1.ok) (m1 : S1.small) (hT : Tab w) :
    Calls Tryd.prog 15 #[.agg #[vg1, vt1]] w fun e w' => e = .returned (.string (stT S1)) ∧ Below w.heap.size w w' := implSetText_any vg1 vt1 S1 w h1 ok1 m1 hT

set_option maxRecDepth 100000 in
set_option maxHeartbeats 1000000 in
set_option linter.unusedVariables false in
set_option linter.unusedSimpArgs false in
theorem walk_FnExactSetText (vg1 vt1 : Value) (S1 : Set_) (w : World) (h1 : SetIn w vg1 vt1 S1) (ok1 : S1.ok) (hL : laidMetH Tryd.prog Rows.fnExactSetTextRow.laid w) :
    Calls Tryd.prog 4 #[.agg #[vg1, vt1]] w fun e w' => e = .returned (.bool true) ∧ Below w.heap.size w w' := by
  have hTab := Lib.hid (tab_of (rest := []) hL)
  have hTlt := hTab.out.lt
  clear hL
  have H1 := Lib.hid h1
  clear h1
  have A1_0' : At (w.alloc (.cells #[vg1, vt1] 30)) (w.heap.size) (vg1) (vt1) := ⟨by simp [go_sem], by simp [go_sem]⟩
  have A1_0 := Lib.hid A1_0'
  clear A1_0'
  go_enter Tryd.func4, Tryd.ntmps4
  go_wp2_with fail
  refine (szTileSet_any vg1 vt1 S1 1048576 _ (H1.out.below (by (repeat (first | exact Below.refl _ _ | refine Below.setCell ?_ (by first | (simp; done) | (simp; omega) | omega) _ | refine belowN ?_ _ | refine Below.drew ?_ | refine Below.alloc ?_ (by first | (simp; done) | (simp; omega) | omega) _ | refine Below.trans ?_ (Below.mono (by assumption) (by first | (simp; done) | (simp; omega) | omega)))))) ok1 (by omega) (by omega)).mono ?_
  rintro e w1 ⟨⟨r1, rfl, hr⟩, hb⟩
  have B1 : Below w.heap.size w w1 := by (repeat (first | exact Below.refl _ _ | refine Below.setCell ?_ (by first | (simp; done) | (simp; omega) | omega) _ | refine belowN ?_ _ | refine Below.drew ?_ | refine Below.alloc ?_ (by first | (simp; done) | (simp; omega) | omega) _ | refine Below.trans ?_ (Below.mono (by assumption) (by first | (simp; done) | (simp; omega) | omega))))
  have A1_1 := Lib.hid (A1_0.out.below hb)
  have s1 : w.heap.size < w1.heap.size := A1_1.out.lt
  clear hb
  rcases hr with rfl | ⟨hl1, hm1, hs1⟩
  · go_wp2
    go_ret
    exact ⟨rfl, B1⟩
  have bb1 : decide (r1 < 0) = false := by simp; omega
  obtain ⟨kA10, kA11⟩ := A1_1.out
  have lA1 := A1_1.out.lt
  go_wp2_with fail
  refine (toTileSet_any vg1 vt1 S1 _ (H1.out.below (by (repeat (first | exact Below.refl _ _ | refine Below.setCell ?_ (by first | (simp; done) | (simp; omega) | omega) _ | refine belowN ?_ _ | refine Below.drew ?_ | refine Below.alloc ?_ (by first | (simp; done) | (simp; omega) | omega) _ | refine Below.trans ?_ (Below.mono (by assumption) (by first | (simp; done) | (simp; omega) | omega)))))) hs1).mono ?_
  rintro e w2 ⟨⟨z1g, z1t, rfl, zo1⟩, hb⟩
  have q2 : Below w1.heap.size w1 w2 := by (repeat (first | exact Below.refl _ _ | refine Below.setCell ?_ (by first | (simp; done) | (simp; omega) | omega) _ | refine belowN ?_ _ | refine Below.drew ?_ | refine Below.alloc ?_ (by first | (simp; done) | (simp; omega) | omega) _ | refine Below.trans ?_ (Below.mono (by assumption) (by first | (simp; done) | (simp; omega) | omega))))
  have s2 : w1.heap.size ≤ w2.heap.size := q2.size
  have B2 : Below w.heap.size w w2 := B1.trans (q2.mono (by omega))
  have A1_2 := Lib.hid (A1_1.out.below q2)
  have IN := Lib.hid (zo1.setIn hs1)
  have SOL := zo1.sol
  clear hb q2 zo1
  clear kA10 kA11 lA1
  go_wp2_with fail
  refine (specSetText_law z1g z1t S1 _ (IN.out.below (by (repeat (first | exact Below.refl _ _ | refine Below.setCell ?_ (by first | (simp; done) | (simp; omega) | omega) _ | refine belowN ?_ _ | refine Below.drew ?_ | refine Below.alloc ?_ (by first | (simp; done) | (simp; omega) | omega) _ | refine Below.trans ?_ (Below.mono (by assumption) (by first | (simp; done) | (simp; omega) | omega)))))) SOL ok1 hs1).mono ?_
  rintro e w3 ⟨rfl, hb⟩
  have q3 : Below w2.heap.size w2 w3 := by (repeat (first | exact Below.refl _ _ | refine Below.setCell ?_ (by first | (simp; done) | (simp; omega) | omega) _ | refine belowN ?_ _ | refine Below.drew ?_ | refine Below.alloc ?_ (by first | (simp; done) | (simp; omega) | omega) _ | refine Below.trans ?_ (Below.mono (by assumption) (by first | (simp; done) | (simp; omega) | omega))))
  have s3 : w2.heap.size ≤ w3.heap.size := q3.size
  have B3 : Below w.heap.size w w3 := B2.trans (q3.mono (by omega))
  have A1_3 := Lib.hid (A1_2.out.below q3)
  clear hb q3 IN SOL
  obtain ⟨kA10, kA11⟩ := A1_3.out
  have lA1 := A1_3.out.lt
  go_wp2_with fail
  refine (toTileSet_any vg1 vt1 S1 _ (H1.out.below (by (repeat (first | exact Below.refl _ _ | refine Below.setCell ?_ (by first | (simp; done) | (simp; omega) | omega) _ | refine belowN ?_ _ | refine Below.drew ?_ | refine Below.alloc ?_ (by first | (simp; done) | (simp; omega) | omega) _ | refine Below.trans ?_ (Below.mono (by assumption) (by first | (simp; done) | (simp; omega) | omega)))))) hs1).mono ?_
  rintro e w4 ⟨⟨x1_g, x1_t, rfl, own⟩, hb⟩
  have q4 : Below w3.heap.size w3 w4 := by (repeat (first | exact Below.refl _ _ | refine Below.setCell ?_ (by first | (simp; done) | (simp; omega) | omega) _ | refine belowN ?_ _ | refine Below.drew ?_ | refine Below.alloc ?_ (by first | (simp; done) | (simp; omega) | omega) _ | refine Below.trans ?_ (Below.mono (by assumption) (by first | (simp; done) | (simp; omega) | omega))))
  have s4 : w3.heap.size ≤ w4.heap.size := q4.size
  have B4 : Below w.heap.size w w4 := B3.trans (q4.mono (by omega))
  have C4 := Lib.hid q4
  have A1_4 := Lib.hid (A1_3.out.below q4)
  have SL1 := own.sol
  have X1_4 := Lib.hid (OwnSet.mono (lo' := w3.heap.size) (hi' := w4.heap.size) (own.own hs1) (by first | (simp; done) | (simp; omega)) (Nat.le_refl _))
  clear hb q4 own kA10 kA11 lA1
  obtain ⟨x1_g0, x1_g1, x1_g2, x1_g3, x1_g4, x1_g5, rfl, rfl⟩ := X1_4.out.setIn.shape
  go_wp2_with fail
  refine (implSetText_law (.slice x1_g0 x1_g1 x1_g2) (.slice x1_g3 x1_g4 x1_g5) S1 _ (X1_4.out.setIn.below (by (repeat (first | exact Below.refl _ _ | refine Below.setCell ?_ (by first | (simp; done) | (simp; omega) | omega) _ | refine belowN ?_ _ | refine Below.drew ?_ | refine Below.alloc ?_ (by first | (simp; done) | (simp; omega) | omega) _ | refine Below.trans ?_ (Below.mono (by assumption) (by first | (simp; done) | (simp; omega) | omega)))))) SL1 ok1 hs1 (hTab.out.below (B := w.heap.size) (by (repeat (first | exact Below.refl _ _ | refine Below.setCell ?_ (by first | (simp; done) | (simp; omega) | omega) _ | refine belowN ?_ _ | refine Below.drew ?_ | refine Below.alloc ?_ (by first | (simp; done) | (simp; omega) | omega) _ | refine Below.trans ?_ (Below.mono (by assumption) (by first | (simp; done) | (simp; omega) | omega))))) hTlt)).mono ?_
  rintro e w5 ⟨rfl, hb⟩
  have q5 : Below w4.heap.size w4 w5 := by (repeat (first | exact Below.refl _ _ | refine Below.setCell ?_ (by first | (simp; done) | (simp; omega) | omega) _ | refine belowN ?_ _ | refine Below.drew ?_ | refine Below.alloc ?_ (by first | (simp; done) | (simp; omega) | omega) _ | refine Below.trans ?_ (Below.mono (by assumption) (by first | (simp; done) | (simp; omega) | omega))))
  have s5 : w4.heap.size ≤ w5.heap.size := q5.size
  have B5 : Below w.heap.size w w5 := B4.trans (q5.mono (by omega))
  have C5 := Lib.hid (C4.out.trans (q5.mono (by omega)))
  have A1_5 := Lib.hid (A1_4.out.below q5)
  have X1_5 := Lib.hid (X1_4.out.below q5)
  have Y1_5 := Lib.hid (At.below (p := w4.heap.size) (vg := (.slice x1_g0 x1_g1 x1_g2)) (vt := (.slice x1_g3 x1_g4 x1_g5)) (by exact ⟨by simp [go_sem], by simp [go_sem]⟩) hb)
  clear hb q5 
  obtain ⟨kA10, kA11⟩ := A1_5.out
  have lA1 := A1_5.out.lt
  obtain ⟨kY10, kY11⟩ := Y1_5.out
  have lY1 := Y1_5.out.lt
  go_wp2_with fail
  go_region_held3 (fun w' => w'.cell? ⟨w.heap.size, 0, none⟩ = some (vg1) ∧ w'.cell? ⟨w.heap.size, 1, none⟩ = some (vt1) ∧ w'.cell? ⟨w4.heap.size, 0, none⟩ = some (.slice x1_g0 x1_g1 x1_g2) ∧ w'.cell? ⟨w4.heap.size, 1, none⟩ = some (.slice x1_g3 x1_g4 x1_g5)) ((((try go_split_ands); (try dsimp only); (repeat' apply And.intro)) <;> (repeat (first | with_reducible assumption | ((with_reducible refine cnew0 ?_); simp; done) | ((with_reducible refine cnew1 ?_); simp; done) | (with_reducible refine akeep ?_) | (with_reducible refine dkeep ?_) | ((with_reducible refine skeep ?_ ?_); rotate_left; (first | ((try dsimp only); omega) | (simp; done) | (simp; omega))) | (with_reducible refine bkeep hb3 ?_)))))
    (first
      | (go_at_call 14; refine (toTileSet_any vg1 vt1 S1 _ (H1.out.below (by (repeat (first | exact Below.refl _ _ | refine Below.setCell ?_ (by first | (simp; done) | (simp; omega) | omega) _ | refine belowN ?_ _ | refine Below.drew ?_ | refine Below.alloc ?_ (by first | (simp; done) | (simp; omega) | omega) _ | refine Below.trans ?_ (Below.mono (by assumption) (by first | (simp; done) | (simp; omega) | omega)))))) hs1).mono ?_; rintro e w6 ⟨⟨u1g, u1t, rfl, own⟩, hb3⟩; have s6 : w5.heap.size ≤ w6.heap.size := Nat.le_trans (by first | exact Nat.le_refl _ | (simp; done) | (simp; omega)) hb3.size)
      | (go_at_call 16; refine (eqTileSet_yes _ _ _ _ S1 _ (X1_5.out.setIn.below (by (repeat (first | exact Below.refl _ _ | refine Below.setCell ?_ (by first | (simp; done) | (simp; omega) | omega) _ | refine belowN ?_ _ | refine Below.drew ?_ | refine Below.alloc ?_ (by first | (simp; done) | (simp; omega) | omega) _ | refine Below.trans ?_ (Below.mono (by assumption) (by first | (simp; done) | (simp; omega) | omega)))))) ((own.setIn hs1).below (by (repeat (first | exact Below.refl _ _ | refine Below.setCell ?_ (by first | (simp; done) | (simp; omega) | omega) _ | refine belowN ?_ _ | refine Below.drew ?_ | refine Below.alloc ?_ (by first | (simp; done) | (simp; omega) | omega) _ | refine Below.trans ?_ (Below.mono (by assumption) (by first | (simp; done) | (simp; omega) | omega))))))).mono ?_; rintro e w7 ⟨rfl, hb3⟩; have s7 : w6.heap.size ≤ w7.heap.size := Nat.le_trans (by first | exact Nat.le_refl _ | (simp; done) | (simp; omega)) hb3.size))
  have q7 : Below w5.heap.size w5 w7 := by (repeat (first | exact Below.refl _ _ | refine Below.setCell ?_ (by first | (simp; done) | (simp; omega) | omega) _ | refine belowN ?_ _ | refine Below.drew ?_ | refine Below.alloc ?_ (by first | (simp; done) | (simp; omega) | omega) _ | refine Below.trans ?_ (Below.mono (by assumption) (by first | (simp; done) | (simp; omega) | omega))))
  have B7 : Below w.heap.size w w7 := B5.trans (q7.mono (by omega))
  have C7 := Lib.hid (C5.out.trans (q7.mono (by omega)))
  have A1_7 := Lib.hid (A1_5.out.below q7)
  have X1_7 := Lib.hid (X1_5.out.below q7)
  have Y1_7 := Lib.hid (Y1_5.out.below q7)
  clear hb3 q7 own kA10 kA11 lA1 kY10 kY11 lY1
  go_wp2_with fail
  go_ret
  exact ⟨rfl, B7⟩

namespace fnExactSetText
open Go.ChangeShapes Go.WideShapes Go.ChangeAt Go.RowKit Go.Joins Go.WideElems
open Go.ChangeMaps (open_string shut_string)
theorem own : ownKnob Tryd.prog.godebug = none := by kernel_rfl
theorem laidOut : laidOutB Tryd.prog = true := by kernel_rfl
theorem readable : (Tryd.f4.params.toList.all fun t => Tryd.prog.readableRec t && decide (t < Tryd.prog.types.size)) = true := by kernel_rfl
theorem rowed : varsRowed Tryd.prog Rows.fnExactSetTextSpec.vars = true := by kernel_rfl
theorem cells_0 : Tryd.prog.cellsOf 30 = 2 := by kernel_rfl
theorem door_met (os : Os) (args : Array Value) : laidMetH Tryd.prog Rows.fnExactSetTextRow.laid ((World.doorLaid Tryd.prog 4000 os).forCall (fun _ _ => 0) ⟨#[], args, []⟩).memory :=
  laidMetH_of_parts3 (fuel := 8) (laidMet_of_run' 8 (by kernel_rfl) (by kernel_rfl)) (by kernel_rfl) (by kernel_rfl)
set_option maxRecDepth 100000 in
set_option linter.unusedVariables false in
theorem contract (H : Type) (enc : TypeId × Value → H) (W : World) (base : Nat) (args : Array Value) (ds gs : List (DataW H)) (before : List MemPlace)
    (hval : ∀ (j : Nat) t v, Tryd.f4.params[j]? = some t → args[j]? = some v → Value.okWide Tryd.prog W .any base t v)
    (hW : DataW.Whole enc Tryd.prog Tryd.f4.params.toList Rows.fnExactSetTextSpec.vars false W args.toList ds gs before) (hL : laidMetH Tryd.prog Rows.fnExactSetTextRow.laid W) :
    Calls Tryd.prog 4 args W fun e W' => ∃ v, e = .returned v ∧ Rows.fnExactSetTextSpec.post enc Tryd.prog Tryd.f4 false true false false W args v W' := by
  have hW' := hW
  obtain ⟨p, q, hA0, hV, rfl, hfz, hnd⟩ := hW
  have hA : DataW.TrodAll enc Tryd.prog W 0 (fun _ => true) true Tryd.f4.params.toList args.toList ds p := hA0
  rw [Tryd.params4] at hA hval
  obtain ⟨v0, vs0, d0, ds0, p0, q0, ha0, rfl, rfl, h0, r0⟩ := trodAll_cons hA
  obtain ⟨rfl, rfl, rfl⟩ := trodAll_nil r0
  obtain rfl : args = #[v0] := by cases args; simp_all
  obtain ⟨rfl, rfl⟩ := trodVars_none hV
  obtain ⟨c0, e0, y0, z0, m0, rfl, -, -, hy0, hz0⟩ := open_agg2 Tryd.underlying30 (by kernel_rfl) cells_0 (hval 0 30 v0 rfl rfl) h0
  obtain ⟨gs0, hg0, og0⟩ := open_glues (t := 27) (e := 105) Tryd.underlying27 Tryd.underlying105 (by kernel_rfl) (by kernel_rfl) rfl rfl Tryd.underlying9 Tryd.underlying2 hy0
  obtain ⟨ts0, ht0, ot0⟩ := open_tiles (t := 28) (e := 107) Tryd.underlying28 Tryd.underlying107 (by kernel_rfl) (by kernel_rfl) rfl rfl Tryd.underlying9 Tryd.underlying74 Tryd.underlying2 (by kernel_rfl) hz0
  refine (walk_FnExactSetText c0 e0 ⟨gs0, ts0⟩ W ⟨hg0, ht0⟩ ⟨og0, ot0⟩ hL).mono fun e W' ⟨he, hg⟩ => ?_
  subst he
  exact ⟨_, rfl, post_card (pa := _) (pv := _) hW' (fun _ _ _ => (trodAll_cons_mk (shut_bool Tryd.underlying4 _) trodAll_mk0)) (Below.trodAll laidOut readable hA0 hg fun x hx => hW'.lt x (List.mem_append_left _ hx)) (show DataW.TrodVars enc Tryd.prog W' _ [] [] [] from rfl) rfl hg⟩
set_option maxRecDepth 100000 in
theorem lifted (os : Os) (started : os.Started) (H : Type) (enc : TypeId × Value → H) :
    ReturnsInHanded {} Tryd.checked os 4 .any (fun w args => (Rows.fnExactSetTextSpec.pre enc Tryd.prog Tryd.f4 [] false w args ∧ laidMetH Tryd.prog Rows.fnExactSetTextRow.laid w) ∧ sizedMet enc Tryd.prog Tryd.f4 (OpenSpec.ofChange Rows.fnExactSetTextSpec) false w args)
      (Rows.fnExactSetTextSpec.post enc Tryd.prog Tryd.f4 false true false false) := by
  refine returnsInHanded_of_change_and (C := Tryd.checked) (X := fun w _ => laidMetH Tryd.prog Rows.fnExactSetTextRow.laid w) (fun _ _ _ hh h => h.of_heap hh) own started (by kernel_rfl) Tryd.func4
    (ChangeSpec.witness_shaped (enc := enc) (C := Tryd.checked) (os := os) (X := fun w _ => laidMetH Tryd.prog Rows.fnExactSetTextRow.laid w) false (World.doorLaid Tryd.prog 4000 os) #[.agg #[.slice none 0 0, .slice none 0 0]] 8 rfl (World.shaped_of_RefB (by kernel_rfl) (by kernel_rfl)) (by kernel_rfl) (by kernel_rfl) (by kernel_rfl) (door_met os _)) ?_
  intro W base args ds gs before hval hW _ _ hL _
  exact contract H enc W base args ds gs before hval hW hL
theorem said : Rows.FnExactSetTextSaid :=
  OpenClaim.holds_of_wide 4 Tryd.f4 rfl rfl rfl rfl rfl rfl rfl ⟨rfl, rfl, rfl, rfl, rfl⟩ rfl rfl rfl rfl rfl (by kernel_rfl) Tryd.func4 (by kernel_rfl)
    (of_decide_eq_true (by kernel_rfl)) (by unfold Func.isWrapper; first | (rw [if_pos (by decide +kernel)]; kernel_rfl) | (rw [if_neg (by decide +kernel)]; exact ⟨rfl, rfl⟩))
    (fun os started H enc _ => lifted os started H enc)
theorem plain (f : FuncId) (fn : Func) (hf : Tryd.pinned.checked.prog.funcNamed "loop.example/g01081/laws.FnExactSetText" = some f) (hfn : Tryd.pinned.checked.prog.funcs[f]? = some fn) :
    Rows.fnExactSetTextCard.stood.looks = Tryd.pinned.checked.prog.looks [] ∧ ∀ (j : Nat) t, fn.params[j]? = some t → Tryd.pinned.checked.prog.wantsStandIn t = false := by
  obtain rfl : f = 4 := Option.some.inj ((show Tryd.prog.funcNamed "loop.example/g01081/laws.FnExactSetText" = some 4 by kernel_rfl).symm.trans hf) |>.symm
  obtain rfl : fn = Tryd.f4 := (Option.some.inj (Tryd.func4.symm.trans hfn)).symm
  refine ⟨by kernel_rfl, fun j t ht => ?_⟩
  rw [Tryd.params4] at ht
  have hm := Array.mem_of_getElem? ht
  simp at hm
  subst hm
  exact (show Tryd.prog.wantsStandIn 30 = false by kernel_rfl)
end fnExactSetText
theorem fnExactSetText_card : Rows.FnExactSetTextCardSaid :=
  Claim7.holds_tied_plain_at .later [] _ _ _ _ fnExactSetText.said (fun _ h => by cases h) (by kernel_rfl) (fun _ h => by cases h) fnExactSetText_row_tie rfl ⟨rfl, rfl⟩ (by kernel_rfl) rfl fnExactSetText.plain (by kernel_rfl)
end Go.Proofs.YtggpmailkkpdaaaDoor
