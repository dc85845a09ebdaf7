/-
  For every set of tiles, LonelySides of the program answers as the model's, both results; the law FnExactLonelySides returns true and leaves its argument as it was. Conditions: none.
-/
import Derived.Test.YtaeaflbmaokieabLoneI
namespace Go.Proofs.Ytaeaflbmaokieab
open Go.RowKit

theorem specLonelySides_any (vg vt : Value) (S : Set_) (w : World) (hS : SetIn w vg vt S) (ok : S.ok) (hs : S.small) :
    Calls Try.prog 33 #[.agg #[vg, vt]] w fun e w' => e = .returned (.tuple #[.int .i64 (loV S), .int .i64 (loC S)]) ∧ Below w.heap.size w w' := specLone_any vg vt S w hS ok hs
theorem implLonelySides_any (vg vt : Value) (S : Set_) (w : World) (hS : SetIn w vg vt S) (ok : S.ok) (hs : S.small) :
    Calls Try.prog 34 #[.agg #[vg, vt]] w fun e w' => e = .returned (.tuple #[.int .i64 (loV S), .int .i64 (loC S)]) ∧ Below w.heap.size w w' := implLone_any vg vt S w hS ok hs

set_option maxHeartbeats 2000000 in
theorem walk_FnExactLonelySides (vg vt : Value) (S : Set_)  (w : World) (hS : SetIn w vg vt S) (ok : S.ok)  :
    Calls Try.prog 8 #[.agg #[vg, vt]] w fun e w' => e = .returned (.bool true) ∧ Below w.heap.size w w' := by
  have HS := Lib.hid hS
  clear hS
  go_enter Try.func8, Try.ntmps8
  go_wp2_with fail
  refine (szTileSet_any vg vt S 1048576 _ (HS.out.below (by (repeat (first | exact Below.refl _ _ | refine Below.setCell ?_ (by first | (simp; done) | (simp; omega) | omega) _ | refine belowN ?_ _ | refine Below.drew ?_ | refine Below.alloc ?_ (by first | (simp; done) | (simp; omega) | omega) _ | refine Below.trans ?_ (Below.mono (by assumption) (by first | (simp; done) | (simp; omega) | omega)))))) ok (by omega) (by omega)).mono ?_
  rintro e w1 ⟨⟨r, rfl, hr⟩, hb1⟩
  have B1 : Below w.heap.size w w1 := by (repeat (first | exact Below.refl _ _ | refine Below.setCell ?_ (by first | (simp; done) | (simp; omega) | omega) _ | refine belowN ?_ _ | refine Below.drew ?_ | refine Below.alloc ?_ (by first | (simp; done) | (simp; omega) | omega) _ | refine Below.trans ?_ (Below.mono (by assumption) (by first | (simp; done) | (simp; omega) | omega))))
  have s1 := B1.size
  have A1 := Lib.hid ((At.new w vg vt 40).below hb1)
  clear hb1
  rcases hr with rfl | ⟨hr0, -, hs⟩
  · go_wp2
    go_ret
    exact ⟨rfl, B1⟩
  · have b1 : decide (r < 0) = false := by simp; omega
    obtain ⟨k0, k1⟩ := A1.out
    go_wp2_with fail
    refine (toTileSet_any vg vt S _ (HS.out.below B1) hs).mono ?_
    rintro e w2 ⟨⟨ag, at_, rfl, own⟩, hb2⟩
    have B2 : Below w.heap.size w w2 := by (repeat (first | exact Below.refl _ _ | refine Below.setCell ?_ (by first | (simp; done) | (simp; omega) | omega) _ | refine belowN ?_ _ | refine Below.drew ?_ | refine Below.alloc ?_ (by first | (simp; done) | (simp; omega) | omega) _ | refine Below.trans ?_ (Below.mono (by assumption) (by first | (simp; done) | (simp; omega) | omega))))
    have s2 := B2.size
    have A2 := Lib.hid (A1.out.below hb2)
    have I2 := Lib.hid (own.setIn hs)
    clear hb2 own k0 k1
    go_wp2_with fail
    refine (specLonelySides_any ag at_ S  _ I2.out ok hs ).mono ?_
    rintro e w3 ⟨rfl, hb3⟩
    have B3 : Below w.heap.size w w3 := by (repeat (first | exact Below.refl _ _ | refine Below.setCell ?_ (by first | (simp; done) | (simp; omega) | omega) _ | refine belowN ?_ _ | refine Below.drew ?_ | refine Below.alloc ?_ (by first | (simp; done) | (simp; omega) | omega) _ | refine Below.trans ?_ (Below.mono (by assumption) (by first | (simp; done) | (simp; omega) | omega))))
    have s3 := B3.size
    have A3 := Lib.hid (A2.out.below hb3)
    clear hb3
    obtain ⟨k0, k1⟩ := A3.out
    go_wp2_with fail
    refine (toTileSet_any vg vt S _ (HS.out.below B3) hs).mono ?_
    rintro e w4 ⟨⟨xg, xt, rfl, own⟩, hb4⟩
    have B4 : Below w.heap.size w w4 := by (repeat (first | exact Below.refl _ _ | refine Below.setCell ?_ (by first | (simp; done) | (simp; omega) | omega) _ | refine belowN ?_ _ | refine Below.drew ?_ | refine Below.alloc ?_ (by first | (simp; done) | (simp; omega) | omega) _ | refine Below.trans ?_ (Below.mono (by assumption) (by first | (simp; done) | (simp; omega) | omega))))
    have s4 := B4.size
    have A4 := Lib.hid (A3.out.below hb4)
    have X4 := Lib.hid (own.setIn hs)
    clear hb4 own k0 k1
    obtain ⟨p1, p2, p3, p4, p5, p6, rfl, rfl⟩ := X4.out.shape
    go_wp2_with fail
    refine (implLonelySides_any _ _ S  _ (X4.out.below (by (repeat (first | exact Below.refl _ _ | refine Below.setCell ?_ (by first | (simp; done) | (simp; omega) | omega) _ | refine belowN ?_ _ | refine Below.drew ?_ | refine Below.alloc ?_ (by first | (simp; done) | (simp; omega) | omega) _ | refine Below.trans ?_ (Below.mono (by assumption) (by first | (simp; done) | (simp; omega) | omega)))))) ok hs ).mono ?_
    rintro e w5 ⟨rfl, hb5⟩
    have q5 : Below w4.heap.size w4 w5 := by (repeat (first | exact Below.refl _ _ | refine Below.setCell ?_ (by first | (simp; done) | (simp; omega) | omega) _ | refine belowN ?_ _ | refine Below.drew ?_ | refine Below.alloc ?_ (by first | (simp; done) | (simp; omega) | omega) _ | refine Below.trans ?_ (Below.mono (by assumption) (by first | (simp; done) | (simp; omega) | omega))))
    have A5 := Lib.hid (A4.out.below q5)
    have X5 := Lib.hid (X4.out.below q5)
    have B5 : Below w.heap.size w w5 := B4.trans (q5.mono s4)
    have s5 := B5.size
    have Y5 := Lib.hid ((At.new _ _ _ _).below hb5)
    clear hb5 q5
    obtain ⟨k0, k1⟩ := A5.out
    obtain ⟨l0, l1⟩ := Y5.out
    go_wp2_with fail
    go_region_held3 (fun w' => w'.cell? ⟨w.heap.size, 0, none⟩ = some vg ∧ w'.cell? ⟨w.heap.size, 1, none⟩ = some vt ∧ w'.cell? ⟨w4.heap.size, 0, none⟩ = some (.slice p1 p2 p3) ∧ w'.cell? ⟨w4.heap.size, 1, none⟩ = some (.slice p4 p5 p6)) ((((try go_split_ands); (try dsimp only); (repeat' apply And.intro)) <;> (repeat (first | with_reducible assumption | ((with_reducible refine cnew0 ?_); simp; done) | ((with_reducible refine cnew1 ?_); simp; done) | (with_reducible refine akeep ?_) | (with_reducible refine dkeep ?_) | ((with_reducible refine skeep ?_ ?_); rotate_left; (first | ((try dsimp only); omega) | (simp; done) | (simp; omega))) | (with_reducible refine bkeep hb3 ?_)))))
      (first
        | (go_at_call 26; refine (toTileSet_any vg vt S _ (HS.out.below (by (repeat (first | exact Below.refl _ _ | refine Below.setCell ?_ (by first | (simp; done) | (simp; omega) | omega) _ | refine belowN ?_ _ | refine Below.drew ?_ | refine Below.alloc ?_ (by first | (simp; done) | (simp; omega) | omega) _ | refine Below.trans ?_ (Below.mono (by assumption) (by first | (simp; done) | (simp; omega) | omega)))))) hs).mono ?_; rintro e w6 ⟨⟨yg, yt, rfl, own6⟩, hb3⟩; have s6 : w5.heap.size ≤ w6.heap.size := hb3.size)
        | (go_at_call 28; refine (eqTileSet_yes _ _ _ _ S _ (X5.out.below (by (repeat (first | exact Below.refl _ _ | refine Below.setCell ?_ (by first | (simp; done) | (simp; omega) | omega) _ | refine belowN ?_ _ | refine Below.drew ?_ | refine Below.alloc ?_ (by first | (simp; done) | (simp; omega) | omega) _ | refine Below.trans ?_ (Below.mono (by assumption) (by first | (simp; done) | (simp; omega) | omega)))))) ((own6.setIn hs).below (by (repeat (first | exact Below.refl _ _ | refine Below.setCell ?_ (by first | (simp; done) | (simp; omega) | omega) _ | refine belowN ?_ _ | refine Below.drew ?_ | refine Below.alloc ?_ (by first | (simp; done) | (simp; omega) | omega) _ | refine Below.trans ?_ (Below.mono (by assumption) (by first | (simp; done) | (simp; omega) | omega))))))).mono ?_; rintro e w7 ⟨rfl, hb3⟩))
    go_wp2
    go_ret
    exact ⟨rfl, by (repeat (first | exact Below.refl _ _ | refine Below.setCell ?_ (by first | (simp; done) | (simp; omega) | omega) _ | refine belowN ?_ _ | refine Below.drew ?_ | refine Below.alloc ?_ (by first | (simp; done) | (simp; omega) | omega) _ | refine Below.trans ?_ (Below.mono (by assumption) (by first | (simp; done) | (simp; omega) | omega))))⟩


namespace fnExactLonelySides
open Go.ChangeShapes Go.WideShapes Go.ChangeAt Go.RowKit Go.Joins
open Go.ChangeMaps (open_string shut_string)
theorem own : ownKnob Try.prog.godebug = none := by kernel_rfl
theorem laidOut : laidOutB Try.prog = true := by kernel_rfl
theorem readable : (Try.f8.params.toList.all fun t => Try.prog.readableRec t && decide (t < Try.prog.types.size)) = true := by kernel_rfl
theorem cells_0 : Try.prog.cellsOf 40 = 2 := by kernel_rfl
set_option maxRecDepth 100000 in
set_option linter.unusedVariables false in
theorem contract (H : Type) (enc : TypeId × Value → H) (W : World) (base : Nat) (args : Array Value) (ds gs : List (DataW H)) (before : List MemPlace)
    (hval : ∀ (j : Nat) t v, Try.f8.params[j]? = some t → args[j]? = some v → Value.okWide Try.prog W .any base t v)
    (hW : DataW.Whole enc Try.prog Try.f8.params.toList Rows.fnExactLonelySidesSpec.vars false W args.toList ds gs before) :
    Calls Try.prog 8 args W fun e W' => ∃ v, e = .returned v ∧ Rows.fnExactLonelySidesSpec.post enc Try.prog Try.f8 false true false false W args v W' := by
  have hW' := hW
  obtain ⟨p, q, hA0, hV, rfl, hfz, hnd⟩ := hW
  have hA : DataW.TrodAll enc Try.prog W 0 (fun _ => true) true Try.f8.params.toList args.toList ds p := hA0
  rw [Try.params8] at hA hval
  obtain ⟨v0, vs0, d0, ds0, p0, q0, ha0, rfl, rfl, h0, r0⟩ := trodAll_cons hA
  obtain ⟨rfl, rfl, rfl⟩ := trodAll_nil r0
  obtain rfl : args = #[v0] := by cases args; simp_all
  obtain ⟨rfl, rfl⟩ := trodVars_none hV
  obtain ⟨c0, e0, y0, z0, m0, rfl, -, -, hy0, hz0⟩ := open_agg2 Try.underlying40 (by kernel_rfl) cells_0 (hval 0 40 v0 rfl rfl) h0
  obtain ⟨gs0, hg0, og0⟩ := open_glues (t := 37) (e := 121) Try.underlying37 Try.underlying121 (by kernel_rfl) (by kernel_rfl) rfl rfl Try.underlying9 Try.underlying2 hy0
  obtain ⟨ts0, ht0, ot0⟩ := open_tiles (t := 38) (e := 123) Try.underlying38 Try.underlying123 (by kernel_rfl) (by kernel_rfl) rfl rfl Try.underlying9 Try.underlying31 Try.underlying2 (by kernel_rfl) hz0
  refine (walk_FnExactLonelySides c0 e0 ⟨gs0, ts0⟩ W ⟨hg0, ht0⟩ ⟨og0, ot0⟩).mono fun e W' ⟨he, hg⟩ => ?_
  subst he
  exact ⟨_, rfl, post_mem laidOut readable hW' (fun _ _ _ => (trodAll_cons_mk (shut_bool Try.underlying4 _) trodAll_mk0)) hA0 rfl rfl (by simp) hg⟩
set_option maxRecDepth 100000 in
theorem lifted (os : Os) (started : os.Started) (H : Type) (enc : TypeId × Value → H) :
    ReturnsInHanded {} Try.checked os 8 .any (Rows.fnExactLonelySidesSpec.pre6 enc Try.prog Try.f8 Rows.fnExactLonelySidesRow.domain false) (Rows.fnExactLonelySidesSpec.post enc Try.prog Try.f8 false true false false) := by
  refine returnsInHanded_of_change (C := Try.checked) own started (by kernel_rfl) Try.func8
    (ChangeSpec.witness6 (enc := enc) (C := Try.checked) false ⟨#[], #[.agg #[.slice none 0 0, .slice none 0 0]], []⟩ 8 (by kernel_rfl) (by kernel_rfl) (by kernel_rfl) (by kernel_rfl)) ?_
  intro W base args ds gs before hval hW _ _
  exact contract H enc W base args ds gs before hval hW
end fnExactLonelySides
theorem fnExactLonelySides_holds : Rows.FnExactLonelySidesSaid :=
  OpenClaim.holds_of_wide 8 Try.f8 rfl rfl rfl rfl rfl rfl rfl ⟨rfl, rfl, rfl, rfl, rfl⟩ rfl rfl rfl rfl rfl (by kernel_rfl) Try.func8 (by kernel_rfl)
    (of_decide_eq_true (by kernel_rfl)) (by unfold Func.isWrapper; first | (rw [if_pos (by decide +kernel)]; kernel_rfl) | (rw [if_neg (by decide +kernel)]; exact ⟨rfl, rfl⟩))
    (fun os started H enc _ => fnExactLonelySides.lifted os started H enc)
end Go.Proofs.Ytaeaflbmaokieab
