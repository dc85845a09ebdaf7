/-
  For any two sets of tiles, SameSet of the program answers as the model's; the law FnExactSameSet returns true and leaves its arguments as they were. Conditions: none.
-/
import Derived.Test.YtfoegoanbppaaaaSame2
namespace Go.Proofs.Ytfoegoanbppaaaa
open Go.RowKit

set_option maxHeartbeats 4000000 in
theorem walk_FnExactSameSet (ug ut : Value) (S : Set_) (vg vt : Value) (R : Set_) (w : World) (hS : SetIn w ug ut S) (ok : S.ok) (hR : SetIn w vg vt R) (ok2 : R.ok) :
    Calls Try.prog 4 #[.agg #[ug, ut], .agg #[vg, vt]] w fun e w' => e = .returned (.bool true) ∧ Below w.heap.size w w' := by
  have HS := Lib.hid hS
  have HR := Lib.hid hR
  clear hS hR
  have A0 : At ((w.alloc (.cells #[ug, ut] 25)).alloc (.cells #[vg, vt] 25)) w.heap.size ug ut := (At.new w ug ut _).below (by (repeat (first | exact Below.refl _ _ | refine Below.setCell ?_ (by first | (simp; done) | (simp; omega) | omega) _ | refine belowN ?_ _ | refine Below.drew ?_ | refine Below.alloc ?_ (by first | (simp; done) | (simp; omega) | omega) _ | refine Below.trans ?_ (Below.mono (by assumption) (by first | (simp; done) | (simp; omega) | omega)))))
  have E0 : At ((w.alloc (.cells #[ug, ut] 25)).alloc (.cells #[vg, vt] 25)) (w.heap.size + 1) vg vt := ⟨by simp [go_sem], by simp [go_sem]⟩
  have HA0 := Lib.hid A0
  have HE0 := Lib.hid E0
  clear A0 E0
  go_enter Try.func4, Try.ntmps4
  go_wp2_with fail
  refine (szTileSet_any ug ut S 1048576 _ (HS.out.below (by (repeat (first | exact Below.refl _ _ | refine Below.setCell ?_ (by first | (simp; done) | (simp; omega) | omega) _ | refine belowN ?_ _ | refine Below.drew ?_ | refine Below.alloc ?_ (by first | (simp; done) | (simp; omega) | omega) _ | refine Below.trans ?_ (Below.mono (by assumption) (by first | (simp; done) | (simp; omega) | omega)))))) ok (by omega) (by omega)).mono ?_
  rintro e w1 ⟨⟨r, rfl, hr⟩, hb1⟩
  have B1 : Below w.heap.size w w1 := by (repeat (first | exact Below.refl _ _ | refine Below.setCell ?_ (by first | (simp; done) | (simp; omega) | omega) _ | refine belowN ?_ _ | refine Below.drew ?_ | refine Below.alloc ?_ (by first | (simp; done) | (simp; omega) | omega) _ | refine Below.trans ?_ (Below.mono (by assumption) (by first | (simp; done) | (simp; omega) | omega))))
  have A1 := Lib.hid (HA0.out.below hb1)
  have E1 := Lib.hid (HE0.out.below hb1)
  have s1 : w.heap.size < w1.heap.size := A1.out.lt
  clear hb1
  rcases hr with rfl | ⟨hr0, hr1, hs⟩
  · go_wp2
    go_ret
    exact ⟨rfl, B1⟩
  have b1 : decide (r < 0) = false := by simp; omega
  obtain ⟨k0, k1⟩ := A1.out
  obtain ⟨l0, l1⟩ := E1.out
  go_wp2_with fail
  refine (szTileSet_any vg vt R r _ (HR.out.below B1) ok2 hr0 hr1).mono ?_
  rintro e w2 ⟨⟨q, rfl, hq⟩, hb2⟩
  have B2 : Below w.heap.size w w2 := by (repeat (first | exact Below.refl _ _ | refine Below.setCell ?_ (by first | (simp; done) | (simp; omega) | omega) _ | refine belowN ?_ _ | refine Below.drew ?_ | refine Below.alloc ?_ (by first | (simp; done) | (simp; omega) | omega) _ | refine Below.trans ?_ (Below.mono (by assumption) (by first | (simp; done) | (simp; omega) | omega))))
  have A2 := Lib.hid (A1.out.below hb2)
  have E2 := Lib.hid (E1.out.below hb2)
  have s2 : w.heap.size < w2.heap.size := A2.out.lt
  clear hb2 k0 k1 l0 l1
  rcases hq with rfl | ⟨hq0, -, hs2⟩
  · go_wp2
    go_ret
    exact ⟨rfl, B2⟩
  have b2 : decide (q < 0) = false := by simp; omega
  obtain ⟨k0, k1⟩ := A2.out
  obtain ⟨l0, l1⟩ := E2.out
  go_wp2_with fail
  go_region_held3 (fun w' => w'.cell? ⟨w.heap.size, 0, none⟩ = some ug ∧ w'.cell? ⟨w.heap.size, 1, none⟩ = some ut ∧ w'.cell? ⟨w.heap.size + 1, 0, none⟩ = some vg ∧ w'.cell? ⟨w.heap.size + 1, 1, none⟩ = some vt) ((((try go_split_ands); (try dsimp only); (repeat' apply And.intro)) <;> (repeat (first | with_reducible assumption | ((with_reducible refine cnew0 ?_); simp; done) | ((with_reducible refine cnew1 ?_); simp; done) | (with_reducible refine akeep ?_) | (with_reducible refine dkeep ?_) | ((with_reducible refine skeep ?_ ?_); rotate_left; (first | ((try dsimp only); omega) | (simp; done) | (simp; omega))) | (with_reducible refine bkeep hb3 ?_)))))
    (first
      | (go_at_call_of 17 (Value.agg #[ug, ut]); refine (toTileSet_any ug ut S _ (HS.out.below (by (repeat (first | exact Below.refl _ _ | refine Below.setCell ?_ (by first | (simp; done) | (simp; omega) | omega) _ | refine belowN ?_ _ | refine Below.drew ?_ | refine Below.alloc ?_ (by first | (simp; done) | (simp; omega) | omega) _ | refine Below.trans ?_ (Below.mono (by assumption) (by first | (simp; done) | (simp; omega) | omega)))))) hs).mono ?_; rintro e w3 ⟨⟨ag, at_, rfl, own3⟩, hb3⟩; have X3 := Lib.hid hb3; have s3 : w2.heap.size ≤ w3.heap.size := hb3.size)
      | (go_at_call_of 17 (Value.agg #[vg, vt]); refine (toTileSet_any vg vt R _ (HR.out.below (by (repeat (first | exact Below.refl _ _ | refine Below.setCell ?_ (by first | (simp; done) | (simp; omega) | omega) _ | refine belowN ?_ _ | refine Below.drew ?_ | refine Below.alloc ?_ (by first | (simp; done) | (simp; omega) | omega) _ | refine Below.trans ?_ (Below.mono (by assumption) (by first | (simp; done) | (simp; omega) | omega)))))) hs2).mono ?_; rintro e w4 ⟨⟨cg, ct, rfl, own4⟩, hb3⟩; have X4 := Lib.hid hb3; have s4 : w3.heap.size ≤ w4.heap.size := hb3.size)
      | (go_at_call 20; refine (specSameSet_any _ _ _ _ S R _ ((own3.setIn hs).below (by (repeat (first | exact Below.refl _ _ | refine Below.setCell ?_ (by first | (simp; done) | (simp; omega) | omega) _ | refine belowN ?_ _ | refine Below.drew ?_ | refine Below.alloc ?_ (by first | (simp; done) | (simp; omega) | omega) _ | refine Below.trans ?_ (Below.mono (by assumption) (by first | (simp; done) | (simp; omega) | omega)))))) ((own4.setIn hs2).below (by (repeat (first | exact Below.refl _ _ | refine Below.setCell ?_ (by first | (simp; done) | (simp; omega) | omega) _ | refine belowN ?_ _ | refine Below.drew ?_ | refine Below.alloc ?_ (by first | (simp; done) | (simp; omega) | omega) _ | refine Below.trans ?_ (Below.mono (by assumption) (by first | (simp; done) | (simp; omega) | omega))))))).mono ?_; rintro e w5 ⟨rfl, hb3⟩))
  have q5 : Below w2.heap.size w2 w5 := by (repeat (first | exact Below.refl _ _ | refine Below.setCell ?_ (by first | (simp; done) | (simp; omega) | omega) _ | refine belowN ?_ _ | refine Below.drew ?_ | refine Below.alloc ?_ (by first | (simp; done) | (simp; omega) | omega) _ | refine Below.trans ?_ (Below.mono (by assumption) (by first | (simp; done) | (simp; omega) | omega))))
  have B5 : Below w.heap.size w w5 := B2.trans (q5.mono (by omega))
  have A5 := Lib.hid (A2.out.below q5)
  have E5 := Lib.hid (E2.out.below q5)
  have s5 : w.heap.size < w5.heap.size := A5.out.lt
  clear hb3 q5 k0 k1 l0 l1 own3 own4
  obtain ⟨k0, k1⟩ := A5.out
  obtain ⟨l0, l1⟩ := E5.out
  go_wp2_with fail
  refine (toTileSet_any ug ut S _ (HS.out.below B5) hs).mono ?_
  rintro e w6 ⟨⟨xg, xt, rfl, own⟩, hb6⟩
  have B6 : Below w.heap.size w w6 := by (repeat (first | exact Below.refl _ _ | refine Below.setCell ?_ (by first | (simp; done) | (simp; omega) | omega) _ | refine belowN ?_ _ | refine Below.drew ?_ | refine Below.alloc ?_ (by first | (simp; done) | (simp; omega) | omega) _ | refine Below.trans ?_ (Below.mono (by assumption) (by first | (simp; done) | (simp; omega) | omega))))
  have A6 := Lib.hid (A5.out.below hb6)
  have E6 := Lib.hid (E5.out.below hb6)
  have s6 : w.heap.size < w6.heap.size := A6.out.lt
  have s6' : w.heap.size + 1 < w6.heap.size := E6.out.lt
  have X6 := Lib.hid (own.setIn hs)
  clear hb6 own k0 k1 l0 l1
  obtain ⟨p1, p2, p3, p4, p5, p6, rfl, rfl⟩ := X6.out.shape
  obtain ⟨l0, l1⟩ := E6.out
  go_wp2_with fail
  refine (toTileSet_any vg vt R _ (HR.out.below (by (repeat (first | exact Below.refl _ _ | refine Below.setCell ?_ (by first | (simp; done) | (simp; omega) | omega) _ | refine belowN ?_ _ | refine Below.drew ?_ | refine Below.alloc ?_ (by first | (simp; done) | (simp; omega) | omega) _ | refine Below.trans ?_ (Below.mono (by assumption) (by first | (simp; done) | (simp; omega) | omega)))))) hs2).mono ?_
  rintro e w7 ⟨⟨yg, yt, rfl, own⟩, hb7⟩
  have q7 : Below w6.heap.size w6 w7 := by (repeat (first | exact Below.refl _ _ | refine Below.setCell ?_ (by first | (simp; done) | (simp; omega) | omega) _ | refine belowN ?_ _ | refine Below.drew ?_ | refine Below.alloc ?_ (by first | (simp; done) | (simp; omega) | omega) _ | refine Below.trans ?_ (Below.mono (by assumption) (by first | (simp; done) | (simp; omega) | omega))))
  have Y7 := Lib.hid ((At.new w6 (.slice p1 p2 p3) (.slice p4 p5 p6) 31).below hb7)
  have B7 : Below w.heap.size w w7 := B6.trans (q7.mono (by omega))
  have A7 := Lib.hid (A6.out.below q7)
  have E7 := Lib.hid (E6.out.below q7)
  have s7 : w6.heap.size < w7.heap.size := Y7.out.lt
  have X7 := Lib.hid (X6.out.below q7)
  have Z7 := Lib.hid (own.setIn hs2)
  clear hb7 own q7 l0 l1
  obtain ⟨m1, m2, m3, m4, m5, m6, rfl, rfl⟩ := Z7.out.shape
  obtain ⟨n0, n1⟩ := Y7.out
  go_wp2_with fail
  refine (implSameSet_any _ _ _ _ S R _ (X7.out.below (by (repeat (first | exact Below.refl _ _ | refine Below.setCell ?_ (by first | (simp; done) | (simp; omega) | omega) _ | refine belowN ?_ _ | refine Below.drew ?_ | refine Below.alloc ?_ (by first | (simp; done) | (simp; omega) | omega) _ | refine Below.trans ?_ (Below.mono (by assumption) (by first | (simp; done) | (simp; omega) | omega)))))) (Z7.out.below (by (repeat (first | exact Below.refl _ _ | refine Below.setCell ?_ (by first | (simp; done) | (simp; omega) | omega) _ | refine belowN ?_ _ | refine Below.drew ?_ | refine Below.alloc ?_ (by first | (simp; done) | (simp; omega) | omega) _ | refine Below.trans ?_ (Below.mono (by assumption) (by first | (simp; done) | (simp; omega) | omega))))))).mono ?_
  rintro e w8 ⟨rfl, hb8⟩
  have q8 : Below w7.heap.size w7 w8 := by (repeat (first | exact Below.refl _ _ | refine Below.setCell ?_ (by first | (simp; done) | (simp; omega) | omega) _ | refine belowN ?_ _ | refine Below.drew ?_ | refine Below.alloc ?_ (by first | (simp; done) | (simp; omega) | omega) _ | refine Below.trans ?_ (Below.mono (by assumption) (by first | (simp; done) | (simp; omega) | omega))))
  have V8 := Lib.hid ((At.new w7 (.slice m1 m2 m3) (.slice m4 m5 m6) 31).below hb8)
  have B8 : Below w.heap.size w w8 := B7.trans (q8.mono (by omega))
  have A8 := Lib.hid (A7.out.below q8)
  have E8 := Lib.hid (E7.out.below q8)
  have X8 := Lib.hid (X7.out.below q8)
  have Y8 := Lib.hid (Y7.out.below q8)
  have Z8 := Lib.hid (Z7.out.below q8)
  have s8 : w7.heap.size < w8.heap.size := V8.out.lt
  have s8' : w.heap.size < w8.heap.size := by omega
  clear hb8 q8 n0 n1
  obtain ⟨k0, k1⟩ := A8.out
  obtain ⟨l0, l1⟩ := E8.out
  obtain ⟨n0, n1⟩ := Y8.out
  obtain ⟨o0, o1⟩ := V8.out
  go_wp2_with fail
  go_region_held3 (fun w' => w'.cell? ⟨w.heap.size, 0, none⟩ = some ug ∧ w'.cell? ⟨w.heap.size, 1, none⟩ = some ut ∧ w'.cell? ⟨w6.heap.size, 0, none⟩ = some (.slice p1 p2 p3) ∧ w'.cell? ⟨w6.heap.size, 1, none⟩ = some (.slice p4 p5 p6)) ((((try go_split_ands); (try dsimp only); (repeat' apply And.intro)) <;> (repeat (first | with_reducible assumption | ((with_reducible refine cnew0 ?_); simp; done) | ((with_reducible refine cnew1 ?_); simp; done) | (with_reducible refine akeep ?_) | (with_reducible refine dkeep ?_) | ((with_reducible refine skeep ?_ ?_); rotate_left; (first | ((try dsimp only); omega) | (simp; done) | (simp; omega))) | (with_reducible refine bkeep hb3 ?_)))))
    (first
      | (go_at_call 17; refine (toTileSet_any ug ut S _ (HS.out.below (by (repeat (first | exact Below.refl _ _ | refine Below.setCell ?_ (by first | (simp; done) | (simp; omega) | omega) _ | refine belowN ?_ _ | refine Below.drew ?_ | refine Below.alloc ?_ (by first | (simp; done) | (simp; omega) | omega) _ | refine Below.trans ?_ (Below.mono (by assumption) (by first | (simp; done) | (simp; omega) | omega)))))) hs).mono ?_; rintro e w9 ⟨⟨zg, zt, rfl, own9⟩, hb3⟩; have X9 := Lib.hid hb3; have s9 : w8.heap.size ≤ w9.heap.size := hb3.size)
      | (go_at_call 19; refine (eqTileSet_yes _ _ _ _ S _ (X8.out.below (by (repeat (first | exact Below.refl _ _ | refine Below.setCell ?_ (by first | (simp; done) | (simp; omega) | omega) _ | refine belowN ?_ _ | refine Below.drew ?_ | refine Below.alloc ?_ (by first | (simp; done) | (simp; omega) | omega) _ | refine Below.trans ?_ (Below.mono (by assumption) (by first | (simp; done) | (simp; omega) | omega)))))) ((own9.setIn hs).below (by (repeat (first | exact Below.refl _ _ | refine Below.setCell ?_ (by first | (simp; done) | (simp; omega) | omega) _ | refine belowN ?_ _ | refine Below.drew ?_ | refine Below.alloc ?_ (by first | (simp; done) | (simp; omega) | omega) _ | refine Below.trans ?_ (Below.mono (by assumption) (by first | (simp; done) | (simp; omega) | omega))))))).mono ?_; rintro e w10 ⟨rfl, hb3⟩))
  have q10 : Below w8.heap.size w8 w10 := by (repeat (first | exact Below.refl _ _ | refine Below.setCell ?_ (by first | (simp; done) | (simp; omega) | omega) _ | refine belowN ?_ _ | refine Below.drew ?_ | refine Below.alloc ?_ (by first | (simp; done) | (simp; omega) | omega) _ | refine Below.trans ?_ (Below.mono (by assumption) (by first | (simp; done) | (simp; omega) | omega))))
  have B10 : Below w.heap.size w w10 := B8.trans (q10.mono (by omega))
  have E10 := Lib.hid (E8.out.below q10)
  have V10 := Lib.hid (V8.out.below q10)
  have Z10 := Lib.hid (Z8.out.below q10)
  have s10 : w.heap.size < w10.heap.size := by have := q10.size; omega
  clear hb3 q10 k0 k1 l0 l1 n0 n1 o0 o1 own9
  obtain ⟨l0, l1⟩ := E10.out
  obtain ⟨o0, o1⟩ := V10.out
  go_wp2_with fail
  go_region_held3 (fun w' => w'.cell? ⟨w.heap.size + 1, 0, none⟩ = some vg ∧ w'.cell? ⟨w.heap.size + 1, 1, none⟩ = some vt ∧ w'.cell? ⟨w7.heap.size, 0, none⟩ = some (.slice m1 m2 m3) ∧ w'.cell? ⟨w7.heap.size, 1, none⟩ = some (.slice m4 m5 m6)) ((((try go_split_ands); (try dsimp only); (repeat' apply And.intro)) <;> (repeat (first | with_reducible assumption | ((with_reducible refine cnew0 ?_); simp; done) | ((with_reducible refine cnew1 ?_); simp; done) | (with_reducible refine akeep ?_) | (with_reducible refine dkeep ?_) | ((with_reducible refine skeep ?_ ?_); rotate_left; (first | ((try dsimp only); omega) | (simp; done) | (simp; omega))) | (with_reducible refine bkeep hb3 ?_)))))
    (first
      | (go_at_call 17; refine (toTileSet_any vg vt R _ (HR.out.below (by (repeat (first | exact Below.refl _ _ | refine Below.setCell ?_ (by first | (simp; done) | (simp; omega) | omega) _ | refine belowN ?_ _ | refine Below.drew ?_ | refine Below.alloc ?_ (by first | (simp; done) | (simp; omega) | omega) _ | refine Below.trans ?_ (Below.mono (by assumption) (by first | (simp; done) | (simp; omega) | omega)))))) hs2).mono ?_; rintro e w11 ⟨⟨ig, it, rfl, own11⟩, hb3⟩; have X11 := Lib.hid hb3; have s11 : w10.heap.size ≤ w11.heap.size := hb3.size)
      | (go_at_call 19; refine (eqTileSet_yes _ _ _ _ R _ (Z10.out.below (by (repeat (first | exact Below.refl _ _ | refine Below.setCell ?_ (by first | (simp; done) | (simp; omega) | omega) _ | refine belowN ?_ _ | refine Below.drew ?_ | refine Below.alloc ?_ (by first | (simp; done) | (simp; omega) | omega) _ | refine Below.trans ?_ (Below.mono (by assumption) (by first | (simp; done) | (simp; omega) | omega)))))) ((own11.setIn hs2).below (by (repeat (first | exact Below.refl _ _ | refine Below.setCell ?_ (by first | (simp; done) | (simp; omega) | omega) _ | refine belowN ?_ _ | refine Below.drew ?_ | refine Below.alloc ?_ (by first | (simp; done) | (simp; omega) | omega) _ | refine Below.trans ?_ (Below.mono (by assumption) (by first | (simp; done) | (simp; omega) | omega))))))).mono ?_; rintro e w12 ⟨rfl, hb3⟩))
  have q12 : Below w10.heap.size w10 w12 := by (repeat (first | exact Below.refl _ _ | refine Below.setCell ?_ (by first | (simp; done) | (simp; omega) | omega) _ | refine belowN ?_ _ | refine Below.drew ?_ | refine Below.alloc ?_ (by first | (simp; done) | (simp; omega) | omega) _ | refine Below.trans ?_ (Below.mono (by assumption) (by first | (simp; done) | (simp; omega) | omega))))
  have B12 : Below w.heap.size w w12 := B10.trans (q12.mono (by omega))
  go_wp2
  go_ret
  exact ⟨rfl, B12⟩

namespace fnExactSameSet
open Go.ChangeShapes Go.WideShapes Go.ChangeAt Go.RowKit Go.Joins
open Go.ChangeMaps (open_string shut_string)
theorem own : ownKnob Try.prog.godebug = none := by kernel_rfl
theorem laidOut : laidOutB Try.prog = true := by kernel_rfl
theorem readable : (Try.f4.params.toList.all fun t => Try.prog.readableRec t && decide (t < Try.prog.types.size)) = true := by kernel_rfl
theorem cells_0 : Try.prog.cellsOf 25 = 2 := by kernel_rfl
theorem cells_1 : Try.prog.cellsOf 25 = 2 := by kernel_rfl
set_option maxRecDepth 100000 in
set_option linter.unusedVariables false in
theorem contract (H : Type) (enc : TypeId × Value → H) (W : World) (base : Nat) (args : Array Value) (ds gs : List (DataW H)) (before : List MemPlace)
    (hval : ∀ (j : Nat) t v, Try.f4.params[j]? = some t → args[j]? = some v → Value.okWide Try.prog W .any base t v)
    (hW : DataW.Whole enc Try.prog Try.f4.params.toList Rows.fnExactSameSetSpec.vars false W args.toList ds gs before) :
    Calls Try.prog 4 args W fun e W' => ∃ v, e = .returned v ∧ Rows.fnExactSameSetSpec.post enc Try.prog Try.f4 false true false false W args v W' := by
  have hW' := hW
  obtain ⟨p, q, hA0, hV, rfl, hfz, hnd⟩ := hW
  have hA : DataW.TrodAll enc Try.prog W 0 (fun _ => true) true Try.f4.params.toList args.toList ds p := hA0
  rw [Try.params4] at hA hval
  obtain ⟨v0, vs0, d0, ds0, p0, q0, ha0, rfl, rfl, h0, r0⟩ := trodAll_cons hA
  obtain ⟨v1, vs1, d1, ds1, p1, q1, ha1, rfl, rfl, h1, r1⟩ := trodAll_cons r0
  obtain ⟨rfl, rfl, rfl⟩ := trodAll_nil r1
  obtain rfl : args = #[v0, v1] := by cases args; simp_all
  obtain ⟨rfl, rfl⟩ := trodVars_none hV
  obtain ⟨c0, e0, y0, z0, m0, rfl, -, -, hy0, hz0⟩ := open_agg2 Try.underlying25 (by kernel_rfl) cells_0 (hval 0 25 v0 rfl rfl) h0
  obtain ⟨gs0, hg0, og0⟩ := open_glues (t := 22) (e := 107) Try.underlying22 Try.underlying107 (by kernel_rfl) (by kernel_rfl) rfl rfl Try.underlying9 Try.underlying2 hy0
  obtain ⟨ts0, ht0, ot0⟩ := open_tiles (t := 23) (e := 109) Try.underlying23 Try.underlying109 (by kernel_rfl) (by kernel_rfl) rfl rfl Try.underlying9 Try.underlying44 Try.underlying2 (by kernel_rfl) hz0
  obtain ⟨c1, e1, y1, z1, m1, rfl, -, -, hy1, hz1⟩ := open_agg2 Try.underlying25 (by kernel_rfl) cells_1 (hval 1 25 v1 rfl rfl) h1
  obtain ⟨gs1, hg1, og1⟩ := open_glues (t := 22) (e := 107) Try.underlying22 Try.underlying107 (by kernel_rfl) (by kernel_rfl) rfl rfl Try.underlying9 Try.underlying2 hy1
  obtain ⟨ts1, ht1, ot1⟩ := open_tiles (t := 23) (e := 109) Try.underlying23 Try.underlying109 (by kernel_rfl) (by kernel_rfl) rfl rfl Try.underlying9 Try.underlying44 Try.underlying2 (by kernel_rfl) hz1
  refine (walk_FnExactSameSet c0 e0 ⟨gs0, ts0⟩ c1 e1 ⟨gs1, ts1⟩ W ⟨hg0, ht0⟩ ⟨og0, ot0⟩ ⟨hg1, ht1⟩ ⟨og1, ot1⟩).mono fun e W' ⟨he, hg⟩ => ?_
  subst he
  exact ⟨_, rfl, post_mem laidOut readable hW' (fun _ _ _ => (trodAll_cons_mk (shut_bool Try.underlying4 _) trodAll_mk0)) hA0 rfl rfl (by simp) hg⟩
set_option maxRecDepth 100000 in
theorem lifted (os : Os) (started : os.Started) (H : Type) (enc : TypeId × Value → H) :
    ReturnsInHanded {} Try.checked os 4 .any (Rows.fnExactSameSetSpec.pre6 enc Try.prog Try.f4 Rows.fnExactSameSetRow.domain false) (Rows.fnExactSameSetSpec.post enc Try.prog Try.f4 false true false false) := by
  refine returnsInHanded_of_change (C := Try.checked) own started (by kernel_rfl) Try.func4
    (ChangeSpec.witness6 (enc := enc) (C := Try.checked) false ⟨#[], #[.agg #[.slice none 0 0, .slice none 0 0], .agg #[.slice none 0 0, .slice none 0 0]], []⟩ 8 (by kernel_rfl) (by kernel_rfl) (by kernel_rfl) (by kernel_rfl)) ?_
  intro W base args ds gs before hval hW _ _
  exact contract H enc W base args ds gs before hval hW
end fnExactSameSet
theorem fnExactSameSet_holds : Rows.FnExactSameSetSaid :=
  OpenClaim.holds_of_wide 4 Try.f4 rfl rfl rfl rfl rfl rfl rfl ⟨rfl, rfl, rfl, rfl, rfl⟩ rfl rfl rfl rfl rfl (by kernel_rfl) Try.func4 (by kernel_rfl)
    (of_decide_eq_true (by kernel_rfl)) (by unfold Func.isWrapper; first | (rw [if_pos (by decide +kernel)]; kernel_rfl) | (rw [if_neg (by decide +kernel)]; exact ⟨rfl, rfl⟩))
    (fun os started H enc _ => fnExactSameSet.lifted os started H enc)
end Go.Proofs.Ytfoegoanbppaaaa
