/-
  FindGlue and FindTile, the model's and the program's: the same function of the set and the name. Conditions: each theorem's own.
-/
import Derived.Test.YtfoegoanbppaaaaSetLaw
namespace Go.Proofs.Ytfoegoanbppaaaa
open Go.RowKit Go.Maps Go.WideMaps

theorem ret_ib {a x : Int} {b y : Bool} (h : a = x) (k : b = y) : Ending.returned (.tuple #[.int .i64 a, .bool b]) = .returned (.tuple #[.int .i64 x, .bool y]) := by rw [h, k]
def maxZ (a b : Int) : Int := if b < a then a else b
noncomputable def fg1 (S : Set_) (s : ByteArray) : Int := if validB S = true then gFind S.gs s else 0
noncomputable def fg2 (S : Set_) (s : ByteArray) : Bool := validB S && decide (0 < gFind S.gs s)
noncomputable def ft1 (S : Set_) (s : ByteArray) : Int := if validB S = true then maxZ (tFind S.ts s) 0 else 0
noncomputable def ft2 (S : Set_) (s : ByteArray) : Bool := validB S && decide (0 ≤ tFind S.ts s)
theorem fg_no {S : Set_} (h : validB S = false) (s : ByteArray) : fg1 S s = 0 ∧ fg2 S s = false := by simp [fg1, fg2, h]
theorem fg_yes {S : Set_} (h : validB S = true) (s : ByteArray) : fg1 S s = gFind S.gs s ∧ fg2 S s = decide (0 < gFind S.gs s) := by simp [fg1, fg2, h]
theorem ft_no {S : Set_} (h : validB S = false) (s : ByteArray) : ft1 S s = 0 ∧ ft2 S s = false := by simp [ft1, ft2, h]
theorem ft_yes {S : Set_} (h : validB S = true) (s : ByteArray) : ft1 S s = maxZ (tFind S.ts s) 0 ∧ ft2 S s = decide (0 ≤ tFind S.ts s) := by simp [ft1, ft2, h]

theorem specFindGlue_any (vg vt : Value) (S : Set_) (s : ByteArray) (w : World) (hS : SetIn w vg vt S) (ok : S.ok) (hs : S.small) (_hsz : s.size ≤ maxLen) :
    Calls Try.prog 22 #[.agg #[vg, vt], .string s] w fun e w' => e = .returned (.tuple #[.int .i64 (fg1 S s), .bool (fg2 S s)]) ∧ Below w.heap.size w w' := by
  have HS := Lib.hid hS
  have hgl := hs.gl
  clear hS
  cases hv : validB S
  · have K := Lib.hid (fg_no hv s)
    go_enter Try.func22, Try.ntmps22
    go_wp2_with fail
    refine (l02Ok_any w.heap.size vg vt S _ ⟨by simp [go_sem], by simp [go_sem]⟩ (HS.out.below (by (repeat (first | exact Below.refl _ _ | refine Below.setCell ?_ (by first | (simp; done) | (simp; omega) | omega) _ | refine belowN ?_ _ | refine Below.drew ?_ | refine Below.alloc ?_ (by first | (simp; done) | (simp; omega) | omega) _ | refine Below.trans ?_ (Below.mono (by assumption) (by first | (simp; done) | (simp; omega) | omega)))))) ok hs).mono ?_
    rintro e w1 ⟨rfl, hb1⟩
    go_wp2_with fail
    go_ret2
    exact ⟨ret_ib K.out.1.symm K.out.2.symm, by (repeat (first | exact Below.refl _ _ | refine Below.setCell ?_ (by first | (simp; done) | (simp; omega) | omega) _ | refine belowN ?_ _ | refine Below.drew ?_ | refine Below.alloc ?_ (by first | (simp; done) | (simp; omega) | omega) _ | refine Below.trans ?_ (Below.mono (by assumption) (by first | (simp; done) | (simp; omega) | omega))))⟩
  · have K := Lib.hid (fg_yes hv s)
    go_enter Try.func22, Try.ntmps22
    go_wp2_with fail
    refine (l02Ok_any w.heap.size vg vt S _ ⟨by simp [go_sem], by simp [go_sem]⟩ (HS.out.below (by (repeat (first | exact Below.refl _ _ | refine Below.setCell ?_ (by first | (simp; done) | (simp; omega) | omega) _ | refine belowN ?_ _ | refine Below.drew ?_ | refine Below.alloc ?_ (by first | (simp; done) | (simp; omega) | omega) _ | refine Below.trans ?_ (Below.mono (by assumption) (by first | (simp; done) | (simp; omega) | omega)))))) ok hs).mono ?_
    rintro e w1 ⟨rfl, hb1⟩
    have A1 := Lib.hid ((At.new w vg vt 31).below hb1)
    have s1 := hb1.size
    simp at s1
    go_wp2_with fail
    refine (l02Glue_any w.heap.size vg vt S.gs s _ A1.out (HS.out.g.below (by (repeat (first | exact Below.refl _ _ | refine Below.setCell ?_ (by first | (simp; done) | (simp; omega) | omega) _ | refine belowN ?_ _ | refine Below.drew ?_ | refine Below.alloc ?_ (by first | (simp; done) | (simp; omega) | omega) _ | refine Below.trans ?_ (Below.mono (by assumption) (by first | (simp; done) | (simp; omega) | omega)))))) hgl).mono ?_
    rintro e w2 ⟨rfl, hb2⟩
    go_wp2_with fail
    go_ret2
    exact ⟨ret_ib K.out.1.symm (by rw [K.out.2]), by (repeat (first | exact Below.refl _ _ | refine Below.setCell ?_ (by first | (simp; done) | (simp; omega) | omega) _ | refine belowN ?_ _ | refine Below.drew ?_ | refine Below.alloc ?_ (by first | (simp; done) | (simp; omega) | omega) _ | refine Below.trans ?_ (Below.mono (by assumption) (by first | (simp; done) | (simp; omega) | omega))))⟩

theorem l00Max_any (a b : Int) (w : World) : Calls Try.prog 63 #[.int .i64 a, .int .i64 b] w fun e w' => e = .returned (.int .i64 (maxZ a b)) ∧ w = w' := by
  unfold maxZ
  by_cases h : b < a
  · rw [if_pos h]
    go_enter Try.func63, Try.ntmps63
    go_wp2
    go_ret
    exact ⟨rfl, rfl⟩
  · rw [if_neg h]
    go_enter Try.func63, Try.ntmps63
    go_wp2
    go_ret
    exact ⟨rfl, rfl⟩

theorem specFindTile_any (vg vt : Value) (S : Set_) (s : ByteArray) (w : World) (hS : SetIn w vg vt S) (ok : S.ok) (hs : S.small) (_hsz : s.size ≤ maxLen) :
    Calls Try.prog 24 #[.agg #[vg, vt], .string s] w fun e w' => e = .returned (.tuple #[.int .i64 (ft1 S s), .bool (ft2 S s)]) ∧ Below w.heap.size w w' := by
  have HS := Lib.hid hS
  have htl := hs.tl
  clear hS
  cases hv : validB S
  · have K := Lib.hid (ft_no hv s)
    go_enter Try.func24, Try.ntmps24
    go_wp2_with fail
    refine (l02Ok_any w.heap.size vg vt S _ ⟨by simp [go_sem], by simp [go_sem]⟩ (HS.out.below (by (repeat (first | exact Below.refl _ _ | refine Below.setCell ?_ (by first | (simp; done) | (simp; omega) | omega) _ | refine belowN ?_ _ | refine Below.drew ?_ | refine Below.alloc ?_ (by first | (simp; done) | (simp; omega) | omega) _ | refine Below.trans ?_ (Below.mono (by assumption) (by first | (simp; done) | (simp; omega) | omega)))))) ok hs).mono ?_
    rintro e w1 ⟨rfl, hb1⟩
    go_wp2_with fail
    go_ret2
    exact ⟨ret_ib K.out.1.symm K.out.2.symm, by (repeat (first | exact Below.refl _ _ | refine Below.setCell ?_ (by first | (simp; done) | (simp; omega) | omega) _ | refine belowN ?_ _ | refine Below.drew ?_ | refine Below.alloc ?_ (by first | (simp; done) | (simp; omega) | omega) _ | refine Below.trans ?_ (Below.mono (by assumption) (by first | (simp; done) | (simp; omega) | omega))))⟩
  · have K := Lib.hid (ft_yes hv s)
    go_enter Try.func24, Try.ntmps24
    go_wp2_with fail
    refine (l02Ok_any w.heap.size vg vt S _ ⟨by simp [go_sem], by simp [go_sem]⟩ (HS.out.below (by (repeat (first | exact Below.refl _ _ | refine Below.setCell ?_ (by first | (simp; done) | (simp; omega) | omega) _ | refine belowN ?_ _ | refine Below.drew ?_ | refine Below.alloc ?_ (by first | (simp; done) | (simp; omega) | omega) _ | refine Below.trans ?_ (Below.mono (by assumption) (by first | (simp; done) | (simp; omega) | omega)))))) ok hs).mono ?_
    rintro e w1 ⟨rfl, hb1⟩
    have A1 := Lib.hid ((At.new w vg vt 31).below hb1)
    have s1 := hb1.size
    simp at s1
    go_wp2_with fail
    refine (l02Tile_any w.heap.size vg vt S.ts s _ A1.out (HS.out.t.below (by (repeat (first | exact Below.refl _ _ | refine Below.setCell ?_ (by first | (simp; done) | (simp; omega) | omega) _ | refine belowN ?_ _ | refine Below.drew ?_ | refine Below.alloc ?_ (by first | (simp; done) | (simp; omega) | omega) _ | refine Below.trans ?_ (Below.mono (by assumption) (by first | (simp; done) | (simp; omega) | omega)))))) htl).mono ?_
    rintro e w2 ⟨rfl, hb2⟩
    go_wp2_with (go_at_call 63; refine (l00Max_any _ _ _).mono ?_; rintro e w' ⟨rfl, rfl⟩)
    go_ret2
    exact ⟨ret_ib K.out.1.symm (by rw [K.out.2]), by (repeat (first | exact Below.refl _ _ | refine Below.setCell ?_ (by first | (simp; done) | (simp; omega) | omega) _ | refine belowN ?_ _ | refine Below.drew ?_ | refine Below.alloc ?_ (by first | (simp; done) | (simp; omega) | omega) _ | refine Below.trans ?_ (Below.mono (by assumption) (by first | (simp; done) | (simp; omega) | omega))))⟩

theorem found_g {S : Set_} (hv : Valid S) (s : ByteArray) {c : Int} (hat : (numMap (gN S.gs) 1 S.gs.length).atKey (keyL s) (.lit (.int .i64 0)) = .lit (.int .i64 c)) :
    c = gFind S.gs s ∧ Maps.has (numMap (gN S.gs) 1 S.gs.length) (keyL s) = decide (0 < gFind S.gs s) := by
  rcases gFind_of (gs := S.gs) s with ⟨h0, hn⟩ | ⟨k, hk, hf, hkn, -⟩
  · rw [numMap_none _ _ _ _ hn] at hat
    refine ⟨by rw [h0]; simpa using hat.symm, ?_⟩
    simp [numMap_hasB _ _ _ _ hn, h0]
  · subst hkn
    rw [numMap_at _ _ _ (fun i j hij hj => (hv.g.all j hj).2.2 i hij) k hk] at hat
    refine ⟨by rw [hf]; simpa using hat.symm, ?_⟩
    rw [(numMap_has _ _ _ _).2 ⟨k, hk, rfl⟩, hf]
    symm; simp [show (0:Int) < (k:Int) + 1 by omega]
theorem found_t {S : Set_} (hv : Valid S) (s : ByteArray) {c : Int} (hat : (numMap (tN S.ts) 0 S.ts.length).atKey (keyL s) (.lit (.int .i64 0)) = .lit (.int .i64 c)) :
    c = maxZ (tFind S.ts s) 0 ∧ Maps.has (numMap (tN S.ts) 0 S.ts.length) (keyL s) = decide (0 ≤ tFind S.ts s) := by
  rcases tFind_of (ts := S.ts) s with ⟨h0, hn⟩ | ⟨k, hk, hf, hkn, -⟩
  · rw [numMap_none _ _ _ _ hn] at hat
    refine ⟨by rw [h0]; simpa [maxZ] using hat.symm, ?_⟩
    simp [numMap_hasB _ _ _ _ hn, h0]
  · subst hkn
    rw [numMap_at _ _ _ (fun i j hij hj => (hv.t.all j hj).2.2 i hij) k hk] at hat
    have e : c = (k : Int) := by simpa using hat.symm
    refine ⟨by rw [hf, e]; unfold maxZ; split <;> omega, ?_⟩
    rw [(numMap_has _ _ _ _).2 ⟨k, hk, rfl⟩, hf]
    symm; simp

theorem implFindGlue_any (vg vt : Value) (S : Set_) (s : ByteArray) (w : World) (hS : SetIn w vg vt S) (ok : S.ok) (hs : S.small) (hsz : s.size ≤ maxLen) :
    Calls Try.prog 23 #[.agg #[vg, vt], .string s] w fun e w' => e = .returned (.tuple #[.int .i64 (fg1 S s), .bool (fg2 S s)]) ∧ Below w.heap.size w w' := by
  have HS := Lib.hid hS
  have hgl := hs.gl
  clear hS
  cases hv : validB S
  · have K := Lib.hid (fg_no hv s)
    go_enter Try.func23, Try.ntmps23
    go_wp2_with fail
    refine (implValid_any vg vt S _ (HS.out.below (by (repeat (first | exact Below.refl _ _ | refine Below.setCell ?_ (by first | (simp; done) | (simp; omega) | omega) _ | refine belowN ?_ _ | refine Below.drew ?_ | refine Below.alloc ?_ (by first | (simp; done) | (simp; omega) | omega) _ | refine Below.trans ?_ (Below.mono (by assumption) (by first | (simp; done) | (simp; omega) | omega)))))) ok hs).mono ?_
    rintro e w1 ⟨rfl, hb1⟩
    go_wp2_with fail
    go_ret2
    exact ⟨ret_ib K.out.1.symm K.out.2.symm, by (repeat (first | exact Below.refl _ _ | refine Below.setCell ?_ (by first | (simp; done) | (simp; omega) | omega) _ | refine belowN ?_ _ | refine Below.drew ?_ | refine Below.alloc ?_ (by first | (simp; done) | (simp; omega) | omega) _ | refine Below.trans ?_ (Below.mono (by assumption) (by first | (simp; done) | (simp; omega) | omega))))⟩
  · have K := Lib.hid (fg_yes hv s)
    have V := Lib.hid (validB_iff.1 hv)
    go_enter Try.func23, Try.ntmps23
    go_wp2_with fail
    refine (implValid_any vg vt S _ (HS.out.below (by (repeat (first | exact Below.refl _ _ | refine Below.setCell ?_ (by first | (simp; done) | (simp; omega) | omega) _ | refine belowN ?_ _ | refine Below.drew ?_ | refine Below.alloc ?_ (by first | (simp; done) | (simp; omega) | omega) _ | refine Below.trans ?_ (Below.mono (by assumption) (by first | (simp; done) | (simp; omega) | omega)))))) ok hs).mono ?_
    rintro e w1 ⟨rfl, hb1⟩
    obtain ⟨k0, k1⟩ := (At.new w vg vt 31).below hb1
    have s1 := hb1.size
    simp at s1
    go_wp2_with fail
    refine (glueNumbers_any vg S.gs _ (HS.out.g.below (by (repeat (first | exact Below.refl _ _ | refine Below.setCell ?_ (by first | (simp; done) | (simp; omega) | omega) _ | refine belowN ?_ _ | refine Below.drew ?_ | refine Below.alloc ?_ (by first | (simp; done) | (simp; omega) | omega) _ | refine Below.trans ?_ (Below.mono (by assumption) (by first | (simp; done) | (simp; omega) | omega)))))) ok.g hgl).mono ?_
    rintro e w2 ⟨⟨rfl, hmap⟩, hb2⟩
    go_wp2_with (at_lookup; refine wpList_lookup_own_ok_int _ rfl _ _ 76 rfl 9 2 .i64 law Try.underlying76 Try.underlying2 (zeroE _) _ _ _ rfl hmap _ _ rfl (keyOf_string_mk Try.underlying9 hsz) ?_; intro c hat hwc)
    have F := found_g V.out s hat
    go_ret2
    exact ⟨ret_ib (by rw [K.out.1]; exact F.1) (by rw [K.out.2]; exact F.2), by (repeat (first | exact Below.refl _ _ | refine Below.setCell ?_ (by first | (simp; done) | (simp; omega) | omega) _ | refine belowN ?_ _ | refine Below.drew ?_ | refine Below.alloc ?_ (by first | (simp; done) | (simp; omega) | omega) _ | refine Below.trans ?_ (Below.mono (by assumption) (by first | (simp; done) | (simp; omega) | omega))))⟩

theorem implFindTile_any (vg vt : Value) (S : Set_) (s : ByteArray) (w : World) (hS : SetIn w vg vt S) (ok : S.ok) (hs : S.small) (hsz : s.size ≤ maxLen) :
    Calls Try.prog 25 #[.agg #[vg, vt], .string s] w fun e w' => e = .returned (.tuple #[.int .i64 (ft1 S s), .bool (ft2 S s)]) ∧ Below w.heap.size w w' := by
  have HS := Lib.hid hS
  have htl := hs.tl
  clear hS
  cases hv : validB S
  · have K := Lib.hid (ft_no hv s)
    go_enter Try.func25, Try.ntmps25
    go_wp2_with fail
    refine (implValid_any vg vt S _ (HS.out.below (by (repeat (first | exact Below.refl _ _ | refine Below.setCell ?_ (by first | (simp; done) | (simp; omega) | omega) _ | refine belowN ?_ _ | refine Below.drew ?_ | refine Below.alloc ?_ (by first | (simp; done) | (simp; omega) | omega) _ | refine Below.trans ?_ (Below.mono (by assumption) (by first | (simp; done) | (simp; omega) | omega)))))) ok hs).mono ?_
    rintro e w1 ⟨rfl, hb1⟩
    go_wp2_with fail
    go_ret2
    exact ⟨ret_ib K.out.1.symm K.out.2.symm, by (repeat (first | exact Below.refl _ _ | refine Below.setCell ?_ (by first | (simp; done) | (simp; omega) | omega) _ | refine belowN ?_ _ | refine Below.drew ?_ | refine Below.alloc ?_ (by first | (simp; done) | (simp; omega) | omega) _ | refine Below.trans ?_ (Below.mono (by assumption) (by first | (simp; done) | (simp; omega) | omega))))⟩
  · have K := Lib.hid (ft_yes hv s)
    have V := Lib.hid (validB_iff.1 hv)
    go_enter Try.func25, Try.ntmps25
    go_wp2_with fail
    refine (implValid_any vg vt S _ (HS.out.below (by (repeat (first | exact Below.refl _ _ | refine Below.setCell ?_ (by first | (simp; done) | (simp; omega) | omega) _ | refine belowN ?_ _ | refine Below.drew ?_ | refine Below.alloc ?_ (by first | (simp; done) | (simp; omega) | omega) _ | refine Below.trans ?_ (Below.mono (by assumption) (by first | (simp; done) | (simp; omega) | omega)))))) ok hs).mono ?_
    rintro e w1 ⟨rfl, hb1⟩
    obtain ⟨k0, k1⟩ := (At.new w vg vt 31).below hb1
    have s1 := hb1.size
    simp at s1
    go_wp2_with fail
    refine (tileIndices_any vt S.ts _ (HS.out.t.below (by (repeat (first | exact Below.refl _ _ | refine Below.setCell ?_ (by first | (simp; done) | (simp; omega) | omega) _ | refine belowN ?_ _ | refine Below.drew ?_ | refine Below.alloc ?_ (by first | (simp; done) | (simp; omega) | omega) _ | refine Below.trans ?_ (Below.mono (by assumption) (by first | (simp; done) | (simp; omega) | omega)))))) ok.t htl).mono ?_
    rintro e w2 ⟨⟨rfl, hmap⟩, hb2⟩
    go_wp2_with (at_lookup; refine wpList_lookup_own_ok_int _ rfl _ _ 76 rfl 9 2 .i64 law Try.underlying76 Try.underlying2 (zeroE _) _ _ _ rfl hmap _ _ rfl (keyOf_string_mk Try.underlying9 hsz) ?_; intro c hat hwc)
    have F := found_t V.out s hat
    go_ret2
    exact ⟨ret_ib (by rw [K.out.1]; exact F.1) (by rw [K.out.2]; exact F.2), by (repeat (first | exact Below.refl _ _ | refine Below.setCell ?_ (by first | (simp; done) | (simp; omega) | omega) _ | refine belowN ?_ _ | refine Below.drew ?_ | refine Below.alloc ?_ (by first | (simp; done) | (simp; omega) | omega) _ | refine Below.trans ?_ (Below.mono (by assumption) (by first | (simp; done) | (simp; omega) | omega))))⟩

end Go.Proofs.Ytfoegoanbppaaaa
