/-
  For every set of tiles and every number, RotateSet of the program answers as the model's, both results, in memory of its own; the law FnExactRotateSet returns true and leaves its arguments as they were. Conditions: none.
-/
import Derived.Test.YtcaidemlhgepfabRotS
import Derived.Test.YtcaidemlhgepfabMark
import Derived.Test.YtcaidemlhgepfabSetLaw
namespace Go.Proofs.Ytcaidemlhgepfab
open Go.RowKit

theorem rot_small {S : Set_} {q : Int} (hs : S.small) : (ro1 S q).small := by
  unfold ro1
  split
  · refine ⟨hs.gl, hs.gn, ?_, fun i hi => ?_⟩
    · have := hs.tl; simp only [rotS, rotTs_len]; omega
    · have hi' : i < S.ts.length := by simpa [rotS, rotTs_len] using hi
      have := hs.tn i hi'
      simp only [rotS, rotTs_N S.ts _ hi', rotTs_S S.ts _ hi']
      exact ⟨this.1, by simp [rot]⟩
  · exact ⟨by simp, fun i hi => absurd hi (by simp), by simp, fun i hi => absurd hi (by simp)⟩

set_option maxHeartbeats 4000000 in
theorem walk_FnExactRotateSet (vg vt : Value) (S : Set_) (q : Int) (w : World) (hS : SetIn w vg vt S) (ok : S.ok) (_wq : (Lit.int .i64 q).wf = true) :
    Calls Try.prog 5 #[.agg #[vg, vt], .int .i64 q] w fun e w' => e = .returned (.bool true) ∧ Below w.heap.size w w' := by
  have HS := Lib.hid hS
  clear hS
  go_enter Try.func5, Try.ntmps5
  go_wp2_with fail
  refine (szTileSet_any vg vt S 1048576 _ (HS.out.below (by (repeat (first | exact Below.refl _ _ | refine Below.setCell ?_ (by first | (simp; done) | (simp; omega) | omega) _ | refine belowN ?_ _ | refine Below.drew ?_ | refine Below.alloc ?_ (by first | (simp; done) | (simp; omega) | omega) _ | refine Below.trans ?_ (Below.mono (by assumption) (by first | (simp; done) | (simp; omega) | omega)))))) ok (by omega) (by omega)).mono ?_
  rintro e w1 ⟨⟨r, rfl, hr⟩, hb1⟩
  have B1 : Below w.heap.size w w1 := by (repeat (first | exact Below.refl _ _ | refine Below.setCell ?_ (by first | (simp; done) | (simp; omega) | omega) _ | refine belowN ?_ _ | refine Below.drew ?_ | refine Below.alloc ?_ (by first | (simp; done) | (simp; omega) | omega) _ | refine Below.trans ?_ (Below.mono (by assumption) (by first | (simp; done) | (simp; omega) | omega))))
  have A1 := Lib.hid ((At.new w vg vt 25).below hb1)
  have s1 : w.heap.size < w1.heap.size := A1.out.lt
  clear hb1
  rcases hr with rfl | ⟨hr0, -, hs⟩
  · go_wp2
    go_ret
    exact ⟨rfl, B1⟩
  have htl := hs.tl
  have b1 : decide (r < 0) = false := by simp; omega
  obtain ⟨k0, k1⟩ := A1.out
  go_wp2_with fail
  refine (toTileSet_any vg vt S _ (HS.out.below B1) hs).mono ?_
  rintro e w2 ⟨⟨ag, at_, rfl, own⟩, hb2⟩
  have B2 : Below w.heap.size w w2 := by (repeat (first | exact Below.refl _ _ | refine Below.setCell ?_ (by first | (simp; done) | (simp; omega) | omega) _ | refine belowN ?_ _ | refine Below.drew ?_ | refine Below.alloc ?_ (by first | (simp; done) | (simp; omega) | omega) _ | refine Below.trans ?_ (Below.mono (by assumption) (by first | (simp; done) | (simp; omega) | omega))))
  have A2 := Lib.hid (A1.out.below hb2)
  have s2 : w.heap.size < w2.heap.size := A2.out.lt
  have I2 := Lib.hid (own.setIn hs)
  have D2 : ∃ ad n cap, ag = .slice (some ad) n cap := by obtain ⟨g, t, _, _, h, _⟩ := own; exact ⟨_, _, _, h.1⟩
  clear hb2 own k0 k1
  go_wp2_with fail
  refine (specRotateSet_any ag at_ S q _ I2.out D2 ok hs).mono ?_
  rintro e w3 ⟨⟨vg3, vt3, rfl, hv3⟩, hb3⟩
  have B3 : Below w.heap.size w w3 := by (repeat (first | exact Below.refl _ _ | refine Below.setCell ?_ (by first | (simp; done) | (simp; omega) | omega) _ | refine belowN ?_ _ | refine Below.drew ?_ | refine Below.alloc ?_ (by first | (simp; done) | (simp; omega) | omega) _ | refine Below.trans ?_ (Below.mono (by assumption) (by first | (simp; done) | (simp; omega) | omega))))
  have A3 := Lib.hid (A2.out.below hb3)
  have s3 : w.heap.size < w3.heap.size := A3.out.lt
  have V3 := Lib.hid hv3.setIn
  obtain ⟨v1, v2, v3, v4, v5, v6, rfl, rfl⟩ := hv3.setIn.shape
  clear hb3 hv3
  obtain ⟨k0, k1⟩ := A3.out
  go_wp2_with fail
  refine (toTileSet_any vg vt S _ (HS.out.below (by (repeat (first | exact Below.refl _ _ | refine Below.setCell ?_ (by first | (simp; done) | (simp; omega) | omega) _ | refine belowN ?_ _ | refine Below.drew ?_ | refine Below.alloc ?_ (by first | (simp; done) | (simp; omega) | omega) _ | refine Below.trans ?_ (Below.mono (by assumption) (by first | (simp; done) | (simp; omega) | omega)))))) hs).mono ?_
  rintro e w4 ⟨⟨xg, xt, rfl, own⟩, hb4⟩
  have C4 : Below w3.heap.size w3 w4 := by (repeat (first | exact Below.refl _ _ | refine Below.setCell ?_ (by first | (simp; done) | (simp; omega) | omega) _ | refine belowN ?_ _ | refine Below.drew ?_ | refine Below.alloc ?_ (by first | (simp; done) | (simp; omega) | omega) _ | refine Below.trans ?_ (Below.mono (by assumption) (by first | (simp; done) | (simp; omega) | omega))))
  have B4 : Below w.heap.size w w4 := B3.trans (C4.mono (by omega))
  have A4 := Lib.hid (A3.out.below C4)
  have W4 := Lib.hid ((At.new w3 _ _ _).below hb4)
  have V4 := Lib.hid (V3.out.below C4)
  have X4 := Lib.hid (own.own hs)
  have s4 : w3.heap.size < w4.heap.size := W4.out.lt
  have l3 : (w3.alloc (.cells #[.slice v1 v2 v3, .slice v4 v5 v6] 35)).heap.size = w3.heap.size + 1 := by simp
  rw [l3] at X4
  have D4' : ∃ ad n cap, xg = .slice (some ad) n cap := by obtain ⟨g, t, _, _, h, _⟩ := own; exact ⟨_, _, _, h.1⟩
  clear hb4 own k0 k1 l3
  obtain ⟨p1, p2, p3, p4, p5, p6, rfl, rfl⟩ := X4.out.setIn.shape
  have D4 : Solid (.slice p1 p2 p3) := .inr D4'
  clear D4'
  go_wp2_with fail
  refine (implRotateSet_any _ _ S q _ (X4.out.setIn.below (by (repeat (first | exact Below.refl _ _ | refine Below.setCell ?_ (by first | (simp; done) | (simp; omega) | omega) _ | refine belowN ?_ _ | refine Below.drew ?_ | refine Below.alloc ?_ (by first | (simp; done) | (simp; omega) | omega) _ | refine Below.trans ?_ (Below.mono (by assumption) (by first | (simp; done) | (simp; omega) | omega)))))) D4 ok hs).mono ?_
  rintro e w5 ⟨⟨gg5, gt5, rfl, hu⟩, hb5⟩
  have q5 : Below w4.heap.size w4 w5 := by (repeat (first | exact Below.refl _ _ | refine Below.setCell ?_ (by first | (simp; done) | (simp; omega) | omega) _ | refine belowN ?_ _ | refine Below.drew ?_ | refine Below.alloc ?_ (by first | (simp; done) | (simp; omega) | omega) _ | refine Below.trans ?_ (Below.mono (by assumption) (by first | (simp; done) | (simp; omega) | omega))))
  have A5 := Lib.hid (A4.out.below q5)
  have W5 := Lib.hid (W4.out.below q5)
  have X5 := Lib.hid (X4.out.keep (Within.of (lo := 0) (hi := 0) q5) (.inr (Nat.zero_le _)))
  have V5 := Lib.hid (V4.out.below q5)
  have U5 := Lib.hid hu
  have B5 : Below w.heap.size w w5 := B4.trans (q5.mono (by omega))
  have C5 : Below w3.heap.size w3 w5 := C4.trans (q5.mono (by omega))
  have Y5 := Lib.hid ((At.new w4 _ _ _).below hb5)
  have s5 : w4.heap.size < w5.heap.size := Y5.out.lt
  have l4 : (w4.alloc (.cells #[.slice p1 p2 p3, .slice p4 p5 p6] 35)).heap.size = w4.heap.size + 1 := by simp
  rw [l4] at U5
  obtain ⟨g1, g2, g3, g4, g5, g6, rfl, rfl⟩ := hu.setIn.shape
  clear hb5 q5 hu l4
  obtain ⟨k0, k1⟩ := A5.out
  obtain ⟨l0, l1⟩ := Y5.out
  obtain ⟨n0, n1⟩ := W5.out
  have n0' := akeep (o := .cells #[.slice g1 g2 g3, .slice g4 g5 g6] 35) n0
  have n1' := akeep (o := .cells #[.slice g1 g2 g3, .slice g4 g5 g6] 35) n1
  go_wp2_with fail
  refine (eqTileSet_yes _ _ _ _ (ro1 S q) _ (U5.out.setIn.below (by (repeat (first | exact Below.refl _ _ | refine Below.setCell ?_ (by first | (simp; done) | (simp; omega) | omega) _ | refine belowN ?_ _ | refine Below.drew ?_ | refine Below.alloc ?_ (by first | (simp; done) | (simp; omega) | omega) _ | refine Below.trans ?_ (Below.mono (by assumption) (by first | (simp; done) | (simp; omega) | omega)))))) (V5.out.below (by (repeat (first | exact Below.refl _ _ | refine Below.setCell ?_ (by first | (simp; done) | (simp; omega) | omega) _ | refine belowN ?_ _ | refine Below.drew ?_ | refine Below.alloc ?_ (by first | (simp; done) | (simp; omega) | omega) _ | refine Below.trans ?_ (Below.mono (by assumption) (by first | (simp; done) | (simp; omega) | omega))))))).mono ?_
  rintro e w6 ⟨rfl, hb6⟩
  have q6 : Below w5.heap.size w5 w6 := by (repeat (first | exact Below.refl _ _ | refine Below.setCell ?_ (by first | (simp; done) | (simp; omega) | omega) _ | refine belowN ?_ _ | refine Below.drew ?_ | refine Below.alloc ?_ (by first | (simp; done) | (simp; omega) | omega) _ | refine Below.trans ?_ (Below.mono (by assumption) (by first | (simp; done) | (simp; omega) | omega))))
  have A6 := Lib.hid (A5.out.below q6)
  have W6 := Lib.hid (W5.out.below q6)
  have X6 := Lib.hid (X5.out.keep (Within.of (lo := 0) (hi := 0) q6) (.inr (Nat.zero_le _)))
  have V6 := Lib.hid (V5.out.below q6)
  have U6 := Lib.hid (U5.out.keep (Within.of (lo := 0) (hi := 0) q6) (.inr (Nat.zero_le _)))
  have Y6 := Lib.hid (Y5.out.below q6)
  have Z6 := Lib.hid ((At.new w5 _ _ _).below hb6)
  have B6 : Below w.heap.size w w6 := B5.trans (q6.mono (by omega))
  have C6 : Below w3.heap.size w3 w6 := C5.trans (q6.mono (by omega))
  have s6 : w5.heap.size < w6.heap.size := Z6.out.lt
  clear hb6 q6 k0 k1 l0 l1 n0 n1 n0' n1'
  obtain ⟨k0, k1⟩ := A6.out
  obtain ⟨l0, l1⟩ := Y6.out
  go_wp2_with fail
  go_region_held3 (fun w' => w'.cell? ⟨w.heap.size, 0, none⟩ = some vg ∧ w'.cell? ⟨w.heap.size, 1, none⟩ = some vt ∧ w'.cell? ⟨w4.heap.size, 0, none⟩ = some (.slice p1 p2 p3) ∧ w'.cell? ⟨w4.heap.size, 1, none⟩ = some (.slice p4 p5 p6)) ((((try go_split_ands); (try dsimp only); (repeat' apply And.intro)) <;> (repeat (first | with_reducible assumption | ((with_reducible refine cnew0 ?_); simp; done) | ((with_reducible refine cnew1 ?_); simp; done) | (with_reducible refine akeep ?_) | (with_reducible refine dkeep ?_) | ((with_reducible refine skeep ?_ ?_); rotate_left; (first | ((try dsimp only); omega) | (simp; done) | (simp; omega))) | (with_reducible refine bkeep hb3 ?_)))))
    (first
      | (go_at_call 12; refine (toTileSet_any vg vt S _ (HS.out.below (by (repeat (first | exact Below.refl _ _ | refine Below.setCell ?_ (by first | (simp; done) | (simp; omega) | omega) _ | refine belowN ?_ _ | refine Below.drew ?_ | refine Below.alloc ?_ (by first | (simp; done) | (simp; omega) | omega) _ | refine Below.trans ?_ (Below.mono (by assumption) (by first | (simp; done) | (simp; omega) | omega)))))) hs).mono ?_; rintro e w7 ⟨⟨yg, yt, rfl, own7⟩, hb3⟩; have hb7 := hb3; have s7 : w6.heap.size ≤ w7.heap.size := hb3.size)
      | (go_at_call 15; refine (eqTileSet_yes _ _ _ _ S _ (X6.out.setIn.below (by (repeat (first | exact Below.refl _ _ | refine Below.setCell ?_ (by first | (simp; done) | (simp; omega) | omega) _ | refine belowN ?_ _ | refine Below.drew ?_ | refine Below.alloc ?_ (by first | (simp; done) | (simp; omega) | omega) _ | refine Below.trans ?_ (Below.mono (by assumption) (by first | (simp; done) | (simp; omega) | omega)))))) ((own7.setIn hs).below (by (repeat (first | exact Below.refl _ _ | refine Below.setCell ?_ (by first | (simp; done) | (simp; omega) | omega) _ | refine belowN ?_ _ | refine Below.drew ?_ | refine Below.alloc ?_ (by first | (simp; done) | (simp; omega) | omega) _ | refine Below.trans ?_ (Below.mono (by assumption) (by first | (simp; done) | (simp; omega) | omega))))))).mono ?_; rintro e w8 ⟨rfl, hb3⟩))
  have q8 : Below w6.heap.size w6 w8 := by (repeat (first | exact Below.refl _ _ | refine Below.setCell ?_ (by first | (simp; done) | (simp; omega) | omega) _ | refine belowN ?_ _ | refine Below.drew ?_ | refine Below.alloc ?_ (by first | (simp; done) | (simp; omega) | omega) _ | refine Below.trans ?_ (Below.mono (by assumption) (by first | (simp; done) | (simp; omega) | omega))))
  have A8 := Lib.hid (A6.out.below q8)
  have W8 := Lib.hid (W6.out.below q8)
  have X8 := Lib.hid (X6.out.keep (Within.of (lo := 0) (hi := 0) q8) (.inr (Nat.zero_le _)))
  have U8 := Lib.hid (U6.out.keep (Within.of (lo := 0) (hi := 0) q8) (.inr (Nat.zero_le _)))
  have Y8 := Lib.hid (Y6.out.below q8)
  have Z8 := Lib.hid (Z6.out.below q8)
  have B8 : Below w.heap.size w w8 := B6.trans (q8.mono (by omega))
  have C8 : Below w3.heap.size w3 w8 := C6.trans (q8.mono (by omega))
  have s8 : w6.heap.size ≤ w8.heap.size := q8.size
  clear hb3 hb7 q8 s7 own7 k0 k1 l0 l1
  obtain ⟨l0, l1⟩ := Y8.out
  have bn : decide ((mEnd S 1 : Int) < 0) = false := by simp
  go_wp2_with fail
  refine (markTileSet_one (w3.heap.size + 1) w4.heap.size _ _ S _ X8.out hs (by omega)).mono ?_
  rintro e w9 ⟨rfl, -, hw9⟩
  have A9 := Lib.hid (A8.out.keep hw9 (.inl (by omega)))
  have W9 := Lib.hid (W8.out.keep hw9 (.inl (by omega)))
  have Z9 := Lib.hid (Z8.out.keep hw9 (.inr (by omega)))
  have U9 := Lib.hid (U8.out.keep hw9 (.inr (by omega)))
  have B9 : Below w.heap.size w w9 := B8.trans (hw9.belowK (by omega) (by omega))
  have C9 : Below w3.heap.size w3 w9 := C8.trans (hw9.belowK (by omega) (by omega))
  have s9 : w8.heap.size ≤ w9.heap.size := hw9.size
  have V9 := Lib.hid (V3.out.below C9)
  clear hw9 l0 l1
  obtain ⟨n0, n1⟩ := W9.out
  obtain ⟨o0, o1⟩ := Z9.out
  go_wp2_with fail
  refine (eqTileSet_yes _ _ _ _ (ro1 S q) _ U9.out.setIn V9.out).mono ?_
  rintro e w10 ⟨rfl, hb10⟩
  have A10 := Lib.hid (A9.out.below hb10)
  have W10 := Lib.hid (W9.out.below hb10)
  have Z10 := Lib.hid (Z9.out.below hb10)
  have U10 := Lib.hid (U9.out.keep (Within.of (lo := 0) (hi := 0) hb10) (.inr (Nat.zero_le _)))
  have B10 : Below w.heap.size w w10 := B9.trans (hb10.mono (by omega))
  have C10 : Below w3.heap.size w3 w10 := C9.trans (hb10.mono (by omega))
  have s10 : w9.heap.size ≤ w10.heap.size := hb10.size
  clear hb10 n0 n1 o0 o1
  obtain ⟨o0, o1⟩ := Z10.out
  go_wp2_with fail
  refine (markTileSet_one (w4.heap.size + 1) w5.heap.size _ _ (ro1 S q) _ U10.out (rot_small hs) (by omega)).mono ?_
  rintro e w11 ⟨rfl, hu11, hw11⟩
  have A11 := Lib.hid (A10.out.keep hw11 (.inl (by omega)))
  have W11 := Lib.hid (W10.out.keep hw11 (.inl (by omega)))
  have Z11 := Lib.hid (Z10.out.keep hw11 (.inr (Nat.le_refl _)))
  have U11 := Lib.hid hu11.setIn
  have B11 : Below w.heap.size w w11 := B10.trans (hw11.belowK (by omega) (by omega))
  have C11 : Below w3.heap.size w3 w11 := C10.trans (hw11.belowK (by omega) (by omega))
  have s11 : w10.heap.size ≤ w11.heap.size := hw11.size
  clear hw11 hu11 o0 o1
  have bi : decide ((mEnd (ro1 S q) 1 : Int) < 0) = false := by simp
  obtain ⟨o0, o1⟩ := Z11.out
  go_wp2_with fail
  refine (heldTileSet_one _ _ (ro1 S q) _ U11.out (rot_small hs)).mono ?_
  rintro e w12 ⟨rfl, hb12⟩
  have A12 := Lib.hid (A11.out.below hb12)
  have W12 := Lib.hid (W11.out.below hb12)
  have Z12 := Lib.hid (Z11.out.below hb12)
  have U12 := Lib.hid (U11.out.below hb12)
  have B12 : Below w.heap.size w w12 := B11.trans (hb12.mono (by omega))
  have C12 : Below w3.heap.size w3 w12 := C11.trans (hb12.mono (by omega))
  have s12 : w11.heap.size ≤ w12.heap.size := hb12.size
  clear hb12 o0 o1
  obtain ⟨k0, k1⟩ := A12.out
  go_wp2_with fail
  refine (toTileSet_any vg vt S _ (HS.out.below B12) hs).mono ?_
  rintro e w13 ⟨⟨zg, zt, rfl, own⟩, hb13⟩
  have I13 := Lib.hid (own.setIn hs)
  have D13 : ∃ ad n cap, zg = .slice (some ad) n cap := by obtain ⟨g, t, _, _, h, _⟩ := own; exact ⟨_, _, _, h.1⟩
  have W13 := Lib.hid (W12.out.below hb13)
  have Z13 := Lib.hid (Z12.out.below hb13)
  have U13 := Lib.hid (U12.out.below hb13)
  have B13 : Below w.heap.size w w13 := B12.trans (hb13.mono (by omega))
  have C13 : Below w3.heap.size w3 w13 := C12.trans (hb13.mono (by omega))
  have s13 : w12.heap.size ≤ w13.heap.size := hb13.size
  clear hb13 own k0 k1
  go_wp2_with fail
  refine (implRotateSet_any _ _ S q _ I13.out (.inr D13) ok hs).mono ?_
  rintro e w14 ⟨⟨hg14, ht14, rfl, hh⟩, hb14⟩
  have W14 := Lib.hid (W13.out.below hb14)
  have Z14 := Lib.hid (Z13.out.below hb14)
  have U14 := Lib.hid (U13.out.below hb14)
  have H14 := Lib.hid hh.setIn
  obtain ⟨h1, h2, h3, h4, h5, h6, rfl, rfl⟩ := hh.setIn.shape
  have B14 : Below w.heap.size w w14 := B13.trans (hb14.mono (by omega))
  have C14 : Below w3.heap.size w3 w14 := C13.trans (hb14.mono (by omega))
  have s14 : w13.heap.size ≤ w14.heap.size := hb14.size
  have V14 := Lib.hid (V3.out.below C14)
  clear hb14 hh
  obtain ⟨n0, n1⟩ := W14.out
  have n0' := akeep (o := .cells #[.slice h1 h2 h3, .slice h4 h5 h6] 35) n0
  have n1' := akeep (o := .cells #[.slice h1 h2 h3, .slice h4 h5 h6] 35) n1
  go_wp2_with fail
  refine (eqTileSet_yes _ _ _ _ (ro1 S q) _ (H14.out.below (by (repeat (first | exact Below.refl _ _ | refine Below.setCell ?_ (by first | (simp; done) | (simp; omega) | omega) _ | refine belowN ?_ _ | refine Below.drew ?_ | refine Below.alloc ?_ (by first | (simp; done) | (simp; omega) | omega) _ | refine Below.trans ?_ (Below.mono (by assumption) (by first | (simp; done) | (simp; omega) | omega)))))) (V14.out.below (by (repeat (first | exact Below.refl _ _ | refine Below.setCell ?_ (by first | (simp; done) | (simp; omega) | omega) _ | refine belowN ?_ _ | refine Below.drew ?_ | refine Below.alloc ?_ (by first | (simp; done) | (simp; omega) | omega) _ | refine Below.trans ?_ (Below.mono (by assumption) (by first | (simp; done) | (simp; omega) | omega))))))).mono ?_
  rintro e w15 ⟨rfl, hb15⟩
  have q15 : Below w14.heap.size w14 w15 := by (repeat (first | exact Below.refl _ _ | refine Below.setCell ?_ (by first | (simp; done) | (simp; omega) | omega) _ | refine belowN ?_ _ | refine Below.drew ?_ | refine Below.alloc ?_ (by first | (simp; done) | (simp; omega) | omega) _ | refine Below.trans ?_ (Below.mono (by assumption) (by first | (simp; done) | (simp; omega) | omega))))
  have Z15 := Lib.hid (Z14.out.below q15)
  have U15 := Lib.hid (U14.out.below q15)
  have B15 : Below w.heap.size w w15 := B14.trans (q15.mono (by omega))
  clear hb15 q15 n0 n1 n0' n1'
  obtain ⟨o0, o1⟩ := Z15.out
  go_wp2_with fail
  refine (heldTileSet_one _ _ (ro1 S q) _ U15.out (rot_small hs)).mono ?_
  rintro e w16 ⟨rfl, hb16⟩
  have B16 : Below w.heap.size w w16 := B15.trans (hb16.mono (by have := B15.size; omega))
  clear hb16
  go_wp2
  go_ret
  exact ⟨rfl, B16⟩

namespace fnExactRotateSet
open Go.ChangeShapes Go.WideShapes Go.ChangeAt Go.RowKit Go.Joins
open Go.ChangeMaps (open_string shut_string)
theorem own : ownKnob Try.prog.godebug = none := by kernel_rfl
theorem laidOut : laidOutB Try.prog = true := by kernel_rfl
theorem readable : (Try.f5.params.toList.all fun t => Try.prog.readableRec t && decide (t < Try.prog.types.size)) = true := by kernel_rfl
theorem cells_0 : Try.prog.cellsOf 25 = 2 := by kernel_rfl
set_option maxRecDepth 100000 in
set_option linter.unusedVariables false in
theorem contract (H : Type) (enc : TypeId × Value → H) (W : World) (base : Nat) (args : Array Value) (ds gs : List (DataW H)) (before : List MemPlace)
    (hval : ∀ (j : Nat) t v, Try.f5.params[j]? = some t → args[j]? = some v → Value.okWide Try.prog W .any base t v)
    (hW : DataW.Whole enc Try.prog Try.f5.params.toList Rows.fnExactRotateSetSpec.vars false W args.toList ds gs before) :
    Calls Try.prog 5 args W fun e W' => ∃ v, e = .returned v ∧ Rows.fnExactRotateSetSpec.post enc Try.prog Try.f5 false true false false W args v W' := by
  have hW' := hW
  obtain ⟨p, q, hA0, hV, rfl, hfz, hnd⟩ := hW
  have hA : DataW.TrodAll enc Try.prog W 0 (fun _ => true) true Try.f5.params.toList args.toList ds p := hA0
  rw [Try.params5] at hA hval
  obtain ⟨v0, vs0, d0, ds0, p0, q0, ha0, rfl, rfl, h0, r0⟩ := trodAll_cons hA
  obtain ⟨v1, vs1, d1, ds1, p1, q1, ha1, rfl, rfl, h1, r1⟩ := trodAll_cons r0
  obtain ⟨rfl, rfl, rfl⟩ := trodAll_nil r1
  obtain rfl : args = #[v0, v1] := by cases args; simp_all
  obtain ⟨rfl, rfl⟩ := trodVars_none hV
  obtain ⟨c0, e0, y0, z0, m0, rfl, -, -, hy0, hz0⟩ := open_agg2 Try.underlying25 (by kernel_rfl) cells_0 (hval 0 25 v0 rfl rfl) h0
  obtain ⟨gs0, hg0, og0⟩ := open_glues (t := 22) (e := 111) Try.underlying22 Try.underlying111 (by kernel_rfl) (by kernel_rfl) rfl rfl Try.underlying9 Try.underlying2 hy0
  obtain ⟨ts0, ht0, ot0⟩ := open_tiles (t := 23) (e := 113) Try.underlying23 Try.underlying113 (by kernel_rfl) (by kernel_rfl) rfl rfl Try.underlying9 Try.underlying44 Try.underlying2 (by kernel_rfl) hz0
  obtain ⟨a1, rfl, rfl, rfl, w1⟩ := open_int Try.underlying2 (hval 1 2 v1 rfl rfl) h1
  refine (walk_FnExactRotateSet c0 e0 ⟨gs0, ts0⟩ a1 W ⟨hg0, ht0⟩ ⟨og0, ot0⟩ w1).mono fun e W' ⟨he, hg⟩ => ?_
  subst he
  exact ⟨_, rfl, post_mem laidOut readable hW' (fun _ _ _ => (trodAll_cons_mk (shut_bool Try.underlying4 _) trodAll_mk0)) hA0 rfl rfl (by simp) hg⟩
set_option maxRecDepth 100000 in
theorem lifted (os : Os) (started : os.Started) (H : Type) (enc : TypeId × Value → H) :
    ReturnsInHanded {} Try.checked os 5 .any (Rows.fnExactRotateSetSpec.pre6 enc Try.prog Try.f5 Rows.fnExactRotateSetRow.domain false) (Rows.fnExactRotateSetSpec.post enc Try.prog Try.f5 false true false false) := by
  refine returnsInHanded_of_change (C := Try.checked) own started (by kernel_rfl) Try.func5
    (ChangeSpec.witness6 (enc := enc) (C := Try.checked) false ⟨#[], #[.agg #[.slice none 0 0, .slice none 0 0], .int .i64 0], []⟩ 8 (by kernel_rfl) (by kernel_rfl) (by kernel_rfl) (by kernel_rfl)) ?_
  intro W base args ds gs before hval hW _ _
  exact contract H enc W base args ds gs before hval hW
end fnExactRotateSet
theorem fnExactRotateSet_holds : Rows.FnExactRotateSetSaid :=
  OpenClaim.holds_of_wide 5 Try.f5 rfl rfl rfl rfl rfl rfl rfl ⟨rfl, rfl, rfl, rfl, rfl⟩ rfl rfl rfl rfl rfl (by kernel_rfl) Try.func5 (by kernel_rfl)
    (of_decide_eq_true (by kernel_rfl)) (by unfold Func.isWrapper; first | (rw [if_pos (by decide +kernel)]; kernel_rfl) | (rw [if_neg (by decide +kernel)]; exact ⟨rfl, rfl⟩))
    (fun os started H enc _ => fnExactRotateSet.lifted os started H enc)
end Go.Proofs.Ytcaidemlhgepfab
