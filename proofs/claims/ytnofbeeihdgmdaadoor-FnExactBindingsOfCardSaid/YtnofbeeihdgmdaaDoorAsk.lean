/-
  A valid set and an assembly of its tiles: what both sides ask ahead; the bonds of a tile at a point. Conditions: each theorem's own.
-/
import Derived.Test.YtnofbeeihdgmdaaDoorVA
import Derived.Test.YtnofbeeihdgmdaaDoorBondOf_
import Derived.Test.YtnofbeeihdgmdaaDoorPlace
import Derived.Test.YtnofbeeihdgmdaaDoorStep
namespace Go.Proofs.YtnofbeeihdgmdaaDoor
open Go.RowKit

/-- A valid set and an assembly of its tiles. -/
structure Va (S : Set_) (ps : List Pl) : Prop where
  V : Valid S
  F : Form ps
  T : ∀ i, i < ps.length → 0 ≤ pT ps i ∧ pT ps i < S.ts.length
theorem vaB_va {S : Set_} {ps : List Pl} (h : vaB S ps = true) : Va S ps := by
  simp only [vaB, Bool.and_eq_true] at h
  exact ⟨validB_iff.1 h.1.1, formB_iff.1 h.1.2, tlB_iff.1 h.2⟩
/-- The tile at place i. -/
def tlN (ps : List Pl) (i : Nat) : Nat := (pT ps i).toNat
theorem Va.tl {S : Set_} {ps : List Pl} (h : Va S ps) {i : Nat} (hi : i < ps.length) : pT ps i = (tlN ps i : Int) ∧ tlN ps i < S.ts.length := by
  have := h.T i hi
  unfold tlN; omega
theorem Va.pt {S : Set_} {ps : List Pl} (h : Va S ps) {i : Nat} (hi : i < ps.length) : (-60 ≤ pX ps i ∧ pX ps i ≤ 60) ∧ (-60 ≤ pY ps i ∧ pY ps i ≤ 60) := by
  have h' : inB (pX ps i) (-60) 60 = true ∧ inB (pY ps i) (-60) 60 = true := by simpa [ptB] using (h.F.all i hi).pt
  exact ⟨inB_iff.1 h'.1, inB_iff.1 h'.2⟩
/-- What both sides answer to a set and an assembly. -/
noncomputable def askC (S : Set_) (ps : List Pl) : Int := if vaB S ps = true then 0 else 1
theorem askC_yes {S : Set_} {ps : List Pl} (h : vaB S ps = true) : askC S ps = 0 := by unfold askC; rw [if_pos h]
theorem askC_no {S : Set_} {ps : List Pl} (h : vaB S ps = false) : askC S ps = 1 := by unfold askC; rw [if_neg (by rw [h]; simp)]
theorem strZ_in {S : Set_} (V : Valid S) {g : Int} (h0 : 0 ≤ g) (h1 : g ≤ S.gs.length) : 0 ≤ strZ S.gs g ∧ strZ S.gs g ≤ 4 := by
  unfold strZ
  split
  · omega
  · have := (V.g.all (g - 1).toNat (by omega))
    have h := this.2.1
    omega
theorem bondZ_in {S : Set_} (V : Valid S) {a m b o : Nat} (ha : a < S.ts.length) (hm : m < 4) : 0 ≤ bondZ S a m b o ∧ bondZ S a m b o ≤ 4 := by
  unfold bondZ
  split
  · exact strZ_in V (V.side ha hm).1 (V.side ha hm).2
  · omega

theorem l06Asked_any (p q : Nat) (vg vt v : Value) (S : Set_) (ps : List Pl) (w : World) (hp : At w p vg vt) (hq : At1 w q v) (hS : SetIn w vg vt S) (ok : S.ok) (hs : S.small) (hv : Plcs w v ps) :
    Calls Tryd.prog 40 #[.pointer (some ⟨p, 0, none⟩), .pointer (some ⟨q, 0, none⟩)] w fun e w' => e = .returned (.int .i64 (askC S ps)) ∧ Below w.heap.size w w' := by
  have HS := Lib.hid hS
  have HP := Lib.hid hp
  have HQ := Lib.hid hq
  have HV := Lib.hid hv
  clear hS hp hq hv
  go_enter Tryd.func40, Tryd.ntmps40
  go_wp2_with fail
  refine (l02Ok_any p vg vt S _ HP.out HS.out ok hs).mono ?_
  rintro e w1 ⟨rfl, hb1⟩
  cases h1 : validB S
  · have K := Lib.hid (askC_no (S := S) (ps := ps) (by unfold vaB; rw [h1]; rfl))
    go_wp2_with fail
    go_ret
    exact ⟨ret_i64 (by rw [K.out]), by (repeat (first | exact Below.refl _ _ | refine Below.setCell ?_ (by first | (simp; done) | (simp; omega) | omega) _ | refine belowN ?_ _ | refine Below.drew ?_ | refine Below.alloc ?_ (by first | (simp; done) | (simp; omega) | omega) _ | refine Below.trans ?_ (Below.mono (by assumption) (by first | (simp; done) | (simp; omega) | omega))))⟩
  have H1 := Lib.hid h1
  clear h1
  go_wp2_with fail
  refine (l03Ok_any p q vg vt v S ps _ (HP.out.below hb1) (HQ.out.below hb1) (HS.out.below hb1) hs (HV.out.below hb1)).mono ?_
  rintro e w2 ⟨rfl, hb2⟩
  have B2 : Below w.heap.size w w2 := hb1.trans (hb2.mono hb1.size)
  cases h2 : aOkB S.ts.length ps
  · have K := Lib.hid (askC_no (S := S) (ps := ps) (by unfold vaB; unfold aOkB at h2; rw [H1.out, Bool.true_and, h2]))
    go_wp2_with fail
    go_ret
    exact ⟨ret_i64 (by rw [K.out]), B2⟩
  · have K := Lib.hid (askC_yes (S := S) (ps := ps) (by unfold vaB; unfold aOkB at h2; rw [H1.out, Bool.true_and, h2]))
    go_wp2_with fail
    go_ret
    exact ⟨ret_i64 (by rw [K.out]), B2⟩

/-- The bond of tile t at a point with what lies in direction d. -/
def bnd1 (S : Set_) (ps : List Pl) (x y : Int) (t d : Nat) : Int :=
  if ixN ps (stepX x d) (stepY y d) < ps.length then bondZ S t d (tlN ps (ixN ps (stepX x d) (stepY y d))) ((d + 2) % 4) else 0
/-- .. in the first d directions. -/
def bndZ (S : Set_) (ps : List Pl) (x y : Int) (t : Nat) : Nat → Int
  | 0 => 0
  | d + 1 => bndZ S ps x y t d + bnd1 S ps x y t d
theorem bnd1_yes {S : Set_} {ps : List Pl} {x y : Int} {t d : Nat} {k : Nat} (hk : k < ps.length) (h : ixN ps (stepX x d) (stepY y d) = k) : bnd1 S ps x y t d = bondZ S t d (tlN ps k) ((d + 2) % 4) := by
  unfold bnd1; rw [h, if_pos hk]
theorem bnd1_no {S : Set_} {ps : List Pl} {x y : Int} {t d : Nat} (h : ¬ ixN ps (stepX x d) (stepY y d) < ps.length) : bnd1 S ps x y t d = 0 := by unfold bnd1; rw [if_neg h]
theorem bnd1_in {S : Set_} (V : Valid S) (ps : List Pl) (x y : Int) {t d : Nat} (ht : t < S.ts.length) (hd : d < 4) : 0 ≤ bnd1 S ps x y t d ∧ bnd1 S ps x y t d ≤ 4 := by
  unfold bnd1
  split
  · exact bondZ_in V ht hd
  · omega
theorem bndZ_in {S : Set_} (V : Valid S) (ps : List Pl) (x y : Int) {t : Nat} (ht : t < S.ts.length) {d : Nat} (hd : d ≤ 4) : 0 ≤ bndZ S ps x y t d ∧ bndZ S ps x y t d ≤ 4 * d := by
  induction d with
  | zero => simp [bndZ]
  | succ d ih =>
    have a := ih (by omega)
    have b := bnd1_in V ps x y ht (d := d) (by omega)
    simp only [bndZ]; omega

set_option maxRecDepth 100000 in
set_option maxHeartbeats 4000000 in
set_option linter.unusedSimpArgs false in
theorem l06Binding_any (p q : Nat) (vg vt v : Value) (S : Set_) (ps : List Pl) (x y : Int) (t : Nat) (w : World) (hp : At w p vg vt) (hq : At1 w q v) (hS : SetIn w vg vt S) (hs : S.small) (hv : Plcs w v ps) (hva : Va S ps)
    (hx : -60 ≤ x ∧ x ≤ 60) (hy : -60 ≤ y ∧ y ≤ 60) (ht : t < S.ts.length) :
    Calls Tryd.prog 43 #[.pointer (some ⟨p, 0, none⟩), .pointer (some ⟨q, 0, none⟩), .agg #[.int .i64 x, .int .i64 y], .int .i64 (t : Int)] w fun e w' => e = .returned (.int .i64 (bndZ S ps x y t 4)) ∧ Below w.heap.size w w' := by
  have HS := Lib.hid hS
  have HP := Lib.hid hp
  have HQ := Lib.hid hq
  have HV := Lib.hid hv
  have HA := Lib.hid hva
  have A0 := Lib.hid (At.new w (.int .i64 x) (.int .i64 y) 44)
  clear hS hp hq hv hva
  go_enter Tryd.func43, Tryd.ntmps43
  go_wp2_with fail
  go_loopw [9, 10] (fun s i wr => ∃ d : Nat, d ≤ 4 ∧ i = .int .i64 d ∧ (∃ m : Int, m = bndZ S ps x y t d ∧ s = .int .i64 m) ∧ At wr w.heap.size (.int .i64 x) (.int .i64 y) ∧ Below w.heap.size w wr) (fun _ i _ => 4 - (intOf i).toNat)
  case atStart => exact ⟨0, by omega, rfl, ⟨0, rfl, rfl⟩, A0.out, by (repeat (first | exact Below.refl _ _ | refine Below.setCell ?_ (by first | (simp; done) | (simp; omega) | omega) _ | refine belowN ?_ _ | refine Below.drew ?_ | refine Below.alloc ?_ (by first | (simp; done) | (simp; omega) | omega) _ | refine Below.trans ?_ (Below.mono (by assumption) (by first | (simp; done) | (simp; omega) | omega))))⟩
  case round =>
    clear A0
    obtain ⟨d, hd, rfl, ⟨m, hm, rfl⟩, hat, hbw⟩ := hrel
    have sw := hbw.size
    have hin := bndZ_in HA.out.V ps x y ht hd
    rw [← hm] at hin
    have HM := Lib.hid hm
    have hat2 := Lib.hid hat
    obtain ⟨a0, a1⟩ := hat
    clear hm
    by_cases hd4 : d < 4
    · have hd4' : (d : Int) < 4 := by omega
      by_cases hk : ixN ps (stepX x d) (stepY y d) < ps.length
      · obtain ⟨k, hke⟩ : ∃ k, ixN ps (stepX x d) (stepY y d) = k := ⟨_, rfl⟩
        rw [hke] at hk
        have hb1 := bnd1_yes (S := S) (x := x) (y := y) (t := t) (d := d) hk hke
        have hn1 := bnd1_in HA.out.V ps x y ht hd4
        rw [hb1] at hn1
        have HB1 := Lib.hid hb1
        have hat3 : atI ps (stepX x d) (stepY y d) = (tlN ps k : Int) := by unfold atI; rw [hke, if_pos hk]; exact (HA.out.tl hk).1
        have htl := (HA.out.tl hk).2
        generalize hz : bondZ S t d (tlN ps k) ((d + 2) % 4) = z at *
        have HZ := Lib.hid hz
        clear hb1 hke hz
        go_wp2_with (first
          | (go_at_call 72; refine (l01Step_any x y d _ (by omega) (by omega) hx.1 hx.2 hy.1 hy.2).mono ?_; rintro e w3 ⟨rfl, hb3⟩; have sz3 := hb3.size)
          | (go_at_call 71; refine (l03At_any q v ps (stepX x d) (stepY y d) _ (HQ.out.below (show Below w.heap.size w _ by (repeat (first | exact Below.refl _ _ | refine Below.setCell ?_ (by first | (simp; done) | (simp; omega) | omega) _ | refine belowN ?_ _ | refine Below.drew ?_ | refine Below.alloc ?_ (by first | (simp; done) | (simp; omega) | omega) _ | refine Below.trans ?_ (Below.mono (by assumption) (by first | (simp; done) | (simp; omega) | omega)))))) (HV.out.below (show Below w.heap.size w _ by (repeat (first | exact Below.refl _ _ | refine Below.setCell ?_ (by first | (simp; done) | (simp; omega) | omega) _ | refine belowN ?_ _ | refine Below.drew ?_ | refine Below.alloc ?_ (by first | (simp; done) | (simp; omega) | omega) _ | refine Below.trans ?_ (Below.mono (by assumption) (by first | (simp; done) | (simp; omega) | omega)))))) HA.out.F).mono ?_; rintro e w4 ⟨rfl, hb4⟩; have sz4 := hb4.size; rw [hat3])
          | (go_at_call 73; refine (l02Bond_any p vg vt S t d (tlN ps k) ((d + 2) % 4) _ (HP.out.below (show Below w.heap.size w _ by (repeat (first | exact Below.refl _ _ | refine Below.setCell ?_ (by first | (simp; done) | (simp; omega) | omega) _ | refine belowN ?_ _ | refine Below.drew ?_ | refine Below.alloc ?_ (by first | (simp; done) | (simp; omega) | omega) _ | refine Below.trans ?_ (Below.mono (by assumption) (by first | (simp; done) | (simp; omega) | omega)))))) (HS.out.below (show Below w.heap.size w _ by (repeat (first | exact Below.refl _ _ | refine Below.setCell ?_ (by first | (simp; done) | (simp; omega) | omega) _ | refine belowN ?_ _ | refine Below.drew ?_ | refine Below.alloc ?_ (by first | (simp; done) | (simp; omega) | omega) _ | refine Below.trans ?_ (Below.mono (by assumption) (by first | (simp; done) | (simp; omega) | omega)))))) hs HA.out.V ht hd4 htl rfl).mono ?_; rintro e w5 ⟨rfl, hb5⟩; have sz5 := hb5.size; rw [HZ.out]))
        have B5 : Below wr.heap.size wr w5 := by (repeat (first | exact Below.refl _ _ | refine Below.setCell ?_ (by first | (simp; done) | (simp; omega) | omega) _ | refine belowN ?_ _ | refine Below.drew ?_ | refine Below.alloc ?_ (by first | (simp; done) | (simp; omega) | omega) _ | refine Below.trans ?_ (Below.mono (by assumption) (by first | (simp; done) | (simp; omega) | omega))))
        go_roundw
        case rel => exact ⟨d + 1, by omega, by go_num, ⟨m + z, by rw [HM.out]; simp only [bndZ]; rw [HB1.out], by go_num⟩, hat2.out.below B5, hbw.trans (B5.mono sw)⟩
        case measure => simp [intOf]; omega
      · have HB1 := Lib.hid (bnd1_no (S := S) (x := x) (y := y) (t := t) (d := d) hk)
        have hat3 : atI ps (stepX x d) (stepY y d) = -1 := by unfold atI; rw [if_neg hk]
        clear hk
        go_wp2_with (first
          | (go_at_call 72; refine (l01Step_any x y d _ (by omega) (by omega) hx.1 hx.2 hy.1 hy.2).mono ?_; rintro e w3 ⟨rfl, hb3⟩; have sz3 := hb3.size)
          | (go_at_call 71; refine (l03At_any q v ps (stepX x d) (stepY y d) _ (HQ.out.below (show Below w.heap.size w _ by (repeat (first | exact Below.refl _ _ | refine Below.setCell ?_ (by first | (simp; done) | (simp; omega) | omega) _ | refine belowN ?_ _ | refine Below.drew ?_ | refine Below.alloc ?_ (by first | (simp; done) | (simp; omega) | omega) _ | refine Below.trans ?_ (Below.mono (by assumption) (by first | (simp; done) | (simp; omega) | omega)))))) (HV.out.below (show Below w.heap.size w _ by (repeat (first | exact Below.refl _ _ | refine Below.setCell ?_ (by first | (simp; done) | (simp; omega) | omega) _ | refine belowN ?_ _ | refine Below.drew ?_ | refine Below.alloc ?_ (by first | (simp; done) | (simp; omega) | omega) _ | refine Below.trans ?_ (Below.mono (by assumption) (by first | (simp; done) | (simp; omega) | omega)))))) HA.out.F).mono ?_; rintro e w4 ⟨rfl, hb4⟩; have sz4 := hb4.size; rw [hat3]))
        have B4 : Below wr.heap.size wr w4 := by (repeat (first | exact Below.refl _ _ | refine Below.setCell ?_ (by first | (simp; done) | (simp; omega) | omega) _ | refine belowN ?_ _ | refine Below.drew ?_ | refine Below.alloc ?_ (by first | (simp; done) | (simp; omega) | omega) _ | refine Below.trans ?_ (Below.mono (by assumption) (by first | (simp; done) | (simp; omega) | omega))))
        go_roundw
        case rel => exact ⟨d + 1, by omega, by go_num, ⟨m, by rw [HM.out]; simp only [bndZ]; rw [HB1.out]; omega, rfl⟩, hat2.out.below B4, hbw.trans (B4.mono sw)⟩
        case measure => simp [intOf]; omega
    · obtain rfl : d = 4 := by omega
      go_wp2_with fail
      go_ret
      exact ⟨ret_i64 HM.out, hbw⟩
/-- The boxes of a set, an assembly and a point. -/
theorem boxes_sap (w : World) (vg vt v x y : Value) (t1 t2 t3 : TypeId) : At (((w.alloc (.cells #[vg, vt] t1)).alloc (.cells #[v] t2)).alloc (.cells #[x, y] t3)) w.heap.size vg vt ∧ At1 (((w.alloc (.cells #[vg, vt] t1)).alloc (.cells #[v] t2)).alloc (.cells #[x, y] t3)) (w.heap.size + 1) v ∧ At (((w.alloc (.cells #[vg, vt] t1)).alloc (.cells #[v] t2)).alloc (.cells #[x, y] t3)) (w.heap.size + 1 + 1) x y :=
  ⟨⟨by simp [go_sem], by simp [go_sem]⟩, ⟨by simp [go_sem]⟩, ⟨by simp [go_sem], by simp [go_sem]⟩⟩

set_option maxRecDepth 100000 in
set_option maxHeartbeats 4000000 in
set_option linter.unusedSimpArgs false in
theorem binding_any (vg vt v : Value) (S : Set_) (ps : List Pl) (x y : Int) (t : Nat) (w : World) (hS : SetIn w vg vt S) (hs : S.small) (hv : Plcs w v ps) (hva : Va S ps) (hT : Steps w)
    (hx : -60 ≤ x ∧ x ≤ 60) (hy : -60 ≤ y ∧ y ≤ 60) (ht : t < S.ts.length) :
    Calls Tryd.prog 50 #[.agg #[vg, vt], .agg #[v], .agg #[.int .i64 x, .int .i64 y], .int .i64 (t : Int)] w fun e w' => e = .returned (.int .i64 (bndZ S ps x y t 4)) ∧ Below w.heap.size w w' := by
  have HS := Lib.hid hS
  have HV := Lib.hid hv
  have HA := Lib.hid hva
  have HT := Lib.hid hT
  have hTl := hT.lt
  obtain ⟨ao, cap, rfl, hl, hm, hc⟩ := hv.open_
  unfold maxLen at hm
  have H0 := Lib.hid hc
  have h500 := hva.F.len
  have A0 := Lib.hid (boxes_sap w vg vt (.slice ao ps.length cap) (.int .i64 x) (.int .i64 y) 38 42 44)
  clear hS hv hva hT hc
  go_enter Tryd.func50, Tryd.ntmps50
  go_wp2_with fail
  go_loopw [9, 10] (fun s i wr => ∃ d : Nat, d ≤ 4 ∧ i = .int .i64 d ∧ (∃ m : Int, m = bndZ S ps x y t d ∧ s = .int .i64 m) ∧ (At wr w.heap.size vg vt ∧ At1 wr (w.heap.size + 1) (.slice ao ps.length cap) ∧ At wr (w.heap.size + 1 + 1) (.int .i64 x) (.int .i64 y)) ∧ Below w.heap.size w wr) (fun _ i _ => 4 - (intOf i).toNat)
  case atStart => exact ⟨0, by omega, rfl, ⟨0, rfl, rfl⟩, A0.out, by (repeat (first | exact Below.refl _ _ | refine Below.setCell ?_ (by first | (simp; done) | (simp; omega) | omega) _ | refine belowN ?_ _ | refine Below.drew ?_ | refine Below.alloc ?_ (by first | (simp; done) | (simp; omega) | omega) _ | refine Below.trans ?_ (Below.mono (by assumption) (by first | (simp; done) | (simp; omega) | omega))))⟩
  case round =>
    clear A0
    obtain ⟨d, hd, rfl, ⟨m, hm, rfl⟩, hbx, hbw⟩ := hrel
    have sw := hbw.size
    have hin := bndZ_in HA.out.V ps x y ht hd
    rw [← hm] at hin
    have HM := Lib.hid hm
    have hat2 := Lib.hid hbx
    obtain ⟨hbs, hba, hbp⟩ := hbx
    have lp := hbp.lt
    obtain ⟨g0, g1⟩ := hbs
    obtain ⟨a0⟩ := hba
    obtain ⟨p0, p1⟩ := hbp
    clear hm
    by_cases hd4 : d < 4
    · have hd4' : decide ((d : Int) ≤ 3) = true := by simp; omega
      have hTr := Lib.hid (HT.out.below hbw hTl)
      by_cases hk : ixN ps (stepX x d) (stepY y d) < ps.length
      · obtain ⟨k, hke⟩ : ∃ k, ixN ps (stepX x d) (stepY y d) = k := ⟨_, rfl⟩
        rw [hke] at hk
        have hb1 := bnd1_yes (S := S) (x := x) (y := y) (t := t) (d := d) hk hke
        have hn1 := bnd1_in HA.out.V ps x y ht hd4
        rw [hb1] at hn1
        have HB1 := Lib.hid hb1
        have hI : ixI ps (stepX x d) (stepY y d) = (k : Int) := ixI_yes hk hke
        have hH : hasB ps (stepX x d) (stepY y d) = true := hasB_yes (by rw [hke]; exact hk)
        have htl := (HA.out.tl hk).2
        have hte := (HA.out.tl hk).1
        have hk1 : (k : Int) < ps.length := by omega
        obtain ⟨b, off, rfl, H1⟩ := H0.out (by omega)
        have c2 := cell_below hbw (H1 k hk).2.2
        have hblt : b < w.heap.size := World.block_lt_of_cell? w _ (H1 k hk).1
        rw [hte] at c2
        have HTE := Lib.hid hte
        generalize hz : bondZ S t d (tlN ps k) ((d + 2) % 4) = z at *
        have HZ := Lib.hid hz
        clear hb1 hke hz hte
        go_wp2_with fail
        go_region_held3 (fun w' => w'.cell? ⟨w.heap.size + 1, 0, none⟩ = some (.slice (some ⟨b, off, none⟩) ps.length cap) ∧ w'.cell? ⟨w.heap.size + 1 + 1, 0, none⟩ = some (.int .i64 x) ∧ w'.cell? ⟨w.heap.size + 1 + 1, 1, none⟩ = some (.int .i64 y)) ((((try go_split_ands); (try dsimp only); (repeat' apply And.intro)) <;> (repeat (first | with_reducible assumption | ((with_reducible refine cnew0 ?_); simp; done) | ((with_reducible refine cnew1 ?_); simp; done) | (with_reducible refine akeep ?_) | (with_reducible refine dkeep ?_) | ((with_reducible refine skeep ?_ ?_); rotate_left; (first | ((try dsimp only); omega) | (simp; done) | (simp; omega))) | (with_reducible refine bkeep hb3 ?_)))))
          (first
            | (go_at_call 81; refine (neighbor_any x y d _ (hTr.out.below (B := wr.heap.size) (by (repeat (first | exact Below.refl _ _ | refine Below.setCell ?_ (by first | (simp; done) | (simp; omega) | omega) _ | refine belowN ?_ _ | refine Below.drew ?_ | refine Below.alloc ?_ (by first | (simp; done) | (simp; omega) | omega) _ | refine Below.trans ?_ (Below.mono (by assumption) (by first | (simp; done) | (simp; omega) | omega))))) (by omega)) (by omega) (by omega) hx.1 hx.2 hy.1 hy.2).mono ?_; rintro e w3 ⟨rfl, hb3⟩; have s3 : wr.heap.size ≤ w3.heap.size := hb3.size)
            | (go_at_call 80; refine (placeOf_any _ ps (stepX x d) (stepY y d) _ (HV.out.below (show Below w.heap.size w _ by (repeat (first | exact Below.refl _ _ | refine Below.setCell ?_ (by first | (simp; done) | (simp; omega) | omega) _ | refine belowN ?_ _ | refine Below.drew ?_ | refine Below.alloc ?_ (by first | (simp; done) | (simp; omega) | omega) _ | refine Below.trans ?_ (Below.mono (by assumption) (by first | (simp; done) | (simp; omega) | omega))))))).mono ?_; rintro e w4 ⟨rfl, hb3⟩; have s4 : w3.heap.size ≤ w4.heap.size := hb3.size; rw [hI, hH]))
        have B4 : Below wr.heap.size wr w4 := by (repeat (first | exact Below.refl _ _ | refine Below.setCell ?_ (by first | (simp; done) | (simp; omega) | omega) _ | refine belowN ?_ _ | refine Below.drew ?_ | refine Below.alloc ?_ (by first | (simp; done) | (simp; omega) | omega) _ | refine Below.trans ?_ (Below.mono (by assumption) (by first | (simp; done) | (simp; omega) | omega))))
        have B04 := hbw.trans (B4.mono sw)
        have s04 := B04.size
        have hbx4 := Lib.hid (show At w4 w.heap.size vg vt ∧ At1 w4 (w.heap.size + 1) (.slice (some ⟨b, off, none⟩) ps.length cap) ∧ At w4 (w.heap.size + 1 + 1) (.int .i64 x) (.int .i64 y) from ⟨hat2.out.1.below B4, hat2.out.2.1.below B4, hat2.out.2.2.below B4⟩)
        obtain ⟨f0, f1⟩ := hbx4.out.1
        obtain ⟨e0⟩ := hbx4.out.2.1
        have l4 := hbx4.out.2.1.lt
        have c4 := cell_below B04 (H1 k hk).2.2
        rw [HTE.out] at c4
        clear H1 c2 g0 g1 a0 p0 p1 hb3
        go_wp2_with fail
        go_region_held3 (fun w' => w'.cell? ⟨w.heap.size, 0, none⟩ = some vg ∧ w'.cell? ⟨w.heap.size, 1, none⟩ = some vt ∧ w'.cell? ⟨w.heap.size + 1, 0, none⟩ = some (.slice (some ⟨b, off, none⟩) ps.length cap) ∧ w'.cell? ⟨b, off + k * 3 + 2, none⟩ = some (.int .i64 (tlN ps k : Int))) ((((try go_split_ands); (try dsimp only); (repeat' apply And.intro)) <;> (repeat (first | with_reducible assumption | ((with_reducible refine cnew0 ?_); simp; done) | ((with_reducible refine cnew1 ?_); simp; done) | (with_reducible refine akeep ?_) | (with_reducible refine dkeep ?_) | ((with_reducible refine skeep ?_ ?_); rotate_left; (first | ((try dsimp only); omega) | (simp; done) | (simp; omega))) | (with_reducible refine bkeep hb3 ?_)))))
          ((go_at_call 82; refine (bond_any vg vt S t d (tlN ps k) ((d + 2) % 4) _ (HS.out.below (show Below w.heap.size w _ by (repeat (first | exact Below.refl _ _ | refine Below.setCell ?_ (by first | (simp; done) | (simp; omega) | omega) _ | refine belowN ?_ _ | refine Below.drew ?_ | refine Below.alloc ?_ (by first | (simp; done) | (simp; omega) | omega) _ | refine Below.trans ?_ (Below.mono (by assumption) (by first | (simp; done) | (simp; omega) | omega)))))) hs HA.out.V ht hd4 htl rfl).mono ?_; rintro e w5 ⟨rfl, hb3⟩; have s5 : w4.heap.size ≤ w5.heap.size := hb3.size; rw [HZ.out]))
        have B5 : Below w4.heap.size w4 w5 := by (repeat (first | exact Below.refl _ _ | refine Below.setCell ?_ (by first | (simp; done) | (simp; omega) | omega) _ | refine belowN ?_ _ | refine Below.drew ?_ | refine Below.alloc ?_ (by first | (simp; done) | (simp; omega) | omega) _ | refine Below.trans ?_ (Below.mono (by assumption) (by first | (simp; done) | (simp; omega) | omega))))
        go_wp2_with fail
        go_roundw
        case rel => exact ⟨d + 1, by omega, by go_num, ⟨m + z, by rw [HM.out]; simp only [bndZ]; rw [HB1.out], congrArg (Value.int .i64) (IntWalk.i64_in _ (by omega))⟩, ⟨hbx4.out.1.below B5, hbx4.out.2.1.below B5, hbx4.out.2.2.below B5⟩, B04.trans (B5.mono s04)⟩
        case measure => simp [intOf]; omega
      · have HB1 := Lib.hid (bnd1_no (S := S) (x := x) (y := y) (t := t) (d := d) hk)
        have hI : ixI ps (stepX x d) (stepY y d) = -1 := by unfold ixI; rw [if_neg hk]
        have hH : hasB ps (stepX x d) (stepY y d) = false := hasB_no hk
        clear hk
        go_wp2_with fail
        go_region_held3 (fun w' => w'.cell? ⟨w.heap.size + 1, 0, none⟩ = some (.slice ao ps.length cap) ∧ w'.cell? ⟨w.heap.size + 1 + 1, 0, none⟩ = some (.int .i64 x) ∧ w'.cell? ⟨w.heap.size + 1 + 1, 1, none⟩ = some (.int .i64 y)) ((((try go_split_ands); (try dsimp only); (repeat' apply And.intro)) <;> (repeat (first | with_reducible assumption | ((with_reducible refine cnew0 ?_); simp; done) | ((with_reducible refine cnew1 ?_); simp; done) | (with_reducible refine akeep ?_) | (with_reducible refine dkeep ?_) | ((with_reducible refine skeep ?_ ?_); rotate_left; (first | ((try dsimp only); omega) | (simp; done) | (simp; omega))) | (with_reducible refine bkeep hb3 ?_)))))
          (first
            | (go_at_call 81; refine (neighbor_any x y d _ (hTr.out.below (B := wr.heap.size) (by (repeat (first | exact Below.refl _ _ | refine Below.setCell ?_ (by first | (simp; done) | (simp; omega) | omega) _ | refine belowN ?_ _ | refine Below.drew ?_ | refine Below.alloc ?_ (by first | (simp; done) | (simp; omega) | omega) _ | refine Below.trans ?_ (Below.mono (by assumption) (by first | (simp; done) | (simp; omega) | omega))))) (by omega)) (by omega) (by omega) hx.1 hx.2 hy.1 hy.2).mono ?_; rintro e w3 ⟨rfl, hb3⟩; have s3 : wr.heap.size ≤ w3.heap.size := hb3.size)
            | (go_at_call 80; refine (placeOf_any _ ps (stepX x d) (stepY y d) _ (HV.out.below (show Below w.heap.size w _ by (repeat (first | exact Below.refl _ _ | refine Below.setCell ?_ (by first | (simp; done) | (simp; omega) | omega) _ | refine belowN ?_ _ | refine Below.drew ?_ | refine Below.alloc ?_ (by first | (simp; done) | (simp; omega) | omega) _ | refine Below.trans ?_ (Below.mono (by assumption) (by first | (simp; done) | (simp; omega) | omega))))))).mono ?_; rintro e w4 ⟨rfl, hb3⟩; have s4 : w3.heap.size ≤ w4.heap.size := hb3.size; rw [hI, hH]))
        have B4 : Below wr.heap.size wr w4 := by (repeat (first | exact Below.refl _ _ | refine Below.setCell ?_ (by first | (simp; done) | (simp; omega) | omega) _ | refine belowN ?_ _ | refine Below.drew ?_ | refine Below.alloc ?_ (by first | (simp; done) | (simp; omega) | omega) _ | refine Below.trans ?_ (Below.mono (by assumption) (by first | (simp; done) | (simp; omega) | omega))))
        go_wp2_with fail
        go_roundw
        case rel => exact ⟨d + 1, by omega, by go_num, ⟨m, by rw [HM.out]; simp only [bndZ]; rw [HB1.out]; omega, rfl⟩, ⟨hat2.out.1.below B4, hat2.out.2.1.below B4, hat2.out.2.2.below B4⟩, hbw.trans (B4.mono sw)⟩
        case measure => simp [intOf]; omega
    · obtain rfl : d = 4 := by omega
      clear g0 g1 a0 p0 p1
      go_wp2_with fail
      go_ret
      exact ⟨ret_i64 HM.out, hbw⟩
end Go.Proofs.YtnofbeeihdgmdaaDoor
