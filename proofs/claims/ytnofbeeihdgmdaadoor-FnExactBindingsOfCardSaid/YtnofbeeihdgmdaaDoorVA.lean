/-
  ValidAssembly, the model's and the program's. Conditions: each theorem's own.
-/
import Derived.Test.YtnofbeeihdgmdaaDoorForm2
import Derived.Test.YtnofbeeihdgmdaaDoorSetLaw
import Derived.Test.YtnofbeeihdgmdaaDoorBonds
import Derived.Test.YtnofbeeihdgmdaaDoorOwn
namespace Go.Proofs.YtnofbeeihdgmdaaDoor
open Go.RowKit

open Classical in
/-- Are all tiles indices below n? -/
noncomputable def tlB (n : Nat) (ps : List Pl) : Bool := decide (∀ i, i < ps.length → 0 ≤ pT ps i ∧ pT ps i < n)
theorem tlB_iff {n : Nat} {ps : List Pl} : tlB n ps = true ↔ ∀ i, i < ps.length → 0 ≤ pT ps i ∧ pT ps i < n := by unfold tlB; simp
theorem tlB_no {n : Nat} {ps : List Pl} {i : Nat} (hi : i < ps.length) (h : ¬ (0 ≤ pT ps i ∧ pT ps i < n)) : tlB n ps = false := by
  cases e : tlB n ps
  · rfl
  · exact absurd (tlB_iff.1 e i hi) h
noncomputable def vaB (S : Set_) (ps : List Pl) : Bool := validB S && formB ps && tlB S.ts.length ps
noncomputable def aOkB (n : Nat) (ps : List Pl) : Bool := formB ps && tlB n ps

set_option maxHeartbeats 1600000 in
theorem l03Ok_any (p q : Nat) (vg vt v : Value) (S : Set_) (ps : List Pl) (w : World) (hp : At w p vg vt) (hq : At1 w q v) (hS : SetIn w vg vt S) (hs : S.small) (hv : Plcs w v ps) :
    Calls Tryd.prog 69 #[.pointer (some ⟨p, 0, none⟩), .pointer (some ⟨q, 0, none⟩)] w fun e w' => e = .returned (.bool (aOkB S.ts.length ps)) ∧ Below w.heap.size w w' := by
  have HV := Lib.hid hv
  have HS := Lib.hid hS
  have HP := Lib.hid hp
  have HQ := Lib.hid hq
  have htl := hs.tl
  obtain ⟨ao, cap, rfl, hl, hm, hc⟩ := hv.open_
  unfold maxLen at hm
  have H0 := Lib.hid hc
  clear hc hv hp hq hS
  go_enter Tryd.func69, Tryd.ntmps69
  go_wp2_with fail
  refine (l03Form_any q _ ps _ HQ.out HV.out).mono ?_
  rintro e w1 ⟨rfl, hb1⟩
  have r1 := (HQ.out.below hb1).c0
  cases hf : formB ps
  · have K := Lib.hid (show aOkB S.ts.length ps = false by unfold aOkB; rw [hf]; rfl)
    go_wp2_with fail
    go_ret
    exact ⟨ret_bool (by rw [K.out]), hb1⟩
  · have F := Lib.hid (formB_iff.1 hf)
    have h500 := F.out.len
    have HF := Lib.hid hf
    clear hf
    go_wp2_with fail
    go_loopw [5] (fun i wr => ∃ k : Nat, k ≤ ps.length ∧ i = .int .i64 k ∧ Hid (∀ j, j < k → 0 ≤ pT ps j ∧ pT ps j < S.ts.length) ∧ Below w.heap.size w wr) (fun i _ => ps.length - (intOf i).toNat)
    case atStart => exact ⟨0, by omega, rfl, Lib.hid (fun j hj => by omega), hb1⟩
    case round =>
      clear r1 hb1
      obtain ⟨k, hk, rfl, hall, hbw⟩ := hrel
      have r1 := (HQ.out.below hbw).c0
      by_cases hlt : k < ps.length
      · obtain ⟨b, off, rfl, H1⟩ := H0.out (by omega)
        obtain ⟨-, -, c2⟩ := H1 k hlt
        have c2 := cell_below hbw c2
        clear H1
        have HPr := Lib.hid (HP.out.below hbw)
        have HSr := Lib.hid (HS.out.below hbw)
        by_cases he : 0 ≤ pT ps k ∧ pT ps k < S.ts.length
        · have KE := Lib.hid (inB_yes (n := pT ps k) (lo := 0) (hi := (S.ts.length : Int) - 1) he.1 (by omega))
          have HE := Lib.hid he
          clear he
          go_wp2_with (go_at_call 42; refine (l02Index_any p vg vt S.ts _ _ HPr.out HSr.out.t htl).mono ?_; rintro e w2 ⟨rfl, rfl⟩; rw [KE.out])
          go_roundw
          case rel =>
            refine ⟨k + 1, by omega, by go_num, Lib.hid fun j hj => ?_, hbw⟩
            by_cases hjk : j < k
            · exact hall.out j hjk
            · obtain rfl : j = k := by omega
              exact HE.out
          case measure => simp [intOf]; omega
        · have KE := Lib.hid (inB_no (n := pT ps k) (lo := 0) (hi := (S.ts.length : Int) - 1) (by omega))
          have K := Lib.hid (show aOkB S.ts.length ps = false by unfold aOkB; rw [tlB_no hlt he, Bool.and_false])
          clear he
          go_wp2_with (go_at_call 42; refine (l02Index_any p vg vt S.ts _ _ HPr.out HSr.out.t htl).mono ?_; rintro e w2 ⟨rfl, rfl⟩; rw [KE.out])
          go_ret
          exact ⟨ret_bool (by rw [K.out]), hbw⟩
      · obtain rfl : k = ps.length := by omega
        have K := Lib.hid (show aOkB S.ts.length ps = true by unfold aOkB; rw [HF.out, tlB_iff.2 hall.out]; rfl)
        go_wp2_with fail
        go_ret
        exact ⟨ret_bool (by rw [K.out]), hbw⟩

/-- The boxes of a set and an assembly. -/
theorem boxes_sa (w : World) (vg vt v : Value) (t1 t2 : TypeId) : At ((w.alloc (.cells #[vg, vt] t1)).alloc (.cells #[v] t2)) w.heap.size vg vt ∧ At1 ((w.alloc (.cells #[vg, vt] t1)).alloc (.cells #[v] t2)) (w.heap.size + 1) v := ⟨⟨by simp [go_sem], by simp [go_sem]⟩, ⟨by simp [go_sem]⟩⟩

set_option maxHeartbeats 1600000 in
theorem implValidAssembly_law (vg1 vt1 : Value) (S1 : Set_) (v2 : Value) (P2 : List Pl) (w : World) (h1 : SetIn w vg1 vt1 S1) (_s1 : ∃ a k q, vg1 = .slice (some a) k q) (ok1 : S1.ok) (m1 : S1.small) (h2 : Plcs w v2 P2) (_s2 : ∃ a k q, v2 = .slice (some a) k q) (_o2 : ∀ p ∈ P2, p.ok) (_m2 : P2.length ≤ 1048576) :
    Calls Tryd.prog 47 #[.agg #[vg1, vt1], .agg #[v2]] w fun e w' => e = .returned (.bool (vaB S1 P2)) ∧ Below w.heap.size w w' := by
  have HS := Lib.hid h1
  have HV := Lib.hid h2
  obtain ⟨ao, cap, rfl, hl, hm, hc⟩ := h2.open_
  unfold maxLen at hm
  have H0 := Lib.hid hc
  have HB := Lib.hid (boxes_sa w vg1 vt1 (.slice ao P2.length cap) 38 42)
  have htl := m1.tl
  clear h1 h2 hc
  go_enter Tryd.func47, Tryd.ntmps47
  go_wp2_with fail
  refine (implValid_any vg1 vt1 S1 _ (HS.out.below (by (repeat (first | exact Below.refl _ _ | refine Below.setCell ?_ (by first | (simp; done) | (simp; omega) | omega) _ | refine belowN ?_ _ | refine Below.drew ?_ | refine Below.alloc ?_ (by first | (simp; done) | (simp; omega) | omega) _ | refine Below.trans ?_ (Below.mono (by assumption) (by first | (simp; done) | (simp; omega) | omega)))))) ok1 m1).mono ?_
  rintro e w1 ⟨rfl, hb1⟩
  have B1 : Below w.heap.size w w1 := by (repeat (first | exact Below.refl _ _ | refine Below.setCell ?_ (by first | (simp; done) | (simp; omega) | omega) _ | refine belowN ?_ _ | refine Below.drew ?_ | refine Below.alloc ?_ (by first | (simp; done) | (simp; omega) | omega) _ | refine Below.trans ?_ (Below.mono (by assumption) (by first | (simp; done) | (simp; omega) | omega))))
  have z1 := B1.size
  have A1 := Lib.hid (HB.out.1.below hb1)
  have E1 := Lib.hid (HB.out.2.below hb1)
  clear hb1
  obtain ⟨a0, a1⟩ := A1.out
  have e0 := E1.out.c0
  cases hv : validB S1
  · have K := Lib.hid (show vaB S1 P2 = false by unfold vaB; rw [hv]; rfl)
    go_wp2_with fail
    go_ret
    exact ⟨ret_bool (by rw [K.out]), B1⟩
  have HVB := Lib.hid hv
  clear hv
  cases hf : formB P2
  · have K := Lib.hid (show vaB S1 P2 = false by unfold vaB; rw [HVB.out, hf]; rfl)
    go_wp2_with (go_at_call 78; refine (hasForm_any _ P2 _ (HV.out.below B1)).mono ?_; rintro e w2 ⟨rfl, hb2⟩; rw [hf])
    go_ret
    exact ⟨ret_bool (by rw [K.out]), by (repeat (first | exact Below.refl _ _ | refine Below.setCell ?_ (by first | (simp; done) | (simp; omega) | omega) _ | refine belowN ?_ _ | refine Below.drew ?_ | refine Below.alloc ?_ (by first | (simp; done) | (simp; omega) | omega) _ | refine Below.trans ?_ (Below.mono (by assumption) (by first | (simp; done) | (simp; omega) | omega))))⟩
  have HFB := Lib.hid hf
  go_wp2_with fail
  refine (hasForm_any _ P2 _ (HV.out.below B1)).mono ?_
  rintro e w2 ⟨rfl, hb2⟩
  rw [hf]
  clear hf
  have B2 : Below w.heap.size w w2 := by (repeat (first | exact Below.refl _ _ | refine Below.setCell ?_ (by first | (simp; done) | (simp; omega) | omega) _ | refine belowN ?_ _ | refine Below.drew ?_ | refine Below.alloc ?_ (by first | (simp; done) | (simp; omega) | omega) _ | refine Below.trans ?_ (Below.mono (by assumption) (by first | (simp; done) | (simp; omega) | omega))))
  have A2 := Lib.hid (A1.out.below hb2)
  have E2 := Lib.hid (E1.out.below hb2)
  have e0 := E2.out.c0
  clear hb2 a0 a1
  go_wp2_with fail
  go_loopw [18] (fun i wr => ∃ k : Nat, k ≤ P2.length ∧ i = .int .i64 k ∧ Hid (∀ j, j < k → 0 ≤ pT P2 j ∧ pT P2 j < S1.ts.length) ∧ At wr w.heap.size vg1 vt1 ∧ Below w.heap.size w wr) (fun i _ => P2.length - (intOf i).toNat)
  case atStart => exact ⟨0, by omega, rfl, Lib.hid (fun j hj => by omega), A2.out, B2⟩
  case round =>
    clear e0 B2
    obtain ⟨k, hk, rfl, hall, hat, hbw⟩ := hrel
    have sw := hbw.size
    by_cases hlt : k < P2.length
    · obtain ⟨b, off, rfl, H1⟩ := H0.out (by omega)
      obtain ⟨c0, c1, c2⟩ := H1 k hlt
      have c0 := cell_below hbw c0
      have c1 := cell_below hbw c1
      have c2 := cell_below hbw c2
      have HAT := Lib.hid hat
      have htl2 := hat.lt
      obtain ⟨g0, g1⟩ := hat
      clear H1
      by_cases he : 0 ≤ pT P2 k ∧ pT P2 k < S1.ts.length
      · have KE := Lib.hid (inB_yes (n := pT P2 k) (lo := 0) (hi := (S1.ts.length : Int) - 1) he.1 (by omega))
        have HE := Lib.hid he
        clear he
        go_wp2_with fail
        refine (hasTile_any vg1 vt1 S1.ts _ _ (HS.out.t.below (by (repeat (first | exact Below.refl _ _ | refine Below.setCell ?_ (by first | (simp; done) | (simp; omega) | omega) _ | refine belowN ?_ _ | refine Below.drew ?_ | refine Below.alloc ?_ (by first | (simp; done) | (simp; omega) | omega) _ | refine Below.trans ?_ (Below.mono (by assumption) (by first | (simp; done) | (simp; omega) | omega)))))) htl).mono ?_
        rintro e w3 ⟨rfl, hb3⟩
        rw [KE.out]
        have q3 : Below wr.heap.size wr w3 := by (repeat (first | exact Below.refl _ _ | refine Below.setCell ?_ (by first | (simp; done) | (simp; omega) | omega) _ | refine belowN ?_ _ | refine Below.drew ?_ | refine Below.alloc ?_ (by first | (simp; done) | (simp; omega) | omega) _ | refine Below.trans ?_ (Below.mono (by assumption) (by first | (simp; done) | (simp; omega) | omega))))
        have A3 := HAT.out.below q3
        have B3 := hbw.trans (q3.mono sw)
        clear hb3
        go_wp2_with fail
        go_roundw
        case rel =>
          refine ⟨k + 1, by omega, by go_num, Lib.hid fun j hj => ?_, A3, B3⟩
          by_cases hjk : j < k
          · exact hall.out j hjk
          · obtain rfl : j = k := by omega
            exact HE.out
        case measure => simp [intOf]; omega
      · have KE := Lib.hid (inB_no (n := pT P2 k) (lo := 0) (hi := (S1.ts.length : Int) - 1) (by omega))
        have K := Lib.hid (show vaB S1 P2 = false by unfold vaB; rw [tlB_no hlt he, Bool.and_false])
        clear he
        go_wp2_with fail
        refine (hasTile_any vg1 vt1 S1.ts _ _ (HS.out.t.below (by (repeat (first | exact Below.refl _ _ | refine Below.setCell ?_ (by first | (simp; done) | (simp; omega) | omega) _ | refine belowN ?_ _ | refine Below.drew ?_ | refine Below.alloc ?_ (by first | (simp; done) | (simp; omega) | omega) _ | refine Below.trans ?_ (Below.mono (by assumption) (by first | (simp; done) | (simp; omega) | omega)))))) htl).mono ?_
        rintro e w3 ⟨rfl, hb3⟩
        rw [KE.out]
        have q3 : Below wr.heap.size wr w3 := by (repeat (first | exact Below.refl _ _ | refine Below.setCell ?_ (by first | (simp; done) | (simp; omega) | omega) _ | refine belowN ?_ _ | refine Below.drew ?_ | refine Below.alloc ?_ (by first | (simp; done) | (simp; omega) | omega) _ | refine Below.trans ?_ (Below.mono (by assumption) (by first | (simp; done) | (simp; omega) | omega))))
        have B3 := hbw.trans (q3.mono sw)
        clear hb3
        go_wp2_with fail
        go_ret
        exact ⟨ret_bool (by rw [K.out]), B3⟩
    · obtain rfl : k = P2.length := by omega
      have K := Lib.hid (show vaB S1 P2 = true by unfold vaB; rw [HVB.out, HFB.out, tlB_iff.2 hall.out]; rfl)
      go_wp2_with fail
      go_ret
      exact ⟨ret_bool (by rw [K.out]), hbw⟩

theorem SetOwn.sol {w : World} {lo : Nat} {vg vt : Value} {S : Set_} (h : SetOwn w lo vg vt S) : ∃ a k q, vg = .slice (some a) k q := let ⟨_, _, _, _, h3, _⟩ := h; ⟨_, _, _, h3.1⟩
theorem OwnSet.below {w w1 : World} {lo hi : Nat} {vg vt : Value} {S : Set_} (h : OwnSet w lo hi vg vt S) (hb : Below w.heap.size w w1) : OwnSet w1 lo hi vg vt S := h.keep (Within.of (lo := 0) (hi := 0) hb) (.inr (Nat.zero_le _))
theorem OwnSet.mono {w : World} {lo hi lo' hi' : Nat} {vg vt : Value} {S : Set_} (h : OwnSet w lo hi vg vt S) (h1 : lo' ≤ lo) (h2 : hi ≤ hi') : OwnSet w lo' hi' vg vt S :=
  let ⟨x, y, c, d, e1, e2, e3, e4, e5, e6, e7⟩ := h
  ⟨x, y, c, d, by omega, by omega, by omega, by omega, e5, e6, e7⟩

end Go.Proofs.YtnofbeeihdgmdaaDoor
