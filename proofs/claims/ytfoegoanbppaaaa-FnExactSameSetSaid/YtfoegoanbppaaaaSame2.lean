/-
  The model's equality of sets of tiles. Conditions: each theorem's own.
-/
import Derived.Test.YtfoegoanbppaaaaSame
namespace Go.Proofs.Ytfoegoanbppaaaa
open Go.RowKit

theorem Ints.drewN {w : World} {v : Value} {zs : List Int} (h : Ints w v zs) (n : Nat) : Ints (w.drewN n) v zs := h

set_option maxRecDepth 100000 in
set_option maxHeartbeats 4000000 in
theorem l02Same_any (p q : Nat) (ug ut vg vt : Value) (S R : Set_) (w : World) (hp : At w p ug ut) (hq : At w q vg vt) (hS : SetIn w ug ut S) (hR : SetIn w vg vt R) :
    Calls Try.prog 56 #[.pointer (some ⟨p, 0, none⟩), .pointer (some ⟨q, 0, none⟩)] w fun e w' => e = .returned (.bool (sameS S R)) ∧ Below w.heap.size w w' := by
  obtain ⟨ao, cap, rfl, hl, hm, hc⟩ := hS.g
  obtain ⟨bo, cap2, rfl, hl2, hm2, hc2⟩ := hR.g
  obtain ⟨sv, ⟨ao3, cap3, rfl, hl3, hm3, hc3⟩, hsv⟩ := hS.t
  obtain ⟨sv2, ⟨ao4, cap4, rfl, hl4, hm4, hc4⟩, hsv2⟩ := hR.t
  unfold maxLen at hm hm2 hm3 hm4
  have H0 := Lib.hid hc
  have H2 := Lib.hid hc2
  have H3 := Lib.hid hc3
  have H4 := Lib.hid hc4
  have HS := Lib.hid hsv
  have HS2 := Lib.hid hsv2
  have p0 := hp.c0
  have p1 := hp.c1
  have q0 := hq.c0
  have q1 := hq.c1
  have HP := Lib.hid hp
  have HQ := Lib.hid hq
  clear hc hc2 hc3 hc4 hsv hsv2 hp hq hS hR
  by_cases g1 : S.gs.length = R.gs.length
  · by_cases g2 : S.ts.length = R.ts.length
    · have L1 := Lib.hid g1
      have L2 := Lib.hid g2
      rw [← g1] at q0
      rw [← g2] at q1
      have hl2' : S.gs.length ≤ cap2 := by omega
      have hl4' : S.ts.length ≤ cap4 := by omega
      clear g1 g2 hl2 hl4
      go_enter Try.func56, Try.ntmps56
      go_wp2_with fail
      go_quiet (fail)
      go_wp2_with fail
      go_loopw [5] (fun i wr => ∃ k : Nat, k ≤ S.gs.length ∧ i = .int .i64 k ∧ Hid (∀ j, j < k → gN S.gs j = gN R.gs j ∧ gS S.gs j = gS R.gs j) ∧ Below w.heap.size w wr) (fun i _ => S.gs.length - (intOf i).toNat)
      case atStart => exact ⟨0, by omega, rfl, Lib.hid (fun j hj => by omega), by (repeat (first | exact Below.refl _ _ | refine Below.setCell ?_ (by first | (simp; done) | (simp; omega) | omega) _ | refine belowN ?_ _ | refine Below.drew ?_ | refine Below.alloc ?_ (by first | (simp; done) | (simp; omega) | omega) _ | refine Below.trans ?_ (Below.mono (by assumption) (by first | (simp; done) | (simp; omega) | omega))))⟩
      case round =>
        obtain ⟨k, hk, rfl, hall, hbw⟩ := hrel
        have r0 := cell_below hbw p0
        have r1 := cell_below hbw p1
        have r2 := cell_below hbw q0
        have r3 := cell_below hbw q1
        have HPr := Lib.hid (HP.out.below hbw)
        by_cases hlt : k < S.gs.length
        · obtain ⟨b, off, rfl, H1⟩ := H0.out (by omega)
          obtain ⟨b2, off2, rfl, H5⟩ := H2.out (by have := L1.out; omega)
          have c0 := cell_below hbw (H1 k 0 hlt (by omega))
          have d0 := cell_below hbw (H5 k 0 (by have := L1.out; omega) (by omega))
          have c1 := cell_below hbw (H1 k 1 hlt (by omega))
          have d1 := cell_below hbw (H5 k 1 (by have := L1.out; omega) (by omega))
          simp at c0 d0 c1 d1
          clear H1 H5 p0 p1 q0 q1
          by_cases he : gN S.gs k = gN R.gs k ∧ gS S.gs k = gS R.gs k
          · have HE := Lib.hid he
            rw [← he.1] at d0
            rw [← he.2] at d1
            clear he
            go_wp2_with fail
            go_quiet (fail)
            go_wp2_with fail
            go_roundw
            case rel =>
              refine ⟨k + 1, by omega, by go_num, Lib.hid fun j hj => ?_, by (repeat (first | exact Below.refl _ _ | refine Below.setCell ?_ (by first | (simp; done) | (simp; omega) | omega) _ | refine belowN ?_ _ | refine Below.drew ?_ | refine Below.alloc ?_ (by first | (simp; done) | (simp; omega) | omega) _ | refine Below.trans ?_ (Below.mono (by assumption) (by first | (simp; done) | (simp; omega) | omega))))⟩
              by_cases hjk : j < k
              · exact hall.out j hjk
              · obtain rfl : j = k := by omega
                exact HE.out
            case measure => simp [intOf]; omega
          · have K : Hid (sameS S R = false) := by
              unfold sameS
              rw [sameG_no fun h => he (by rw [h]; exact ⟨rfl, rfl⟩)]
              rfl
            by_cases hn : gN S.gs k = gN R.gs k
            · have bn : (gS S.gs k == gS R.gs k) = false := by
                rw [beq_eq_false_iff_ne]; exact fun h => he ⟨hn, h⟩
              rw [← hn] at d0
              clear he hn
              go_wp2_with fail
              go_quiet (fail)
              go_wp2_with fail
              go_ret
              exact ⟨ret_bool (by rw [K.out]), by (repeat (first | exact Below.refl _ _ | refine Below.setCell ?_ (by first | (simp; done) | (simp; omega) | omega) _ | refine belowN ?_ _ | refine Below.drew ?_ | refine Below.alloc ?_ (by first | (simp; done) | (simp; omega) | omega) _ | refine Below.trans ?_ (Below.mono (by assumption) (by first | (simp; done) | (simp; omega) | omega))))⟩
            · have bn := str_ne2 hn
              clear he hn
              go_wp2_with fail
              go_quiet (fail)
              go_wp2_with fail
              go_ret
              exact ⟨ret_bool (by rw [K.out]), by (repeat (first | exact Below.refl _ _ | refine Below.setCell ?_ (by first | (simp; done) | (simp; omega) | omega) _ | refine belowN ?_ _ | refine Below.drew ?_ | refine Below.alloc ?_ (by first | (simp; done) | (simp; omega) | omega) _ | refine Below.trans ?_ (Below.mono (by assumption) (by first | (simp; done) | (simp; omega) | omega))))⟩
        · obtain rfl : k = S.gs.length := by omega
          have KG := Lib.hid (sameG_yes (gl_ext L1.out hall.out))
          go_wp2_with fail
          go_loopw [6] (fun i wt => ∃ k : Nat, k ≤ S.ts.length ∧ i = .int .i64 k ∧ Hid (∀ j, j < k → tN S.ts j = tN R.ts j ∧ tS S.ts j = tS R.ts j) ∧ Below w.heap.size w wt) (fun i _ => S.ts.length - (intOf i).toNat)
          case atStart => exact ⟨0, by omega, rfl, Lib.hid (fun j hj => by omega), by (repeat (first | exact Below.refl _ _ | refine Below.setCell ?_ (by first | (simp; done) | (simp; omega) | omega) _ | refine belowN ?_ _ | refine Below.drew ?_ | refine Below.alloc ?_ (by first | (simp; done) | (simp; omega) | omega) _ | refine Below.trans ?_ (Below.mono (by assumption) (by first | (simp; done) | (simp; omega) | omega))))⟩
          case round =>
            clear r0 r1 r2 r3 HPr hbw
            obtain ⟨k, hk, rfl, tall, hbw⟩ := hrel
            have r0 := cell_below hbw p0
            have r1 := cell_below hbw p1
            have r2 := cell_below hbw q0
            have r3 := cell_below hbw q1
            by_cases hlt : k < S.ts.length
            · obtain ⟨b, off, rfl, H1⟩ := H3.out (by omega)
              obtain ⟨b2, off2, rfl, H5⟩ := H4.out (by have := L2.out; omega)
              have c0 := cell_below hbw (H1 k 0 hlt (by omega))
              have d0 := cell_below hbw (H5 k 0 (by have := L2.out; omega) (by omega))
              have c1 := cell_below hbw (H1 k 1 hlt (by omega))
              have d1 := cell_below hbw (H5 k 1 (by have := L2.out; omega) (by omega))
              simp at c0 d0 c1 d1
              have HI := Lib.hid ((HS.out k hlt).below hbw)
              have HJ := Lib.hid ((HS2.out k (by have := L2.out; omega)).below hbw)
              clear H1 H5 p0 p1 q0 q1
              by_cases hn : tN S.ts k = tN R.ts k
              · rw [← hn] at d0
                have HN := Lib.hid hn
                clear hn
                cases hst : sameI (tS S.ts k) (tS R.ts k)
                · have K : Hid (sameS S R = false) := by
                    unfold sameS
                    rw [sameT_no fun h => by rw [sameI_yes (by rw [h])] at hst; exact absurd hst (by simp)]
                    simp [Hid]
                  go_wp2_with fail
                  go_quiet ((go_at_call 85; exact Calls.quiet_of (l00Same_any _ _ (tS S.ts k) (tS R.ts k) _ (Ints.drewN HI.out _) (Ints.drewN HJ.out _))))
                  go_wp2_with fail
                  go_ret
                  exact ⟨ret_bool (by rw [K.out]), by (repeat (first | exact Below.refl _ _ | refine Below.setCell ?_ (by first | (simp; done) | (simp; omega) | omega) _ | refine belowN ?_ _ | refine Below.drew ?_ | refine Below.alloc ?_ (by first | (simp; done) | (simp; omega) | omega) _ | refine Below.trans ?_ (Below.mono (by assumption) (by first | (simp; done) | (simp; omega) | omega))))⟩
                · have HE : Hid (tS S.ts k = tS R.ts k) := by
                    by_cases h : tS S.ts k = tS R.ts k
                    · exact h
                    · rw [sameI_no h] at hst; exact absurd hst (by simp)
                  go_wp2_with fail
                  go_quiet ((go_at_call 85; exact Calls.quiet_of (l00Same_any _ _ (tS S.ts k) (tS R.ts k) _ (Ints.drewN HI.out _) (Ints.drewN HJ.out _))))
                  go_wp2_with fail
                  go_roundw
                  case rel =>
                    refine ⟨k + 1, by omega, by go_num, Lib.hid fun j hj => ?_, by (repeat (first | exact Below.refl _ _ | refine Below.setCell ?_ (by first | (simp; done) | (simp; omega) | omega) _ | refine belowN ?_ _ | refine Below.drew ?_ | refine Below.alloc ?_ (by first | (simp; done) | (simp; omega) | omega) _ | refine Below.trans ?_ (Below.mono (by assumption) (by first | (simp; done) | (simp; omega) | omega))))⟩
                    by_cases hjk : j < k
                    · exact tall.out j hjk
                    · obtain rfl : j = k := by omega
                      exact ⟨HN.out, HE.out⟩
                  case measure => simp [intOf]; omega
              · have K : Hid (sameS S R = false) := by
                  unfold sameS
                  rw [sameT_no fun h => hn (by rw [h])]
                  simp [Hid]
                have bn := str_ne2 hn
                clear hn
                go_wp2_with fail
                go_quiet (fail)
                go_wp2_with fail
                go_ret
                exact ⟨ret_bool (by rw [K.out]), by (repeat (first | exact Below.refl _ _ | refine Below.setCell ?_ (by first | (simp; done) | (simp; omega) | omega) _ | refine belowN ?_ _ | refine Below.drew ?_ | refine Below.alloc ?_ (by first | (simp; done) | (simp; omega) | omega) _ | refine Below.trans ?_ (Below.mono (by assumption) (by first | (simp; done) | (simp; omega) | omega))))⟩
            · obtain rfl : k = S.ts.length := by omega
              have K : Hid (sameS S R = true) := by unfold sameS; rw [KG.out, sameT_yes (tl_ext L2.out tall.out)]; rfl
              go_wp2_with fail
              go_ret
              exact ⟨ret_bool (by rw [K.out]), hbw⟩
    · have K : Hid (sameS S R = false) := by unfold sameS; rw [sameT_no fun h => g2 (by rw [h])]; simp [Hid]
      have bn : ((S.ts.length : Int) != (R.ts.length : Int)) = true := by rw [bne_iff_ne]; omega
      have L1 := Lib.hid g1
      rw [← g1] at q0
      have hl2' : S.gs.length ≤ cap2 := by omega
      clear g1 g2 hl2
      go_enter Try.func56, Try.ntmps56
      go_wp2_with fail
      go_quiet (fail)
      go_wp2_with fail
      go_ret
      exact ⟨ret_bool (by rw [K.out]), by (repeat (first | exact Below.refl _ _ | refine Below.setCell ?_ (by first | (simp; done) | (simp; omega) | omega) _ | refine belowN ?_ _ | refine Below.drew ?_ | refine Below.alloc ?_ (by first | (simp; done) | (simp; omega) | omega) _ | refine Below.trans ?_ (Below.mono (by assumption) (by first | (simp; done) | (simp; omega) | omega))))⟩
  · have K : Hid (sameS S R = false) := by unfold sameS; rw [sameG_no fun h => g1 (by rw [h])]; simp [Hid]
    have bn : ((S.gs.length : Int) != (R.gs.length : Int)) = true := by rw [bne_iff_ne]; omega
    clear g1
    go_enter Try.func56, Try.ntmps56
    go_wp2_with fail
    go_quiet (fail)
    go_wp2_with fail
    go_ret
    exact ⟨ret_bool (by rw [K.out]), by (repeat (first | exact Below.refl _ _ | refine Below.setCell ?_ (by first | (simp; done) | (simp; omega) | omega) _ | refine belowN ?_ _ | refine Below.drew ?_ | refine Below.alloc ?_ (by first | (simp; done) | (simp; omega) | omega) _ | refine Below.trans ?_ (Below.mono (by assumption) (by first | (simp; done) | (simp; omega) | omega))))⟩

theorem specSameSet_any (ug ut vg vt : Value) (S R : Set_) (w : World) (hS : SetIn w ug ut S) (hR : SetIn w vg vt R) :
    Calls Try.prog 20 #[.agg #[ug, ut], .agg #[vg, vt]] w fun e w' => e = .returned (.bool (sameS S R)) ∧ Below w.heap.size w w' := by
  have HS := Lib.hid hS
  have HR := Lib.hid hR
  clear hS hR
  go_enter Try.func20, Try.ntmps20
  go_wp2_with fail
  refine (l02Same_any w.heap.size (w.heap.size + 1) ug ut vg vt S R _ ⟨by simp [go_sem], by simp [go_sem]⟩ ⟨by simp [go_sem], by simp [go_sem]⟩ (HS.out.below (by (repeat (first | exact Below.refl _ _ | refine Below.setCell ?_ (by first | (simp; done) | (simp; omega) | omega) _ | refine belowN ?_ _ | refine Below.drew ?_ | refine Below.alloc ?_ (by first | (simp; done) | (simp; omega) | omega) _ | refine Below.trans ?_ (Below.mono (by assumption) (by first | (simp; done) | (simp; omega) | omega)))))) (HR.out.below (by (repeat (first | exact Below.refl _ _ | refine Below.setCell ?_ (by first | (simp; done) | (simp; omega) | omega) _ | refine belowN ?_ _ | refine Below.drew ?_ | refine Below.alloc ?_ (by first | (simp; done) | (simp; omega) | omega) _ | refine Below.trans ?_ (Below.mono (by assumption) (by first | (simp; done) | (simp; omega) | omega))))))).mono ?_
  rintro e w1 ⟨rfl, hb1⟩
  go_wp2
  go_ret
  exact ⟨rfl, by (repeat (first | exact Below.refl _ _ | refine Below.setCell ?_ (by first | (simp; done) | (simp; omega) | omega) _ | refine belowN ?_ _ | refine Below.drew ?_ | refine Below.alloc ?_ (by first | (simp; done) | (simp; omega) | omega) _ | refine Below.trans ?_ (Below.mono (by assumption) (by first | (simp; done) | (simp; omega) | omega))))⟩

end Go.Proofs.Ytfoegoanbppaaaa
