/-
  The model's test on a set of tiles says whether the set is valid. Conditions: each theorem's own.
-/
import Derived.Test.YtnofbeeihdgmdaaDoorSFind
namespace Go.Proofs.YtnofbeeihdgmdaaDoor
open Go.RowKit

theorem name_size {s : ByteArray} (h : s.size ≤ maxLen) : s.size ≤ 9223372036854775807 := by unfold maxLen at h; omega

set_option maxRecDepth 100000 in
set_option maxHeartbeats 2000000 in
theorem l02Ok_any (p : Nat) (vg vt : Value) (S : Set_) (w : World) (hp : At w p vg vt) (hS : SetIn w vg vt S) (ok : S.ok) (hs : S.small) :
    Calls Tryd.prog 68 #[.pointer (some ⟨p, 0, none⟩)] w fun e w' => e = .returned (.bool (validB S)) ∧ Below w.heap.size w w' := by
  have hg := hS.g
  have ht := hS.t
  have HG := Lib.hid hg
  have HT := Lib.hid ht
  obtain ⟨ao, cap, rfl, hl, hm, hc⟩ := hg
  obtain ⟨sv, ⟨bo, cap2, rfl, hl2, hm2, hc2⟩, hsv⟩ := ht
  have hgl := hs.gl
  have htl := hs.tl
  unfold maxLen at hm hm2
  have H0 := Lib.hid hc
  have H2 := Lib.hid hc2
  have HSV := Lib.hid hsv
  have HP := Lib.hid hp
  have q0 := hp.c0
  have q1 := hp.c1
  clear hc hc2 hsv hS hp
  by_cases n1 : 200 < S.gs.length
  · have K := Lib.hid (validB_no (S := S) fun h => by have := h.g.len; omega)
    go_enter Tryd.func68, Tryd.ntmps68
    go_wp2_with fail
    go_ret
    exact ⟨ret_bool (by rw [K.out]), by (repeat (first | exact Below.refl _ _ | refine Below.setCell ?_ (by first | (simp; done) | (simp; omega) | omega) _ | refine belowN ?_ _ | refine Below.drew ?_ | refine Below.alloc ?_ (by first | (simp; done) | (simp; omega) | omega) _ | refine Below.trans ?_ (Below.mono (by assumption) (by first | (simp; done) | (simp; omega) | omega))))⟩
  · by_cases n2 : S.ts.length < 1
    · have K := Lib.hid (validB_no (S := S) fun h => by have := h.t.one; omega)
      go_enter Tryd.func68, Tryd.ntmps68
      go_wp2_with fail
      go_ret
      exact ⟨ret_bool (by rw [K.out]), by (repeat (first | exact Below.refl _ _ | refine Below.setCell ?_ (by first | (simp; done) | (simp; omega) | omega) _ | refine belowN ?_ _ | refine Below.drew ?_ | refine Below.alloc ?_ (by first | (simp; done) | (simp; omega) | omega) _ | refine Below.trans ?_ (Below.mono (by assumption) (by first | (simp; done) | (simp; omega) | omega))))⟩
    · by_cases n3 : 160 < S.ts.length
      · have K := Lib.hid (validB_no (S := S) fun h => by have := h.t.len; omega)
        go_enter Tryd.func68, Tryd.ntmps68
        go_wp2_with fail
        go_ret
        exact ⟨ret_bool (by rw [K.out]), by (repeat (first | exact Below.refl _ _ | refine Below.setCell ?_ (by first | (simp; done) | (simp; omega) | omega) _ | refine belowN ?_ _ | refine Below.drew ?_ | refine Below.alloc ?_ (by first | (simp; done) | (simp; omega) | omega) _ | refine Below.trans ?_ (Below.mono (by assumption) (by first | (simp; done) | (simp; omega) | omega))))⟩
      · have b1 : decide (200 < (S.gs.length : Int)) = false := by simp; omega
        have b2 : decide ((S.ts.length : Int) < 1) = false := by simp; omega
        have b3 : decide (160 < (S.ts.length : Int)) = false := by simp; omega
        go_enter Tryd.func68, Tryd.ntmps68
        go_wp2_with fail
        go_loopw [3] (fun i wr => ∃ k : Nat, k ≤ S.gs.length ∧ i = .int .i64 k ∧ Hid (∀ j, j < k → gOk S.gs j) ∧ Below w.heap.size w wr) (fun i _ => S.gs.length - (intOf i).toNat)
        case atStart => exact ⟨0, by omega, rfl, Lib.hid (fun j hj => by omega), by (repeat (first | exact Below.refl _ _ | refine Below.setCell ?_ (by first | (simp; done) | (simp; omega) | omega) _ | refine belowN ?_ _ | refine Below.drew ?_ | refine Below.alloc ?_ (by first | (simp; done) | (simp; omega) | omega) _ | refine Below.trans ?_ (Below.mono (by assumption) (by first | (simp; done) | (simp; omega) | omega))))⟩
        case round =>
          obtain ⟨k, hk, rfl, hall, hbw⟩ := hrel
          have sw := hbw.size
          have hp' := HP.out.below hbw
          have r0 := hp'.c0
          have r1 := hp'.c1
          have HPr := Lib.hid hp'
          have HGr := Lib.hid (HG.out.below hbw)
          clear hp' q0 q1
          by_cases hlt : k < S.gs.length
          · obtain ⟨b, off, rfl, H1⟩ := H0.out (by omega)
            have c0 := cell_below hbw (H1 k 0 hlt (by omega))
            have c1 := cell_below hbw (H1 k 1 hlt (by omega))
            simp at c0 c1
            clear H1
            have hN := gN_ok ok.g hlt
            have hN1 := name_size hN.1
            cases hnm : nameB (gN S.gs k)
            · have K := Lib.hid (validB_no (S := S) fun h => by have := (h.g.all k hlt).1; rw [hnm] at this; exact absurd this (by simp))
              go_wp2_with (go_at_call 98; refine (specName_any _ _ hN1).mono ?_; rintro e w' ⟨rfl, rfl⟩)
              go_ret
              exact ⟨ret_bool (by rw [K.out]), by (repeat (first | exact Below.refl _ _ | refine Below.setCell ?_ (by first | (simp; done) | (simp; omega) | omega) _ | refine belowN ?_ _ | refine Below.drew ?_ | refine Below.alloc ?_ (by first | (simp; done) | (simp; omega) | omega) _ | refine Below.trans ?_ (Below.mono (by assumption) (by first | (simp; done) | (simp; omega) | omega))))⟩
            · cases hst : inB (gS S.gs k) 1 4
              · have K := Lib.hid (validB_no (S := S) fun h => by have := (h.g.all k hlt).2.1; rw [inB_yes this.1 this.2] at hst; exact absurd hst (by simp))
                go_wp2_with (first | (go_at_call 98; refine (specName_any _ _ hN1).mono ?_; rintro e w' ⟨rfl, rfl⟩) | (go_at_call 70; refine (l00In_any _ _ _ _).mono ?_; rintro e w' ⟨rfl, rfl⟩))
                go_ret
                exact ⟨ret_bool (by rw [K.out]), by (repeat (first | exact Below.refl _ _ | refine Below.setCell ?_ (by first | (simp; done) | (simp; omega) | omega) _ | refine belowN ?_ _ | refine Below.drew ?_ | refine Below.alloc ?_ (by first | (simp; done) | (simp; omega) | omega) _ | refine Below.trans ?_ (Below.mono (by assumption) (by first | (simp; done) | (simp; omega) | omega))))⟩
              · rcases gFind_of (gs := S.gs) (gN S.gs k) with ⟨-, hne⟩ | ⟨q, hq, hf, hqn, hqm⟩
                · exact absurd rfl (hne k hlt)
                · have KF := Lib.hid hf
                  have KM := Lib.hid hqm
                  have KN := Lib.hid hqn
                  have hqk : q ≤ k := by
                    by_cases h : k < q
                    · exact absurd rfl (hqm k h)
                    · omega
                  clear hf hqm hqn
                  by_cases hqk2 : q < k
                  · have K := Lib.hid (validB_no (S := S) fun h => (h.g.all k hlt).2.2 q hqk2 KN.out)
                    have bq : ((q : Int) + 1 != (k : Int) + 1) = true := by simp; omega
                    go_wp2_with (first | (go_at_call 98; refine (specName_any _ _ hN1).mono ?_; rintro e w' ⟨rfl, rfl⟩) | (go_at_call 70; refine (l00In_any _ _ _ _).mono ?_; rintro e w' ⟨rfl, rfl⟩) | (go_at_call 99; refine (l02Glue_any p _ _ S.gs (gN S.gs k) _ (HPr.out.below (by (repeat (first | exact Below.refl _ _ | refine Below.setCell ?_ (by first | (simp; done) | (simp; omega) | omega) _ | refine belowN ?_ _ | refine Below.drew ?_ | refine Below.alloc ?_ (by first | (simp; done) | (simp; omega) | omega) _ | refine Below.trans ?_ (Below.mono (by assumption) (by first | (simp; done) | (simp; omega) | omega)))))) (HGr.out.below (by (repeat (first | exact Below.refl _ _ | refine Below.setCell ?_ (by first | (simp; done) | (simp; omega) | omega) _ | refine belowN ?_ _ | refine Below.drew ?_ | refine Below.alloc ?_ (by first | (simp; done) | (simp; omega) | omega) _ | refine Below.trans ?_ (Below.mono (by assumption) (by first | (simp; done) | (simp; omega) | omega)))))) hgl).mono ?_; rintro e w1 ⟨rfl, hb1⟩; rw [KF.out]))
                    go_ret
                    exact ⟨ret_bool (by rw [K.out]), by (repeat (first | exact Below.refl _ _ | refine Below.setCell ?_ (by first | (simp; done) | (simp; omega) | omega) _ | refine belowN ?_ _ | refine Below.drew ?_ | refine Below.alloc ?_ (by first | (simp; done) | (simp; omega) | omega) _ | refine Below.trans ?_ (Below.mono (by assumption) (by first | (simp; done) | (simp; omega) | omega))))⟩
                  · obtain rfl : q = k := by omega
                    have hst2 := inB_iff.1 hst
                    go_wp2_with (first | (go_at_call 98; refine (specName_any _ _ hN1).mono ?_; rintro e w' ⟨rfl, rfl⟩) | (go_at_call 70; refine (l00In_any _ _ _ _).mono ?_; rintro e w' ⟨rfl, rfl⟩) | (go_at_call 99; refine (l02Glue_any p _ _ S.gs (gN S.gs q) _ (HPr.out.below (by (repeat (first | exact Below.refl _ _ | refine Below.setCell ?_ (by first | (simp; done) | (simp; omega) | omega) _ | refine belowN ?_ _ | refine Below.drew ?_ | refine Below.alloc ?_ (by first | (simp; done) | (simp; omega) | omega) _ | refine Below.trans ?_ (Below.mono (by assumption) (by first | (simp; done) | (simp; omega) | omega)))))) (HGr.out.below (by (repeat (first | exact Below.refl _ _ | refine Below.setCell ?_ (by first | (simp; done) | (simp; omega) | omega) _ | refine belowN ?_ _ | refine Below.drew ?_ | refine Below.alloc ?_ (by first | (simp; done) | (simp; omega) | omega) _ | refine Below.trans ?_ (Below.mono (by assumption) (by first | (simp; done) | (simp; omega) | omega)))))) hgl).mono ?_; rintro e w1 ⟨rfl, hb1⟩; rw [KF.out]))
                    go_roundw
                    case rel =>
                      refine ⟨q + 1, by omega, by go_num, Lib.hid fun j hj => ?_, by (repeat (first | exact Below.refl _ _ | refine Below.setCell ?_ (by first | (simp; done) | (simp; omega) | omega) _ | refine belowN ?_ _ | refine Below.drew ?_ | refine Below.alloc ?_ (by first | (simp; done) | (simp; omega) | omega) _ | refine Below.trans ?_ (Below.mono (by assumption) (by first | (simp; done) | (simp; omega) | omega))))⟩
                      by_cases hjk : j < q
                      · exact hall.out j hjk
                      · obtain rfl : j = q := by omega
                        exact ⟨hnm, hst2, KM.out⟩
                    case measure => simp [intOf]; omega
          · obtain rfl : k = S.gs.length := by omega
            go_wp2_with fail
            go_loopw [5] (fun i wt => ∃ k : Nat, k ≤ S.ts.length ∧ i = .int .i64 k ∧ Hid (∀ j, j < k → tOk S.ts S.gs.length j) ∧ Below w.heap.size w wt) (fun i _ => S.ts.length - (intOf i).toNat)
            case atStart => exact ⟨0, by omega, rfl, Lib.hid (fun j hj => by omega), by (repeat (first | exact Below.refl _ _ | refine Below.setCell ?_ (by first | (simp; done) | (simp; omega) | omega) _ | refine belowN ?_ _ | refine Below.drew ?_ | refine Below.alloc ?_ (by first | (simp; done) | (simp; omega) | omega) _ | refine Below.trans ?_ (Below.mono (by assumption) (by first | (simp; done) | (simp; omega) | omega))))⟩
            case round =>
              clear r0 r1 HPr HGr sw hbw
              obtain ⟨k, hk, rfl, tall, hbw⟩ := hrel
              obtain ⟨wt, rfl⟩ : ∃ wt : World, wt = wr := ⟨_, rfl⟩
              have sw := hbw.size
              have hp' := HP.out.below hbw
              have r0 := hp'.c0
              have r1 := hp'.c1
              have HPr := Lib.hid hp'
              have HTr := Lib.hid (HT.out.below hbw)
              clear hp'
              by_cases hlt : k < S.ts.length
              · obtain ⟨b, off, rfl, H1⟩ := H2.out (by omega)
                obtain ⟨so, scap, hsv, hs1, hs2, hs3⟩ := (HSV.out k hlt).below hbw
                have c0 := cell_below hbw (H1 k 0 hlt (by omega))
                have c1 := cell_below hbw (H1 k 1 hlt (by omega))
                simp at c0 c1
                rw [hsv] at c1
                have HS3 := Lib.hid hs3
                clear H1 hsv hs3
                have hN := tN_ok ok.t hlt
                have hN1 := name_size hN.1
                cases hnm : nameB (tN S.ts k)
                · have K := Lib.hid (validB_no (S := S) fun h => by have := (h.t.all k hlt).1; rw [hnm] at this; exact absurd this (by simp))
                  go_wp2_with (go_at_call 98; refine (specName_any _ _ hN1).mono ?_; rintro e w' ⟨rfl, rfl⟩)
                  go_ret
                  exact ⟨ret_bool (by rw [K.out]), by (repeat (first | exact Below.refl _ _ | refine Below.setCell ?_ (by first | (simp; done) | (simp; omega) | omega) _ | refine belowN ?_ _ | refine Below.drew ?_ | refine Below.alloc ?_ (by first | (simp; done) | (simp; omega) | omega) _ | refine Below.trans ?_ (Below.mono (by assumption) (by first | (simp; done) | (simp; omega) | omega))))⟩
                · by_cases hln : (tS S.ts k).length = 4
                  · rw [hln] at c1 hs1
                    rcases tFind_of (ts := S.ts) (tN S.ts k) with ⟨-, hne⟩ | ⟨q, hq, hf, hqn, hqm⟩
                    · exact absurd rfl (hne k hlt)
                    · have KF := Lib.hid hf
                      have KM := Lib.hid hqm
                      have KN := Lib.hid hqn
                      have KL := Lib.hid hln
                      have hqk : q ≤ k := by
                        by_cases h : k < q
                        · exact absurd rfl (hqm k h)
                        · omega
                      clear hf hqm hqn hln
                      by_cases hqk2 : q < k
                      · have K := Lib.hid (validB_no (S := S) fun h => (h.t.all k hlt).2.2 q hqk2 KN.out)
                        have bq : ((q : Int) != (k : Int)) = true := by simp; omega
                        go_wp2_with (first | (go_at_call 98; refine (specName_any _ _ hN1).mono ?_; rintro e w' ⟨rfl, rfl⟩) | (go_at_call 100; refine (l02Tile_any p _ _ S.ts (tN S.ts k) _ (HPr.out.below (by (repeat (first | exact Below.refl _ _ | refine Below.setCell ?_ (by first | (simp; done) | (simp; omega) | omega) _ | refine belowN ?_ _ | refine Below.drew ?_ | refine Below.alloc ?_ (by first | (simp; done) | (simp; omega) | omega) _ | refine Below.trans ?_ (Below.mono (by assumption) (by first | (simp; done) | (simp; omega) | omega)))))) (HTr.out.below (by (repeat (first | exact Below.refl _ _ | refine Below.setCell ?_ (by first | (simp; done) | (simp; omega) | omega) _ | refine belowN ?_ _ | refine Below.drew ?_ | refine Below.alloc ?_ (by first | (simp; done) | (simp; omega) | omega) _ | refine Below.trans ?_ (Below.mono (by assumption) (by first | (simp; done) | (simp; omega) | omega)))))) htl).mono ?_; rintro e w1 ⟨rfl, hb1⟩; rw [KF.out]))
                        go_ret
                        exact ⟨ret_bool (by rw [K.out]), by (repeat (first | exact Below.refl _ _ | refine Below.setCell ?_ (by first | (simp; done) | (simp; omega) | omega) _ | refine belowN ?_ _ | refine Below.drew ?_ | refine Below.alloc ?_ (by first | (simp; done) | (simp; omega) | omega) _ | refine Below.trans ?_ (Below.mono (by assumption) (by first | (simp; done) | (simp; omega) | omega))))⟩
                      · obtain rfl : q = k := by omega
                        go_wp2_with (first | (go_at_call 98; refine (specName_any _ _ hN1).mono ?_; rintro e w' ⟨rfl, rfl⟩) | (go_at_call 100; refine (l02Tile_any p _ _ S.ts (tN S.ts q) _ (HPr.out.below (by (repeat (first | exact Below.refl _ _ | refine Below.setCell ?_ (by first | (simp; done) | (simp; omega) | omega) _ | refine belowN ?_ _ | refine Below.drew ?_ | refine Below.alloc ?_ (by first | (simp; done) | (simp; omega) | omega) _ | refine Below.trans ?_ (Below.mono (by assumption) (by first | (simp; done) | (simp; omega) | omega)))))) (HTr.out.below (by (repeat (first | exact Below.refl _ _ | refine Below.setCell ?_ (by first | (simp; done) | (simp; omega) | omega) _ | refine belowN ?_ _ | refine Below.drew ?_ | refine Below.alloc ?_ (by first | (simp; done) | (simp; omega) | omega) _ | refine Below.trans ?_ (Below.mono (by assumption) (by first | (simp; done) | (simp; omega) | omega)))))) htl).mono ?_; rintro e w1 ⟨rfl, hb1⟩; rw [KF.out]))
                        have t6 : w1.cell? ⟨wt.heap.size, 1, none⟩ = some (.slice so 4 scap) := by rw [bcell hb1 _ _ (by simp)]; simp [go_sem]
                        have s1 := hb1.size
                        simp at s1
                        have hbt1 : Below wt.heap.size wt w1 := by (repeat (first | exact Below.refl _ _ | refine Below.setCell ?_ (by first | (simp; done) | (simp; omega) | omega) _ | refine belowN ?_ _ | refine Below.drew ?_ | refine Below.alloc ?_ (by first | (simp; done) | (simp; omega) | omega) _ | refine Below.trans ?_ (Below.mono (by assumption) (by first | (simp; done) | (simp; omega) | omega))))
                        have hb1' : Below w.heap.size w w1 := by (repeat (first | exact Below.refl _ _ | refine Below.setCell ?_ (by first | (simp; done) | (simp; omega) | omega) _ | refine belowN ?_ _ | refine Below.drew ?_ | refine Below.alloc ?_ (by first | (simp; done) | (simp; omega) | omega) _ | refine Below.trans ?_ (Below.mono (by assumption) (by first | (simp; done) | (simp; omega) | omega))))
                        have hbo := hbw
                        clear hb1 hbw r0 r1 c0 c1
                        go_loopw [7] (fun i wu => ∃ m : Nat, m ≤ 4 ∧ i = .int .i64 m ∧ Hid (∀ j, j < m → 0 ≤ iAt (tS S.ts q) j ∧ iAt (tS S.ts q) j ≤ S.gs.length) ∧ wu.cell? ⟨wt.heap.size, 1, none⟩ = some (.slice so 4 scap) ∧ Below w.heap.size w wu ∧ Below wt.heap.size wt wu) (fun i _ => 4 - (intOf i).toNat)
                        case atStart => exact ⟨0, by omega, rfl, Lib.hid (fun j hj => by omega), t6, hb1', hbt1⟩
                        case round =>
                          clear t6 hb1' hbt1 s1
                          obtain ⟨m, hm4, rfl, sall, t6, hbw, hbt⟩ := hrel
                          obtain ⟨b3, off3, rfl, H3⟩ := HS3.out (by rw [KL.out]; omega)
                          have hp' := HP.out.below hbw
                          have r0 := hp'.c0
                          clear hp'
                          by_cases hlt4 : m < 4
                          · have d0 := cell_below hbt (H3 m 0 (by rw [KL.out]; exact hlt4) (by omega))
                            simp at d0
                            clear H3
                            cases hin : inB (iAt (tS S.ts q) m) 0 S.gs.length
                            · have K := Lib.hid (validB_no (S := S) fun h => by have := (h.t.all q hlt).2.1.2 m hlt4; rw [inB_yes this.1 this.2] at hin; exact absurd hin (by simp))
                              go_wp2_with fail
                              go_quiet ((go_at_call 70; exact quietL (l00In_any _ _ _ _)))
                              go_wp2_with fail
                              go_ret
                              exact ⟨ret_bool (by rw [K.out]), by (repeat (first | exact Below.refl _ _ | refine Below.setCell ?_ (by first | (simp; done) | (simp; omega) | omega) _ | refine belowN ?_ _ | refine Below.drew ?_ | refine Below.alloc ?_ (by first | (simp; done) | (simp; omega) | omega) _ | refine Below.trans ?_ (Below.mono (by assumption) (by first | (simp; done) | (simp; omega) | omega))))⟩
                            · have hin2 := inB_iff.1 hin
                              go_wp2_with fail
                              go_quiet ((go_at_call 70; exact quietL (l00In_any _ _ _ _)))
                              go_wp2_with fail
                              go_roundw
                              case rel =>
                                refine ⟨m + 1, by omega, by go_num, Lib.hid fun j hj => ?_, t6, by (repeat (first | exact Below.refl _ _ | refine Below.setCell ?_ (by first | (simp; done) | (simp; omega) | omega) _ | refine belowN ?_ _ | refine Below.drew ?_ | refine Below.alloc ?_ (by first | (simp; done) | (simp; omega) | omega) _ | refine Below.trans ?_ (Below.mono (by assumption) (by first | (simp; done) | (simp; omega) | omega)))), by (repeat (first | exact Below.refl _ _ | refine Below.setCell ?_ (by first | (simp; done) | (simp; omega) | omega) _ | refine belowN ?_ _ | refine Below.drew ?_ | refine Below.alloc ?_ (by first | (simp; done) | (simp; omega) | omega) _ | refine Below.trans ?_ (Below.mono (by assumption) (by first | (simp; done) | (simp; omega) | omega))))⟩
                                by_cases hjk : j < m
                                · exact sall.out j hjk
                                · obtain rfl : j = m := by omega
                                  exact hin2
                              case measure => simp [intOf]; omega
                          · obtain rfl : m = 4 := by omega
                            go_wp2_with fail
                            go_roundw
                            case rel =>
                              refine ⟨q + 1, by omega, by go_num, Lib.hid fun j hj => ?_, hbw⟩
                              by_cases hjk : j < q
                              · exact tall.out j hjk
                              · obtain rfl : j = q := by omega
                                exact ⟨hnm, ⟨KL.out, sall.out⟩, KM.out⟩
                            case measure => simp [intOf]; omega
                  · have K := Lib.hid (validB_no (S := S) fun h => hln (h.t.all k hlt).2.1.1)
                    have bl : (((tS S.ts k).length : Int) != 4) = true := by simp; omega
                    clear hln
                    go_wp2_with (go_at_call 98; refine (specName_any _ _ hN1).mono ?_; rintro e w' ⟨rfl, rfl⟩)
                    go_ret
                    exact ⟨ret_bool (by rw [K.out]), by (repeat (first | exact Below.refl _ _ | refine Below.setCell ?_ (by first | (simp; done) | (simp; omega) | omega) _ | refine belowN ?_ _ | refine Below.drew ?_ | refine Below.alloc ?_ (by first | (simp; done) | (simp; omega) | omega) _ | refine Below.trans ?_ (Below.mono (by assumption) (by first | (simp; done) | (simp; omega) | omega))))⟩
              · obtain rfl : k = S.ts.length := by omega
                have K := Lib.hid (validB_yes (S := S) ⟨⟨by omega, hall.out⟩, ⟨by omega, by omega, tall.out⟩⟩)
                go_wp2_with fail
                go_ret
                exact ⟨ret_bool (by rw [K.out]), by (repeat (first | exact Below.refl _ _ | refine Below.setCell ?_ (by first | (simp; done) | (simp; omega) | omega) _ | refine belowN ?_ _ | refine Below.drew ?_ | refine Below.alloc ?_ (by first | (simp; done) | (simp; omega) | omega) _ | refine Below.trans ?_ (Below.mono (by assumption) (by first | (simp; done) | (simp; omega) | omega))))⟩

end Go.Proofs.YtnofbeeihdgmdaaDoor
