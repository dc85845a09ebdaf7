/-
  IsWithin, the model's and the program's. Conditions: each theorem's own.
-/
import Derived.Test.YtcaidemlhgepfaaTMap
namespace Go.Proofs.Ytcaidemlhgepfaa
open Go.RowKit Go.Maps

open Classical in
noncomputable def inAll (P Q : List Pl) : Bool := decide (∀ i, i < P.length → atI Q (pX P i) (pY P i) = pT P i)
theorem inAll_yes {P Q : List Pl} (h : ∀ i, i < P.length → atI Q (pX P i) (pY P i) = pT P i) : inAll P Q = true := by unfold inAll; simpa using h
theorem inAll_no {P Q : List Pl} {i : Nat} (hi : i < P.length) (h : ¬ atI Q (pX P i) (pY P i) = pT P i) : inAll P Q = false := by
  unfold inAll
  rw [decide_eq_false_iff_not]
  exact fun a => h (a i hi)
noncomputable def wiB (P Q : List Pl) : Bool := formB P && formB Q && inAll P Q
/-- The boxes of two assemblies. -/
theorem boxes_aa (w : World) (u v : Value) (t1 t2 : TypeId) : At1 ((w.alloc (.cells #[u] t1)).alloc (.cells #[v] t2)) w.heap.size u ∧ At1 ((w.alloc (.cells #[u] t1)).alloc (.cells #[v] t2)) (w.heap.size + 1) v := ⟨⟨by simp [go_sem]⟩, ⟨by simp [go_sem]⟩⟩

set_option maxRecDepth 100000 in
set_option maxHeartbeats 2000000 in
set_option linter.unusedSimpArgs false in
theorem l03Within_any (p q : Nat) (u v : Value) (P Q : List Pl) (w : World) (hp : At1 w p u) (hq : At1 w q v) (hu : Plcs w u P) (hv : Plcs w v Q) (F : Form P) (G : Form Q) :
    Calls Try.prog 71 #[.pointer (some ⟨p, 0, none⟩), .pointer (some ⟨q, 0, none⟩)] w fun e w' => e = .returned (.bool (inAll P Q)) ∧ Below w.heap.size w w' := by
  have HV := Lib.hid hv
  have HP := Lib.hid hp
  have HQ := Lib.hid hq
  have HG := Lib.hid G
  obtain ⟨ao, cap, rfl, hl, hm, hc⟩ := hu.open_
  unfold maxLen at hm
  have H0 := Lib.hid hc
  have h500 := F.len
  clear hc hu hv hp hq F G
  go_enter Try.func71, Try.ntmps71
  go_wp2_with fail
  go_loopw [5] (fun i wr => ∃ k : Nat, k ≤ P.length ∧ i = .int .i64 k ∧ Hid (∀ j, j < k → atI Q (pX P j) (pY P j) = pT P j) ∧ Below w.heap.size w wr) (fun i _ => P.length - (intOf i).toNat)
  case atStart => exact ⟨0, by omega, rfl, Lib.hid (fun j hj => by omega), by (repeat (first | exact Below.refl _ _ | refine Below.setCell ?_ (by first | (simp; done) | (simp; omega) | omega) _ | refine belowN ?_ _ | refine Below.drew ?_ | refine Below.alloc ?_ (by first | (simp; done) | (simp; omega) | omega) _ | refine Below.trans ?_ (Below.mono (by assumption) (by first | (simp; done) | (simp; omega) | omega))))⟩
  case round =>
    obtain ⟨k, hk, rfl, hall, hbw⟩ := hrel
    have sw := hbw.size
    have r1 := (HP.out.below hbw).c0
    by_cases hlt : k < P.length
    · obtain ⟨b, off, rfl, H1⟩ := H0.out (by omega)
      obtain ⟨c0, c1, c2⟩ := H1 k hlt
      have c0 := cell_below hbw c0
      have c1 := cell_below hbw c1
      have c2 := cell_below hbw c2
      have hki : (k : Int) < P.length := by omega
      have hk0 : (0 : Int) ≤ k := by omega
      clear H1
      by_cases he : atI Q (pX P k) (pY P k) = pT P k
      · have HE := Lib.hid he
        clear he
        go_wp2_with fail
        go_region_held3 (fun w' => w'.cell? ⟨p, 0, none⟩ = some (.slice (some ⟨b, off, none⟩) P.length cap) ∧ w'.cell? ⟨b, off + k * 3, none⟩ = some (.int .i64 (pX P k)) ∧ w'.cell? ⟨b, off + k * 3 + 1, none⟩ = some (.int .i64 (pY P k)) ∧ w'.cell? ⟨b, off + k * 3 + 2, none⟩ = some (.int .i64 (pT P k))) ((((try go_split_ands); (try dsimp only); (repeat' apply And.intro)) <;> (repeat (first | with_reducible assumption | ((with_reducible refine cnew0 ?_); simp; done) | ((with_reducible refine cnew1 ?_); simp; done) | (with_reducible refine akeep ?_) | (with_reducible refine dkeep ?_) | ((with_reducible refine skeep ?_ ?_); rotate_left; (first | ((try dsimp only); omega) | (simp; done) | (simp; omega))) | (with_reducible refine bkeep hb3 ?_))))) (first | (go_at_call 49; refine (l03At_any q v Q _ _ _ (HQ.out.below (by (repeat (first | exact Below.refl _ _ | refine Below.setCell ?_ (by first | (simp; done) | (simp; omega) | omega) _ | refine belowN ?_ _ | refine Below.drew ?_ | refine Below.alloc ?_ (by first | (simp; done) | (simp; omega) | omega) _ | refine Below.trans ?_ (Below.mono (by assumption) (by first | (simp; done) | (simp; omega) | omega)))))) (HV.out.below (by (repeat (first | exact Below.refl _ _ | refine Below.setCell ?_ (by first | (simp; done) | (simp; omega) | omega) _ | refine belowN ?_ _ | refine Below.drew ?_ | refine Below.alloc ?_ (by first | (simp; done) | (simp; omega) | omega) _ | refine Below.trans ?_ (Below.mono (by assumption) (by first | (simp; done) | (simp; omega) | omega)))))) HG.out).mono ?_; rintro e w1 ⟨rfl, hb3⟩; rw [HE.out]))
        go_wp2_with fail
        go_roundw
        case rel =>
          refine ⟨k + 1, by omega, by go_num, Lib.hid fun j hj => ?_, by (repeat (first | exact Below.refl _ _ | refine Below.setCell ?_ (by first | (simp; done) | (simp; omega) | omega) _ | refine belowN ?_ _ | refine Below.drew ?_ | refine Below.alloc ?_ (by first | (simp; done) | (simp; omega) | omega) _ | refine Below.trans ?_ (Below.mono (by assumption) (by first | (simp; done) | (simp; omega) | omega))))⟩
          by_cases hjk : j < k
          · exact hall.out j hjk
          · obtain rfl : j = k := by omega
            exact HE.out
        case measure => simp [intOf]; omega
      · have K := Lib.hid (inAll_no hlt he)
        have bn : (atI Q (pX P k) (pY P k) == pT P k) = false := by rw [beq_eq_false_iff_ne]; exact he
        clear he
        go_wp2_with fail
        go_region_held3 (fun w' => w'.cell? ⟨p, 0, none⟩ = some (.slice (some ⟨b, off, none⟩) P.length cap) ∧ w'.cell? ⟨b, off + k * 3, none⟩ = some (.int .i64 (pX P k)) ∧ w'.cell? ⟨b, off + k * 3 + 1, none⟩ = some (.int .i64 (pY P k)) ∧ w'.cell? ⟨b, off + k * 3 + 2, none⟩ = some (.int .i64 (pT P k))) ((((try go_split_ands); (try dsimp only); (repeat' apply And.intro)) <;> (repeat (first | with_reducible assumption | ((with_reducible refine cnew0 ?_); simp; done) | ((with_reducible refine cnew1 ?_); simp; done) | (with_reducible refine akeep ?_) | (with_reducible refine dkeep ?_) | ((with_reducible refine skeep ?_ ?_); rotate_left; (first | ((try dsimp only); omega) | (simp; done) | (simp; omega))) | (with_reducible refine bkeep hb3 ?_))))) (first | (go_at_call 49; refine (l03At_any q v Q _ _ _ (HQ.out.below (by (repeat (first | exact Below.refl _ _ | refine Below.setCell ?_ (by first | (simp; done) | (simp; omega) | omega) _ | refine belowN ?_ _ | refine Below.drew ?_ | refine Below.alloc ?_ (by first | (simp; done) | (simp; omega) | omega) _ | refine Below.trans ?_ (Below.mono (by assumption) (by first | (simp; done) | (simp; omega) | omega)))))) (HV.out.below (by (repeat (first | exact Below.refl _ _ | refine Below.setCell ?_ (by first | (simp; done) | (simp; omega) | omega) _ | refine belowN ?_ _ | refine Below.drew ?_ | refine Below.alloc ?_ (by first | (simp; done) | (simp; omega) | omega) _ | refine Below.trans ?_ (Below.mono (by assumption) (by first | (simp; done) | (simp; omega) | omega)))))) HG.out).mono ?_; rintro e w1 ⟨rfl, hb3⟩))
        go_wp2_with fail
        go_ret
        exact ⟨ret_bool (by rw [K.out]), by (repeat (first | exact Below.refl _ _ | refine Below.setCell ?_ (by first | (simp; done) | (simp; omega) | omega) _ | refine belowN ?_ _ | refine Below.drew ?_ | refine Below.alloc ?_ (by first | (simp; done) | (simp; omega) | omega) _ | refine Below.trans ?_ (Below.mono (by assumption) (by first | (simp; done) | (simp; omega) | omega))))⟩
    · obtain rfl : k = P.length := by omega
      have K := Lib.hid (inAll_yes hall.out)
      go_wp2_with fail
      go_ret
      exact ⟨ret_bool (by rw [K.out]), hbw⟩

set_option maxHeartbeats 800000 in
theorem specIsWithin_law (v1 : Value) (P1 : List Pl) (v2 : Value) (P2 : List Pl) (w : World) (h1 : Plcs w v1 P1) (_s1 : ∃ a k q, v1 = .slice (some a) k q) (_o1 : ∀ p ∈ P1, p.ok) (_m1 : P1.length ≤ 1048576) (h2 : Plcs w v2 P2) (_s2 : ∃ a k q, v2 = .slice (some a) k q) (_o2 : ∀ p ∈ P2, p.ok) (_m2 : P2.length ≤ 1048576) :
    Calls Try.prog 39 #[.agg #[v1], .agg #[v2]] w fun e w' => e = .returned (.bool (wiB P1 P2)) ∧ Below w.heap.size w w' := by
  have HU := Lib.hid h1
  have HV := Lib.hid h2
  have HB := Lib.hid (boxes_aa w v1 v2 29 29)
  clear h1 h2
  go_enter Try.func39, Try.ntmps39
  go_wp2_with fail
  refine (l03Form_any _ v1 P1 _ HB.out.1 (HU.out.below (by (repeat (first | exact Below.refl _ _ | refine Below.setCell ?_ (by first | (simp; done) | (simp; omega) | omega) _ | refine belowN ?_ _ | refine Below.drew ?_ | refine Below.alloc ?_ (by first | (simp; done) | (simp; omega) | omega) _ | refine Below.trans ?_ (Below.mono (by assumption) (by first | (simp; done) | (simp; omega) | omega))))))).mono ?_
  rintro e w1 ⟨rfl, hb1⟩
  have B1 : Below w.heap.size w w1 := by (repeat (first | exact Below.refl _ _ | refine Below.setCell ?_ (by first | (simp; done) | (simp; omega) | omega) _ | refine belowN ?_ _ | refine Below.drew ?_ | refine Below.alloc ?_ (by first | (simp; done) | (simp; omega) | omega) _ | refine Below.trans ?_ (Below.mono (by assumption) (by first | (simp; done) | (simp; omega) | omega))))
  have z1 := B1.size
  have A1 := Lib.hid (HB.out.1.below hb1)
  have E1 := Lib.hid (HB.out.2.below hb1)
  clear hb1
  cases hf : formB P1
  · have K := Lib.hid (show wiB P1 P2 = false by unfold wiB; rw [hf]; rfl)
    go_wp2_with fail
    go_ret
    exact ⟨ret_bool (by rw [K.out]), B1⟩
  have HF := Lib.hid hf
  clear hf
  cases hg : formB P2
  · have K := Lib.hid (show wiB P1 P2 = false by unfold wiB; rw [HF.out, hg]; rfl)
    go_wp2_with (go_at_call 48; refine (l03Form_any _ v2 P2 _ E1.out (HV.out.below B1)).mono ?_; rintro e w2 ⟨rfl, hb2⟩; rw [hg])
    go_ret
    exact ⟨ret_bool (by rw [K.out]), by (repeat (first | exact Below.refl _ _ | refine Below.setCell ?_ (by first | (simp; done) | (simp; omega) | omega) _ | refine belowN ?_ _ | refine Below.drew ?_ | refine Below.alloc ?_ (by first | (simp; done) | (simp; omega) | omega) _ | refine Below.trans ?_ (Below.mono (by assumption) (by first | (simp; done) | (simp; omega) | omega))))⟩
  have K := Lib.hid (show inAll P1 P2 = wiB P1 P2 by unfold wiB; rw [HF.out, hg]; rfl)
  have FF := Lib.hid (formB_iff.1 HF.out)
  have GG := Lib.hid (formB_iff.1 hg)
  go_wp2_with fail
  refine (l03Form_any _ v2 P2 _ E1.out (HV.out.below B1)).mono ?_
  rintro e w2 ⟨rfl, hb2⟩
  rw [hg]
  have B2 : Below w.heap.size w w2 := by (repeat (first | exact Below.refl _ _ | refine Below.setCell ?_ (by first | (simp; done) | (simp; omega) | omega) _ | refine belowN ?_ _ | refine Below.drew ?_ | refine Below.alloc ?_ (by first | (simp; done) | (simp; omega) | omega) _ | refine Below.trans ?_ (Below.mono (by assumption) (by first | (simp; done) | (simp; omega) | omega))))
  have z2 := B2.size
  have A2 := Lib.hid (A1.out.below hb2)
  have E2 := Lib.hid (E1.out.below hb2)
  clear hb2 hg
  go_wp2_with fail
  refine (l03Within_any _ _ v1 v2 P1 P2 _ A2.out E2.out (HU.out.below B2) (HV.out.below B2) FF.out GG.out).mono ?_
  rintro e w3 ⟨rfl, hb3⟩
  rw [K.out]
  go_wp2_with fail
  go_ret
  exact ⟨rfl, by (repeat (first | exact Below.refl _ _ | refine Below.setCell ?_ (by first | (simp; done) | (simp; omega) | omega) _ | refine belowN ?_ _ | refine Below.drew ?_ | refine Below.alloc ?_ (by first | (simp; done) | (simp; omega) | omega) _ | refine Below.trans ?_ (Below.mono (by assumption) (by first | (simp; done) | (simp; omega) | omega))))⟩

set_option maxHeartbeats 1600000 in
theorem implIsWithin_law (v1 : Value) (P1 : List Pl) (v2 : Value) (P2 : List Pl) (w : World) (h1 : Plcs w v1 P1) (_s1 : ∃ a k q, v1 = .slice (some a) k q) (_o1 : ∀ p ∈ P1, p.ok) (_m1 : P1.length ≤ 1048576) (h2 : Plcs w v2 P2) (_s2 : ∃ a k q, v2 = .slice (some a) k q) (_o2 : ∀ p ∈ P2, p.ok) (_m2 : P2.length ≤ 1048576) :
    Calls Try.prog 40 #[.agg #[v1], .agg #[v2]] w fun e w' => e = .returned (.bool (wiB P1 P2)) ∧ Below w.heap.size w w' := by
  have HU := Lib.hid h1
  have HV := Lib.hid h2
  obtain ⟨ao, cap, rfl, hl, hm, hc⟩ := h1.open_
  obtain ⟨bo, cap2, rfl, -, -, -⟩ := h2.open_
  unfold maxLen at hm
  have H0 := Lib.hid hc
  have HB := Lib.hid (boxes_aa w (.slice ao P1.length cap) (.slice bo P2.length cap2) 29 29)
  clear h1 h2 hc
  go_enter Try.func40, Try.ntmps40
  go_wp2_with fail
  refine (hasForm_any _ P1 _ (HU.out.below (by (repeat (first | exact Below.refl _ _ | refine Below.setCell ?_ (by first | (simp; done) | (simp; omega) | omega) _ | refine belowN ?_ _ | refine Below.drew ?_ | refine Below.alloc ?_ (by first | (simp; done) | (simp; omega) | omega) _ | refine Below.trans ?_ (Below.mono (by assumption) (by first | (simp; done) | (simp; omega) | omega))))))).mono ?_
  rintro e w1 ⟨rfl, hb1⟩
  have B1 : Below w.heap.size w w1 := by (repeat (first | exact Below.refl _ _ | refine Below.setCell ?_ (by first | (simp; done) | (simp; omega) | omega) _ | refine belowN ?_ _ | refine Below.drew ?_ | refine Below.alloc ?_ (by first | (simp; done) | (simp; omega) | omega) _ | refine Below.trans ?_ (Below.mono (by assumption) (by first | (simp; done) | (simp; omega) | omega))))
  have z1 := B1.size
  have A1 := Lib.hid (HB.out.1.below hb1)
  have E1 := Lib.hid (HB.out.2.below hb1)
  clear hb1
  have e0 := E1.out.c0
  cases hf : formB P1
  · have K := Lib.hid (show wiB P1 P2 = false by unfold wiB; rw [hf]; rfl)
    go_wp2_with fail
    go_ret
    exact ⟨ret_bool (by rw [K.out]), B1⟩
  have HF := Lib.hid hf
  clear hf
  cases hg : formB P2
  · have K := Lib.hid (show wiB P1 P2 = false by unfold wiB; rw [HF.out, hg]; rfl)
    go_wp2_with (go_at_call 51; refine (hasForm_any _ P2 _ (HV.out.below B1)).mono ?_; rintro e w2 ⟨rfl, hb2⟩; rw [hg])
    go_ret
    exact ⟨ret_bool (by rw [K.out]), by (repeat (first | exact Below.refl _ _ | refine Below.setCell ?_ (by first | (simp; done) | (simp; omega) | omega) _ | refine belowN ?_ _ | refine Below.drew ?_ | refine Below.alloc ?_ (by first | (simp; done) | (simp; omega) | omega) _ | refine Below.trans ?_ (Below.mono (by assumption) (by first | (simp; done) | (simp; omega) | omega))))⟩
  have K := Lib.hid (show inAll P1 P2 = wiB P1 P2 by unfold wiB; rw [HF.out, hg]; rfl)
  have FF := Lib.hid (formB_iff.1 HF.out)
  have GG := Lib.hid (formB_iff.1 hg)
  have h500 := FF.out.len
  go_wp2_with fail
  refine (hasForm_any _ P2 _ (HV.out.below B1)).mono ?_
  rintro e w2 ⟨rfl, hb2⟩
  rw [hg]
  have B2 : Below w.heap.size w w2 := by (repeat (first | exact Below.refl _ _ | refine Below.setCell ?_ (by first | (simp; done) | (simp; omega) | omega) _ | refine belowN ?_ _ | refine Below.drew ?_ | refine Below.alloc ?_ (by first | (simp; done) | (simp; omega) | omega) _ | refine Below.trans ?_ (Below.mono (by assumption) (by first | (simp; done) | (simp; omega) | omega))))
  have z2 := B2.size
  have A2 := Lib.hid (A1.out.below hb2)
  have E2 := Lib.hid (E1.out.below hb2)
  clear hb2 hg e0
  have e0 := E2.out.c0
  go_wp2_with fail
  refine (tilesByPoint_any _ P2 _ (HV.out.below B2) GG.out).mono ?_
  rintro e w3 ⟨⟨g, rfl, hg0, hmap⟩, hb3⟩
  have B3 : Below w.heap.size w w3 := by (repeat (first | exact Below.refl _ _ | refine Below.setCell ?_ (by first | (simp; done) | (simp; omega) | omega) _ | refine belowN ?_ _ | refine Below.drew ?_ | refine Below.alloc ?_ (by first | (simp; done) | (simp; omega) | omega) _ | refine Below.trans ?_ (Below.mono (by assumption) (by first | (simp; done) | (simp; omega) | omega))))
  have z3 := B3.size
  have HM := Lib.hid hmap
  have a0 := (A2.out.below hb3).c0
  clear hb3 e0 hmap
  go_wp2_with fail
  go_loopw [23] (fun i wr => ∃ k : Nat, k ≤ P1.length ∧ i = .int .i64 k ∧ Hid (∀ j, j < k → atI P2 (pX P1 j) (pY P1 j) = pT P1 j) ∧ TMap wr g P2 P2.length ∧ Below w.heap.size w wr) (fun i _ => P1.length - (intOf i).toNat)
  case atStart => exact ⟨0, by omega, rfl, Lib.hid (fun j hj => by omega), HM.out, B3⟩
  case round =>
    clear a0
    obtain ⟨k, hk, rfl, hall, hmap, hbw⟩ := hrel
    have sw := hbw.size
    have HMR := Lib.hid hmap
    have hgl := World.ownsMap.lt hmap
    clear hmap
    by_cases hlt : k < P1.length
    · obtain ⟨b, off, rfl, H1⟩ := H0.out (by omega)
      obtain ⟨c0, c1, c2⟩ := H1 k hlt
      have c0 := cell_below hbw c0
      have c1 := cell_below hbw c1
      have c2 := cell_below hbw c2
      have hp := (FF.out.all k hlt).pt
      have ht := inB_iff.1 (FF.out.all k hlt).tl
      have HKEY := Lib.hid (keyOf_ptB hp)
      clear H1
      by_cases hn : ixN P2 (pX P1 k) (pY P1 k) < P2.length
      · obtain ⟨hB, hA⟩ := tMap_yes GG.out hp hn
        have HA := Lib.hid hA
        have eA : atI P2 (pX P1 k) (pY P1 k) = pT P2 (ixN P2 (pX P1 k) (pY P1 k)) := by unfold atI; rw [if_pos hn]
        clear hA
        by_cases he : atI P2 (pX P1 k) (pY P1 k) = pT P1 k
        · have HE := Lib.hid he
          have HC := Lib.hid (eA.symm.trans he)
          clear he eA hn hp
          go_wp2_with (at_lookup; refine wpList_lookup_own_ok_int _ rfl _ _ 84 rfl 36 2 .i64 lawP Try.underlying84 Try.underlying2 (zeroP1 _) _ _ _ rfl (World.ownsMap.alloc HMR.out _) _ _ rfl HKEY.out ?_; intro c hat hwc; obtain rfl : c = pT P1 k := by (have := (HA.out _).symm.trans hat; rw [HC.out] at this; simpa using this.symm))
          go_roundw
          case rel =>
            refine ⟨k + 1, by omega, by go_num, Lib.hid fun j hj => ?_, HMR.out.below (by (repeat (first | exact Below.refl _ _ | refine Below.setCell ?_ (by first | (simp; done) | (simp; omega) | omega) _ | refine belowN ?_ _ | refine Below.drew ?_ | refine Below.alloc ?_ (by first | (simp; done) | (simp; omega) | omega) _ | refine Below.trans ?_ (Below.mono (by assumption) (by first | (simp; done) | (simp; omega) | omega))))), by (repeat (first | exact Below.refl _ _ | refine Below.setCell ?_ (by first | (simp; done) | (simp; omega) | omega) _ | refine belowN ?_ _ | refine Below.drew ?_ | refine Below.alloc ?_ (by first | (simp; done) | (simp; omega) | omega) _ | refine Below.trans ?_ (Below.mono (by assumption) (by first | (simp; done) | (simp; omega) | omega))))⟩
            by_cases hjk : j < k
            · exact hall.out j hjk
            · obtain rfl : j = k := by omega
              exact HE.out
          case measure => simp [intOf]; omega
        · have KN := Lib.hid (show wiB P1 P2 = false by rw [← K.out]; exact inAll_no hlt he)
          have bn : (pT P2 (ixN P2 (pX P1 k) (pY P1 k)) == pT P1 k) = false := by rw [beq_eq_false_iff_ne, ← eA]; exact he
          clear he eA hn hp
          go_wp2_with (at_lookup; refine wpList_lookup_own_ok_int _ rfl _ _ 84 rfl 36 2 .i64 lawP Try.underlying84 Try.underlying2 (zeroP1 _) _ _ _ rfl (World.ownsMap.alloc HMR.out _) _ _ rfl HKEY.out ?_; intro c hat hwc; obtain rfl : c = pT P2 (ixN P2 (pX P1 k) (pY P1 k)) := by (have := (HA.out _).symm.trans hat; simpa using this.symm))
          go_ret
          exact ⟨ret_bool (by rw [KN.out]), by (repeat (first | exact Below.refl _ _ | refine Below.setCell ?_ (by first | (simp; done) | (simp; omega) | omega) _ | refine belowN ?_ _ | refine Below.drew ?_ | refine Below.alloc ?_ (by first | (simp; done) | (simp; omega) | omega) _ | refine Below.trans ?_ (Below.mono (by assumption) (by first | (simp; done) | (simp; omega) | omega))))⟩
      · have hB := tMap_no GG.out hp hn
        have eA : atI P2 (pX P1 k) (pY P1 k) = -1 := by unfold atI; rw [if_neg hn]
        have KN := Lib.hid (show wiB P1 P2 = false by rw [← K.out]; exact inAll_no hlt (by rw [eA]; omega))
        clear eA hn hp
        go_wp2_with (at_lookup; refine wpList_lookup_own_ok_int _ rfl _ _ 84 rfl 36 2 .i64 lawP Try.underlying84 Try.underlying2 (zeroP1 _) _ _ _ rfl (World.ownsMap.alloc HMR.out _) _ _ rfl HKEY.out ?_; intro c hat hwc)
        go_ret
        exact ⟨ret_bool (by rw [KN.out]), by (repeat (first | exact Below.refl _ _ | refine Below.setCell ?_ (by first | (simp; done) | (simp; omega) | omega) _ | refine belowN ?_ _ | refine Below.drew ?_ | refine Below.alloc ?_ (by first | (simp; done) | (simp; omega) | omega) _ | refine Below.trans ?_ (Below.mono (by assumption) (by first | (simp; done) | (simp; omega) | omega))))⟩
    · obtain rfl : k = P1.length := by omega
      have KY := Lib.hid (show wiB P1 P2 = true by rw [← K.out]; exact inAll_yes hall.out)
      go_wp2_with fail
      go_ret
      exact ⟨ret_bool (by rw [KY.out]), hbw⟩

end Go.Proofs.Ytcaidemlhgepfaa
