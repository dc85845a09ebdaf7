/-
  Equality of assemblies, the model's and the program's. Conditions: each theorem's own.
-/
import Derived.Test.YtcaidemlhgepfaaForm2
import Derived.Laws.StructEq
namespace Go.Proofs.Ytcaidemlhgepfaa
open Go.RowKit

theorem pl_ext {a b : List Pl} (hl : a.length = b.length) (h : ∀ i, i < a.length → pX a i = pX b i ∧ pY a i = pY b i ∧ pT a i = pT b i) : a = b := by
  apply List.ext_getElem hl
  intro i h1 h2
  have := h i h1
  simp only [pX, pY, pT, List.getD_eq_getElem?_getD, List.getElem?_eq_getElem h1, List.getElem?_eq_getElem h2, Option.getD_some] at this
  cases ha : a[i]; cases hb : b[i]
  simp_all
open Classical in
noncomputable def sameP (a b : List Pl) : Bool := decide (a = b)
theorem sameP_yes {a b : List Pl} (h : a = b) : sameP a b = true := by simp [sameP, h]
theorem sameP_no {a b : List Pl} (h : a ≠ b) : sameP a b = false := by simp [sameP, h]

set_option maxHeartbeats 1600000 in
theorem equalP_any (u v : Value) (zs ys : List Pl) (w : World) (hu : Plcs w u zs) (hv : Plcs w v ys) :
    Calls Try.prog 46 #[u, v] w fun e w' => e = .returned (.bool (sameP zs ys)) ∧ Below w.heap.size w w' := by
  obtain ⟨ao, cap, rfl, hl, hm, hc⟩ := hu.open_
  obtain ⟨bo, cap2, rfl, hl2, hm2, hc2⟩ := hv.open_
  unfold maxLen at hm hm2
  have H0 := Lib.hid hc
  have H2 := Lib.hid hc2
  clear hc hc2 hu hv
  by_cases hlen : zs.length = ys.length
  · have HL := Lib.hid hlen
    have e2 : Value.slice bo ys.length cap2 = .slice bo zs.length cap2 := by rw [hlen]
    rw [e2]
    have hl3 : zs.length ≤ cap2 := by omega
    clear hlen e2 hl2
    go_enter Try.func46, Try.ntmps46
    go_wp2_with fail
    go_loopw [13] (fun i wr => ∃ k : Nat, k ≤ zs.length ∧ i = .int .i64 k ∧ Hid (∀ j, j < k → pX zs j = pX ys j ∧ pY zs j = pY ys j ∧ pT zs j = pT ys j) ∧ Below w.heap.size w wr) (fun i _ => zs.length - (intOf i).toNat)
    case atStart => exact ⟨0, by omega, rfl, Lib.hid (fun j hj => by omega), by (repeat (first | exact Below.refl _ _ | refine Below.setCell ?_ (by first | (simp; done) | (simp; omega) | omega) _ | refine belowN ?_ _ | refine Below.drew ?_ | refine Below.alloc ?_ (by first | (simp; done) | (simp; omega) | omega) _ | refine Below.trans ?_ (Below.mono (by assumption) (by first | (simp; done) | (simp; omega) | omega))))⟩
    case round =>
      obtain ⟨k, hk, rfl, hall, hbw⟩ := hrel
      by_cases hlt : k < zs.length
      · obtain ⟨b, off, rfl, H1⟩ := H0.out (by omega)
        obtain ⟨b2, off2, rfl, H3⟩ := H2.out (by have := HL.out; omega)
        obtain ⟨c0, c1, c2⟩ := H1 k hlt
        obtain ⟨d0, d1, d2⟩ := H3 k (by have := HL.out; omega)
        have c0 := cell_below hbw c0
        have c1 := cell_below hbw c1
        have c2 := cell_below hbw c2
        have d0 := cell_below hbw d0
        have d1 := cell_below hbw d1
        have d2 := cell_below hbw d2
        clear H1 H3
        by_cases he : pX zs k = pX ys k ∧ pY zs k = pY ys k ∧ pT zs k = pT ys k
        · have HE := Lib.hid he
          rw [← he.1] at d0
          rw [← he.2.1] at d1
          rw [← he.2.2] at d2
          clear he
          go_wp2_with fail
          go_quiet (fail)
          go_wp2
          go_roundw
          case rel =>
            refine ⟨k + 1, by omega, by go_num, Lib.hid fun j hj => ?_, by (repeat (first | exact Below.refl _ _ | refine Below.setCell ?_ (by first | (simp; done) | (simp; omega) | omega) _ | refine belowN ?_ _ | refine Below.drew ?_ | refine Below.alloc ?_ (by first | (simp; done) | (simp; omega) | omega) _ | refine Below.trans ?_ (Below.mono (by assumption) (by first | (simp; done) | (simp; omega) | omega))))⟩
            by_cases hjk : j < k
            · exact hall.out j hjk
            · obtain rfl : j = k := by omega
              exact HE.out
          case measure => simp [intOf]; omega
        · have K := Lib.hid (sameP_no (a := zs) (b := ys) fun h => he (by rw [h]; exact ⟨rfl, rfl, rfl⟩))
          by_cases hx : pX zs k = pX ys k
          · by_cases hy : pY zs k = pY ys k
            · have bn : (pT zs k == pT ys k) = false := by
                rw [beq_eq_false_iff_ne]; exact fun h => he ⟨hx, hy, h⟩
              rw [← hx] at d0
              rw [← hy] at d1
              clear he hx hy
              go_wp2_with fail
              go_quiet (fail)
              go_wp2_with fail
              go_ret
              exact ⟨ret_bool (by rw [K.out]), by (repeat (first | exact Below.refl _ _ | refine Below.setCell ?_ (by first | (simp; done) | (simp; omega) | omega) _ | refine belowN ?_ _ | refine Below.drew ?_ | refine Below.alloc ?_ (by first | (simp; done) | (simp; omega) | omega) _ | refine Below.trans ?_ (Below.mono (by assumption) (by first | (simp; done) | (simp; omega) | omega))))⟩
            · have bn : (pY zs k == pY ys k) = false := by rw [beq_eq_false_iff_ne]; exact hy
              rw [← hx] at d0
              clear he hx hy
              go_wp2_with fail
              go_quiet (fail)
              go_wp2_with fail
              go_ret
              exact ⟨ret_bool (by rw [K.out]), by (repeat (first | exact Below.refl _ _ | refine Below.setCell ?_ (by first | (simp; done) | (simp; omega) | omega) _ | refine belowN ?_ _ | refine Below.drew ?_ | refine Below.alloc ?_ (by first | (simp; done) | (simp; omega) | omega) _ | refine Below.trans ?_ (Below.mono (by assumption) (by first | (simp; done) | (simp; omega) | omega))))⟩
          · have bn : (pX zs k == pX ys k) = false := by rw [beq_eq_false_iff_ne]; exact hx
            clear he hx
            go_wp2_with fail
            go_quiet (fail)
            go_wp2_with fail
            go_ret
            exact ⟨ret_bool (by rw [K.out]), by (repeat (first | exact Below.refl _ _ | refine Below.setCell ?_ (by first | (simp; done) | (simp; omega) | omega) _ | refine belowN ?_ _ | refine Below.drew ?_ | refine Below.alloc ?_ (by first | (simp; done) | (simp; omega) | omega) _ | refine Below.trans ?_ (Below.mono (by assumption) (by first | (simp; done) | (simp; omega) | omega))))⟩
      · obtain rfl : k = zs.length := by omega
        have K := Lib.hid (sameP_yes (pl_ext HL.out hall.out))
        go_wp2
        go_ret
        exact ⟨ret_bool (by rw [K.out]), hbw⟩
  · have K := Lib.hid (sameP_no (a := zs) (b := ys) fun h => hlen (by rw [h]))
    have bn : ((zs.length : Int) != (ys.length : Int)) = true := by rw [bne_iff_ne]; omega
    clear hlen
    go_enter Try.func46, Try.ntmps46
    go_wp2
    go_ret
    exact ⟨ret_bool (by rw [K.out]), by (repeat (first | exact Below.refl _ _ | refine Below.setCell ?_ (by first | (simp; done) | (simp; omega) | omega) _ | refine belowN ?_ _ | refine Below.drew ?_ | refine Below.alloc ?_ (by first | (simp; done) | (simp; omega) | omega) _ | refine Below.trans ?_ (Below.mono (by assumption) (by first | (simp; done) | (simp; omega) | omega))))⟩

theorem implSameAssembly_any (u v : Value) (zs ys : List Pl) (w : World) (hu : Plcs w u zs) (hv : Plcs w v ys) :
    Calls Try.prog 16 #[.agg #[u], .agg #[v]] w fun e w' => e = .returned (.bool (sameP zs ys)) ∧ Below w.heap.size w w' := by
  go_enter Try.func16, Try.ntmps16
  go_wp2_with fail
  refine (equalP_any u v zs ys _ (hu.below (by (repeat (first | exact Below.refl _ _ | refine Below.setCell ?_ (by first | (simp; done) | (simp; omega) | omega) _ | refine belowN ?_ _ | refine Below.drew ?_ | refine Below.alloc ?_ (by first | (simp; done) | (simp; omega) | omega) _ | refine Below.trans ?_ (Below.mono (by assumption) (by first | (simp; done) | (simp; omega) | omega)))))) (hv.below (by (repeat (first | exact Below.refl _ _ | refine Below.setCell ?_ (by first | (simp; done) | (simp; omega) | omega) _ | refine belowN ?_ _ | refine Below.drew ?_ | refine Below.alloc ?_ (by first | (simp; done) | (simp; omega) | omega) _ | refine Below.trans ?_ (Below.mono (by assumption) (by first | (simp; done) | (simp; omega) | omega))))))).mono ?_
  rintro e w1 ⟨rfl, hb1⟩
  go_wp2
  go_ret
  exact ⟨rfl, by (repeat (first | exact Below.refl _ _ | refine Below.setCell ?_ (by first | (simp; done) | (simp; omega) | omega) _ | refine belowN ?_ _ | refine Below.drew ?_ | refine Below.alloc ?_ (by first | (simp; done) | (simp; omega) | omega) _ | refine Below.trans ?_ (Below.mono (by assumption) (by first | (simp; done) | (simp; omega) | omega))))⟩

set_option maxRecDepth 100000 in
set_option maxHeartbeats 4000000 in
theorem l03Same_any (p q : Nat) (u v : Value) (zs ys : List Pl) (w : World) (hp : At1 w p u) (hq : At1 w q v) (hu : Plcs w u zs) (hv : Plcs w v ys) :
    Calls Try.prog 44 #[.pointer (some ⟨p, 0, none⟩), .pointer (some ⟨q, 0, none⟩)] w fun e w' => e = .returned (.bool (sameP zs ys)) ∧ Below w.heap.size w w' := by
  obtain ⟨ao, cap, rfl, hl, hm, hc⟩ := hu.open_
  obtain ⟨bo, cap2, rfl, hl2, hm2, hc2⟩ := hv.open_
  unfold maxLen at hm hm2
  have H0 := Lib.hid hc
  have H2 := Lib.hid hc2
  have p0 := hp.c0
  have q0 := hq.c0
  clear hc hc2 hu hv hp hq
  by_cases hlen : zs.length = ys.length
  · have HL := Lib.hid hlen
    rw [← hlen] at q0
    have hl3 : zs.length ≤ cap2 := by omega
    clear hlen hl2
    go_enter Try.func44, Try.ntmps44
    go_wp2_with fail
    go_quiet (fail)
    go_wp2_with fail
    go_loopw [5] (fun i wr => ∃ k : Nat, k ≤ zs.length ∧ i = .int .i64 k ∧ Hid (∀ j, j < k → pX zs j = pX ys j ∧ pY zs j = pY ys j ∧ pT zs j = pT ys j) ∧ Below w.heap.size w wr) (fun i _ => zs.length - (intOf i).toNat)
    case atStart => exact ⟨0, by omega, rfl, Lib.hid (fun j hj => by omega), by (repeat (first | exact Below.refl _ _ | refine Below.setCell ?_ (by first | (simp; done) | (simp; omega) | omega) _ | refine belowN ?_ _ | refine Below.drew ?_ | refine Below.alloc ?_ (by first | (simp; done) | (simp; omega) | omega) _ | refine Below.trans ?_ (Below.mono (by assumption) (by first | (simp; done) | (simp; omega) | omega))))⟩
    case round =>
      obtain ⟨k, hk, rfl, hall, hbw⟩ := hrel
      have r0 := cell_below hbw p0
      have r1 := cell_below hbw q0
      clear p0 q0
      by_cases hlt : k < zs.length
      · obtain ⟨b, off, rfl, H1⟩ := H0.out (by omega)
        obtain ⟨b2, off2, rfl, H3⟩ := H2.out (by have := HL.out; omega)
        obtain ⟨c0, c1, c2⟩ := H1 k hlt
        obtain ⟨d0, d1, d2⟩ := H3 k (by have := HL.out; omega)
        have c0 := cell_below hbw c0
        have c1 := cell_below hbw c1
        have c2 := cell_below hbw c2
        have d0 := cell_below hbw d0
        have d1 := cell_below hbw d1
        have d2 := cell_below hbw d2
        clear H1 H3
        by_cases he : pX zs k = pX ys k ∧ pY zs k = pY ys k ∧ pT zs k = pT ys k
        · have HE := Lib.hid he
          rw [← he.1] at d0
          rw [← he.2.1] at d1
          rw [← he.2.2] at d2
          clear he
          go_wp2_with fail
          go_quiet (fail)
          go_wp2
          go_roundw
          case rel =>
            refine ⟨k + 1, by omega, by go_num, Lib.hid fun j hj => ?_, by (repeat (first | exact Below.refl _ _ | refine Below.setCell ?_ (by first | (simp; done) | (simp; omega) | omega) _ | refine belowN ?_ _ | refine Below.drew ?_ | refine Below.alloc ?_ (by first | (simp; done) | (simp; omega) | omega) _ | refine Below.trans ?_ (Below.mono (by assumption) (by first | (simp; done) | (simp; omega) | omega))))⟩
            by_cases hjk : j < k
            · exact hall.out j hjk
            · obtain rfl : j = k := by omega
              exact HE.out
          case measure => simp [intOf]; omega
        · have K := Lib.hid (sameP_no (a := zs) (b := ys) fun h => he (by rw [h]; exact ⟨rfl, rfl, rfl⟩))
          by_cases hx : pX zs k = pX ys k
          · by_cases hy : pY zs k = pY ys k
            · have bn : (pT zs k == pT ys k) = false := by
                rw [beq_eq_false_iff_ne]; exact fun h => he ⟨hx, hy, h⟩
              rw [← hx] at d0
              rw [← hy] at d1
              clear he hx hy
              go_wp2_with fail
              go_quiet (fail)
              go_wp2_with fail
              go_ret
              exact ⟨ret_bool (by rw [K.out]), by (repeat (first | exact Below.refl _ _ | refine Below.setCell ?_ (by first | (simp; done) | (simp; omega) | omega) _ | refine belowN ?_ _ | refine Below.drew ?_ | refine Below.alloc ?_ (by first | (simp; done) | (simp; omega) | omega) _ | refine Below.trans ?_ (Below.mono (by assumption) (by first | (simp; done) | (simp; omega) | omega))))⟩
            · have bn : (pY zs k == pY ys k) = false := by rw [beq_eq_false_iff_ne]; exact hy
              rw [← hx] at d0
              clear he hx hy
              go_wp2_with fail
              go_quiet (fail)
              go_wp2_with fail
              go_ret
              exact ⟨ret_bool (by rw [K.out]), by (repeat (first | exact Below.refl _ _ | refine Below.setCell ?_ (by first | (simp; done) | (simp; omega) | omega) _ | refine belowN ?_ _ | refine Below.drew ?_ | refine Below.alloc ?_ (by first | (simp; done) | (simp; omega) | omega) _ | refine Below.trans ?_ (Below.mono (by assumption) (by first | (simp; done) | (simp; omega) | omega))))⟩
          · have bn : (pX zs k == pX ys k) = false := by rw [beq_eq_false_iff_ne]; exact hx
            clear he hx
            go_wp2_with fail
            go_quiet (fail)
            go_wp2_with fail
            go_ret
            exact ⟨ret_bool (by rw [K.out]), by (repeat (first | exact Below.refl _ _ | refine Below.setCell ?_ (by first | (simp; done) | (simp; omega) | omega) _ | refine belowN ?_ _ | refine Below.drew ?_ | refine Below.alloc ?_ (by first | (simp; done) | (simp; omega) | omega) _ | refine Below.trans ?_ (Below.mono (by assumption) (by first | (simp; done) | (simp; omega) | omega))))⟩
      · obtain rfl : k = zs.length := by omega
        have K := Lib.hid (sameP_yes (pl_ext HL.out hall.out))
        go_wp2_with fail
        go_ret
        exact ⟨ret_bool (by rw [K.out]), hbw⟩
  · have K := Lib.hid (sameP_no (a := zs) (b := ys) fun h => hlen (by rw [h]))
    have bn : ((zs.length : Int) != (ys.length : Int)) = true := by rw [bne_iff_ne]; omega
    clear hlen
    go_enter Try.func44, Try.ntmps44
    go_wp2_with fail
    go_quiet (fail)
    go_wp2_with fail
    go_ret
    exact ⟨ret_bool (by rw [K.out]), by (repeat (first | exact Below.refl _ _ | refine Below.setCell ?_ (by first | (simp; done) | (simp; omega) | omega) _ | refine belowN ?_ _ | refine Below.drew ?_ | refine Below.alloc ?_ (by first | (simp; done) | (simp; omega) | omega) _ | refine Below.trans ?_ (Below.mono (by assumption) (by first | (simp; done) | (simp; omega) | omega))))⟩

theorem specSameAssembly_any (u v : Value) (zs ys : List Pl) (w : World) (hu : Plcs w u zs) (hv : Plcs w v ys) :
    Calls Try.prog 14 #[.agg #[u], .agg #[v]] w fun e w' => e = .returned (.bool (sameP zs ys)) ∧ Below w.heap.size w w' := by
  have A0 : At1 ((w.alloc (.cells #[u] 29)).alloc (.cells #[v] 29)) w.heap.size u := (At1.new w u _).below (by (repeat (first | exact Below.refl _ _ | refine Below.setCell ?_ (by first | (simp; done) | (simp; omega) | omega) _ | refine belowN ?_ _ | refine Below.drew ?_ | refine Below.alloc ?_ (by first | (simp; done) | (simp; omega) | omega) _ | refine Below.trans ?_ (Below.mono (by assumption) (by first | (simp; done) | (simp; omega) | omega)))))
  have A1 : At1 ((w.alloc (.cells #[u] 29)).alloc (.cells #[v] 29)) (w.heap.size + 1) v := ⟨by simp [go_sem]⟩
  have HA0 := Lib.hid A0
  have HA1 := Lib.hid A1
  clear A0 A1
  go_enter Try.func14, Try.ntmps14
  go_wp2_with fail
  refine (l03Same_any _ _ u v zs ys _ HA0.out HA1.out (hu.below (by (repeat (first | exact Below.refl _ _ | refine Below.setCell ?_ (by first | (simp; done) | (simp; omega) | omega) _ | refine belowN ?_ _ | refine Below.drew ?_ | refine Below.alloc ?_ (by first | (simp; done) | (simp; omega) | omega) _ | refine Below.trans ?_ (Below.mono (by assumption) (by first | (simp; done) | (simp; omega) | omega)))))) (hv.below (by (repeat (first | exact Below.refl _ _ | refine Below.setCell ?_ (by first | (simp; done) | (simp; omega) | omega) _ | refine belowN ?_ _ | refine Below.drew ?_ | refine Below.alloc ?_ (by first | (simp; done) | (simp; omega) | omega) _ | refine Below.trans ?_ (Below.mono (by assumption) (by first | (simp; done) | (simp; omega) | omega))))))).mono ?_
  rintro e w1 ⟨rfl, hb1⟩
  go_wp2
  go_ret
  exact ⟨rfl, by (repeat (first | exact Below.refl _ _ | refine Below.setCell ?_ (by first | (simp; done) | (simp; omega) | omega) _ | refine belowN ?_ _ | refine Below.drew ?_ | refine Below.alloc ?_ (by first | (simp; done) | (simp; omega) | omega) _ | refine Below.trans ?_ (Below.mono (by assumption) (by first | (simp; done) | (simp; omega) | omega))))⟩

end Go.Proofs.Ytcaidemlhgepfaa
