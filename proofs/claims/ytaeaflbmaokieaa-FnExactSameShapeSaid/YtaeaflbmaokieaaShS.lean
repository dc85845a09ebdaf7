/-
  Equality of lists of points, the model's and the program's. Conditions: each theorem's own.
-/
import Derived.Test.YtaeaflbmaokieaaShV
namespace Go.Proofs.Ytaeaflbmaokieaa
open Go.RowKit

/-- Two lists have the same points. -/
def SameQ (D E : Cols) : Prop := D.n = E.n ∧ ∀ i, i < D.n → D.c i 0 = E.c i 0 ∧ D.c i 1 = E.c i 1
open Classical in
noncomputable def sameQ (D E : Cols) : Bool := decide (SameQ D E)
theorem sameQ_yes {D E : Cols} (h : SameQ D E) : sameQ D E = true := by unfold sameQ; simpa using h
theorem sameQ_no {D E : Cols} (h : ¬ SameQ D E) : sameQ D E = false := by unfold sameQ; simpa using h

set_option maxRecDepth 100000 in
set_option maxHeartbeats 4000000 in
theorem equalQ_any (u v : Value) (D E : Cols) (w : World) (hu : Qs w u D) (hv : Qs w v E) :
    Calls Try.prog 74 #[u, v] w fun e w' => e = .returned (.bool (sameQ D E)) ∧ Below w.heap.size w w' := by
  obtain ⟨ao, cap, rfl, hl, hm, hc⟩ := hu.open_
  obtain ⟨bo, cap2, rfl, hl2, hm2, hc2⟩ := hv.open_
  unfold maxLen at hm hm2
  have H0 := Lib.hid hc
  have H2 := Lib.hid hc2
  clear hc hc2 hu hv
  by_cases hlen : D.n = E.n
  · have HL := Lib.hid hlen
    have e2 : Value.slice bo E.n cap2 = .slice bo D.n cap2 := by rw [hlen]
    rw [e2]
    have hl3 : D.n ≤ cap2 := by omega
    clear hlen e2 hl2
    go_enter Try.func74, Try.ntmps74
    go_wp2_with fail
    go_loopw [13] (fun i wr => ∃ k : Nat, k ≤ D.n ∧ i = .int .i64 k ∧ Hid (∀ j, j < k → D.c j 0 = E.c j 0 ∧ D.c j 1 = E.c j 1) ∧ Below w.heap.size w wr) (fun i _ => D.n - (intOf i).toNat)
    case atStart => exact ⟨0, by omega, rfl, Lib.hid (fun j hj => by omega), by (repeat (first | exact Below.refl _ _ | refine Below.setCell ?_ (by first | (simp; done) | (simp; omega) | omega) _ | refine belowN ?_ _ | refine Below.drew ?_ | refine Below.alloc ?_ (by first | (simp; done) | (simp; omega) | omega) _ | refine Below.trans ?_ (Below.mono (by assumption) (by first | (simp; done) | (simp; omega) | omega))))⟩
    case round =>
      obtain ⟨k, hk, rfl, hall, hbw⟩ := hrel
      by_cases hlt : k < D.n
      · obtain ⟨b, off, rfl, H1⟩ := H0.out (by omega)
        obtain ⟨b2, off2, rfl, H3⟩ := H2.out (by have := HL.out; omega)
        obtain ⟨c0, c1⟩ := H1 k hlt
        obtain ⟨d0, d1⟩ := H3 k (by have := HL.out; omega)
        have c0 := cell_below hbw c0
        have c1 := cell_below hbw c1
        have d0 := cell_below hbw d0
        have d1 := cell_below hbw d1
        clear H1 H3
        by_cases he : D.c k 0 = E.c k 0 ∧ D.c k 1 = E.c k 1
        · have HE := Lib.hid he
          rw [← he.1] at d0
          rw [← he.2] at d1
          clear he
          go_wp2_with fail
          go_quiet (fail)
          go_wp2
          go_roundw
          case rel =>
            refine ⟨k + 1, by omega, by go_num, Lib.hid fun j hj => ?_, by (repeat (first | exact Below.refl _ _ | refine Below.setCell ?_ (by first | (simp; done) | (simp; omega) | omega) _ | refine belowN ?_ _ | refine Below.drew ?_ | refine Below.alloc ?_ (by first | (simp; done) | (simp; omega) | omega) _ | refine Below.trans ?_ (Below.mono (by assumption) (by first | (simp; done) | (simp; omega) | omega))))⟩
            by_cases hjk : j < k
            · exact hall.out j hjk
            · obtain rfl : j = k := by omega
              exact HE.out
          case measure => simp [intOf]; omega
        · have K := Lib.hid (sameQ_no (D := D) (E := E) fun h => he (h.2 k hlt))
          by_cases hx : D.c k 0 = E.c k 0
          · have bn : (D.c k 1 == E.c k 1) = false := by rw [beq_eq_false_iff_ne]; exact fun h => he ⟨hx, h⟩
            rw [← hx] at d0
            clear he hx
            go_wp2_with fail
            go_quiet (fail)
            go_wp2_with fail
            go_ret
            exact ⟨ret_bool (by rw [K.out]), by (repeat (first | exact Below.refl _ _ | refine Below.setCell ?_ (by first | (simp; done) | (simp; omega) | omega) _ | refine belowN ?_ _ | refine Below.drew ?_ | refine Below.alloc ?_ (by first | (simp; done) | (simp; omega) | omega) _ | refine Below.trans ?_ (Below.mono (by assumption) (by first | (simp; done) | (simp; omega) | omega))))⟩
          · have bn : (D.c k 0 == E.c k 0) = false := by rw [beq_eq_false_iff_ne]; exact hx
            clear he hx
            go_wp2_with fail
            go_quiet (fail)
            go_wp2_with fail
            go_ret
            exact ⟨ret_bool (by rw [K.out]), by (repeat (first | exact Below.refl _ _ | refine Below.setCell ?_ (by first | (simp; done) | (simp; omega) | omega) _ | refine belowN ?_ _ | refine Below.drew ?_ | refine Below.alloc ?_ (by first | (simp; done) | (simp; omega) | omega) _ | refine Below.trans ?_ (Below.mono (by assumption) (by first | (simp; done) | (simp; omega) | omega))))⟩
      · obtain rfl : k = D.n := by omega
        have K := Lib.hid (sameQ_yes (D := D) (E := E) ⟨HL.out, hall.out⟩)
        go_wp2
        go_ret
        exact ⟨ret_bool (by rw [K.out]), hbw⟩
  · have K := Lib.hid (sameQ_no (D := D) (E := E) fun h => hlen h.1)
    have bn : ((D.n : Int) != (E.n : Int)) = true := by rw [bne_iff_ne]; omega
    clear hlen
    go_enter Try.func74, Try.ntmps74
    go_wp2
    go_ret
    exact ⟨ret_bool (by rw [K.out]), by (repeat (first | exact Below.refl _ _ | refine Below.setCell ?_ (by first | (simp; done) | (simp; omega) | omega) _ | refine belowN ?_ _ | refine Below.drew ?_ | refine Below.alloc ?_ (by first | (simp; done) | (simp; omega) | omega) _ | refine Below.trans ?_ (Below.mono (by assumption) (by first | (simp; done) | (simp; omega) | omega))))⟩

set_option maxRecDepth 100000 in
set_option maxHeartbeats 4000000 in
theorem l04Same_any (u v : Value) (D E : Cols) (w : World) (hu : Qs w u D) (hv : Qs w v E) :
    Calls Try.prog 73 #[u, v] w fun e w' => e = .returned (.bool (sameQ D E)) ∧ Below w.heap.size w w' := by
  obtain ⟨ao, cap, rfl, hl, hm, hc⟩ := hu.open_
  obtain ⟨bo, cap2, rfl, hl2, hm2, hc2⟩ := hv.open_
  unfold maxLen at hm hm2
  have H0 := Lib.hid hc
  have H2 := Lib.hid hc2
  clear hc hc2 hu hv
  by_cases hlen : D.n = E.n
  · have HL := Lib.hid hlen
    have e2 : Value.slice bo E.n cap2 = .slice bo D.n cap2 := by rw [hlen]
    rw [e2]
    have hl3 : D.n ≤ cap2 := by omega
    clear hlen e2 hl2
    go_enter Try.func73, Try.ntmps73
    go_wp2_with fail
    go_loopw [5] (fun i wr => ∃ k : Nat, k ≤ D.n ∧ i = .int .i64 k ∧ Hid (∀ j, j < k → D.c j 0 = E.c j 0 ∧ D.c j 1 = E.c j 1) ∧ Below w.heap.size w wr) (fun i _ => D.n - (intOf i).toNat)
    case atStart => exact ⟨0, by omega, rfl, Lib.hid (fun j hj => by omega), by (repeat (first | exact Below.refl _ _ | refine Below.setCell ?_ (by first | (simp; done) | (simp; omega) | omega) _ | refine belowN ?_ _ | refine Below.drew ?_ | refine Below.alloc ?_ (by first | (simp; done) | (simp; omega) | omega) _ | refine Below.trans ?_ (Below.mono (by assumption) (by first | (simp; done) | (simp; omega) | omega))))⟩
    case round =>
      obtain ⟨k, hk, rfl, hall, hbw⟩ := hrel
      by_cases hlt : k < D.n
      · obtain ⟨b, off, rfl, H1⟩ := H0.out (by omega)
        obtain ⟨b2, off2, rfl, H3⟩ := H2.out (by have := HL.out; omega)
        obtain ⟨c0, c1⟩ := H1 k hlt
        obtain ⟨d0, d1⟩ := H3 k (by have := HL.out; omega)
        have c0 := cell_below hbw c0
        have c1 := cell_below hbw c1
        have d0 := cell_below hbw d0
        have d1 := cell_below hbw d1
        clear H1 H3
        by_cases he : D.c k 0 = E.c k 0 ∧ D.c k 1 = E.c k 1
        · have HE := Lib.hid he
          rw [← he.1] at d0
          rw [← he.2] at d1
          clear he
          go_wp2_with fail
          go_quiet (fail)
          go_wp2
          go_roundw
          case rel =>
            refine ⟨k + 1, by omega, by go_num, Lib.hid fun j hj => ?_, by (repeat (first | exact Below.refl _ _ | refine Below.setCell ?_ (by first | (simp; done) | (simp; omega) | omega) _ | refine belowN ?_ _ | refine Below.drew ?_ | refine Below.alloc ?_ (by first | (simp; done) | (simp; omega) | omega) _ | refine Below.trans ?_ (Below.mono (by assumption) (by first | (simp; done) | (simp; omega) | omega))))⟩
            by_cases hjk : j < k
            · exact hall.out j hjk
            · obtain rfl : j = k := by omega
              exact HE.out
          case measure => simp [intOf]; omega
        · have K := Lib.hid (sameQ_no (D := D) (E := E) fun h => he (h.2 k hlt))
          by_cases hx : D.c k 0 = E.c k 0
          · have bn : (D.c k 1 == E.c k 1) = false := by rw [beq_eq_false_iff_ne]; exact fun h => he ⟨hx, h⟩
            rw [← hx] at d0
            clear he hx
            go_wp2_with fail
            go_quiet (fail)
            go_wp2_with fail
            go_ret
            exact ⟨ret_bool (by rw [K.out]), by (repeat (first | exact Below.refl _ _ | refine Below.setCell ?_ (by first | (simp; done) | (simp; omega) | omega) _ | refine belowN ?_ _ | refine Below.drew ?_ | refine Below.alloc ?_ (by first | (simp; done) | (simp; omega) | omega) _ | refine Below.trans ?_ (Below.mono (by assumption) (by first | (simp; done) | (simp; omega) | omega))))⟩
          · have bn : (D.c k 0 == E.c k 0) = false := by rw [beq_eq_false_iff_ne]; exact hx
            clear he hx
            go_wp2_with fail
            go_quiet (fail)
            go_wp2_with fail
            go_ret
            exact ⟨ret_bool (by rw [K.out]), by (repeat (first | exact Below.refl _ _ | refine Below.setCell ?_ (by first | (simp; done) | (simp; omega) | omega) _ | refine belowN ?_ _ | refine Below.drew ?_ | refine Below.alloc ?_ (by first | (simp; done) | (simp; omega) | omega) _ | refine Below.trans ?_ (Below.mono (by assumption) (by first | (simp; done) | (simp; omega) | omega))))⟩
      · obtain rfl : k = D.n := by omega
        have K := Lib.hid (sameQ_yes (D := D) (E := E) ⟨HL.out, hall.out⟩)
        go_wp2
        go_ret
        exact ⟨ret_bool (by rw [K.out]), hbw⟩
  · have K := Lib.hid (sameQ_no (D := D) (E := E) fun h => hlen h.1)
    have bn : ((D.n : Int) != (E.n : Int)) = true := by rw [bne_iff_ne]; omega
    clear hlen
    go_enter Try.func73, Try.ntmps73
    go_wp2
    go_ret
    exact ⟨ret_bool (by rw [K.out]), by (repeat (first | exact Below.refl _ _ | refine Below.setCell ?_ (by first | (simp; done) | (simp; omega) | omega) _ | refine belowN ?_ _ | refine Below.drew ?_ | refine Below.alloc ?_ (by first | (simp; done) | (simp; omega) | omega) _ | refine Below.trans ?_ (Below.mono (by assumption) (by first | (simp; done) | (simp; omega) | omega))))⟩

end Go.Proofs.Ytaeaflbmaokieaa
