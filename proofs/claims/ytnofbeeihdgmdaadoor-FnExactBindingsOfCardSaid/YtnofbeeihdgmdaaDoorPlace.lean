/-
  The place of a point, the program's search; TileAt. Conditions: each theorem's own.
-/
import Derived.Test.YtnofbeeihdgmdaaDoorIdx
namespace Go.Proofs.YtnofbeeihdgmdaaDoor
open Go.RowKit

/-- Are two points one? -/
def eqP (a b x y : Int) : Bool := a == x && b == y
theorem eqP_yes {a b x y : Int} (h : a = x ∧ b = y) : eqP a b x y = true := by simp [eqP, h]
theorem eqP_no {a b x y : Int} (h : ¬ (a = x ∧ b = y)) : eqP a b x y = false := by
  unfold eqP
  rw [Bool.and_eq_false_iff]
  by_cases ha : a = x
  · exact .inr (beq_eq_false_iff_ne.2 fun e => h ⟨ha, e⟩)
  · exact .inl (beq_eq_false_iff_ne.2 ha)

set_option maxHeartbeats 1600000 in
theorem isAt_any (q : Nat) (a b t x y : Int) (w : World) (hq : At w q (.int .i64 x) (.int .i64 y)) :
    Calls Tryd.prog 110 #[.agg #[.int .i64 a, .int .i64 b, .int .i64 t], .pointer (some ⟨q, 0, none⟩)] w fun e w' => e = .returned (.bool (eqP a b x y)) ∧ Below w.heap.size w w' := by
  obtain ⟨c0, c1⟩ := id hq
  have hl := hq.lt
  clear hq
  by_cases hx : a = x
  · by_cases hy : b = y
    · have K := Lib.hid (eqP_yes ⟨hx, hy⟩)
      rw [← hx] at c0
      rw [← hy] at c1
      clear hx hy
      go_enter Tryd.func110, Tryd.ntmps110
      go_wp2_with fail
      go_ret
      exact ⟨ret_bool (by rw [K.out]), by (repeat (first | exact Below.refl _ _ | refine Below.setCell ?_ (by first | (simp; done) | (simp; omega) | omega) _ | refine belowN ?_ _ | refine Below.drew ?_ | refine Below.alloc ?_ (by first | (simp; done) | (simp; omega) | omega) _ | refine Below.trans ?_ (Below.mono (by assumption) (by first | (simp; done) | (simp; omega) | omega))))⟩
    · have K := Lib.hid (eqP_no (a := a) (b := b) (x := x) (y := y) fun h => hy h.2)
      have bn : (b == y) = false := by rw [beq_eq_false_iff_ne]; exact hy
      rw [← hx] at c0
      clear hx hy
      go_enter Tryd.func110, Tryd.ntmps110
      go_wp2_with fail
      go_ret
      exact ⟨ret_bool (by rw [K.out]), by (repeat (first | exact Below.refl _ _ | refine Below.setCell ?_ (by first | (simp; done) | (simp; omega) | omega) _ | refine belowN ?_ _ | refine Below.drew ?_ | refine Below.alloc ?_ (by first | (simp; done) | (simp; omega) | omega) _ | refine Below.trans ?_ (Below.mono (by assumption) (by first | (simp; done) | (simp; omega) | omega))))⟩
  · have K := Lib.hid (eqP_no (a := a) (b := b) (x := x) (y := y) fun h => hx h.1)
    have bn : (a == x) = false := by rw [beq_eq_false_iff_ne]; exact hx
    clear hx
    go_enter Tryd.func110, Tryd.ntmps110
    go_wp2_with fail
    go_ret
    exact ⟨ret_bool (by rw [K.out]), by (repeat (first | exact Below.refl _ _ | refine Below.setCell ?_ (by first | (simp; done) | (simp; omega) | omega) _ | refine belowN ?_ _ | refine Below.drew ?_ | refine Below.alloc ?_ (by first | (simp; done) | (simp; omega) | omega) _ | refine Below.trans ?_ (Below.mono (by assumption) (by first | (simp; done) | (simp; omega) | omega))))⟩

set_option maxHeartbeats 1600000 in
theorem indexP_any (q : Nat) (v : Value) (ps : List Pl) (x y : Int) (w : World) (hv : Plcs w v ps) (hq : At w q (.int .i64 x) (.int .i64 y)) :
    Calls Tryd.prog 109 #[v, .func (.func 110) #[] #[.pointer (some ⟨q, 0, none⟩)]] w fun e w' => e = .returned (.int .i64 (ixI ps x y)) ∧ Below w.heap.size w w' := by
  obtain ⟨ao, cap, rfl, hl, hm, hc⟩ := hv.open_
  unfold maxLen at hm
  have H0 := Lib.hid hc
  have HQ := Lib.hid hq
  clear hc hv hq
  go_enter Tryd.func109, Tryd.ntmps109
  go_wp2_with fail
  go_loopw [8] (fun i wr => ∃ k : Nat, k ≤ ps.length ∧ i = .int .i64 k ∧ Hid (∀ j, j < k → ¬ (pX ps j = x ∧ pY ps j = y)) ∧ Below w.heap.size w wr) (fun i _ => ps.length - (intOf i).toNat)
  case atStart => exact ⟨0, by omega, rfl, Lib.hid (fun j hj => by omega), by (repeat (first | exact Below.refl _ _ | refine Below.setCell ?_ (by first | (simp; done) | (simp; omega) | omega) _ | refine belowN ?_ _ | refine Below.drew ?_ | refine Below.alloc ?_ (by first | (simp; done) | (simp; omega) | omega) _ | refine Below.trans ?_ (Below.mono (by assumption) (by first | (simp; done) | (simp; omega) | omega))))⟩
  case round =>
    obtain ⟨k, hk, rfl, hall, hbw⟩ := hrel
    have s1 := hbw.size
    by_cases hlt : k < ps.length
    · obtain ⟨b, off, rfl, H1⟩ := H0.out (by omega)
      obtain ⟨c0, c1, c2⟩ := H1 k hlt
      have c0 := cell_below hbw c0
      have c1 := cell_below hbw c1
      have c2 := cell_below hbw c2
      clear H1
      by_cases he : pX ps k = x ∧ pY ps k = y
      · have K := Lib.hid (ixI_yes hlt (ixN_first hlt he hall.out))
        have KE := Lib.hid (eqP_yes he)
        clear he
        go_wp2_with (go_at_call 110; refine (isAt_any q _ _ _ x y _ (HQ.out.below (by (repeat (first | exact Below.refl _ _ | refine Below.setCell ?_ (by first | (simp; done) | (simp; omega) | omega) _ | refine belowN ?_ _ | refine Below.drew ?_ | refine Below.alloc ?_ (by first | (simp; done) | (simp; omega) | omega) _ | refine Below.trans ?_ (Below.mono (by assumption) (by first | (simp; done) | (simp; omega) | omega))))))).mono ?_; rintro e w1 ⟨rfl, hb1⟩; rw [KE.out])
        go_ret
        exact ⟨ret_i64 (by rw [K.out]), by (repeat (first | exact Below.refl _ _ | refine Below.setCell ?_ (by first | (simp; done) | (simp; omega) | omega) _ | refine belowN ?_ _ | refine Below.drew ?_ | refine Below.alloc ?_ (by first | (simp; done) | (simp; omega) | omega) _ | refine Below.trans ?_ (Below.mono (by assumption) (by first | (simp; done) | (simp; omega) | omega))))⟩
      · have KE := Lib.hid (eqP_no he)
        have HE := Lib.hid he
        clear he
        go_wp2_with (go_at_call 110; refine (isAt_any q _ _ _ x y _ (HQ.out.below (by (repeat (first | exact Below.refl _ _ | refine Below.setCell ?_ (by first | (simp; done) | (simp; omega) | omega) _ | refine belowN ?_ _ | refine Below.drew ?_ | refine Below.alloc ?_ (by first | (simp; done) | (simp; omega) | omega) _ | refine Below.trans ?_ (Below.mono (by assumption) (by first | (simp; done) | (simp; omega) | omega))))))).mono ?_; rintro e w1 ⟨rfl, hb1⟩; rw [KE.out])
        go_roundw
        case rel =>
          refine ⟨k + 1, by omega, by go_num, Lib.hid fun j hj => ?_, by (repeat (first | exact Below.refl _ _ | refine Below.setCell ?_ (by first | (simp; done) | (simp; omega) | omega) _ | refine belowN ?_ _ | refine Below.drew ?_ | refine Below.alloc ?_ (by first | (simp; done) | (simp; omega) | omega) _ | refine Below.trans ?_ (Below.mono (by assumption) (by first | (simp; done) | (simp; omega) | omega))))⟩
          by_cases hjk : j < k
          · exact hall.out j hjk
          · obtain rfl : j = k := by omega
            exact HE.out
        case measure => simp [intOf]; omega
    · obtain rfl : k = ps.length := by omega
      have K := Lib.hid (ixI_no (ps := ps) (x := x) (y := y) hall.out)
      go_wp2_with fail
      go_ret
      exact ⟨ret_i64 (by rw [K.out]), hbw⟩

/-- Is there a tile at the point? -/
def hasB (ps : List Pl) (x y : Int) : Bool := decide (ixN ps x y < ps.length)
theorem hasB_yes {ps : List Pl} {x y : Int} (h : ixN ps x y < ps.length) : hasB ps x y = true := decide_eq_true h
theorem hasB_no {ps : List Pl} {x y : Int} (h : ¬ ixN ps x y < ps.length) : hasB ps x y = false := decide_eq_false h

theorem placeOf_any (v : Value) (ps : List Pl) (x y : Int) (w : World) (hv : Plcs w v ps) :
    Calls Tryd.prog 80 #[.agg #[v], .agg #[.int .i64 x, .int .i64 y]] w fun e w' => e = .returned (.tuple #[.int .i64 (ixI ps x y), .bool (hasB ps x y)]) ∧ Below w.heap.size w w' := by
  have A0 : At ((w.alloc (.cells #[v] 42)).alloc (.cells #[.int .i64 x, .int .i64 y] 44)) (w.heap.size + 1) (.int .i64 x) (.int .i64 y) := ⟨by simp [go_sem], by simp [go_sem]⟩
  have HA := Lib.hid A0
  clear A0
  by_cases hn : ixN ps x y < ps.length
  · have K2 : ixI ps x y = (ixN ps x y : Int) := by unfold ixI; rw [if_pos hn]
    rw [hasB_yes hn, K2]
    have HK := Lib.hid K2
    clear K2 hn
    go_enter Tryd.func80, Tryd.ntmps80
    go_wp2_with fail
    refine (indexP_any _ v ps x y _ (hv.below (by (repeat (first | exact Below.refl _ _ | refine Below.setCell ?_ (by first | (simp; done) | (simp; omega) | omega) _ | refine belowN ?_ _ | refine Below.drew ?_ | refine Below.alloc ?_ (by first | (simp; done) | (simp; omega) | omega) _ | refine Below.trans ?_ (Below.mono (by assumption) (by first | (simp; done) | (simp; omega) | omega)))))) HA.out).mono ?_
    rintro e w1 ⟨rfl, hb1⟩
    rw [HK.out]
    go_wp2_with fail
    go_ret2
    exact ⟨rfl, by (repeat (first | exact Below.refl _ _ | refine Below.setCell ?_ (by first | (simp; done) | (simp; omega) | omega) _ | refine belowN ?_ _ | refine Below.drew ?_ | refine Below.alloc ?_ (by first | (simp; done) | (simp; omega) | omega) _ | refine Below.trans ?_ (Below.mono (by assumption) (by first | (simp; done) | (simp; omega) | omega))))⟩
  · have K2 : ixI ps x y = -1 := by unfold ixI; rw [if_neg hn]
    rw [hasB_no hn, K2]
    have HK := Lib.hid K2
    clear K2 hn
    go_enter Tryd.func80, Tryd.ntmps80
    go_wp2_with fail
    refine (indexP_any _ v ps x y _ (hv.below (by (repeat (first | exact Below.refl _ _ | refine Below.setCell ?_ (by first | (simp; done) | (simp; omega) | omega) _ | refine belowN ?_ _ | refine Below.drew ?_ | refine Below.alloc ?_ (by first | (simp; done) | (simp; omega) | omega) _ | refine Below.trans ?_ (Below.mono (by assumption) (by first | (simp; done) | (simp; omega) | omega)))))) HA.out).mono ?_
    rintro e w1 ⟨rfl, hb1⟩
    rw [HK.out]
    go_wp2_with fail
    go_ret2
    exact ⟨rfl, by (repeat (first | exact Below.refl _ _ | refine Below.setCell ?_ (by first | (simp; done) | (simp; omega) | omega) _ | refine belowN ?_ _ | refine Below.drew ?_ | refine Below.alloc ?_ (by first | (simp; done) | (simp; omega) | omega) _ | refine Below.trans ?_ (Below.mono (by assumption) (by first | (simp; done) | (simp; omega) | omega))))⟩

end Go.Proofs.YtnofbeeihdgmdaaDoor
