/-
  The model's search for the first glue and the first tile with a name. Conditions: each theorem's own.
-/
import Derived.Test.YtnofbeeihdgmdaaDoorKeep
import Derived.Test.YtnofbeeihdgmdaaDoorVal
namespace Go.Proofs.YtnofbeeihdgmdaaDoor
open Go.RowKit

theorem str_ne2 {s t : ByteArray} (h : s ≠ t) : (s.toList == t.toList) = false := by
  simp only [beq_eq_false_iff_ne, ne_eq, ByteArray.toList_eq]
  intro e
  apply h
  obtain ⟨⟨a⟩⟩ := s
  obtain ⟨⟨b⟩⟩ := t
  simp_all

set_option maxHeartbeats 400000 in
theorem l02Glue_any (p : Nat) (vg vt : Value) (gs : List Gl) (s : ByteArray) (w : World) (hp : At w p vg vt) (hg : Glues w vg gs) (hn : gs.length ≤ 1048576) :
    Calls Tryd.prog 99 #[.pointer (some ⟨p, 0, none⟩), .string s] w fun e w' => e = .returned (.int .i64 (gFind gs s)) ∧ Below w.heap.size w w' := by
  obtain ⟨ao, cap, rfl, hl, hm, hc⟩ := hg
  unfold maxLen at hm
  have H0 := Lib.hid hc
  have HP := Lib.hid hp
  clear hc hp
  go_enter Tryd.func99, Tryd.ntmps99
  go_wp2_with fail
  go_loopw [5] (fun i wr => ∃ k : Nat, k ≤ gs.length ∧ i = .int .i64 k ∧ Hid (∀ j, j < k → gN gs j ≠ s) ∧ Below w.heap.size w wr) (fun i _ => gs.length - (intOf i).toNat)
  case atStart => exact ⟨0, by omega, rfl, Lib.hid (fun j hj => by omega), by (repeat (first | exact Below.refl _ _ | refine Below.setCell ?_ (by first | (simp; done) | (simp; omega) | omega) _ | refine belowN ?_ _ | refine Below.drew ?_ | refine Below.alloc ?_ (by first | (simp; done) | (simp; omega) | omega) _ | refine Below.trans ?_ (Below.mono (by assumption) (by first | (simp; done) | (simp; omega) | omega))))⟩
  case round =>
    obtain ⟨k, hk, rfl, hno, hbw⟩ := hrel
    have q0 := (HP.out.below hbw).c0
    by_cases hlt : k < gs.length
    · obtain ⟨b, off, rfl, H1⟩ := H0.out (by omega)
      have c0 := cell_below hbw (H1 k 0 hlt (by omega))
      simp at c0
      clear H1
      by_cases he : gN gs k = s
      · have K := Lib.hid (gFind_at hlt he hno.out)
        rw [he] at c0
        go_wp2
        go_ret
        exact ⟨ret_i64 (by rw [K.out]), hbw⟩
      · have h1 := str_ne2 he
        have K := Lib.hid he
        clear he
        go_wp2
        go_roundw
        case rel =>
          refine ⟨k + 1, by omega, by go_num, Lib.hid fun j hj => ?_, by (repeat (first | exact Below.refl _ _ | refine Below.setCell ?_ (by first | (simp; done) | (simp; omega) | omega) _ | refine belowN ?_ _ | refine Below.drew ?_ | refine Below.alloc ?_ (by first | (simp; done) | (simp; omega) | omega) _ | refine Below.trans ?_ (Below.mono (by assumption) (by first | (simp; done) | (simp; omega) | omega))))⟩
          by_cases hjk : j < k
          · exact hno.out j hjk
          · obtain rfl : j = k := by omega
            exact K.out
        case measure => simp [intOf]; omega
    · obtain rfl : k = gs.length := by omega
      have K := Lib.hid (gFind_none hno.out)
      go_wp2
      go_ret
      exact ⟨ret_i64 (by rw [K.out]), hbw⟩

set_option maxHeartbeats 400000 in
theorem l02Tile_any (p : Nat) (vg vt : Value) (ts : List Tl) (s : ByteArray) (w : World) (hp : At w p vg vt) (hg : Tiles w vt ts) (hn : ts.length ≤ 1048576) :
    Calls Tryd.prog 100 #[.pointer (some ⟨p, 0, none⟩), .string s] w fun e w' => e = .returned (.int .i64 (tFind ts s)) ∧ Below w.heap.size w w' := by
  obtain ⟨sv, ⟨ao, cap, rfl, hl, hm, hc⟩, -⟩ := hg
  unfold maxLen at hm
  have H0 := Lib.hid hc
  have HP := Lib.hid hp
  clear hc hp
  go_enter Tryd.func100, Tryd.ntmps100
  go_wp2_with fail
  go_loopw [5] (fun i wr => ∃ k : Nat, k ≤ ts.length ∧ i = .int .i64 k ∧ Hid (∀ j, j < k → tN ts j ≠ s) ∧ Below w.heap.size w wr) (fun i _ => ts.length - (intOf i).toNat)
  case atStart => exact ⟨0, by omega, rfl, Lib.hid (fun j hj => by omega), by (repeat (first | exact Below.refl _ _ | refine Below.setCell ?_ (by first | (simp; done) | (simp; omega) | omega) _ | refine belowN ?_ _ | refine Below.drew ?_ | refine Below.alloc ?_ (by first | (simp; done) | (simp; omega) | omega) _ | refine Below.trans ?_ (Below.mono (by assumption) (by first | (simp; done) | (simp; omega) | omega))))⟩
  case round =>
    obtain ⟨k, hk, rfl, hno, hbw⟩ := hrel
    have q0 := (HP.out.below hbw).c1
    by_cases hlt : k < ts.length
    · obtain ⟨b, off, rfl, H1⟩ := H0.out (by omega)
      have c0 := cell_below hbw (H1 k 0 hlt (by omega))
      simp at c0
      clear H1
      by_cases he : tN ts k = s
      · have K := Lib.hid (tFind_at hlt he hno.out)
        rw [he] at c0
        go_wp2
        go_ret
        exact ⟨ret_i64 (by rw [K.out]), hbw⟩
      · have h1 := str_ne2 he
        have K := Lib.hid he
        clear he
        go_wp2
        go_roundw
        case rel =>
          refine ⟨k + 1, by omega, by go_num, Lib.hid fun j hj => ?_, by (repeat (first | exact Below.refl _ _ | refine Below.setCell ?_ (by first | (simp; done) | (simp; omega) | omega) _ | refine belowN ?_ _ | refine Below.drew ?_ | refine Below.alloc ?_ (by first | (simp; done) | (simp; omega) | omega) _ | refine Below.trans ?_ (Below.mono (by assumption) (by first | (simp; done) | (simp; omega) | omega))))⟩
          by_cases hjk : j < k
          · exact hno.out j hjk
          · obtain rfl : j = k := by omega
            exact K.out
        case measure => simp [intOf]; omega
    · obtain rfl : k = ts.length := by omega
      have K := Lib.hid (tFind_none hno.out)
      go_wp2
      go_ret
      exact ⟨ret_i64 (by rw [K.out]), hbw⟩

end Go.Proofs.YtnofbeeihdgmdaaDoor
