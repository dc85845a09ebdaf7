/-
  ReadDecimal, the model's: what it returns for every string. Conditions: the string is no longer than a slice may be.
-/
import Derived.Test.YtmleplkamnihcaaDoorRead2
import Derived.Test.YtmleplkamnihcaaDoorDecI
namespace Go.Proofs.YtmleplkamnihcaaDoor
open Go.RowKit

def digI (c : Int) : Bool := decide (48 ≤ c) && decide (c ≤ 57)
theorem digI_nat (c : UInt8) : digI (c.toNat : Int) = digC c := by
  unfold digI digC
  rw [show decide ((48 : Int) ≤ (c.toNat : Int)) = decide (48 ≤ c.toNat) from decide_eq_decide.2 (by omega), show decide ((c.toNat : Int) ≤ 57) = decide (c.toNat ≤ 57) from decide_eq_decide.2 (by omega)]
theorem l01Digit_any (c : Int) (w : World) : Calls Tryd.prog 41 #[.int .u8 c] w fun e w' => e = .returned (.bool (digI c)) ∧ w = w' := by
  by_cases h1 : 48 ≤ c
  all_goals by_cases h2 : c ≤ 57
  all_goals try (exfalso; omega)
  all_goals
    have K : Hid (digI c = (decide (48 ≤ c) && decide (c ≤ 57))) := Lib.hid rfl
    go_enter Tryd.func41, Tryd.ntmps41
    go_wp2
    go_ret
    exact ⟨ret_bool (by rw [K.out]; simp [*]), rfl⟩

theorem ret_rd {a x : Int} {b y : Bool} (h : a = x) (k : b = y) : Ending.returned (.tuple #[.int .i64 a, .bool b]) = .returned (.tuple #[.int .i64 x, .bool y]) := by rw [h, k]

theorem rd_bad {l : List UInt8} (h : okN l l.length = false) : rdB l = false ∧ rdR l = 0 := by
  have hb : rdB l = false := by unfold rdB; rw [h]; simp
  exact ⟨hb, by unfold rdR; rw [hb]; rfl⟩
theorem rd_val {l : List UInt8} (h : (inB (valS l) (-1000000000) 1000000000 && decide (Lib.itoa (valS l) = l)) = false) : rdB l = false ∧ rdR l = 0 := by
  have hb : rdB l = false := by unfold rdB; rw [h]; simp
  exact ⟨hb, by unfold rdR; rw [hb]; rfl⟩
theorem int_eq {a b : Int} (h : a = b) : Value.int .i64 a = .int .i64 b := by rw [h]
theorem arr_eq (s : ByteArray) : (⟨s.data.toList.toArray⟩ : ByteArray) = s := by cases s; simp

set_option maxHeartbeats 2000000 in
set_option maxRecDepth 100000 in
theorem specRead_any (s : ByteArray) (w : World) (hmax : s.size ≤ 9223372036854775807) :
    Calls Tryd.prog 17 #[.string s] w fun e w' => e = .returned (.tuple #[.int .i64 (rdR s.data.toList), .bool (rdB s.data.toList)]) ∧ Below w.heap.size w w' := by
  by_cases h1 : s.size < 1
  · have K : Hid (rdB s.data.toList = false ∧ rdR s.data.toList = 0) := Lib.hid (rd_no fun n hn => by have := (num_val hn).2.2.1; rw [list_len] at this; omega)
    have h1' : (s.size : Int) < 1 := by omega
    go_enter Tryd.func17, Tryd.ntmps17
    go_wp2
    go_ret2
    exact ⟨ret_rd K.out.2.symm K.out.1.symm, Below.refl _ _⟩
  · by_cases h2 : 11 < s.size
    · have K : Hid (rdB s.data.toList = false ∧ rdR s.data.toList = 0) := Lib.hid (rd_no fun n hn => by have := (num_val hn).2.2.2; rw [list_len] at this; omega)
      have h2' : (11 : Int) < s.size := by omega
      go_enter Tryd.func17, Tryd.ntmps17
      go_wp2
      go_ret2
      exact ⟨ret_rd K.out.2.symm K.out.1.symm, Below.refl _ _⟩
    · have h0 : 0 < s.size := by omega
      have hh := Lib.hid (head_get h0)
      have hlen := Lib.hid (list_len s)
      go_enter Tryd.func17, Tryd.ntmps17
      go_wp2
      go_loop [4, 5] (fun m i => ∃ k : Nat, k ≤ s.size ∧ i = .int .i64 k ∧ m = .int .i64 (pv s.data.toList k) ∧ Hid (okN s.data.toList k = true)) (fun _ i => s.size - (intOf i).toNat)
      case atStart => exact ⟨0, by omega, rfl, by rw [pv_zero]; rfl, Lib.hid (okN_zero _)⟩
      case round =>
        obtain ⟨k, hk, rfl, rfl, hok⟩ := hrel
        have hb := pv_lt (l := s.data.toList) (k := k) (by omega) hok.out
        by_cases hlt : k < s.size
        · by_cases hk0 : k = 0
          · subst hk0
            cases hA : ((s[0].toNat : Int) == 45)
            · have hg := list_get hlt
              have hp : pre s.data.toList ≤ 0 := by
                unfold pre; rw [hh.out, if_neg (by intro e; injection e with e; rw [e] at hA; revert hA; decide)]; omega
              cases hD : digI (s[0].toNat : Int)
              · have hbad : Hid (rdB s.data.toList = false ∧ rdR s.data.toList = 0) := Lib.hid (rd_bad (okN_mono (k := 0 + 1) (by rw [okN_step hg hp, ← digI_nat, hD]; simp) (by rw [list_len]; omega)))
                clear hg hp
                go_wp2_with (go_at_call 41; refine (l01Digit_any _ _).mono ?_; rintro e w' ⟨rfl, rfl⟩)
                go_ret2
                exact ⟨ret_rd hbad.out.2.symm hbad.out.1.symm, Below.refl _ _⟩
              · have hdc : digC s[0] = true := by rw [← digI_nat]; exact hD
                have hdd := digC_iff.1 hdc
                have hst : Hid (pv s.data.toList (0 + 1) = 10 * pv s.data.toList 0 + (s[0].toNat - 48) ∧ okN s.data.toList (0 + 1) = true) := Lib.hid ⟨pv_step hg hp, by rw [okN_step hg hp, hok.out, hdc]; rfl⟩
                have hi1 : (48 : Int) ≤ (s[0].toNat : Int) := by omega
                have hi2 : (s[0].toNat : Int) ≤ 57 := by omega
                clear hg hp hdc hdd
                go_wp2_with (go_at_call 41; refine (l01Digit_any _ _).mono ?_; rintro e w' ⟨rfl, rfl⟩)
                go_round
                case rel => exact ⟨0 + 1, by omega, by go_num, int_eq (by have := hst.out.1; omega), Lib.hid hst.out.2⟩
                case measure => simp [intOf]; omega
            · have hmin := Lib.hid (pv_minus (l := s.data.toList) (by rw [hh.out]; congr 1; apply UInt8.toNat_inj.1; have := beq_iff_eq.1 hA; show _ = 45; omega))
              go_wp2_with fail
              go_round
              case rel => exact ⟨1, by omega, rfl, int_eq (by rw [hmin.out.1, pv_zero]), Lib.hid hmin.out.2⟩
              case measure => simp [intOf]; omega
          · have hkb : ((k : Int) == 0) = false := beq_eq_false_iff_ne.2 (by omega)
            have hg := list_get hlt
            have hp : pre s.data.toList ≤ k := by have := pre_le s.data.toList; omega
            cases hD : digI (s[k].toNat : Int)
            · have hbad : Hid (rdB s.data.toList = false ∧ rdR s.data.toList = 0) := Lib.hid (rd_bad (okN_mono (k := k + 1) (by rw [okN_step hg hp, ← digI_nat, hD]; simp) (by rw [list_len]; omega)))
              clear hg hp
              go_wp2_with (go_at_call 41; refine (l01Digit_any _ _).mono ?_; rintro e w' ⟨rfl, rfl⟩)
              go_ret2
              exact ⟨ret_rd hbad.out.2.symm hbad.out.1.symm, Below.refl _ _⟩
            · have hdc : digC s[k] = true := by rw [← digI_nat]; exact hD
              have hdd := digC_iff.1 hdc
              have hst : Hid (pv s.data.toList (k + 1) = 10 * pv s.data.toList k + (s[k].toNat - 48) ∧ okN s.data.toList (k + 1) = true) := Lib.hid ⟨pv_step hg hp, by rw [okN_step hg hp, hok.out, hdc]; rfl⟩
              have hi1 : (48 : Int) ≤ (s[k].toNat : Int) := by omega
              have hi2 : (s[k].toNat : Int) ≤ 57 := by omega
              clear hg hp hdc hdd
              go_wp2_with (go_at_call 41; refine (l01Digit_any _ _).mono ?_; rintro e w' ⟨rfl, rfl⟩)
              go_round
              case rel => exact ⟨k + 1, by omega, by go_num, int_eq (by have := hst.out.1; omega), Lib.hid hst.out.2⟩
              case measure => simp [intOf]; omega
        · obtain rfl : k = s.size := by omega
          cases hA : ((s[0].toNat : Int) == 45)
          · have hv : Hid (valS s.data.toList = (pv s.data.toList s.size : Int)) := Lib.hid (by unfold valS; rw [if_neg (by rw [hh.out]; intro e; injection e with e; rw [e] at hA; revert hA; decide), hlen.out])
            have hbnd : (pv s.data.toList s.size : Int) ≤ 9223372036854775807 ∧ -9223372036854775808 ≤ (pv s.data.toList s.size : Int) := by omega
            cases hI : inB (pv s.data.toList s.size : Int) (-1000000000) 1000000000
            · have hbad : Hid (rdB s.data.toList = false ∧ rdR s.data.toList = 0) := Lib.hid (rd_val (by rw [hv.out, hI]; rfl))
              go_wp2_with (first | (go_at_call 38; refine (l00In_any _ _ _ _).mono ?_; rintro e w' ⟨rfl, rfl⟩) | (go_at_call 15; fail))
              go_ret2
              exact ⟨ret_rd hbad.out.2.symm hbad.out.1.symm, Below.refl _ _⟩
            · by_cases hE : Lib.itoa (pv s.data.toList s.size : Int) = s.data.toList
              · have hgood : Hid (rdB s.data.toList = true ∧ rdR s.data.toList = (pv s.data.toList s.size : Int)) := Lib.hid (rd_of (n := (pv s.data.toList s.size : Int)) ⟨inB_iff.1 hI, hE⟩)
                have hne : (Lib.itoa (pv s.data.toList s.size : Int) == s.toList) = true := by rw [ByteArray.toList_eq]; exact beq_iff_eq.2 hE
                clear hE
                go_wp2_with (first | (go_at_call 38; refine (l00In_any _ _ _ _).mono ?_; rintro e w' ⟨rfl, rfl⟩) | (go_at_call 15; fail))
                refine (specDecimal_any _ _ hbnd.2 hbnd.1).mono ?_
                rintro e w1 ⟨rfl, hb1⟩
                go_wp2
                go_ret2
                exact ⟨ret_rd hgood.out.2.symm hgood.out.1.symm, hb1⟩
              · have hbad : Hid (rdB s.data.toList = false ∧ rdR s.data.toList = 0) := Lib.hid (rd_val (by rw [hv.out, hI, decide_eq_false hE]; rfl))
                have hne : (Lib.itoa (pv s.data.toList s.size : Int) == s.toList) = false := by rw [ByteArray.toList_eq]; exact beq_eq_false_iff_ne.2 hE
                clear hE
                go_wp2_with (first | (go_at_call 38; refine (l00In_any _ _ _ _).mono ?_; rintro e w' ⟨rfl, rfl⟩) | (go_at_call 15; fail))
                refine (specDecimal_any _ _ hbnd.2 hbnd.1).mono ?_
                rintro e w1 ⟨rfl, hb1⟩
                go_wp2
                go_ret2
                exact ⟨ret_rd hbad.out.2.symm hbad.out.1.symm, hb1⟩
          · have hv : Hid (valS s.data.toList = (-(pv s.data.toList s.size : Int))) := Lib.hid (by unfold valS; rw [if_pos (by rw [hh.out]; congr 1; apply UInt8.toNat_inj.1; have := beq_iff_eq.1 hA; show _ = 45; omega), hlen.out])
            have hbnd : (-(pv s.data.toList s.size : Int)) ≤ 9223372036854775807 ∧ -9223372036854775808 ≤ (-(pv s.data.toList s.size : Int)) := by omega
            cases hI : inB (-(pv s.data.toList s.size : Int)) (-1000000000) 1000000000
            · have hbad : Hid (rdB s.data.toList = false ∧ rdR s.data.toList = 0) := Lib.hid (rd_val (by rw [hv.out, hI]; rfl))
              go_wp2_with (first | (go_at_call 38; refine (l00In_any _ _ _ _).mono ?_; rintro e w' ⟨rfl, rfl⟩) | (go_at_call 15; fail))
              go_ret2
              exact ⟨ret_rd hbad.out.2.symm hbad.out.1.symm, Below.refl _ _⟩
            · by_cases hE : Lib.itoa (-(pv s.data.toList s.size : Int)) = s.data.toList
              · have hgood : Hid (rdB s.data.toList = true ∧ rdR s.data.toList = (-(pv s.data.toList s.size : Int))) := Lib.hid (rd_of (n := (-(pv s.data.toList s.size : Int))) ⟨inB_iff.1 hI, hE⟩)
                have hne : (Lib.itoa (-(pv s.data.toList s.size : Int)) == s.toList) = true := by rw [ByteArray.toList_eq]; exact beq_iff_eq.2 hE
                clear hE
                go_wp2_with (first | (go_at_call 38; refine (l00In_any _ _ _ _).mono ?_; rintro e w' ⟨rfl, rfl⟩) | (go_at_call 15; fail))
                refine (specDecimal_any _ _ hbnd.2 hbnd.1).mono ?_
                rintro e w1 ⟨rfl, hb1⟩
                go_wp2
                go_ret2
                exact ⟨ret_rd hgood.out.2.symm hgood.out.1.symm, hb1⟩
              · have hbad : Hid (rdB s.data.toList = false ∧ rdR s.data.toList = 0) := Lib.hid (rd_val (by rw [hv.out, hI, decide_eq_false hE]; rfl))
                have hne : (Lib.itoa (-(pv s.data.toList s.size : Int)) == s.toList) = false := by rw [ByteArray.toList_eq]; exact beq_eq_false_iff_ne.2 hE
                clear hE
                go_wp2_with (first | (go_at_call 38; refine (l00In_any _ _ _ _).mono ?_; rintro e w' ⟨rfl, rfl⟩) | (go_at_call 15; fail))
                refine (specDecimal_any _ _ hbnd.2 hbnd.1).mono ?_
                rintro e w1 ⟨rfl, hb1⟩
                go_wp2
                go_ret2
                exact ⟨ret_rd hbad.out.2.symm hbad.out.1.symm, hb1⟩
end Go.Proofs.YtmleplkamnihcaaDoor
