/-
  What the model's IsName and the program's return: the same function of the text. Conditions: each theorem's own.
-/
import Derived.Test.YtnofbeeihdgmdaaDoorBase
namespace Go.Proofs.YtnofbeeihdgmdaaDoor
open Go.RowKit

def letB (c : Int) : Bool := (decide (97 ≤ c) && decide (c ≤ 122)) || (decide (65 ≤ c) && decide (c ≤ 90))
def digB (c : Int) : Bool := decide (48 ≤ c) && decide (c ≤ 57)
def okB (c : UInt8) : Bool := letB (c.toNat : Int) || digB (c.toNat : Int) || ((c.toNat : Int) == 95)
/-- A name: 1 to 12 bytes, a letter, then letters, digits and underscores. -/
def nameL : List UInt8 → Bool
  | [] => false
  | c :: l => decide (l.length ≤ 11) && (letB (c.toNat : Int) && l.all okB)
def nameB (s : ByteArray) : Bool := nameL s.data.toList
theorem size_list (s : ByteArray) : s.data.toList.length = s.size := by rw [Array.length_toList]; rfl
theorem list_drop {s : ByteArray} {k : Nat} (h : k < s.size) : s.data.toList.drop k = s[k] :: s.data.toList.drop (k + 1) := by
  have hl : k < s.data.toList.length := by rw [size_list]; exact h
  rw [List.drop_eq_getElem_cons hl]
  rfl
theorem list_cons {s : ByteArray} (h : 0 < s.size) : s.data.toList = s[0] :: s.data.toList.drop 1 := by
  have h := list_drop (k := 0) h
  rwa [List.drop_zero] at h
theorem all_step {s : ByteArray} {k : Nat} (h : k < s.size) : (s.data.toList.drop k).all okB = (okB s[k] && (s.data.toList.drop (k + 1)).all okB) := by
  rw [list_drop h]; rfl
theorem all_end {s : ByteArray} {k : Nat} (h : s.size ≤ k) : (s.data.toList.drop k).all okB = true := by
  rw [List.drop_eq_nil_of_le (by rw [size_list]; exact h)]; rfl
theorem nameB_short {s : ByteArray} (h : s.size < 1) : nameB s = false := by
  have : s.data.toList = [] := List.eq_nil_of_length_eq_zero (by rw [size_list]; omega)
  unfold nameB; rw [this]; rfl
theorem nameB_eq {s : ByteArray} (h : 0 < s.size) : nameB s = (decide (s.size ≤ 12) && (letB (s[0].toNat : Int) && (s.data.toList.drop 1).all okB)) := by
  have hl := size_list s
  have e : (s.data.toList.drop 1).length = s.size - 1 := by rw [List.length_drop, hl]
  have e1 : nameB s = nameL (s[0] :: s.data.toList.drop 1) := by unfold nameB; rw [← list_cons h]
  have e2 : decide (s.size - 1 ≤ 11) = decide (s.size ≤ 12) := decide_eq_decide.2 (by omega)
  rw [e1]
  show (decide ((s.data.toList.drop 1).length ≤ 11) && _) = _
  rw [e, e2]
theorem nameB_long {s : ByteArray} (h : 12 < s.size) : nameB s = false := by
  rw [nameB_eq (by omega), decide_eq_false (by omega)]; rfl
theorem nameB_first {s : ByteArray} (h : 0 < s.size) (h3 : letB (s[0].toNat : Int) = false) : nameB s = false := by
  rw [nameB_eq h, h3]; simp
theorem nameB_rest {s : ByteArray} (h : 0 < s.size) (h2 : s.size ≤ 12) (h3 : letB (s[0].toNat : Int) = true) : nameB s = (s.data.toList.drop 1).all okB := by
  rw [nameB_eq h, h3, decide_eq_true h2]; simp

theorem l01Letter_any (c : Int) (w : World) : Calls Tryd.prog 115 #[.int .u8 c] w fun e w' => e = .returned (.bool (letB c)) ∧ w = w' := by
  by_cases h1 : 97 ≤ c
  all_goals by_cases h2 : c ≤ 122
  all_goals by_cases h3 : 65 ≤ c
  all_goals by_cases h4 : c ≤ 90
  all_goals try (exfalso; omega)
  all_goals
    have K : Hid (letB c = ((decide (97 ≤ c) && decide (c ≤ 122)) || (decide (65 ≤ c) && decide (c ≤ 90)))) := Lib.hid rfl
    go_enter Tryd.func115, Tryd.ntmps115
    go_wp2
    go_ret
    exact ⟨ret_bool (by rw [K.out]; simp [*]), rfl⟩

theorem l01Digit_any (c : Int) (w : World) : Calls Tryd.prog 116 #[.int .u8 c] w fun e w' => e = .returned (.bool (digB c)) ∧ w = w' := by
  by_cases h1 : 48 ≤ c
  all_goals by_cases h2 : c ≤ 57
  all_goals try (exfalso; omega)
  all_goals
    have K : Hid (digB c = (decide (48 ≤ c) && decide (c ≤ 57))) := Lib.hid rfl
    go_enter Tryd.func116, Tryd.ntmps116
    go_wp2
    go_ret
    exact ⟨ret_bool (by rw [K.out]; simp [*]), rfl⟩

theorem isLetter_any (c : Int) (w : World) : Calls Tryd.prog 124 #[.int .u8 c] w fun e w' => e = .returned (.bool (letB c)) ∧ w = w' := by
  by_cases h1 : 97 ≤ c
  all_goals by_cases h2 : c ≤ 122
  all_goals by_cases h3 : 65 ≤ c
  all_goals by_cases h4 : c ≤ 90
  all_goals try (exfalso; omega)
  all_goals
    have K : Hid (letB c = ((decide (97 ≤ c) && decide (c ≤ 122)) || (decide (65 ≤ c) && decide (c ≤ 90)))) := Lib.hid rfl
    go_enter Tryd.func124, Tryd.ntmps124
    go_wp2
    go_ret
    exact ⟨ret_bool (by rw [K.out]; simp [*]), rfl⟩

theorem isDigit_any (c : Int) (w : World) : Calls Tryd.prog 125 #[.int .u8 c] w fun e w' => e = .returned (.bool (digB c)) ∧ w = w' := by
  by_cases h1 : 48 ≤ c
  all_goals by_cases h2 : c ≤ 57
  all_goals try (exfalso; omega)
  all_goals
    have K : Hid (digB c = (decide (48 ≤ c) && decide (c ≤ 57))) := Lib.hid rfl
    go_enter Tryd.func125, Tryd.ntmps125
    go_wp2
    go_ret
    exact ⟨ret_bool (by rw [K.out]; simp [*]), rfl⟩

set_option maxHeartbeats 1000000 in
theorem specName_any (s : ByteArray) (w : World) (hs : s.size ≤ 9223372036854775807) : Calls Tryd.prog 98 #[.string s] w fun e w' => e = .returned (.bool (nameB s)) ∧ w = w' := by
  by_cases h1 : s.size < 1
  · have K : Hid (nameB s = false) := Lib.hid (nameB_short h1)
    have h1' : (s.size : Int) < 1 := by omega
    go_enter Tryd.func98, Tryd.ntmps98
    go_wp2
    go_ret
    exact ⟨ret_bool (by rw [K.out]), rfl⟩
  · by_cases h2 : 12 < s.size
    · have K : Hid (nameB s = false) := Lib.hid (nameB_long h2)
      have h2' : (12 : Int) < s.size := by omega
      go_enter Tryd.func98, Tryd.ntmps98
      go_wp2
      go_ret
      exact ⟨ret_bool (by rw [K.out]), rfl⟩
    · have h0 : 0 < s.size := by omega
      cases h3 : letB (s[0].toNat : Int)
      · have K : Hid (nameB s = false) := Lib.hid (nameB_first h0 h3)
        go_enter Tryd.func98, Tryd.ntmps98
        go_wp2_with (go_at_call 115; refine (l01Letter_any _ _).mono ?_; rintro e w' ⟨rfl, rfl⟩)
        go_ret
        exact ⟨ret_bool (by rw [K.out]), rfl⟩
      · have K : Hid (nameB s = (s.data.toList.drop 1).all okB) := Lib.hid (nameB_rest h0 (by omega) h3)
        go_enter Tryd.func98, Tryd.ntmps98
        go_wp2_with (go_at_call 115; refine (l01Letter_any _ _).mono ?_; rintro e w' ⟨rfl, rfl⟩)
        clear h3
        go_loop [3] (fun i => ∃ k : Nat, 1 ≤ k ∧ k ≤ s.size ∧ i = .int .i64 k ∧ Hid ((s.data.toList.drop k).all okB = (s.data.toList.drop 1).all okB)) (fun i => s.size - (intOf i).toNat)
        case atStart => exact ⟨1, by omega, by omega, rfl, Lib.hid rfl⟩
        case round =>
          obtain ⟨k, hk1, hk2, rfl, hall⟩ := hrel
          by_cases hlt : k < s.size
          · have hst := Lib.hid (all_step hlt)
            cases hL : letB (s[k].toNat : Int)
            · cases hD : digB (s[k].toNat : Int)
              · cases hU : ((s[k].toNat : Int) == 95)
                · have hno : Hid (okB s[k] = false) := Lib.hid (by unfold okB; rw [hL, hD, hU]; rfl)
                  have hU2 : ((s[k].toNat : Int) != 95) = true := by rw [bne, hU]; rfl
                  go_wp2_with (first | (go_at_call 115; refine (l01Letter_any _ _).mono ?_; rintro e w' ⟨rfl, rfl⟩) | (go_at_call 116; refine (l01Digit_any _ _).mono ?_; rintro e w' ⟨rfl, rfl⟩))
                  go_ret
                  exact ⟨ret_bool (by rw [K.out, ← hall.out, hst.out, hno.out]; rfl), rfl⟩
                · have hok : Hid (okB s[k] = true) := Lib.hid (by unfold okB; rw [hL, hD, hU]; rfl)
                  have hU2 : ((s[k].toNat : Int) != 95) = false := by rw [bne, hU]; rfl
                  go_wp2_with (first | (go_at_call 115; refine (l01Letter_any _ _).mono ?_; rintro e w' ⟨rfl, rfl⟩) | (go_at_call 116; refine (l01Digit_any _ _).mono ?_; rintro e w' ⟨rfl, rfl⟩))
                  go_round
                  case rel => exact ⟨k + 1, by omega, by omega, by go_num, Lib.hid (by rw [← hall.out, hst.out, hok.out, Bool.true_and])⟩
                  case measure => simp [intOf]; omega
              · have hok : Hid (okB s[k] = true) := Lib.hid (by unfold okB; rw [hL, hD]; rfl)
                go_wp2_with (first | (go_at_call 115; refine (l01Letter_any _ _).mono ?_; rintro e w' ⟨rfl, rfl⟩) | (go_at_call 116; refine (l01Digit_any _ _).mono ?_; rintro e w' ⟨rfl, rfl⟩))
                go_round
                case rel => exact ⟨k + 1, by omega, by omega, by go_num, Lib.hid (by rw [← hall.out, hst.out, hok.out, Bool.true_and])⟩
                case measure => simp [intOf]; omega
            · have hok : Hid (okB s[k] = true) := Lib.hid (by unfold okB; rw [hL]; rfl)
              go_wp2_with (first | (go_at_call 115; refine (l01Letter_any _ _).mono ?_; rintro e w' ⟨rfl, rfl⟩) | (go_at_call 116; refine (l01Digit_any _ _).mono ?_; rintro e w' ⟨rfl, rfl⟩))
              go_round
              case rel => exact ⟨k + 1, by omega, by omega, by go_num, Lib.hid (by rw [← hall.out, hst.out, hok.out, Bool.true_and])⟩
              case measure => simp [intOf]; omega
          · have hend : Hid ((s.data.toList.drop k).all okB = true) := Lib.hid (all_end (by omega))
            obtain rfl : k = s.size := by omega
            go_wp2
            go_ret
            exact ⟨ret_bool (by rw [K.out, ← hall.out, hend.out]), rfl⟩

set_option maxHeartbeats 1000000 in
theorem implName_any (s : ByteArray) (w : World) (hs : s.size ≤ 9223372036854775807) : Calls Tryd.prog 119 #[.string s] w fun e w' => e = .returned (.bool (nameB s)) ∧ w = w' := by
  by_cases h1 : s.size < 1
  · have K : Hid (nameB s = false) := Lib.hid (nameB_short h1)
    have h1' : (s.size : Int) < 1 := by omega
    go_enter Tryd.func119, Tryd.ntmps119
    go_wp2
    go_ret
    exact ⟨ret_bool (by rw [K.out]), rfl⟩
  · by_cases h2 : 12 < s.size
    · have K : Hid (nameB s = false) := Lib.hid (nameB_long h2)
      have h2' : (12 : Int) < s.size := by omega
      go_enter Tryd.func119, Tryd.ntmps119
      go_wp2
      go_ret
      exact ⟨ret_bool (by rw [K.out]), rfl⟩
    · have h0 : 0 < s.size := by omega
      cases h3 : letB (s[0].toNat : Int)
      · have K : Hid (nameB s = false) := Lib.hid (nameB_first h0 h3)
        go_enter Tryd.func119, Tryd.ntmps119
        go_wp2_with (go_at_call 124; refine (isLetter_any _ _).mono ?_; rintro e w' ⟨rfl, rfl⟩)
        go_ret
        exact ⟨ret_bool (by rw [K.out]), rfl⟩
      · have K : Hid (nameB s = (s.data.toList.drop 1).all okB) := Lib.hid (nameB_rest h0 (by omega) h3)
        go_enter Tryd.func119, Tryd.ntmps119
        go_wp2_with (go_at_call 124; refine (isLetter_any _ _).mono ?_; rintro e w' ⟨rfl, rfl⟩)
        clear h3
        go_loop [3] (fun i => ∃ k : Nat, 1 ≤ k ∧ k ≤ s.size ∧ i = .int .i64 k ∧ Hid ((s.data.toList.drop k).all okB = (s.data.toList.drop 1).all okB)) (fun i => s.size - (intOf i).toNat)
        case atStart => exact ⟨1, by omega, by omega, rfl, Lib.hid rfl⟩
        case round =>
          obtain ⟨k, hk1, hk2, rfl, hall⟩ := hrel
          by_cases hlt : k < s.size
          · have hst := Lib.hid (all_step hlt)
            cases hL : letB (s[k].toNat : Int)
            · cases hD : digB (s[k].toNat : Int)
              · cases hU : ((s[k].toNat : Int) == 95)
                · have hno : Hid (okB s[k] = false) := Lib.hid (by unfold okB; rw [hL, hD, hU]; rfl)
                  have hU2 : ((s[k].toNat : Int) != 95) = true := by rw [bne, hU]; rfl
                  go_wp2_with (first | (go_at_call 124; refine (isLetter_any _ _).mono ?_; rintro e w' ⟨rfl, rfl⟩) | (go_at_call 125; refine (isDigit_any _ _).mono ?_; rintro e w' ⟨rfl, rfl⟩))
                  go_ret
                  exact ⟨ret_bool (by rw [K.out, ← hall.out, hst.out, hno.out]; rfl), rfl⟩
                · have hok : Hid (okB s[k] = true) := Lib.hid (by unfold okB; rw [hL, hD, hU]; rfl)
                  have hU2 : ((s[k].toNat : Int) != 95) = false := by rw [bne, hU]; rfl
                  go_wp2_with (first | (go_at_call 124; refine (isLetter_any _ _).mono ?_; rintro e w' ⟨rfl, rfl⟩) | (go_at_call 125; refine (isDigit_any _ _).mono ?_; rintro e w' ⟨rfl, rfl⟩))
                  go_round
                  case rel => exact ⟨k + 1, by omega, by omega, by go_num, Lib.hid (by rw [← hall.out, hst.out, hok.out, Bool.true_and])⟩
                  case measure => simp [intOf]; omega
              · have hok : Hid (okB s[k] = true) := Lib.hid (by unfold okB; rw [hL, hD]; rfl)
                go_wp2_with (first | (go_at_call 124; refine (isLetter_any _ _).mono ?_; rintro e w' ⟨rfl, rfl⟩) | (go_at_call 125; refine (isDigit_any _ _).mono ?_; rintro e w' ⟨rfl, rfl⟩))
                go_round
                case rel => exact ⟨k + 1, by omega, by omega, by go_num, Lib.hid (by rw [← hall.out, hst.out, hok.out, Bool.true_and])⟩
                case measure => simp [intOf]; omega
            · have hok : Hid (okB s[k] = true) := Lib.hid (by unfold okB; rw [hL]; rfl)
              go_wp2_with (first | (go_at_call 124; refine (isLetter_any _ _).mono ?_; rintro e w' ⟨rfl, rfl⟩) | (go_at_call 125; refine (isDigit_any _ _).mono ?_; rintro e w' ⟨rfl, rfl⟩))
              go_round
              case rel => exact ⟨k + 1, by omega, by omega, by go_num, Lib.hid (by rw [← hall.out, hst.out, hok.out, Bool.true_and])⟩
              case measure => simp [intOf]; omega
          · have hend : Hid ((s.data.toList.drop k).all okB = true) := Lib.hid (all_end (by omega))
            obtain rfl : k = s.size := by omega
            go_wp2
            go_ret
            exact ⟨ret_bool (by rw [K.out, ← hall.out, hend.out]), rfl⟩

end Go.Proofs.YtnofbeeihdgmdaaDoor
