/-
  For every string, IsName of the program answers as the model's; the law FnExactIsName returns true and leaves its argument as it was. Conditions: none.
-/
import Derived.Test.YtmleplkamnihcaaBase
namespace Go.Proofs.Ytmleplkamnihcaa
open Go.RowKit

def letB (c : Int) : Bool := (decide (97 ≤ c) && decide (c ≤ 122)) || (decide (65 ≤ c) && decide (c ≤ 90))
def digB (c : Int) : Bool := decide (48 ≤ c) && decide (c ≤ 57)
def okB (c : UInt8) : Bool := letB (c.toNat : Int) || digB (c.toNat : Int) || ((c.toNat : Int) == 95)
/-- A name: 1 to 12 bytes, a letter, then letters, digits and underscores. -/
def nameL : List UInt8 → Bool
  | [] => false
  | c :: l => decide (l.length ≤ 11) && (letB (c.toNat : Int) && l.all okB)
def nameB (s : ByteArray) : Bool := nameL s.data.toList
theorem size_list (s : ByteArray) : s.data.toList.length = s.size := by rw [Array.length_toList]; rfl
theorem list_drop {s : ByteArray} {k : Nat} (h : k < s.size) : s.data.toList.drop k = s[k] :: s.data.toList.drop (k + 1) := by
  have hl : k < s.data.toList.length := by rw [size_list]; exact h
  rw [List.drop_eq_getElem_cons hl]
  rfl
theorem list_cons {s : ByteArray} (h : 0 < s.size) : s.data.toList = s[0] :: s.data.toList.drop 1 := by
  have h := list_drop (k := 0) h
  rwa [List.drop_zero] at h
theorem all_step {s : ByteArray} {k : Nat} (h : k < s.size) : (s.data.toList.drop k).all okB = (okB s[k] && (s.data.toList.drop (k + 1)).all okB) := by
  rw [list_drop h]; rfl
theorem all_end {s : ByteArray} {k : Nat} (h : s.size ≤ k) : (s.data.toList.drop k).all okB = true := by
  rw [List.drop_eq_nil_of_le (by rw [size_list]; exact h)]; rfl
theorem nameB_short {s : ByteArray} (h : s.size < 1) : nameB s = false := by
  have : s.data.toList = [] := List.eq_nil_of_length_eq_zero (by rw [size_list]; omega)
  unfold nameB; rw [this]; rfl
theorem nameB_eq {s : ByteArray} (h : 0 < s.size) : nameB s = (decide (s.size ≤ 12) && (letB (s[0].toNat : Int) && (s.data.toList.drop 1).all okB)) := by
  have hl := size_list s
  have e : (s.data.toList.drop 1).length = s.size - 1 := by rw [List.length_drop, hl]
  have e1 : nameB s = nameL (s[0] :: s.data.toList.drop 1) := by unfold nameB; rw [← list_cons h]
  have e2 : decide (s.size - 1 ≤ 11) = decide (s.size ≤ 12) := decide_eq_decide.2 (by omega)
  rw [e1]
  show (decide ((s.data.toList.drop 1).length ≤ 11) && _) = _
  rw [e, e2]
theorem nameB_long {s : ByteArray} (h : 12 < s.size) : nameB s = false := by
  rw [nameB_eq (by omega), decide_eq_false (by omega)]; rfl
theorem nameB_first {s : ByteArray} (h : 0 < s.size) (h3 : letB (s[0].toNat : Int) = false) : nameB s = false := by
  rw [nameB_eq h, h3]; simp
theorem nameB_rest {s : ByteArray} (h : 0 < s.size) (h2 : s.size ≤ 12) (h3 : letB (s[0].toNat : Int) = true) : nameB s = (s.data.toList.drop 1).all okB := by
  rw [nameB_eq h, h3, decide_eq_true h2]; simp

theorem l01Letter_any (c : Int) (w : World) : Calls Try.prog 39 #[.int .u8 c] w fun e w' => e = .returned (.bool (letB c)) ∧ w = w' := by
  by_cases h1 : 97 ≤ c
  all_goals by_cases h2 : c ≤ 122
  all_goals by_cases h3 : 65 ≤ c
  all_goals by_cases h4 : c ≤ 90
  all_goals try (exfalso; omega)
  all_goals
    have K : Hid (letB c = ((decide (97 ≤ c) && decide (c ≤ 122)) || (decide (65 ≤ c) && decide (c ≤ 90)))) := Lib.hid rfl
    go_enter Try.func39, Try.ntmps39
    go_wp2
    go_ret
    exact ⟨ret_bool (by rw [K.out]; simp [*]), rfl⟩

theorem l01Digit_any (c : Int) (w : World) : Calls Try.prog 40 #[.int .u8 c] w fun e w' => e = .returned (.bool (digB c)) ∧ w = w' := by
  by_cases h1 : 48 ≤ c
  all_goals by_cases h2 : c ≤ 57
  all_goals try (exfalso; omega)
  all_goals
    have K : Hid (digB c = (decide (48 ≤ c) && decide (c ≤ 57))) := Lib.hid rfl
    go_enter Try.func40, Try.ntmps40
    go_wp2
    go_ret
    exact ⟨ret_bool (by rw [K.out]; simp [*]), rfl⟩

theorem isLetter_any (c : Int) (w : World) : Calls Try.prog 41 #[.int .u8 c] w fun e w' => e = .returned (.bool (letB c)) ∧ w = w' := by
  by_cases h1 : 97 ≤ c
  all_goals by_cases h2 : c ≤ 122
  all_goals by_cases h3 : 65 ≤ c
  all_goals by_cases h4 : c ≤ 90
  all_goals try (exfalso; omega)
  all_goals
    have K : Hid (letB c = ((decide (97 ≤ c) && decide (c ≤ 122)) || (decide (65 ≤ c) && decide (c ≤ 90)))) := Lib.hid rfl
    go_enter Try.func41, Try.ntmps41
    go_wp2
    go_ret
    exact ⟨ret_bool (by rw [K.out]; simp [*]), rfl⟩

theorem isDigit_any (c : Int) (w : World) : Calls Try.prog 42 #[.int .u8 c] w fun e w' => e = .returned (.bool (digB c)) ∧ w = w' := by
  by_cases h1 : 48 ≤ c
  all_goals by_cases h2 : c ≤ 57
  all_goals try (exfalso; omega)
  all_goals
    have K : Hid (digB c = (decide (48 ≤ c) && decide (c ≤ 57))) := Lib.hid rfl
    go_enter Try.func42, Try.ntmps42
    go_wp2
    go_ret
    exact ⟨ret_bool (by rw [K.out]; simp [*]), rfl⟩

set_option maxHeartbeats 1000000 in
theorem specName_any (s : ByteArray) (w : World) (hs : s.size ≤ 9223372036854775807) : Calls Try.prog 14 #[.string s] w fun e w' => e = .returned (.bool (nameB s)) ∧ w = w' := by
  by_cases h1 : s.size < 1
  · have K : Hid (nameB s = false) := Lib.hid (nameB_short h1)
    have h1' : (s.size : Int) < 1 := by omega
    go_enter Try.func14, Try.ntmps14
    go_wp2
    go_ret
    exact ⟨ret_bool (by rw [K.out]), rfl⟩
  · by_cases h2 : 12 < s.size
    · have K : Hid (nameB s = false) := Lib.hid (nameB_long h2)
      have h2' : (12 : Int) < s.size := by omega
      go_enter Try.func14, Try.ntmps14
      go_wp2
      go_ret
      exact ⟨ret_bool (by rw [K.out]), rfl⟩
    · have h0 : 0 < s.size := by omega
      cases h3 : letB (s[0].toNat : Int)
      · have K : Hid (nameB s = false) := Lib.hid (nameB_first h0 h3)
        go_enter Try.func14, Try.ntmps14
        go_wp2_with (go_at_call 39; refine (l01Letter_any _ _).mono ?_; rintro e w' ⟨rfl, rfl⟩)
        go_ret
        exact ⟨ret_bool (by rw [K.out]), rfl⟩
      · have K : Hid (nameB s = (s.data.toList.drop 1).all okB) := Lib.hid (nameB_rest h0 (by omega) h3)
        go_enter Try.func14, Try.ntmps14
        go_wp2_with (go_at_call 39; refine (l01Letter_any _ _).mono ?_; rintro e w' ⟨rfl, rfl⟩)
        clear h3
        go_loop [3] (fun i => ∃ k : Nat, 1 ≤ k ∧ k ≤ s.size ∧ i = .int .i64 k ∧ Hid ((s.data.toList.drop k).all okB = (s.data.toList.drop 1).all okB)) (fun i => s.size - (intOf i).toNat)
        case atStart => exact ⟨1, by omega, by omega, rfl, Lib.hid rfl⟩
        case round =>
          obtain ⟨k, hk1, hk2, rfl, hall⟩ := hrel
          by_cases hlt : k < s.size
          · have hst := Lib.hid (all_step hlt)
            cases hL : letB (s[k].toNat : Int)
            · cases hD : digB (s[k].toNat : Int)
              · cases hU : ((s[k].toNat : Int) == 95)
                · have hno : Hid (okB s[k] = false) := Lib.hid (by unfold okB; rw [hL, hD, hU]; rfl)
                  have hU2 : ((s[k].toNat : Int) != 95) = true := by rw [bne, hU]; rfl
                  go_wp2_with (first | (go_at_call 39; refine (l01Letter_any _ _).mono ?_; rintro e w' ⟨rfl, rfl⟩) | (go_at_call 40; refine (l01Digit_any _ _).mono ?_; rintro e w' ⟨rfl, rfl⟩))
                  go_ret
                  exact ⟨ret_bool (by rw [K.out, ← hall.out, hst.out, hno.out]; rfl), rfl⟩
                · have hok : Hid (okB s[k] = true) := Lib.hid (by unfold okB; rw [hL, hD, hU]; rfl)
                  have hU2 : ((s[k].toNat : Int) != 95) = false := by rw [bne, hU]; rfl
                  go_wp2_with (first | (go_at_call 39; refine (l01Letter_any _ _).mono ?_; rintro e w' ⟨rfl, rfl⟩) | (go_at_call 40; refine (l01Digit_any _ _).mono ?_; rintro e w' ⟨rfl, rfl⟩))
                  go_round
                  case rel => exact ⟨k + 1, by omega, by omega, by go_num, Lib.hid (by rw [← hall.out, hst.out, hok.out, Bool.true_and])⟩
                  case measure => simp [intOf]; omega
              · have hok : Hid (okB s[k] = true) := Lib.hid (by unfold okB; rw [hL, hD]; rfl)
                go_wp2_with (first | (go_at_call 39; refine (l01Letter_any _ _).mono ?_; rintro e w' ⟨rfl, rfl⟩) | (go_at_call 40; refine (l01Digit_any _ _).mono ?_; rintro e w' ⟨rfl, rfl⟩))
                go_round
                case rel => exact ⟨k + 1, by omega, by omega, by go_num, Lib.hid (by rw [← hall.out, hst.out, hok.out, Bool.true_and])⟩
                case measure => simp [intOf]; omega
            · have hok : Hid (okB s[k] = true) := Lib.hid (by unfold okB; rw [hL]; rfl)
              go_wp2_with (first | (go_at_call 39; refine (l01Letter_any _ _).mono ?_; rintro e w' ⟨rfl, rfl⟩) | (go_at_call 40; refine (l01Digit_any _ _).mono ?_; rintro e w' ⟨rfl, rfl⟩))
              go_round
              case rel => exact ⟨k + 1, by omega, by omega, by go_num, Lib.hid (by rw [← hall.out, hst.out, hok.out, Bool.true_and])⟩
              case measure => simp [intOf]; omega
          · have hend : Hid ((s.data.toList.drop k).all okB = true) := Lib.hid (all_end (by omega))
            obtain rfl : k = s.size := by omega
            go_wp2
            go_ret
            exact ⟨ret_bool (by rw [K.out, ← hall.out, hend.out]), rfl⟩

set_option maxHeartbeats 1000000 in
theorem implName_any (s : ByteArray) (w : World) (hs : s.size ≤ 9223372036854775807) : Calls Try.prog 15 #[.string s] w fun e w' => e = .returned (.bool (nameB s)) ∧ w = w' := by
  by_cases h1 : s.size < 1
  · have K : Hid (nameB s = false) := Lib.hid (nameB_short h1)
    have h1' : (s.size : Int) < 1 := by omega
    go_enter Try.func15, Try.ntmps15
    go_wp2
    go_ret
    exact ⟨ret_bool (by rw [K.out]), rfl⟩
  · by_cases h2 : 12 < s.size
    · have K : Hid (nameB s = false) := Lib.hid (nameB_long h2)
      have h2' : (12 : Int) < s.size := by omega
      go_enter Try.func15, Try.ntmps15
      go_wp2
      go_ret
      exact ⟨ret_bool (by rw [K.out]), rfl⟩
    · have h0 : 0 < s.size := by omega
      cases h3 : letB (s[0].toNat : Int)
      · have K : Hid (nameB s = false) := Lib.hid (nameB_first h0 h3)
        go_enter Try.func15, Try.ntmps15
        go_wp2_with (go_at_call 41; refine (isLetter_any _ _).mono ?_; rintro e w' ⟨rfl, rfl⟩)
        go_ret
        exact ⟨ret_bool (by rw [K.out]), rfl⟩
      · have K : Hid (nameB s = (s.data.toList.drop 1).all okB) := Lib.hid (nameB_rest h0 (by omega) h3)
        go_enter Try.func15, Try.ntmps15
        go_wp2_with (go_at_call 41; refine (isLetter_any _ _).mono ?_; rintro e w' ⟨rfl, rfl⟩)
        clear h3
        go_loop [3] (fun i => ∃ k : Nat, 1 ≤ k ∧ k ≤ s.size ∧ i = .int .i64 k ∧ Hid ((s.data.toList.drop k).all okB = (s.data.toList.drop 1).all okB)) (fun i => s.size - (intOf i).toNat)
        case atStart => exact ⟨1, by omega, by omega, rfl, Lib.hid rfl⟩
        case round =>
          obtain ⟨k, hk1, hk2, rfl, hall⟩ := hrel
          by_cases hlt : k < s.size
          · have hst := Lib.hid (all_step hlt)
            cases hL : letB (s[k].toNat : Int)
            · cases hD : digB (s[k].toNat : Int)
              · cases hU : ((s[k].toNat : Int) == 95)
                · have hno : Hid (okB s[k] = false) := Lib.hid (by unfold okB; rw [hL, hD, hU]; rfl)
                  have hU2 : ((s[k].toNat : Int) != 95) = true := by rw [bne, hU]; rfl
                  go_wp2_with (first | (go_at_call 41; refine (isLetter_any _ _).mono ?_; rintro e w' ⟨rfl, rfl⟩) | (go_at_call 42; refine (isDigit_any _ _).mono ?_; rintro e w' ⟨rfl, rfl⟩))
                  go_ret
                  exact ⟨ret_bool (by rw [K.out, ← hall.out, hst.out, hno.out]; rfl), rfl⟩
                · have hok : Hid (okB s[k] = true) := Lib.hid (by unfold okB; rw [hL, hD, hU]; rfl)
                  have hU2 : ((s[k].toNat : Int) != 95) = false := by rw [bne, hU]; rfl
                  go_wp2_with (first | (go_at_call 41; refine (isLetter_any _ _).mono ?_; rintro e w' ⟨rfl, rfl⟩) | (go_at_call 42; refine (isDigit_any _ _).mono ?_; rintro e w' ⟨rfl, rfl⟩))
                  go_round
                  case rel => exact ⟨k + 1, by omega, by omega, by go_num, Lib.hid (by rw [← hall.out, hst.out, hok.out, Bool.true_and])⟩
                  case measure => simp [intOf]; omega
              · have hok : Hid (okB s[k] = true) := Lib.hid (by unfold okB; rw [hL, hD]; rfl)
                go_wp2_with (first | (go_at_call 41; refine (isLetter_any _ _).mono ?_; rintro e w' ⟨rfl, rfl⟩) | (go_at_call 42; refine (isDigit_any _ _).mono ?_; rintro e w' ⟨rfl, rfl⟩))
                go_round
                case rel => exact ⟨k + 1, by omega, by omega, by go_num, Lib.hid (by rw [← hall.out, hst.out, hok.out, Bool.true_and])⟩
                case measure => simp [intOf]; omega
            · have hok : Hid (okB s[k] = true) := Lib.hid (by unfold okB; rw [hL]; rfl)
              go_wp2_with (first | (go_at_call 41; refine (isLetter_any _ _).mono ?_; rintro e w' ⟨rfl, rfl⟩) | (go_at_call 42; refine (isDigit_any _ _).mono ?_; rintro e w' ⟨rfl, rfl⟩))
              go_round
              case rel => exact ⟨k + 1, by omega, by omega, by go_num, Lib.hid (by rw [← hall.out, hst.out, hok.out, Bool.true_and])⟩
              case measure => simp [intOf]; omega
          · have hend : Hid ((s.data.toList.drop k).all okB = true) := Lib.hid (all_end (by omega))
            obtain rfl : k = s.size := by omega
            go_wp2
            go_ret
            exact ⟨ret_bool (by rw [K.out, ← hall.out, hend.out]), rfl⟩

theorem walk_FnExactIsName (s : ByteArray) (ws : s.size ≤ maxLen) (w : World) :
    Calls Try.prog 3 #[.string s] w fun e w' => e = .returned (.bool true) ∧ Below w.heap.size w w' := by
  unfold maxLen at ws
  by_cases h : 1048576 < s.size
  · have h' : (1048576 : Int) < s.size := by omega
    go_enter Try.func3, Try.ntmps3
    go_wp2
    go_ret
    exact ⟨rfl, Below.refl _ _⟩
  · have h' : ¬ (1048576 : Int) < s.size := by omega
    go_enter Try.func3, Try.ntmps3
    go_wp2_with (first | (go_at_call 14; refine (specName_any _ _ (by omega)).mono ?_; rintro e w' ⟨rfl, rfl⟩) | (go_at_call 15; refine (implName_any _ _ (by omega)).mono ?_; rintro e w' ⟨rfl, rfl⟩))
    go_ret
    exact ⟨rfl, Below.refl _ _⟩

namespace fnExactIsName
open Go.ChangeShapes Go.WideShapes Go.ChangeAt Go.RowKit Go.Joins
open Go.ChangeMaps (open_string shut_string)
theorem own : ownKnob Try.prog.godebug = none := by kernel_rfl
set_option linter.unusedVariables false in
theorem contract (H : Type) (enc : TypeId × Value → H) (W : World) (base : Nat) (args : Array Value) (ds gs : List (DataW H)) (before : List MemPlace)
    (hval : ∀ (j : Nat) t v, Try.f3.params[j]? = some t → args[j]? = some v → Value.okWide Try.prog W .any base t v)
    (hW : DataW.Whole enc Try.prog Try.f3.params.toList Rows.fnExactIsNameSpec.vars false W args.toList ds gs before) :
    Calls Try.prog 3 args W fun e W' => ∃ v, e = .returned v ∧ Rows.fnExactIsNameSpec.post enc Try.prog Try.f3 false true false false W args v W' := by
  have hW' := hW
  obtain ⟨p, q, hA0, hV, rfl, hfz, hnd⟩ := hW
  have hA : DataW.TrodAll enc Try.prog W 0 (fun _ => true) true Try.f3.params.toList args.toList ds p := hA0
  rw [Try.params3] at hA hval
  obtain ⟨v0, vs0, d0, ds0, p0, q0, ha0, rfl, rfl, h0, r0⟩ := trodAll_cons hA
  obtain ⟨rfl, rfl, rfl⟩ := trodAll_nil r0
  obtain rfl : args = #[v0] := by cases args; simp_all
  obtain ⟨rfl, rfl⟩ := trodVars_none hV
  obtain ⟨s0, rfl, rfl, rfl, w0⟩ := open_string Try.underlying9 (hval 0 9 v0 rfl rfl) h0
  clear hA0
  simp only [List.append_nil] at hW'
  refine (walk_FnExactIsName s0 w0 W).mono fun e W' ⟨he, hg⟩ => ?_
  subst he
  exact ⟨_, rfl, post_law (pa := []) (pv := []) hW' (fun _ _ _ => (trodAll_cons_mk (shut_bool Try.underlying4 _) trodAll_mk0)) (fun sp _ => (trodAll_cons_mk (shut_string Try.underlying9 w0) trodAll_mk0)) (fun _ _ => rfl) rfl hg⟩
set_option maxRecDepth 100000 in
theorem lifted (os : Os) (started : os.Started) (H : Type) (enc : TypeId × Value → H) :
    ReturnsInHanded {} Try.checked os 3 .any (Rows.fnExactIsNameSpec.pre6 enc Try.prog Try.f3 Rows.fnExactIsNameRow.domain false) (Rows.fnExactIsNameSpec.post enc Try.prog Try.f3 false true false false) := by
  refine returnsInHanded_of_change (C := Try.checked) own started (by kernel_rfl) Try.func3
    (ChangeSpec.witness6 (enc := enc) (C := Try.checked) false ⟨#[], #[.string ⟨#[]⟩], []⟩ 8 (by kernel_rfl) (by kernel_rfl) (by kernel_rfl) (by kernel_rfl)) ?_
  intro W base args ds gs before hval hW _ _
  exact contract H enc W base args ds gs before hval hW
end fnExactIsName
theorem fnExactIsName_holds : Rows.FnExactIsNameSaid :=
  OpenClaim.holds_of_wide 3 Try.f3 rfl rfl rfl rfl rfl rfl rfl ⟨rfl, rfl, rfl, rfl, rfl⟩ rfl rfl rfl rfl rfl (by kernel_rfl) Try.func3 (by kernel_rfl)
    (of_decide_eq_true (by kernel_rfl)) (by unfold Func.isWrapper; first | (rw [if_pos (by decide +kernel)]; kernel_rfl) | (rw [if_neg (by decide +kernel)]; exact ⟨rfl, rfl⟩))
    (fun os started H enc _ => fnExactIsName.lifted os started H enc)
end Go.Proofs.Ytmleplkamnihcaa
