/-
  The words of a line, the model's and the program's: the same texts, in new memory. Conditions: the line is no longer than 2^20.
-/
import Derived.Test.YtggpmailkkpdaaaWrd
import Derived.Test.YtggpmailkkpdaaaShelfW
import Derived.Test.YtggpmailkkpdaaaStrs
import Derived.Maps.AppendAt
import Derived.Laws.OwnMore
namespace Go.Proofs.Ytggpmailkkpdaaa
open Go.RowKit

theorem info_str : (Try.prog.info? 9).map (fun i => (i.zero, i.size, i.bytes)) = some (some (.string ⟨#[]⟩), 1, 16) := by kernel_rfl
theorem ret_row {a b : Value} (h : a = b) : Ending.returned a = .returned b := by rw [h]
theorem sep_byte {s : ByteArray} {k : Nat} (h : k < s.size) (e : k = s.size ∨ s.data.toList[k]? = some 32) : (((s[k]).toNat : Int) == 32) = true := by
  rcases e with e | e
  · omega
  · rw [at_get h] at e
    rw [Option.some.inj e]
    rfl
theorem in_byte {s : ByteArray} {k : Nat} (h : k < s.size) (e : ¬ (k = s.size ∨ s.data.toList[k]? = some 32)) : (((s[k]).toNat : Int) == 32) = false := by
  rw [beq_eq_false_iff_ne]
  intro e2
  refine e (.inr ?_)
  rw [at_get h]
  have : (s[k]).toNat = 32 := by omega
  exact congrArg some (UInt8.toNat_inj.1 this)
set_option maxHeartbeats 2000000 in
set_option maxRecDepth 100000 in
theorem l05Words_any (s : ByteArray) (w : World) (hmax : s.size ≤ 1048576) :
    Calls Try.prog 61 #[.string s] w fun e w' => ∃ v, e = .returned v ∧ w'.ownsRow w.heap.size 9 1 v (wds s).length ((wds s).map Value.string) ∧ Below w.heap.size w w' := by
  obtain ⟨i0, hi, hz0, hz1, hz2⟩ := info_parts info_str
  go_enter Try.func61, Try.ntmps61
  go_wp2_with fail
  go_loopw [3, 4, 5] (fun out fr ix wr => ∃ (k : Nat), k ≤ s.size + 1 ∧ fr = .int .i64 ((wse s k).1.getD k) ∧ ix = .int .i64 k ∧
      wr.ownsRow w.heap.size 9 1 out (wse s k).2.length (exC s (wse s k).2) ∧ Below w.heap.size w wr)
    (fun _ _ ix _ => s.size + 1 - (intOf ix).toNat)
  case atStart =>
    exact ⟨0, Nat.zero_le _, rfl, rfl, World.ownsRow_lit w #[] 0 (Nat.le_refl _) (Nat.zero_le _) rfl, (Below.refl _ _).alloc (Nat.le_refl _) _⟩
  case round =>
    obtain ⟨k, hk, rfl, rfl, hown, hnx⟩ := hrel
    have hsz := hnx.size
    by_cases hend : k = s.size + 1
    · subst hend
      rw [wse_end] at hown
      have hn : ¬ ((s.size + 1 : Nat) : Int) ≤ (s.size : Int) := by omega
      go_wp2
      go_ret
      exact ⟨_, rfl, by rw [wds_size, ← exC_wds]; exact hown, hnx⟩
    · have hk2 : k ≤ s.size := by omega
      have hlen := wse_len s k hk2
      by_cases hsep : k = s.size ∨ s.data.toList[k]? = some 32
      · have E := Lib.hid (wse_sep hsep)
        cases hst : (wse s k).1 with
        | none =>
          have E2 : Hid (wse s (k + 1) = (none, (wse s k).2)) := Lib.hid (by rw [E.out]; simp [closeAt, hst])
          clear E
          rw [Option.getD_none]
          have hn : ¬ (k : Int) > (k : Int) := by omega
          by_cases hke : k = s.size
          · subst hke
            go_wp2_with fail
            go_roundw
            case rel => exact ⟨s.size + 1, by omega, by rw [E2.out]; go_num, by go_num, by rw [E2.out]; exact hown, hnx⟩
            case measure => first | (simp [intOf]; done) | (simp [intOf]; omega)
          · have hlt : k < s.size := by omega
            have hb := sep_byte hlt hsep
            go_wp2_with fail
            go_roundw
            case rel => exact ⟨k + 1, by omega, by rw [E2.out]; go_num, by go_num, by rw [E2.out]; exact hown, hnx⟩
            case measure => first | (simp [intOf]; done) | (simp [intOf]; omega)
        | some a =>
          have hak := wse_lt s k a hk2 hst
          have E2 : Hid (wse s (k + 1) = (none, (wse s k).2 ++ [(a, k)])) := Lib.hid (by rw [E.out]; simp [closeAt, hst])
          clear E
          rw [Option.getD_some]
          have ht : (k : Int) > (a : Int) := by omega
          by_cases hke : k = s.size
          · subst hke
            go_wp2_with (at_builtin; (refine wpList_append_own _ rfl (.tmp 26) (.tmp 31) 50 rfl w.heap.size 9 i0 (.string ⟨#[]⟩) 1 16 Try.underlying50 hi hz0 hz1 hz2 rfl (by decide) _ _ _ rfl (hown.alloc _) ⟨wr.heap.size, 0, none⟩ 1 1 [.string (s.extract a s.size)] rfl rfl (by intro j u hj; match j, hj with | 0, hj => simp at hj; subst hj; simp [Addr.add]) (by intro u hu; simp at hu; subst hu; rfl) (by unfold maxLen; omega) (by omega) (by simp; omega) ?_; intro v1 w1 hown1 hgrow1 hiff1))
            go_roundw
            case rel =>
              refine ⟨s.size + 1, by omega, by rw [E2.out]; go_num, by go_num, ?_, (hnx.alloc hsz _).grown hgrow1 (by simp; omega) (fun j hj => (hown.lt j hj).1)⟩
              rw [E2.out, List.length_append, exC_snoc]
              exact hown1
            case measure => first | (simp [intOf]; done) | (simp [intOf]; omega)
          · have hlt : k < s.size := by omega
            have hb := sep_byte hlt hsep
            go_wp2_with (at_builtin; (refine wpList_append_own _ rfl (.tmp 26) (.tmp 31) 50 rfl w.heap.size 9 i0 (.string ⟨#[]⟩) 1 16 Try.underlying50 hi hz0 hz1 hz2 rfl (by decide) _ _ _ rfl (hown.alloc _) ⟨wr.heap.size, 0, none⟩ 1 1 [.string (s.extract a k)] rfl rfl (by intro j u hj; match j, hj with | 0, hj => simp at hj; subst hj; simp [Addr.add]) (by intro u hu; simp at hu; subst hu; rfl) (by unfold maxLen; omega) (by omega) (by simp; omega) ?_; intro v1 w1 hown1 hgrow1 hiff1))
            go_roundw
            case rel =>
              refine ⟨k + 1, by omega, by rw [E2.out]; go_num, by go_num, ?_, (hnx.alloc hsz _).grown hgrow1 (by simp; omega) (fun j hj => (hown.lt j hj).1)⟩
              rw [E2.out, List.length_append, exC_snoc]
              exact hown1
            case measure => first | (simp [intOf]; done) | (simp [intOf]; omega)
      · have E := Lib.hid (wse_in hsep)
        have hlt : k < s.size := by omega
        have hb := in_byte hlt hsep
        have hke : ¬ (k : Int) = (s.size : Int) := by omega
        generalize hF : (wse s k).1.getD k = F at *
        clear hF
        go_wp2_with fail
        go_roundw
        case rel => exact ⟨k + 1, by omega, by rw [E.out, Option.getD_some], by go_num, by rw [E.out]; exact hown, hnx⟩
        case measure => first | (simp [intOf]; done) | (simp [intOf]; omega)

/-- A call that returns a list of texts in new memory. -/
def StrsPost (W : World) (xs : List ByteArray) (e : Ending) (w' : World) : Prop := ∃ v b, e = .returned v ∧ W.heap.size ≤ b ∧ OwnW w' b v xs
theorem specSplitWords_any (s : ByteArray) (w : World) (hmax : s.size ≤ 1048576) :
    Calls Try.prog 24 #[.string s] w fun e w' => StrsPost w (wds s) e w' ∧ Below w.heap.size w w' := by
  go_enter Try.func24, Try.ntmps24
  go_wp2_with fail
  refine (l05Words_any s _ hmax).mono ?_
  rintro e w1 ⟨v, rfl, hown, hb⟩
  obtain ⟨b, hb1, hb2⟩ := OwnW.of_row hown
  go_wp2
  go_ret
  exact ⟨⟨_, b, rfl, hb1, hb2⟩, hb⟩
/-- The program's question: is it a blank? -/
theorem blank_any (x : Nat) (w : World) : Calls Try.prog 63 #[encR x] w fun e w' => e = .returned (.bool (isBl x)) ∧ ∃ q, w' = w.drewN q := by
  have h : ((x : Int) == 32) = isBl x := by
    unfold isBl
    by_cases h : x = 32
    · subst h; rfl
    · rw [decide_eq_false h, beq_eq_false_iff_ne]; omega
  unfold encR
  go_enter Try.func63, Try.ntmps63
  go_wp2
  go_ret
  exact ⟨rfl, 0, rfl⟩
theorem implSplitWords_any (s : ByteArray) (w : World) (hmax : s.size ≤ 1048576) :
    Calls Try.prog 25 #[.string s] w fun e w' => StrsPost w (wds s) e w' ∧ Below w.heap.size w w' := by
  have eg : ∀ args w, (callFunc 63 args).run Try.prog w = .ok (.enter 63 args) w := enters_of Try.func63 (by kernel_rfl) rfl
  go_enter Try.func25, Try.ntmps25
  go_wp2_with fail
  refine (Try.strings_FieldsFunc 63 #[] eg isBl s _ (by omega) (fun W x _ => blank_any x W)).mono ?_
  rw [fields_wds]
  rintro e w1 ⟨g, rfl, hg, hown, hb⟩
  obtain ⟨b, hb1, hb2⟩ := OwnW.of_row hown
  go_wp2
  go_ret
  exact ⟨⟨_, b, rfl, hb1, hb2⟩, hb⟩

end Go.Proofs.Ytggpmailkkpdaaa
