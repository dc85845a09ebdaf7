/-
  The decimal form of a number, as the model writes it: the numeral of Go's library. Conditions: the number is an int64.
-/
import Derived.Test.YtlfobdnjjbhehaaDoorBase
import Derived.Lib.ItoaNum
import Derived.Lib.ItoaLen
import Derived.Laws.IdiomStrings
namespace Go.Proofs.YtlfobdnjjbhehaaDoor
open Go.RowKit

/-- The digits of u, none for 0: what the loop has still to write. -/
def digs (u : Nat) : List UInt8 := if u = 0 then [] else Lib.decDigits u
theorem digs_step {u : Nat} (h : u ≠ 0) : digs u = digs (u / 10) ++ [48 + UInt8.ofNat (u % 10)] := by
  have e : UInt8.ofNat (48 + u % 10) = 48 + UInt8.ofNat (u % 10) := by simp
  unfold digs
  rw [if_neg h, Lib.decDigits, ← e]
  split
  · rename_i h10
    rw [if_pos (by omega), Nat.mod_eq_of_lt h10]; rfl
  · rw [if_neg (by omega)]
/-- 'string([]byte{c})' of a digit. -/
theorem conv_digit (wr : World) (k : Nat) (hk : k < 10) (x : Int) (hx : x = 48 + (k : Int)) :
    (convert 22 9 (.slice (some ⟨wr.heap.size, 0, none⟩) 1 1)).run Tryd.prog (wr.alloc (.cells #[.int .u8 x] 5)) = .ok (.string ⟨#[48 + UInt8.ofNat k]⟩) (wr.alloc (.cells #[.int .u8 x] 5)) := by
  subst hx
  refine run_convert_bytes_back _ 22 9 5 ⟨wr.heap.size, 0, none⟩ 1 [48 + UInt8.ofNat k] Tryd.underlying22 Tryd.underlying5 Tryd.underlying9 ?_
  intro j hj
  obtain rfl : j = 0 := by simpa using hj
  simp [Addr.add]
  omega
theorem itoa_zero : Lib.itoa 0 = [48] := by unfold Lib.itoa; rw [if_neg (by omega)]; exact Lib.decDigits_one (by decide)
theorem ret_str {a b : ByteArray} (h : a = b) : Ending.returned (.string a) = .returned (.string b) := by rw [h]
theorem app_one (c : UInt8) (l : List UInt8) : (⟨#[c]⟩ : ByteArray) ++ ⟨l.toArray⟩ = ⟨(c :: l).toArray⟩ := by
  apply ByteArray.ext
  simp [ByteArray.data_append]

set_option maxHeartbeats 1000000 in
set_option maxRecDepth 100000 in
theorem specDecimal_pos (n : Nat) (w : World) (h2 : (n : Int) ≤ 9223372036854775807) :
    Calls Tryd.prog 24 #[.int .i64 n] w fun e w' => e = .returned (.string ⟨(Lib.itoa n).toArray⟩) ∧ Below w.heap.size w w' := by
  by_cases hn : n = 0
  · subst hn
    go_enter Tryd.func24, Tryd.ntmps24
    go_wp2
    go_loopw [3, 4] (fun o m wr => o = .string ⟨#[]⟩ ∧ m = .int .i64 0 ∧ wr = w) (fun _ m _ => (intOf m).toNat)
    case atStart => exact ⟨rfl, rfl, rfl⟩
    case round =>
      obtain ⟨rfl, rfl, rfl⟩ := hrel
      go_wp2
      go_ret
      exact ⟨ret_str (by rw [Int.natCast_zero, itoa_zero]), Below.refl _ _⟩
  · have hfin : Hid (Lib.itoa (n : Int) = digs n) := Lib.hid (by unfold Lib.itoa digs; rw [if_neg (by omega), if_neg hn, Int.toNat_natCast])
    have hlim : ∀ l : List UInt8, l.length ≤ (digs n).length → l.length ≤ 21 := fun l h => by have := Lib.itoa_length_le (n : Int) (by omega) (by omega); rw [hfin.out] at this; omega
    have hnb : ((n : Int) == 0) = false := beq_eq_false_iff_ne.2 (by omega)
    have hnl : ¬ (n : Int) < 0 := by omega
    go_enter Tryd.func24, Tryd.ntmps24
    go_wp2
    go_loopw [3, 4] (fun o m wr => ∃ (u : Nat) (l : List UInt8), o = .string ⟨l.toArray⟩ ∧ m = .int .i64 u ∧ u ≤ n ∧ Hid (digs u ++ l = digs n) ∧ Below w.heap.size w wr) (fun _ m _ => (intOf m).toNat)
    case atStart => exact ⟨n, [], rfl, rfl, Nat.le_refl _, Lib.hid (List.append_nil _), Below.refl _ _⟩
    case round =>
      obtain ⟨u, l, rfl, rfl, hu, hd, hb⟩ := hrel
      by_cases h0 : u = 0
      · subst h0
        go_wp2
        go_ret
        exact ⟨by rw [hfin.out, ← hd.out]; rfl, hb⟩
      · have hb0 : ((u : Int) != 0) = true := by rw [bne_iff_ne]; omega
        have hm0 : ¬ (u : Int) % 10 < 0 := by omega
        have hsz := hb.size
        have hcv := conv_digit wr (u % 10) (by omega) (48 + (u : Int) % 10) (by omega)
        have hst := Lib.hid (digs_step h0)
        have hlen : ¬ 9223372036854775807 < 1 + l.length := by have := hlim l (by rw [← hd.out]; simp); omega
        go_wp2
        refine ⟨⟨u / 10, (48 + UInt8.ofNat (u % 10)) :: l, by rw [app_one], by go_num, by omega, Lib.hid (by rw [← hd.out, hst.out]; simp), hb.alloc hsz _⟩, ?_⟩
        simp [intOf]; omega
set_option maxHeartbeats 1000000 in
set_option maxRecDepth 100000 in
theorem specDecimal_neg (n : Nat) (w : World) (h1 : 1 ≤ n) (h2 : (n : Int) ≤ 9223372036854775808) :
    Calls Tryd.prog 24 #[.int .i64 (-(n : Int))] w fun e w' => e = .returned (.string ⟨(Lib.itoa (-(n : Int))).toArray⟩) ∧ Below w.heap.size w w' := by
  have hfin : Hid (Lib.itoa (-(n : Int)) = 45 :: digs n) := Lib.hid (by unfold Lib.itoa digs; rw [if_pos (by omega), if_neg (by omega), Int.natAbs_neg, Int.natAbs_natCast])
  have hlim : ∀ l : List UInt8, l.length ≤ (digs n).length → l.length ≤ 21 := fun l h => by have := Lib.itoa_length_le (-(n : Int)) (by omega) (by omega); rw [hfin.out, List.length_cons] at this; omega
  have hnb : (-(n : Int) == 0) = false := beq_eq_false_iff_ne.2 (by omega)
  have hnl : -(n : Int) < 0 := by omega
  go_enter Tryd.func24, Tryd.ntmps24
  go_wp2
  go_loopw [3, 4] (fun o m wr => ∃ (u : Nat) (l : List UInt8), o = .string ⟨l.toArray⟩ ∧ m = .int .i64 (-(u : Int)) ∧ u ≤ n ∧ Hid (digs u ++ l = digs n) ∧ Below w.heap.size w wr) (fun _ m _ => (-(intOf m)).toNat)
  case atStart => exact ⟨n, [], rfl, rfl, Nat.le_refl _, Lib.hid (List.append_nil _), Below.refl _ _⟩
  case round =>
    obtain ⟨u, l, rfl, rfl, hu, hd, hb⟩ := hrel
    by_cases h0 : u = 0
    · subst h0
      have hlen : ¬ 9223372036854775807 < 1 + l.length := by have := hlim l (by rw [← hd.out]; simp); omega
      go_wp2
      go_ret
      exact ⟨ret_str (by rw [hfin.out, ← hd.out, app_one]; rfl), hb⟩
    · have hb0 : (-(u : Int) != 0) = true := by rw [bne_iff_ne]; omega
      have hsz := hb.size
      have hst := Lib.hid (digs_step h0)
      have hlen : ¬ 9223372036854775807 < 1 + l.length := by have := hlim l (by rw [← hd.out]; simp); omega
      have t2 : (-(u : Int)).tdiv 10 = -((u : Int) / 10) := by rw [Int.neg_tdiv, Int.tdiv_eq_ediv_of_nonneg (by omega)]
      by_cases hz : u % 10 = 0
      · have t1 : (-(u : Int)).tmod 10 = 0 := by rw [Int.neg_tmod, Int.tmod_eq_emod_of_nonneg (by omega)]; omega
        have hcv := conv_digit wr 0 (by omega) 48 (by omega)
        have hone : Hid (48 + UInt8.ofNat (u % 10) = 48) := Lib.hid (by rw [hz]; rfl)
        clear hz
        go_wp2
        refine ⟨⟨u / 10, 48 :: l, by rw [app_one], by go_num, by omega, Lib.hid (by rw [← hd.out, hst.out, hone.out]; simp), hb.alloc hsz _⟩, ?_⟩
        simp [intOf]; omega
      · have t1 : (-(u : Int)).tmod 10 = -((u : Int) % 10) := by rw [Int.neg_tmod, Int.tmod_eq_emod_of_nonneg (by omega)]
        have hm0 : -((u : Int) % 10) < 0 := by omega
        have hcv := conv_digit wr (u % 10) (by omega) (48 + (u : Int) % 10) (by omega)
        clear hz
        go_wp2
        refine ⟨⟨u / 10, (48 + UInt8.ofNat (u % 10)) :: l, by rw [app_one], by go_num, by omega, Lib.hid (by rw [← hd.out, hst.out]; simp), hb.alloc hsz _⟩, ?_⟩
        simp [intOf]; omega

theorem specDecimal_any (n : Int) (w : World) (h1 : -9223372036854775808 ≤ n) (h2 : n ≤ 9223372036854775807) :
    Calls Tryd.prog 24 #[.int .i64 n] w fun e w' => e = .returned (.string ⟨(Lib.itoa n).toArray⟩) ∧ Below w.heap.size w w' := by
  by_cases h0 : n < 0
  · obtain ⟨k, hk⟩ := Int.eq_ofNat_of_zero_le (show 0 ≤ -n by omega)
    obtain rfl : n = -(k : Int) := by omega
    exact specDecimal_neg k w (by omega) (by omega)
  · obtain ⟨k, rfl⟩ := Int.eq_ofNat_of_zero_le (show 0 ≤ n by omega)
    exact specDecimal_pos k w h2
end Go.Proofs.YtlfobdnjjbhehaaDoor
