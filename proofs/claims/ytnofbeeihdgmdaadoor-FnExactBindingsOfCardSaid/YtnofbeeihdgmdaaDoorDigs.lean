/-
  The digits of a number, one after another, as a loop writes them. Conditions: each lemma's own.
-/
import Derived.Test.YtnofbeeihdgmdaaDoorBase
import Derived.Lib.ItoaNum
import Derived.Lib.ItoaLen
import Derived.Laws.IdiomStrings
namespace Go.Proofs.YtnofbeeihdgmdaaDoor
open Go.RowKit

/-- The digits of u, none for 0: what the loop has still to write. -/
def digs (u : Nat) : List UInt8 := if u = 0 then [] else Lib.decDigits u
theorem digs_step {u : Nat} (h : u ≠ 0) : digs u = digs (u / 10) ++ [48 + UInt8.ofNat (u % 10)] := by
  have e : UInt8.ofNat (48 + u % 10) = 48 + UInt8.ofNat (u % 10) := by simp
  unfold digs
  rw [if_neg h, Lib.decDigits, ← e]
  split
  · rename_i h10
    rw [if_pos (by omega), Nat.mod_eq_of_lt h10]; rfl
  · rw [if_neg (by omega)]
/-- 'string([]byte{c})' of a digit. -/
theorem conv_digit (wr : World) (k : Nat) (hk : k < 10) (x : Int) (hx : x = 48 + (k : Int)) :
    (convert 157 9 (.slice (some ⟨wr.heap.size, 0, none⟩) 1 1)).run Tryd.prog (wr.alloc (.cells #[.int .u8 x] 5)) = .ok (.string ⟨#[48 + UInt8.ofNat k]⟩) (wr.alloc (.cells #[.int .u8 x] 5)) := by
  subst hx
  refine run_convert_bytes_back _ 157 9 5 ⟨wr.heap.size, 0, none⟩ 1 [48 + UInt8.ofNat k] Tryd.underlying157 Tryd.underlying5 Tryd.underlying9 ?_
  intro j hj
  obtain rfl : j = 0 := by simpa using hj
  simp [Addr.add]
  omega
theorem itoa_zero : Lib.itoa 0 = [48] := by unfold Lib.itoa; rw [if_neg (by omega)]; exact Lib.decDigits_one (by decide)
theorem ret_str {a b : ByteArray} (h : a = b) : Ending.returned (.string a) = .returned (.string b) := by rw [h]
theorem app_one (c : UInt8) (l : List UInt8) : (⟨#[c]⟩ : ByteArray) ++ ⟨l.toArray⟩ = ⟨(c :: l).toArray⟩ := by
  apply ByteArray.ext
  simp [ByteArray.data_append]

end Go.Proofs.YtnofbeeihdgmdaaDoor
