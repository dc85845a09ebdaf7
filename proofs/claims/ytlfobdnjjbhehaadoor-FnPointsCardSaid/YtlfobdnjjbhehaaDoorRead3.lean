/-
  ReadDecimal, the model's: what it returns for every string. Conditions: the string is no longer than a slice may be.
-/
import Derived.Test.YtlfobdnjjbhehaaDoorRead2
import Derived.Test.YtlfobdnjjbhehaaDoorDecI
namespace Go.Proofs.YtlfobdnjjbhehaaDoor
open Go.RowKit

def digI (c : Int) : Bool := decide (48 ≤ c) && decide (c ≤ 57)
theorem digI_nat (c : UInt8) : digI (c.toNat : Int) = digC c := by
  unfold digI digC
  rw [show decide ((48 : Int) ≤ (c.toNat : Int)) = decide (48 ≤ c.toNat) from decide_eq_decide.2 (by omega), show decide ((c.toNat : Int) ≤ 57) = decide (c.toNat ≤ 57) from decide_eq_decide.2 (by omega)]
theorem ret_rd {a x : Int} {b y : Bool} (h : a = x) (k : b = y) : Ending.returned (.tuple #[.int .i64 a, .bool b]) = .returned (.tuple #[.int .i64 x, .bool y]) := by rw [h, k]

theorem rd_bad {l : List UInt8} (h : okN l l.length = false) : rdB l = false ∧ rdR l = 0 := by
  have hb : rdB l = false := by unfold rdB; rw [h]; simp
  exact ⟨hb, by unfold rdR; rw [hb]; rfl⟩
theorem rd_val {l : List UInt8} (h : (inB (valS l) (-1000000000) 1000000000 && decide (Lib.itoa (valS l) = l)) = false) : rdB l = false ∧ rdR l = 0 := by
  have hb : rdB l = false := by unfold rdB; rw [h]; simp
  exact ⟨hb, by unfold rdR; rw [hb]; rfl⟩
theorem int_eq {a b : Int} (h : a = b) : Value.int .i64 a = .int .i64 b := by rw [h]
theorem arr_eq (s : ByteArray) : (⟨s.data.toList.toArray⟩ : ByteArray) = s := by cases s; simp

end Go.Proofs.YtlfobdnjjbhehaaDoor
