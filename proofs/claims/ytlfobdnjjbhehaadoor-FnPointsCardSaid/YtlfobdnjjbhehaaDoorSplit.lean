/-
  Cutting a text at each byte of one kind: the loop of the drawn text. Conditions: the text is no longer than 2^20.
-/
import Derived.Test.YtlfobdnjjbhehaaDoorRead5
import Derived.Test.YtlfobdnjjbhehaaDoorShelfC
import Derived.WalkKit
namespace Go.Proofs.YtlfobdnjjbhehaaDoor
open Go.RowKit

/-- The pieces so far, and where the next begins. -/
def sp (s : ByteArray) : Nat → List ByteArray × Nat
  | 0 => ([], 0)
  | k + 1 => if s.data.toList[k]? = some 44 then ((sp s k).1 ++ [s.extract (sp s k).2 k], k + 1) else sp s k
theorem sp_le (s : ByteArray) (k : Nat) : (sp s k).2 ≤ k ∧ (sp s k).1.length ≤ k := by
  induction k with
  | zero => simp [sp]
  | succ k ih => unfold sp; split <;> (try simp) <;> omega
def pcs (s : ByteArray) : List ByteArray := (sp s s.size).1 ++ [s.extract (sp s s.size).2 s.size]
theorem infoStr : (Tryd.prog.info? 9).map (fun i => (i.zero, i.size, i.bytes)) = some (some (.string ⟨#[]⟩), 1, 16) := by kernel_rfl
theorem sp_hit {s : ByteArray} {k : Nat} (h : k < s.size) (e : (((s[k]).toNat : Int) == 44) = true) : sp s (k + 1) = ((sp s k).1 ++ [s.extract (sp s k).2 k], k + 1) := by
  have h1 : s[k] = 44 := UInt8.toNat_inj.1 (by have h2 : ((s[k]).toNat : Int) = 44 := by simpa using e
                                               have h3 : (s[k]).toNat = 44 := by omega
                                               rw [h3]; rfl)
  rw [sp, list_get h, h1, if_pos rfl]
theorem sp_miss {s : ByteArray} {k : Nat} (h : k < s.size) (e : (((s[k]).toNat : Int) == 44) = false) : sp s (k + 1) = sp s k := by
  have h1 : ¬ s[k] = 44 := fun h2 => by rw [h2] at e; exact absurd e (by decide)
  rw [sp, list_get h, if_neg (fun h2 => h1 (Option.some.inj h2))]

end Go.Proofs.YtlfobdnjjbhehaaDoor
