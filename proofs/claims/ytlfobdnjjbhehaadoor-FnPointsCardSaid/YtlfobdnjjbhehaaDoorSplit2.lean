/-
  The pieces of a text against its first cut: the model's reading of a point is the program's. Conditions: none.
-/
import Derived.Test.YtlfobdnjjbhehaaDoorRead5
import Derived.Test.YtlfobdnjjbhehaaDoorSplit
import Derived.Test.YtlfobdnjjbhehaaDoorPoint
import Derived.Lib.Split
namespace Go.Proofs.YtlfobdnjjbhehaaDoor
open Go.RowKit

def cl (s : ByteArray) : List UInt8 := (Lib.cut s.data.toList [44]).1
def cr (s : ByteArray) : List UInt8 := (Lib.cut s.data.toList [44]).2.1
def rpB (s : ByteArray) : Bool := rdB (cl s) && (rdB (cr s) && ptB (rdR (cl s)) (rdR (cr s)))
def rpX (s : ByteArray) : Int := if rpB s = true then rdR (cl s) else 0
def rpY (s : ByteArray) : Int := if rpB s = true then rdR (cr s) else 0

theorem rd_comma {l : List UInt8} (h : rdB l = true) (k : Nat) : l[k]? ≠ some 44 := by
  intro hk
  have ho : okN l l.length = true := by
    unfold rdB at h
    simp only [Bool.and_eq_true] at h
    exact h.2.2.1
  unfold okN at ho
  rw [List.take_of_length_le (Nat.le_refl _), List.all_eq_true] at ho
  by_cases hp : pre l ≤ k
  · have h1 : (l.drop (pre l))[k - pre l]? = some 44 := by rw [List.getElem?_drop, show pre l + (k - pre l) = k by omega]; exact hk
    exact absurd (ho 44 (List.mem_of_getElem? h1)) (by decide)
  · have h2 := pre_le l
    have h0 : k = 0 := by omega
    subst h0
    unfold pre at hp
    split at hp
    · rename_i h45
      rw [List.head?_eq_getElem?, hk] at h45
      exact absurd h45 (by decide)
    · omega

theorem sp_same {s : ByteArray} {k : Nat} : ∀ m, k ≤ m → (∀ j, k ≤ j → j < m → s.data.toList[j]? ≠ some 44) → sp s m = sp s k
  | 0, h, _ => by rw [show k = 0 by omega]
  | m + 1, h, hno => by
    by_cases e : k = m + 1
    · rw [e]
    · rw [sp, if_neg (hno m (by omega) (by omega))]
      exact sp_same m (by omega) fun j h1 h2 => hno j h1 (by omega)
theorem sp_up {s : ByteArray} {k : Nat} : ∀ m, k ≤ m → (sp s k).1.length ≤ (sp s m).1.length
  | 0, h => by rw [show k = 0 by omega]; exact Nat.le_refl _
  | m + 1, h => by
    by_cases e : k = m + 1
    · rw [e]; exact Nat.le_refl _
    · have := sp_up (s := s) m (show k ≤ m by omega)
      rw [sp]
      split
      · rw [List.length_append]; omega
      · exact this

theorem split_cut (s : ByteArray) : (∃ a b, pcs s = [a, b] ∧ a.data.toList = cl s ∧ b.data.toList = cr s) ∨ ((pcs s).length ≠ 2 ∧ rdB (cr s) = false) := by
  have hge := Lib.indexByte_ge s.data.toList 44
  have hio := Lib.index_one s.data.toList 44
  have hlen := list_len s
  by_cases hn : Lib.indexByte s.data.toList 44 = -1
  · right
    have hno := Lib.indexByte_none hn
    have e : sp s s.size = ([], 0) := sp_same (k := 0) s.size (Nat.zero_le _) fun j _ _ => hno j
    have ec : cr s = [] := by unfold cr Lib.cut; rw [hio, hn]; rfl
    refine ⟨by unfold pcs; rw [e]; simp, ?_⟩
    rw [ec]; rfl
  · obtain ⟨i, hi⟩ : ∃ i : Nat, Lib.indexByte s.data.toList 44 = i := ⟨(Lib.indexByte s.data.toList 44).toNat, by omega⟩
    obtain ⟨h44, hbef⟩ := Lib.indexByte_some hi
    have hil : i < s.size := by
      rw [← hlen]
      exact (List.getElem?_eq_some_iff.1 h44).1
    have ec : cl s = s.data.toList.take i ∧ cr s = s.data.toList.drop (i + 1) := by
      unfold cl cr Lib.cut
      rw [hio, hi, if_pos (by omega)]
      exact ⟨rfl, rfl⟩
    have e0 : sp s i = ([], 0) := sp_same (k := 0) i (Nat.zero_le _) fun j _ hj => hbef j hj
    have e1 : sp s (i + 1) = ([s.extract 0 i], i + 1) := by rw [sp, if_pos h44, e0]; rfl
    by_cases hc : ∀ j, i + 1 ≤ j → j < s.size → s.data.toList[j]? ≠ some 44
    · left
      have e2 : sp s s.size = ([s.extract 0 i], i + 1) := (sp_same s.size (by omega) hc).trans e1
      refine ⟨s.extract 0 i, s.extract (i + 1) s.size, by unfold pcs; rw [e2]; rfl, ?_, ?_⟩
      · rw [ec.1]; exact Lib.extract_from_zero s i
      · rw [ec.2]; exact Lib.extract_to_end s (i + 1)
    · right
      simp only [Classical.not_forall, Classical.not_not] at hc
      obtain ⟨j, hj1, hj2, hj⟩ := hc
      have h1 := sp_up (s := s) j hj1
      have h2 := sp_up (s := s) s.size (show j + 1 ≤ s.size by omega)
      rw [e1] at h1
      have h3 : (sp s (j + 1)).1.length = (sp s j).1.length + 1 := by rw [sp, if_pos hj, List.length_append]; rfl
      refine ⟨?_, ?_⟩
      · unfold pcs
        rw [List.length_append]
        simp at h1 ⊢
        omega
      · by_cases hb : rdB (cr s) = true
        · refine absurd ?_ (rd_comma hb (j - (i + 1)))
          rw [ec.2, List.getElem?_drop, show i + 1 + (j - (i + 1)) = j by omega]
          exact hj
        · simpa using hb
end Go.Proofs.YtlfobdnjjbhehaaDoor
