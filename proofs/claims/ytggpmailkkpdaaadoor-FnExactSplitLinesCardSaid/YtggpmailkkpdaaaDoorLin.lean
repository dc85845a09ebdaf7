/-
  The lines of a text: cutting at each byte of a kind, as the library cuts and as the model does. Conditions: each lemma's own.
-/
import Derived.Lib.SplitLaws
import Derived.Lib.IndexLaws
import Derived.Lib.CutLaws
namespace Go.Proofs.YtggpmailkkpdaaaDoor
open Go.Lib

/-- The pieces so far, and where the next begins. -/
def spc (c : UInt8) (s : ByteArray) : Nat → List ByteArray × Nat
  | 0 => ([], 0)
  | k + 1 => if s.data.toList[k]? = some c then ((spc c s k).1 ++ [s.extract (spc c s k).2 k], k + 1) else spc c s k
theorem spc_le (c : UInt8) (s : ByteArray) (k : Nat) : (spc c s k).2 ≤ k ∧ (spc c s k).1.length ≤ k := by
  induction k with
  | zero => simp [spc]
  | succ k ih => unfold spc; split <;> (try simp) <;> omega
def pcc (c : UInt8) (s : ByteArray) : List ByteArray := (spc c s s.size).1 ++ [s.extract (spc c s s.size).2 s.size]
theorem spc_same {c : UInt8} {s : ByteArray} {k : Nat} : ∀ m, k ≤ m → (∀ j, k ≤ j → j < m → s.data.toList[j]? ≠ some c) → spc c s m = spc c s k
  | 0, h, _ => by rw [show k = 0 by omega]
  | m + 1, h, hno => by
    by_cases e : k = m + 1
    · rw [e]
    · rw [spc, if_neg (hno m (by omega) (by omega))]
      exact spc_same m (by omega) fun j h1 h2 => hno j h1 (by omega)
theorem ext_full (s : ByteArray) : s.extract 0 s.size = s := by
  apply ByteArray.ext
  apply Array.toList_inj.1
  rw [extract_data, List.drop_zero, Nat.sub_zero, List.take_of_length_le (by rw [size_eq]; exact Nat.le_refl _)]
/-- The rest behind the first piece. -/
theorem spc_tail {c : UInt8} {s : ByteArray} {i : Nat} (hi : s.data.toList[i]? = some c) (hb : ∀ j, j < i → s.data.toList[j]? ≠ some c) : ∀ k, k ≤ (s.extract (i + 1) s.size).size →
    spc c s (i + 1 + k) = (s.extract 0 i :: (spc c (s.extract (i + 1) s.size) k).1, i + 1 + (spc c (s.extract (i + 1) s.size) k).2)
  | 0, _ => by
    have e0 : spc c s i = ([], 0) := spc_same (k := 0) i (Nat.zero_le _) fun j _ hj => hb j hj
    have e1 : spc c s (i + 1) = ((spc c s i).1 ++ [s.extract (spc c s i).2 i], i + 1) := by rw [spc, if_pos hi]
    rw [e0] at e1
    exact e1
  | k + 1, hk => by
    have ih := spc_tail hi hb k (by omega)
    have hg : (s.extract (i + 1) s.size).data.toList[k]? = s.data.toList[i + 1 + k]? := by
      rw [extract_to_end, List.getElem?_drop]
    have hle := (spc_le c (s.extract (i + 1) s.size) k).1
    show spc c s (i + 1 + k + 1) = _
    rw [spc, ih, spc, hg]
    split
    · rw [List.cons_append]
      have hx : s.extract (i + 1 + (spc c (s.extract (i + 1) s.size) k).2) (i + 1 + k) = (s.extract (i + 1) s.size).extract (spc c (s.extract (i + 1) s.size) k).2 k := by
        apply ByteArray.ext
        apply Array.toList_inj.1
        rw [extract_data, extract_data, extract_to_end, List.drop_drop]
        congr 1
        omega
      rw [← hx]
      rfl
    · rfl
theorem pcc_none {c : UInt8} {s : ByteArray} (h : ∀ j : Nat, s.data.toList[j]? ≠ some c) : pcc c s = [s] := by
  have e0 : spc c s s.size = ([], 0) := spc_same (k := 0) s.size (Nat.zero_le _) fun j _ _ => h j
  unfold pcc
  rw [e0]
  simp
theorem size_tail (s : ByteArray) (i : Nat) (h : i < s.size) : (s.extract (i + 1) s.size).size + (i + 1) = s.size := by
  rw [size_eq, extract_to_end, List.length_drop, ← size_eq]; omega
theorem pcc_some {c : UInt8} {s : ByteArray} {i : Nat} (hi : s.data.toList[i]? = some c) (hb : ∀ j, j < i → s.data.toList[j]? ≠ some c) : pcc c s = s.extract 0 i :: pcc c (s.extract (i + 1) s.size) := by
  have hlt : i < s.size := by rw [size_eq]; exact (List.getElem?_eq_some_iff.1 hi).1
  have hz := size_tail s i hlt
  have e := spc_tail hi hb (s.extract (i + 1) s.size).size (Nat.le_refl _)
  rw [show i + 1 + (s.extract (i + 1) s.size).size = s.size by omega] at e
  have hle := (spc_le c (s.extract (i + 1) s.size) (s.extract (i + 1) s.size).size).1
  have hx : s.extract (i + 1 + (spc c (s.extract (i + 1) s.size) (s.extract (i + 1) s.size).size).2) s.size = (s.extract (i + 1) s.size).extract (spc c (s.extract (i + 1) s.size) (s.extract (i + 1) s.size).size).2 (s.extract (i + 1) s.size).size := by
    apply ByteArray.ext
    apply Array.toList_inj.1
    rw [extract_data, extract_data, extract_to_end, List.drop_drop]
    congr 1
    omega
  unfold pcc
  rw [e, hx]
  rfl
theorem one_idx {c : UInt8} {s : ByteArray} : indexB s ⟨#[c]⟩ = indexByte s.data.toList c := index_one s.data.toList c
theorem split_pcc (c : UInt8) : ∀ (n : Nat) (s : ByteArray), s.size ≤ n → splitB ⟨#[c]⟩ 0 (countB s ⟨#[c]⟩) s = pcc c s
  | n, s, hn => by
    have hge := indexByte_ge s.data.toList c
    by_cases h : indexByte s.data.toList c = -1
    · rw [splitB_miss _ _ _ _ (one_idx.trans h), pcc_none (indexByte_none h)]
    · obtain ⟨i, hi⟩ : ∃ i : Nat, indexByte s.data.toList c = i := ⟨(indexByte s.data.toList c).toNat, by omega⟩
      obtain ⟨h1, h2⟩ := indexByte_some hi
      have hlt : i < s.size := by rw [size_eq]; exact (List.getElem?_eq_some_iff.1 h1).1
      have hz := size_tail s i hlt
      rw [countB_hit s ⟨#[c]⟩ i (Nat.le_refl _) (one_idx.trans hi), Nat.add_comm 1, splitB_hit _ _ _ _ _ (one_idx.trans hi), pcc_some h1 h2]
      match n, hn with
      | 0, hn => omega
      | n + 1, hn => exact congrArg _ (split_pcc c n _ (by show (s.extract (i + 1) s.size).size ≤ n; omega))
/-- The text without the newline at its end. -/
def trimN (s : ByteArray) : ByteArray := ⟨(trimSuffix s.data.toList [10]).toArray⟩
/-- The lines of a text. -/
def lns (s : ByteArray) : List ByteArray := if s.size = 0 then [] else pcc 10 (trimN s)
theorem spc_pre {c : UInt8} {s : ByteArray} {n : Nat} (hn : n ≤ s.size) : ∀ k, k ≤ n → spc c (s.extract 0 n) k = spc c s k
  | 0, _ => rfl
  | k + 1, hk => by
    have ih := spc_pre (c := c) hn k (by omega)
    have hg : (s.extract 0 n).data.toList[k]? = s.data.toList[k]? := by
      rw [extract_from_zero, List.getElem?_take, if_pos (by omega)]
    have hle := (spc_le c s k).1
    have hx : (s.extract 0 n).extract (spc c s k).2 k = s.extract (spc c s k).2 k := by
      apply ByteArray.ext
      apply Array.toList_inj.1
      rw [extract_data, extract_data, extract_data, List.drop_zero, List.drop_take, List.take_take]
      congr 1
      omega
    rw [spc, spc, hg, ih, hx]
theorem size_pre (s : ByteArray) (n : Nat) (h : n ≤ s.size) : (s.extract 0 n).size = n := by
  rw [size_eq, extract_from_zero, List.length_take, ← size_eq]; omega
theorem ext_self (s : ByteArray) (n : Nat) : s.extract n n = ⟨#[]⟩ := by
  apply ByteArray.ext
  apply Array.toList_inj.1
  rw [extract_data, Nat.sub_self, List.take_zero]
/-- A text that ends with the byte: the last piece is empty. -/
theorem pcc_end {c : UInt8} {s : ByteArray} {n : Nat} (hn : s.size = n + 1) (h : s.data.toList[n]? = some c) : pcc c s = pcc c (s.extract 0 n) ++ [⟨#[]⟩] := by
  have e1 : spc c s (n + 1) = ((spc c s n).1 ++ [s.extract (spc c s n).2 n], n + 1) := by rw [spc, if_pos h]
  have e2 := spc_pre (c := c) (s := s) (n := n) (by omega) n (Nat.le_refl _)
  have hx : (s.extract 0 n).extract (spc c s n).2 n = s.extract (spc c s n).2 n := by
    apply ByteArray.ext
    apply Array.toList_inj.1
    rw [extract_data, extract_data, extract_data, List.drop_zero, List.drop_take, List.take_take]
    congr 1
    omega
  unfold pcc
  rw [size_pre s n (by omega), hn, e1, e2, hx]
  dsimp only
  rw [ext_self]
/-- .. and one that does not: it is not. -/
theorem pcc_last {c : UInt8} {s : ByteArray} {n : Nat} (hn : s.size = n + 1) (h : s.data.toList[n]? ≠ some c) : ∃ l x, pcc c s = l ++ [x] ∧ 0 < x.size := by
  have e1 : spc c s (n + 1) = spc c s n := by rw [spc, if_neg h]
  have hle := (spc_le c s n).1
  refine ⟨_, _, rfl, ?_⟩
  rw [hn, e1, size_eq, extract_data, List.length_take, List.length_drop, ← size_eq]
  omega
theorem trim_yes {s : ByteArray} {n : Nat} (hn : s.size = n + 1) (h : s.data.toList[n]? = some 10) : trimN s = s.extract 0 n := by
  have hl : s.data.toList.length = n + 1 := by rw [← size_eq]; exact hn
  have hs : hasSuffix s.data.toList [10] = true := by
    rw [← hasSuffix_of_drop, hl]
    have : s.data.toList.drop n = [10] := by
      rw [List.drop_eq_getElem_cons (by omega : n < s.data.toList.length)]
      rw [List.getElem?_eq_getElem (by omega)] at h
      rw [Option.some.inj h, List.drop_eq_nil_of_le (by omega)]
    simp [this]
  apply ByteArray.ext
  apply Array.toList_inj.1
  show (trimSuffix s.data.toList [10]).toArray.toList = _
  rw [extract_from_zero]
  unfold trimSuffix
  rw [if_pos hs, hl]
  simp
theorem trim_no {s : ByteArray} {n : Nat} (hn : s.size = n + 1) (h : s.data.toList[n]? ≠ some 10) : trimN s = s := by
  have hl : s.data.toList.length = n + 1 := by rw [← size_eq]; exact hn
  have hs : ¬ hasSuffix s.data.toList [10] = true := by
    rw [← hasSuffix_of_drop, hl]
    intro e
    have e2 : s.data.toList.drop n = [10] := by simpa using e
    apply h
    have := congrArg (·[0]?) e2
    simpa [List.getElem?_drop] using this
  apply ByteArray.ext
  apply Array.toList_inj.1
  show (trimSuffix s.data.toList [10]).toArray.toList = _
  unfold trimSuffix
  rw [if_neg hs]
/-- What the model lays aside: the last piece if it is empty. -/
theorem lns_end {s : ByteArray} {n : Nat} (hn : s.size = n + 1) (h : s.data.toList[n]? = some 10) : pcc 10 s = lns s ++ [⟨#[]⟩] := by
  unfold lns
  rw [if_neg (by omega), trim_yes hn h]
  exact pcc_end hn h
theorem lns_last {s : ByteArray} {n : Nat} (hn : s.size = n + 1) (h : s.data.toList[n]? ≠ some 10) : pcc 10 s = lns s ∧ ∃ l x, pcc 10 s = l ++ [x] ∧ 0 < x.size := by
  unfold lns
  rw [if_neg (by omega), trim_no hn h]
  exact ⟨rfl, pcc_last hn h⟩
theorem pcc_len (c : UInt8) (s : ByteArray) : (pcc c s).length ≤ s.size + 1 := by
  have := (spc_le c s s.size).2
  unfold pcc
  rw [List.length_append]
  simp; omega

theorem lns_len (s : ByteArray) : (lns s).length ≤ s.size + 1 := by
  by_cases h0 : s.size = 0
  · simp [lns, h0]
  · obtain ⟨n, hn⟩ : ∃ n, s.size = n + 1 := ⟨s.size - 1, by omega⟩
    have h := pcc_len 10 s
    by_cases h10 : s.data.toList[n]? = some 10
    · rw [lns_end hn h10, List.length_append] at h
      simp at h; omega
    · rw [(lns_last hn h10).1] at h
      exact h

end Go.Proofs.YtggpmailkkpdaaaDoor
