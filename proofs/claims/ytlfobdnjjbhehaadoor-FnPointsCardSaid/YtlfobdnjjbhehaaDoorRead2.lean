/-
  ReadDecimal, the model's: what it returns for every string. Conditions: each theorem's own.
-/
import Derived.Test.YtlfobdnjjbhehaaDoorRead
import Derived.Test.YtlfobdnjjbhehaaDoorInt
import Derived.Test.YtlfobdnjjbhehaaDoorTwo
namespace Go.Proofs.YtlfobdnjjbhehaaDoor
open Go.RowKit

def pre (l : List UInt8) : Nat := if l.head? = some 45 then 1 else 0
def pv (l : List UInt8) (k : Nat) : Nat := fv 0 ((l.take k).drop (pre l))
def okN (l : List UInt8) (k : Nat) : Bool := ((l.take k).drop (pre l)).all digC
def valS (l : List UInt8) : Int := if l.head? = some 45 then -(pv l l.length : Int) else pv l l.length
def rdB (l : List UInt8) : Bool := decide (1 ≤ l.length) && (decide (l.length ≤ 11) && (okN l l.length && (inB (valS l) (-1000000000) 1000000000 && decide (Lib.itoa (valS l) = l))))
def rdR (l : List UInt8) : Int := if rdB l = true then valS l else 0

theorem list_len (s : ByteArray) : s.data.toList.length = s.size := by rw [Array.length_toList]; rfl
theorem list_get {s : ByteArray} {k : Nat} (h : k < s.size) : s.data.toList[k]? = some s[k] := by
  rw [List.getElem?_eq_getElem (by rw [list_len]; exact h)]; rfl
theorem head_get {s : ByteArray} (h : 0 < s.size) : s.data.toList.head? = some s[0] := by
  rw [List.head?_eq_getElem?]; exact list_get h
theorem cut_step {l : List UInt8} {k : Nat} {c : UInt8} (h : l[k]? = some c) (hk : pre l ≤ k) : (l.take (k + 1)).drop (pre l) = (l.take k).drop (pre l) ++ [c] := by
  have hlt : k < l.length := (List.getElem?_eq_some_iff.1 h).1
  rw [List.take_add_one, h, List.drop_append_of_le_length (by rw [List.length_take]; omega)]
  rfl
theorem pv_step {l : List UInt8} {k : Nat} {c : UInt8} (h : l[k]? = some c) (hk : pre l ≤ k) : pv l (k + 1) = 10 * pv l k + (c.toNat - 48) := by
  unfold pv; rw [cut_step h hk, fv_snoc]
theorem okN_step {l : List UInt8} {k : Nat} {c : UInt8} (h : l[k]? = some c) (hk : pre l ≤ k) : okN l (k + 1) = (okN l k && digC c) := by
  unfold okN; rw [cut_step h hk]; simp
theorem pre_le (l : List UInt8) : pre l ≤ 1 := by unfold pre; split <;> omega
theorem pv_zero (l : List UInt8) : pv l 0 = 0 := by unfold pv; simp [fv]
theorem okN_zero (l : List UInt8) : okN l 0 = true := by unfold okN; simp
theorem pv_minus {l : List UInt8} (h : l.head? = some 45) : pv l 1 = 0 ∧ okN l 1 = true := by
  have hp : pre l = 1 := by unfold pre; rw [if_pos h]
  unfold pv okN
  rw [hp]
  have e : (l.take 1).drop 1 = [] := by rw [List.drop_eq_nil_of_le (by rw [List.length_take]; omega)]
  rw [e]; exact ⟨rfl, rfl⟩
theorem pv_lt {l : List UInt8} {k : Nat} (hk : k ≤ 11) (ho : okN l k = true) : pv l k < 100000000000 := by
  have h := fv_lt _ 0 ho
  have hl : ((l.take k).drop (pre l)).length ≤ 11 := by rw [List.length_drop, List.length_take]; omega
  have h2 : 10 ^ ((l.take k).drop (pre l)).length ≤ 10 ^ 11 := Nat.pow_le_pow_right (by omega) hl
  unfold pv
  omega
/-- If one byte is no digit, it is no numeral. -/
theorem okN_mono {l : List UInt8} {k : Nat} (h : okN l k = false) (hk : k ≤ l.length) : okN l l.length = false := by
  unfold okN at h ⊢
  rw [List.take_length]
  have e : l.drop (pre l) = (l.take k).drop (pre l) ++ (l.drop (pre l)).drop ((l.take k).drop (pre l)).length := by
    conv => lhs; rw [← List.take_append_drop ((l.take k).drop (pre l)).length (l.drop (pre l))]
    congr 1
    rw [List.length_drop, List.length_take, List.drop_take, Nat.min_eq_left hk]
  rw [e, List.all_append, h, Bool.false_and]

/-- What the text is read as, if it is a numeral within the limits. -/
def Num (l : List UInt8) (n : Int) : Prop := (-1000000000 ≤ n ∧ n ≤ 1000000000) ∧ Lib.itoa n = l
theorem num_val {l : List UInt8} {n : Int} (h : Num l n) : okN l l.length = true ∧ valS l = n ∧ 1 ≤ l.length ∧ l.length ≤ 11 := by
  obtain ⟨⟨h1, h2⟩, rfl⟩ := h
  by_cases hn : n < 0
  · rw [itoa_neg hn]
    have hp : pre (45 :: Lib.decDigits n.natAbs) = 1 := rfl
    have hl := dec_len (u := n.natAbs) (by omega)
    have hd := dec_all n.natAbs
    have hf := fv_dec n.natAbs
    unfold okN valS pv
    rw [hp, List.take_length, List.drop_one, List.tail_cons, hd, hf, List.head?_cons, if_pos rfl, List.length_cons]
    exact ⟨rfl, by omega, by omega, by omega⟩
  · rw [itoa_pos hn]
    obtain ⟨c, r, e, hc⟩ := dec_cons n.toNat
    have hc2 := digC_iff.1 hc
    have hne : ¬ (Lib.decDigits n.toNat).head? = some 45 := by
      rw [e, List.head?_cons]; intro he; injection he with he; subst he; revert hc2; decide
    have hp : pre (Lib.decDigits n.toNat) = 0 := by unfold pre; rw [if_neg hne]
    have hl := dec_len (u := n.toNat) (by omega)
    have hl2 := dec_pos n.toNat
    have hd := dec_all n.toNat
    have hf := fv_dec n.toNat
    unfold okN valS pv
    rw [hp, List.take_length, List.drop_zero, hd, hf, if_neg hne]
    exact ⟨rfl, by omega, by omega, by omega⟩
theorem rd_of {l : List UInt8} {n : Int} (h : Num l n) : rdB l = true ∧ rdR l = n := by
  obtain ⟨h1, h2, h3, h4⟩ := num_val h
  have hb : rdB l = true := by
    unfold rdB
    rw [h1, h2, decide_eq_true h3, decide_eq_true h4, inB_yes h.1.1 h.1.2, decide_eq_true h.2]; rfl
  exact ⟨hb, by unfold rdR; rw [if_pos hb, h2]⟩
theorem rd_no {l : List UInt8} (h : ∀ n, ¬ Num l n) : rdB l = false ∧ rdR l = 0 := by
  have hb : rdB l = false := by
    rw [← Bool.not_eq_true]
    intro hb
    unfold rdB at hb
    simp only [Bool.and_eq_true, decide_eq_true_eq] at hb
    exact h (valS l) ⟨inB_iff.1 hb.2.2.2.1, hb.2.2.2.2⟩
  exact ⟨hb, by unfold rdR; rw [hb]; rfl⟩
end Go.Proofs.YtlfobdnjjbhehaaDoor
