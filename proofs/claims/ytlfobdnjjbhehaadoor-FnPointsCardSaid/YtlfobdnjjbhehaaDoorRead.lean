/-
  Reading a decimal form: plain facts on numerals and on what Go's library parses. Conditions: each lemma's own.
-/
import Derived.Test.YtlfobdnjjbhehaaDoorDec
import Derived.Test.YtlfobdnjjbhehaaDoorMath
import Derived.Lib.ParseIntBCases
namespace Go.Proofs.YtlfobdnjjbhehaaDoor

def digC (c : UInt8) : Bool := decide (48 ≤ c.toNat) && decide (c.toNat ≤ 57)
theorem digC_iff {c : UInt8} : digC c = true ↔ 48 ≤ c.toNat ∧ c.toNat ≤ 57 := by simp [digC]
/-- The number that digits spell behind a number. -/
def fv (acc : Nat) (l : List UInt8) : Nat := l.foldl (fun a c => 10 * a + (c.toNat - 48)) acc
theorem fv_snoc (acc : Nat) (l : List UInt8) (c : UInt8) : fv acc (l ++ [c]) = 10 * fv acc l + (c.toNat - 48) := by simp [fv]
theorem digit_byte (k : Nat) (h : k < 10) : (UInt8.ofNat (48 + k)).toNat = 48 + k := by
  rw [UInt8.toNat_ofNat_of_lt' (by show 48 + k < 256; omega)]
theorem dec_step (u : Nat) (h : ¬ u < 10) : Lib.decDigits u = Lib.decDigits (u / 10) ++ [UInt8.ofNat (48 + u % 10)] := by rw [Lib.decDigits, dif_neg h]
theorem fv_dec (u : Nat) : fv 0 (Lib.decDigits u) = u := by
  induction u using Nat.strongRecOn with
  | _ u ih =>
    by_cases h : u < 10
    · rw [Lib.decDigits_one h]
      simp only [fv, List.foldl_cons, List.foldl_nil]
      rw [digit_byte u h]; omega
    · rw [dec_step u h, fv_snoc, ih (u / 10) (by omega), digit_byte _ (by omega)]; omega
theorem dec_all (u : Nat) : (Lib.decDigits u).all digC = true := by
  induction u using Nat.strongRecOn with
  | _ u ih =>
    by_cases h : u < 10
    · rw [Lib.decDigits_one h]
      simp only [List.all_cons, List.all_nil, Bool.and_true]
      rw [digC_iff, digit_byte u h]; omega
    · rw [dec_step u h, List.all_append, ih (u / 10) (by omega)]
      simp only [List.all_cons, List.all_nil, Bool.and_true, Bool.true_and]
      rw [digC_iff, digit_byte _ (by omega)]; omega
theorem nd_le : ∀ (k u : Nat), u < 10 ^ (k + 1) → Lib.nDigits u ≤ k + 1
  | 0, u, h => by rw [Lib.nDigits_small (by simpa using h)]; exact Nat.le_refl _
  | k + 1, u, h => by
    by_cases hu : u < 10
    · rw [Lib.nDigits_small hu]; omega
    · rw [Lib.nDigits_big hu]
      have := nd_le k (u / 10) (by rw [Nat.pow_succ] at h; omega)
      omega
theorem dec_len {u : Nat} (h : u ≤ 1000000000) : (Lib.decDigits u).length ≤ 10 := by
  rw [Lib.decDigits_length]; exact nd_le 9 u (by omega)
theorem dec_pos (u : Nat) : 1 ≤ (Lib.decDigits u).length := by rw [Lib.decDigits_length]; exact Lib.nDigits_pos u
theorem fv_lt : ∀ (l : List UInt8) (acc : Nat), l.all digC = true → fv acc l < (acc + 1) * 10 ^ l.length
  | [], acc, _ => by simp [fv]
  | c :: l, acc, h => by
    simp only [List.all_cons, Bool.and_eq_true] at h
    have hc := digC_iff.1 h.1
    have ih := fv_lt l (10 * acc + (c.toNat - 48)) h.2
    have e : fv acc (c :: l) = fv (10 * acc + (c.toNat - 48)) l := rfl
    rw [e, List.length_cons, Nat.pow_succ]
    have h2 : (10 * acc + (c.toNat - 48) + 1) * 10 ^ l.length ≤ ((acc + 1) * 10) * 10 ^ l.length := Nat.mul_le_mul_right _ (by omega)
    calc fv (10 * acc + (c.toNat - 48)) l < (10 * acc + (c.toNat - 48) + 1) * 10 ^ l.length := ih
      _ ≤ ((acc + 1) * 10) * 10 ^ l.length := h2
      _ = (acc + 1) * (10 ^ l.length * 10) := by rw [Nat.mul_assoc, Nat.mul_comm 10]

/-- What the library parses of a numeral's digits. -/
theorem parse_snoc (M : Nat) : ∀ (l : List UInt8) (acc a : Nat) (c : UInt8), Lib.parseUintM M acc l = .ok a → a < 1844674407370955162 → digC c = true → a * 10 + (c.toNat - 48) ≤ M → Lib.parseUintM M acc (l ++ [c]) = .ok (a * 10 + (c.toNat - 48))
  | [], acc, a, c, h, ha, hc, hM => by
    simp only [Lib.parseUintM] at h
    injection h with h
    subst h
    simp only [List.nil_append, Lib.parseUintM]
    rw [if_pos (digC_iff.1 hc), if_neg (by omega), if_neg (by omega)]
  | b :: l, acc, a, c, h, ha, hc, hM => by
    simp only [List.cons_append, Lib.parseUintM] at h ⊢
    split at h
    · rename_i hb
      rw [if_pos hb]
      split at h
      · cases h
      · rename_i h1
        rw [if_neg h1]
        split at h
        · cases h
        · rename_i h2
          rw [if_neg h2]
          exact parse_snoc M l _ a c h ha hc hM
    · cases h
theorem parse_dec (M u : Nat) (hu : u ≤ M) (h9 : u ≤ 1000000000) : Lib.parseUintM M 0 (Lib.decDigits u) = .ok u := by
  induction u using Nat.strongRecOn with
  | _ u ih =>
    by_cases h : u < 10
    · rw [Lib.decDigits_one h]
      have hd := digit_byte u h
      simp only [Lib.parseUintM]
      rw [hd, if_pos (by omega), if_neg (by omega), if_neg (by omega)]
      congr 1
      omega
    · rw [dec_step u h]
      have hd := digit_byte (u % 10) (by omega)
      rw [parse_snoc M _ 0 (u / 10) _ (ih (u / 10) (by omega) (by omega) (by omega)) (by omega) (by rw [digC_iff, hd]; omega) (by rw [hd]; omega), hd]
      congr 1
      omega
theorem dec_cons (u : Nat) : ∃ c r, Lib.decDigits u = c :: r ∧ digC c = true := by
  have h := dec_pos u
  have ha := dec_all u
  cases e : Lib.decDigits u with
  | nil => rw [e] at h; simp at h
  | cons c r =>
    rw [e] at ha
    simp only [List.all_cons, Bool.and_eq_true] at ha
    exact ⟨c, r, rfl, ha.1⟩
theorem itoa_neg {n : Int} (h : n < 0) : Lib.itoa n = 45 :: Lib.decDigits n.natAbs := by unfold Lib.itoa; rw [if_pos h]
theorem itoa_pos {n : Int} (h : ¬ n < 0) : Lib.itoa n = Lib.decDigits n.toNat := by unfold Lib.itoa; rw [if_neg h]
theorem parse_itoa (n : Int) (h1 : -1000000000 ≤ n) (h2 : n ≤ 1000000000) : Lib.parseIntB 64 (Lib.itoa n) = .ok n := by
  by_cases h : n < 0
  · rw [itoa_neg h]
    obtain ⟨c, r, e, -⟩ := dec_cons n.natAbs
    have hp := parse_dec (2 ^ 64 - 1) n.natAbs (by omega) (by omega)
    have e45 : (45 : UInt8).toNat = 45 := rfl
    simp only [Lib.parseIntB, e45]
    simp only [or_true, if_true]
    unfold Lib.parseUintB
    rw [if_neg (by rw [e]; simp), hp]
    simp only [not_true_eq_false, false_and, if_false, true_and]
    rw [if_neg (by omega)]
    congr 1
    omega
  · rw [itoa_pos h]
    obtain ⟨c, r, e, hc⟩ := dec_cons n.toNat
    have hc2 := digC_iff.1 hc
    have hp := parse_dec (2 ^ 64 - 1) n.toNat (by omega) (by omega)
    rw [e] at hp ⊢
    simp only [Lib.parseIntB]
    rw [if_neg (by omega)]
    unfold Lib.parseUintB
    rw [if_neg (by simp), hp]
    have h45 : ¬ c.toNat = 45 := by omega
    simp only [h45, false_and, if_false, not_false_eq_true, true_and]
    rw [if_neg (by omega)]
    congr 1
    omega
end Go.Proofs.YtlfobdnjjbhehaaDoor
