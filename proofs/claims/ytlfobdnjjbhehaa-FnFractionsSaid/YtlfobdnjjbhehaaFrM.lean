/-
  Sums, products and quotients of fractions in lowest terms: each is undone by its opposite. Conditions: each theorem's own.
-/
import Derived.Test.YtlfobdnjjbhehaaMath
namespace Go.Proofs.Ytlfobdnjjbhehaa

/-- Two fractions of one value, one in lowest terms: the other's lowest terms are that one. -/
theorem low_uniq {n d N D : Int} (h : fracB n d = true) (hD : 0 < D) (he : N * d = n * D) : numZ N D = n ∧ denZ N D = d := by
  obtain ⟨⟨-, hd, -⟩, hg⟩ := fracB_iff.1 h
  have h1 : d ∣ n * D := ⟨N, by rw [← he, Int.mul_comm]⟩
  have h2 : d ∣ D := by
    have h3 : d.natAbs ∣ n.natAbs * D.natAbs := by rw [← Int.natAbs_mul]; exact Int.natAbs_dvd_natAbs.2 h1
    have h4 : Nat.Coprime d.natAbs n.natAbs := by unfold Nat.Coprime; rw [Nat.gcd_comm]; exact hg
    exact Int.natAbs_dvd_natAbs.1 (h4.dvd_of_dvd_mul_left h3)
  obtain ⟨k, rfl⟩ := h2
  have hk : 0 < k := by
    rcases Int.lt_trichotomy k 0 with h | h | h
    · have := Int.mul_neg_of_pos_of_neg (show 0 < d by omega) h; omega
    · subst h; simp at hD
    · exact h
  have h3 : N = n * k := by
    have : d * N = d * (n * k) := by rw [Int.mul_comm, he]; grind
    exact Int.eq_of_mul_eq_mul_left (by omega) this
  subst h3
  have h4 : gcdZ (n * k) (d * k) = k := by
    unfold gcdZ
    rw [Int.gcd_mul_right, hg]
    omega
  constructor
  · unfold numZ; rw [h4]; exact Int.mul_tdiv_cancel n (by omega)
  · unfold denZ; rw [h4]; exact Int.mul_ediv_cancel d (by omega)
theorem sgn_cross {n d N D : Int} (he : N * d = n * D) : sgnN N D * d = n * sgnD D := by
  unfold sgnN sgnD
  split
  · grind
  · exact he
theorem mk_of {n d N D : Int} (h : fracB n d = true) (hD : D ≠ 0) (he : N * d = n * D) : mk1 N D = n ∧ mk2 N D = d ∧ mk3 N D = 0 := by
  obtain ⟨e1, e2⟩ := low_uniq h (sgnD_pos hD) (sgn_cross he)
  have hf : fitB n d = true := by
    unfold fracB at h
    simp only [Bool.and_eq_true] at h
    exact h.1
  unfold mk1 mk2 mk3
  rw [e1, e2, hf]
  simp
theorem mk_ok {N D : Int} (hD : 0 < D) (h : mk3 N D = 0) : fracB (mk1 N D) (mk2 N D) = true ∧ mk1 N D * D = N * mk2 N D := by
  have e1 : sgnN N D = N := by unfold sgnN; rw [if_neg (by omega)]
  have e2 : sgnD D = D := by unfold sgnD; rw [if_neg (by omega)]
  unfold mk1 mk2
  unfold mk3 at h
  rw [e1, e2] at h ⊢
  have hf : fitB (numZ N D) (denZ N D) = true := by
    cases hc : fitB (numZ N D) (denZ N D)
    · rw [hc] at h; simp at h
    · rfl
  rw [if_pos hf, if_pos hf]
  refine ⟨?_, ?_⟩
  · unfold fracB; rw [hf, gcd_numZ hD]; rfl
  · have a := numZ_mul N D
    have b := denZ_mul N D
    generalize gcdZ N D = g at *
    generalize numZ N D = u at *
    generalize denZ N D = v at *
    subst a b
    grind
theorem mk3_in (N D : Int) : mk3 N D = 0 ∨ mk3 N D = 4 := by unfold mk3; split <;> simp
theorem bothB_iff {n d p q : Int} : bothB n d p q = true ↔ fracB n d = true ∧ fracB p q = true := by simp [bothB]
theorem add_comm_ {n d p q : Int} : add1 n d p q = add1 p q n d ∧ add2 n d p q = add2 p q n d ∧ add3 n d p q = add3 p q n d := by
  have e1 : bothB n d p q = bothB p q n d := by unfold bothB; exact Bool.and_comm _ _
  have e2 : sumN n d p q = sumN p q n d := by unfold sumN; exact Int.add_comm _ _
  unfold add1 add2 add3
  rw [e1, e2, Int.mul_comm d q]
  exact ⟨rfl, rfl, rfl⟩
/-- A sum that is one. -/
theorem add_ok {n d p q : Int} (h : add3 n d p q = 0) : (fracB n d = true ∧ fracB p q = true) ∧ fracB (add1 n d p q) (add2 n d p q) = true ∧ add1 n d p q * (d * q) = (n * q + p * d) * add2 n d p q := by
  unfold add3 at h
  by_cases hb : bothB n d p q = true
  · rw [if_pos hb] at h
    obtain ⟨h1, h2⟩ := bothB_iff.1 hb
    obtain ⟨⟨-, hd, -⟩, -⟩ := fracB_iff.1 h1
    obtain ⟨⟨-, hq, -⟩, -⟩ := fracB_iff.1 h2
    have := mk_ok (Int.mul_pos (show 0 < d by omega) (show 0 < q by omega)) h
    unfold add1 add2
    rw [if_pos hb, if_pos hb]
    exact ⟨⟨h1, h2⟩, this.1, by rw [this.2]; rfl⟩
  · rw [if_neg hb] at h; omega
theorem fracB_neg {p q : Int} (h : fracB p q = true) : fracB (-p) q = true := by
  obtain ⟨⟨h1, h2⟩, h3⟩ := fracB_iff.1 h
  exact fracB_iff.2 ⟨⟨⟨by omega, by omega⟩, h2⟩, by rw [Int.neg_gcd]; exact h3⟩
/-- Adding is undone by the opposite. -/
theorem add_back {n d p q : Int} (h : add3 n d p q = 0) : add1 (add1 n d p q) (add2 n d p q) (-p) q = n ∧ add2 (add1 n d p q) (add2 n d p q) (-p) q = d ∧ add3 (add1 n d p q) (add2 n d p q) (-p) q = 0 := by
  obtain ⟨⟨h1, h2⟩, h3, h4⟩ := add_ok h
  generalize add1 n d p q = u at *
  generalize add2 n d p q = v at *
  obtain ⟨⟨-, hv, -⟩, -⟩ := fracB_iff.1 h3
  obtain ⟨⟨-, hq, -⟩, -⟩ := fracB_iff.1 h2
  have hb : bothB u v (-p) q = true := bothB_iff.2 ⟨h3, fracB_neg h2⟩
  have hvq := Int.mul_pos (show 0 < v by omega) (show 0 < q by omega)
  have := mk_of (N := sumN u v (-p) q) (D := v * q) h1 (by omega) (by unfold sumN; grind)
  unfold add1 add2 add3
  rw [if_pos hb, if_pos hb, if_pos hb]
  exact this
/-- A sum lies beside the first number as the second beside nought. -/
theorem cmp_add {n d p q : Int} (h : add3 n d p q = 0) : cmp2 (add1 n d p q) (add2 n d p q) n d = 0 ∧ (0 < cmp1 (add1 n d p q) (add2 n d p q) n d ↔ 0 < p) ∧ (cmp1 (add1 n d p q) (add2 n d p q) n d = 0 ↔ p = 0) := by
  obtain ⟨⟨h1, h2⟩, h3, h4⟩ := add_ok h
  generalize add1 n d p q = u at *
  generalize add2 n d p q = v at *
  obtain ⟨⟨-, hv, -⟩, -⟩ := fracB_iff.1 h3
  obtain ⟨⟨-, hd, -⟩, -⟩ := fracB_iff.1 h1
  obtain ⟨⟨-, hq, -⟩, -⟩ := fracB_iff.1 h2
  have hb : bothB u v n d = true := bothB_iff.2 ⟨h3, h1⟩
  have hdv := Int.mul_pos (show 0 < d by omega) (show 0 < v by omega)
  have key : (u * d - n * v) * q = p * (d * v) := by grind
  have s1 : 0 < u * d - n * v ↔ 0 < p := by
    constructor
    · intro h0
      have := Int.mul_pos h0 (show 0 < q by omega)
      rw [key] at this
      exact Int.pos_of_mul_pos_left this hdv
    · intro h0
      have := Int.mul_pos h0 hdv
      rw [← key] at this
      exact Int.pos_of_mul_pos_left this (by omega)
  have s2 : u * d - n * v = 0 ↔ p = 0 := by
    constructor
    · intro h0
      rw [h0, Int.zero_mul] at key
      rcases Int.mul_eq_zero.1 key.symm with h | h
      · exact h
      · omega
    · intro h0
      rw [h0, Int.zero_mul] at key
      rcases Int.mul_eq_zero.1 key with h | h
      · exact h
      · omega
  unfold cmp1 cmp2
  rw [if_pos hb, if_pos hb]
  refine ⟨rfl, ?_, ?_⟩
  · rw [← s1]; unfold cmpZ; split <;> (try split) <;> omega
  · rw [← s2]; unfold cmpZ; split <;> (try split) <;> omega
theorem mul_in {n d p q : Int} (h1 : fracB n d = true) (h2 : fracB p q = true) : mul3 n d p q = 0 ∨ mul3 n d p q = 4 := by
  unfold mul3; rw [if_pos (bothB_iff.2 ⟨h1, h2⟩)]; exact mk3_in _ _
/-- Multiplying is undone by dividing. -/
theorem mul_back {n d p q : Int} (h1 : fracB n d = true) (h2 : fracB p q = true) (h : mul3 n d p q = 0) (hp : p ≠ 0) :
    fracB (mul1 n d p q) (mul2 n d p q) = true ∧ div1 (mul1 n d p q) (mul2 n d p q) p q = n ∧ div2 (mul1 n d p q) (mul2 n d p q) p q = d ∧ div3 (mul1 n d p q) (mul2 n d p q) p q = 0 := by
  have hb := bothB_iff.2 ⟨h1, h2⟩
  obtain ⟨⟨-, hd, -⟩, -⟩ := fracB_iff.1 h1
  obtain ⟨⟨-, hq, -⟩, -⟩ := fracB_iff.1 h2
  unfold mul3 at h
  rw [if_pos hb] at h
  obtain ⟨h3, h4⟩ := mk_ok (Int.mul_pos (show 0 < d by omega) (show 0 < q by omega)) h
  have e1 : mul1 n d p q = mk1 (n * p) (d * q) := by unfold mul1; rw [if_pos hb]
  have e2 : mul2 n d p q = mk2 (n * p) (d * q) := by unfold mul2; rw [if_pos hb]
  rw [e1, e2]
  generalize mk1 (n * p) (d * q) = u at *
  generalize mk2 (n * p) (d * q) = v at *
  obtain ⟨⟨-, hv, -⟩, -⟩ := fracB_iff.1 h3
  have hb2 : bothB u v p q = true := bothB_iff.2 ⟨h3, h2⟩
  have hvp : v * p ≠ 0 := by
    intro h0
    rcases Int.mul_eq_zero.1 h0 with h | h <;> omega
  have := mk_of (N := u * q) (D := v * p) h1 hvp (by grind)
  unfold div1 div2 div3
  rw [if_pos hb2, if_pos hb2, if_pos hb2, if_neg hp, if_neg hp, if_neg hp]
  exact ⟨h3, this⟩
end Go.Proofs.Ytlfobdnjjbhehaa
