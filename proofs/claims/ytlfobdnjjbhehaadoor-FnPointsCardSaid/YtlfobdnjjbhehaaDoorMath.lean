/-
  Plain arithmetic of chapter 1: intervals, the greatest common divisor, fractions in lowest terms. No program stands in it. Conditions: each lemma's own.
-/
import Derived.Test.YtlfobdnjjbhehaaDoorBase
namespace Go.Proofs.YtlfobdnjjbhehaaDoor

def inB (n lo hi : Int) : Bool := decide (lo ≤ n) && decide (n ≤ hi)
theorem inB_yes {n lo hi : Int} (h1 : lo ≤ n) (h2 : n ≤ hi) : inB n lo hi = true := by simp [inB, h1, h2]
theorem inB_no {n lo hi : Int} (h : ¬ (lo ≤ n ∧ n ≤ hi)) : inB n lo hi = false := by simp [inB]; omega
theorem inB_iff {n lo hi : Int} : inB n lo hi = true ↔ lo ≤ n ∧ n ≤ hi := by simp [inB]

/-- A point's coordinates are within the limits. -/
def ptB (x y : Int) : Bool := inB x (-60) 60 && inB y (-60) 60
theorem ptB_iff {x y : Int} : ptB x y = true ↔ (-60 ≤ x ∧ x ≤ 60) ∧ -60 ≤ y ∧ y ≤ 60 := by simp [ptB, inB_iff]
theorem ptB_no {x y : Int} : ptB x y = false ↔ ¬ ((-60 ≤ x ∧ x ≤ 60) ∧ -60 ≤ y ∧ y ≤ 60) := by rw [← ptB_iff, Bool.not_eq_true]

def oppZ (n : Int) : Int := if n = 0 then 2 else if n = 1 then 3 else if n = 2 then 0 else if n = 3 then 1 else -1

/-- Both numbers of a fraction are within the limits. -/
def fitB (n d : Int) : Bool := inB n (-1000000000) 1000000000 && inB d 1 1000000000
theorem fitB_iff {n d : Int} : fitB n d = true ↔ (-1000000000 ≤ n ∧ n ≤ 1000000000) ∧ 1 ≤ d ∧ d ≤ 1000000000 := by simp [fitB, inB_iff]
/-- A fraction is valid. -/
def fracB (n d : Int) : Bool := fitB n d && decide (Int.gcd n d = 1)
theorem fracB_iff {n d : Int} : fracB n d = true ↔ ((-1000000000 ≤ n ∧ n ≤ 1000000000) ∧ 1 ≤ d ∧ d ≤ 1000000000) ∧ Int.gcd n d = 1 := by simp [fracB, fitB_iff]
theorem fracB_no {n d : Int} : fracB n d = false ↔ ¬ (((-1000000000 ≤ n ∧ n ≤ 1000000000) ∧ 1 ≤ d ∧ d ≤ 1000000000) ∧ Int.gcd n d = 1) := by rw [← fracB_iff, Bool.not_eq_true]

def absZ (n : Int) : Int := if n < 0 then -n else n
theorem absZ_nonneg (n : Int) : 0 ≤ absZ n := by unfold absZ; split <;> omega
theorem absZ_natAbs (n : Int) : absZ n = (n.natAbs : Int) := by unfold absZ; split <;> omega
theorem gcd_absZ (n d : Int) : Int.gcd (absZ n) d = Int.gcd n d := by
  unfold absZ; split
  · exact Int.neg_gcd
  · rfl
theorem gcd_step {a b : Int} (ha : 0 ≤ a) (hb : 0 ≤ b) : Int.gcd b (a % b) = Int.gcd a b := by
  obtain ⟨m, rfl⟩ := Int.eq_ofNat_of_zero_le ha
  obtain ⟨n, rfl⟩ := Int.eq_ofNat_of_zero_le hb
  rw [← Int.natCast_emod, Int.gcd_comm (m : Int), Int.gcd_natCast_natCast, Int.gcd_natCast_natCast, Nat.gcd_rec n m, Nat.gcd_comm]
theorem gcd_end {a : Int} (ha : 0 ≤ a) : ((Int.gcd a 0 : Nat) : Int) = a := by rw [Int.gcd_zero_right]; omega

/-- The greatest common divisor as the loops leave it. -/
def gcdZ (n d : Int) : Int := (Int.gcd n d : Nat)
theorem gcdZ_pos {n d : Int} (hd : d ≠ 0) : 1 ≤ gcdZ n d := by
  unfold gcdZ; have := Int.gcd_pos_of_ne_zero_right n hd; omega
theorem gcdZ_le {n d : Int} (hd : 0 < d) : gcdZ n d ≤ d := Int.le_of_dvd hd (Int.gcd_dvd_right n d)
theorem gcdZ_nonneg (n d : Int) : 0 ≤ gcdZ n d := by unfold gcdZ; omega

/-- The numerator and the denominator of a quotient in lowest terms, d positive. -/
def numZ (n d : Int) : Int := n.tdiv (gcdZ n d)
def denZ (n d : Int) : Int := d / gcdZ n d
theorem numZ_mul (n d : Int) : numZ n d * gcdZ n d = n := Int.tdiv_mul_cancel (Int.gcd_dvd_left n d)
theorem denZ_mul (n d : Int) : denZ n d * gcdZ n d = d := Int.ediv_mul_cancel (Int.gcd_dvd_right n d)
theorem numZ_ediv (n d : Int) : numZ n d = n / gcdZ n d := Int.tdiv_eq_ediv_of_dvd (Int.gcd_dvd_left n d)
theorem gcd_numZ {n d : Int} (hd : 0 < d) : Int.gcd (numZ n d) (denZ n d) = 1 := by
  rw [numZ_ediv]
  exact Int.gcd_ediv_gcd_ediv_gcd (Int.gcd_pos_of_ne_zero_right n (by omega))
theorem denZ_pos {n d : Int} (hd : 0 < d) : 1 ≤ denZ n d := by
  have h1 := denZ_mul n d
  have h2 := gcdZ_nonneg n d
  rcases Int.lt_or_le 0 (denZ n d) with h | h
  · omega
  · have : denZ n d * gcdZ n d ≤ 0 := Int.mul_nonpos_of_nonpos_of_nonneg h h2
    omega
theorem denZ_le {n d : Int} (hd : 0 < d) : denZ n d ≤ d := by
  have h := Int.ediv_le_self (gcdZ n d) (show 0 ≤ d by omega)
  exact h
theorem numZ_abs (n d : Int) (hd : 0 < d) : (numZ n d).natAbs ≤ n.natAbs := by
  have h := numZ_mul n d
  have hg : 1 ≤ (gcdZ n d).natAbs := by have := gcdZ_pos (n := n) (show d ≠ 0 by omega); omega
  have h2 : (numZ n d).natAbs * (gcdZ n d).natAbs = n.natAbs := by rw [← Int.natAbs_mul, h]
  calc (numZ n d).natAbs = (numZ n d).natAbs * 1 := by rw [Nat.mul_one]
    _ ≤ (numZ n d).natAbs * (gcdZ n d).natAbs := Nat.mul_le_mul_left _ hg
    _ = n.natAbs := h2

/-- The sign goes to the numerator. -/
def sgnN (n d : Int) : Int := if d < 0 then -n else n
def sgnD (d : Int) : Int := if d < 0 then -d else d
theorem sgnD_pos {d : Int} (h : d ≠ 0) : 0 < sgnD d := by unfold sgnD; split <;> omega

/-- The fraction that stands for n / d: its three results (numerator, denominator, code). -/
def mk1 (n d : Int) : Int := if fitB (numZ (sgnN n d) (sgnD d)) (denZ (sgnN n d) (sgnD d)) = true then numZ (sgnN n d) (sgnD d) else 0
def mk2 (n d : Int) : Int := if fitB (numZ (sgnN n d) (sgnD d)) (denZ (sgnN n d) (sgnD d)) = true then denZ (sgnN n d) (sgnD d) else 0
def mk3 (n d : Int) : Int := if fitB (numZ (sgnN n d) (sgnD d)) (denZ (sgnN n d) (sgnD d)) = true then 0 else 4
theorem mul_bd {a b : Int} (ha : -1000000000 ≤ a) (ha2 : a ≤ 1000000000) (hb : -1000000000 ≤ b) (hb2 : b ≤ 1000000000) : -1000000000000000000 ≤ a * b ∧ a * b ≤ 1000000000000000000 := by
  have h : (a * b).natAbs ≤ 1000000000 * 1000000000 := by
    rw [Int.natAbs_mul]; exact Nat.mul_le_mul (by omega) (by omega)
  omega

/-- What a fraction's function returns for two fractions: the code 1 where one of them is not valid. -/
def bothB (n d p q : Int) : Bool := fracB n d && fracB p q
def sumN (n d p q : Int) : Int := n * q + p * d
def add1 (n d p q : Int) : Int := if bothB n d p q = true then mk1 (sumN n d p q) (d * q) else 0
def add2 (n d p q : Int) : Int := if bothB n d p q = true then mk2 (sumN n d p q) (d * q) else 0
def add3 (n d p q : Int) : Int := if bothB n d p q = true then mk3 (sumN n d p q) (d * q) else 1
def mul1 (n d p q : Int) : Int := if bothB n d p q = true then mk1 (n * p) (d * q) else 0
def mul2 (n d p q : Int) : Int := if bothB n d p q = true then mk2 (n * p) (d * q) else 0
def mul3 (n d p q : Int) : Int := if bothB n d p q = true then mk3 (n * p) (d * q) else 1
def div1 (n d p q : Int) : Int := if bothB n d p q = true then (if p = 0 then 0 else mk1 (n * q) (d * p)) else 0
def div2 (n d p q : Int) : Int := if bothB n d p q = true then (if p = 0 then 0 else mk2 (n * q) (d * p)) else 0
def div3 (n d p q : Int) : Int := if bothB n d p q = true then (if p = 0 then 2 else mk3 (n * q) (d * p)) else 1
def cmpZ (n d p q : Int) : Int := if n * q < p * d then -1 else if p * d < n * q then 1 else 0
def cmp1 (n d p q : Int) : Int := if bothB n d p q = true then cmpZ n d p q else 0
def cmp2 (n d p q : Int) : Int := if bothB n d p q = true then 0 else 1
end Go.Proofs.YtlfobdnjjbhehaaDoor
