/-
  Validity of fractions in the program, and fractions brought to lowest terms, the model's and the program's. Conditions: each theorem's own.
-/
import Derived.Test.YtlfobdnjjbhehaaFrac
namespace Go.Proofs.Ytlfobdnjjbhehaa
open Go.RowKit

theorem fits_any (n d : Int) (w : World) : Calls Try.prog 19 #[.agg #[.int .i64 n, .int .i64 d]] w fun e w' => e = .returned (.bool (fitB n d)) ∧ Below w.heap.size w w' := by
  have k : fitB n d = (inB n (-1000000000) 1000000000 && (decide (1 ≤ d) && decide (d ≤ 1000000000))) := rfl
  have K := Lib.hid k
  clear k
  cases h1 : inB n (-1000000000) 1000000000
  · go_enter Try.func19, Try.ntmps19
    go_wp2_with (go_at_call 28; refine (withinFrac_any _ _).mono ?_; rintro e w' ⟨rfl, rfl⟩)
    go_ret
    exact ⟨ret_bool (by rw [K.out, h1]; rfl), (Below.refl _ _).alloc (Nat.le_refl _) _⟩
  · by_cases h2 : 1 ≤ d
    all_goals
      go_enter Try.func19, Try.ntmps19
      go_wp2_with (go_at_call 28; refine (withinFrac_any _ _).mono ?_; rintro e w' ⟨rfl, rfl⟩)
      go_ret
      exact ⟨ret_bool (by rw [K.out, h1]; (first | rw [decide_eq_true h2] | rw [decide_eq_false (show ¬ 1 ≤ d by omega)]); simp only [Bool.true_and, Bool.false_and]), (Below.refl _ _).alloc (Nat.le_refl _) _⟩

/-- 'ValidFrac' of the program. -/
theorem validFrac_any (n d : Int) (w : World) : Calls Try.prog 11 #[.agg #[.int .i64 n, .int .i64 d]] w fun e w' => e = .returned (.bool (fracB n d)) ∧ Below w.heap.size w w' := by
  have k : fracB n d = (fitB n d && decide (Int.gcd n d = 1)) := rfl
  cases h1 : fitB n d
  · have K := Lib.hid k
    clear k
    go_enter Try.func11, Try.ntmps11
    go_wp2_with ((go_at_call 19; refine (fits_any _ _ _).mono ?_; rintro e w1 ⟨rfl, hb⟩))
    go_ret
    exact ⟨ret_bool (by rw [K.out, h1]; rfl), ((Below.refl _ _).alloc (Nat.le_refl _) _).trans (hb.mono (by simp))⟩
  · have hx := fitB_iff.1 h1
    have hz : fracB n d = (gcdZ n d == 1) := by
      rw [k, h1, Bool.true_and, Bool.eq_iff_iff, decide_eq_true_iff, beq_iff_eq]; unfold gcdZ; omega
    have K := Lib.hid hz
    obtain ⟨⟨ha, hb⟩, hc, hd⟩ := hx
    clear k hz
    go_enter Try.func11, Try.ntmps11
    go_wp2_with (first
      | (go_at_call 19; refine (fits_any _ _ _).mono ?_; rintro e w1 ⟨rfl, hb⟩; have hc1 := bcell hb)
      | (go_at_call 20; refine (divisor_any _ _ _ (by omega) (by omega) (by omega) (by omega)).mono ?_; rintro e w2 ⟨rfl, n2, rfl⟩))
    go_ret
    exact ⟨ret_bool (by rw [K.out]), belowN (((Below.refl _ _).alloc (Nat.le_refl _) _).trans (hb.mono (by simp))) _⟩
theorem fracB_low {n d : Int} (hd : 0 < d) : fracB (numZ n d) (denZ n d) = fitB (numZ n d) (denZ n d) := by
  unfold fracB; rw [gcd_numZ hd]; simp

theorem low_abs {N D : Int} (hD : 0 < D) : fracB (N.tdiv (gcdZ (absZ N) D)) (D / gcdZ (absZ N) D) = fitB (numZ N D) (denZ N D) := by
  have e : gcdZ (absZ N) D = gcdZ N D := by unfold gcdZ; rw [gcd_absZ]
  rw [e]; exact fracB_low hD
theorem tdiv_abs (N D : Int) : N.tdiv (gcdZ (absZ N) D) = numZ N D := by unfold numZ gcdZ; rw [gcd_absZ]
theorem ediv_abs (N D : Int) : D / gcdZ (absZ N) D = denZ N D := by unfold denZ gcdZ; rw [gcd_absZ]

set_option maxHeartbeats 1000000 in
theorem l01Make_pos (n d : Int) (w : World) (hd : 0 < d) (hn1 : -4000000000000000000 ≤ n) (hn2 : n ≤ 4000000000000000000) (hd2 : d ≤ 4000000000000000000) :
    Calls Try.prog 27 #[.int .i64 n, .int .i64 d] w fun e w' => e = .returned (.tuple #[.agg #[.int .i64 (mk1 n d), .int .i64 (mk2 n d)], .int .i64 (mk3 n d)]) ∧ Below w.heap.size w w' := by
  have g1 := gcdZ_pos (n := absZ n) (show d ≠ 0 by omega)
  have p1 := absZ_nonneg n
  have p2 : absZ n ≤ 4000000000000000000 := by unfold absZ; split <;> omega
  have hs : ¬ d < 0 := by omega
  cases hf : fitB (numZ n d) (denZ n d)
  · have hq : fracB (n.tdiv (gcdZ (absZ n) d)) (d / gcdZ (absZ n) d) = false := by rw [low_abs hd, hf]
    have m1 : Hid (mk1 n d = 0 ∧ mk2 n d = 0 ∧ mk3 n d = 4) := Lib.hid (by unfold mk1 mk2 mk3 sgnN sgnD; simp [hs, hf])
    clear hf
    go_enter Try.func27, Try.ntmps27
    go_wp2_with (first
      | (go_at_call 26; refine (l01Abs_any _ _ (by omega) (by omega)).mono ?_; rintro e w' ⟨rfl, rfl⟩)
      | (go_at_call 25; refine (l01Gcd_any _ _ _ p1 (by omega) (by omega)).mono ?_; rintro e w' ⟨rfl, rfl⟩))
    go_region
    go_wp2_with (go_at_call 14; refine (l01Frac_any _ _ _).mono ?_; rintro e w1 ⟨rfl, hb⟩; have hc := bcell hb; have hz := bfroz hb)
    have c0 : w1.cell? ⟨w.heap.size, 0, none⟩ = some (.int .i64 0) := by rw [hc _ _ (by simp; omega)]; simp [go_sem]
    have c1 : w1.cell? ⟨w.heap.size, 1, none⟩ = some (.int .i64 0) := by rw [hc _ _ (by simp; omega)]; simp [go_sem]
    refine bodyPost_ret (v := .tuple #[.agg #[.int .i64 0, .int .i64 0], .int .i64 4]) (by simp [results, Try.results27, go_sem, c0, c1]) rfl ⟨?_, ?_⟩
    · rw [m1.out.1, m1.out.2.1, m1.out.2.2]
    · exact ((((((Below.refl _ _).alloc (Nat.le_refl _) _).alloc (by simp) _).drew).trans (hb.mono (by simp; omega))).setCell (by simp) _).setCell (by simp) _
  · have hq : fracB (n.tdiv (gcdZ (absZ n) d)) (d / gcdZ (absZ n) d) = true := by rw [low_abs hd, hf]
    have m1 : Hid (mk1 n d = n.tdiv (gcdZ (absZ n) d) ∧ mk2 n d = d / gcdZ (absZ n) d ∧ mk3 n d = 0) := Lib.hid (by rw [tdiv_abs, ediv_abs]; unfold mk1 mk2 mk3 sgnN sgnD; simp [hs, hf])
    clear hf
    go_enter Try.func27, Try.ntmps27
    go_wp2_with (first
      | (go_at_call 26; refine (l01Abs_any _ _ (by omega) (by omega)).mono ?_; rintro e w' ⟨rfl, rfl⟩)
      | (go_at_call 25; refine (l01Gcd_any _ _ _ p1 (by omega) (by omega)).mono ?_; rintro e w' ⟨rfl, rfl⟩))
    go_region
    go_wp2_with (go_at_call 14; refine (l01Frac_any _ _ _).mono ?_; rintro e w1 ⟨rfl, hb⟩; have hc := bcell hb; have hz := bfroz hb)
    have c0 : w1.cell? ⟨w.heap.size, 0, none⟩ = some (.int .i64 0) := by rw [hc _ _ (by simp; omega)]; simp [go_sem]
    have c1 : w1.cell? ⟨w.heap.size, 1, none⟩ = some (.int .i64 0) := by rw [hc _ _ (by simp; omega)]; simp [go_sem]
    refine bodyPost_ret (v := .tuple #[.agg #[.int .i64 (n.tdiv (gcdZ (absZ n) d)), .int .i64 (d / gcdZ (absZ n) d)], .int .i64 0]) (by simp [results, Try.results27, go_sem, c0, c1]) rfl ⟨?_, ?_⟩
    · rw [m1.out.1, m1.out.2.1, m1.out.2.2]
    · exact ((((((Below.refl _ _).alloc (Nat.le_refl _) _).alloc (by simp) _).drew).trans (hb.mono (by simp; omega))).setCell (by simp) _).setCell (by simp) _
set_option maxHeartbeats 1000000 in
theorem l01Make_neg (n d : Int) (w : World) (hd : 0 < d) (hn1 : -4000000000000000000 ≤ n) (hn2 : n ≤ 4000000000000000000) (hd2 : d ≤ 4000000000000000000) :
    Calls Try.prog 27 #[.int .i64 (-n), .int .i64 (-d)] w fun e w' => e = .returned (.tuple #[.agg #[.int .i64 (mk1 (-n) (-d)), .int .i64 (mk2 (-n) (-d))], .int .i64 (mk3 (-n) (-d))]) ∧ Below w.heap.size w w' := by
  have g1 := gcdZ_pos (n := absZ n) (show d ≠ 0 by omega)
  have p1 := absZ_nonneg n
  have p2 : absZ n ≤ 4000000000000000000 := by unfold absZ; split <;> omega
  have hs : -d < 0 := by omega
  cases hf : fitB (numZ n d) (denZ n d)
  · have hq : fracB (n.tdiv (gcdZ (absZ n) d)) (d / gcdZ (absZ n) d) = false := by rw [low_abs hd, hf]
    have m1 : Hid (mk1 (-n) (-d) = 0 ∧ mk2 (-n) (-d) = 0 ∧ mk3 (-n) (-d) = 4) := Lib.hid (by unfold mk1 mk2 mk3 sgnN sgnD; simp [hd, hf])
    clear hf
    go_enter Try.func27, Try.ntmps27
    go_wp2_with (first
      | (go_at_call 26; refine (l01Abs_any _ _ (by omega) (by omega)).mono ?_; rintro e w' ⟨rfl, rfl⟩)
      | (go_at_call 25; refine (l01Gcd_any _ _ _ p1 (by omega) (by omega)).mono ?_; rintro e w' ⟨rfl, rfl⟩))
    go_region
    go_wp2_with (go_at_call 14; refine (l01Frac_any _ _ _).mono ?_; rintro e w1 ⟨rfl, hb⟩; have hc := bcell hb; have hz := bfroz hb)
    have c0 : w1.cell? ⟨w.heap.size, 0, none⟩ = some (.int .i64 0) := by rw [hc _ _ (by simp; omega)]; simp [go_sem]
    have c1 : w1.cell? ⟨w.heap.size, 1, none⟩ = some (.int .i64 0) := by rw [hc _ _ (by simp; omega)]; simp [go_sem]
    refine bodyPost_ret (v := .tuple #[.agg #[.int .i64 0, .int .i64 0], .int .i64 4]) (by simp [results, Try.results27, go_sem, c0, c1]) rfl ⟨?_, ?_⟩
    · rw [m1.out.1, m1.out.2.1, m1.out.2.2]
    · exact ((((((Below.refl _ _).alloc (Nat.le_refl _) _).alloc (by simp) _).drew).trans (hb.mono (by simp; omega))).setCell (by simp) _).setCell (by simp) _
  · have hq : fracB (n.tdiv (gcdZ (absZ n) d)) (d / gcdZ (absZ n) d) = true := by rw [low_abs hd, hf]
    have m1 : Hid (mk1 (-n) (-d) = n.tdiv (gcdZ (absZ n) d) ∧ mk2 (-n) (-d) = d / gcdZ (absZ n) d ∧ mk3 (-n) (-d) = 0) := Lib.hid (by rw [tdiv_abs, ediv_abs]; unfold mk1 mk2 mk3 sgnN sgnD; simp [hd, hf])
    clear hf
    go_enter Try.func27, Try.ntmps27
    go_wp2_with (first
      | (go_at_call 26; refine (l01Abs_any _ _ (by omega) (by omega)).mono ?_; rintro e w' ⟨rfl, rfl⟩)
      | (go_at_call 25; refine (l01Gcd_any _ _ _ p1 (by omega) (by omega)).mono ?_; rintro e w' ⟨rfl, rfl⟩))
    go_region
    go_wp2_with (go_at_call 14; refine (l01Frac_any _ _ _).mono ?_; rintro e w1 ⟨rfl, hb⟩; have hc := bcell hb; have hz := bfroz hb)
    have c0 : w1.cell? ⟨w.heap.size, 0, none⟩ = some (.int .i64 0) := by rw [hc _ _ (by simp; omega)]; simp [go_sem]
    have c1 : w1.cell? ⟨w.heap.size, 1, none⟩ = some (.int .i64 0) := by rw [hc _ _ (by simp; omega)]; simp [go_sem]
    refine bodyPost_ret (v := .tuple #[.agg #[.int .i64 (n.tdiv (gcdZ (absZ n) d)), .int .i64 (d / gcdZ (absZ n) d)], .int .i64 0]) (by simp [results, Try.results27, go_sem, c0, c1]) rfl ⟨?_, ?_⟩
    · rw [m1.out.1, m1.out.2.1, m1.out.2.2]
    · exact ((((((Below.refl _ _).alloc (Nat.le_refl _) _).alloc (by simp) _).drew).trans (hb.mono (by simp; omega))).setCell (by simp) _).setCell (by simp) _

theorem l01Make_any (n d : Int) (w : World) (hd : d ≠ 0) (hn1 : -4000000000000000000 ≤ n) (hn2 : n ≤ 4000000000000000000) (hd1 : -4000000000000000000 ≤ d) (hd2 : d ≤ 4000000000000000000) :
    Calls Try.prog 27 #[.int .i64 n, .int .i64 d] w fun e w' => e = .returned (.tuple #[.agg #[.int .i64 (mk1 n d), .int .i64 (mk2 n d)], .int .i64 (mk3 n d)]) ∧ Below w.heap.size w w' := by
  by_cases hs : d < 0
  · have h := l01Make_neg (-n) (-d) w (by omega) (by omega) (by omega) (by omega)
    rwa [Int.neg_neg, Int.neg_neg] at h
  · exact l01Make_pos n d w (by omega) hn1 hn2 hd2

end Go.Proofs.Ytlfobdnjjbhehaa
