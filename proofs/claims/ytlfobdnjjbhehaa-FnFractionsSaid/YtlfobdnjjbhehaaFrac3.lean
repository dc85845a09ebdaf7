/-
  Fractions brought to lowest terms by the program. Conditions: each theorem's own.
-/
import Derived.Test.YtlfobdnjjbhehaaFrac2
namespace Go.Proofs.Ytlfobdnjjbhehaa
open Go.RowKit

set_option maxHeartbeats 1000000 in
theorem low_pos (n d : Int) (w : World) (hd : 0 < d) (hn1 : -4000000000000000000 ≤ n) (hn2 : n ≤ 4000000000000000000) (hd2 : d ≤ 4000000000000000000) :
    Calls Try.prog 23 #[.int .i64 n, .int .i64 d] w fun e w' => e = .returned (.tuple #[.agg #[.int .i64 (mk1 n d), .int .i64 (mk2 n d)], .int .i64 (mk3 n d)]) ∧ Below w.heap.size w w' := by
  have g1 := gcdZ_pos (n := n) (show d ≠ 0 by omega)
  have hs : ¬ d < 0 := by omega
  cases hf : fitB (numZ n d) (denZ n d)
  · have hq : fitB (n.tdiv (gcdZ n d)) (d / gcdZ n d) = false := hf
    have m1 : Hid (mk1 n d = 0 ∧ mk2 n d = 0 ∧ mk3 n d = 4) := Lib.hid (by unfold mk1 mk2 mk3 sgnN sgnD; simp [hs, hf])
    clear hf
    go_enter Try.func23, Try.ntmps23
    go_wp2_with (go_at_call 20; refine (divisor_any _ _ _ (by omega) (by omega) (by omega) (by omega)).mono ?_; rintro e w' ⟨rfl, nq, rfl⟩)
    go_region
    go_wp2_with (go_at_call 19; refine (fits_any _ _ _).mono ?_; rintro e w1 ⟨rfl, hb⟩; have hc := bcell hb; have hz := bfroz hb)
    have c0 : w1.cell? ⟨w.heap.size, 0, none⟩ = some (.int .i64 0) := by rw [hc _ _ (by simp; omega)]; simp [go_sem]
    have c1 : w1.cell? ⟨w.heap.size, 1, none⟩ = some (.int .i64 0) := by rw [hc _ _ (by simp; omega)]; simp [go_sem]
    refine bodyPost_ret (v := .tuple #[.agg #[.int .i64 0, .int .i64 0], .int .i64 4]) (by simp [results, Try.results23, go_sem, c0, c1]) rfl ⟨?_, ?_⟩
    · rw [m1.out.1, m1.out.2.1, m1.out.2.2]
    · (repeat (first | exact Below.refl _ _ | refine Below.setCell ?_ (by first | (simp; done) | (simp; omega) | omega) _ | refine belowN ?_ _ | refine Below.drew ?_ | refine Below.alloc ?_ (by first | (simp; done) | (simp; omega) | omega) _ | refine Below.trans ?_ (Below.mono (by assumption) (by first | (simp; done) | (simp; omega) | omega))))
  · have hq : fitB (n.tdiv (gcdZ n d)) (d / gcdZ n d) = true := hf
    have m1 : Hid (mk1 n d = n.tdiv (gcdZ n d) ∧ mk2 n d = d / gcdZ n d ∧ mk3 n d = 0) := Lib.hid (by show _ = numZ n d ∧ _ = denZ n d ∧ _; unfold mk1 mk2 mk3 sgnN sgnD; simp [hs, hf])
    clear hf
    go_enter Try.func23, Try.ntmps23
    go_wp2_with (go_at_call 20; refine (divisor_any _ _ _ (by omega) (by omega) (by omega) (by omega)).mono ?_; rintro e w' ⟨rfl, nq, rfl⟩)
    go_region
    go_wp2_with (go_at_call 19; refine (fits_any _ _ _).mono ?_; rintro e w1 ⟨rfl, hb⟩; have hc := bcell hb; have hz := bfroz hb)
    have c0 : w1.cell? ⟨w.heap.size, 0, none⟩ = some (.int .i64 0) := by rw [hc _ _ (by simp; omega)]; simp [go_sem]
    have c1 : w1.cell? ⟨w.heap.size, 1, none⟩ = some (.int .i64 0) := by rw [hc _ _ (by simp; omega)]; simp [go_sem]
    refine bodyPost_ret (v := .tuple #[.agg #[.int .i64 (n.tdiv (gcdZ n d)), .int .i64 (d / gcdZ n d)], .int .i64 0]) (by simp [results, Try.results23, go_sem, c0, c1]) rfl ⟨?_, ?_⟩
    · rw [m1.out.1, m1.out.2.1, m1.out.2.2]
    · (repeat (first | exact Below.refl _ _ | refine Below.setCell ?_ (by first | (simp; done) | (simp; omega) | omega) _ | refine belowN ?_ _ | refine Below.drew ?_ | refine Below.alloc ?_ (by first | (simp; done) | (simp; omega) | omega) _ | refine Below.trans ?_ (Below.mono (by assumption) (by first | (simp; done) | (simp; omega) | omega))))
set_option maxHeartbeats 1000000 in
theorem low_neg (n d : Int) (w : World) (hd : 0 < d) (hn1 : -4000000000000000000 ≤ n) (hn2 : n ≤ 4000000000000000000) (hd2 : d ≤ 4000000000000000000) :
    Calls Try.prog 23 #[.int .i64 (-n), .int .i64 (-d)] w fun e w' => e = .returned (.tuple #[.agg #[.int .i64 (mk1 (-n) (-d)), .int .i64 (mk2 (-n) (-d))], .int .i64 (mk3 (-n) (-d))]) ∧ Below w.heap.size w w' := by
  have g1 := gcdZ_pos (n := n) (show d ≠ 0 by omega)
  have hs : -d < 0 := by omega
  cases hf : fitB (numZ n d) (denZ n d)
  · have hq : fitB (n.tdiv (gcdZ n d)) (d / gcdZ n d) = false := hf
    have m1 : Hid (mk1 (-n) (-d) = 0 ∧ mk2 (-n) (-d) = 0 ∧ mk3 (-n) (-d) = 4) := Lib.hid (by unfold mk1 mk2 mk3 sgnN sgnD; simp [hd, hf])
    clear hf
    go_enter Try.func23, Try.ntmps23
    go_wp2_with (go_at_call 20; refine (divisor_any _ _ _ (by omega) (by omega) (by omega) (by omega)).mono ?_; rintro e w' ⟨rfl, nq, rfl⟩)
    go_region
    go_wp2_with (go_at_call 19; refine (fits_any _ _ _).mono ?_; rintro e w1 ⟨rfl, hb⟩; have hc := bcell hb; have hz := bfroz hb)
    have c0 : w1.cell? ⟨w.heap.size, 0, none⟩ = some (.int .i64 0) := by rw [hc _ _ (by simp; omega)]; simp [go_sem]
    have c1 : w1.cell? ⟨w.heap.size, 1, none⟩ = some (.int .i64 0) := by rw [hc _ _ (by simp; omega)]; simp [go_sem]
    refine bodyPost_ret (v := .tuple #[.agg #[.int .i64 0, .int .i64 0], .int .i64 4]) (by simp [results, Try.results23, go_sem, c0, c1]) rfl ⟨?_, ?_⟩
    · rw [m1.out.1, m1.out.2.1, m1.out.2.2]
    · (repeat (first | exact Below.refl _ _ | refine Below.setCell ?_ (by first | (simp; done) | (simp; omega) | omega) _ | refine belowN ?_ _ | refine Below.drew ?_ | refine Below.alloc ?_ (by first | (simp; done) | (simp; omega) | omega) _ | refine Below.trans ?_ (Below.mono (by assumption) (by first | (simp; done) | (simp; omega) | omega))))
  · have hq : fitB (n.tdiv (gcdZ n d)) (d / gcdZ n d) = true := hf
    have m1 : Hid (mk1 (-n) (-d) = n.tdiv (gcdZ n d) ∧ mk2 (-n) (-d) = d / gcdZ n d ∧ mk3 (-n) (-d) = 0) := Lib.hid (by show _ = numZ n d ∧ _ = denZ n d ∧ _; unfold mk1 mk2 mk3 sgnN sgnD; simp [hd, hf])
    clear hf
    go_enter Try.func23, Try.ntmps23
    go_wp2_with (go_at_call 20; refine (divisor_any _ _ _ (by omega) (by omega) (by omega) (by omega)).mono ?_; rintro e w' ⟨rfl, nq, rfl⟩)
    go_region
    go_wp2_with (go_at_call 19; refine (fits_any _ _ _).mono ?_; rintro e w1 ⟨rfl, hb⟩; have hc := bcell hb; have hz := bfroz hb)
    have c0 : w1.cell? ⟨w.heap.size, 0, none⟩ = some (.int .i64 0) := by rw [hc _ _ (by simp; omega)]; simp [go_sem]
    have c1 : w1.cell? ⟨w.heap.size, 1, none⟩ = some (.int .i64 0) := by rw [hc _ _ (by simp; omega)]; simp [go_sem]
    refine bodyPost_ret (v := .tuple #[.agg #[.int .i64 (n.tdiv (gcdZ n d)), .int .i64 (d / gcdZ n d)], .int .i64 0]) (by simp [results, Try.results23, go_sem, c0, c1]) rfl ⟨?_, ?_⟩
    · rw [m1.out.1, m1.out.2.1, m1.out.2.2]
    · (repeat (first | exact Below.refl _ _ | refine Below.setCell ?_ (by first | (simp; done) | (simp; omega) | omega) _ | refine belowN ?_ _ | refine Below.drew ?_ | refine Below.alloc ?_ (by first | (simp; done) | (simp; omega) | omega) _ | refine Below.trans ?_ (Below.mono (by assumption) (by first | (simp; done) | (simp; omega) | omega))))

theorem lowestTerms_any (n d : Int) (w : World) (hd : d ≠ 0) (hn1 : -4000000000000000000 ≤ n) (hn2 : n ≤ 4000000000000000000) (hd1 : -4000000000000000000 ≤ d) (hd2 : d ≤ 4000000000000000000) :
    Calls Try.prog 23 #[.int .i64 n, .int .i64 d] w fun e w' => e = .returned (.tuple #[.agg #[.int .i64 (mk1 n d), .int .i64 (mk2 n d)], .int .i64 (mk3 n d)]) ∧ Below w.heap.size w w' := by
  by_cases hs : d < 0
  · have h := low_neg (-n) (-d) w (by omega) (by omega) (by omega) (by omega)
    rwa [Int.neg_neg, Int.neg_neg] at h
  · exact low_pos n d w (by omega) hn1 hn2 hd2

end Go.Proofs.Ytlfobdnjjbhehaa
