/-
  The sum, the product and the quotient of two valid fractions, the model's and the program's. Conditions: each theorem's own.
-/
import Derived.Test.YtlfobdnjjbhehaaFrac3
namespace Go.Proofs.Ytlfobdnjjbhehaa
open Go.RowKit

set_option maxHeartbeats 400000 in
theorem l01Sum_any (n d p q : Int) (w : World) (hn : -1000000000 ≤ n) (hn2 : n ≤ 1000000000) (hd : 1 ≤ d) (hd2 : d ≤ 1000000000) (hp : -1000000000 ≤ p) (hp2 : p ≤ 1000000000) (hq : 1 ≤ q) (hq2 : q ≤ 1000000000) :
    Calls Try.prog 15 #[.agg #[.int .i64 n, .int .i64 d], .agg #[.int .i64 p, .int .i64 q]] w fun e w' => e = .returned (.tuple #[.agg #[.int .i64 (mk1 (sumN n d p q) (d * q)), .int .i64 (mk2 (sumN n d p q) (d * q))], .int .i64 (mk3 (sumN n d p q) (d * q))]) ∧ Below w.heap.size w w' := by
  obtain ⟨b1, b2⟩ := mul_bd hn hn2 (show -1000000000 ≤ q by omega) hq2
  obtain ⟨b3, b4⟩ := mul_bd hp hp2 (show -1000000000 ≤ d by omega) hd2
  obtain ⟨b5, b6⟩ := mul_bd (show -1000000000 ≤ d by omega) hd2 (show -1000000000 ≤ q by omega) hq2
  obtain ⟨b7, b8⟩ := mul_bd hn hn2 hp hp2
  obtain ⟨b9, b10⟩ := mul_bd (show -1000000000 ≤ d by omega) hd2 hp hp2
  have hD : d * q ≠ 0 := Int.mul_ne_zero (by omega) (by omega)
  go_enter Try.func15, Try.ntmps15
  go_wp2_with (go_at_call 27; refine (l01Make_any _ _ _ hD (by omega) (by omega) (by omega) (by omega)).mono ?_; rintro e w1 ⟨rfl, hb⟩; have hc := bcell hb; have hz := bfroz hb; have c0 : w1.cell? ⟨w.heap.size + 2, 0, none⟩ = some (.int .i64 0) := (by rw [hc _ _ (by simp)]; simp [go_sem]); have c1 : w1.cell? ⟨w.heap.size + 2, 1, none⟩ = some (.int .i64 0) := (by rw [hc _ _ (by simp)]; simp [go_sem]); have z0 : w1.frozen? ⟨w.heap.size + 2, 0, none⟩ = false := (by rw [hz _ _ (by simp)]; simp [go_sem]); have z1 : w1.frozen? ⟨w.heap.size + 2, 1, none⟩ = false := (by rw [hz _ _ (by simp)]; simp [go_sem]); clear hc hz)
  refine bodyPost_ret (v := .tuple #[.agg #[.int .i64 (mk1 (n * q + p * d) (d * q)), .int .i64 (mk2 (n * q + p * d) (d * q))], .int .i64 (mk3 (n * q + p * d) (d * q))]) (by simp [results, Try.results15, go_sem, c0, c1]) rfl ⟨rfl, ?_⟩
  (repeat (first | exact Below.refl _ _ | refine Below.setCell ?_ (by first | (simp; done) | (simp; omega) | omega) _ | refine belowN ?_ _ | refine Below.drew ?_ | refine Below.alloc ?_ (by first | (simp; done) | (simp; omega) | omega) _ | refine Below.trans ?_ (Below.mono (by assumption) (by first | (simp; done) | (simp; omega) | omega))))

set_option maxHeartbeats 400000 in
theorem plus_any (n d p q : Int) (w : World) (hn : -1000000000 ≤ n) (hn2 : n ≤ 1000000000) (hd : 1 ≤ d) (hd2 : d ≤ 1000000000) (hp : -1000000000 ≤ p) (hp2 : p ≤ 1000000000) (hq : 1 ≤ q) (hq2 : q ≤ 1000000000) :
    Calls Try.prog 13 #[.agg #[.int .i64 n, .int .i64 d], .agg #[.int .i64 p, .int .i64 q]] w fun e w' => e = .returned (.tuple #[.agg #[.int .i64 (mk1 (sumN n d p q) (d * q)), .int .i64 (mk2 (sumN n d p q) (d * q))], .int .i64 (mk3 (sumN n d p q) (d * q))]) ∧ Below w.heap.size w w' := by
  obtain ⟨b1, b2⟩ := mul_bd hn hn2 (show -1000000000 ≤ q by omega) hq2
  obtain ⟨b3, b4⟩ := mul_bd hp hp2 (show -1000000000 ≤ d by omega) hd2
  obtain ⟨b5, b6⟩ := mul_bd (show -1000000000 ≤ d by omega) hd2 (show -1000000000 ≤ q by omega) hq2
  obtain ⟨b7, b8⟩ := mul_bd hn hn2 hp hp2
  obtain ⟨b9, b10⟩ := mul_bd (show -1000000000 ≤ d by omega) hd2 hp hp2
  have hD : d * q ≠ 0 := Int.mul_ne_zero (by omega) (by omega)
  go_enter Try.func13, Try.ntmps13
  go_wp2_with (go_at_call 23; refine (lowestTerms_any _ _ _ hD (by omega) (by omega) (by omega) (by omega)).mono ?_; rintro e w1 ⟨rfl, hb⟩; have hc := bcell hb; have hz := bfroz hb; have c0 : w1.cell? ⟨w.heap.size + 2, 0, none⟩ = some (.int .i64 0) := (by rw [hc _ _ (by simp)]; simp [go_sem]); have c1 : w1.cell? ⟨w.heap.size + 2, 1, none⟩ = some (.int .i64 0) := (by rw [hc _ _ (by simp)]; simp [go_sem]); have z0 : w1.frozen? ⟨w.heap.size + 2, 0, none⟩ = false := (by rw [hz _ _ (by simp)]; simp [go_sem]); have z1 : w1.frozen? ⟨w.heap.size + 2, 1, none⟩ = false := (by rw [hz _ _ (by simp)]; simp [go_sem]); clear hc hz)
  refine bodyPost_ret (v := .tuple #[.agg #[.int .i64 (mk1 (n * q + p * d) (d * q)), .int .i64 (mk2 (n * q + p * d) (d * q))], .int .i64 (mk3 (n * q + p * d) (d * q))]) (by simp [results, Try.results13, go_sem, c0, c1]) rfl ⟨rfl, ?_⟩
  (repeat (first | exact Below.refl _ _ | refine Below.setCell ?_ (by first | (simp; done) | (simp; omega) | omega) _ | refine belowN ?_ _ | refine Below.drew ?_ | refine Below.alloc ?_ (by first | (simp; done) | (simp; omega) | omega) _ | refine Below.trans ?_ (Below.mono (by assumption) (by first | (simp; done) | (simp; omega) | omega))))

set_option maxHeartbeats 400000 in
theorem times_any (n d p q : Int) (w : World) (hn : -1000000000 ≤ n) (hn2 : n ≤ 1000000000) (hd : 1 ≤ d) (hd2 : d ≤ 1000000000) (hp : -1000000000 ≤ p) (hp2 : p ≤ 1000000000) (hq : 1 ≤ q) (hq2 : q ≤ 1000000000) :
    Calls Try.prog 17 #[.agg #[.int .i64 n, .int .i64 d], .agg #[.int .i64 p, .int .i64 q]] w fun e w' => e = .returned (.tuple #[.agg #[.int .i64 (mk1 (n * p) (d * q)), .int .i64 (mk2 (n * p) (d * q))], .int .i64 (mk3 (n * p) (d * q))]) ∧ Below w.heap.size w w' := by
  obtain ⟨b1, b2⟩ := mul_bd hn hn2 (show -1000000000 ≤ q by omega) hq2
  obtain ⟨b3, b4⟩ := mul_bd hp hp2 (show -1000000000 ≤ d by omega) hd2
  obtain ⟨b5, b6⟩ := mul_bd (show -1000000000 ≤ d by omega) hd2 (show -1000000000 ≤ q by omega) hq2
  obtain ⟨b7, b8⟩ := mul_bd hn hn2 hp hp2
  obtain ⟨b9, b10⟩ := mul_bd (show -1000000000 ≤ d by omega) hd2 hp hp2
  have hD : d * q ≠ 0 := Int.mul_ne_zero (by omega) (by omega)
  go_enter Try.func17, Try.ntmps17
  go_wp2_with (go_at_call 23; refine (lowestTerms_any _ _ _ hD (by omega) (by omega) (by omega) (by omega)).mono ?_; rintro e w1 ⟨rfl, hb⟩; have hc := bcell hb; have hz := bfroz hb; have c0 : w1.cell? ⟨w.heap.size + 2, 0, none⟩ = some (.int .i64 0) := (by rw [hc _ _ (by simp)]; simp [go_sem]); have c1 : w1.cell? ⟨w.heap.size + 2, 1, none⟩ = some (.int .i64 0) := (by rw [hc _ _ (by simp)]; simp [go_sem]); have z0 : w1.frozen? ⟨w.heap.size + 2, 0, none⟩ = false := (by rw [hz _ _ (by simp)]; simp [go_sem]); have z1 : w1.frozen? ⟨w.heap.size + 2, 1, none⟩ = false := (by rw [hz _ _ (by simp)]; simp [go_sem]); clear hc hz)
  refine bodyPost_ret (v := .tuple #[.agg #[.int .i64 (mk1 (n * p) (d * q)), .int .i64 (mk2 (n * p) (d * q))], .int .i64 (mk3 (n * p) (d * q))]) (by simp [results, Try.results17, go_sem, c0, c1]) rfl ⟨rfl, ?_⟩
  (repeat (first | exact Below.refl _ _ | refine Below.setCell ?_ (by first | (simp; done) | (simp; omega) | omega) _ | refine belowN ?_ _ | refine Below.drew ?_ | refine Below.alloc ?_ (by first | (simp; done) | (simp; omega) | omega) _ | refine Below.trans ?_ (Below.mono (by assumption) (by first | (simp; done) | (simp; omega) | omega))))

set_option maxHeartbeats 400000 in
theorem over_any (n d p q : Int) (w : World) (hn : -1000000000 ≤ n) (hn2 : n ≤ 1000000000) (hd : 1 ≤ d) (hd2 : d ≤ 1000000000) (hp : -1000000000 ≤ p) (hp2 : p ≤ 1000000000) (hq : 1 ≤ q) (hq2 : q ≤ 1000000000) (h0 : p ≠ 0) :
    Calls Try.prog 18 #[.agg #[.int .i64 n, .int .i64 d], .agg #[.int .i64 p, .int .i64 q]] w fun e w' => e = .returned (.tuple #[.agg #[.int .i64 (mk1 (n * q) (d * p)), .int .i64 (mk2 (n * q) (d * p))], .int .i64 (mk3 (n * q) (d * p))]) ∧ Below w.heap.size w w' := by
  obtain ⟨b1, b2⟩ := mul_bd hn hn2 (show -1000000000 ≤ q by omega) hq2
  obtain ⟨b3, b4⟩ := mul_bd hp hp2 (show -1000000000 ≤ d by omega) hd2
  obtain ⟨b5, b6⟩ := mul_bd (show -1000000000 ≤ d by omega) hd2 (show -1000000000 ≤ q by omega) hq2
  obtain ⟨b7, b8⟩ := mul_bd hn hn2 hp hp2
  obtain ⟨b9, b10⟩ := mul_bd (show -1000000000 ≤ d by omega) hd2 hp hp2
  have hD : d * p ≠ 0 := Int.mul_ne_zero (by omega) (by omega)
  go_enter Try.func18, Try.ntmps18
  go_wp2_with (go_at_call 23; refine (lowestTerms_any _ _ _ hD (by omega) (by omega) (by omega) (by omega)).mono ?_; rintro e w1 ⟨rfl, hb⟩; have hc := bcell hb; have hz := bfroz hb; have c0 : w1.cell? ⟨w.heap.size + 2, 0, none⟩ = some (.int .i64 0) := (by rw [hc _ _ (by simp)]; simp [go_sem]); have c1 : w1.cell? ⟨w.heap.size + 2, 1, none⟩ = some (.int .i64 0) := (by rw [hc _ _ (by simp)]; simp [go_sem]); have z0 : w1.frozen? ⟨w.heap.size + 2, 0, none⟩ = false := (by rw [hz _ _ (by simp)]; simp [go_sem]); have z1 : w1.frozen? ⟨w.heap.size + 2, 1, none⟩ = false := (by rw [hz _ _ (by simp)]; simp [go_sem]); clear hc hz)
  refine bodyPost_ret (v := .tuple #[.agg #[.int .i64 (mk1 (n * q) (d * p)), .int .i64 (mk2 (n * q) (d * p))], .int .i64 (mk3 (n * q) (d * p))]) (by simp [results, Try.results18, go_sem, c0, c1]) rfl ⟨rfl, ?_⟩
  (repeat (first | exact Below.refl _ _ | refine Below.setCell ?_ (by first | (simp; done) | (simp; omega) | omega) _ | refine belowN ?_ _ | refine Below.drew ?_ | refine Below.alloc ?_ (by first | (simp; done) | (simp; omega) | omega) _ | refine Below.trans ?_ (Below.mono (by assumption) (by first | (simp; done) | (simp; omega) | omega))))

set_option maxHeartbeats 400000 in
theorem compare_any (n d p q : Int) (w : World) (hn : -1000000000 ≤ n) (hn2 : n ≤ 1000000000) (hd : 1 ≤ d) (hd2 : d ≤ 1000000000) (hp : -1000000000 ≤ p) (hp2 : p ≤ 1000000000) (hq : 1 ≤ q) (hq2 : q ≤ 1000000000) :
    Calls Try.prog 16 #[.agg #[.int .i64 n, .int .i64 d], .agg #[.int .i64 p, .int .i64 q]] w fun e w' => e = .returned (.int .i64 (cmpZ n d p q)) ∧ Below w.heap.size w w' := by
  obtain ⟨b1, b2⟩ := mul_bd hn hn2 (show -1000000000 ≤ q by omega) hq2
  obtain ⟨b3, b4⟩ := mul_bd hp hp2 (show -1000000000 ≤ d by omega) hd2
  have K : Hid (cmpZ n d p q = if n * q < p * d then -1 else if p * d < n * q then 1 else 0) := Lib.hid rfl
  by_cases h1 : n * q < p * d
  · go_enter Try.func16, Try.ntmps16
    go_wp2
    go_quiet (fail)
    go_wp2
    go_ret
    exact ⟨ret_i64 (by rw [K.out, if_pos h1]), by (repeat (first | exact Below.refl _ _ | refine Below.setCell ?_ (by first | (simp; done) | (simp; omega) | omega) _ | refine belowN ?_ _ | refine Below.drew ?_ | refine Below.alloc ?_ (by first | (simp; done) | (simp; omega) | omega) _ | refine Below.trans ?_ (Below.mono (by assumption) (by first | (simp; done) | (simp; omega) | omega))))⟩
  · by_cases h2 : p * d < n * q
    · go_enter Try.func16, Try.ntmps16
      go_wp2
      go_quiet (fail)
      go_wp2
      go_ret
      exact ⟨ret_i64 (by rw [K.out, if_neg (by omega), if_pos h2]), by (repeat (first | exact Below.refl _ _ | refine Below.setCell ?_ (by first | (simp; done) | (simp; omega) | omega) _ | refine belowN ?_ _ | refine Below.drew ?_ | refine Below.alloc ?_ (by first | (simp; done) | (simp; omega) | omega) _ | refine Below.trans ?_ (Below.mono (by assumption) (by first | (simp; done) | (simp; omega) | omega))))⟩
    · go_enter Try.func16, Try.ntmps16
      go_wp2
      go_quiet (fail)
      go_wp2
      go_ret
      exact ⟨ret_i64 (by rw [K.out, if_neg (by omega), if_neg (by omega)]), by (repeat (first | exact Below.refl _ _ | refine Below.setCell ?_ (by first | (simp; done) | (simp; omega) | omega) _ | refine belowN ?_ _ | refine Below.drew ?_ | refine Below.alloc ?_ (by first | (simp; done) | (simp; omega) | omega) _ | refine Below.trans ?_ (Below.mono (by assumption) (by first | (simp; done) | (simp; omega) | omega))))⟩

end Go.Proofs.Ytlfobdnjjbhehaa
