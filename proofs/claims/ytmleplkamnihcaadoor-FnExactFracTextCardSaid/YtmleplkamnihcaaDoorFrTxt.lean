/-
  The text of a fraction, the model's and the program's. Conditions: each theorem's own.
-/
import Derived.Test.YtmleplkamnihcaaDoorPtTxt
import Derived.Test.YtmleplkamnihcaaDoorFrac2
namespace Go.Proofs.YtmleplkamnihcaaDoor
open Go.RowKit

theorem toFrac_any (n d : Int) (w : World) : Calls Tryd.prog 32 #[.agg #[.int .i64 n, .int .i64 d]] w fun e w' => e = .returned (.agg #[.int .i64 n, .int .i64 d]) ∧
    ((w.alloc (.cells #[.int .i64 n, .int .i64 d] 43)).alloc (.cells #[.int .i64 n, .int .i64 d] 45)).alloc (.cells #[.int .i64 n, .int .i64 d] 45) = w' := by
  go_enter Tryd.func32, Tryd.ntmps32
  go_wp2
  exact bodyPost_ret (v := .agg #[.int .i64 n, .int .i64 d]) (by simp [results, Tryd.results32, go_sem]) rfl ⟨rfl, rfl⟩

def frText (n d : Int) : ByteArray := if fracB n d = true then (if d = 1 then ⟨(Lib.itoa n).toArray⟩ else twoNum n d 47) else ⟨#[]⟩

theorem specFracText_no (n d : Int) (w : World) (h : fracB n d = false) : Calls Tryd.prog 31 #[.agg #[.int .i64 n, .int .i64 d]] w fun e w' => e = .returned (.string (frText n d)) ∧ Below w.heap.size w w' := by
  have K : Hid (frText n d = ⟨#[]⟩) := Lib.hid (by unfold frText; rw [h]; rfl)
  go_enter Tryd.func31, Tryd.ntmps31
  go_wp2_with fail
  refine (l01Frac_any n d _).mono ?_
  rintro e w1 ⟨rfl, hb1⟩
  obtain ⟨c0, c1, -, -⟩ := Two.below (b := w.heap.size) (x := .int .i64 n) (y := .int .i64 d) ⟨by simp [go_sem], by simp [go_sem], by simp [go_sem], by simp [go_sem]⟩ hb1
  have s1 := hb1.size
  simp at s1
  go_wp2
  go_ret
  exact ⟨ret_str (by rw [K.out]), by (repeat (first | exact Below.refl _ _ | refine Below.setCell ?_ (by first | (simp; done) | (simp; omega) | omega) _ | refine belowN ?_ _ | refine Below.drew ?_ | refine Below.alloc ?_ (by first | (simp; done) | (simp; omega) | omega) _ | refine Below.trans ?_ (Below.mono (by assumption) (by first | (simp; done) | (simp; omega) | omega))))⟩

theorem specFracText_one (n : Int) (w : World) (h : fracB n 1 = true) : Calls Tryd.prog 31 #[.agg #[.int .i64 n, .int .i64 1]] w fun e w' => e = .returned (.string (frText n 1)) ∧ Below w.heap.size w w' := by
  have K : Hid (frText n 1 = ⟨(Lib.itoa n).toArray⟩) := Lib.hid (by unfold frText; rw [if_pos h, if_pos rfl])
  obtain ⟨⟨⟨f1, f2⟩, f3, f4⟩, -⟩ := fracB_iff.1 h
  go_enter Tryd.func31, Tryd.ntmps31
  go_wp2_with fail
  refine (l01Frac_any n 1 _).mono ?_
  rintro e w1 ⟨rfl, hb1⟩
  obtain ⟨c0, c1, -, -⟩ := Two.below (b := w.heap.size) (x := .int .i64 n) (y := .int .i64 1) ⟨by simp [go_sem], by simp [go_sem], by simp [go_sem], by simp [go_sem]⟩ hb1
  have s1 := hb1.size
  simp at s1
  go_wp2_with fail
  refine (specDecimal_any n _ (by omega) (by omega)).mono ?_
  rintro e w2 ⟨rfl, hb2⟩
  go_wp2
  go_ret
  exact ⟨ret_str (by rw [K.out]), by (repeat (first | exact Below.refl _ _ | refine Below.setCell ?_ (by first | (simp; done) | (simp; omega) | omega) _ | refine belowN ?_ _ | refine Below.drew ?_ | refine Below.alloc ?_ (by first | (simp; done) | (simp; omega) | omega) _ | refine Below.trans ?_ (Below.mono (by assumption) (by first | (simp; done) | (simp; omega) | omega))))⟩

set_option maxHeartbeats 1000000 in
theorem specFracText_two (n d : Int) (w : World) (h : fracB n d = true) (h1 : (d == 1) = false) : Calls Tryd.prog 31 #[.agg #[.int .i64 n, .int .i64 d]] w fun e w' => e = .returned (.string (frText n d)) ∧ Below w.heap.size w w' := by
  have K : Hid (frText n d = twoNum n d 47) := Lib.hid (by unfold frText; rw [if_pos h, if_neg (by simpa using h1)])
  obtain ⟨⟨⟨f1, f2⟩, f3, f4⟩, -⟩ := fracB_iff.1 h
  have l1 := Lib.itoa_length_le n (by omega) (by omega)
  have l2 := Lib.itoa_length_le d (by omega) (by omega)
  have m1 : ¬ 9223372036854775807 < (Lib.itoa n).length + 1 := by omega
  have m2 : ¬ 9223372036854775807 < (Lib.itoa n).length + 1 + (Lib.itoa d).length := by omega
  go_enter Tryd.func31, Tryd.ntmps31
  go_wp2_with fail
  refine (l01Frac_any n d _).mono ?_
  rintro e w1 ⟨rfl, hb1⟩
  obtain ⟨c0, c1, -, -⟩ := Two.below (b := w.heap.size) (x := .int .i64 n) (y := .int .i64 d) ⟨by simp [go_sem], by simp [go_sem], by simp [go_sem], by simp [go_sem]⟩ hb1
  have s1 := hb1.size
  simp at s1
  go_wp2_with fail
  go_region_held3 (fun w' => w'.cell? ⟨w.heap.size, 0, none⟩ = some (.int .i64 n) ∧ w'.cell? ⟨w.heap.size, 1, none⟩ = some (.int .i64 d)) ((((try go_split_ands); (try dsimp only); (repeat' apply And.intro)) <;> (repeat (first | with_reducible assumption | ((with_reducible refine cnew0 ?_); simp; done) | ((with_reducible refine cnew1 ?_); simp; done) | (with_reducible refine akeep ?_) | (with_reducible refine dkeep ?_) | ((with_reducible refine skeep ?_ ?_); rotate_left; (first | ((try dsimp only); omega) | (simp; done) | (simp; omega))) | (with_reducible refine bkeep hb3 ?_)))))
    (first
      | (go_at_call_of 15 (Value.int IntKind.i64 n); refine (specDecimal_any n _ (by omega) (by omega)).mono ?_; rintro e w2 ⟨rfl, hb3⟩; have s2 := hb3.size; (try simp at s2))
      | (go_at_call_of 15 (Value.int IntKind.i64 d); refine (specDecimal_any d _ (by omega) (by omega)).mono ?_; rintro e w3 ⟨rfl, hb3⟩; have s3 := hb3.size; (try simp at s3)))
  go_wp2
  go_ret
  exact ⟨ret_str (by rw [K.out]; rfl), by (repeat (first | exact Below.refl _ _ | refine Below.setCell ?_ (by first | (simp; done) | (simp; omega) | omega) _ | refine belowN ?_ _ | refine Below.drew ?_ | refine Below.alloc ?_ (by first | (simp; done) | (simp; omega) | omega) _ | refine Below.trans ?_ (Below.mono (by assumption) (by first | (simp; done) | (simp; omega) | omega))))⟩

theorem specFracText_any (n d : Int) (w : World) : Calls Tryd.prog 31 #[.agg #[.int .i64 n, .int .i64 d]] w fun e w' => e = .returned (.string (frText n d)) ∧ Below w.heap.size w w' := by
  cases h : fracB n d
  · exact specFracText_no n d w h
  · by_cases h1 : d = 1
    · subst h1; exact specFracText_one n w h
    · exact specFracText_two n d w h (by simpa using h1)

theorem implFracText_no (n d : Int) (w : World) (h : fracB n d = false) : Calls Tryd.prog 33 #[.agg #[.int .i64 n, .int .i64 d]] w fun e w' => e = .returned (.string (frText n d)) ∧ Below w.heap.size w w' := by
  have K : Hid (frText n d = ⟨#[]⟩) := Lib.hid (by unfold frText; rw [h]; rfl)
  go_enter Tryd.func33, Tryd.ntmps33
  go_wp2_with fail
  refine (validFrac_any n d _).mono ?_
  rintro e w1 ⟨rfl, hb1⟩
  obtain ⟨c0, c1, -, -⟩ := Two.below (b := w.heap.size) (x := .int .i64 n) (y := .int .i64 d) ⟨by simp [go_sem], by simp [go_sem], by simp [go_sem], by simp [go_sem]⟩ hb1
  have s1 := hb1.size
  simp at s1
  go_wp2
  go_ret
  exact ⟨ret_str (by rw [K.out]), by (repeat (first | exact Below.refl _ _ | refine Below.setCell ?_ (by first | (simp; done) | (simp; omega) | omega) _ | refine belowN ?_ _ | refine Below.drew ?_ | refine Below.alloc ?_ (by first | (simp; done) | (simp; omega) | omega) _ | refine Below.trans ?_ (Below.mono (by assumption) (by first | (simp; done) | (simp; omega) | omega))))⟩

theorem implFracText_one (n : Int) (w : World) (hT : Tab w) (h : fracB n 1 = true) : Calls Tryd.prog 33 #[.agg #[.int .i64 n, .int .i64 1]] w fun e w' => e = .returned (.string (frText n 1)) ∧ Below w.heap.size w w' := by
  have K : Hid (frText n 1 = ⟨(Lib.itoa n).toArray⟩) := Lib.hid (by unfold frText; rw [if_pos h, if_pos rfl])
  obtain ⟨⟨⟨f1, f2⟩, f3, f4⟩, -⟩ := fracB_iff.1 h
  have hlt := hT.lt
  have HT := Lib.hid hT
  clear hT
  go_enter Tryd.func33, Tryd.ntmps33
  go_wp2_with fail
  refine (validFrac_any n 1 _).mono ?_
  rintro e w1 ⟨rfl, hb1⟩
  obtain ⟨c0, c1, -, -⟩ := Two.below (b := w.heap.size) (x := .int .i64 n) (y := .int .i64 1) ⟨by simp [go_sem], by simp [go_sem], by simp [go_sem], by simp [go_sem]⟩ hb1
  have s1 := hb1.size
  simp at s1
  go_wp2_with fail
  refine (implDecimal_any n _ (HT.out.below (B := w.heap.size) (by (repeat (first | exact Below.refl _ _ | refine Below.setCell ?_ (by first | (simp; done) | (simp; omega) | omega) _ | refine belowN ?_ _ | refine Below.drew ?_ | refine Below.alloc ?_ (by first | (simp; done) | (simp; omega) | omega) _ | refine Below.trans ?_ (Below.mono (by assumption) (by first | (simp; done) | (simp; omega) | omega))))) hlt) (by omega) (by omega)).mono ?_
  rintro e w2 ⟨rfl, hb2⟩
  go_wp2
  go_ret
  exact ⟨ret_str (by rw [K.out]), by (repeat (first | exact Below.refl _ _ | refine Below.setCell ?_ (by first | (simp; done) | (simp; omega) | omega) _ | refine belowN ?_ _ | refine Below.drew ?_ | refine Below.alloc ?_ (by first | (simp; done) | (simp; omega) | omega) _ | refine Below.trans ?_ (Below.mono (by assumption) (by first | (simp; done) | (simp; omega) | omega))))⟩

set_option maxHeartbeats 1000000 in
theorem implFracText_two (n d : Int) (w : World) (hT : Tab w) (h : fracB n d = true) (h1 : (d == 1) = false) : Calls Tryd.prog 33 #[.agg #[.int .i64 n, .int .i64 d]] w fun e w' => e = .returned (.string (frText n d)) ∧ Below w.heap.size w w' := by
  have K : Hid (frText n d = twoNum n d 47) := Lib.hid (by unfold frText; rw [if_pos h, if_neg (by simpa using h1)])
  obtain ⟨⟨⟨f1, f2⟩, f3, f4⟩, -⟩ := fracB_iff.1 h
  have hlt := hT.lt
  have HT := Lib.hid hT
  clear hT
  have l1 := Lib.itoa_length_le n (by omega) (by omega)
  have l2 := Lib.itoa_length_le d (by omega) (by omega)
  have m1 : ¬ 9223372036854775807 < (Lib.itoa n).length + 1 := by omega
  have m2 : ¬ 9223372036854775807 < (Lib.itoa n).length + 1 + (Lib.itoa d).length := by omega
  go_enter Tryd.func33, Tryd.ntmps33
  go_wp2_with fail
  refine (validFrac_any n d _).mono ?_
  rintro e w1 ⟨rfl, hb1⟩
  obtain ⟨c0, c1, -, -⟩ := Two.below (b := w.heap.size) (x := .int .i64 n) (y := .int .i64 d) ⟨by simp [go_sem], by simp [go_sem], by simp [go_sem], by simp [go_sem]⟩ hb1
  have s1 := hb1.size
  simp at s1
  go_wp2_with fail
  go_region_held3 (fun w' => w'.cell? ⟨w.heap.size, 0, none⟩ = some (.int .i64 n) ∧ w'.cell? ⟨w.heap.size, 1, none⟩ = some (.int .i64 d)) ((((try go_split_ands); (try dsimp only); (repeat' apply And.intro)) <;> (repeat (first | with_reducible assumption | ((with_reducible refine cnew0 ?_); simp; done) | ((with_reducible refine cnew1 ?_); simp; done) | (with_reducible refine akeep ?_) | (with_reducible refine dkeep ?_) | ((with_reducible refine skeep ?_ ?_); rotate_left; (first | ((try dsimp only); omega) | (simp; done) | (simp; omega))) | (with_reducible refine bkeep hb3 ?_)))))
    (first
      | (go_at_call_of 16 (Value.int IntKind.i64 n); refine (implDecimal_any n _ (HT.out.below (B := w.heap.size) (by (repeat (first | exact Below.refl _ _ | refine Below.setCell ?_ (by first | (simp; done) | (simp; omega) | omega) _ | refine belowN ?_ _ | refine Below.drew ?_ | refine Below.alloc ?_ (by first | (simp; done) | (simp; omega) | omega) _ | refine Below.trans ?_ (Below.mono (by assumption) (by first | (simp; done) | (simp; omega) | omega))))) hlt) (by omega) (by omega)).mono ?_; rintro e w2 ⟨rfl, hb3⟩; have s2 := hb3.size; (try simp at s2))
      | (go_at_call_of 16 (Value.int IntKind.i64 d); refine (implDecimal_any d _ (HT.out.below (B := w.heap.size) (by (repeat (first | exact Below.refl _ _ | refine Below.setCell ?_ (by first | (simp; done) | (simp; omega) | omega) _ | refine belowN ?_ _ | refine Below.drew ?_ | refine Below.alloc ?_ (by first | (simp; done) | (simp; omega) | omega) _ | refine Below.trans ?_ (Below.mono (by assumption) (by first | (simp; done) | (simp; omega) | omega))))) hlt) (by omega) (by omega)).mono ?_; rintro e w3 ⟨rfl, hb3⟩; have s3 := hb3.size; (try simp at s3)))
  go_wp2
  go_ret
  exact ⟨ret_str (by rw [K.out]; rfl), by (repeat (first | exact Below.refl _ _ | refine Below.setCell ?_ (by first | (simp; done) | (simp; omega) | omega) _ | refine belowN ?_ _ | refine Below.drew ?_ | refine Below.alloc ?_ (by first | (simp; done) | (simp; omega) | omega) _ | refine Below.trans ?_ (Below.mono (by assumption) (by first | (simp; done) | (simp; omega) | omega))))⟩

theorem implFracText_any (n d : Int) (w : World) (hT : Tab w) : Calls Tryd.prog 33 #[.agg #[.int .i64 n, .int .i64 d]] w fun e w' => e = .returned (.string (frText n d)) ∧ Below w.heap.size w w' := by
  cases h : fracB n d
  · exact implFracText_no n d w h
  · by_cases h1 : d = 1
    · subst h1; exact implFracText_one n w hT h
    · exact implFracText_two n d w hT h (by simpa using h1)

end Go.Proofs.YtmleplkamnihcaaDoor
