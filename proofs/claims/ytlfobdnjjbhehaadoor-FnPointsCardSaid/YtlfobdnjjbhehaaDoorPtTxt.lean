/-
  The text of a point, the model's and the program's; the law FnExactPointText. Condition: the library's listed tables start as its text lays them (the card ties them).
-/
import Derived.Test.YtlfobdnjjbhehaaDoorDecI
import Derived.Test.YtlfobdnjjbhehaaDoorPoint
namespace Go.Proofs.YtlfobdnjjbhehaaDoor
open Go.RowKit

/-- Two numerals with one byte between them. -/
def twoNum (x y : Int) (c : UInt8) : ByteArray := (⟨(Lib.itoa x).toArray⟩ ++ ⟨#[c]⟩) ++ ⟨(Lib.itoa y).toArray⟩
def ptText (x y : Int) : ByteArray := if ptB x y = true then twoNum x y 44 else ⟨#[]⟩

theorem specPointText_no (x y : Int) (w : World) (h : ptB x y = false) : Calls Tryd.prog 9 #[.agg #[.int .i64 x, .int .i64 y]] w fun e w' => e = .returned (.string (ptText x y)) ∧ Below w.heap.size w w' := by
  have K : Hid (ptText x y = ⟨#[]⟩) := Lib.hid (by unfold ptText; rw [h]; rfl)
  go_enter Tryd.func9, Tryd.ntmps9
  go_wp2_with (go_at_call 20; refine (l01Point_any x y _).mono ?_; rintro e w1 ⟨rfl, hb1⟩)
  go_ret
  exact ⟨ret_str (by rw [K.out]), by (repeat (first | exact Below.refl _ _ | refine Below.setCell ?_ (by first | (simp; done) | (simp; omega) | omega) _ | refine belowN ?_ _ | refine Below.drew ?_ | refine Below.alloc ?_ (by first | (simp; done) | (simp; omega) | omega) _ | refine Below.trans ?_ (Below.mono (by assumption) (by first | (simp; done) | (simp; omega) | omega))))⟩

set_option maxHeartbeats 1000000 in
theorem specPointText_yes (x y : Int) (w : World) (h : ptB x y = true) : Calls Tryd.prog 9 #[.agg #[.int .i64 x, .int .i64 y]] w fun e w' => e = .returned (.string (ptText x y)) ∧ Below w.heap.size w w' := by
  have K : Hid (ptText x y = twoNum x y 44) := Lib.hid (by unfold ptText; rw [if_pos h])
  obtain ⟨⟨p1, p2⟩, p3, p4⟩ := ptB_iff.1 h
  have l1 := Lib.itoa_length_le x (by omega) (by omega)
  have l2 := Lib.itoa_length_le y (by omega) (by omega)
  have m1 : ¬ 9223372036854775807 < (Lib.itoa x).length + 1 := by omega
  have m2 : ¬ 9223372036854775807 < (Lib.itoa x).length + 1 + (Lib.itoa y).length := by omega
  go_enter Tryd.func9, Tryd.ntmps9
  go_wp2_with fail
  refine (l01Point_any x y _).mono ?_
  rintro e w1 ⟨rfl, hb1⟩
  obtain ⟨c0, c1, -, -⟩ := Two.below (b := w.heap.size) (x := .int .i64 x) (y := .int .i64 y) ⟨by simp [go_sem], by simp [go_sem], by simp [go_sem], by simp [go_sem]⟩ hb1
  have s1 := hb1.size
  simp at s1
  go_wp2_with fail
  go_region_held3 (fun w' => w'.cell? ⟨w.heap.size, 0, none⟩ = some (.int .i64 x) ∧ w'.cell? ⟨w.heap.size, 1, none⟩ = some (.int .i64 y)) ((((try go_split_ands); (try dsimp only); (repeat' apply And.intro)) <;> (repeat (first | with_reducible assumption | ((with_reducible refine cnew0 ?_); simp; done) | ((with_reducible refine cnew1 ?_); simp; done) | (with_reducible refine akeep ?_) | (with_reducible refine dkeep ?_) | ((with_reducible refine skeep ?_ ?_); rotate_left; (first | ((try dsimp only); omega) | (simp; done) | (simp; omega))) | (with_reducible refine bkeep hb3 ?_)))))
    (first
      | (go_at_call_of 24 (Value.int IntKind.i64 x); refine (specDecimal_any x _ (by omega) (by omega)).mono ?_; rintro e w2 ⟨rfl, hb3⟩; have s2 := hb3.size; (try simp at s2))
      | (go_at_call_of 24 (Value.int IntKind.i64 y); refine (specDecimal_any y _ (by omega) (by omega)).mono ?_; rintro e w3 ⟨rfl, hb3⟩; have s3 := hb3.size; (try simp at s3)))
  go_wp2
  go_ret
  exact ⟨ret_str (by rw [K.out]; rfl), by (repeat (first | exact Below.refl _ _ | refine Below.setCell ?_ (by first | (simp; done) | (simp; omega) | omega) _ | refine belowN ?_ _ | refine Below.drew ?_ | refine Below.alloc ?_ (by first | (simp; done) | (simp; omega) | omega) _ | refine Below.trans ?_ (Below.mono (by assumption) (by first | (simp; done) | (simp; omega) | omega))))⟩

theorem implPointText_no (x y : Int) (w : World) (h : ptB x y = false) : Calls Tryd.prog 8 #[.agg #[.int .i64 x, .int .i64 y]] w fun e w' => e = .returned (.string (ptText x y)) ∧ Below w.heap.size w w' := by
  have K : Hid (ptText x y = ⟨#[]⟩) := Lib.hid (by unfold ptText; rw [h]; rfl)
  go_enter Tryd.func8, Tryd.ntmps8
  go_wp2_with (go_at_call 17; refine (implValidPoint_any x y _).mono ?_; rintro e w1 ⟨rfl, hb1⟩)
  go_ret
  exact ⟨ret_str (by rw [K.out]), by (repeat (first | exact Below.refl _ _ | refine Below.setCell ?_ (by first | (simp; done) | (simp; omega) | omega) _ | refine belowN ?_ _ | refine Below.drew ?_ | refine Below.alloc ?_ (by first | (simp; done) | (simp; omega) | omega) _ | refine Below.trans ?_ (Below.mono (by assumption) (by first | (simp; done) | (simp; omega) | omega))))⟩

set_option maxHeartbeats 1000000 in
theorem implPointText_yes (x y : Int) (w : World) (hT : Tab w) (h : ptB x y = true) : Calls Tryd.prog 8 #[.agg #[.int .i64 x, .int .i64 y]] w fun e w' => e = .returned (.string (ptText x y)) ∧ Below w.heap.size w w' := by
  have K : Hid (ptText x y = twoNum x y 44) := Lib.hid (by unfold ptText; rw [if_pos h])
  obtain ⟨⟨p1, p2⟩, p3, p4⟩ := ptB_iff.1 h
  have hlt := hT.lt
  have HT := Lib.hid hT
  clear hT
  have l1 := Lib.itoa_length_le x (by omega) (by omega)
  have l2 := Lib.itoa_length_le y (by omega) (by omega)
  have m1 : ¬ 9223372036854775807 < (Lib.itoa x).length + 1 := by omega
  have m2 : ¬ 9223372036854775807 < (Lib.itoa x).length + 1 + (Lib.itoa y).length := by omega
  go_enter Tryd.func8, Tryd.ntmps8
  go_wp2_with fail
  refine (implValidPoint_any x y _).mono ?_
  rintro e w1 ⟨rfl, hb1⟩
  obtain ⟨c0, c1, -, -⟩ := Two.below (b := w.heap.size) (x := .int .i64 x) (y := .int .i64 y) ⟨by simp [go_sem], by simp [go_sem], by simp [go_sem], by simp [go_sem]⟩ hb1
  have s1 := hb1.size
  simp at s1
  go_wp2_with fail
  go_region_held3 (fun w' => w'.cell? ⟨w.heap.size, 0, none⟩ = some (.int .i64 x) ∧ w'.cell? ⟨w.heap.size, 1, none⟩ = some (.int .i64 y)) ((((try go_split_ands); (try dsimp only); (repeat' apply And.intro)) <;> (repeat (first | with_reducible assumption | ((with_reducible refine cnew0 ?_); simp; done) | ((with_reducible refine cnew1 ?_); simp; done) | (with_reducible refine akeep ?_) | (with_reducible refine dkeep ?_) | ((with_reducible refine skeep ?_ ?_); rotate_left; (first | ((try dsimp only); omega) | (simp; done) | (simp; omega))) | (with_reducible refine bkeep hb3 ?_)))))
    (first
      | (go_at_call_of 23 (Value.int IntKind.i64 x); refine (implDecimal_any x _ (HT.out.below (B := w.heap.size) (by (repeat (first | exact Below.refl _ _ | refine Below.setCell ?_ (by first | (simp; done) | (simp; omega) | omega) _ | refine belowN ?_ _ | refine Below.drew ?_ | refine Below.alloc ?_ (by first | (simp; done) | (simp; omega) | omega) _ | refine Below.trans ?_ (Below.mono (by assumption) (by first | (simp; done) | (simp; omega) | omega))))) hlt) (by omega) (by omega)).mono ?_; rintro e w2 ⟨rfl, hb3⟩; have s2 := hb3.size; (try simp at s2))
      | (go_at_call_of 23 (Value.int IntKind.i64 y); refine (implDecimal_any y _ (HT.out.below (B := w.heap.size) (by (repeat (first | exact Below.refl _ _ | refine Below.setCell ?_ (by first | (simp; done) | (simp; omega) | omega) _ | refine belowN ?_ _ | refine Below.drew ?_ | refine Below.alloc ?_ (by first | (simp; done) | (simp; omega) | omega) _ | refine Below.trans ?_ (Below.mono (by assumption) (by first | (simp; done) | (simp; omega) | omega))))) hlt) (by omega) (by omega)).mono ?_; rintro e w3 ⟨rfl, hb3⟩; have s3 := hb3.size; (try simp at s3)))
  go_wp2
  go_ret
  exact ⟨ret_str (by rw [K.out]; rfl), by (repeat (first | exact Below.refl _ _ | refine Below.setCell ?_ (by first | (simp; done) | (simp; omega) | omega) _ | refine belowN ?_ _ | refine Below.drew ?_ | refine Below.alloc ?_ (by first | (simp; done) | (simp; omega) | omega) _ | refine Below.trans ?_ (Below.mono (by assumption) (by first | (simp; done) | (simp; omega) | omega))))⟩

theorem specPointText_any (x y : Int) (w : World) : Calls Tryd.prog 9 #[.agg #[.int .i64 x, .int .i64 y]] w fun e w' => e = .returned (.string (ptText x y)) ∧ Below w.heap.size w w' := by
  cases h : ptB x y
  · exact specPointText_no x y w h
  · exact specPointText_yes x y w h

theorem implPointText_any (x y : Int) (w : World) (hT : Tab w) : Calls Tryd.prog 8 #[.agg #[.int .i64 x, .int .i64 y]] w fun e w' => e = .returned (.string (ptText x y)) ∧ Below w.heap.size w w' := by
  cases h : ptB x y
  · exact implPointText_no x y w h
  · exact implPointText_yes x y w hT h

end Go.Proofs.YtlfobdnjjbhehaaDoor
