/-
  The direction from a point to one next to it, the model's and the program's. Conditions: the program's reads the listed table of steps.
-/
import Derived.Test.YtlfobdnjjbhehaaDoorStep
namespace Go.Proofs.YtlfobdnjjbhehaaDoor
open Go.RowKit

/-- The first direction from k on that leads from (x, y) to (p, q), by how many are left. -/
def seek (x y p q : Int) : Nat → Int → Option Int
  | 0, _ => none
  | m + 1, k => if stepX x k = p ∧ stepY y k = q then some k else seek x y p q m (k + 1)
def dirB (x y p q : Int) : Bool := ptB x y && ptB p q
def dir1 (x y p q : Int) : Int := if dirB x y p q = true then (seek x y p q 4 0).getD 0 else 0
def dir2 (x y p q : Int) : Int := if dirB x y p q = true then (if (seek x y p q 4 0).isSome then 0 else 3) else 2
theorem ret_two {a b x y : Int} (h : a = x) (k : b = y) : Ending.returned (.tuple #[.int .i64 a, .int .i64 b]) = .returned (.tuple #[.int .i64 x, .int .i64 y]) := by rw [h, k]

theorem implDir_no1 (x y p q : Int) (w : World) (h : ptB x y = false) : Calls Tryd.prog 11 #[.agg #[.int .i64 x, .int .i64 y], .agg #[.int .i64 p, .int .i64 q]] w fun e w' => e = .returned (.tuple #[.int .i64 (dir1 x y p q), .int .i64 (dir2 x y p q)]) ∧ Below w.heap.size w w' := by
  have K1 : Hid (dir1 x y p q = 0) := Lib.hid (by unfold dir1 dirB; rw [h]; rfl)
  have K2 : Hid (dir2 x y p q = 2) := Lib.hid (by unfold dir2 dirB; rw [h]; rfl)
  go_enter Tryd.func11, Tryd.ntmps11
  go_wp2_with fail
  refine (implValidPoint_any x y _).mono ?_
  rintro e w1 ⟨rfl, hb1⟩
  obtain ⟨c2, c3, z2, z3⟩ := Two.below (b := w.heap.size + 1) (x := .int .i64 p) (y := .int .i64 q) ⟨by simp [go_sem], by simp [go_sem], by simp [go_sem], by simp [go_sem]⟩ hb1
  have s1 := hb1.size
  simp at s1
  go_wp2
  go_ret2
  exact ⟨ret_two K1.out.symm K2.out.symm, by (repeat (first | exact Below.refl _ _ | refine Below.setCell ?_ (by first | (simp; done) | (simp; omega) | omega) _ | refine belowN ?_ _ | refine Below.drew ?_ | refine Below.alloc ?_ (by first | (simp; done) | (simp; omega) | omega) _ | refine Below.trans ?_ (Below.mono (by assumption) (by first | (simp; done) | (simp; omega) | omega))))⟩

theorem implDir_no2 (x y p q : Int) (w : World) (h : ptB x y = true) (h2 : ptB p q = false) : Calls Tryd.prog 11 #[.agg #[.int .i64 x, .int .i64 y], .agg #[.int .i64 p, .int .i64 q]] w fun e w' => e = .returned (.tuple #[.int .i64 (dir1 x y p q), .int .i64 (dir2 x y p q)]) ∧ Below w.heap.size w w' := by
  have K1 : Hid (dir1 x y p q = 0) := Lib.hid (by unfold dir1 dirB; rw [h, h2]; rfl)
  have K2 : Hid (dir2 x y p q = 2) := Lib.hid (by unfold dir2 dirB; rw [h, h2]; rfl)
  go_enter Tryd.func11, Tryd.ntmps11
  go_wp2_with fail
  refine (implValidPoint_any x y _).mono ?_
  rintro e w1 ⟨rfl, hb1⟩
  obtain ⟨c2, c3, z2, z3⟩ := Two.below (b := w.heap.size + 1) (x := .int .i64 p) (y := .int .i64 q) ⟨by simp [go_sem], by simp [go_sem], by simp [go_sem], by simp [go_sem]⟩ hb1
  have s1 := hb1.size
  simp at s1
  go_wp2_with fail
  refine (implValidPoint_any p q _).mono ?_
  rintro e w2 ⟨rfl, hb2⟩
  go_wp2
  go_ret2
  exact ⟨ret_two K1.out.symm K2.out.symm, by (repeat (first | exact Below.refl _ _ | refine Below.setCell ?_ (by first | (simp; done) | (simp; omega) | omega) _ | refine belowN ?_ _ | refine Below.drew ?_ | refine Below.alloc ?_ (by first | (simp; done) | (simp; omega) | omega) _ | refine Below.trans ?_ (Below.mono (by assumption) (by first | (simp; done) | (simp; omega) | omega))))⟩

set_option maxHeartbeats 1000000 in
theorem implDir_yes (x y p q : Int) (w : World) (h : ptB x y = true) (h2 : ptB p q = true) (hS : Steps w) :
    Calls Tryd.prog 11 #[.agg #[.int .i64 x, .int .i64 y], .agg #[.int .i64 p, .int .i64 q]] w fun e w' => e = .returned (.tuple #[.int .i64 (dir1 x y p q), .int .i64 (dir2 x y p q)]) ∧ Below w.heap.size w w' := by
  obtain ⟨⟨p1, p2⟩, p3, p4⟩ := ptB_iff.1 h
  have hlt := hS.lt
  have HS := Lib.hid hS
  clear hS
  have K1 : Hid (dir1 x y p q = (seek x y p q 4 0).getD 0) := Lib.hid (by unfold dir1 dirB; rw [h, h2]; rfl)
  have K2 : Hid (dir2 x y p q = if (seek x y p q 4 0).isSome then 0 else 3) := Lib.hid (by unfold dir2 dirB; rw [h, h2]; rfl)
  go_enter Tryd.func11, Tryd.ntmps11
  go_wp2_with fail
  refine (implValidPoint_any x y _).mono ?_
  rintro e w1 ⟨rfl, hb1⟩
  obtain ⟨c0, c1, z0, z1⟩ := Two.below (b := w.heap.size) (x := .int .i64 x) (y := .int .i64 y) ⟨by simp [go_sem], by simp [go_sem], by simp [go_sem], by simp [go_sem]⟩ hb1
  obtain ⟨c2, c3, z2, z3⟩ := Two.below (b := w.heap.size + 1) (x := .int .i64 p) (y := .int .i64 q) ⟨by simp [go_sem], by simp [go_sem], by simp [go_sem], by simp [go_sem]⟩ hb1
  have s1 := hb1.size
  simp at s1
  go_wp2_with fail
  refine (implValidPoint_any p q _).mono ?_
  rintro e w2 ⟨rfl, hb2⟩
  have t0 := Two.below (b := w.heap.size) (x := .int .i64 x) (y := .int .i64 y) ⟨c0, c1, z0, z1⟩ hb2
  have t1 := Two.below (b := w.heap.size + 1) (x := .int .i64 p) (y := .int .i64 q) ⟨c2, c3, z2, z3⟩ hb2
  have s2 := hb2.size
  have T0 := Lib.hid t0
  have T1 := Lib.hid t1
  have B2 : Hid (Below w.heap.size w w2) := Lib.hid (by (repeat (first | exact Below.refl _ _ | refine Below.setCell ?_ (by first | (simp; done) | (simp; omega) | omega) _ | refine belowN ?_ _ | refine Below.drew ?_ | refine Below.alloc ?_ (by first | (simp; done) | (simp; omega) | omega) _ | refine Below.trans ?_ (Below.mono (by assumption) (by first | (simp; done) | (simp; omega) | omega)))))
  have s2' : w.heap.size + 2 ≤ w2.heap.size := by omega
  clear c0 c1 z0 z1 c2 c3 z2 z3 t0 t1 hb1 hb2 s1 s2
  go_wp2
  go_loopw [6] (fun i wr => ∃ k : Nat, k ≤ 4 ∧ i = .int .i64 k ∧ Hid (seek x y p q (4 - k) k = seek x y p q 4 0) ∧ Two wr w.heap.size (.int .i64 x) (.int .i64 y) ∧ Two wr (w.heap.size + 1) (.int .i64 p) (.int .i64 q) ∧ Below w.heap.size w wr ∧ w.heap.size + 2 ≤ wr.heap.size) (fun i _ => 4 - (intOf i).toNat)
  case atStart => exact ⟨0, by omega, rfl, Lib.hid rfl, T0.out, T1.out, B2.out, s2'⟩
  case round =>
    obtain ⟨k, hk, rfl, hs, u0, u1, hb, hsz⟩ := hrel
    clear T0 T1 B2 s2'
    by_cases hk4 : k < 4
    · have U0 := Lib.hid u0
      have U1 := Lib.hid u1
      obtain ⟨a0, a1, -, -⟩ := u0
      obtain ⟨b0, b1, -, -⟩ := u1
      have hbr := Lib.hid hb
      clear hb
      have hstep : Hid (seek x y p q (4 - k) k = if stepX x k = p ∧ stepY y k = q then some (k : Int) else seek x y p q (4 - (k + 1)) (k + 1)) := Lib.hid (by
        obtain ⟨m, hm⟩ : ∃ m, 4 - k = m + 1 := ⟨3 - k, by omega⟩
        rw [hm, show 4 - (k + 1) = m by omega]; rfl)
      by_cases hx : stepX x k = p
      · by_cases hy : stepY y k = q
        · have hyes : Hid (seek x y p q 4 0 = some (k : Int)) := Lib.hid (by rw [← hs.out, hstep.out, if_pos ⟨hx, hy⟩])
          go_wp2_with fail
          go_region_held3 (fun w' => w'.cell? ⟨w.heap.size, 0, none⟩ = some (.int .i64 x) ∧ w'.cell? ⟨w.heap.size, 1, none⟩ = some (.int .i64 y) ∧ w'.cell? ⟨w.heap.size + 1, 0, none⟩ = some (.int .i64 p) ∧ w'.cell? ⟨w.heap.size + 1, 1, none⟩ = some (.int .i64 q)) ((((try go_split_ands); (try dsimp only); (repeat' apply And.intro)) <;> (repeat (first | with_reducible assumption | ((with_reducible refine cnew0 ?_); simp; done) | ((with_reducible refine cnew1 ?_); simp; done) | (with_reducible refine akeep ?_) | (with_reducible refine dkeep ?_) | ((with_reducible refine skeep ?_ ?_); rotate_left; (first | ((try dsimp only); omega) | (simp; done) | (simp; omega))) | (with_reducible refine bkeep hb3 ?_)))))
            ((go_at_call 19; refine (neighbor_any x y k _ (HS.out.below (B := w.heap.size) (by have hbr1 := hbr.out; (repeat (first | exact Below.refl _ _ | refine Below.setCell ?_ (by first | (simp; done) | (simp; omega) | omega) _ | refine belowN ?_ _ | refine Below.drew ?_ | refine Below.alloc ?_ (by first | (simp; done) | (simp; omega) | omega) _ | refine Below.trans ?_ (Below.mono (by assumption) (by first | (simp; done) | (simp; omega) | omega))))) hlt) (by omega) (by omega) p1 p2 p3 p4).mono ?_; rintro e w3 ⟨rfl, hb3⟩))
          have hbr2 := hbr.out
          have s3 := hb3.size; (try simp at s3)
          have t0 : Two w3 w.heap.size (.int .i64 x) (.int .i64 y) := Two.below (Two.drew U0.out) hb3
          have t1 : Two w3 (w.heap.size + 1) (.int .i64 p) (.int .i64 q) := Two.below (Two.drew U1.out) hb3
          have T0 := Lib.hid t0
          have T1 := Lib.hid t1
          clear t0 t1
          go_wp2
          go_ret2
          exact ⟨ret_two (by rw [K1.out, hyes.out]; rfl) (by rw [K2.out, hyes.out]; rfl), by (repeat (first | exact Below.refl _ _ | refine Below.setCell ?_ (by first | (simp; done) | (simp; omega) | omega) _ | refine belowN ?_ _ | refine Below.drew ?_ | refine Below.alloc ?_ (by first | (simp; done) | (simp; omega) | omega) _ | refine Below.trans ?_ (Below.mono (by assumption) (by first | (simp; done) | (simp; omega) | omega))))⟩
        · have hyb : (stepY y k == q) = false := beq_eq_false_iff_ne.2 hy
          skip
          have hno : Hid (seek x y p q (4 - (k + 1)) (k + 1) = seek x y p q 4 0) := Lib.hid (by rw [← hs.out, hstep.out, if_neg (fun h => hy h.2)])
          go_wp2_with fail
          go_region_held3 (fun w' => w'.cell? ⟨w.heap.size, 0, none⟩ = some (.int .i64 x) ∧ w'.cell? ⟨w.heap.size, 1, none⟩ = some (.int .i64 y) ∧ w'.cell? ⟨w.heap.size + 1, 0, none⟩ = some (.int .i64 p) ∧ w'.cell? ⟨w.heap.size + 1, 1, none⟩ = some (.int .i64 q)) ((((try go_split_ands); (try dsimp only); (repeat' apply And.intro)) <;> (repeat (first | with_reducible assumption | ((with_reducible refine cnew0 ?_); simp; done) | ((with_reducible refine cnew1 ?_); simp; done) | (with_reducible refine akeep ?_) | (with_reducible refine dkeep ?_) | ((with_reducible refine skeep ?_ ?_); rotate_left; (first | ((try dsimp only); omega) | (simp; done) | (simp; omega))) | (with_reducible refine bkeep hb3 ?_)))))
            ((go_at_call 19; refine (neighbor_any x y k _ (HS.out.below (B := w.heap.size) (by have hbr1 := hbr.out; (repeat (first | exact Below.refl _ _ | refine Below.setCell ?_ (by first | (simp; done) | (simp; omega) | omega) _ | refine belowN ?_ _ | refine Below.drew ?_ | refine Below.alloc ?_ (by first | (simp; done) | (simp; omega) | omega) _ | refine Below.trans ?_ (Below.mono (by assumption) (by first | (simp; done) | (simp; omega) | omega))))) hlt) (by omega) (by omega) p1 p2 p3 p4).mono ?_; rintro e w3 ⟨rfl, hb3⟩))
          have hbr2 := hbr.out
          have s3 := hb3.size; (try simp at s3)
          have t0 : Two w3 w.heap.size (.int .i64 x) (.int .i64 y) := Two.below (Two.drew U0.out) hb3
          have t1 : Two w3 (w.heap.size + 1) (.int .i64 p) (.int .i64 q) := Two.below (Two.drew U1.out) hb3
          have T0 := Lib.hid t0
          have T1 := Lib.hid t1
          clear t0 t1
          go_wp2
          refine ⟨⟨k + 1, by omega, by go_num, hno, T0.out, T1.out, by (repeat (first | exact Below.refl _ _ | refine Below.setCell ?_ (by first | (simp; done) | (simp; omega) | omega) _ | refine belowN ?_ _ | refine Below.drew ?_ | refine Below.alloc ?_ (by first | (simp; done) | (simp; omega) | omega) _ | refine Below.trans ?_ (Below.mono (by assumption) (by first | (simp; done) | (simp; omega) | omega)))), by omega⟩, ?_⟩
          simp [intOf]; omega
      · have hxb : (stepX x k == p) = false := beq_eq_false_iff_ne.2 hx
        skip
        have hno : Hid (seek x y p q (4 - (k + 1)) (k + 1) = seek x y p q 4 0) := Lib.hid (by rw [← hs.out, hstep.out, if_neg (fun h => hx h.1)])
        go_wp2_with fail
        go_region_held3 (fun w' => w'.cell? ⟨w.heap.size, 0, none⟩ = some (.int .i64 x) ∧ w'.cell? ⟨w.heap.size, 1, none⟩ = some (.int .i64 y) ∧ w'.cell? ⟨w.heap.size + 1, 0, none⟩ = some (.int .i64 p) ∧ w'.cell? ⟨w.heap.size + 1, 1, none⟩ = some (.int .i64 q)) ((((try go_split_ands); (try dsimp only); (repeat' apply And.intro)) <;> (repeat (first | with_reducible assumption | ((with_reducible refine cnew0 ?_); simp; done) | ((with_reducible refine cnew1 ?_); simp; done) | (with_reducible refine akeep ?_) | (with_reducible refine dkeep ?_) | ((with_reducible refine skeep ?_ ?_); rotate_left; (first | ((try dsimp only); omega) | (simp; done) | (simp; omega))) | (with_reducible refine bkeep hb3 ?_)))))
          ((go_at_call 19; refine (neighbor_any x y k _ (HS.out.below (B := w.heap.size) (by have hbr1 := hbr.out; (repeat (first | exact Below.refl _ _ | refine Below.setCell ?_ (by first | (simp; done) | (simp; omega) | omega) _ | refine belowN ?_ _ | refine Below.drew ?_ | refine Below.alloc ?_ (by first | (simp; done) | (simp; omega) | omega) _ | refine Below.trans ?_ (Below.mono (by assumption) (by first | (simp; done) | (simp; omega) | omega))))) hlt) (by omega) (by omega) p1 p2 p3 p4).mono ?_; rintro e w3 ⟨rfl, hb3⟩))
        have hbr2 := hbr.out
        have s3 := hb3.size; (try simp at s3)
        have t0 : Two w3 w.heap.size (.int .i64 x) (.int .i64 y) := Two.below (Two.drew U0.out) hb3
        have t1 : Two w3 (w.heap.size + 1) (.int .i64 p) (.int .i64 q) := Two.below (Two.drew U1.out) hb3
        have T0 := Lib.hid t0
        have T1 := Lib.hid t1
        clear t0 t1
        go_wp2
        refine ⟨⟨k + 1, by omega, by go_num, hno, T0.out, T1.out, by (repeat (first | exact Below.refl _ _ | refine Below.setCell ?_ (by first | (simp; done) | (simp; omega) | omega) _ | refine belowN ?_ _ | refine Below.drew ?_ | refine Below.alloc ?_ (by first | (simp; done) | (simp; omega) | omega) _ | refine Below.trans ?_ (Below.mono (by assumption) (by first | (simp; done) | (simp; omega) | omega)))), by omega⟩, ?_⟩
        simp [intOf]; omega
    · obtain rfl : k = 4 := by omega
      have hend : Hid (seek x y p q 4 0 = none) := Lib.hid (by rw [← hs.out]; rfl)
      go_wp2
      go_ret2
      exact ⟨ret_two (by rw [K1.out, hend.out]; rfl) (by rw [K2.out, hend.out]; rfl), hb⟩

theorem implDir_any (x y p q : Int) (w : World) (hS : Steps w) : Calls Tryd.prog 11 #[.agg #[.int .i64 x, .int .i64 y], .agg #[.int .i64 p, .int .i64 q]] w fun e w' => e = .returned (.tuple #[.int .i64 (dir1 x y p q), .int .i64 (dir2 x y p q)]) ∧ Below w.heap.size w w' := by
  cases h : ptB x y
  · exact implDir_no1 x y p q w h
  · cases h2 : ptB p q
    · exact implDir_no2 x y p q w h h2
    · exact implDir_yes x y p q w h h2 hS

end Go.Proofs.YtlfobdnjjbhehaaDoor
