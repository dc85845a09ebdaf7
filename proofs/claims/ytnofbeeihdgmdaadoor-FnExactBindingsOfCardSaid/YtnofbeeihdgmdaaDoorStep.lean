/-
  One step in a direction, the model's and the program's, and StepPoint of both. Conditions: each theorem's own; the program's reads the listed table of steps.
-/
import Derived.Test.YtnofbeeihdgmdaaDoorCard
import Derived.Test.YtnofbeeihdgmdaaDoorPoint
namespace Go.Proofs.YtnofbeeihdgmdaaDoor
open Go.RowKit

theorem l01Dir_any (n : Int) (w : World) : Calls Tryd.prog 118 #[.int .i64 n] w fun e w' => e = .returned (.bool (inB n 0 3)) ∧ w = w' := by
  go_enter Tryd.func118, Tryd.ntmps118
  go_wp2_with (go_at_call 70; refine (l00In_any _ _ _ _).mono ?_; rintro e w' ⟨rfl, rfl⟩)
  go_ret
  exact ⟨rfl, rfl⟩

def stepX (x d : Int) : Int := if d = 1 then x + 1 else if d = 3 then x - 1 else x
def stepY (y d : Int) : Int := if d = 0 then y + 1 else if d = 2 then y - 1 else y
def stepB (x y d : Int) : Bool := ptB x y && inB d 0 3 && ptB (stepX x d) (stepY y d)
def step1 (x y d : Int) : Int := if stepB x y d = true then stepX x d else 0
def step2 (x y d : Int) : Int := if stepB x y d = true then stepY y d else 0
def step3 (x y d : Int) : Int := if stepB x y d = true then 0 else 2

theorem ret_point {a b x y : Int} (h : a = x) (k : b = y) : Ending.returned (.agg #[.int .i64 a, .int .i64 b]) = .returned (.agg #[.int .i64 x, .int .i64 y]) := by rw [h, k]

theorem l01Step_any (x y d : Int) (w : World) (h0 : 0 ≤ d) (h3 : d ≤ 3) (hx : -60 ≤ x) (hx2 : x ≤ 60) (hy : -60 ≤ y) (hy2 : y ≤ 60) :
    Calls Tryd.prog 72 #[.agg #[.int .i64 x, .int .i64 y], .int .i64 d] w fun e w' => e = .returned (.agg #[.int .i64 (stepX x d), .int .i64 (stepY y d)]) ∧ Below w.heap.size w w' := by
  obtain rfl | rfl | rfl | rfl : d = 0 ∨ d = 1 ∨ d = 2 ∨ d = 3 := by omega
  · go_enter Tryd.func72, Tryd.ntmps72
    go_wp2
    refine bodyPost_ret (v := .agg #[.int .i64 x, .int .i64 (y + 1)]) (by simp [results, Tryd.results72, go_sem]) rfl ⟨rfl, ?_⟩
    (repeat (first | exact Below.refl _ _ | refine Below.setCell ?_ (by first | (simp; done) | (simp; omega) | omega) _ | refine belowN ?_ _ | refine Below.drew ?_ | refine Below.alloc ?_ (by first | (simp; done) | (simp; omega) | omega) _ | refine Below.trans ?_ (Below.mono (by assumption) (by first | (simp; done) | (simp; omega) | omega))))
  · go_enter Tryd.func72, Tryd.ntmps72
    go_wp2
    refine bodyPost_ret (v := .agg #[.int .i64 (x + 1), .int .i64 y]) (by simp [results, Tryd.results72, go_sem]) rfl ⟨rfl, ?_⟩
    (repeat (first | exact Below.refl _ _ | refine Below.setCell ?_ (by first | (simp; done) | (simp; omega) | omega) _ | refine belowN ?_ _ | refine Below.drew ?_ | refine Below.alloc ?_ (by first | (simp; done) | (simp; omega) | omega) _ | refine Below.trans ?_ (Below.mono (by assumption) (by first | (simp; done) | (simp; omega) | omega))))
  · go_enter Tryd.func72, Tryd.ntmps72
    go_wp2
    refine bodyPost_ret (v := .agg #[.int .i64 x, .int .i64 (y - 1)]) (by simp [results, Tryd.results72, go_sem]) rfl ⟨rfl, ?_⟩
    (repeat (first | exact Below.refl _ _ | refine Below.setCell ?_ (by first | (simp; done) | (simp; omega) | omega) _ | refine belowN ?_ _ | refine Below.drew ?_ | refine Below.alloc ?_ (by first | (simp; done) | (simp; omega) | omega) _ | refine Below.trans ?_ (Below.mono (by assumption) (by first | (simp; done) | (simp; omega) | omega))))
  · go_enter Tryd.func72, Tryd.ntmps72
    go_wp2
    refine bodyPost_ret (v := .agg #[.int .i64 (x - 1), .int .i64 y]) (by simp [results, Tryd.results72, go_sem]) rfl ⟨rfl, ?_⟩
    (repeat (first | exact Below.refl _ _ | refine Below.setCell ?_ (by first | (simp; done) | (simp; omega) | omega) _ | refine belowN ?_ _ | refine Below.drew ?_ | refine Below.alloc ?_ (by first | (simp; done) | (simp; omega) | omega) _ | refine Below.trans ?_ (Below.mono (by assumption) (by first | (simp; done) | (simp; omega) | omega))))

/-- The listed table of steps, cell for cell. -/
structure Steps (w : World) : Prop where
  a0 : w.cell? ⟨0, 0, none⟩ = some (.int .i64 0)
  b0 : w.cell? ⟨0, 1, none⟩ = some (.int .i64 1)
  a1 : w.cell? ⟨0, 2, none⟩ = some (.int .i64 1)
  b1 : w.cell? ⟨0, 3, none⟩ = some (.int .i64 0)
  a2 : w.cell? ⟨0, 4, none⟩ = some (.int .i64 0)
  b2 : w.cell? ⟨0, 5, none⟩ = some (.int .i64 (-1))
  a3 : w.cell? ⟨0, 6, none⟩ = some (.int .i64 (-1))
  b3 : w.cell? ⟨0, 7, none⟩ = some (.int .i64 0)
theorem Steps.lt {w : World} (h : Steps w) : 0 < w.heap.size := World.block_lt_of_cell? w ⟨0, 0, none⟩ h.a0
theorem Steps.below {W w : World} {B : Nat} (h : Steps W) (hb : Below B W w) (hB : 0 < B) : Steps w :=
  ⟨(hb.cell (p := ⟨_, _, none⟩) hB).trans h.a0, (hb.cell (p := ⟨_, _, none⟩) hB).trans h.b0, (hb.cell (p := ⟨_, _, none⟩) hB).trans h.a1, (hb.cell (p := ⟨_, _, none⟩) hB).trans h.b1,
    (hb.cell (p := ⟨_, _, none⟩) hB).trans h.a2, (hb.cell (p := ⟨_, _, none⟩) hB).trans h.b2, (hb.cell (p := ⟨_, _, none⟩) hB).trans h.a3, (hb.cell (p := ⟨_, _, none⟩) hB).trans h.b3⟩

theorem neighbor_any (x y d : Int) (w : World) (hS : Steps w) (h0 : 0 ≤ d) (h3 : d ≤ 3) (hx : -60 ≤ x) (hx2 : x ≤ 60) (hy : -60 ≤ y) (hy2 : y ≤ 60) :
    Calls Tryd.prog 81 #[.agg #[.int .i64 x, .int .i64 y], .int .i64 d] w fun e w' => e = .returned (.agg #[.int .i64 (stepX x d), .int .i64 (stepY y d)]) ∧ Below w.heap.size w w' := by
  have hlt := hS.lt
  obtain rfl | rfl | rfl | rfl : d = 0 ∨ d = 1 ∨ d = 2 ∨ d = 3 := by omega
  · have ca := hS.a0
    have cb := hS.b0
    clear hS
    go_enter Tryd.func81, Tryd.ntmps81
    go_wp2
    refine bodyPost_ret (v := .agg #[.int .i64 (x), .int .i64 (y + 1)]) (by simp [results, Tryd.results81, go_sem]; try omega) rfl ⟨rfl, ?_⟩
    (repeat (first | exact Below.refl _ _ | refine Below.setCell ?_ (by first | (simp; done) | (simp; omega) | omega) _ | refine belowN ?_ _ | refine Below.drew ?_ | refine Below.alloc ?_ (by first | (simp; done) | (simp; omega) | omega) _ | refine Below.trans ?_ (Below.mono (by assumption) (by first | (simp; done) | (simp; omega) | omega))))
  · have ca := hS.a1
    have cb := hS.b1
    clear hS
    go_enter Tryd.func81, Tryd.ntmps81
    go_wp2
    refine bodyPost_ret (v := .agg #[.int .i64 (x + 1), .int .i64 (y)]) (by simp [results, Tryd.results81, go_sem]; try omega) rfl ⟨rfl, ?_⟩
    (repeat (first | exact Below.refl _ _ | refine Below.setCell ?_ (by first | (simp; done) | (simp; omega) | omega) _ | refine belowN ?_ _ | refine Below.drew ?_ | refine Below.alloc ?_ (by first | (simp; done) | (simp; omega) | omega) _ | refine Below.trans ?_ (Below.mono (by assumption) (by first | (simp; done) | (simp; omega) | omega))))
  · have ca := hS.a2
    have cb := hS.b2
    clear hS
    go_enter Tryd.func81, Tryd.ntmps81
    go_wp2
    refine bodyPost_ret (v := .agg #[.int .i64 (x), .int .i64 (y - 1)]) (by simp [results, Tryd.results81, go_sem]; try omega) rfl ⟨rfl, ?_⟩
    (repeat (first | exact Below.refl _ _ | refine Below.setCell ?_ (by first | (simp; done) | (simp; omega) | omega) _ | refine belowN ?_ _ | refine Below.drew ?_ | refine Below.alloc ?_ (by first | (simp; done) | (simp; omega) | omega) _ | refine Below.trans ?_ (Below.mono (by assumption) (by first | (simp; done) | (simp; omega) | omega))))
  · have ca := hS.a3
    have cb := hS.b3
    clear hS
    go_enter Tryd.func81, Tryd.ntmps81
    go_wp2
    refine bodyPost_ret (v := .agg #[.int .i64 (x - 1), .int .i64 (y)]) (by simp [results, Tryd.results81, go_sem]; try omega) rfl ⟨rfl, ?_⟩
    (repeat (first | exact Below.refl _ _ | refine Below.setCell ?_ (by first | (simp; done) | (simp; omega) | omega) _ | refine belowN ?_ _ | refine Below.drew ?_ | refine Below.alloc ?_ (by first | (simp; done) | (simp; omega) | omega) _ | refine Below.trans ?_ (Below.mono (by assumption) (by first | (simp; done) | (simp; omega) | omega))))

end Go.Proofs.YtnofbeeihdgmdaaDoor
