/-
  Assemblies: the laws' own copies, comparisons and marks. Conditions: each theorem's own.
-/
import Derived.Test.YtggpmailkkpdaaaAsm
namespace Go.Proofs.Ytggpmailkkpdaaa
open Go.RowKit

theorem Plcs.shape {w : World} {v : Value} {ps : List Pl} (h : Plcs w v ps) : ∃ a k q, v = .slice a k q := Cl.shape h
/-- Block p holds one value. -/
structure At1 (w : World) (p : Nat) (v : Value) : Prop where
  c0 : w.cell? ⟨p, 0, none⟩ = some v
theorem At1.below {w w1 : World} {p : Nat} {v : Value} (h : At1 w p v) (hb : Below w.heap.size w w1) : At1 w1 p v := ⟨cell_below hb h.c0⟩
theorem At1.lt {w : World} {p : Nat} {v : Value} (h : At1 w p v) : p < w.heap.size := World.block_lt_of_cell? w ⟨p, 0, none⟩ h.c0
theorem At1.keep {lo hi : Nat} {w w1 : World} {p : Nat} {v : Value} (h : At1 w p v) (hw : Within lo hi w w1) (ho : p < lo ∨ hi ≤ p) : At1 w1 p v := ⟨(World.cell?_of_block (hw.block p h.lt ho)).trans h.c0⟩
theorem At1.new (w : World) (v : Value) (t : TypeId) : At1 (w.alloc (.cells #[v] t)) w.heap.size v := ⟨by simp [go_sem]⟩

/-- Block p holds one value, and is not frozen. -/
structure One (w : World) (p : Nat) (v : Value) : Prop where
  c0 : w.cell? ⟨p, 0, none⟩ = some v
  z0 : w.frozen? ⟨p, 0, none⟩ = false
theorem One.lt {w : World} {p : Nat} {v : Value} (h : One w p v) : p < w.heap.size := World.block_lt_of_cell? w ⟨p, 0, none⟩ h.c0
theorem One.below {w w1 : World} {p : Nat} {v : Value} (h : One w p v) (hb : Below w.heap.size w w1) : One w1 p v := ⟨cell_below hb h.c0, (hb.frozen (p := ⟨p, 0, none⟩) h.lt).trans h.z0⟩
theorem One.new (w : World) (v : Value) (t : TypeId) {n : Nat} (hn : n = w.heap.size) : One (w.alloc (.cells #[v] t)) n v := by
  subst hn; exact ⟨by simp [go_sem], by simp [go_sem]⟩

/-- The laws' copy of a point. -/
theorem toPoint_bel (x y : Int) (w : World) : Calls Try.prog 55 #[.agg #[.int .i64 x, .int .i64 y]] w fun e w' => e = .returned (.agg #[.int .i64 x, .int .i64 y]) ∧ Below w.heap.size w w' :=
  (toPoint_any x y w).mono fun _ _ ⟨he, hw⟩ => ⟨he, by subst hw; (repeat (first | exact Below.refl _ _ | refine Below.setCell ?_ (by first | (simp; done) | (simp; omega) | omega) _ | refine belowN ?_ _ | refine Below.drew ?_ | refine Below.alloc ?_ (by first | (simp; done) | (simp; omega) | omega) _ | refine Below.trans ?_ (Below.mono (by assumption) (by first | (simp; done) | (simp; omega) | omega))))⟩
theorem eqPoint_yes (x y : Int) (w : World) : Calls Try.prog 60 #[.agg #[.int .i64 x, .int .i64 y], .agg #[.int .i64 x, .int .i64 y]] w fun e w' => e = .returned (.bool true) ∧ Below w.heap.size w w' := by
  go_enter Try.func60, Try.ntmps60
  go_wp2
  go_ret
  exact ⟨rfl, by (repeat (first | exact Below.refl _ _ | refine Below.setCell ?_ (by first | (simp; done) | (simp; omega) | omega) _ | refine belowN ?_ _ | refine Below.drew ?_ | refine Below.alloc ?_ (by first | (simp; done) | (simp; omega) | omega) _ | refine Below.trans ?_ (Below.mono (by assumption) (by first | (simp; done) | (simp; omega) | omega))))⟩
/-- The marks from k on, m for each element. -/
def mkC (m k i j : Nat) : Int := ((k + m * i + j : Nat) : Int)
/-- What a row holds when the first q elements have been marked. -/
def mkRow (w : World) (t : TypeId) (m g cap q k : Nat) : Prop := ∃ f, w.rowIs g t (cap * m) f ∧ ∀ i j, i < q → j < m → f (i * m + j) = .int .i64 (mkC m k i j)

/-- The mark behind m numbers each for n elements. -/
def mkE (m n k : Nat) : Nat := k + m * n
theorem mkE_le {m n k : Nat} (hn : n ≤ 1048576) (hm : m ≤ 8) : mkE m n k ≤ k + 8388608 := by
  have : m * n ≤ 8 * 1048576 := Nat.mul_le_mul hm hn
  unfold mkE; omega
/-- A list that holds the marks. -/
def MarkedA (w : World) (v : Value) (n k : Nat) : Prop := Cl w 3 v n (mkC 3 k)
theorem MarkedA.below {w w1 : World} {v : Value} {n k : Nat} (h : MarkedA w v n k) (hb : Below w.heap.size w w1) : MarkedA w1 v n k := Cl.below h hb

end Go.Proofs.Ytggpmailkkpdaaa
