/-
  Equality of two arrays of sides. Conditions: the theorem's own.
-/
import Derived.Test.YtggpmailkkpdaaaMergeT
import Derived.Laws.StructEq
namespace Go.Proofs.Ytggpmailkkpdaaa
open Go.RowKit

theorem part4 (a b c d : Int) (W : World) (i : Nat) (hi : i < 4) :
    (part 2 #[.int .i64 a, .int .i64 b, .int .i64 c, .int .i64 d] (i * 1)).run Try.prog W = .ok (.int .i64 (iAt [a, b, c, d] i)) W := by
  obtain ⟨i0, hi0, hz0, hz1, hz2⟩ := info_parts info_i64
  obtain rfl | rfl | rfl | rfl : i = 0 ∨ i = 1 ∨ i = 2 ∨ i = 3 := by omega
  all_goals simp [part, sizeOf, typeInfo, hi0, hz1, iAt, go_sem]
theorem eq4 (a0 a1 a2 a3 b0 b1 b2 b3 : Int) (W : World) :
    (Op.equalIn 10000 81 (.agg #[.int .i64 a0, .int .i64 a1, .int .i64 a2, .int .i64 a3]) (.agg #[.int .i64 b0, .int .i64 b1, .int .i64 b2, .int .i64 b3])).run Try.prog W = .ok (a0 == b0 && (a1 == b1 && (a2 == b2 && a3 == b3))) W := by
  obtain ⟨i0, hi0, hz0, hz1, hz2⟩ := info_parts info_i64
  rw [show (10000 : Nat) = 9999 + 1 from rfl, Op.equalIn]
  have hI : ∀ a b : Int, (Op.equalIn 9999 2 (.int .i64 a) (.int .i64 b)).run Try.prog W = .ok (a == b) W := fun a b => run_equalIn_int W 9998 2 .i64 .i64 a b Try.underlying2
  have p := fun (a b c d : Int) (i : Nat) (hi : i < 4) => part4 a b c d W i hi
  simp only [Sem.run_bind, run_underlying Try.underlying81, Result.andThen_ok]
  simp [sizeOf, typeInfo, hi0, hz1, List.range', Sem.run_bind, hI, part, go_sem]
  by_cases h0 : a0 = b0 <;> by_cases h1 : a1 = b1 <;> by_cases h2 : a2 = b2 <;> by_cases h3 : a3 = b3 <;> simp [h0, h1, h2, h3]
end Go.Proofs.Ytggpmailkkpdaaa
