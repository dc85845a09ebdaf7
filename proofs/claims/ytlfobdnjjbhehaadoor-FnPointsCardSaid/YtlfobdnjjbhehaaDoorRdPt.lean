/-
  Reading a point, the model's: what it answers, for every text no longer than 2^20. Conditions: none.
-/
import Derived.Test.YtlfobdnjjbhehaaDoorSplit2
namespace Go.Proofs.YtlfobdnjjbhehaaDoor
open Go.RowKit

theorem rp_false {s : ByteArray} (h : rpB s = false) : rpX s = 0 ∧ rpY s = 0 := by unfold rpX rpY; rw [h]; exact ⟨rfl, rfl⟩
theorem rp_true {s : ByteArray} (h : rpB s = true) : rpX s = rdR (cl s) ∧ rpY s = rdR (cr s) := by unfold rpX rpY; rw [h]; exact ⟨rfl, rfl⟩
theorem rp_no {s : ByteArray} (h : rdB (cl s) = false ∨ rdB (cr s) = false) : rpB s = false := by
  unfold rpB
  rcases h with h | h <;> rw [h]
  · rfl
  · exact Bool.and_false _
theorem rp_yes {s : ByteArray} (h1 : rdB (cl s) = true) (h2 : rdB (cr s) = true) : rpB s = ptB (rdR (cl s)) (rdR (cr s)) := by unfold rpB; rw [h1, h2]; rfl
theorem ret_rp {a b x y : Int} {c z : Bool} (h : a = x) (k : b = y) (l : c = z) : Ending.returned (.tuple #[.agg #[.int .i64 a, .int .i64 b], .bool c]) = .returned (.tuple #[.agg #[.int .i64 x, .int .i64 y], .bool z]) := by rw [h, k, l]

theorem own_two {w : World} {B : Nat} {v a b : Value} (h : w.ownsRow B 9 1 v 2 [a, b]) : ∃ g cap, v = .slice (some ⟨g, 0, none⟩) 2 cap ∧ B ≤ g ∧ g < w.heap.size ∧ w.cell? ⟨g, 0, none⟩ = some a ∧ w.cell? ⟨g, 1, none⟩ = some b := by
  rcases h.2 with ⟨_, h2⟩ | ⟨g, cap, cur, rfl, hb, hg, -⟩
  · cases h2
  · exact ⟨g, cap, rfl, hb, (Array.getElem?_eq_some_iff.1 hg).1, h.cellAt 0 (by omega), h.cellAt 1 (by omega)⟩
theorem own_len {w : World} {B n : Nat} {v : Value} {xs : List Value} (h : w.ownsRow B 9 1 v n xs) (hn : n ≠ 0) : ∃ g cap, v = .slice (some ⟨g, 0, none⟩) n cap := by
  rcases h.2 with ⟨_, h2⟩ | ⟨g, cap, cur, rfl, -⟩
  · exact absurd h2 hn
  · exact ⟨g, cap, rfl⟩

end Go.Proofs.YtlfobdnjjbhehaaDoor
