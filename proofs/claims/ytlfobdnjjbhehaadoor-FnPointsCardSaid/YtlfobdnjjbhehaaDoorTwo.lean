/-
  A struct of two fields in a block of its own, carried over draws, new blocks, stores and calls. Conditions: each lemma's own.
-/
import Derived.Test.YtlfobdnjjbhehaaDoorBase
import Derived.Deep.RegionHeld3
import Derived.Deep.DeepCutAuto
namespace Go.Proofs.YtlfobdnjjbhehaaDoor
open Go.RowKit

theorem bkeep {W w1 : World} {b o : Nat} {v : Value} (hb : Below W.heap.size W w1) (h : W.cell? ⟨b, o, none⟩ = some v) : w1.cell? ⟨b, o, none⟩ = some v :=
  (bcell hb b o (World.block_lt_of_cell? W ⟨b, o, none⟩ h)).trans h
theorem dkeep {w : World} {a : Addr} {v : Value} (h : w.cell? a = some v) : w.drew.cell? a = some v := h
theorem akeep {w : World} {a : Addr} {o : Obj} {v : Value} (h : w.cell? a = some v) : (w.alloc o).cell? a = some v := (World.cell?_alloc_some w a o (by rw [h]; rfl)).trans h
theorem skeep {w : World} {p a : Addr} {u v : Value} (h : w.cell? a = some v) (hp : p.block ≠ a.block) : (w.setCell p u).cell? a = some v := (World.cell?_setCell_far w p a u hp).trans h

theorem cnew0 {w : World} {n : Nat} {x y : Value} {t : TypeId} (hn : n = w.heap.size) : (w.alloc (.cells #[x, y] t)).cell? ⟨n, 0, none⟩ = some x := by subst hn; simp [go_sem]
theorem cnew1 {w : World} {n : Nat} {x y : Value} {t : TypeId} (hn : n = w.heap.size) : (w.alloc (.cells #[x, y] t)).cell? ⟨n, 1, none⟩ = some y := by subst hn; simp [go_sem]

/-- All that the walk's simp wants to know behind a call that has left the older memory alone, as rules. -/
theorem bfull {W w1 : World} (hb : Below W.heap.size W w1) : (∀ b o, b < W.heap.size → w1.cell? ⟨b, o, none⟩ = W.cell? ⟨b, o, none⟩) ∧ (∀ b o, b < W.heap.size → w1.frozen? ⟨b, o, none⟩ = W.frozen? ⟨b, o, none⟩) ∧
    (∀ b, b < W.heap.size → b < w1.heap.size) ∧ (∀ b, b < W.heap.size → (b = w1.heap.size) = False) ∧ (∀ b, b < W.heap.size → (w1.heap.size = b) = False) :=
  ⟨bcell hb, bfroz hb, fun _ h => Nat.lt_of_lt_of_le h hb.size, fun _ h => eq_false (Nat.ne_of_lt (Nat.lt_of_lt_of_le h hb.size)), fun _ h => eq_false (Nat.ne_of_gt (Nat.lt_of_lt_of_le h hb.size))⟩

section
variable {w : World} {b : Nat} {x y : Value}
theorem Two.drew (h : Two w b x y) : Two w.drew b x y := ⟨h.c0, h.c1, h.z0, h.z1⟩
theorem Two.drewN (h : Two w b x y) (n : Nat) : Two (w.drewN n) b x y := ⟨h.c0, h.c1, h.z0, h.z1⟩
theorem Two.alloc (h : Two w b x y) (o : Obj) : Two (w.alloc o) b x y :=
  ⟨akeep h.c0, akeep h.c1, (World.frozen?_alloc_past o b 0 h.lt).trans h.z0, (World.frozen?_alloc_past o b 1 h.lt).trans h.z1⟩
theorem Two.new (w : World) (x y : Value) (t : TypeId) {n : Nat} (hn : n = w.heap.size) : Two (w.alloc (.cells #[x, y] t)) n x y := by
  subst hn
  exact ⟨by simp [go_sem], by simp [go_sem], by simp [go_sem], by simp [go_sem]⟩
theorem Two.far (h : Two w b x y) {p : Addr} (hp : p.block ≠ b) (u : Value) : Two (w.setCell p u) b x y :=
  ⟨skeep h.c0 hp, skeep h.c1 hp, (World.frozen?_setCell ..).trans h.z0, (World.frozen?_setCell ..).trans h.z1⟩
theorem Two.set_ (h : Two w b x y) (u v : Value) : Two ((w.setCell ⟨b, 0, none⟩ u).setCell ⟨b, 1, none⟩ v) b u v := by
  have c0 := h.c0
  have c1 := h.c1
  have z0 := h.z0
  have z1 := h.z1
  exact ⟨by simp [go_sem, c0], by simp [go_sem, c1], by simp [go_sem, z0], by simp [go_sem, z1]⟩
end
end Go.Proofs.YtlfobdnjjbhehaaDoor
