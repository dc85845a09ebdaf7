/-
  One round of a loop that appends a tile to a field of a new set. Conditions: each lemma's own.
-/
import Derived.Test.YtggpmailkkpdaaaBuilt
import Derived.Deep.RegionHeld3
namespace Go.Proofs.Ytggpmailkkpdaaa
open Go.RowKit

theorem built_row {w : World} {base : Nat} {tv : Value} {n : Nat} {N : Nat → ByteArray} {Z : Nat → List Int} (h : Built w base tv n N Z) : ∃ xs, w.ownsRow base 64 2 tv n xs := let ⟨_, _, h1, _⟩ := h; ⟨_, h1⟩
theorem Ints.drew {w : World} {v : Value} {zs : List Int} (h : Ints w v zs) : Ints w.drew v zs := h
theorem ints4 (w : World) (a b c d : Int) (t : TypeId) {n : Nat} (hn : n = w.heap.size) : Ints (w.alloc (.cells #[.int .i64 a, .int .i64 b, .int .i64 c, .int .i64 d] t)) (.slice (some ⟨n, 0, none⟩) 4 4) [a, b, c, d] := by
  subst hn
  refine ⟨_, 4, rfl, Nat.le_refl _, by unfold maxLen; omega, fun _ => ⟨_, 0, rfl, fun i j hi hj => ?_⟩⟩
  obtain rfl : j = 0 := by omega
  have hi4 : i < 4 := hi
  obtain rfl | rfl | rfl | rfl : i = 0 ∨ i = 1 ∨ i = 2 ∨ i = 3 := by omega
  all_goals simp [go_sem, iAt]


/-- The sides of a tile that makeTile has made. -/
theorem OwnAt.made {w : World} {b cap : Nat} {f : Nat → Value} {zs : List Int} (h1 : zs.length ≤ cap) (h2 : cap ≤ maxLen) (h3 : w.rowIs b 2 cap f) (h4 : ∀ i, i < zs.length → f i = .int .i64 (iAt zs i)) : OwnAt w b (.slice (some ⟨b, 0, none⟩) zs.length cap) zs :=
  .inr ⟨cap, f, rfl, h1, h2, h3, h4⟩
/-- The round's end: block c holds the new set, its tiles lie behind it. -/
theorem round_end {w2 wA w3 w4 : World} {o : Obj} {c k g cap b : Nat} {vg tv x : Value} {N : Nat → ByteArray} {Z : Nat → List Int} {s : ByteArray} {zs : List Int} {G : Nat → Nat} {sv : Nat → Value}
    (hT : Two wA c vg tv) (hb : Below c w2 wA) (h2 : ∀ i, i < k → OwnAt wA (G i) (sv i) (Z i)) (h3 : ∀ i, i < k → c + 1 ≤ G i ∧ G i < wA.heap.size ∧ tv.ownBlock ≠ some (G i)) (h4 : ∀ i j, i < j → j < k → G i ≠ G j)
    (hrow : wA.ownsRow (c + 1) 64 2 tv k (tRow N sv k)) (hb3 : Below wA.heap.size wA w3) (hx : OwnAt w3 b x zs) (hb0 : wA.heap.size ≤ b) (hb1 : b < w3.heap.size)
    (hown : w4.ownsRow (c + 1) 64 2 (.slice (some ⟨g, 0, none⟩) (k + 1) cap) (k + 1) (tRow N sv k ++ [.string s, x])) (hgrow : (w3.alloc o).grownBy w4 tv.ownBlock) (hat : tv.ownBlock = some g ∨ g = w3.heap.size + 1)
    (hN : N k = s) (hZ : Z k = zs) :
    Two (w4.setCell ⟨c, 1, none⟩ (.slice (some ⟨g, 0, none⟩) (k + 1) cap)) c vg (.slice (some ⟨g, 0, none⟩) (k + 1) cap) ∧ Built (w4.setCell ⟨c, 1, none⟩ (.slice (some ⟨g, 0, none⟩) (k + 1) cap)) (c + 1) (.slice (some ⟨g, 0, none⟩) (k + 1) cap) (k + 1) N Z ∧
      Below c w2 (w4.setCell ⟨c, 1, none⟩ (.slice (some ⟨g, 0, none⟩) (k + 1) cap)) := by
  have hc := hT.lt
  have ng := own_block_ge hrow
  have hBA : Below wA.heap.size wA (w3.alloc o) := by (repeat (first | exact Below.refl _ _ | refine Below.setCell ?_ (by first | (simp; done) | (simp; omega) | omega) _ | refine belowN ?_ _ | refine Below.drew ?_ | refine Below.alloc ?_ (by first | (simp; done) | (simp; omega) | omega) _ | refine Below.trans ?_ (Below.mono (by assumption) (by first | (simp; done) | (simp; omega) | omega))))
  have hB3 : Below w3.heap.size w3 (w3.alloc o) := by (repeat (first | exact Below.refl _ _ | refine Below.setCell ?_ (by first | (simp; done) | (simp; omega) | omega) _ | refine belowN ?_ _ | refine Below.drew ?_ | refine Below.alloc ?_ (by first | (simp; done) | (simp; omega) | omega) _ | refine Below.trans ?_ (Below.mono (by assumption) (by first | (simp; done) | (simp; omega) | omega))))
  have hcn : some c ≠ tv.ownBlock := fun e => by have := ng _ e.symm; omega
  have hlt := own_block_lt hrow
  have hs3 := hb3.size
  have T4 : Two w4 c vg tv := (hT.below hBA).grown hgrow hcn
  have t0 := T4.c0
  have t1 := T4.c1
  have u0 := T4.z0
  have u1 := T4.z1
  refine ⟨⟨?_, ?_, ?_, ?_⟩, ?_, ?_⟩
  · simp [go_sem, t0]
  · simp [go_sem, t1]
  · simp [go_sem, u0]
  · simp [go_sem, u1]
  · refine Built.set ?_ (by dsimp only; omega) _
    refine (Built.step (w := w3.alloc o) (tv := tv) (fun i hi => (h2 i hi).keep (Within.of (lo := 0) (hi := 0) hBA) (.inr (Nat.zero_le _))) (fun i hi => ⟨(h3 i hi).1, Nat.lt_of_lt_of_le (h3 i hi).2.1 hBA.size, (h3 i hi).2.2⟩) h4
      (hx.keep (Within.of (lo := 0) (hi := 0) hB3) (.inr (Nat.zero_le _))) (by omega) (Nat.lt_of_lt_of_le hb1 hB3.size) (fun e => by have := hlt _ e; omega) (fun i hi e => by have := (h3 i hi).2.1; omega) hown hgrow (hat.imp id (fun e => by subst e; simp))).congr ?_ ?_
    · intro i hi
      split
      · next e => subst e; exact hN.symm
      · rfl
    · intro i hi
      split
      · next e => subst e; exact hZ.symm
      · rfl
  · have hBc : Below c w2 (w3.alloc o) := hb.trans (hBA.mono (by omega))
    have hBg : Below c (w3.alloc o) w4 := ⟨hgrow.os, hgrow.tape, hgrow.output, hgrow.size, fun i hi => hgrow.block i (by simp; omega) (fun e => by have := ng _ e.symm; omega)⟩
    exact (hBc.trans hBg).setCell (by simp) _

end Go.Proofs.Ytggpmailkkpdaaa
