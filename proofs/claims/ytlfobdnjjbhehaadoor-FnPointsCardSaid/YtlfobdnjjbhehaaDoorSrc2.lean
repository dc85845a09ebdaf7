/-
  What the laws draw from the source: raw numbers. Conditions: each theorem's own.
-/
import Derived.Test.YtlfobdnjjbhehaaDoorSrc
namespace Go.Proofs.YtlfobdnjjbhehaaDoor
open Go.RowKit

theorem Has.below {W w : World} {b k B : Nat} {cv : Value} (h : Has W b cv k) (hb : Below B W w) (hB : b < B) : Has w b cv k := by
  obtain ⟨j, z, hj, hs⟩ := h
  refine ⟨j, z, hj, (hb.cell hB).trans hs.c0, (hb.cell hB).trans hs.c1, (hb.cell hB).trans hs.c2, (hb.frozen hB).trans hs.z0, (hb.frozen hB).trans hs.z1, (hb.frozen hB).trans hs.z2⟩
theorem Has.lt {w : World} {b k : Nat} {cv : Value} (h : Has w b cv k) : b < w.heap.size := by
  obtain ⟨j, z, hj, hs⟩ := h
  exact World.block_lt_of_cell? w ⟨b, 0, none⟩ hs.c0
theorem Code.below {W w : World} {cv : Value} (h : Code W cv) (hb : Below W.heap.size W w) : Code w cv := by
  obtain ⟨ao, n, cap, rfl, hn, hx⟩ := h
  refine ⟨ao, n, cap, rfl, hn, fun j hj => ?_⟩
  obtain ⟨cb, off, x, rfl, c, x0, x1⟩ := hx j hj
  exact ⟨cb, off, x, rfl, bkeep hb c, x0, x1⟩

/-- One of some numbers that are laid for the call. -/
theorem among_lit (xs : List Int) (b k : Nat) (cv : Value) (w : World) (h : Has w b cv k) (hc : Code w cv) (hb : ∀ cb off n cap, cv = .slice (some ⟨cb, off, none⟩) n cap → 0 < n → cb ≠ b) (hk : k < 900000) (h1 : 1 < xs.length) (h2 : xs.length ≤ 65536) :
    Calls Tryd.prog 28 #[.pointer (some ⟨b, 0, none⟩), .slice (some ⟨w.heap.size, 0, none⟩) xs.length xs.length] (w.alloc (.cells (xs.map (Value.int .i64)).toArray 2)) fun e w' => ∃ x, e = .returned (.int .i64 x) ∧ x ∈ xs ∧ Has w' b cv (k + 2) ∧ w.grownBy w' (some b) := by
  have hlt := h.lt
  have hbl : Below w.heap.size w (w.alloc (.cells (xs.map (Value.int .i64)).toArray 2)) := (Below.refl _ _).alloc (Nat.le_refl _) _
  refine (among_any b k w.heap.size 0 xs xs.length cv _ (h.below hbl hlt) (hc.below hbl) hb hk (by omega) h1 h2 ?_).mono ?_
  · intro j hj
    rw [cell_of_row _ _ _ _ _ _ (heap_alloc_new w _)]
    simp [List.getD, hj]
  · rintro e w' ⟨x, rfl, hx, hs, hg⟩
    exact ⟨x, rfl, hx, hs, Lib.grownBy_trans (World.grownBy_alloc w _ (some b)) hg⟩

def rawList : List Int := [-1, 0, 1, 60, 61, -60, -61, 1000000000, 1000000001, -1000000000, -1000000001, -9223372036854775808, 9223372036854775807]

end Go.Proofs.YtlfobdnjjbhehaaDoor
