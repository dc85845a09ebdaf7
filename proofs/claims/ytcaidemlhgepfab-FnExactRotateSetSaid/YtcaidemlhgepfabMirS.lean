/-
  MirrorSet of the model. Conditions: each theorem's own.
-/
import Derived.Test.YtcaidemlhgepfabOwnS
import Derived.Test.YtcaidemlhgepfabMirI
namespace Go.Proofs.Ytcaidemlhgepfab
open Go.RowKit

/-- A tile's sides are put in the place of the old ones, in a block of their own. -/
theorem TsAt.put {w : World} {g : Nat} {G : Nat → Nat} {sv : Nat → Value} {cap n : Nat} {N : Nat → ByteArray} {Z : Nat → List Int} (h : TsAt w g G sv cap n N Z) (hne : ∀ i, i < n → G i ≠ g) (k : Nat) {x : Value} {zs : List Int} {b : Nat}
    (hx : OwnAt w b x zs) (hb : b ≠ g) : TsAt (w.setCell ⟨g, k * 2 + 1, none⟩ x) g (fun i => if i = k then b else G i) (fun i => if i = k then x else sv i) cap n N (fun i => if i = k then zs else Z i) := by
  obtain ⟨⟨f, hr, hf⟩, hs⟩ := h
  have hw := Within.set g (g + 1) w (a := ⟨g, k * 2 + 1, none⟩) (Nat.le_refl _) (Nat.lt_succ_self _) x
  refine ⟨⟨_, hr.set (k * 2 + 1) x, fun i hi => ⟨?_, ?_⟩⟩, fun i hi => ?_⟩
  · rw [if_neg (by omega)]; exact (hf i hi).1
  · by_cases h : i = k
    · subst h; simp
    · rw [if_neg (by omega), if_neg h]; exact (hf i hi).2
  · by_cases h : i = k
    · subst h; simpa using hx.keep hw (by omega)
    · simp only [if_neg h]
      exact (hs i hi).keep hw (by have := hne i hi; omega)
theorem Apart.put {g : Nat} {G : Nat → Nat} {n lo hi hi' : Nat} (h : Apart g G n lo hi) (k b : Nat) (hb : hi ≤ b) (hb' : b < hi') : Apart g (fun i => if i = k then b else G i) n lo hi' := by
  have h0 := h.g0
  have h1 := h.g1
  refine ⟨h0, by omega, fun i hi => ?_, fun i hi => ?_, fun i hi => ?_, fun i j hij hj => ?_⟩
  · have := h.G0 i hi; split <;> omega
  · have := h.G1 i hi; split <;> omega
  · have := h.ne i hi; split <;> omega
  · have a := h.G1 i (by omega)
    have c := h.G1 j hj
    have d := h.inj i j hij hj
    split <;> split <;> omega
theorem Apart.mono {g : Nat} {G : Nat → Nat} {n lo hi hi' : Nat} (h : Apart g G n lo hi) (hh : hi ≤ hi') : Apart g G n lo hi' :=
  ⟨h.g0, Nat.lt_of_lt_of_le h.g1 hh, h.G0, fun i hi => Nat.lt_of_lt_of_le (h.G1 i hi) hh, h.ne, h.inj⟩
theorem TsAt.below {w w1 : World} {g : Nat} {G : Nat → Nat} {sv : Nat → Value} {cap n : Nat} {N : Nat → ByteArray} {Z : Nat → List Int} (h : TsAt w g G sv cap n N Z) (hb : Below w.heap.size w w1) : TsAt w1 g G sv cap n N Z := by
  obtain ⟨⟨f, hr, hf⟩, hs⟩ := h
  exact ⟨⟨f, (Within.of (lo := 0) (hi := 0) hb).rowIs hr (.inr (Nat.zero_le _)), hf⟩, fun i hi => (hs i hi).keep (Within.of (lo := 0) (hi := 0) hb) (.inr (Nat.zero_le _))⟩
theorem TsAt.congrZ {w : World} {g : Nat} {G : Nat → Nat} {sv : Nat → Value} {cap n : Nat} {N N' : Nat → ByteArray} {Z Z' : Nat → List Int} (h : TsAt w g G sv cap n N Z) (hN : ∀ i, i < n → N i = N' i) (hZ : ∀ i, i < n → Z i = Z' i) : TsAt w g G sv cap n N' Z' := by
  obtain ⟨⟨f, hr, hf⟩, hs⟩ := h
  exact ⟨⟨f, hr, fun i hi => by rw [← hN i hi]; exact hf i hi⟩, fun i hi => by rw [← hZ i hi]; exact hs i hi⟩

theorem Two.within {lo hi : Nat} {w w1 : World} {b : Nat} {x y : Value} (h : Two w b x y) (hw : Within lo hi w w1) (ho : b < lo ∨ hi ≤ b) : Two w1 b x y :=
  ⟨(World.cell?_of_block (hw.block b h.lt ho)).trans h.c0, (World.cell?_of_block (hw.block b h.lt ho)).trans h.c1, (World.frozen?_of_block (hw.block b h.lt ho)).trans h.z0, (World.frozen?_of_block (hw.block b h.lt ho)).trans h.z1⟩
theorem own4 (w : World) (a b c d : Int) : OwnAt (w.alloc (.cells #[.int .i64 a, .int .i64 b, .int .i64 c, .int .i64 d] 2)) w.heap.size (.slice (some ⟨w.heap.size, 0, none⟩) 4 4) [a, b, c, d] := by
  refine OwnAt.made (zs := [a, b, c, d]) (by simp) (by unfold maxLen; omega) (World.rowIs_alloc w #[.int .i64 a, .int .i64 b, .int .i64 c, .int .i64 d] 2 (fun i => .int .i64 (iAt [a, b, c, d] i)) (fun i hi => ?_)) (fun i _ => rfl)
  have hi4 : i < 4 := hi
  obtain rfl | rfl | rfl | rfl : i = 0 ∨ i = 1 ∨ i = 2 ∨ i = 3 := by omega
  all_goals rfl
/-- The sides while k tiles have been mirrored. -/
def midS (ts : List Tl) (k i : Nat) : List Int := if i < k then mir (tS ts i) else tS ts i
/-- One tile more has been mirrored: its new sides stand in a new block. -/
theorem mid_step {w2 w : World} {g cap n lo k : Nat} {G : Nat → Nat} {sv : Nat → Value} {N : Nat → ByteArray} {ts : List Tl} (h : TsAt w g G sv cap n N (midS ts k)) (ha : Apart g G n lo w.heap.size) (hw : Within g (g + 1) w2 w) (a b c d : Int) (hz : mir (tS ts k) = [a, b, c, d]) :
    ∃ G' sv', TsAt ((w.alloc (.cells #[.int .i64 a, .int .i64 b, .int .i64 c, .int .i64 d] 2)).setCell ⟨g, k * 2 + 1, none⟩ (.slice (some ⟨w.heap.size, 0, none⟩) 4 4)) g G' sv' cap n N (midS ts (k + 1)) ∧
      Apart g G' n lo ((w.alloc (.cells #[.int .i64 a, .int .i64 b, .int .i64 c, .int .i64 d] 2)).setCell ⟨g, k * 2 + 1, none⟩ (.slice (some ⟨w.heap.size, 0, none⟩) 4 4)).heap.size ∧
      Within g (g + 1) w2 ((w.alloc (.cells #[.int .i64 a, .int .i64 b, .int .i64 c, .int .i64 d] 2)).setCell ⟨g, k * 2 + 1, none⟩ (.slice (some ⟨w.heap.size, 0, none⟩) 4 4)) := by
  have hB : Below w.heap.size w (w.alloc (.cells #[.int .i64 a, .int .i64 b, .int .i64 c, .int .i64 d] 2)) := by (repeat (first | exact Below.refl _ _ | refine Below.setCell ?_ (by first | (simp; done) | (simp; omega) | omega) _ | refine belowN ?_ _ | refine Below.drew ?_ | refine Below.alloc ?_ (by first | (simp; done) | (simp; omega) | omega) _ | refine Below.trans ?_ (Below.mono (by assumption) (by first | (simp; done) | (simp; omega) | omega))))
  have hg := ha.g1
  refine ⟨_, _, ((h.below hB).put ha.ne k (own4 w a b c d) (by omega)).congrZ (fun _ _ => rfl) (fun i hi => ?_), ha.put k w.heap.size (Nat.le_refl _) (by simp), hw.trans ((Within.of (lo := g) (hi := g + 1) hB).trans (Within.set1 g _ _ _))⟩
  unfold midS
  by_cases h : i = k
  · subst h; simp [hz]
  · by_cases h2 : i < k
    · rw [if_neg h, if_pos h2, if_pos (by omega)]
    · rw [if_neg h, if_neg h2, if_neg (by omega)]

end Go.Proofs.Ytcaidemlhgepfab
