/-
  A list of tiles that a call builds, one tile after another. Conditions: each lemma's own.
-/
import Derived.Test.YtggpmailkkpdaaaCopy
namespace Go.Proofs.Ytggpmailkkpdaaa
open Go.RowKit

/-- The cells of n tiles. -/
def tRow (N : Nat → ByteArray) (sv : Nat → Value) : Nat → List Value
  | 0 => []
  | n + 1 => tRow N sv n ++ [.string (N n), sv n]
theorem tRow_len (N : Nat → ByteArray) (sv : Nat → Value) (n : Nat) : (tRow N sv n).length = n * 2 := by
  induction n with
  | zero => rfl
  | succ n ih => simp [tRow, ih]; omega
theorem tRow_at (N : Nat → ByteArray) (sv : Nat → Value) {n i : Nat} (h : i < n) : (tRow N sv n)[i * 2]? = some (.string (N i)) ∧ (tRow N sv n)[i * 2 + 1]? = some (sv i) := by
  induction n with
  | zero => omega
  | succ n ih =>
    have hl := tRow_len N sv n
    by_cases hi : i < n
    · obtain ⟨a, b⟩ := ih hi
      exact ⟨by rw [tRow, List.getElem?_append_left (by omega)]; exact a, by rw [tRow, List.getElem?_append_left (by omega)]; exact b⟩
    · obtain rfl : i = n := by omega
      refine ⟨?_, ?_⟩
      · rw [tRow, List.getElem?_append_right (by omega), hl, Nat.sub_self]; rfl
      · rw [tRow, List.getElem?_append_right (by omega), hl, show i * 2 + 1 - i * 2 = 1 by omega]; rfl
theorem tRow_congr (N N' : Nat → ByteArray) (sv sv' : Nat → Value) (n : Nat) (h : ∀ i, i < n → N i = N' i ∧ sv i = sv' i) : tRow N sv n = tRow N' sv' n := by
  induction n with
  | zero => rfl
  | succ n ih => rw [tRow, tRow, ih fun i hi => h i (by omega), (h n (by omega)).1, (h n (by omega)).2]

/-- tv is a list of n tiles, names N, sides Z, in blocks from base on. -/
def Built (w : World) (base : Nat) (tv : Value) (n : Nat) (N : Nat → ByteArray) (Z : Nat → List Int) : Prop :=
  ∃ (G : Nat → Nat) (sv : Nat → Value), w.ownsRow base 64 2 tv n (tRow N sv n) ∧ (∀ i, i < n → OwnAt w (G i) (sv i) (Z i)) ∧
    (∀ i, i < n → base ≤ G i ∧ G i < w.heap.size ∧ tv.ownBlock ≠ some (G i)) ∧ ∀ i j, i < j → j < n → G i ≠ G j
theorem Built.nil (w : World) (base : Nat) (N : Nat → ByteArray) (Z : Nat → List Int) : Built w base (.slice none 0 0) 0 N Z :=
  ⟨fun _ => 0, fun _ => undef, World.ownsRow_nil _ _ _ _, fun i hi => by omega, fun i hi => by omega, fun i j _ hj => by omega⟩
theorem Built.keep {w w1 : World} {base : Nat} {tv : Value} {n : Nat} {N : Nat → ByteArray} {Z : Nat → List Int} (h : Built w base tv n N Z) (hb : Below w.heap.size w w1) : Built w1 base tv n N Z := by
  obtain ⟨G, sv, h1, h2, h3, h4⟩ := h
  exact ⟨G, sv, ownsRow_keep h1 hb, fun i hi => (h2 i hi).keep (Within.of (lo := 0) (hi := 0) hb) (.inr (Nat.zero_le _)), fun i hi => ⟨(h3 i hi).1, Nat.lt_of_lt_of_le (h3 i hi).2.1 hb.size, (h3 i hi).2.2⟩, h4⟩
theorem Built.set {w : World} {base : Nat} {tv : Value} {n : Nat} {N : Nat → ByteArray} {Z : Nat → List Int} (h : Built w base tv n N Z) {a : Addr} (ha : a.block < base) (u : Value) : Built (w.setCell a u) base tv n N Z := by
  obtain ⟨G, sv, h1, h2, h3, h4⟩ := h
  refine ⟨G, sv, ownsRow_setCell_below h1 ha u, fun i hi => (h2 i hi).keep (Within.set a.block (a.block + 1) w (Nat.le_refl _) (Nat.lt_succ_self _) u) (by have := (h3 i hi).1; omega), fun i hi => ⟨(h3 i hi).1, by simpa [World.setCell] using (h3 i hi).2.1, (h3 i hi).2.2⟩, h4⟩
/-- One tile more: its sides lie in block b, made behind all that was built; the row has moved to a new block at most. -/
theorem Built.step {w w1 : World} {base : Nat} {tv : Value} {n : Nat} {N : Nat → ByteArray} {Z : Nat → List Int} {G : Nat → Nat} {sv : Nat → Value}
    (h2 : ∀ i, i < n → OwnAt w (G i) (sv i) (Z i)) (h3 : ∀ i, i < n → base ≤ G i ∧ G i < w.heap.size ∧ tv.ownBlock ≠ some (G i)) (h4 : ∀ i j, i < j → j < n → G i ≠ G j)
    {s : ByteArray} {zs : List Int} {x : Value} {b g cap : Nat} (hx : OwnAt w b x zs) (hb0 : base ≤ b) (hb1 : b < w.heap.size) (hbt : tv.ownBlock ≠ some b) (hbG : ∀ i, i < n → G i ≠ b)
    (hown : w1.ownsRow base 64 2 (.slice (some ⟨g, 0, none⟩) (n + 1) cap) (n + 1) (tRow N sv n ++ [.string s, x])) (hgrow : w.grownBy w1 tv.ownBlock) (hat : tv.ownBlock = some g ∨ w.heap.size ≤ g) :
    Built w1 base (.slice (some ⟨g, 0, none⟩) (n + 1) cap) (n + 1) (fun i => if i = n then s else N i) (fun i => if i = n then zs else Z i) := by
  have keep : ∀ c y (ys : List Int), c < w.heap.size → tv.ownBlock ≠ some c → OwnAt w c y ys → OwnAt w1 c y ys := by
    intro c y ys hc hne ho
    rcases ho with ho | ⟨cap', f, e1, e2, e3, e4, e5⟩
    · exact .inl ho
    · exact .inr ⟨cap', f, e1, e2, e3, e4.of_block (hgrow.block c hc (fun e => hne e.symm)), e5⟩
  have gne : ∀ c, c < w.heap.size → tv.ownBlock ≠ some c → g ≠ c := by
    intro c hc hne e
    subst e
    rcases hat with h | h
    · exact hne h
    · omega
  refine ⟨fun i => if i = n then b else G i, fun i => if i = n then x else sv i, ?_, ?_, ?_, ?_⟩
  · rw [tRow, tRow_congr (fun i => if i = n then s else N i) N (fun i => if i = n then x else sv i) sv n (fun i hi => ⟨if_neg (by omega), if_neg (by omega)⟩)]
    simpa using hown
  · intro i hi
    by_cases h : i = n
    · subst h; simpa using keep b x zs hb1 hbt hx
    · simp only [if_neg h]
      have := h3 i (by omega)
      exact keep _ _ _ this.2.1 this.2.2 (h2 i (by omega))
  · intro i hi
    by_cases h : i = n
    · subst h
      simp only [if_true]
      exact ⟨hb0, Nat.lt_of_lt_of_le hb1 hgrow.size, fun e => gne b hb1 hbt (by simpa [Value.ownBlock] using e)⟩
    · simp only [if_neg h]
      have := h3 i (by omega)
      exact ⟨this.1, Nat.lt_of_lt_of_le this.2.1 hgrow.size, fun e => gne _ this.2.1 this.2.2 (by simpa [Value.ownBlock] using e)⟩
  · intro i j hij hj
    by_cases h : j = n
    · subst h
      simp only [if_neg (show ¬ i = j by omega), if_true]
      exact hbG i hij
    · simp only [if_neg h, if_neg (show ¬ i = n by omega)]
      exact h4 i j hij (by omega)
/-- What was built, as a list of tiles. -/
theorem Built.ts {w : World} {base : Nat} {tv : Value} {ts : List Tl} (h : Built w base tv ts.length (tN ts) (tS ts)) : OwnTs w base w.heap.size tv ts := by
  obtain ⟨G, sv, h1, h2, h3, h4⟩ := h
  by_cases h0 : tv = .slice none 0 0
  · subst h0
    rcases h1.2 with ⟨-, hn⟩ | ⟨g, cap, cur, hv, -⟩
    · exact .inl ⟨rfl, hn⟩
    · simp at hv
  · obtain ⟨g, cap, rfl⟩ : ∃ g cap, tv = .slice (some ⟨g, 0, none⟩) ts.length cap := by
      rcases h1.2 with ⟨hv, -⟩ | ⟨g, cap, cur, hv, -⟩
      · exact absurd hv h0
      · exact ⟨g, cap, hv⟩
    obtain ⟨e1, e2, e3, f, hr, hf⟩ := row_fn h1
    refine .inr ⟨g, G, sv, cap, rfl, e2, e3, ⟨⟨f, hr, fun i hi => ?_⟩, h2⟩, ⟨e1, hr.lt, fun i hi => (h3 i hi).1, fun i hi => (h3 i hi).2.1, fun i hi e => (h3 i hi).2.2 (by rw [e]; rfl), h4⟩⟩
    obtain ⟨a, b⟩ := tRow_at (tN ts) sv hi
    have x1 := hf (i * 2) (by omega)
    have x2 := hf (i * 2 + 1) (by omega)
    rw [a] at x1
    rw [b] at x2
    exact ⟨by simpa using x1, by simpa using x2⟩
theorem Built.congr {w : World} {base : Nat} {tv : Value} {n : Nat} {N N' : Nat → ByteArray} {Z Z' : Nat → List Int} (h : Built w base tv n N Z) (hN : ∀ i, i < n → N i = N' i) (hZ : ∀ i, i < n → Z i = Z' i) : Built w base tv n N' Z' := by
  obtain ⟨G, sv, h1, h2, h3, h4⟩ := h
  exact ⟨G, sv, by rw [← tRow_congr N N' sv sv n fun i hi => ⟨hN i hi, rfl⟩]; exact h1, fun i hi => by rw [← hZ i hi]; exact h2 i hi, h3, h4⟩

end Go.Proofs.Ytggpmailkkpdaaa
