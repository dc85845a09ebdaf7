/-
  Lists of numbers, glues and tiles in blocks of a call's own, which may be written; and what stays where other blocks are written. Conditions: each lemma's own.
-/
import Derived.Test.YtnofbeeihdgmdaaDoorEq
import Derived.Laws.OwnMore
namespace Go.Proofs.YtnofbeeihdgmdaaDoor
open Go.RowKit

/-- v is a slice of these numbers, in block g. -/
def OwnAt (w : World) (g : Nat) (v : Value) (zs : List Int) : Prop :=
  (v = .slice none 0 0 ∧ zs.length = 0) ∨ ∃ cap f, v = .slice (some ⟨g, 0, none⟩) zs.length cap ∧ zs.length ≤ cap ∧ cap ≤ maxLen ∧ w.rowIs g 2 cap f ∧ ∀ i, i < zs.length → f i = .int .i64 (iAt zs i)
theorem OwnAt.ints {w : World} {g : Nat} {v : Value} {zs : List Int} (h : OwnAt w g v zs) : Ints w v zs := by
  rcases h with ⟨rfl, h0⟩ | ⟨cap, f, rfl, hl, hm, hr, hf⟩
  · exact ⟨none, 0, by rw [h0], by omega, by unfold maxLen; omega, fun h => by omega⟩
  · refine ⟨_, cap, rfl, hl, hm, fun _ => ⟨g, 0, rfl, fun i j hi hj => ?_⟩⟩
    obtain rfl : j = 0 := by omega
    have := hr.cell (i := i) (by omega)
    rw [hf i hi] at this
    simpa using this
theorem OwnAt.keep {w w1 : World} {g lo hi : Nat} {v : Value} {zs : List Int} (h : OwnAt w g v zs) (hw : Within lo hi w w1) (ho : g < lo ∨ hi ≤ g) : OwnAt w1 g v zs := by
  rcases h with h | ⟨cap, f, h1, h2, h3, h4, h5⟩
  · exact .inl h
  · exact .inr ⟨cap, f, h1, h2, h3, hw.rowIs h4 ho, h5⟩
theorem OwnI.at_ {w : World} {g : Nat} {v : Value} {zs : List Int} (h : OwnI w g v zs) (hz : zs.length ≤ maxLen) : OwnAt w g v zs := .inr ⟨_, _, h.1, Nat.le_refl _, hz, h.2, fun _ _ => rfl⟩

/-- A row of tiles in block g, with room for cap: names N, the slices of the sides sv, which hold Z. -/
structure TsAt (w : World) (g : Nat) (G : Nat → Nat) (sv : Nat → Value) (cap n : Nat) (N : Nat → ByteArray) (Z : Nat → List Int) : Prop where
  row : ∃ f, w.rowIs g 115 (cap * 2) f ∧ ∀ i, i < n → f (i * 2) = .string (N i) ∧ f (i * 2 + 1) = sv i
  side : ∀ i, i < n → OwnAt w (G i) (sv i) (Z i)
/-- .. in blocks of their own, from lo to hi. -/
structure Apart (g : Nat) (G : Nat → Nat) (n lo hi : Nat) : Prop where
  g0 : lo ≤ g
  g1 : g < hi
  G0 : ∀ i, i < n → lo ≤ G i
  G1 : ∀ i, i < n → G i < hi
  ne : ∀ i, i < n → G i ≠ g
  inj : ∀ i j, i < j → j < n → G i ≠ G j
/-- v is a slice of these tiles, in blocks of their own from lo to hi. -/
def OwnTs (w : World) (lo hi : Nat) (v : Value) (ts : List Tl) : Prop :=
  (v = .slice none 0 0 ∧ ts.length = 0) ∨ ∃ g G sv cap, v = .slice (some ⟨g, 0, none⟩) ts.length cap ∧ ts.length ≤ cap ∧ cap ≤ maxLen ∧ TsAt w g G sv cap ts.length (tN ts) (tS ts) ∧ Apart g G ts.length lo hi
/-- A row of glues in block g. -/
def GsAt (w : World) (g cap n : Nat) (N : Nat → ByteArray) (X : Nat → Int) : Prop :=
  ∃ f, w.rowIs g 113 (cap * 2) f ∧ ∀ i, i < n → f (i * 2) = .string (N i) ∧ f (i * 2 + 1) = .int .i64 (X i)
def OwnGs (w : World) (lo hi : Nat) (v : Value) (gs : List Gl) : Prop :=
  (v = .slice none 0 0 ∧ gs.length = 0) ∨ ∃ g cap, v = .slice (some ⟨g, 0, none⟩) gs.length cap ∧ gs.length ≤ cap ∧ cap ≤ maxLen ∧ GsAt w g cap gs.length (gN gs) (gS gs) ∧ lo ≤ g ∧ g < hi
/-- A set of tiles in blocks of its own from lo to hi; the glues' block lies apart from those of the tiles. -/
def OwnSet (w : World) (lo hi : Nat) (vg vt : Value) (S : Set_) : Prop :=
  ∃ a b c d, lo ≤ a ∧ b ≤ hi ∧ lo ≤ c ∧ d ≤ hi ∧ (b ≤ c ∨ d ≤ a) ∧ OwnGs w a b vg S.gs ∧ OwnTs w c d vt S.ts

theorem OwnGs.glues {w : World} {lo hi : Nat} {v : Value} {gs : List Gl} (h : OwnGs w lo hi v gs) : Glues w v gs := by
  rcases h with ⟨rfl, h0⟩ | ⟨g, cap, rfl, hl, hm, ⟨f, hr, hf⟩, -⟩
  · exact ⟨none, 0, by rw [h0], by omega, by unfold maxLen; omega, fun h => by omega⟩
  · refine ⟨_, cap, rfl, hl, hm, fun _ => ⟨g, 0, rfl, fun i j hi hj => ?_⟩⟩
    have := hr.cell (i := i * 2 + j) (by omega)
    rw [show 0 + i * 2 + j = i * 2 + j by omega, this]
    by_cases h0 : j = 0
    · subst h0; simp [(hf i hi).1]
    · obtain rfl : j = 1 := by omega
      simp [(hf i hi).2]
theorem OwnTs.tiles {w : World} {lo hi : Nat} {v : Value} {ts : List Tl} (h : OwnTs w lo hi v ts) : Tiles w v ts := by
  rcases h with ⟨rfl, h0⟩ | ⟨g, G, sv, cap, rfl, hl, hm, ⟨⟨f, hr, hf⟩, hs⟩, -⟩
  · exact ⟨fun _ => undef, ⟨none, 0, by rw [h0], by omega, by unfold maxLen; omega, fun h => by omega⟩, fun i hi => by omega⟩
  · refine ⟨sv, ⟨_, cap, rfl, hl, hm, fun _ => ⟨g, 0, rfl, fun i j hi hj => ?_⟩⟩, fun i hi => (hs i hi).ints⟩
    have := hr.cell (i := i * 2 + j) (by omega)
    rw [show 0 + i * 2 + j = i * 2 + j by omega, this]
    by_cases h0 : j = 0
    · subst h0; simp [(hf i hi).1]
    · obtain rfl : j = 1 := by omega
      simp [(hf i hi).2]
theorem OwnGs.keep {w w1 : World} {lo hi a b : Nat} {v : Value} {gs : List Gl} (h : OwnGs w lo hi v gs) (hw : Within a b w w1) (ho : hi ≤ a ∨ b ≤ lo) : OwnGs w1 lo hi v gs := by
  rcases h with h | ⟨g, cap, h1, h2, h3, ⟨f, hr, hf⟩, h4, h5⟩
  · exact .inl h
  · exact .inr ⟨g, cap, h1, h2, h3, ⟨f, hw.rowIs hr (by omega), hf⟩, h4, h5⟩
theorem OwnTs.keep {w w1 : World} {lo hi a b : Nat} {v : Value} {ts : List Tl} (h : OwnTs w lo hi v ts) (hw : Within a b w w1) (ho : hi ≤ a ∨ b ≤ lo) : OwnTs w1 lo hi v ts := by
  rcases h with h | ⟨g, G, sv, cap, h1, h2, h3, ⟨⟨f, hr, hf⟩, hs⟩, ha⟩
  · exact .inl h
  · have g0 := ha.g0
    have g1 := ha.g1
    refine .inr ⟨g, G, sv, cap, h1, h2, h3, ⟨⟨f, hw.rowIs hr (by omega), hf⟩, fun i hi' => (hs i hi').keep hw ?_⟩, ha⟩
    have := ha.G0 i hi'
    have := ha.G1 i hi'
    omega

/-- A name is written. -/
theorem TsAt.name {w : World} {g : Nat} {G : Nat → Nat} {sv : Nat → Value} {cap n : Nat} {N : Nat → ByteArray} {Z : Nat → List Int} (h : TsAt w g G sv cap n N Z) (hne : ∀ i, i < n → G i ≠ g) (k : Nat) (s : ByteArray) :
    TsAt (w.setCell ⟨g, k * 2, none⟩ (.string s)) g G sv cap n (fun i => if i = k then s else N i) Z := by
  obtain ⟨⟨f, hr, hf⟩, hs⟩ := h
  refine ⟨⟨_, hr.set (k * 2) (.string s), fun i hi => ⟨?_, ?_⟩⟩, fun i hi => (hs i hi).keep (Within.set g (g + 1) w (Nat.le_refl _) (Nat.lt_succ_self _) _) (by have := hne i hi; omega)⟩
  · by_cases h : i = k
    · subst h; simp
    · rw [if_neg (by omega), if_neg h]; exact (hf i hi).1
  · rw [if_neg (by omega)]; exact (hf i hi).2
/-- The sides of a tile are written. -/
theorem TsAt.sides {w w1 : World} {g : Nat} {G : Nat → Nat} {sv : Nat → Value} {cap n : Nat} {N : Nat → ByteArray} {Z : Nat → List Int} (h : TsAt w g G sv cap n N Z) {lo hi : Nat} (ha : Apart g G n lo hi) {k : Nat} (hk : k < n) {zs : List Int}
    (hw : Within (G k) (G k + 1) w w1) (hz : OwnAt w1 (G k) (sv k) zs) : TsAt w1 g G sv cap n N (fun i => if i = k then zs else Z i) := by
  obtain ⟨⟨f, hr, hf⟩, hs⟩ := h
  refine ⟨⟨f, hw.rowIs hr (by have := ha.ne k hk; omega), hf⟩, fun i hi => ?_⟩
  by_cases h : i = k
  · subst h; simpa using hz
  · simp only [if_neg h]
    refine (hs i hi).keep hw ?_
    rcases Nat.lt_or_gt_of_ne h with h' | h'
    · have := ha.inj i k h' hk; omega
    · have := ha.inj k i h' hi; omega
theorem GsAt.name {w : World} {g cap n : Nat} {N : Nat → ByteArray} {X : Nat → Int} (h : GsAt w g cap n N X) (k : Nat) (s : ByteArray) : GsAt (w.setCell ⟨g, k * 2, none⟩ (.string s)) g cap n (fun i => if i = k then s else N i) X := by
  obtain ⟨f, hr, hf⟩ := h
  refine ⟨_, hr.set (k * 2) (.string s), fun i hi => ⟨?_, ?_⟩⟩
  · by_cases h : i = k
    · subst h; simp
    · rw [if_neg (by omega)]; simp only [if_neg h]; exact (hf i hi).1
  · rw [if_neg (by omega)]; exact (hf i hi).2
theorem GsAt.str {w : World} {g cap n : Nat} {N : Nat → ByteArray} {X : Nat → Int} (h : GsAt w g cap n N X) (k : Nat) (x : Int) : GsAt (w.setCell ⟨g, k * 2 + 1, none⟩ (.int .i64 x)) g cap n N (fun i => if i = k then x else X i) := by
  obtain ⟨f, hr, hf⟩ := h
  refine ⟨_, hr.set (k * 2 + 1) (.int .i64 x), fun i hi => ⟨?_, ?_⟩⟩
  · rw [if_neg (by omega)]; exact (hf i hi).1
  · by_cases h : i = k
    · subst h; simp
    · rw [if_neg (by omega)]; simp only [if_neg h]; exact (hf i hi).2

/-- What the law's own copy lays is of this kind. -/
theorem OwnG.gs {w : World} {g : Nat} {v : Value} {gs : List Gl} (h : OwnG w g v gs) (hz : gs.length ≤ maxLen) : OwnGs w g (g + 1) v gs := by
  obtain ⟨rfl, hr⟩ := h
  refine .inr ⟨g, _, rfl, Nat.le_refl _, hz, ⟨_, hr, fun i _ => ?_⟩, Nat.le_refl _, Nat.lt_succ_self _⟩
  simp [gCell, show (i * 2 + 1) % 2 = 1 by omega, show (i * 2 + 1) / 2 = i by omega]
theorem OwnT.ts {w : World} {g : Nat} {v : Value} {ts : List Tl} (h : OwnT w g v ts) (hz : ts.length ≤ maxLen) (hs : ∀ i, i < ts.length → (tS ts i).length ≤ maxLen) : OwnTs w g w.heap.size v ts := by
  obtain ⟨rfl, G, hr, hG⟩ := h
  refine .inr ⟨g, G, fun i => headOf (G i) (tS ts i).length, _, rfl, Nat.le_refl _, hz, ⟨⟨_, hr, fun i _ => ?_⟩, fun i hi => OwnI.at_ ⟨rfl, (hG i hi).2.2⟩ (hs i hi)⟩, ?_⟩
  · simp [tCell, show (i * 2 + 1) % 2 = 1 by omega, show (i * 2 + 1) / 2 = i by omega]
  · exact ⟨Nat.le_refl _, hr.lt, fun i hi => Nat.le_of_lt (hG i hi).1, fun i hi => (hG i hi).2.2.lt, fun i hi => by have := (hG i hi).1; omega, fun i j hij hj => by have := (hG j hj).2.1 i hij; omega⟩

theorem SetOwn.own {w : World} {lo : Nat} {vg vt : Value} {S : Set_} (h : SetOwn w lo vg vt S) (hs : S.small) : OwnSet w lo w.heap.size vg vt S := by
  obtain ⟨g, t, h1, h2, h3, h4⟩ := h
  exact ⟨g, g + 1, t, w.heap.size, h1, h3.2.lt, by omega, Nat.le_refl _, .inl (by omega), h3.gs (maxLen_of hs.gl), h4.ts (maxLen_of hs.tl) fun i hi => maxLen_of (hs.tn i hi).2⟩
theorem OwnSet.setIn {w : World} {lo hi : Nat} {vg vt : Value} {S : Set_} (h : OwnSet w lo hi vg vt S) : SetIn w vg vt S :=
  let ⟨_, _, _, _, _, _, _, _, _, h1, h2⟩ := h
  ⟨h1.glues, h2.tiles⟩
theorem OwnSet.keep {w w1 : World} {lo hi a b : Nat} {vg vt : Value} {S : Set_} (h : OwnSet w lo hi vg vt S) (hw : Within a b w w1) (ho : hi ≤ a ∨ b ≤ lo) : OwnSet w1 lo hi vg vt S :=
  let ⟨x, y, c, d, h1, h2, h3, h4, h5, h6, h7⟩ := h
  ⟨x, y, c, d, h1, h2, h3, h4, h5, h6.keep hw (by omega), h7.keep hw (by omega)⟩

end Go.Proofs.YtnofbeeihdgmdaaDoor
