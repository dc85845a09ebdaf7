/-
  Tiles as built, apart from one block. Conditions: each lemma's own.
-/
import Derived.Test.YtggpmailkkpdaaaMrgR
namespace Go.Proofs.Ytggpmailkkpdaaa
open Go.RowKit

/-- Tiles as built, none of their rows in block c0. -/
def BuiltX (w : World) (c0 base : Nat) (tv : Value) (n : Nat) (N : Nat → ByteArray) (Z : Nat → List Int) : Prop :=
  ∃ (G : Nat → Nat) (sv : Nat → Value), w.ownsRow base 64 2 tv n (tRow N sv n) ∧ (∀ i, i < n → OwnAt w (G i) (sv i) (Z i)) ∧
    (∀ i, i < n → base ≤ G i ∧ G i < w.heap.size ∧ tv.ownBlock ≠ some (G i)) ∧ (∀ i j, i < j → j < n → G i ≠ G j) ∧ (∀ i, i < n → G i ≠ c0) ∧ tv.ownBlock ≠ some c0
theorem BuiltX.built {w : World} {c0 base : Nat} {tv : Value} {n : Nat} {N : Nat → ByteArray} {Z : Nat → List Int} (h : BuiltX w c0 base tv n N Z) : Built w base tv n N Z :=
  let ⟨G, sv, h1, h2, h3, h4, _, _⟩ := h
  ⟨G, sv, h1, h2, h3, h4⟩
theorem BuiltX.keep {w w1 : World} {c0 base : Nat} {tv : Value} {n : Nat} {N : Nat → ByteArray} {Z : Nat → List Int} (h : BuiltX w c0 base tv n N Z) (hb : Below w.heap.size w w1) : BuiltX w1 c0 base tv n N Z := by
  obtain ⟨G, sv, h1, h2, h3, h4, h5, h6⟩ := h
  exact ⟨G, sv, ownsRow_keep h1 hb, fun i hi => (h2 i hi).keep (Within.of (lo := 0) (hi := 0) hb) (.inr (Nat.zero_le _)), fun i hi => ⟨(h3 i hi).1, Nat.lt_of_lt_of_le (h3 i hi).2.1 hb.size, (h3 i hi).2.2⟩, h4, h5, h6⟩
/-- A store into another block than the row's. -/
theorem own_set {w : World} {base n size : Nat} {e : TypeId} {v : Value} {xs : List Value} (h : w.ownsRow base e size v n xs) {a : Addr} (ha : v.ownBlock ≠ some a.block) (u : Value) : (w.setCell a u).ownsRow base e size v n xs := by
  obtain ⟨h1, h2⟩ := h
  refine ⟨h1, ?_⟩
  rcases h2 with h2 | ⟨g, cap, cur, rfl, hb, hg, rest⟩
  · exact .inl h2
  · exact .inr ⟨g, cap, cur, rfl, hb, (Below.heap_setCell _ _ _ _ (fun e => ha (by rw [← e]; rfl))).trans hg, rest⟩
theorem BuiltX.set {w : World} {c0 base : Nat} {tv : Value} {n : Nat} {N : Nat → ByteArray} {Z : Nat → List Int} (h : BuiltX w c0 base tv n N Z) {a : Addr} (ha : a.block = c0) (u : Value) : BuiltX (w.setCell a u) c0 base tv n N Z := by
  obtain ⟨G, sv, h1, h2, h3, h4, h5, h6⟩ := h
  refine ⟨G, sv, own_set h1 (by rw [ha]; exact h6) u, fun i hi => (h2 i hi).keep (Within.set a.block (a.block + 1) w (Nat.le_refl _) (Nat.lt_succ_self _) u) (by have := h5 i hi; omega), fun i hi => ⟨(h3 i hi).1, by simpa [World.setCell] using (h3 i hi).2.1, (h3 i hi).2.2⟩, h4, h5, h6⟩
theorem Rst.builtX {T0 : TypeId} {c0 : Nat} {w w' : World} (h : Rst T0 c0 w w') {base n : Nat} {tv : Value} {N : Nat → ByteArray} {Z : Nat → List Int} (hb : Built w base tv n N Z) (hT : 2 ≠ T0) (hT2 : 64 ≠ T0) (hc : w.heap.size ≤ c0) : BuiltX w' c0 base tv n N Z := by
  obtain ⟨G, sv, h1, h2, h3, h4⟩ := hb
  have hne : tv.ownBlock ≠ some c0 := fun e => by have := own_block_lt h1 _ e; omega
  refine ⟨G, sv, h.row h1 hT2 hne, fun i hi => ?_, fun i hi => ⟨(h3 i hi).1, Nat.lt_of_lt_of_le (h3 i hi).2.1 h.le, (h3 i hi).2.2⟩, h4, fun i hi => by have := (h3 i hi).2.1; omega, hne⟩
  have := h3 i hi
  exact h.at4 (h2 i hi) hT (by omega)
theorem own_uniq {w : World} {base n size : Nat} {e : TypeId} {v : Value} {xs ys : List Value} (h : w.ownsRow base e size v n xs) (h' : w.ownsRow base e size v n ys) : ys = xs := by
  obtain ⟨l, h⟩ := h
  obtain ⟨l', h'⟩ := h'
  rcases h with ⟨rfl, rfl⟩ | ⟨g, cap, cur, rfl, hb, hg, h1, h2, h3, h4⟩
  · rw [List.eq_nil_of_length_eq_zero (l := xs) (by simpa using l), List.eq_nil_of_length_eq_zero (l := ys) (by simpa using l')]
  · rcases h' with ⟨h0, -⟩ | ⟨g', cap', cur', hv, hb', hg', k1, k2, k3, k4⟩
    · simp at h0
    · simp only [Value.slice.injEq, Option.some.injEq, Addr.mk.injEq, and_true, true_and] at hv
      obtain ⟨rfl, rfl⟩ := hv
      have e := hg.symm.trans hg'
      simp only [Option.some.injEq, Obj.cells.injEq, and_true] at e
      subst e
      rw [← h4, ← k4]
/-- One tile more. -/
theorem BuiltX.more {w w3 w4 : World} {c0 base k : Nat} {tv : Value} {N N0 : Nat → ByteArray} {Z Z0 : Nat → List Int} {s : ByteArray} {zs : List Int} {x : Value} {b g cap : Nat} {o : Obj} {xs : List Value}
    (h : BuiltX w c0 base tv k N0 Z0) (hc0 : c0 < w.heap.size)
    (hb3 : Below w.heap.size w w3) (hx : OwnAt w3 b x zs) (hb0 : w.heap.size ≤ b) (hb1 : b < w3.heap.size) (hbase : base ≤ w.heap.size)
    (hxs : ∀ ys, w.ownsRow base 64 2 tv k ys → ys = xs)
    (hown : w4.ownsRow base 64 2 (.slice (some ⟨g, 0, none⟩) (k + 1) cap) (k + 1) (xs ++ [.string s, x])) (hgrow : (w3.alloc o).drew.grownBy w4 tv.ownBlock) (hat : tv.ownBlock = some g ∨ g = w3.heap.size + 1) (hN : N k = s) (hZ : Z k = zs)
    (hNN : ∀ i, i < k → N0 i = N i) (hZZ : ∀ i, i < k → Z0 i = Z i) :
    BuiltX w4 c0 base (.slice (some ⟨g, 0, none⟩) (k + 1) cap) (k + 1) N Z ∧ g ≠ c0 := by
  obtain ⟨G, sv, h1, h2, h3, h4, h5, h6⟩ := h
  obtain rfl := hxs _ h1
  have hlt := own_block_lt h1
  have hs3 := hb3.size
  have hg0 : g ≠ c0 := by
    rcases hat with h | h
    · exact fun e => h6 (by rw [h, e])
    · omega
  have hBA : Below w.heap.size w (w3.alloc o).drew := by (repeat (first | exact Below.refl _ _ | refine Below.setCell ?_ (by first | (simp; done) | (simp; omega) | omega) _ | refine belowN ?_ _ | refine Below.drew ?_ | refine Below.alloc ?_ (by first | (simp; done) | (simp; omega) | omega) _ | refine Below.trans ?_ (Below.mono (by assumption) (by first | (simp; done) | (simp; omega) | omega))))
  have hB3 : Below w3.heap.size w3 (w3.alloc o).drew := by (repeat (first | exact Below.refl _ _ | refine Below.setCell ?_ (by first | (simp; done) | (simp; omega) | omega) _ | refine belowN ?_ _ | refine Below.drew ?_ | refine Below.alloc ?_ (by first | (simp; done) | (simp; omega) | omega) _ | refine Below.trans ?_ (Below.mono (by assumption) (by first | (simp; done) | (simp; omega) | omega))))
  have hszA : w3.heap.size ≤ (w3.alloc o).drew.heap.size := hB3.size
  refine ⟨?_, hg0⟩
  have keep : ∀ c y (ys : List Int), c < (w3.alloc o).drew.heap.size → tv.ownBlock ≠ some c → OwnAt (w3.alloc o).drew c y ys → OwnAt w4 c y ys := by
    intro c y ys hc hne ho
    rcases ho with ho | ⟨cap', f, e1, e2, e3, e4, e5⟩
    · exact .inl ho
    · exact .inr ⟨cap', f, e1, e2, e3, e4.of_block (hgrow.block c hc (fun e => hne e.symm)), e5⟩
  have hbt : tv.ownBlock ≠ some b := fun e => by have := hlt _ e; omega
  refine ⟨fun i => if i = k then b else G i, fun i => if i = k then x else sv i, ?_, ?_, ?_, ?_, ?_, by simpa [Value.ownBlock] using hg0⟩
  · rw [tRow, tRow_congr N N0 (fun i => if i = k then x else sv i) sv k (fun i hi => ⟨(hNN i hi).symm, if_neg (by omega)⟩), hN]
    simpa using hown
  · intro i hi
    by_cases h : i = k
    · subst h; simp only [if_true]; rw [hZ]
      exact keep b x zs (by omega) hbt (hx.keep (Within.of (lo := 0) (hi := 0) hB3) (.inr (Nat.zero_le _)))
    · simp only [if_neg h]
      have := h3 i (by omega)
      rw [← hZZ i (by omega)]
      exact keep _ _ _ (by omega) this.2.2 ((h2 i (by omega)).keep (Within.of (lo := 0) (hi := 0) hBA) (.inr (Nat.zero_le _)))
  · intro i hi
    have hgs : (w3.alloc o).drew.heap.size ≤ w4.heap.size := hgrow.size
    by_cases h : i = k
    · subst h
      simp only [if_true]
      refine ⟨by omega, by omega, ?_⟩
      simp only [Value.ownBlock]
      intro e
      have e : g = b := by simpa using e
      rcases hat with h | h
      · exact hbt (by rw [h, e])
      · omega
    · simp only [if_neg h]
      have h3i := h3 i (by omega)
      refine ⟨h3i.1, by omega, ?_⟩
      simp only [Value.ownBlock]
      intro e
      have e : g = G i := by simpa using e
      rcases hat with h | h
      · exact h3i.2.2 (by rw [h, e])
      · omega
  · intro i j hij hj
    by_cases h : j = k
    · subst h
      simp only [if_neg (show ¬ i = j by omega), if_true]
      have := (h3 i (by omega)).2.1
      omega
    · simp only [if_neg h, if_neg (show ¬ i = k by omega)]
      exact h4 i j hij (by omega)
  · intro i hi
    by_cases h : i = k
    · simp only [if_pos h]; omega
    · simp only [if_neg h]
      exact h5 i (by omega)

end Go.Proofs.Ytggpmailkkpdaaa
