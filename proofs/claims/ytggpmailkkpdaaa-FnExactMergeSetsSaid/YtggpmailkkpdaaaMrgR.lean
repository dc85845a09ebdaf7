/-
  What stays where rows of one kind are written. Conditions: each lemma's own.
-/
import Derived.Test.YtggpmailkkpdaaaMergeI
import Derived.Test.YtggpmailkkpdaaaOwnR
import Derived.Test.YtggpmailkkpdaaaStepA
import Derived.Test.YtggpmailkkpdaaaSame
namespace Go.Proofs.Ytggpmailkkpdaaa
open Go.RowKit

/-- Blocks of w that hold no row of this type, and are not block c0, lie in w' as they lay. -/
structure Rst (T0 : TypeId) (c0 : Nat) (w w' : World) : Prop where
  le : w.heap.size ≤ w'.heap.size
  at_ : ∀ (c : Nat) (cs : Array Value) (T : TypeId) (fr : Nat × Nat), w.heap[c]? = some (.cells cs T fr) → c ≠ c0 → T ≠ T0 → w'.heap[c]? = some (.cells cs T fr)
theorem hp_lt {w : World} {c : Nat} {o : Obj} (h : w.heap[c]? = some o) : c < w.heap.size := (Array.getElem?_eq_some_iff.1 h).1
theorem Rst.refl (T0 : TypeId) (c0 : Nat) (w : World) : Rst T0 c0 w w := ⟨Nat.le_refl _, fun _ _ _ _ h _ _ => h⟩
theorem Rst.below {T0 : TypeId} {c0 : Nat} {w w1 w2 : World} (h : Rst T0 c0 w w1) (hb : Below w1.heap.size w1 w2) : Rst T0 c0 w w2 :=
  ⟨Nat.le_trans h.le hb.size, fun c cs T fr hc hn hT => by
    have h1 := h.at_ c cs T fr hc hn hT
    exact (hb.block c (hp_lt h1)).trans h1⟩
theorem own_ne {w : World} {base n size : Nat} {e : TypeId} {v : Value} {xs : List Value} (h : w.ownsRow base e size v n xs) {c : Nat} {cs : Array Value} {T : TypeId} {fr : Nat × Nat} (hc : w.heap[c]? = some (.cells cs T fr)) (hT : T ≠ e) : v.ownBlock ≠ some c := by
  rcases h.2 with ⟨rfl, _⟩ | ⟨g, cap, cur, rfl, _, hg, _⟩
  · simp [Value.ownBlock]
  · intro e
    simp only [Value.ownBlock, Option.some.injEq] at e
    subst e
    rw [hg] at hc
    simp only [Option.some.injEq, Obj.cells.injEq] at hc
    exact hT hc.2.1.symm
/-- A row of that type grows. -/
theorem Rst.grow {T0 : TypeId} {c0 : Nat} {w w1 w2 : World} (h : Rst T0 c0 w w1) {base n size : Nat} {v : Value} {xs : List Value} (ho : w1.ownsRow base T0 size v n xs) (hg : w1.grownBy w2 v.ownBlock) : Rst T0 c0 w w2 :=
  ⟨Nat.le_trans h.le hg.size, fun c cs T fr hc hn hT => by
    have h1 := h.at_ c cs T fr hc hn hT
    exact (hg.block c (hp_lt h1) (fun e => own_ne ho h1 hT e.symm)).trans h1⟩
/-- A row that lies behind grows. -/
theorem Rst.grow2 {T0 : TypeId} {c0 : Nat} {w w1 w2 : World} (h : Rst T0 c0 w w1) {base n size : Nat} {e : TypeId} {v : Value} {xs : List Value} (ho : w1.ownsRow base e size v n xs) (hb : w.heap.size ≤ base) (hg : w1.grownBy w2 v.ownBlock) : Rst T0 c0 w w2 :=
  ⟨Nat.le_trans h.le hg.size, fun c cs T fr hc hn hT => by
    have h1 := h.at_ c cs T fr hc hn hT
    exact (hg.block c (hp_lt h1) (fun e => by have := own_block_ge ho c e.symm; have := hp_lt hc; omega)).trans h1⟩
/-- A store behind, or into block c0. -/
theorem Rst.set {T0 : TypeId} {c0 : Nat} {w w1 : World} (h : Rst T0 c0 w w1) {a : Addr} (ha : w.heap.size ≤ a.block ∨ a.block = c0) (u : Value) : Rst T0 c0 w (w1.setCell a u) :=
  ⟨by simpa [World.setCell] using h.le, fun c cs T fr hc hn hT => by
    have h1 := h.at_ c cs T fr hc hn hT
    rw [Below.heap_setCell _ _ _ _ (fun e => by have := hp_lt hc; omega)]
    exact h1⟩
theorem Rst.row {T0 : TypeId} {c0 : Nat} {w w' : World} (h : Rst T0 c0 w w') {base n size : Nat} {e : TypeId} {v : Value} {xs : List Value} (ho : w.ownsRow base e size v n xs) (hT : e ≠ T0) (hn : v.ownBlock ≠ some c0) : w'.ownsRow base e size v n xs := by
  obtain ⟨h1, h2⟩ := ho
  refine ⟨h1, ?_⟩
  rcases h2 with h2 | ⟨g, cap, cur, rfl, hb, hg, rest⟩
  · exact .inl h2
  · exact .inr ⟨g, cap, cur, rfl, hb, h.at_ g _ _ _ hg (fun e => hn (by rw [e]; rfl)) hT, rest⟩
theorem rowIs_obj {w : World} {g n : Nat} {e : TypeId} {f : Nat → Value} (h : w.rowIs g e n f) : ∃ cs, w.heap[g]? = some (.cells cs e (0, 0)) := by
  obtain ⟨cur, h1, -⟩ := h
  exact ⟨cur, h1⟩
theorem Rst.at4 {T0 : TypeId} {c0 : Nat} {w w' : World} (h : Rst T0 c0 w w') {g : Nat} {v : Value} {zs : List Int} (ho : OwnAt w g v zs) (hT : 2 ≠ T0) (hn : g ≠ c0) : OwnAt w' g v zs := by
  rcases ho with ho | ⟨cap, f, e1, e2, e3, e4, e5⟩
  · exact .inl ho
  · obtain ⟨cs, hcs⟩ := rowIs_obj e4
    exact .inr ⟨cap, f, e1, e2, e3, e4.of_block ((h.at_ g _ _ _ hcs hn hT).trans hcs.symm), e5⟩
theorem Rst.built {T0 : TypeId} {c0 : Nat} {w w' : World} (h : Rst T0 c0 w w') {base n : Nat} {tv : Value} {N : Nat → ByteArray} {Z : Nat → List Int} (hb : Built w base tv n N Z) (hT : 2 ≠ T0) (hT2 : 64 ≠ T0) (hc : c0 < base ∨ w.heap.size ≤ c0) : Built w' base tv n N Z := by
  obtain ⟨G, sv, h1, h2, h3, h4⟩ := hb
  refine ⟨G, sv, h.row h1 hT2 (fun e => by have := own_block_ge h1 _ e; have := own_block_lt h1 _ e; omega), fun i hi => ?_, fun i hi => ⟨(h3 i hi).1, Nat.lt_of_lt_of_le (h3 i hi).2.1 h.le, (h3 i hi).2.2⟩, h4⟩
  have := h3 i hi
  exact h.at4 (h2 i hi) hT (by omega)

end Go.Proofs.Ytggpmailkkpdaaa
