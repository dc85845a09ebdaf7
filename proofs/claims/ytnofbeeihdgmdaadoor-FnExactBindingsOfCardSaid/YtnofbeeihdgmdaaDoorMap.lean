/-
  A map from names to their places, filled one after another: what it holds, and how large it is. Conditions: each lemma's own.
-/
import Derived.Test.YtnofbeeihdgmdaaDoorVal
import Derived.Maps.OwnOps
import Derived.Maps.OwnSet
import Derived.Maps.Views
namespace Go.Proofs.YtnofbeeihdgmdaaDoor
open Go.RowKit Go.Maps

def keyL (s : ByteArray) : Lit := .string s.data.toList
theorem keyL_inj {s t : ByteArray} (h : keyL s = keyL t) : s = t := by
  have : s.data.toList = t.data.toList := by simpa [keyL] using h
  obtain ⟨⟨a⟩⟩ := s
  obtain ⟨⟨b⟩⟩ := t
  simpa using this
theorem keyL_key (s : ByteArray) : WideAt.IsKeyLit (keyL s) := by simp [keyL, WideAt.IsKeyLit]
/-- The map behind k names: each name leads to its place, counted from c. -/
def numMap (N : Nat → ByteArray) (c : Int) : Nat → DataW Unit
  | 0 => .map []
  | k + 1 => (numMap N c k).put (keyL (N k)) (.lit (.int .i64 (k + c)))
theorem numMap_tidy (N : Nat → ByteArray) (c : Int) (k : Nat) : Tidy (numMap N c k) := by
  induction k with
  | zero => exact tidy_empty
  | succ k ih => exact ih.put (keyL_key _) _
theorem numMap_has (N : Nat → ByteArray) (c : Int) (k : Nat) (s : ByteArray) : Maps.has (numMap N c k) (keyL s) = true ↔ ∃ j, j < k ∧ N j = s := by
  induction k with
  | zero => simp [numMap, Maps.has]
  | succ k ih =>
    by_cases h : N k = s
    · subst h
      exact ⟨fun _ => ⟨k, by omega, rfl⟩, fun _ => has_put_same (numMap_tidy N c k).isMap (keyL_key _) _⟩
    · have e : Maps.has (numMap N c (k + 1)) (keyL s) = Maps.has (numMap N c k) (keyL s) := has_put_other (fun e => h (keyL_inj e).symm) _
      rw [e, ih]
      exact ⟨fun ⟨j, hj, hn⟩ => ⟨j, by omega, hn⟩, fun ⟨j, hj, hn⟩ => ⟨j, by
        rcases Nat.lt_or_eq_of_le (Nat.lt_succ_iff.1 hj) with h' | h'
        · exact h'
        · subst h'; exact absurd hn h, hn⟩⟩
theorem numMap_hasB (N : Nat → ByteArray) (c : Int) (k : Nat) (s : ByteArray) (h : ∀ j, j < k → N j ≠ s) : Maps.has (numMap N c k) (keyL s) = false := by
  cases hb : Maps.has (numMap N c k) (keyL s)
  · rfl
  · obtain ⟨j, hj, hn⟩ := (numMap_has N c k s).1 hb
    exact absurd hn (h j hj)
theorem numMap_at (N : Nat → ByteArray) (c : Int) (k : Nat) (hd : ∀ i j, i < j → j < k → N i ≠ N j) (j : Nat) (hj : j < k) (z : DataW Unit) : (numMap N c k).atKey (keyL (N j)) z = .lit (.int .i64 (j + c)) := by
  induction k with
  | zero => omega
  | succ k ih =>
    by_cases h : j = k
    · subst h
      exact atKey_put_same (numMap_tidy N c j).isMap (keyL_key _) _ z
    · have e : (numMap N c (k + 1)).atKey (keyL (N j)) z = (numMap N c k).atKey (keyL (N j)) z := atKey_put_other (fun e => hd j k (by omega) (by omega) (keyL_inj e)) _ z
      rw [e]
      exact ih (fun i j hij hjk => hd i j hij (by omega)) (by omega)
theorem numMap_none (N : Nat → ByteArray) (c : Int) (k : Nat) (s : ByteArray) (h : ∀ j, j < k → N j ≠ s) (z : DataW Unit) : (numMap N c k).atKey (keyL s) z = z :=
  atKey_of_not_has (numMap_hasB N c k s h) z
theorem numMap_size (N : Nat → ByteArray) (c : Int) (k : Nat) : Maps.size (numMap N c k) ≤ k ∧ (Maps.size (numMap N c k) = k ↔ ∀ i j, i < j → j < k → N i ≠ N j) := by
  induction k with
  | zero => exact ⟨Nat.le_refl _, fun _ i j _ h => absurd h (Nat.not_lt_zero _), fun _ => rfl⟩
  | succ k ih =>
    have e : Maps.size (numMap N c (k + 1)) = if Maps.has (numMap N c k) (keyL (N k)) then Maps.size (numMap N c k) else Maps.size (numMap N c k) + 1 := size_put (numMap_tidy N c k) _
    obtain ⟨h1, h2⟩ := ih
    rw [e]
    by_cases h : ∃ j, j < k ∧ N j = N k
    · rw [if_pos ((numMap_has N c k (N k)).2 h)]
      refine ⟨by omega, fun h' => by omega, fun h' => ?_⟩
      obtain ⟨j, hj, hn⟩ := h
      exact absurd hn (h' j k hj (by omega))
    · have hb := numMap_hasB N c k (N k) (fun j hj hn => h ⟨j, hj, hn⟩)
      rw [hb]
      simp only [Bool.false_eq_true, if_false]
      refine ⟨by omega, fun h' i j hij hj => ?_, fun h' => ?_⟩
      · by_cases hjk : j = k
        · subst hjk; exact fun hn => h ⟨i, hij, hn⟩
        · exact h2.1 (by omega) i j hij (by omega)
      · rw [h2.2 fun i j hij hj => h' i j hij (by omega)]

theorem law : Keyed Tryd.prog 9 := string_keyed Tryd.underlying9
theorem zeroE (w : World) : (zeroValue 2).run Tryd.prog w = .ok (.int .i64 0) w := by kernel_rfl
/-- v is a map, in block b, of these names to their places from c on. -/
def NumMap (w : World) (b : Nat) (N : Nat → ByteArray) (c : Int) (k : Nat) : Prop := w.ownsMap Tryd.prog 9 (plainElem (H := Unit) Tryd.prog 2) b k (numMap N c k)
theorem NumMap.keep {w w1 : World} {b k : Nat} {N : Nat → ByteArray} {c : Int} (h : NumMap w b N c k) (hb : Below w.heap.size w w1) : NumMap w1 b N c k := by
  have hlt := World.ownsMap.lt h
  obtain ⟨es, clock, h1, h2⟩ := h
  exact ⟨es, clock, (hb.block _ hlt).trans h1, h2⟩
end Go.Proofs.YtnofbeeihdgmdaaDoor
