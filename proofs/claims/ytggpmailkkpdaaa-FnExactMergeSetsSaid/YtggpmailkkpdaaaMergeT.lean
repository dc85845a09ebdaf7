/-
  The tiles of two sets merged: which ones come, and the program's merge of them. Conditions: each theorem's own.
-/
import Derived.Test.YtggpmailkkpdaaaCopyT
import Derived.Test.YtggpmailkkpdaaaMergeGI
namespace Go.Proofs.Ytggpmailkkpdaaa
open Go.RowKit Go.Maps Go.WideMaps

/-- The first k tiles of us whose names ts lacks, with new numbers. -/
def tNew (ts us : List Tl) (ns : List Int) : Nat → List Tl
  | 0 => []
  | k + 1 => if tFind ts (tN us k) = -1 then tNew ts us ns k ++ [⟨tN us k, ren ns (tS us k)⟩] else tNew ts us ns k
def mT (ts us : List Tl) (ns : List Int) (k : Nat) : List Tl := ts ++ tNew ts us ns k
/-- The k-th tile of us has other sides than the one of its name in ts. -/
def tClash (ts us : List Tl) (ns : List Int) (k : Nat) : Prop := ∃ p, p < ts.length ∧ tFind ts (tN us k) = (p : Int) ∧ tS ts p ≠ ren ns (tS us k)
def tAgree (ts us : List Tl) (ns : List Int) (n : Nat) : Prop := ∀ k, k < n → ¬ tClash ts us ns k
theorem tNew_len (ts us : List Tl) (ns : List Int) (k : Nat) : (tNew ts us ns k).length ≤ k := by
  induction k with
  | zero => exact Nat.le_refl 0
  | succ k ih =>
    simp only [tNew]
    split
    · simp; omega
    · omega
theorem mT_in {ts us : List Tl} {ns : List Int} {k : Nat} (h : tFind ts (tN us k) = -1) : mT ts us ns (k + 1) = mT ts us ns k ++ [⟨tN us k, ren ns (tS us k)⟩] := by
  unfold mT
  simp only [tNew]
  rw [if_pos h]
  simp
theorem mT_out {ts us : List Tl} {ns : List Int} {k : Nat} (h : tFind ts (tN us k) ≠ -1) : mT ts us ns (k + 1) = mT ts us ns k := by
  unfold mT
  simp only [tNew]
  rw [if_neg h]
theorem tAgree_succ {ts us : List Tl} {ns : List Int} {k : Nat} (h : tAgree ts us ns k) (h2 : ¬ tClash ts us ns k) : tAgree ts us ns (k + 1) := by
  intro j hj
  rcases Nat.lt_or_eq_of_le (Nat.lt_succ_iff.1 hj) with h' | h'
  · exact h j h'
  · subst h'; exact h2
theorem tN_snoc_lt (xs : List Tl) (t : Tl) {i : Nat} (h : i < xs.length) : tN (xs ++ [t]) i = tN xs i ∧ tS (xs ++ [t]) i = tS xs i := by
  simp [tN, tS, List.getElem?_append_left h]
theorem tN_snoc_last (xs : List Tl) (t : Tl) : tN (xs ++ [t]) xs.length = t.name ∧ tS (xs ++ [t]) xs.length = t.sides := by
  simp [tN, tS]
/-- A call that merges these tiles, or refuses them. -/
def MtPost (W : World) (ts us : List Tl) (ns : List Int) (e : Ending) (w' : World) : Prop :=
  (tAgree ts us ns us.length ∧ ∃ v1, e = .returned (.tuple #[v1, .bool true]) ∧ Built w' W.heap.size v1 (mT ts us ns us.length).length (tN (mT ts us ns us.length)) (tS (mT ts us ns us.length))) ∨
  (¬ tAgree ts us ns us.length ∧ e = .returned (.tuple #[.slice none 0 0, .bool false]))

end Go.Proofs.Ytggpmailkkpdaaa
