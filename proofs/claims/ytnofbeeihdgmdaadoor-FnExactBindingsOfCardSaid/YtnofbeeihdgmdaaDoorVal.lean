/-
  When a set of tiles is valid, and the first place of a name: plain facts on lists. Conditions: each lemma's own.
-/
import Derived.Test.YtnofbeeihdgmdaaDoorSz
import Derived.Test.YtnofbeeihdgmdaaDoorName
import Derived.Test.YtnofbeeihdgmdaaDoorInt
namespace Go.Proofs.YtnofbeeihdgmdaaDoor
open Go.RowKit

/-- The least i below n that p says yes to, or n. -/
def firstI (p : Nat → Bool) : Nat → Nat
  | 0 => 0
  | n + 1 => if firstI p n < n then firstI p n else if p n = true then n else n + 1
theorem firstI_le (p : Nat → Bool) (n : Nat) : firstI p n ≤ n := by
  induction n with
  | zero => exact Nat.le_refl 0
  | succ n ih => simp only [firstI]; split <;> (try split) <;> omega
theorem firstI_yes {p : Nat → Bool} {n : Nat} (h : firstI p n < n) : p (firstI p n) = true := by
  induction n with
  | zero => omega
  | succ n ih =>
    simp only [firstI] at h ⊢
    split
    · exact ih ‹_›
    · split
      · assumption
      · rename_i h1 h2; rw [if_neg h1, if_neg h2] at h; omega
theorem firstI_no {p : Nat → Bool} {n i : Nat} (h : i < firstI p n) : p i = false := by
  induction n with
  | zero => simp [firstI] at h
  | succ n ih =>
    have hl := firstI_le p n
    simp only [firstI] at h
    split at h
    · exact ih h
    · rename_i h1
      have e : firstI p n = n := by omega
      split at h
      · exact ih (by omega)
      · rename_i h2
        by_cases hi : i < n
        · exact ih (by omega)
        · obtain rfl : i = n := by omega
          simpa using h2
theorem firstI_eq {p : Nat → Bool} {n i : Nat} (hi : i < n) (hp : p i = true) (hn : ∀ j, j < i → p j = false) : firstI p n = i := by
  have hl := firstI_le p n
  rcases Nat.lt_trichotomy (firstI p n) i with h | h | h
  · have := firstI_yes (p := p) (n := n) (by omega)
    rw [hn _ h] at this
    exact absurd this (by simp)
  · exact h
  · have := firstI_no h
    rw [hp] at this
    exact absurd this (by simp)
theorem firstI_end {p : Nat → Bool} {n : Nat} (hn : ∀ j, j < n → p j = false) : firstI p n = n := by
  by_cases h : firstI p n < n
  · have := firstI_yes h
    rw [hn _ h] at this
    exact absurd this (by simp)
  · have := firstI_le p n
    omega

/-- The number of the first glue with a name, counted from 1; 0 for none. -/
def gFind (gs : List Gl) (s : ByteArray) : Int := if firstI (fun i => decide (gN gs i = s)) gs.length < gs.length then firstI (fun i => decide (gN gs i = s)) gs.length + 1 else 0
/-- The index of the first tile with a name; -1 for none. -/
def tFind (ts : List Tl) (s : ByteArray) : Int := if firstI (fun i => decide (tN ts i = s)) ts.length < ts.length then firstI (fun i => decide (tN ts i = s)) ts.length else -1
theorem gFind_at {gs : List Gl} {s : ByteArray} {k : Nat} (hk : k < gs.length) (h : gN gs k = s) (hn : ∀ j, j < k → gN gs j ≠ s) : gFind gs s = k + 1 := by
  have := firstI_eq (p := fun i => decide (gN gs i = s)) hk (by simpa using h) (fun j hj => by simpa using hn j hj)
  unfold gFind; rw [this, if_pos hk]
theorem gFind_none {gs : List Gl} {s : ByteArray} (hn : ∀ j, j < gs.length → gN gs j ≠ s) : gFind gs s = 0 := by
  have := firstI_end (p := fun i => decide (gN gs i = s)) (n := gs.length) (fun j hj => by simpa using hn j hj)
  unfold gFind; rw [this, if_neg (by omega)]
theorem tFind_at {ts : List Tl} {s : ByteArray} {k : Nat} (hk : k < ts.length) (h : tN ts k = s) (hn : ∀ j, j < k → tN ts j ≠ s) : tFind ts s = k := by
  have := firstI_eq (p := fun i => decide (tN ts i = s)) hk (by simpa using h) (fun j hj => by simpa using hn j hj)
  unfold tFind; rw [this, if_pos hk]
theorem tFind_none {ts : List Tl} {s : ByteArray} (hn : ∀ j, j < ts.length → tN ts j ≠ s) : tFind ts s = -1 := by
  have := firstI_end (p := fun i => decide (tN ts i = s)) (n := ts.length) (fun j hj => by simpa using hn j hj)
  unfold tFind; rw [this, if_neg (by omega)]
theorem gFind_of {gs : List Gl} (s : ByteArray) : (gFind gs s = 0 ∧ ∀ j, j < gs.length → gN gs j ≠ s) ∨ ∃ k, k < gs.length ∧ gFind gs s = (k : Int) + 1 ∧ gN gs k = s ∧ ∀ j, j < k → gN gs j ≠ s := by
  by_cases h : firstI (fun i => decide (gN gs i = s)) gs.length < gs.length
  · have y := firstI_yes h
    have n : ∀ j, j < firstI (fun i => decide (gN gs i = s)) gs.length → gN gs j ≠ s := fun j hj => by simpa using firstI_no hj
    exact .inr ⟨_, h, by unfold gFind; rw [if_pos h], by simpa using y, n⟩
  · have e : firstI (fun i => decide (gN gs i = s)) gs.length = gs.length := by have := firstI_le (fun i => decide (gN gs i = s)) gs.length; omega
    exact .inl ⟨by unfold gFind; rw [if_neg h], fun j hj => by have := firstI_no (p := fun i => decide (gN gs i = s)) (n := gs.length) (i := j) (by omega); simpa using this⟩
theorem tFind_of {ts : List Tl} (s : ByteArray) : (tFind ts s = -1 ∧ ∀ j, j < ts.length → tN ts j ≠ s) ∨ ∃ k, k < ts.length ∧ tFind ts s = (k : Int) ∧ tN ts k = s ∧ ∀ j, j < k → tN ts j ≠ s := by
  by_cases h : firstI (fun i => decide (tN ts i = s)) ts.length < ts.length
  · have y := firstI_yes h
    have n : ∀ j, j < firstI (fun i => decide (tN ts i = s)) ts.length → tN ts j ≠ s := fun j hj => by simpa using firstI_no hj
    exact .inr ⟨_, h, by unfold tFind; rw [if_pos h], by simpa using y, n⟩
  · have e : firstI (fun i => decide (tN ts i = s)) ts.length = ts.length := by have := firstI_le (fun i => decide (tN ts i = s)) ts.length; omega
    exact .inl ⟨by unfold tFind; rw [if_neg h], fun j hj => by have := firstI_no (p := fun i => decide (tN ts i = s)) (n := ts.length) (i := j) (by omega); simpa using this⟩

/-- Glue i of a valid set: a name, a strength from 1 to 4, a name that no glue before it has. -/
def gOk (gs : List Gl) (i : Nat) : Prop := nameB (gN gs i) = true ∧ (1 ≤ gS gs i ∧ gS gs i ≤ 4) ∧ ∀ j, j < i → gN gs j ≠ gN gs i
/-- Four sides, each the number of a glue or 0. -/
def sidesOk (zs : List Int) (n : Nat) : Prop := zs.length = 4 ∧ ∀ k, k < 4 → 0 ≤ iAt zs k ∧ iAt zs k ≤ n
/-- Tile i of a valid set. -/
def tOk (ts : List Tl) (n i : Nat) : Prop := nameB (tN ts i) = true ∧ sidesOk (tS ts i) n ∧ ∀ j, j < i → tN ts j ≠ tN ts i
structure ValidG (gs : List Gl) : Prop where
  len : gs.length ≤ 200
  all : ∀ i, i < gs.length → gOk gs i
structure ValidT (ts : List Tl) (n : Nat) : Prop where
  one : 1 ≤ ts.length
  len : ts.length ≤ 160
  all : ∀ i, i < ts.length → tOk ts n i
/-- A valid set. -/
structure Valid (S : Set_) : Prop where
  g : ValidG S.gs
  t : ValidT S.ts S.gs.length
open Classical in
noncomputable def validB (S : Set_) : Bool := decide (Valid S)
theorem validB_yes {S : Set_} (h : Valid S) : validB S = true := by unfold validB; simpa using h
theorem validB_no {S : Set_} (h : ¬ Valid S) : validB S = false := by unfold validB; simpa using h
theorem validB_iff {S : Set_} : validB S = true ↔ Valid S := by unfold validB; simp

end Go.Proofs.YtnofbeeihdgmdaaDoor
