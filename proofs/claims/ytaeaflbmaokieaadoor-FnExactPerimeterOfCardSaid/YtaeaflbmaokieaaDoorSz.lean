/-
  The laws' own measure of a tile set: where it says that the set is not too large, no list and no text of it is. Conditions: each theorem's own.
-/
import Derived.Test.YtaeaflbmaokieaaDoorKeep
import Derived.Test.YtaeaflbmaokieaaDoorRd
namespace Go.Proofs.YtaeaflbmaokieaaDoor
open Go.RowKit

/-- A measure is what is left, from -1 on; where it is not negative the parts are within it. -/
def Left (e : Ending) (ok : Prop) (top : Int) : Prop := ∃ r : Int, e = .returned (.int .i64 r) ∧ (r = -1 ∨ (0 ≤ r ∧ r ≤ top ∧ ok))

theorem gN_ok {gs : List Gl} (ok : ∀ g ∈ gs, g.ok) {k : Nat} (h : k < gs.length) : (gN gs k).size ≤ maxLen ∧ (Lit.int .i64 (gS gs k)).wf = true := by
  have : gs.getD k default ∈ gs := by rw [List.getD_eq_getElem?_getD, List.getElem?_eq_getElem h]; exact List.getElem_mem h
  exact ok _ this
theorem tN_ok {ts : List Tl} (ok : ∀ t ∈ ts, t.ok) {k : Nat} (h : k < ts.length) : (tN ts k).size ≤ maxLen ∧ ∀ z ∈ tS ts k, (Lit.int .i64 z).wf = true := by
  have : ts.getD k default ∈ ts := by rw [List.getD_eq_getElem?_getD, List.getElem?_eq_getElem h]; exact List.getElem_mem h
  exact ok _ this

/-- The first k names take at most so much. -/
def gUpTo (gs : List Gl) (k : Nat) : Prop := ∀ i, i < k → (gN gs i).size ≤ 1048576
theorem gUpTo_step {gs : List Gl} {k : Nat} (h : gUpTo gs k) (hk : (gN gs k).size ≤ 1048576) : gUpTo gs (k + 1) := fun i hi => by
  by_cases h' : i < k
  · exact h i h'
  · obtain rfl : i = k := by omega
    exact hk

/-- The first k tiles' names and sides take at most so much. -/
def tUpTo (ts : List Tl) (k : Nat) : Prop := ∀ i, i < k → (tN ts i).size ≤ 1048576 ∧ (tS ts i).length ≤ 1048576
theorem tUpTo_step {ts : List Tl} {k : Nat} (h : tUpTo ts k) (hk : (tN ts k).size ≤ 1048576 ∧ (tS ts k).length ≤ 1048576) : tUpTo ts (k + 1) := fun i hi => by
  by_cases h' : i < k
  · exact h i h'
  · obtain rfl : i = k := by omega
    exact hk

/-- A set: its glues and its tiles. -/
structure Set_ where
  gs : List Gl
  ts : List Tl
/-- The two slices of a set of tiles, as they read. -/
structure SetIn (w : World) (vg vt : Value) (S : Set_) : Prop where
  g : Glues w vg S.gs
  t : Tiles w vt S.ts
theorem SetIn.below {w w1 : World} {vg vt : Value} {S : Set_} (h : SetIn w vg vt S) (hb : Below w.heap.size w w1) : SetIn w1 vg vt S := ⟨h.g.below hb, h.t.below hb⟩
/-- Its texts and numbers are those of values. -/
structure Set_.ok (S : Set_) : Prop where
  g : ∀ g ∈ S.gs, g.ok
  t : ∀ t ∈ S.ts, t.ok
/-- No list and no text of it is longer than the laws' measure lets it. -/
structure Set_.small (S : Set_) : Prop where
  gl : S.gs.length ≤ 1048576
  gn : gUpTo S.gs S.gs.length
  tl : S.ts.length ≤ 1048576
  tn : tUpTo S.ts S.ts.length

end Go.Proofs.YtaeaflbmaokieaaDoor
