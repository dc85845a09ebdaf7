/-
  TilesWith, the model's and the program's: the same numbers, in new memory. Conditions: each theorem's own.
-/
import Derived.Test.YtggpmailkkpdaaaBonds
import Derived.Test.YtggpmailkkpdaaaMark
import Derived.Maps.AppendAt
namespace Go.Proofs.Ytggpmailkkpdaaa
open Go.RowKit

theorem OwnAt.of_row {w : World} {base : Nat} {v : Value} {zs : List Int} (h : w.ownsRow base 2 1 v zs.length (zs.map (Value.int .i64))) : ∃ b, base ≤ b ∧ OwnAt w b v zs := by
  obtain ⟨-, ⟨rfl, h0⟩ | ⟨g, cap, cur, rfl, hg, hh, hl, hm, hs, ht⟩⟩ := h
  · exact ⟨base, Nat.le_refl _, .inl ⟨rfl, h0⟩⟩
  · refine ⟨g, hg, .inr ⟨cap, fun j => cur.getD j undef, rfl, hl, hm, ⟨cur, hh, by omega, fun i hi => by show cur[i]? = some (cur.getD i undef); rw [Array.getD_eq_getD_getElem?, Array.getElem?_eq_getElem (show i < cur.size by omega)]; rfl⟩, fun i hi => ?_⟩⟩
    have h1 : (cur.toList.take (zs.length * 1))[i]? = (zs.map (Value.int .i64))[i]? := by rw [ht]
    rw [List.getElem?_take, if_pos (by omega)] at h1
    have h2 : cur[i]? = some (.int .i64 (iAt zs i)) := by
      rw [← Array.getElem?_toList, h1]
      simp [iAt, hi]
    show cur.getD i undef = _
    rw [Array.getD_eq_getD_getElem?, h2]
    rfl

/-- The tiles before k with glue g on side m. -/
def twTo (S : Set_) (m : Nat) (g : Int) : Nat → List Int
  | 0 => []
  | k + 1 => if sideZ S k m = g then twTo S m g k ++ [(k : Int)] else twTo S m g k
theorem twTo_len (S : Set_) (m : Nat) (g : Int) (k : Nat) : (twTo S m g k).length ≤ k := by
  induction k with
  | zero => exact Nat.le_refl 0
  | succ k ih =>
    simp only [twTo]
    split
    · simp; omega
    · omega
noncomputable def tw1 (S : Set_) (d g : Int) : List Int := if validB S = true ∧ inB d 0 3 = true ∧ inB g 0 (S.gs.length : Int) = true then twTo S d.toNat g S.ts.length else []
noncomputable def tw2 (S : Set_) (d g : Int) : Int := if validB S = true then (if inB d 0 3 = true ∧ inB g 0 (S.gs.length : Int) = true then 0 else 2) else 1
theorem tw_no {S : Set_} (h : validB S = false) (d g : Int) : tw1 S d g = [] ∧ tw2 S d g = 1 := by simp [tw1, tw2, h]
theorem tw_out {S : Set_} (h : validB S = true) {d g : Int} (h2 : ¬ (inB d 0 3 = true ∧ inB g 0 (S.gs.length : Int) = true)) : tw1 S d g = [] ∧ tw2 S d g = 2 :=
  ⟨by unfold tw1; rw [if_neg (fun x => h2 x.2)], by unfold tw2; rw [if_pos h, if_neg h2]⟩
theorem tw_yes {S : Set_} (h : validB S = true) {d g : Int} (h2 : inB d 0 3 = true ∧ inB g 0 (S.gs.length : Int) = true) : tw1 S d g = twTo S d.toNat g S.ts.length ∧ tw2 S d g = 0 :=
  ⟨by unfold tw1; rw [if_pos ⟨h, h2⟩], by unfold tw2; rw [if_pos h, if_pos h2]⟩
theorem tw1_len (S : Set_) (d g : Int) : (tw1 S d g).length ≤ S.ts.length := by
  unfold tw1
  split
  · exact twTo_len _ _ _ _
  · simp

/-- A call that returns a list of numbers in new memory, and a code. -/
def ListPost (W : World) (zs : List Int) (c : Int) (e : Ending) (w' : World) : Prop := ∃ v b, e = .returned (.tuple #[v, .int .i64 c]) ∧ W.heap.size ≤ b ∧ OwnAt w' b v zs
theorem ListPost.nil {W w' : World} {zs : List Int} {c x : Int} (hz : zs = []) (hc : x = c) : ListPost W zs c (.returned (.tuple #[.slice none 0 0, .int .i64 x])) w' :=
  ⟨_, W.heap.size, by rw [hc], Nat.le_refl _, .inl ⟨rfl, by rw [hz]; rfl⟩⟩

end Go.Proofs.Ytggpmailkkpdaaa
