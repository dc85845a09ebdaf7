/-
  MoveAssembly, the program's. Conditions: each theorem's own.
-/
import Derived.Test.YtnofbeeihdgmdaaCopyP
import Derived.Test.YtnofbeeihdgmdaaForm2
namespace Go.Proofs.Ytnofbeeihdgmdaa
open Go.RowKit

/-- The placed tiles moved. -/
def mvP (P : List Pl) (dx dy : Int) : List Pl := P.map fun p => ⟨p.x + dx, p.y + dy, p.t⟩
theorem mvP_len (P : List Pl) (dx dy : Int) : (mvP P dx dy).length = P.length := by simp [mvP]
theorem mvP_pC {P : List Pl} {dx dy : Int} {i : Nat} (hi : i < P.length) : pX (mvP P dx dy) i = pX P i + dx ∧ pY (mvP P dx dy) i = pY P i + dy ∧ pT (mvP P dx dy) i = pT P i := by
  simp [pX, pY, pT, mvP, List.getD, List.getElem?_map, List.getElem?_eq_getElem hi]
def mvOk (P : List Pl) (dx dy : Int) : Prop := ∀ i, i < P.length → ptB (pX P i + dx) (pY P i + dy) = true
open Classical in
noncomputable def mvC (P : List Pl) (dx dy : Int) : Int := if formB P = true then (if inB dx (-120) 120 = true ∧ inB dy (-120) 120 = true ∧ mvOk P dx dy then 0 else 2) else 1
noncomputable def mvR (P : List Pl) (dx dy : Int) : List Pl := if mvC P dx dy = 0 then mvP P dx dy else []
/-- What MoveAssembly returns. -/
def MvPost (W : World) (P : List Pl) (dx dy : Int) (e : Ending) (w' : World) : Prop := ∃ v', e = .returned (.tuple #[.agg #[v'], .int .i64 (mvC P dx dy)]) ∧ OwnA w' W.heap.size w'.heap.size v' (mvR P dx dy)
theorem mv_no {W w' : World} {P : List Pl} {dx dy c : Int} (hc : mvC P dx dy = c) (h0 : c ≠ 0) : MvPost W P dx dy (.returned (.tuple #[.agg #[.slice none 0 0], .int .i64 c])) w' := by
  refine ⟨.slice none 0 0, by rw [hc], .inl ⟨rfl, ?_⟩⟩
  unfold mvR
  rw [if_neg (by rw [hc]; exact h0)]
  rfl
theorem mv_1 {P : List Pl} {dx dy : Int} (h : formB P = false) : mvC P dx dy = 1 := by simp [mvC, h]
theorem mv_2 {P : List Pl} {dx dy : Int} (h : formB P = true) (hn : ¬ (inB dx (-120) 120 = true ∧ inB dy (-120) 120 = true ∧ mvOk P dx dy)) : mvC P dx dy = 2 := by unfold mvC; rw [if_pos h, if_neg hn]
theorem mv_0 {P : List Pl} {dx dy : Int} (h : formB P = true) (hx : inB dx (-120) 120 = true) (hy : inB dy (-120) 120 = true) (ho : mvOk P dx dy) : mvC P dx dy = 0 := by unfold mvC; rw [if_pos h, if_pos ⟨hx, hy, ho⟩]
/-- What the row holds when k of its points are moved. -/
def mvCell (P : List Pl) (dx dy : Int) (k q : Nat) : Value := if q < k * 3 then pCell (mvP P dx dy) q else pCell P q
theorem mvCell_step {P : List Pl} {dx dy : Int} {k : Nat} (hk : k < P.length) (i : Nat) :
    (if i = k * 3 + 1 then Value.int .i64 (pY P k + dy) else if i = k * 3 then .int .i64 (pX P k + dx) else mvCell P dx dy k i) = mvCell P dx dy (k + 1) i := by
  obtain ⟨e0, e1, e2⟩ := mvP_pC (dx := dx) (dy := dy) hk
  simp only [mvCell]
  by_cases h1 : i = k * 3 + 1
  · subst h1
    rw [if_pos rfl, if_pos (by omega)]
    simp [pCell, pC, e1, show (k * 3 + 1) % 3 = 1 by omega, show (k * 3 + 1) / 3 = k by omega]
  · rw [if_neg h1]
    by_cases h0 : i = k * 3
    · subst h0
      rw [if_pos rfl, if_pos (by omega)]
      simp [pCell, pC, e0]
    · rw [if_neg h0]
      by_cases h2 : i = k * 3 + 2
      · subst h2
        rw [if_neg (by omega), if_pos (by omega)]
        simp [pCell, pC, e2, show (k * 3 + 2) % 3 = 2 by omega, show (k * 3 + 2) / 3 = k by omega]
      · by_cases h : i < k * 3
        · rw [if_pos h, if_pos (by omega)]
        · rw [if_neg h, if_neg (by omega)]

theorem mv_yes {W w' : World} {P : List Pl} {dx dy : Int} {g : Nat} (h0 : mvC P dx dy = 0) (hr : w'.rowIs g 67 (P.length * 3) (mvCell P dx dy P.length)) (hz : P.length ≤ 1048576) (hlo : W.heap.size ≤ g) :
    MvPost W P dx dy (.returned (.tuple #[.agg #[.slice (some ⟨g, 0, none⟩) P.length P.length], .int .i64 0])) w' := by
  refine ⟨_, by rw [h0], ?_⟩
  have e : mvR P dx dy = mvP P dx dy := if_pos h0
  rw [e]
  refine .inr ⟨g, P.length, _, by rw [mvP_len], by rw [mvP_len]; exact Nat.le_refl _, by unfold maxLen; omega, hr, fun i j hi hj => ?_, hlo, hr.lt⟩
  rw [mvP_len] at hi
  simp only [mvCell]
  rw [if_pos (by omega)]
  simp [pCell, show (i * 3 + j) / 3 = i by omega, show (i * 3 + j) % 3 = j by omega]

/-- The boxes of an assembly and a point, and one for an assembly. -/
theorem boxes_m (w : World) (v x y : Value) (t1 t2 t3 : TypeId) : At1 (((w.alloc (.cells #[v] t1)).alloc (.cells #[x, y] t2)).alloc (.cells #[.slice none 0 0] t3)) w.heap.size v ∧
    Two (((w.alloc (.cells #[v] t1)).alloc (.cells #[x, y] t2)).alloc (.cells #[.slice none 0 0] t3)) (w.heap.size + 1) x y ∧
    At1 (((w.alloc (.cells #[v] t1)).alloc (.cells #[x, y] t2)).alloc (.cells #[.slice none 0 0] t3)) (w.heap.size + 1 + 1) (.slice none 0 0) ∧
    (((w.alloc (.cells #[v] t1)).alloc (.cells #[x, y] t2)).alloc (.cells #[.slice none 0 0] t3)).frozen? ⟨w.heap.size + 1 + 1, 0, none⟩ = false :=
  ⟨((At1.new w v t1).below (by (repeat (first | exact Below.refl _ _ | refine Below.setCell ?_ (by first | (simp; done) | (simp; omega) | omega) _ | refine belowN ?_ _ | refine Below.drew ?_ | refine Below.alloc ?_ (by first | (simp; done) | (simp; omega) | omega) _ | refine Below.trans ?_ (Below.mono (by assumption) (by first | (simp; done) | (simp; omega) | omega)))))).below (by (repeat (first | exact Below.refl _ _ | refine Below.setCell ?_ (by first | (simp; done) | (simp; omega) | omega) _ | refine belowN ?_ _ | refine Below.drew ?_ | refine Below.alloc ?_ (by first | (simp; done) | (simp; omega) | omega) _ | refine Below.trans ?_ (Below.mono (by assumption) (by first | (simp; done) | (simp; omega) | omega))))), (Two.new (n := w.heap.size + 1) _ _ _ _ (by simp)).alloc _, ⟨by simp [go_sem]⟩, by simp [go_sem]⟩

end Go.Proofs.Ytnofbeeihdgmdaa
