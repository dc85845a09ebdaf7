/-
  Lists of numbers in columns that a call builds, one element after another; PointsOf. Conditions: each theorem's own.
-/
import Derived.Test.YtnofbeeihdgmdaaDoorPlace
namespace Go.Proofs.YtnofbeeihdgmdaaDoor
open Go.RowKit

/-- The cells of element n. -/
def cCells (m : Nat) (c : Nat → Nat → Int) (n : Nat) : List Value := (List.range m).map fun j => .int .i64 (c n j)
/-- The cells of the first n elements. -/
def cRow (m : Nat) (c : Nat → Nat → Int) : Nat → List Value
  | 0 => []
  | n + 1 => cRow m c n ++ cCells m c n
theorem cCells_len (m : Nat) (c : Nat → Nat → Int) (n : Nat) : (cCells m c n).length = m := by simp [cCells]
theorem cRow_len (m : Nat) (c : Nat → Nat → Int) (n : Nat) : (cRow m c n).length = n * m := by
  induction n with
  | zero => simp [cRow]
  | succ n ih => rw [cRow, List.length_append, ih, cCells_len, Nat.succ_mul]
theorem cRow_at (m : Nat) (c : Nat → Nat → Int) {n i j : Nat} (hi : i < n) (hj : j < m) : (cRow m c n)[i * m + j]? = some (.int .i64 (c i j)) := by
  induction n with
  | zero => omega
  | succ n ih =>
    have hl := cRow_len m c n
    by_cases h : i < n
    · rw [cRow, List.getElem?_append_left (by rw [hl]; exact row_lt h hj)]
      exact ih h
    · obtain rfl : i = n := by omega
      rw [cRow, List.getElem?_append_right (by omega), hl, Nat.add_sub_cancel_left]
      simp [cCells, hj]
theorem cRow_congr {m : Nat} {c d : Nat → Nat → Int} {n : Nat} (h : ∀ i j, i < n → j < m → c i j = d i j) : cRow m c n = cRow m d n := by
  induction n with
  | zero => rfl
  | succ n ih =>
    rw [cRow, cRow, ih fun i j hi hj => h i j (by omega) hj]
    congr 1
    unfold cCells
    refine List.map_congr_left fun j hj => ?_
    rw [h n j (by omega) (List.mem_range.1 hj)]
theorem cCells_one (m : Nat) (c : Nat → Nat → Int) (n : Nat) : ∀ u ∈ cCells m c n, u.oneCell' = true := by
  intro u hu
  simp only [cCells, List.mem_map] at hu
  obtain ⟨j, -, rfl⟩ := hu
  rfl
/-- What was built, as a list of its own. -/
theorem OwnC.of_row {w : World} {base m : Nat} {t : TypeId} {v : Value} {n : Nat} {c : Nat → Nat → Int} (h : w.ownsRow base t m v n (cRow m c n)) : OwnC w t m base w.heap.size v n c := by
  by_cases h0 : v = .slice none 0 0
  · subst h0
    rcases h.2 with ⟨-, hn⟩ | ⟨g, cap, cur, hv, -⟩
    · exact .inl ⟨rfl, hn⟩
    · simp at hv
  · obtain ⟨g, cap, rfl⟩ : ∃ g cap, v = .slice (some ⟨g, 0, none⟩) n cap := by
      rcases h.2 with ⟨hv, -⟩ | ⟨g, cap, cur, hv, -⟩
      · exact absurd hv h0
      · exact ⟨g, cap, hv⟩
    obtain ⟨e1, e2, e3, f, hr, hf⟩ := row_fn h
    refine .inr ⟨g, cap, f, rfl, e2, e3, hr, fun i j hi hj => ?_, e1, hr.lt⟩
    have := hf (i * m + j) (row_lt hi hj)
    rw [cRow_at m c hi hj] at this
    simpa using this

/-- The numbers of point i. -/
def qC (ps : List Pl) (i j : Nat) : Int := if j = 0 then pX ps i else pY ps i
theorem info_point : (Tryd.prog.info? 44).map (fun i => (i.zero, i.size, i.bytes)) = some (some (.agg #[.int .i64 0, .int .i64 0]), 2, 16) := by kernel_rfl
/-- A list of numbers in columns. -/
structure Cols where
  n : Nat
  c : Nat → Nat → Int
/-- v is a slice of these points. -/
def Qs (w : World) (v : Value) (D : Cols) : Prop := Cl w 2 v D.n D.c
theorem Qs.below {w w1 : World} {v : Value} {D : Cols} (h : Qs w v D) (hb : Below w.heap.size w w1) : Qs w1 v D := Cl.below h hb
theorem Qs.shape {w : World} {v : Value} {D : Cols} (h : Qs w v D) : ∃ a k q, v = .slice a k q := Cl.shape h
/-- .. that has its own memory. -/
def OwnQ (w : World) (lo hi : Nat) (v : Value) (D : Cols) : Prop := OwnC w 44 2 lo hi v D.n D.c
theorem OwnQ.qs {w : World} {lo hi : Nat} {v : Value} {D : Cols} (h : OwnQ w lo hi v D) : Qs w v D := OwnC.cl h
theorem OwnQ.keep {w w1 : World} {lo hi a b : Nat} {v : Value} {D : Cols} (h : OwnQ w lo hi v D) (hw : Within a b w w1) (ho : hi ≤ a ∨ b ≤ lo) : OwnQ w1 lo hi v D := OwnC.keep h hw ho
theorem OwnQ.below {w w1 : World} {lo hi : Nat} {v : Value} {D : Cols} (h : OwnQ w lo hi v D) (hb : Below w.heap.size w w1) : OwnQ w1 lo hi v D := OwnC.below h hb
theorem OwnQ.mono {w : World} {lo hi lo' hi' : Nat} {v : Value} {D : Cols} (h : OwnQ w lo hi v D) (h1 : lo' ≤ lo) (h2 : hi ≤ hi') : OwnQ w lo' hi' v D := OwnC.mono h h1 h2
/-- .. that holds the marks. -/
def MarkedQ (w : World) (v : Value) (n k : Nat) : Prop := Cl w 2 v n (mkC 2 k)
theorem MarkedQ.below {w w1 : World} {v : Value} {n k : Nat} (h : MarkedQ w v n k) (hb : Below w.heap.size w w1) : MarkedQ w1 v n k := Cl.below h hb
theorem Cl.nil (w : World) (m : Nat) (c : Nat → Nat → Int) : Cl w m (.slice none 0 0) 0 c := ⟨none, 0, rfl, Nat.le_refl _, by unfold maxLen; omega, fun h => absurd h (Nat.lt_irrefl 0)⟩
/-- A call that returns a list of points in new memory. -/
def QsPost (W : World) (D : Cols) (e : Ending) (w' : World) : Prop := ∃ v, e = .returned v ∧ OwnQ w' W.heap.size w'.heap.size v D
theorem heap_new2 (w : World) (o : Obj) (p : Obj) : ((w.alloc o).alloc p).heap[w.heap.size + 1]? = some p := by
  have := heap_alloc_new (w.alloc o) p
  simpa using this

end Go.Proofs.YtnofbeeihdgmdaaDoor
