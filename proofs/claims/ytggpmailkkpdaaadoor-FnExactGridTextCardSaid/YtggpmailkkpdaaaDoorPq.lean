/-
  Lists of points as arguments: how they read, the laws' measure of them, the laws' own copies, comparisons and marks. Conditions: each theorem's own.
-/
import Derived.Test.YtggpmailkkpdaaaDoorPts
namespace Go.Proofs.YtggpmailkkpdaaaDoor
open Go.RowKit Go.ChangeShapes Go.WideShapes Go.Deep

/-- Its numbers are those of values. -/
def Cols.ok (D : Cols) : Prop := ∀ i, i < D.n → (Lit.int .i64 (D.c i 0)).wf = true ∧ (Lit.int .i64 (D.c i 1)).wf = true
/-- A copy: its memory is its own, and it is not nil. -/
def NewQ (w : World) (lo : Nat) (v : Value) (D : Cols) : Prop := OwnQ w lo w.heap.size v D ∧ ∃ a k q, v = .slice (some a) k q
/-- The cells of such a slice. -/
theorem Qs.open_ {w : World} {v : Value} {D : Cols} (h : Qs w v D) : ∃ ao cap, v = .slice ao D.n cap ∧ D.n ≤ cap ∧ cap ≤ maxLen ∧ (0 < D.n → ∃ b off, ao = some ⟨b, off, none⟩ ∧
    ∀ i, i < D.n → w.cell? ⟨b, off + i * 2, none⟩ = some (.int .i64 (D.c i 0)) ∧ w.cell? ⟨b, off + i * 2 + 1, none⟩ = some (.int .i64 (D.c i 1))) := by
  obtain ⟨ao, cap, h1, h2, h3, h4⟩ := h
  refine ⟨ao, cap, h1, h2, h3, fun h0 => ?_⟩
  obtain ⟨b, off, h5, h6⟩ := h4 h0
  exact ⟨b, off, h5, fun i hi => ⟨h6 i 0 hi (by omega), h6 i 1 hi (by omega)⟩⟩

section
variable {H : Type} {enc : TypeId × Value → H} {P : Program} {w : World} {base : Nat} {held : Bool}
theorem open_points {t e ti : TypeId} {g0 g1 : Field} {fuel : Nat} {v : Value} {x : DataW H × List MemPlace} (ht : P.underlying t = some (.slice e)) (he : P.underlying e = some (.struct #[g0, g1]))
    (hC : P.cellsOf e = 2) (hCi : P.cellsOf ti = 1) (k0 : g0.type = ti ∧ g0.offset = 0) (k1 : g1.type = ti ∧ g1.offset = 1) (hi : P.underlying ti = some (.int .i64))
    (h : DataW.trod enc P w base (fun _ => true) held fuel t [v] = some x) : ∃ D : Cols, Qs w v D ∧ D.ok := by
  obtain ⟨n, f, hsl, hr⟩ := open_sl ht hC (by omega) h
  have g : ∀ i, i < n → ∃ q : Int × Int, (f i 0 = .int .i64 q.1 ∧ f i 1 = .int .i64 q.2) ∧ (Lit.int .i64 q.1).wf = true ∧ (Lit.int .i64 q.2).wf = true := fun i hi' => by
    obtain ⟨k, y, hy⟩ := hr i hi'
    obtain ⟨z0, z1, m2, _, _, a0, a1⟩ := trod_struct2 he hy
    rw [k0.1, k0.2, hCi] at a0
    rw [k1.1, k1.2, hCi] at a1
    obtain ⟨a, ea, -, wa⟩ := DataW.trod_int hi a0
    obtain ⟨b, eb, -, wb⟩ := DataW.trod_int hi a1
    exact ⟨⟨a, b⟩, ⟨by simpa [List.range_succ] using ea, by simpa [List.range_succ] using eb⟩, wa, wb⟩
  obtain ⟨Z, hZ⟩ := choose_lt g
  refine ⟨⟨n, fun i j => if j = 0 then (Z i).1 else (Z i).2⟩, ?_, ?_⟩
  · show Sl w 2 v n _
    refine hsl.congr fun i j hi hj => ?_
    obtain ⟨⟨a0, a1⟩, -⟩ := hZ i hi
    obtain rfl | rfl : j = 0 ∨ j = 1 := by omega
    · simp [a0]
    · simp [a1]
  · intro i hi
    exact (hZ i hi).2
end
/-- A slice by value reads by its own cell. -/
theorem open_value {H : Type} {enc : TypeId × Value → H} {P : Program} {w : World} {base : Nat} {spare : Nat → Bool} {held : Bool} {r : Reach} {b0 : Nat} {t e : TypeId} {v : Value} {d : DataW H} {p : List MemPlace} (ht : P.underlying t = some (.slice e)) (hv : Value.okWide P w r b0 t v)
    (h : DataW.Trod enc P w base spare held t v d p) : ∃ n y, DataW.trod enc P w base spare held n t [v] = some y := by
  obtain ⟨n, h⟩ := h
  obtain ⟨a, k, q, rfl⟩ := okWide_slice ht hv
  exact ⟨n, _, h⟩

/-- Cell q of a row of points. -/
def qCell (D : Cols) (q : Nat) : Value := .int .i64 (D.c (q / 2) (q % 2))
/-- What a row of points holds when k of them are laid. -/
def qPart (D : Cols) (k q : Nat) : Value := if q < k * 2 then qCell D q else .int .i64 0
theorem qPart_step (D : Cols) (k i : Nat) : (if i = k * 2 + 1 then Value.int .i64 (D.c k 1) else if i = k * 2 then .int .i64 (D.c k 0) else qPart D k i) = qPart D (k + 1) i := by
  simp only [qPart]
  by_cases h1 : i = k * 2 + 1
  · subst h1
    rw [if_pos rfl, if_pos (by omega)]
    simp [qCell, show (k * 2 + 1) % 2 = 1 by omega, show (k * 2 + 1) / 2 = k by omega]
  · rw [if_neg h1]
    by_cases h0 : i = k * 2
    · subst h0
      rw [if_pos rfl, if_pos (by omega)]
      simp [qCell]
    · rw [if_neg h0]
      by_cases h : i < k * 2
      · rw [if_pos h, if_pos (by omega)]
      · rw [if_neg h, if_neg (by omega)]
def zeroQ (n : Nat) : Array Value := madeCells #[.int .i64 0, .int .i64 0] (n * 2)
theorem mk_point (n : Nat) (hn : n ≤ 1048576) (w : World) : (Instr.makeSlice 94 (.int .i64 (n : Int)) (.int .i64 (n : Int))).run Tryd.prog w = .ok (.slice (some ⟨w.heap.size, 0, none⟩) n n) (w.alloc (.cells (zeroQ n) 87)) :=
  run_make2 94 87 _ _ 16 Tryd.underlying94 info_point n (by omega) (by omega) w

end Go.Proofs.YtggpmailkkpdaaaDoor
