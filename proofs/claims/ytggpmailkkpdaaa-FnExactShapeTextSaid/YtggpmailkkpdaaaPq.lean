/-
  Lists of points as arguments: how they read, the laws' measure of them, the laws' own copies, comparisons and marks. Conditions: each theorem's own.
-/
import Derived.Test.YtggpmailkkpdaaaPts
namespace Go.Proofs.Ytggpmailkkpdaaa
open Go.RowKit Go.ChangeShapes Go.WideShapes Go.Deep

/-- Its numbers are those of values. -/
def Cols.ok (D : Cols) : Prop := ∀ i, i < D.n → (Lit.int .i64 (D.c i 0)).wf = true ∧ (Lit.int .i64 (D.c i 1)).wf = true
/-- A copy: its memory is its own, and it is not nil. -/
def NewQ (w : World) (lo : Nat) (v : Value) (D : Cols) : Prop := OwnQ w lo w.heap.size v D ∧ ∃ a k q, v = .slice (some a) k q
/-- The cells of such a slice. -/
theorem Qs.open_ {w : World} {v : Value} {D : Cols} (h : Qs w v D) : ∃ ao cap, v = .slice ao D.n cap ∧ D.n ≤ cap ∧ cap ≤ maxLen ∧ (0 < D.n → ∃ b off, ao = some ⟨b, off, none⟩ ∧
    ∀ i, i < D.n → w.cell? ⟨b, off + i * 2, none⟩ = some (.int .i64 (D.c i 0)) ∧ w.cell? ⟨b, off + i * 2 + 1, none⟩ = some (.int .i64 (D.c i 1))) := by
  obtain ⟨ao, cap, h1, h2, h3, h4⟩ := h
  refine ⟨ao, cap, h1, h2, h3, fun h0 => ?_⟩
  obtain ⟨b, off, h5, h6⟩ := h4 h0
  exact ⟨b, off, h5, fun i hi => ⟨h6 i 0 hi (by omega), h6 i 1 hi (by omega)⟩⟩

section
variable {H : Type} {enc : TypeId × Value → H} {P : Program} {w : World} {base : Nat} {held : Bool}
theorem open_points {t e ti : TypeId} {g0 g1 : Field} {fuel : Nat} {v : Value} {x : DataW H × List MemPlace} (ht : P.underlying t = some (.slice e)) (he : P.underlying e = some (.struct #[g0, g1]))
    (hC : P.cellsOf e = 2) (hCi : P.cellsOf ti = 1) (k0 : g0.type = ti ∧ g0.offset = 0) (k1 : g1.type = ti ∧ g1.offset = 1) (hi : P.underlying ti = some (.int .i64))
    (h : DataW.trod enc P w base (fun _ => true) held fuel t [v] = some x) : ∃ D : Cols, Qs w v D ∧ D.ok := by
  obtain ⟨n, f, hsl, hr⟩ := open_sl ht hC (by omega) h
  have g : ∀ i, i < n → ∃ q : Int × Int, (f i 0 = .int .i64 q.1 ∧ f i 1 = .int .i64 q.2) ∧ (Lit.int .i64 q.1).wf = true ∧ (Lit.int .i64 q.2).wf = true := fun i hi' => by
    obtain ⟨k, y, hy⟩ := hr i hi'
    obtain ⟨z0, z1, m2, _, _, a0, a1⟩ := trod_struct2 he hy
    rw [k0.1, k0.2, hCi] at a0
    rw [k1.1, k1.2, hCi] at a1
    obtain ⟨a, ea, -, wa⟩ := DataW.trod_int hi a0
    obtain ⟨b, eb, -, wb⟩ := DataW.trod_int hi a1
    exact ⟨⟨a, b⟩, ⟨by simpa [List.range_succ] using ea, by simpa [List.range_succ] using eb⟩, wa, wb⟩
  obtain ⟨Z, hZ⟩ := choose_lt g
  refine ⟨⟨n, fun i j => if j = 0 then (Z i).1 else (Z i).2⟩, ?_, ?_⟩
  · show Sl w 2 v n _
    refine hsl.congr fun i j hi hj => ?_
    obtain ⟨⟨a0, a1⟩, -⟩ := hZ i hi
    obtain rfl | rfl : j = 0 ∨ j = 1 := by omega
    · simp [a0]
    · simp [a1]
  · intro i hi
    exact (hZ i hi).2
end
/-- A slice by value reads by its own cell. -/
theorem open_value {H : Type} {enc : TypeId × Value → H} {P : Program} {w : World} {base : Nat} {spare : Nat → Bool} {held : Bool} {r : Reach} {b0 : Nat} {t e : TypeId} {v : Value} {d : DataW H} {p : List MemPlace} (ht : P.underlying t = some (.slice e)) (hv : Value.okWide P w r b0 t v)
    (h : DataW.Trod enc P w base spare held t v d p) : ∃ n y, DataW.trod enc P w base spare held n t [v] = some y := by
  obtain ⟨n, h⟩ := h
  obtain ⟨a, k, q, rfl⟩ := okWide_slice ht hv
  exact ⟨n, _, h⟩

theorem szPointS_any (v : Value) (D : Cols) (left : Int) (w : World) (hv : Qs w v D) (h0 : 0 ≤ left) (h1 : left ≤ 1048576) :
    Calls Try.prog 19 #[v, .int .i64 left] w fun e w' => Left e (D.n ≤ 1048576) left ∧ Below w.heap.size w w' := by
  obtain ⟨ao, cap, rfl, hl, hm, -⟩ := hv
  unfold maxLen at hm
  by_cases h : left < D.n
  · go_enter Try.func19, Try.ntmps19
    go_wp2
    go_ret
    exact ⟨⟨-1, rfl, .inl rfl⟩, by (repeat (first | exact Below.refl _ _ | refine Below.setCell ?_ (by first | (simp; done) | (simp; omega) | omega) _ | refine belowN ?_ _ | refine Below.drew ?_ | refine Below.alloc ?_ (by first | (simp; done) | (simp; omega) | omega) _ | refine Below.trans ?_ (Below.mono (by assumption) (by first | (simp; done) | (simp; omega) | omega))))⟩
  · go_enter Try.func19, Try.ntmps19
    go_wp2
    go_ret
    exact ⟨⟨left - D.n, rfl, .inr ⟨by omega, by omega, by omega⟩⟩, by (repeat (first | exact Below.refl _ _ | refine Below.setCell ?_ (by first | (simp; done) | (simp; omega) | omega) _ | refine belowN ?_ _ | refine Below.drew ?_ | refine Below.alloc ?_ (by first | (simp; done) | (simp; omega) | omega) _ | refine Below.trans ?_ (Below.mono (by assumption) (by first | (simp; done) | (simp; omega) | omega))))⟩

/-- Cell q of a row of points. -/
def qCell (D : Cols) (q : Nat) : Value := .int .i64 (D.c (q / 2) (q % 2))
/-- What a row of points holds when k of them are laid. -/
def qPart (D : Cols) (k q : Nat) : Value := if q < k * 2 then qCell D q else .int .i64 0
theorem qPart_step (D : Cols) (k i : Nat) : (if i = k * 2 + 1 then Value.int .i64 (D.c k 1) else if i = k * 2 then .int .i64 (D.c k 0) else qPart D k i) = qPart D (k + 1) i := by
  simp only [qPart]
  by_cases h1 : i = k * 2 + 1
  · subst h1
    rw [if_pos rfl, if_pos (by omega)]
    simp [qCell, show (k * 2 + 1) % 2 = 1 by omega, show (k * 2 + 1) / 2 = k by omega]
  · rw [if_neg h1]
    by_cases h0 : i = k * 2
    · subst h0
      rw [if_pos rfl, if_pos (by omega)]
      simp [qCell]
    · rw [if_neg h0]
      by_cases h : i < k * 2
      · rw [if_pos h, if_pos (by omega)]
      · rw [if_neg h, if_neg (by omega)]
def zeroQ (n : Nat) : Array Value := madeCells #[.int .i64 0, .int .i64 0] (n * 2)
theorem mk_point (n : Nat) (hn : n ≤ 1048576) (w : World) : (Instr.makeSlice 46 (.int .i64 (n : Int)) (.int .i64 (n : Int))).run Try.prog w = .ok (.slice (some ⟨w.heap.size, 0, none⟩) n n) (w.alloc (.cells (zeroQ n) 88)) :=
  run_make2 46 88 _ _ 16 Try.underlying46 info_point n (by omega) (by omega) w

set_option maxHeartbeats 800000 in
theorem toPointS_any (v : Value) (D : Cols) (w : World) (hv : Qs w v D) (hz : D.n ≤ 1048576) :
    Calls Try.prog 21 #[v] w fun e w' => (∃ v', e = .returned v' ∧ NewQ w' w.heap.size v' D) ∧ Below w.heap.size w w' := by
  obtain ⟨ao, cap, rfl, hl, hm, hc⟩ := hv.open_
  have hm' := hm
  unfold maxLen at hm
  have H0 := Lib.hid hc
  have hmk := mk_point D.n hz
  clear hc hv
  go_enter Try.func21, Try.ntmps21
  go_wp2_with fail
  go_loopw [4] (fun i wr => ∃ k : Nat, k ≤ D.n ∧ i = .int .i64 k ∧ wr.rowIs w.heap.size 88 (D.n * 2) (qPart D k) ∧ Below w.heap.size w wr) (fun i _ => D.n - (intOf i).toNat)
  case atStart =>
    refine ⟨0, by omega, rfl, ?_, by (repeat (first | exact Below.refl _ _ | refine Below.setCell ?_ (by first | (simp; done) | (simp; omega) | omega) _ | refine belowN ?_ _ | refine Below.drew ?_ | refine Below.alloc ?_ (by first | (simp; done) | (simp; omega) | omega) _ | refine Below.trans ?_ (Below.mono (by assumption) (by first | (simp; done) | (simp; omega) | omega))))⟩
    exact (rowIs_made2 w (.int .i64 0) (.int .i64 0) D.n 88).congr fun i _ => by simp [qPart]
  case round =>
    obtain ⟨k, hk, rfl, hrow, hbw⟩ := hrel
    by_cases hlt : k < D.n
    · obtain ⟨b, off, rfl, H1⟩ := H0.out (by omega)
      obtain ⟨c0, c1⟩ := H1 k hlt
      have c0 := cell_below hbw c0
      have c1 := cell_below hbw c1
      clear H1
      have hlr := hrow.lt
      go_wp2_with fail
      refine (toPoint_bel _ _ _).mono ?_
      rintro e w1 ⟨rfl, hb1⟩
      have hrow1 : w1.rowIs w.heap.size 88 (D.n * 2) (qPart D k) := hrow.of_block (hb1.block _ hlr)
      have d0 := hrow1.cell (i := k * 2) (by omega)
      have d1 := hrow1.cell (i := k * 2 + 1) (by omega)
      have f0 := hrow1.frozen (k * 2)
      have f1 := hrow1.frozen (k * 2 + 1)
      go_wp2
      go_roundw
      case rel =>
        refine ⟨k + 1, by omega, by go_num, ?_, by (repeat (first | exact Below.refl _ _ | refine Below.setCell ?_ (by first | (simp; done) | (simp; omega) | omega) _ | refine belowN ?_ _ | refine Below.drew ?_ | refine Below.alloc ?_ (by first | (simp; done) | (simp; omega) | omega) _ | refine Below.trans ?_ (Below.mono (by assumption) (by first | (simp; done) | (simp; omega) | omega))))⟩
        exact ((hrow1.set (k * 2) _).set (k * 2 + 1) _).congr fun i _ => qPart_step D k i
      case measure => simp [intOf]; omega
    · obtain rfl : k = D.n := by omega
      have hls := hrow.lt
      go_wp2
      go_ret
      refine ⟨⟨_, rfl, .inr ⟨w.heap.size, D.n, qPart D D.n, rfl, Nat.le_refl _, maxLen_of hz, hrow, fun i j hi hj => ?_, Nat.le_refl _, hls⟩, _, _, _, rfl⟩, hbw⟩
      have := row_lt hi hj
      simp only [qPart]
      rw [if_pos this]
      simp [qCell, show (i * 2 + j) / 2 = i by omega, show (i * 2 + j) % 2 = j by omega]

set_option maxHeartbeats 800000 in
theorem eqPointS_yes (u v : Value) (D : Cols) (w : World) (hu : Qs w u D) (hv : Qs w v D) :
    Calls Try.prog 23 #[u, v] w fun e w' => e = .returned (.bool true) ∧ Below w.heap.size w w' := by
  obtain ⟨ao, cap, rfl, hl, hm, hc⟩ := hu
  obtain ⟨bo, cap2, rfl, hl2, hm2, hc2⟩ := hv
  unfold maxLen at hm hm2
  have H0 := Lib.hid hc
  have H2 := Lib.hid hc2
  clear hc hc2
  go_enter Try.func23, Try.ntmps23
  go_wp2_with fail
  go_loopw [5] (fun i wr => ∃ k : Nat, k ≤ D.n ∧ i = .int .i64 k ∧ Below w.heap.size w wr) (fun i _ => D.n - (intOf i).toNat)
  case atStart => exact ⟨0, by omega, rfl, by (repeat (first | exact Below.refl _ _ | refine Below.setCell ?_ (by first | (simp; done) | (simp; omega) | omega) _ | refine belowN ?_ _ | refine Below.drew ?_ | refine Below.alloc ?_ (by first | (simp; done) | (simp; omega) | omega) _ | refine Below.trans ?_ (Below.mono (by assumption) (by first | (simp; done) | (simp; omega) | omega))))⟩
  case round =>
    obtain ⟨k, hk, rfl, hbw⟩ := hrel
    by_cases hlt : k < D.n
    · obtain ⟨b, off, rfl, H1⟩ := H0.out (by omega)
      obtain ⟨b2, off2, rfl, H3⟩ := H2.out (by omega)
      have c0 := cell_below hbw (H1 k 0 hlt (by omega))
      have c1 := cell_below hbw (H1 k 1 hlt (by omega))
      have d0 := cell_below hbw (H3 k 0 hlt (by omega))
      have d1 := cell_below hbw (H3 k 1 hlt (by omega))
      rw [Nat.add_zero] at c0 d0
      clear H1 H3
      go_wp2_with fail
      go_region_held3 (fun w' => w'.cell? ⟨b, off + k * 2, none⟩ = some (.int .i64 (D.c k 0)) ∧ w'.cell? ⟨b, off + k * 2 + 1, none⟩ = some (.int .i64 (D.c k 1)) ∧ w'.cell? ⟨b2, off2 + k * 2, none⟩ = some (.int .i64 (D.c k 0)) ∧ w'.cell? ⟨b2, off2 + k * 2 + 1, none⟩ = some (.int .i64 (D.c k 1))) ((((try go_split_ands); (try dsimp only); (repeat' apply And.intro)) <;> (repeat (first | with_reducible assumption | ((with_reducible refine cnew0 ?_); simp; done) | ((with_reducible refine cnew1 ?_); simp; done) | (with_reducible refine akeep ?_) | (with_reducible refine dkeep ?_) | ((with_reducible refine skeep ?_ ?_); rotate_left; (first | ((try dsimp only); omega) | (simp; done) | (simp; omega))) | (with_reducible refine bkeep hb3 ?_)))))
        ((go_at_call 60; refine (eqPoint_yes _ _ _).mono ?_; rintro e w1 ⟨rfl, hb3⟩))
      have sw := hbw.size
      go_wp2
      go_roundw
      case rel => exact ⟨k + 1, by omega, by go_num, by (repeat (first | exact Below.refl _ _ | refine Below.setCell ?_ (by first | (simp; done) | (simp; omega) | omega) _ | refine belowN ?_ _ | refine Below.drew ?_ | refine Below.alloc ?_ (by first | (simp; done) | (simp; omega) | omega) _ | refine Below.trans ?_ (Below.mono (by assumption) (by first | (simp; done) | (simp; omega) | omega))))⟩
      case measure => simp [intOf]; omega
    · obtain rfl : k = D.n := by omega
      go_wp2
      go_ret
      exact ⟨rfl, hbw⟩

end Go.Proofs.Ytggpmailkkpdaaa
