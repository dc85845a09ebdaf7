/-
  Lists of placed tiles: how they read, the laws' measure of them, the laws' own copies. Conditions: each theorem's own.
-/
import Derived.Test.YtnofbeeihdgmdaaDoorSz
import Derived.Test.YtnofbeeihdgmdaaDoorPoint
namespace Go.Proofs.YtnofbeeihdgmdaaDoor
open Go.RowKit Go.ChangeShapes Go.WideShapes Go.Deep

/-- v is a slice of n elements of m numbers each. -/
def Cl (w : World) (m : Nat) (v : Value) (n : Nat) (c : Nat → Nat → Int) : Prop := Sl w m v n fun i j => .int .i64 (c i j)
theorem Cl.below {w w1 : World} {m n : Nat} {v : Value} {c : Nat → Nat → Int} (h : Cl w m v n c) (hb : Below w.heap.size w w1) : Cl w1 m v n c := Sl.below h hb
/-- v is such a slice in a block of its own from lo to hi. -/
def OwnC (w : World) (t : TypeId) (m lo hi : Nat) (v : Value) (n : Nat) (c : Nat → Nat → Int) : Prop :=
  (v = .slice none 0 0 ∧ n = 0) ∨ ∃ g cap f, v = .slice (some ⟨g, 0, none⟩) n cap ∧ n ≤ cap ∧ cap ≤ maxLen ∧ w.rowIs g t (cap * m) f ∧ (∀ i j, i < n → j < m → f (i * m + j) = .int .i64 (c i j)) ∧ lo ≤ g ∧ g < hi
theorem row_lt {i j m n : Nat} (hi : i < n) (hj : j < m) : i * m + j < n * m := by
  have h1 : (i + 1) * m ≤ n * m := Nat.mul_le_mul_right _ (by omega)
  have h2 : (i + 1) * m = i * m + m := Nat.succ_mul i m
  omega
theorem OwnC.cl {w : World} {t : TypeId} {m lo hi : Nat} {v : Value} {n : Nat} {c : Nat → Nat → Int} (h : OwnC w t m lo hi v n c) : Cl w m v n c := by
  rcases h with ⟨rfl, rfl⟩ | ⟨g, cap, f, rfl, hl, hm, hr, hf, -, -⟩
  · exact ⟨none, 0, rfl, Nat.le_refl _, by unfold maxLen; omega, fun h => by omega⟩
  · refine ⟨_, cap, rfl, hl, hm, fun _ => ⟨g, 0, rfl, fun i j hi hj => ?_⟩⟩
    have := hr.cell (i := i * m + j) (row_lt (by omega) hj)
    rw [hf i j hi hj] at this
    rw [show 0 + i * m + j = i * m + j by omega]
    exact this
theorem OwnC.keep {w w1 : World} {t : TypeId} {m lo hi a b : Nat} {v : Value} {n : Nat} {c : Nat → Nat → Int} (h : OwnC w t m lo hi v n c) (hw : Within a b w w1) (ho : hi ≤ a ∨ b ≤ lo) : OwnC w1 t m lo hi v n c := by
  rcases h with h | ⟨g, cap, f, e1, e2, e3, e4, e5, e6, e7⟩
  · exact .inl h
  · exact .inr ⟨g, cap, f, e1, e2, e3, hw.rowIs e4 (by omega), e5, e6, e7⟩
theorem OwnC.below {w w1 : World} {t : TypeId} {m lo hi : Nat} {v : Value} {n : Nat} {c : Nat → Nat → Int} (h : OwnC w t m lo hi v n c) (hb : Below w.heap.size w w1) : OwnC w1 t m lo hi v n c := h.keep (Within.of (lo := 0) (hi := 0) hb) (.inr (Nat.zero_le _))
theorem OwnC.mono {w : World} {t : TypeId} {m lo hi lo' hi' : Nat} {v : Value} {n : Nat} {c : Nat → Nat → Int} (h : OwnC w t m lo hi v n c) (h1 : lo' ≤ lo) (h2 : hi ≤ hi') : OwnC w t m lo' hi' v n c := by
  rcases h with h | ⟨g, cap, f, e1, e2, e3, e4, e5, e6, e7⟩
  · exact .inl h
  · exact .inr ⟨g, cap, f, e1, e2, e3, e4, e5, by omega, by omega⟩
theorem OwnC.congr {w : World} {t : TypeId} {m lo hi : Nat} {v : Value} {n : Nat} {c d : Nat → Nat → Int} (h : OwnC w t m lo hi v n c) (hc : ∀ i j, i < n → j < m → c i j = d i j) : OwnC w t m lo hi v n d := by
  rcases h with h | ⟨g, cap, f, e1, e2, e3, e4, e5, e6, e7⟩
  · exact .inl h
  · exact .inr ⟨g, cap, f, e1, e2, e3, e4, fun i j hi hj => by rw [e5 i j hi hj, hc i j hi hj], e6, e7⟩
theorem Cl.congr {w : World} {m : Nat} {v : Value} {n : Nat} {c d : Nat → Nat → Int} (h : Cl w m v n c) (hc : ∀ i j, i < n → j < m → c i j = d i j) : Cl w m v n d := Sl.congr h fun i j hi hj => by rw [hc i j hi hj]
theorem Cl.empty {w w1 : World} {m : Nat} {v : Value} {c d : Nat → Nat → Int} (h : Cl w m v 0 c) : Cl w1 m v 0 d := by
  obtain ⟨ao, cap, h1, h2, h3, h4⟩ := h
  exact ⟨ao, cap, h1, h2, h3, fun h => absurd h (Nat.lt_irrefl 0)⟩
theorem Cl.shape {w : World} {m n : Nat} {v : Value} {c : Nat → Nat → Int} (h : Cl w m v n c) : ∃ a k q, v = .slice a k q := let ⟨a, q, h, _⟩ := h; ⟨a, _, q, h⟩

/-- A placed tile: its point and its tile. -/
structure Pl where
  x : Int
  y : Int
  t : Int
instance : Inhabited Pl := ⟨⟨0, 0, 0⟩⟩
def pX (ps : List Pl) (i : Nat) : Int := (ps.getD i default).x
def pY (ps : List Pl) (i : Nat) : Int := (ps.getD i default).y
def pT (ps : List Pl) (i : Nat) : Int := (ps.getD i default).t
/-- Number j of placed tile i. -/
def pC (ps : List Pl) (i j : Nat) : Int := if j = 0 then pX ps i else if j = 1 then pY ps i else pT ps i
/-- v is a slice of these placed tiles. -/
def Plcs (w : World) (v : Value) (ps : List Pl) : Prop := Cl w 3 v ps.length (pC ps)
theorem Plcs.below {w w1 : World} {v : Value} {ps : List Pl} (h : Plcs w v ps) (hb : Below w.heap.size w w1) : Plcs w1 v ps := Cl.below h hb
/-- Its numbers are those of values. -/
def Pl.ok (p : Pl) : Prop := (Lit.int .i64 p.x).wf = true ∧ (Lit.int .i64 p.y).wf = true ∧ (Lit.int .i64 p.t).wf = true
/-- The cells of such a slice. -/
theorem Plcs.open_ {w : World} {v : Value} {ps : List Pl} (h : Plcs w v ps) : ∃ ao cap, v = .slice ao ps.length cap ∧ ps.length ≤ cap ∧ cap ≤ maxLen ∧ (0 < ps.length → ∃ b off, ao = some ⟨b, off, none⟩ ∧
    ∀ i, i < ps.length → w.cell? ⟨b, off + i * 3, none⟩ = some (.int .i64 (pX ps i)) ∧ w.cell? ⟨b, off + i * 3 + 1, none⟩ = some (.int .i64 (pY ps i)) ∧ w.cell? ⟨b, off + i * 3 + 2, none⟩ = some (.int .i64 (pT ps i))) := by
  obtain ⟨ao, cap, h1, h2, h3, h4⟩ := h
  refine ⟨ao, cap, h1, h2, h3, fun h0 => ?_⟩
  obtain ⟨b, off, h5, h6⟩ := h4 h0
  exact ⟨b, off, h5, fun i hi => ⟨h6 i 0 hi (by omega), h6 i 1 hi (by omega), h6 i 2 hi (by omega)⟩⟩

section
variable {H : Type} {enc : TypeId × Value → H} {P : Program} {w : World} {base : Nat} {held : Bool}
theorem open_placed {t e tp ti : TypeId} {f0 f1 g0 g1 : Field} {fuel : Nat} {v : Value} {x : DataW H × List MemPlace} (ht : P.underlying t = some (.slice e)) (he : P.underlying e = some (.struct #[f0, f1])) (hp : P.underlying tp = some (.struct #[g0, g1]))
    (hC : P.cellsOf e = 3) (h0 : f0.type = tp ∧ f0.offset = 0) (h1 : f1.type = ti ∧ f1.offset = 2) (hCp : P.cellsOf tp = 2) (hCi : P.cellsOf ti = 1) (k0 : g0.type = ti ∧ g0.offset = 0) (k1 : g1.type = ti ∧ g1.offset = 1) (hi : P.underlying ti = some (.int .i64))
    (h : DataW.trod enc P w base (fun _ => true) held fuel t [v] = some x) : ∃ ps : List Pl, Plcs w v ps ∧ ∀ p ∈ ps, p.ok := by
  obtain ⟨n, f, hsl, hr⟩ := open_sl ht hC (by omega) h
  have g : ∀ i, i < n → ∃ q : Pl, (f i 0 = .int .i64 q.x ∧ f i 1 = .int .i64 q.y ∧ f i 2 = .int .i64 q.t) ∧ q.ok := fun i hi' => by
    obtain ⟨k, y, hy⟩ := hr i hi'
    obtain ⟨y0, y1, m, _, _, g0', g1'⟩ := trod_struct2 he hy
    rw [h0.1, h0.2, hCp] at g0'
    rw [h1.1, h1.2, hCi] at g1'
    obtain ⟨z0, z1, m2, _, _, a0, a1⟩ := trod_struct2 hp g0'
    rw [k0.1, k0.2, hCi] at a0
    rw [k1.1, k1.2, hCi] at a1
    obtain ⟨a, ea, -, wa⟩ := DataW.trod_int hi a0
    obtain ⟨b, eb, -, wb⟩ := DataW.trod_int hi a1
    obtain ⟨c, ec, -, wc⟩ := DataW.trod_int hi g1'
    exact ⟨⟨a, b, c⟩, ⟨by simpa [List.range_succ] using ea, by simpa [List.range_succ] using eb, by simpa [List.range_succ] using ec⟩, wa, wb, wc⟩
  obtain ⟨Z, hZ⟩ := choose_lt g
  refine ⟨(List.range n).map Z, ?_, ?_⟩
  · show Sl w 3 v ((List.range n).map Z).length _
    rw [show ((List.range n).map Z).length = n by simp]
    refine hsl.congr fun i j hi hj => ?_
    obtain ⟨⟨a0, a1, a2⟩, -⟩ := hZ i hi
    obtain rfl | rfl | rfl : j = 0 ∨ j = 1 ∨ j = 2 := by omega
    · simp [pC, pX, hi, a0]
    · simp [pC, pY, hi, a1]
    · simp [pC, pT, hi, a2]
  · intro z hz
    obtain ⟨i, hi, rfl⟩ := by simpa using hz
    exact (hZ i hi).2
end

/-- An assembly by value: its one field. -/
theorem open_one {H : Type} {enc : TypeId × Value → H} {P : Program} {w : World} {base : Nat} {spare : Nat → Bool} {held : Bool} {r : Reach} {b0 : Nat} {t : TypeId} {f0 : Field} {v : Value} {d : DataW H} {p : List MemPlace} (hs : P.underlying t = some (.struct #[f0])) (hone : oneCellFields P #[f0] = true) (hC : P.cellsOf t = 1)
    (hv : Value.okWide P w r b0 t v) (h : DataW.Trod enc P w base spare held t v d p) :
    ∃ (v0 : Value) (y0 : DataW H × List MemPlace) (n : Nat), v = .agg #[v0] ∧ DataW.trod enc P w base spare held n f0.type [v0] = some y0 := by
  obtain ⟨cs, rfl, hsz⟩ := okWide_struct hs hv
  obtain ⟨c0, rfl⟩ : ∃ c0, cs = #[c0] := by
    have h1 : cs.size = 1 := hsz.trans hC
    exact ⟨cs[0], by apply Array.ext (by simp [h1]); intro i h2 h3; have : i = 0 := by simp at h3; omega
                     subst this; rfl⟩
  obtain ⟨fuel, hf⟩ := h
  obtain ⟨y0, n, -, -, h0⟩ := trod_struct1 hs hf
  obtain ⟨o0, k0⟩ := hone_of hone 0 f0 rfl
  exact ⟨c0, y0, n, rfl, by simpa [Value.cells, o0, k0] using h0⟩

theorem szPlacedS_any (ao : Option Addr) (n cap : Nat) (left : Int) (w : World) (hn : n ≤ cap) (hm : cap ≤ maxLen) (h0 : 0 ≤ left) (h1 : left ≤ 1048576) :
    Calls Tryd.prog 39 #[.slice ao n cap, .int .i64 left] w fun e w' => e = .returned (.int .i64 (if left < n then -1 else left - n)) ∧ w = w' := by
  unfold maxLen at hm
  by_cases h : left < n
  · rw [if_pos h]
    go_enter Tryd.func39, Tryd.ntmps39
    go_wp2
    go_ret
    exact ⟨rfl, rfl⟩
  · rw [if_neg h]
    go_enter Tryd.func39, Tryd.ntmps39
    go_wp2
    go_ret
    exact ⟨rfl, rfl⟩

theorem szAssembly_any (v : Value) (ps : List Pl) (left : Int) (w : World) (hv : Plcs w v ps) (h0 : 0 ≤ left) (h1 : left ≤ 1048576) :
    Calls Tryd.prog 10 #[.agg #[v], .int .i64 left] w fun e w' => Left e (ps.length ≤ 1048576) left ∧ Below w.heap.size w w' := by
  obtain ⟨ao, cap, rfl, hl, hm, -⟩ := hv
  by_cases h : left < ps.length
  · go_enter Tryd.func10, Tryd.ntmps10
    go_wp2_with fail
    refine (szPlacedS_any ao ps.length cap _ _ hl hm h0 h1).mono ?_
    rintro e w1 ⟨rfl, rfl⟩
    rw [if_pos h]
    go_wp2
    go_ret
    exact ⟨⟨-1, rfl, .inl rfl⟩, by (repeat (first | exact Below.refl _ _ | refine Below.setCell ?_ (by first | (simp; done) | (simp; omega) | omega) _ | refine belowN ?_ _ | refine Below.drew ?_ | refine Below.alloc ?_ (by first | (simp; done) | (simp; omega) | omega) _ | refine Below.trans ?_ (Below.mono (by assumption) (by first | (simp; done) | (simp; omega) | omega))))⟩
  · have hb : decide (left - (ps.length : Int) < 0) = false := by simp; omega
    go_enter Tryd.func10, Tryd.ntmps10
    go_wp2_with fail
    refine (szPlacedS_any ao ps.length cap _ _ hl hm h0 h1).mono ?_
    rintro e w1 ⟨rfl, rfl⟩
    rw [if_neg (show ¬ left < (ps.length : Int) by omega)]
    go_wp2
    go_ret
    exact ⟨⟨left - ps.length, rfl, .inr ⟨by omega, by omega, by omega⟩⟩, by (repeat (first | exact Below.refl _ _ | refine Below.setCell ?_ (by first | (simp; done) | (simp; omega) | omega) _ | refine belowN ?_ _ | refine Below.drew ?_ | refine Below.alloc ?_ (by first | (simp; done) | (simp; omega) | omega) _ | refine Below.trans ?_ (Below.mono (by assumption) (by first | (simp; done) | (simp; omega) | omega))))⟩

theorem toPlaced_any (x y t : Int) (w : World) : Calls Tryd.prog 76 #[.agg #[.int .i64 x, .int .i64 y, .int .i64 t]] w fun e w' => e = .returned (.agg #[.int .i64 x, .int .i64 y, .int .i64 t]) ∧ Below w.heap.size w w' := by
  go_enter Tryd.func76, Tryd.ntmps76
  go_wp2_with (go_at_call 14; refine (toPoint_any _ _ _).mono ?_; rintro e w' ⟨rfl, rfl⟩)
  exact bodyPost_ret (v := .agg #[.int .i64 x, .int .i64 y, .int .i64 t]) (by simp [results, Tryd.results76, go_sem]) rfl ⟨rfl, by (repeat (first | exact Below.refl _ _ | refine Below.setCell ?_ (by first | (simp; done) | (simp; omega) | omega) _ | refine belowN ?_ _ | refine Below.drew ?_ | refine Below.alloc ?_ (by first | (simp; done) | (simp; omega) | omega) _ | refine Below.trans ?_ (Below.mono (by assumption) (by first | (simp; done) | (simp; omega) | omega))))⟩

theorem info_placed : (Tryd.prog.info? 100).map (fun i => (i.zero, i.size, i.bytes)) = some (some (.agg #[.int .i64 0, .int .i64 0, .int .i64 0]), 3, 24) := by kernel_rfl
/-- 'make' of elements of three cells. -/
theorem run_make3 {P : Program} (t e : TypeId) (x y z : Value) (bytes : Nat) (ht : P.underlying t = some (.slice e)) (hinfo : (P.info? e).map (fun i => (i.zero, i.size, i.bytes)) = some (some (.agg #[x, y, z]), 3, bytes))
    (n : Nat) (hb : bytes * n ≤ 281474976710656) (h63 : n ≤ 9223372036854775807) (w : World) :
    (Instr.makeSlice t (.int .i64 (n : Int)) (.int .i64 (n : Int))).run P w = .ok (.slice (some ⟨w.heap.size, 0, none⟩) n n) (w.alloc (.cells (madeCells #[x, y, z] (n * 3)) e)) := by
  obtain ⟨i, hi, hzz⟩ := Option.map_eq_some_iff.1 hinfo
  simp only [Prod.mk.injEq] at hzz
  obtain ⟨hz, hs, hbb⟩ := hzz
  have hb' : (i.bytes : Int) * (n : Int) ≤ 281474976710656 := by
    rw [hbb]
    have h : ((bytes * n : Nat) : Int) ≤ 281474976710656 := by omega
    rwa [Int.natCast_mul] at h
  have hr := run_make (P := P) w t e i (.agg #[x, y, z]) ht hi hz .i64 .i64 n n (by omega) (Int.le_refl _) hb' (by omega)
  simp only [Int.toNat_natCast, hs] at hr
  exact hr
theorem rowIs_made3 (w : World) (y : Value) (n : Nat) (t : TypeId) : (w.alloc (.cells (madeCells #[y, y, y] (n * 3)) t)).rowIs w.heap.size t (n * 3) (fun _ => y) :=
  ⟨_, Deep.blk_alloc_new _ _, size_madeCells _ _, fun i hi => by
    obtain h | h | h : i % 3 = 0 ∨ i % 3 = 1 ∨ i % 3 = 2 := by omega
    all_goals simp [madeCells, hi, h]⟩
def zeroP (n : Nat) : Array Value := madeCells #[.int .i64 0, .int .i64 0, .int .i64 0] (n * 3)
theorem mk_placed (n : Nat) (hn : n ≤ 1048576) (w : World) : (Instr.makeSlice 40 (.int .i64 (n : Int)) (.int .i64 (n : Int))).run Tryd.prog w = .ok (.slice (some ⟨w.heap.size, 0, none⟩) n n) (w.alloc (.cells (zeroP n) 100)) :=
  run_make3 40 100 _ _ _ 24 Tryd.underlying40 info_placed n (by omega) (by omega) w

/-- Cell q of a row of placed tiles. -/
def pCell (ps : List Pl) (q : Nat) : Value := .int .i64 (pC ps (q / 3) (q % 3))
/-- What a row of placed tiles holds when k of them are laid. -/
def pPart (ps : List Pl) (k q : Nat) : Value := if q < k * 3 then pCell ps q else .int .i64 0
theorem pPart_step (ps : List Pl) (k i : Nat) : (if i = k * 3 + 2 then Value.int .i64 (pT ps k) else if i = k * 3 + 1 then .int .i64 (pY ps k) else if i = k * 3 then .int .i64 (pX ps k) else pPart ps k i) = pPart ps (k + 1) i := by
  simp only [pPart]
  by_cases h2 : i = k * 3 + 2
  · subst h2
    rw [if_pos rfl, if_pos (by omega)]
    simp [pCell, pC, show (k * 3 + 2) % 3 = 2 by omega, show (k * 3 + 2) / 3 = k by omega]
  · rw [if_neg h2]
    by_cases h1 : i = k * 3 + 1
    · subst h1
      rw [if_pos rfl, if_pos (by omega)]
      simp [pCell, pC, show (k * 3 + 1) % 3 = 1 by omega, show (k * 3 + 1) / 3 = k by omega]
    · rw [if_neg h1]
      by_cases h0 : i = k * 3
      · subst h0
        rw [if_pos rfl, if_pos (by omega)]
        simp [pCell, pC]
      · rw [if_neg h0]
        by_cases h : i < k * 3
        · rw [if_pos h, if_pos (by omega)]
        · rw [if_neg h, if_neg (by omega)]

set_option maxHeartbeats 800000 in
theorem toPlacedS_any (v : Value) (ps : List Pl) (w : World) (hv : Plcs w v ps) (hz : ps.length ≤ 1048576) :
    Calls Tryd.prog 46 #[v] w fun e w' => (∃ v', e = .returned v' ∧ v' = headOf w.heap.size ps.length ∧ w'.rowIs w.heap.size 100 (ps.length * 3) (pCell ps)) ∧ Below w.heap.size w w' := by
  obtain ⟨ao, cap, rfl, hl, hm, hc⟩ := hv.open_
  unfold maxLen at hm
  have H0 := Lib.hid hc
  have hmk := mk_placed ps.length hz
  clear hc hv
  go_enter Tryd.func46, Tryd.ntmps46
  go_wp2_with fail
  go_loopw [4] (fun i wr => ∃ k : Nat, k ≤ ps.length ∧ i = .int .i64 k ∧ wr.rowIs w.heap.size 100 (ps.length * 3) (pPart ps k) ∧ Below w.heap.size w wr) (fun i _ => ps.length - (intOf i).toNat)
  case atStart =>
    refine ⟨0, by omega, rfl, ?_, by (repeat (first | exact Below.refl _ _ | refine Below.setCell ?_ (by first | (simp; done) | (simp; omega) | omega) _ | refine belowN ?_ _ | refine Below.drew ?_ | refine Below.alloc ?_ (by first | (simp; done) | (simp; omega) | omega) _ | refine Below.trans ?_ (Below.mono (by assumption) (by first | (simp; done) | (simp; omega) | omega))))⟩
    exact (rowIs_made3 w (.int .i64 0) ps.length 100).congr fun i _ => by simp [pPart]
  case round =>
    obtain ⟨k, hk, rfl, hrow, hbw⟩ := hrel
    by_cases hlt : k < ps.length
    · obtain ⟨b, off, rfl, H1⟩ := H0.out (by omega)
      obtain ⟨c0, c1, c2⟩ := H1 k hlt
      have c0 := cell_below hbw c0
      have c1 := cell_below hbw c1
      have c2 := cell_below hbw c2
      clear H1
      have hlr := hrow.lt
      go_wp2_with fail
      refine (toPlaced_any _ _ _ _).mono ?_
      rintro e w1 ⟨rfl, hb1⟩
      have hrow1 : w1.rowIs w.heap.size 100 (ps.length * 3) (pPart ps k) := hrow.of_block (hb1.block _ hlr)
      have d0 := hrow1.cell (i := k * 3) (by omega)
      have d1 := hrow1.cell (i := k * 3 + 1) (by omega)
      have d2 := hrow1.cell (i := k * 3 + 2) (by omega)
      have f0 := hrow1.frozen (k * 3)
      have f1 := hrow1.frozen (k * 3 + 1)
      have f2 := hrow1.frozen (k * 3 + 2)
      go_wp2
      go_roundw
      case rel =>
        refine ⟨k + 1, by omega, by go_num, ?_, by (repeat (first | exact Below.refl _ _ | refine Below.setCell ?_ (by first | (simp; done) | (simp; omega) | omega) _ | refine belowN ?_ _ | refine Below.drew ?_ | refine Below.alloc ?_ (by first | (simp; done) | (simp; omega) | omega) _ | refine Below.trans ?_ (Below.mono (by assumption) (by first | (simp; done) | (simp; omega) | omega))))⟩
        exact (((hrow1.set (k * 3) _).set (k * 3 + 1) _).set (k * 3 + 2) _).congr fun i _ => pPart_step ps k i
      case measure => simp [intOf]; omega
    · obtain rfl : k = ps.length := by omega
      go_wp2
      go_ret
      exact ⟨⟨_, rfl, rfl, hrow.congr fun i hi => by simp [pPart, hi]⟩, hbw⟩

end Go.Proofs.YtnofbeeihdgmdaaDoor
