/-
  MoveAssembly, the program's. Conditions: each theorem's own.
-/
import Derived.Test.YtaeaflbmaokieaaCopyP
import Derived.Test.YtaeaflbmaokieaaForm2
namespace Go.Proofs.Ytaeaflbmaokieaa
open Go.RowKit

/-- The placed tiles moved. -/
def mvP (P : List Pl) (dx dy : Int) : List Pl := P.map fun p => ⟨p.x + dx, p.y + dy, p.t⟩
theorem mvP_len (P : List Pl) (dx dy : Int) : (mvP P dx dy).length = P.length := by simp [mvP]
theorem mvP_pC {P : List Pl} {dx dy : Int} {i : Nat} (hi : i < P.length) : pX (mvP P dx dy) i = pX P i + dx ∧ pY (mvP P dx dy) i = pY P i + dy ∧ pT (mvP P dx dy) i = pT P i := by
  simp [pX, pY, pT, mvP, List.getD, List.getElem?_map, List.getElem?_eq_getElem hi]
def mvOk (P : List Pl) (dx dy : Int) : Prop := ∀ i, i < P.length → ptB (pX P i + dx) (pY P i + dy) = true
open Classical in
noncomputable def mvC (P : List Pl) (dx dy : Int) : Int := if formB P = true then (if inB dx (-120) 120 = true ∧ inB dy (-120) 120 = true ∧ mvOk P dx dy then 0 else 2) else 1
noncomputable def mvR (P : List Pl) (dx dy : Int) : List Pl := if mvC P dx dy = 0 then mvP P dx dy else []
/-- What MoveAssembly returns. -/
def MvPost (W : World) (P : List Pl) (dx dy : Int) (e : Ending) (w' : World) : Prop := ∃ v', e = .returned (.tuple #[.agg #[v'], .int .i64 (mvC P dx dy)]) ∧ OwnA w' W.heap.size w'.heap.size v' (mvR P dx dy)
theorem mv_no {W w' : World} {P : List Pl} {dx dy c : Int} (hc : mvC P dx dy = c) (h0 : c ≠ 0) : MvPost W P dx dy (.returned (.tuple #[.agg #[.slice none 0 0], .int .i64 c])) w' := by
  refine ⟨.slice none 0 0, by rw [hc], .inl ⟨rfl, ?_⟩⟩
  unfold mvR
  rw [if_neg (by rw [hc]; exact h0)]
  rfl
theorem mv_1 {P : List Pl} {dx dy : Int} (h : formB P = false) : mvC P dx dy = 1 := by simp [mvC, h]
theorem mv_2 {P : List Pl} {dx dy : Int} (h : formB P = true) (hn : ¬ (inB dx (-120) 120 = true ∧ inB dy (-120) 120 = true ∧ mvOk P dx dy)) : mvC P dx dy = 2 := by unfold mvC; rw [if_pos h, if_neg hn]
theorem mv_0 {P : List Pl} {dx dy : Int} (h : formB P = true) (hx : inB dx (-120) 120 = true) (hy : inB dy (-120) 120 = true) (ho : mvOk P dx dy) : mvC P dx dy = 0 := by unfold mvC; rw [if_pos h, if_pos ⟨hx, hy, ho⟩]
/-- What the row holds when k of its points are moved. -/
def mvCell (P : List Pl) (dx dy : Int) (k q : Nat) : Value := if q < k * 3 then pCell (mvP P dx dy) q else pCell P q
theorem mvCell_step {P : List Pl} {dx dy : Int} {k : Nat} (hk : k < P.length) (i : Nat) :
    (if i = k * 3 + 1 then Value.int .i64 (pY P k + dy) else if i = k * 3 then .int .i64 (pX P k + dx) else mvCell P dx dy k i) = mvCell P dx dy (k + 1) i := by
  obtain ⟨e0, e1, e2⟩ := mvP_pC (dx := dx) (dy := dy) hk
  simp only [mvCell]
  by_cases h1 : i = k * 3 + 1
  · subst h1
    rw [if_pos rfl, if_pos (by omega)]
    simp [pCell, pC, e1, show (k * 3 + 1) % 3 = 1 by omega, show (k * 3 + 1) / 3 = k by omega]
  · rw [if_neg h1]
    by_cases h0 : i = k * 3
    · subst h0
      rw [if_pos rfl, if_pos (by omega)]
      simp [pCell, pC, e0]
    · rw [if_neg h0]
      by_cases h2 : i = k * 3 + 2
      · subst h2
        rw [if_neg (by omega), if_pos (by omega)]
        simp [pCell, pC, e2, show (k * 3 + 2) % 3 = 2 by omega, show (k * 3 + 2) / 3 = k by omega]
      · by_cases h : i < k * 3
        · rw [if_pos h, if_pos (by omega)]
        · rw [if_neg h, if_neg (by omega)]

theorem mv_yes {W w' : World} {P : List Pl} {dx dy : Int} {g : Nat} (h0 : mvC P dx dy = 0) (hr : w'.rowIs g 73 (P.length * 3) (mvCell P dx dy P.length)) (hz : P.length ≤ 1048576) (hlo : W.heap.size ≤ g) :
    MvPost W P dx dy (.returned (.tuple #[.agg #[.slice (some ⟨g, 0, none⟩) P.length P.length], .int .i64 0])) w' := by
  refine ⟨_, by rw [h0], ?_⟩
  have e : mvR P dx dy = mvP P dx dy := if_pos h0
  rw [e]
  refine .inr ⟨g, P.length, _, by rw [mvP_len], by rw [mvP_len]; exact Nat.le_refl _, by unfold maxLen; omega, hr, fun i j hi hj => ?_, hlo, hr.lt⟩
  rw [mvP_len] at hi
  simp only [mvCell]
  rw [if_pos (by omega)]
  simp [pCell, show (i * 3 + j) / 3 = i by omega, show (i * 3 + j) % 3 = j by omega]

theorem withinMove_any (n : Int) (w : World) : Calls Try.prog 51 #[.int .i64 n] w fun e w' => e = .returned (.bool (inB n (-120) 120)) ∧ w = w' := by
  by_cases h : -120 ≤ n
  all_goals
    go_enter Try.func51, Try.ntmps51
    go_wp2
    go_ret
    exact ⟨ret_bool (by unfold inB; first | rw [decide_eq_true h, Bool.true_and] | rw [decide_eq_false (show ¬ -120 ≤ n by omega), Bool.false_and]), rfl⟩

/-- The boxes of an assembly and a point, and one for an assembly. -/
theorem boxes_m (w : World) (v x y : Value) (t1 t2 t3 : TypeId) : At1 (((w.alloc (.cells #[v] t1)).alloc (.cells #[x, y] t2)).alloc (.cells #[.slice none 0 0] t3)) w.heap.size v ∧
    Two (((w.alloc (.cells #[v] t1)).alloc (.cells #[x, y] t2)).alloc (.cells #[.slice none 0 0] t3)) (w.heap.size + 1) x y ∧
    At1 (((w.alloc (.cells #[v] t1)).alloc (.cells #[x, y] t2)).alloc (.cells #[.slice none 0 0] t3)) (w.heap.size + 1 + 1) (.slice none 0 0) ∧
    (((w.alloc (.cells #[v] t1)).alloc (.cells #[x, y] t2)).alloc (.cells #[.slice none 0 0] t3)).frozen? ⟨w.heap.size + 1 + 1, 0, none⟩ = false :=
  ⟨((At1.new w v t1).below (by (repeat (first | exact Below.refl _ _ | refine Below.setCell ?_ (by first | (simp; done) | (simp; omega) | omega) _ | refine belowN ?_ _ | refine Below.drew ?_ | refine Below.alloc ?_ (by first | (simp; done) | (simp; omega) | omega) _ | refine Below.trans ?_ (Below.mono (by assumption) (by first | (simp; done) | (simp; omega) | omega)))))).below (by (repeat (first | exact Below.refl _ _ | refine Below.setCell ?_ (by first | (simp; done) | (simp; omega) | omega) _ | refine belowN ?_ _ | refine Below.drew ?_ | refine Below.alloc ?_ (by first | (simp; done) | (simp; omega) | omega) _ | refine Below.trans ?_ (Below.mono (by assumption) (by first | (simp; done) | (simp; omega) | omega))))), (Two.new (n := w.heap.size + 1) _ _ _ _ (by simp)).alloc _, ⟨by simp [go_sem]⟩, by simp [go_sem]⟩

set_option maxRecDepth 100000 in
set_option maxHeartbeats 2000000 in
set_option linter.unusedSimpArgs false in
theorem implMove_any (v1 : Value) (P1 : List Pl) (dx dy : Int) (w : World) (h1 : Plcs w v1 P1) (m1 : P1.length ≤ 1048576) :
    Calls Try.prog 17 #[.agg #[v1], .agg #[.int .i64 dx, .int .i64 dy]] w fun e w' => MvPost w P1 dx dy e w' ∧ Below w.heap.size w w' := by
  have HV := Lib.hid h1
  obtain ⟨ao, cap, rfl, hl, hm, hc⟩ := h1.open_
  unfold maxLen at hm
  have H0 := Lib.hid hc
  have HB := Lib.hid (boxes_m w (.slice ao P1.length cap) (.int .i64 dx) (.int .i64 dy) 30 34 30)
  clear h1 hc
  go_enter Try.func17, Try.ntmps17
  go_wp2_with fail
  refine (hasForm_any _ P1 _ (HV.out.below (by (repeat (first | exact Below.refl _ _ | refine Below.setCell ?_ (by first | (simp; done) | (simp; omega) | omega) _ | refine belowN ?_ _ | refine Below.drew ?_ | refine Below.alloc ?_ (by first | (simp; done) | (simp; omega) | omega) _ | refine Below.trans ?_ (Below.mono (by assumption) (by first | (simp; done) | (simp; omega) | omega))))))).mono ?_
  rintro e w1 ⟨rfl, hb1⟩
  have B1 : Below w.heap.size w w1 := by (repeat (first | exact Below.refl _ _ | refine Below.setCell ?_ (by first | (simp; done) | (simp; omega) | omega) _ | refine belowN ?_ _ | refine Below.drew ?_ | refine Below.alloc ?_ (by first | (simp; done) | (simp; omega) | omega) _ | refine Below.trans ?_ (Below.mono (by assumption) (by first | (simp; done) | (simp; omega) | omega))))
  have z1 := B1.size
  have A1 := Lib.hid (HB.out.1.below hb1)
  have D1 := Lib.hid (HB.out.2.1.below hb1)
  have R1 := Lib.hid (HB.out.2.2.1.below hb1)
  have Z1 := Lib.hid ((hb1.frozen (p := ⟨w.heap.size + 1 + 1, 0, none⟩) (by simp)).trans HB.out.2.2.2)
  have l1 := R1.out.lt
  clear hb1 HB
  have a0 := A1.out.c0
  have x0 := R1.out.c0
  have zx := Z1.out
  obtain ⟨d0, d1, -, -⟩ := D1.out
  cases hf : formB P1
  · have K := Lib.hid (mv_no (W := w) (w' := (w1.setCell ⟨w.heap.size + 1 + 1, 0, none⟩ (.slice none 0 0))) (mv_1 (dx := dx) (dy := dy) hf) (by decide))
    go_wp2_with fail
    refine bodyPost_ret (v := .tuple #[.agg #[.slice none 0 0], .int .i64 1]) ?_ rfl ⟨K.out, by (repeat (first | exact Below.refl _ _ | refine Below.setCell ?_ (by first | (simp; done) | (simp; omega) | omega) _ | refine belowN ?_ _ | refine Below.drew ?_ | refine Below.alloc ?_ (by first | (simp; done) | (simp; omega) | omega) _ | refine Below.trans ?_ (Below.mono (by assumption) (by first | (simp; done) | (simp; omega) | omega))))⟩
    simp [results, Try.results17, go_sem, x0, zx]
  have HF := Lib.hid hf
  clear hf
  cases hx : inB dx (-120) 120
  · have K := Lib.hid (mv_no (W := w) (w' := (w1.setCell ⟨w.heap.size + 1 + 1, 0, none⟩ (.slice none 0 0))) (mv_2 HF.out (dx := dx) (dy := dy) (by rw [hx]; simp)) (by decide))
    go_wp2_with (go_at_call 51; refine (withinMove_any _ _).mono ?_; rintro e w2 ⟨rfl, rfl⟩; rw [hx])
    refine bodyPost_ret (v := .tuple #[.agg #[.slice none 0 0], .int .i64 2]) ?_ rfl ⟨K.out, by (repeat (first | exact Below.refl _ _ | refine Below.setCell ?_ (by first | (simp; done) | (simp; omega) | omega) _ | refine belowN ?_ _ | refine Below.drew ?_ | refine Below.alloc ?_ (by first | (simp; done) | (simp; omega) | omega) _ | refine Below.trans ?_ (Below.mono (by assumption) (by first | (simp; done) | (simp; omega) | omega))))⟩
    simp [results, Try.results17, go_sem, x0, zx]
  cases hy : inB dy (-120) 120
  · have K := Lib.hid (mv_no (W := w) (w' := (w1.setCell ⟨w.heap.size + 1 + 1, 0, none⟩ (.slice none 0 0))) (mv_2 HF.out (dx := dx) (dy := dy) (by rw [hy]; simp)) (by decide))
    go_wp2_with (go_at_call 51; refine (withinMove_any _ _).mono ?_; rintro e w2 ⟨rfl, rfl⟩; first | rw [hx] | rw [hy])
    refine bodyPost_ret (v := .tuple #[.agg #[.slice none 0 0], .int .i64 2]) ?_ rfl ⟨K.out, by (repeat (first | exact Below.refl _ _ | refine Below.setCell ?_ (by first | (simp; done) | (simp; omega) | omega) _ | refine belowN ?_ _ | refine Below.drew ?_ | refine Below.alloc ?_ (by first | (simp; done) | (simp; omega) | omega) _ | refine Below.trans ?_ (Below.mono (by assumption) (by first | (simp; done) | (simp; omega) | omega))))⟩
    simp [results, Try.results17, go_sem, x0, zx]
  have FF := Lib.hid (formB_iff.1 HF.out)
  have h500 := FF.out.len
  have bx := inB_iff.1 hx
  have by' := inB_iff.1 hy
  have HX := Lib.hid hx
  have HY := Lib.hid hy
  go_wp2_with (go_at_call 51; refine (withinMove_any _ _).mono ?_; rintro e w2 ⟨rfl, rfl⟩; first | rw [hx] | rw [hy])
  refine (copyPlaced_any _ P1 _ (HV.out.below B1) m1).mono ?_
  rintro e w2 ⟨⟨rfl, hrow⟩, hb2⟩
  have B2 : Below w.heap.size w w2 := by (repeat (first | exact Below.refl _ _ | refine Below.setCell ?_ (by first | (simp; done) | (simp; omega) | omega) _ | refine belowN ?_ _ | refine Below.drew ?_ | refine Below.alloc ?_ (by first | (simp; done) | (simp; omega) | omega) _ | refine Below.trans ?_ (Below.mono (by assumption) (by first | (simp; done) | (simp; omega) | omega))))
  have z2 := B2.size
  have z3 : w1.heap.size ≤ w2.heap.size := hb2.size
  have gl := hrow.lt
  have a2 := (A1.out.below hb2).c0
  have D2 := Lib.hid (D1.out.below hb2)
  have R2 := Lib.hid (R1.out.below hb2)
  have Z2 := Lib.hid ((hb2.frozen (p := ⟨w.heap.size + 1 + 1, 0, none⟩) (by dsimp only; omega)).trans zx)
  have HROW := Lib.hid hrow
  clear hb2 a0 x0 zx d0 d1 hx hy hrow
  generalize w1.heap.size = g at *
  have hgl : w.heap.size + 1 + 1 < g := by omega
  go_wp2_with fail
  go_loopw [31] (fun i wr => ∃ k : Nat, k ≤ P1.length ∧ i = .int .i64 k ∧ Hid (∀ j, j < k → ptB (pX P1 j + dx) (pY P1 j + dy) = true) ∧ Two wr (w.heap.size + 1) (.int .i64 dx) (.int .i64 dy) ∧ At1 wr (w.heap.size + 1 + 1) (.slice none 0 0) ∧ wr.frozen? ⟨w.heap.size + 1 + 1, 0, none⟩ = false ∧ wr.rowIs g 73 (P1.length * 3) (mvCell P1 dx dy k) ∧ Below w.heap.size w wr) (fun i _ => P1.length - (intOf i).toNat)
  case atStart => exact ⟨0, by omega, rfl, Lib.hid (fun j hj => by omega), D2.out, R2.out, Z2.out, HROW.out.congr fun i _ => by simp [mvCell], B2⟩
  case round =>
    clear a2
    obtain ⟨k, hk, rfl, hall, hd, hr, hz, hrow, hbw⟩ := hrel
    have sw := hbw.size
    have gw := hrow.lt
    have x0 := hr.c0
    have dl := hd.lt
    by_cases hlt : k < P1.length
    · obtain ⟨b, off, rfl, H1⟩ := H0.out (by omega)
      obtain ⟨c0, c1, c2⟩ := H1 k hlt
      have c0 := cell_below hbw c0
      have c1 := cell_below hbw c1
      have c2 := cell_below hbw c2
      have hpt := ptB_iff.1 (FF.out.all k hlt).pt
      have e1 : IntKind.i64.wrap (pX P1 k + dx) = pX P1 k + dx := IntWalk.i64_in _ (by omega)
      have e2 : IntKind.i64.wrap (pY P1 k + dy) = pY P1 k + dy := IntWalk.i64_in _ (by omega)
      have HD := Lib.hid hd
      obtain ⟨d0, d1, -, -⟩ := hd
      have HR := Lib.hid hr
      have HROW := Lib.hid hrow
      clear H1 hr hrow
      go_wp2_with fail
      refine (implValidPoint_any _ _ _).mono ?_
      rintro e w3 ⟨rfl, hb3⟩
      have hB : Below wr.heap.size wr w3 := by (repeat (first | exact Below.refl _ _ | refine Below.setCell ?_ (by first | (simp; done) | (simp; omega) | omega) _ | refine belowN ?_ _ | refine Below.drew ?_ | refine Below.alloc ?_ (by first | (simp; done) | (simp; omega) | omega) _ | refine Below.trans ?_ (Below.mono (by assumption) (by first | (simp; done) | (simp; omega) | omega))))
      have t0 : w3.cell? ⟨wr.heap.size + 1, 0, none⟩ = some (.int .i64 (pX P1 k + dx)) := bkeep hb3 (by simp [go_sem])
      have t1 : w3.cell? ⟨wr.heap.size + 1, 1, none⟩ = some (.int .i64 (pY P1 k + dy)) := bkeep hb3 (by simp [go_sem])
      have s3 : wr.heap.size + 1 < w3.heap.size := World.block_lt_of_cell? w3 ⟨wr.heap.size + 1, 0, none⟩ t0
      clear hb3
      have B3 : Below w.heap.size w w3 := hbw.trans (hB.mono sw)
      have hrow3 := HROW.out.of_block (hB.block _ gw)
      have D3 := Lib.hid (HD.out.below hB)
      have x3 := (HR.out.below hB).c0
      have zx3 := (hB.frozen (p := ⟨w.heap.size + 1 + 1, 0, none⟩) (by dsimp only; omega)).trans hz
      have g0 := hrow3.cell (i := k * 3) (by omega)
      have g1 := hrow3.cell (i := k * 3 + 1) (by omega)
      have f0 := hrow3.frozen (k * 3)
      have f1 := hrow3.frozen (k * 3 + 1)
      have HROW3 := Lib.hid hrow3
      clear hrow3 c0 c1 c2 d0 d1 x0 hz hB
      cases hp : ptB (pX P1 k + dx) (pY P1 k + dy)
      · have K := Lib.hid (mv_no (W := w) (w' := (w3.setCell ⟨w.heap.size + 1 + 1, 0, none⟩ (.slice none 0 0))) (mv_2 HF.out (dx := dx) (dy := dy) (fun a => by have := a.2.2 k hlt; rw [hp] at this; cases this)) (by decide))
        go_wp2_with fail
        refine bodyPost_ret (v := .tuple #[.agg #[.slice none 0 0], .int .i64 2]) ?_ rfl ⟨K.out, by (repeat (first | exact Below.refl _ _ | refine Below.setCell ?_ (by first | (simp; done) | (simp; omega) | omega) _ | refine belowN ?_ _ | refine Below.drew ?_ | refine Below.alloc ?_ (by first | (simp; done) | (simp; omega) | omega) _ | refine Below.trans ?_ (Below.mono (by assumption) (by first | (simp; done) | (simp; omega) | omega))))⟩
        simp [results, Try.results17, go_sem, x3, zx3]
      · have HP := Lib.hid hp
        go_wp2_with fail
        go_roundw
        case rel =>
          refine ⟨k + 1, by omega, by go_num, Lib.hid fun j hj => ?_, (D3.out.far (by dsimp only; omega) _).far (by dsimp only; omega) _, ⟨by (((try go_split_ands); (try dsimp only); (repeat' apply And.intro)) <;> (repeat (first | with_reducible assumption | ((with_reducible refine cnew0 ?_); simp; done) | ((with_reducible refine cnew1 ?_); simp; done) | (with_reducible refine akeep ?_) | (with_reducible refine dkeep ?_) | ((with_reducible refine skeep ?_ ?_); rotate_left; (first | ((try dsimp only); omega) | (simp; done) | (simp; omega))) | (with_reducible refine bkeep hb3 ?_))))⟩, by simp [go_sem, zx3], ((HROW3.out.set (k * 3) _).set (k * 3 + 1) _).congr fun i _ => mvCell_step hlt i, by (repeat (first | exact Below.refl _ _ | refine Below.setCell ?_ (by first | (simp; done) | (simp; omega) | omega) _ | refine belowN ?_ _ | refine Below.drew ?_ | refine Below.alloc ?_ (by first | (simp; done) | (simp; omega) | omega) _ | refine Below.trans ?_ (Below.mono (by assumption) (by first | (simp; done) | (simp; omega) | omega))))⟩
          by_cases hjk : j < k
          · exact hall.out j hjk
          · obtain rfl : j = k := by omega
            exact HP.out
        case measure => simp [intOf]; omega
    · obtain rfl : k = P1.length := by omega
      have HM := Lib.hid (mv_0 HF.out HX.out HY.out hall.out)
      go_wp2_with fail
      refine bodyPost_ret (v := .tuple #[.agg #[.slice (some ⟨g, 0, none⟩) P1.length P1.length], .int .i64 0]) ?_ rfl ⟨mv_yes HM.out ((Within.set (w.heap.size + 1 + 1) (w.heap.size + 1 + 1 + 1) wr (a := ⟨w.heap.size + 1 + 1, 0, none⟩) (Nat.le_refl _) (Nat.lt_succ_self _) _).rowIs hrow (by omega)) m1 (by omega), by (repeat (first | exact Below.refl _ _ | refine Below.setCell ?_ (by first | (simp; done) | (simp; omega) | omega) _ | refine belowN ?_ _ | refine Below.drew ?_ | refine Below.alloc ?_ (by first | (simp; done) | (simp; omega) | omega) _ | refine Below.trans ?_ (Below.mono (by assumption) (by first | (simp; done) | (simp; omega) | omega))))⟩
      simp [results, Try.results17, go_sem, x0, hz]

end Go.Proofs.Ytaeaflbmaokieaa
