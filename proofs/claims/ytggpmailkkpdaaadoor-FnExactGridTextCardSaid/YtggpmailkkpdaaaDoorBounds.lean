/-
  The bounds of points, the model's and the program's. Conditions: each theorem's own.
-/
import Derived.Test.YtggpmailkkpdaaaDoorPts
import Derived.StillTailTactics
namespace Go.Proofs.YtggpmailkkpdaaaDoor
open Go.RowKit

/-- The least and the greatest of the first k + 1 numbers. -/
def mnF (f : Nat → Int) : Nat → Int
  | 0 => f 0
  | k + 1 => minZ (mnF f k) (f (k + 1))
def mxF (f : Nat → Int) : Nat → Int
  | 0 => f 0
  | k + 1 => maxZ (mxF f k) (f (k + 1))
theorem mnF_le (f : Nat → Int) {i k : Nat} (h : i ≤ k) : mnF f k ≤ f i := by
  induction k with
  | zero => obtain rfl : i = 0 := by omega
            exact Int.le_refl _
  | succ k ih =>
    simp only [mnF, minZ]
    by_cases hi : i ≤ k
    · have := ih hi; split <;> omega
    · obtain rfl : i = k + 1 := by omega
      split <;> omega
theorem mxF_ge (f : Nat → Int) {i k : Nat} (h : i ≤ k) : f i ≤ mxF f k := by
  induction k with
  | zero => obtain rfl : i = 0 := by omega
            exact Int.le_refl _
  | succ k ih =>
    simp only [mxF, maxZ]
    by_cases hi : i ≤ k
    · have := ih hi; split <;> omega
    · obtain rfl : i = k + 1 := by omega
      split <;> omega
theorem mnF_at (f : Nat → Int) (k : Nat) : ∃ i, i ≤ k ∧ mnF f k = f i := by
  induction k with
  | zero => exact ⟨0, Nat.le_refl _, rfl⟩
  | succ k ih =>
    obtain ⟨i, h1, h2⟩ := ih
    simp only [mnF, minZ]
    split
    · exact ⟨i, by omega, h2⟩
    · exact ⟨k + 1, Nat.le_refl _, rfl⟩
theorem mxF_at (f : Nat → Int) (k : Nat) : ∃ i, i ≤ k ∧ mxF f k = f i := by
  induction k with
  | zero => exact ⟨0, Nat.le_refl _, rfl⟩
  | succ k ih =>
    obtain ⟨i, h1, h2⟩ := ih
    simp only [mxF, maxZ]
    split
    · exact ⟨i, by omega, h2⟩
    · exact ⟨k + 1, Nat.le_refl _, rfl⟩
theorem mnF_is {f : Nat → Int} {k : Nat} {m : Int} (h1 : ∃ i, i ≤ k ∧ m = f i) (h2 : ∀ i, i ≤ k → m ≤ f i) : mnF f k = m := by
  obtain ⟨i, hi, rfl⟩ := h1
  obtain ⟨j, hj, e⟩ := mnF_at f k
  have := mnF_le f hi
  have := h2 j hj
  omega
theorem mxF_is {f : Nat → Int} {k : Nat} {m : Int} (h1 : ∃ i, i ≤ k ∧ m = f i) (h2 : ∀ i, i ≤ k → f i ≤ m) : mxF f k = m := by
  obtain ⟨i, hi, rfl⟩ := h1
  obtain ⟨j, hj, e⟩ := mxF_at f k
  have := mxF_ge f hi
  have := h2 j hj
  omega

set_option maxRecDepth 100000 in
set_option maxHeartbeats 2000000 in
set_option linter.unusedSimpArgs false in
theorem l03Bounds_any (v : Value) (D : Cols) (w : World) (hv : Qs w v D) (hn : 0 < D.n) (hn2 : D.n ≤ 1048576) :
    Calls Tryd.prog 49 #[v] w fun e w' => e = .returned (.tuple #[.agg #[.int .i64 (mnF (fun i => D.c i 0) (D.n - 1)), .int .i64 (mnF (fun i => D.c i 1) (D.n - 1))], .agg #[.int .i64 (mxF (fun i => D.c i 0) (D.n - 1)), .int .i64 (mxF (fun i => D.c i 1) (D.n - 1))]]) ∧ Below w.heap.size w w' := by
  obtain ⟨ao, cap, rfl, hl, hm, hc⟩ := hv
  unfold maxLen at hm
  obtain ⟨b, off, rfl, H1⟩ := hc hn
  have H0 := Lib.hid H1
  have c0 := H1 0 0 hn (by omega)
  have c1 := H1 0 1 hn (by omega)
  simp at c0 c1
  have hbl : b < w.heap.size := World.block_lt_of_cell? w _ c0
  have d0 : (((w.alloc (.cells #[.int .i64 0, .int .i64 0] 87)).alloc (.cells #[.int .i64 0, .int .i64 0] 87)).alloc (.cells #[.int .i64 (D.c 0 0), .int .i64 (D.c 0 1)] 87)).cell? ⟨b, off, none⟩ = some (.int .i64 (D.c 0 0)) := akeep (akeep (akeep c0))
  have d1 : (((w.alloc (.cells #[.int .i64 0, .int .i64 0] 87)).alloc (.cells #[.int .i64 0, .int .i64 0] 87)).alloc (.cells #[.int .i64 (D.c 0 0), .int .i64 (D.c 0 1)] 87)).cell? ⟨b, off + 1, none⟩ = some (.int .i64 (D.c 0 1)) := akeep (akeep (akeep c1))
  clear hc H1
  go_enter Tryd.func49, Tryd.ntmps49
  go_wp2_with fail
  go_loopw [6] (fun i wr => ∃ k j : Nat, Hid (k = j + 1) ∧ k ≤ D.n ∧ i = .int .i64 (k : Int) ∧ Two wr w.heap.size (.int .i64 0) (.int .i64 0) ∧ Two wr (w.heap.size + 1) (.int .i64 0) (.int .i64 0) ∧
    Two wr (w.heap.size + 1 + 1) (.int .i64 (mnF (fun i => D.c i 0) j)) (.int .i64 (mnF (fun i => D.c i 1) j)) ∧ Two wr (w.heap.size + 1 + 1 + 1) (.int .i64 (mxF (fun i => D.c i 0) j)) (.int .i64 (mxF (fun i => D.c i 1) j)) ∧ Below w.heap.size w wr) (fun i _ => D.n - (intOf i).toNat)
  case atStart =>
    have T0 : Two ((((w.alloc (.cells #[.int .i64 0, .int .i64 0] 87)).alloc (.cells #[.int .i64 0, .int .i64 0] 87)).alloc (.cells #[.int .i64 (D.c 0 0), .int .i64 (D.c 0 1)] 87)).alloc (.cells #[.int .i64 (D.c 0 0), .int .i64 (D.c 0 1)] 87)) w.heap.size (.int .i64 0) (.int .i64 0) := (((Two.new w _ _ _ rfl).alloc _).alloc _).alloc _
    have T1 : Two ((((w.alloc (.cells #[.int .i64 0, .int .i64 0] 87)).alloc (.cells #[.int .i64 0, .int .i64 0] 87)).alloc (.cells #[.int .i64 (D.c 0 0), .int .i64 (D.c 0 1)] 87)).alloc (.cells #[.int .i64 (D.c 0 0), .int .i64 (D.c 0 1)] 87)) (w.heap.size + 1) (.int .i64 0) (.int .i64 0) := ((Two.new (n := w.heap.size + 1) (w.alloc _) _ _ _ (by simp)).alloc _).alloc _
    have T2 : Two ((((w.alloc (.cells #[.int .i64 0, .int .i64 0] 87)).alloc (.cells #[.int .i64 0, .int .i64 0] 87)).alloc (.cells #[.int .i64 (D.c 0 0), .int .i64 (D.c 0 1)] 87)).alloc (.cells #[.int .i64 (D.c 0 0), .int .i64 (D.c 0 1)] 87)) (w.heap.size + 1 + 1) (.int .i64 (D.c 0 0)) (.int .i64 (D.c 0 1)) := (Two.new (n := w.heap.size + 1 + 1) ((w.alloc _).alloc _) _ _ _ (by simp)).alloc _
    have T3 : Two ((((w.alloc (.cells #[.int .i64 0, .int .i64 0] 87)).alloc (.cells #[.int .i64 0, .int .i64 0] 87)).alloc (.cells #[.int .i64 (D.c 0 0), .int .i64 (D.c 0 1)] 87)).alloc (.cells #[.int .i64 (D.c 0 0), .int .i64 (D.c 0 1)] 87)) (w.heap.size + 1 + 1 + 1) (.int .i64 (D.c 0 0)) (.int .i64 (D.c 0 1)) := Two.new (n := w.heap.size + 1 + 1 + 1) (((w.alloc _).alloc _).alloc _) _ _ _ (by simp)
    exact ⟨1, 0, Lib.hid rfl, by omega, rfl, T0, T1, T2, T3, by (repeat (first | exact Below.refl _ _ | refine Below.setCell ?_ (by first | (simp; done) | (simp; omega) | omega) _ | refine belowN ?_ _ | refine Below.drew ?_ | refine Below.alloc ?_ (by first | (simp; done) | (simp; omega) | omega) _ | refine Below.trans ?_ (Below.mono (by assumption) (by first | (simp; done) | (simp; omega) | omega))))⟩
  case round =>
    clear d0 d1 c0 c1
    obtain ⟨k, j, hkj, hk, rfl, t0, t1, t2, t3, hbw⟩ := hrel
    have HT0 := Lib.hid t0
    have HT1 := Lib.hid t1
    have HT2 := Lib.hid t2
    have HT3 := Lib.hid t3
    obtain ⟨l0, l1, zl0, zl1⟩ := t2
    obtain ⟨g0, g1, zg0, zg1⟩ := t3
    have l3 := HT3.out.lt
    by_cases hlt : k < D.n
    · have c0 := cell_below hbw (H0.out k 0 hlt (by omega))
      have c1 := cell_below hbw (H0.out k 1 hlt (by omega))
      rw [Nat.add_zero] at c0
      have hkk : (k : Int) < D.n := by omega
      have hk0 : (0 : Int) ≤ k := by omega
      have hbl' : b < wr.heap.size := World.block_lt_of_cell? wr _ c0
      clear t0 t1
      go_wp2_with fail
      refine wp_region_still_tail 17 (by kernel_rfl) (by kernel_rfl) ?_
      simp only [List.take_succ_cons, List.take_zero, List.drop_succ_cons, List.drop_zero]
      repeat (first | still_step | still_call ((l00Min_any _ _ _).mono fun _ _ h => ⟨h.1, h.2.symm⟩))
      refine wpStill_nil ?_
      change wpList _ _ _ _ _ wr.drew
      go_wp2_with fail
      have T0 := Lib.hid (show Two (((wr.setCell ⟨w.heap.size + 1 + 1, 0, none⟩ (.int .i64 (minZ (mnF (fun i => D.c i 0) j) (D.c k 0)))).setCell ⟨w.heap.size + 1 + 1, 1, none⟩ (.int .i64 (minZ (mnF (fun i => D.c i 1) j) (D.c k 1)))).drew) w.heap.size (.int .i64 0) (.int .i64 0) from ((HT0.out.far (by dsimp only; omega) _).far (by dsimp only; omega) _).drew)
      have T1 := Lib.hid (show Two (((wr.setCell ⟨w.heap.size + 1 + 1, 0, none⟩ (.int .i64 (minZ (mnF (fun i => D.c i 0) j) (D.c k 0)))).setCell ⟨w.heap.size + 1 + 1, 1, none⟩ (.int .i64 (minZ (mnF (fun i => D.c i 1) j) (D.c k 1)))).drew) (w.heap.size + 1) (.int .i64 0) (.int .i64 0) from ((HT1.out.far (by dsimp only; omega) _).far (by dsimp only; omega) _).drew)
      have T2 := Lib.hid (show Two (((wr.setCell ⟨w.heap.size + 1 + 1, 0, none⟩ (.int .i64 (minZ (mnF (fun i => D.c i 0) j) (D.c k 0)))).setCell ⟨w.heap.size + 1 + 1, 1, none⟩ (.int .i64 (minZ (mnF (fun i => D.c i 1) j) (D.c k 1)))).drew) (w.heap.size + 1 + 1) (.int .i64 (minZ (mnF (fun i => D.c i 0) j) (D.c k 0))) (.int .i64 (minZ (mnF (fun i => D.c i 1) j) (D.c k 1))) from (Two.set_ HT2.out _ _).drew)
      have T3 := Lib.hid (show Two (((wr.setCell ⟨w.heap.size + 1 + 1, 0, none⟩ (.int .i64 (minZ (mnF (fun i => D.c i 0) j) (D.c k 0)))).setCell ⟨w.heap.size + 1 + 1, 1, none⟩ (.int .i64 (minZ (mnF (fun i => D.c i 1) j) (D.c k 1)))).drew) (w.heap.size + 1 + 1 + 1) (.int .i64 (mxF (fun i => D.c i 0) j)) (.int .i64 (mxF (fun i => D.c i 1) j)) from ((HT3.out.far (by dsimp only; omega) _).far (by dsimp only; omega) _).drew)
      have B6 : Below w.heap.size w (((wr.setCell ⟨w.heap.size + 1 + 1, 0, none⟩ (.int .i64 (minZ (mnF (fun i => D.c i 0) j) (D.c k 0)))).setCell ⟨w.heap.size + 1 + 1, 1, none⟩ (.int .i64 (minZ (mnF (fun i => D.c i 1) j) (D.c k 1)))).drew) := by (repeat (first | exact Below.refl _ _ | refine Below.setCell ?_ (by first | (simp; done) | (simp; omega) | omega) _ | refine belowN ?_ _ | refine Below.drew ?_ | refine Below.alloc ?_ (by first | (simp; done) | (simp; omega) | omega) _ | refine Below.trans ?_ (Below.mono (by assumption) (by first | (simp; done) | (simp; omega) | omega))))
      generalize (((wr.setCell ⟨w.heap.size + 1 + 1, 0, none⟩ (.int .i64 (minZ (mnF (fun i => D.c i 0) j) (D.c k 0)))).setCell ⟨w.heap.size + 1 + 1, 1, none⟩ (.int .i64 (minZ (mnF (fun i => D.c i 1) j) (D.c k 1)))).drew) = w6 at *
      have c0 := cell_below B6 (H0.out k 0 hlt (by omega))
      have c1 := cell_below B6 (H0.out k 1 hlt (by omega))
      rw [Nat.add_zero] at c0
      clear l0 l1 zl0 zl1 g0 g1 zg0 zg1 HT0 HT1 HT2 HT3 hbl' hbw l3
      obtain ⟨g0, g1, zg0, zg1⟩ := T3.out
      go_wp2_with fail
      refine wp_region_still_tail 17 (by kernel_rfl) (by kernel_rfl) ?_
      simp only [List.take_succ_cons, List.take_zero, List.drop_succ_cons, List.drop_zero]
      repeat (first | still_step | still_call ((l00Max_any _ _ _).mono fun _ _ h => ⟨h.1, h.2.symm⟩))
      refine wpStill_nil ?_
      change wpList _ _ _ _ _ w6.drew
      go_wp2_with fail
      go_roundw
      case rel =>
        have l3 := T3.out.lt
        refine ⟨k + 1, k, Lib.hid rfl, by omega, by go_num, ((T0.out.far (by dsimp only; omega) _).far (by dsimp only; omega) _).drew, ((T1.out.far (by dsimp only; omega) _).far (by dsimp only; omega) _).drew, ?_, ?_, by (repeat (first | exact Below.refl _ _ | refine Below.setCell ?_ (by first | (simp; done) | (simp; omega) | omega) _ | refine belowN ?_ _ | refine Below.drew ?_ | refine Below.alloc ?_ (by first | (simp; done) | (simp; omega) | omega) _ | refine Below.trans ?_ (Below.mono (by assumption) (by first | (simp; done) | (simp; omega) | omega))))⟩
        · have e : k = j + 1 := hkj.out
          subst e
          exact ((T2.out.far (by dsimp only; omega) _).far (by dsimp only; omega) _).drew
        · have e : k = j + 1 := hkj.out
          subst e
          exact (Two.set_ T3.out _ _).drew
      case measure => simp [intOf]; omega
    · obtain rfl : k = D.n := by omega
      have hj : j = D.n - 1 := by have := hkj.out; omega
      subst hj
      obtain ⟨x0, x1, zx0, zx1⟩ := t0
      obtain ⟨y0, y1, zy0, zy1⟩ := t1
      go_wp2_with fail
      refine wp_region_held_drew (S := (fun w' => w'.cell? ⟨w.heap.size + 1 + 1, 0, none⟩ = some (.int .i64 (mnF (fun i => D.c i 0) (D.n - 1))) ∧ w'.cell? ⟨w.heap.size + 1 + 1, 1, none⟩ = some (.int .i64 (mnF (fun i => D.c i 1) (D.n - 1))) ∧ w'.cell? ⟨w.heap.size + 1 + 1 + 1, 0, none⟩ = some (.int .i64 (mxF (fun i => D.c i 0) (D.n - 1))) ∧ w'.cell? ⟨w.heap.size + 1 + 1 + 1, 1, none⟩ = some (.int .i64 (mxF (fun i => D.c i 1) (D.n - 1)))) ) (by kernel_rfl) ?_ (fun hHeld => ?_)
      · (try dsimp only)
        (((try go_split_ands); (try dsimp only); (repeat' apply And.intro)) <;> (repeat (first | with_reducible assumption | ((with_reducible refine cnew0 ?_); simp; done) | ((with_reducible refine cnew1 ?_); simp; done) | (with_reducible refine akeep ?_) | (with_reducible refine dkeep ?_) | ((with_reducible refine skeep ?_ ?_); rotate_left; (first | ((try dsimp only); omega) | (simp; done) | (simp; omega))) | (with_reducible refine bkeep hb3 ?_))))
      refine wpAnyH_take (i := 0) (oi := ⟨_, _, _, _, _, _⟩) (v := ?_) rfl (by kernel_rfl) (by kernel_rfl) (by kernel_rfl) (fun _ _ _ h => h) (Or.inl ⟨by rfl, ?_⟩) (by assumption) ?_
      rotate_left
      · (intro w hSw; (try dsimp only at hSw); go_simp; (try with_reducible rfl))
      (try simp only [Act.put, List.setIfInBounds_toArray, List.set_cons_zero, List.set_cons_succ])
      refine wpAnyH_take (i := 1) (oi := ⟨_, _, _, _, _, _⟩) (v := ?_) rfl (by kernel_rfl) (by kernel_rfl) (by kernel_rfl) (fun _ _ _ h => h) (Or.inl ⟨by rfl, ?_⟩) (by assumption) ?_
      rotate_left
      · (intro w hSw; (try dsimp only at hSw); go_simp; (try with_reducible rfl))
      (try simp only [Act.put, List.setIfInBounds_toArray, List.set_cons_zero, List.set_cons_succ])
      refine wpAnyH_ready (rs := [2]) (by kernel_rfl) (by simp) ?_
      refine AllReadyH.cons (o := ⟨_, _, _, _, _, _⟩) rfl (fun K hK => ?_) AllReadyH.nil
      go_simp
      refine hK.out _ _ ?_ (fun hHeld => ?_)
      · (try dsimp only)
        (((try go_split_ands); (try dsimp only); (repeat' apply And.intro)) <;> (repeat (first | with_reducible assumption | ((with_reducible refine cnew0 ?_); simp; done) | ((with_reducible refine cnew1 ?_); simp; done) | (with_reducible refine akeep ?_) | (with_reducible refine dkeep ?_) | ((with_reducible refine skeep ?_ ?_); rotate_left; (first | ((try dsimp only); omega) | (simp; done) | (simp; omega))) | (with_reducible refine bkeep hb3 ?_))))
      clear hK K
      (try simp only [Act.put, List.setIfInBounds_toArray, List.set_cons_zero, List.set_cons_succ])
      refine wpAnyH_ready (rs := [3]) (by kernel_rfl) (by simp) ?_
      refine AllReadyH.cons (o := ⟨_, _, _, _, _, _⟩) rfl (fun K hK => ?_) AllReadyH.nil
      go_simp
      refine hK.out _ _ ?_ (fun hHeld => ?_)
      · (try dsimp only)
        (((try go_split_ands); (try dsimp only); (repeat' apply And.intro)) <;> (repeat (first | with_reducible assumption | ((with_reducible refine cnew0 ?_); simp; done) | ((with_reducible refine cnew1 ?_); simp; done) | (with_reducible refine akeep ?_) | (with_reducible refine dkeep ?_) | ((with_reducible refine skeep ?_ ?_); rotate_left; (first | ((try dsimp only); omega) | (simp; done) | (simp; omega))) | (with_reducible refine bkeep hb3 ?_))))
      clear hK K
      (try simp only [Act.put, List.setIfInBounds_toArray, List.set_cons_zero, List.set_cons_succ])
      refine wpAnyH_done (by kernel_rfl) ?_ _
      go_wp2_with fail
      refine bodyPost_ret (v := .tuple #[.agg #[.int .i64 (mnF (fun i => D.c i 0) (D.n - 1)), .int .i64 (mnF (fun i => D.c i 1) (D.n - 1))], .agg #[.int .i64 (mxF (fun i => D.c i 0) (D.n - 1)), .int .i64 (mxF (fun i => D.c i 1) (D.n - 1))]]) ?_ rfl ⟨rfl, by (repeat (first | exact Below.refl _ _ | refine Below.setCell ?_ (by first | (simp; done) | (simp; omega) | omega) _ | refine belowN ?_ _ | refine Below.drew ?_ | refine Below.alloc ?_ (by first | (simp; done) | (simp; omega) | omega) _ | refine Below.trans ?_ (Below.mono (by assumption) (by first | (simp; done) | (simp; omega) | omega))))⟩
      simp [results, Tryd.results49, go_sem, x0, x1, y0, y1]

noncomputable def boC (ps : List Pl) : Int := if formB ps = true then (if ps.length = 0 then 3 else 0) else 1
noncomputable def boV (ps : List Pl) (v : Int) : Int := if boC ps = 0 then v else 0
noncomputable def boW (ps : List Pl) : Int := boV ps (mnF (pX ps) (ps.length - 1))
noncomputable def boS (ps : List Pl) : Int := boV ps (mnF (pY ps) (ps.length - 1))
noncomputable def boE (ps : List Pl) : Int := boV ps (mxF (pX ps) (ps.length - 1))
noncomputable def boN (ps : List Pl) : Int := boV ps (mxF (pY ps) (ps.length - 1))
/-- What BoundsOf returns. -/
noncomputable def boR (ps : List Pl) : Value := .tuple #[.agg #[.int .i64 (boW ps), .int .i64 (boS ps)], .agg #[.int .i64 (boE ps), .int .i64 (boN ps)], .int .i64 (boC ps)]
theorem boR_1 {ps : List Pl} (h : formB ps = false) : boR ps = .tuple #[.agg #[.int .i64 0, .int .i64 0], .agg #[.int .i64 0, .int .i64 0], .int .i64 1] := by simp [boR, boW, boS, boE, boN, boV, boC, h]
theorem boR_3 {ps : List Pl} (h : formB ps = true) (h0 : ps.length = 0) : boR ps = .tuple #[.agg #[.int .i64 0, .int .i64 0], .agg #[.int .i64 0, .int .i64 0], .int .i64 3] := by simp [boR, boW, boS, boE, boN, boV, boC, h, h0]
theorem boR_0 {ps : List Pl} (h : formB ps = true) (h0 : ps.length ≠ 0) : boR ps = .tuple #[.agg #[.int .i64 (mnF (pX ps) (ps.length - 1)), .int .i64 (mnF (pY ps) (ps.length - 1))], .agg #[.int .i64 (mxF (pX ps) (ps.length - 1)), .int .i64 (mxF (pY ps) (ps.length - 1))], .int .i64 0] := by
  have e : boC ps = 0 := by unfold boC; rw [if_pos h, if_neg h0]
  simp [boR, boW, boS, boE, boN, boV, e]

/-- The box of an assembly and two of points. -/
theorem boxes_b (w : World) (v : Value) (t1 t2 : TypeId) : At1 (((w.alloc (.cells #[v] t1)).alloc (.cells #[.int .i64 0, .int .i64 0] t2)).alloc (.cells #[.int .i64 0, .int .i64 0] t2)) w.heap.size v ∧
    Two (((w.alloc (.cells #[v] t1)).alloc (.cells #[.int .i64 0, .int .i64 0] t2)).alloc (.cells #[.int .i64 0, .int .i64 0] t2)) (w.heap.size + 1) (.int .i64 0) (.int .i64 0) ∧
    Two (((w.alloc (.cells #[v] t1)).alloc (.cells #[.int .i64 0, .int .i64 0] t2)).alloc (.cells #[.int .i64 0, .int .i64 0] t2)) (w.heap.size + 1 + 1) (.int .i64 0) (.int .i64 0) :=
  ⟨((At1.new w v t1).below (by (repeat (first | exact Below.refl _ _ | refine Below.setCell ?_ (by first | (simp; done) | (simp; omega) | omega) _ | refine belowN ?_ _ | refine Below.drew ?_ | refine Below.alloc ?_ (by first | (simp; done) | (simp; omega) | omega) _ | refine Below.trans ?_ (Below.mono (by assumption) (by first | (simp; done) | (simp; omega) | omega)))))).below (by (repeat (first | exact Below.refl _ _ | refine Below.setCell ?_ (by first | (simp; done) | (simp; omega) | omega) _ | refine belowN ?_ _ | refine Below.drew ?_ | refine Below.alloc ?_ (by first | (simp; done) | (simp; omega) | omega) _ | refine Below.trans ?_ (Below.mono (by assumption) (by first | (simp; done) | (simp; omega) | omega))))), (Two.new (n := w.heap.size + 1) _ _ _ _ (by simp)).alloc _, Two.new (n := w.heap.size + 1 + 1) _ _ _ _ (by simp)⟩

theorem Two.set0 {w : World} {b : Nat} {x y : Value} (h : Two w b x y) (u : Value) : Two (w.setCell ⟨b, 0, none⟩ u) b u y := by
  have h0 := h.c0
  have h1 := h.c1
  have h2 := h.z0
  have h3 := h.z1
  refine ⟨?_, ?_, ?_, ?_⟩ <;> simp [go_sem, h0, h1, h2, h3]
/-- One step towards the least number, one towards the greatest. -/
theorem low_step {f : Nat → Int} {n k : Nat} {lx : Int} (hk : k < n) (h : (∃ i, i ≤ n - 1 ∧ lx = f i) ∧ (∀ j, j < k → lx ≤ f j)) :
    (∃ i, i ≤ n - 1 ∧ (if f k < lx then f k else lx) = f i) ∧ (∀ j, j < k + 1 → (if f k < lx then f k else lx) ≤ f j) := by
  obtain ⟨⟨i, hi, he⟩, h2⟩ := h
  refine ⟨?_, fun j hj => ?_⟩
  · split
    · exact ⟨k, by omega, rfl⟩
    · exact ⟨i, hi, he⟩
  · by_cases hjk : j < k
    · have := h2 j hjk; split <;> omega
    · obtain rfl : j = k := by omega
      split <;> omega
theorem high_step {f : Nat → Int} {n k : Nat} {hx : Int} (hk : k < n) (h : (∃ i, i ≤ n - 1 ∧ hx = f i) ∧ (∀ j, j < k → f j ≤ hx)) :
    (∃ i, i ≤ n - 1 ∧ (if hx < f k then f k else hx) = f i) ∧ (∀ j, j < k + 1 → f j ≤ (if hx < f k then f k else hx)) := by
  obtain ⟨⟨i, hi, he⟩, h2⟩ := h
  refine ⟨?_, fun j hj => ?_⟩
  · split
    · exact ⟨k, by omega, rfl⟩
    · exact ⟨i, hi, he⟩
  · by_cases hjk : j < k
    · have := h2 j hjk; split <;> omega
    · obtain rfl : j = k := by omega
      split <;> omega
/-- Both orders of two new boxes have one tail. -/
theorem ot_boxes2 (F : World → Nat → Nat → Prop) {G : World → Nat → Nat → Prop} {Goal : Prop} (h : (∀ W a b, F W a b → ∀ W' a' b', W = W' → a = a' → b = b' → G W' a' b') → Goal) (k : ∀ W a b, F W a b → G W a b) : Goal :=
  h fun W a b hF W' a' b' e1 e2 e3 => by subst e1; subst e2; subst e3; exact k W a b hF
/-- The four bounds as a call returns them. -/
def bndV (D : Cols) : Value := .tuple #[.agg #[.int .i64 (mnF (fun i => D.c i 0) (D.n - 1)), .int .i64 (mnF (fun i => D.c i 1) (D.n - 1))], .agg #[.int .i64 (mxF (fun i => D.c i 0) (D.n - 1)), .int .i64 (mxF (fun i => D.c i 1) (D.n - 1))]]

set_option maxRecDepth 100000 in
set_option maxHeartbeats 2000000 in
set_option linter.unusedSimpArgs false in
theorem pointBounds_any (v : Value) (D : Cols) (w : World) (hv : Qs w v D) (hn : 0 < D.n) :
    Calls Tryd.prog 53 #[v] w fun e w' => e = .returned (bndV D) ∧ Below w.heap.size w w' := by
  obtain ⟨ao, cap, rfl, hl, hm, hc⟩ := hv
  unfold maxLen at hm
  obtain ⟨b, off, rfl, H1⟩ := hc hn
  have H0 := Lib.hid H1
  have c0 := H1 0 0 hn (by omega)
  have c1 := H1 0 1 hn (by omega)
  simp at c0 c1
  have hn0 : (0 : Int) < D.n := by omega
  have R1 := Lib.hid ((Two.new w (.int .i64 0) (.int .i64 0) 87 rfl).alloc (.cells #[.int .i64 0, .int .i64 0] 87))
  have S1 := Lib.hid (Two.new (n := w.heap.size + 1) (w.alloc (.cells #[.int .i64 0, .int .i64 0] 87)) (.int .i64 0) (.int .i64 0) 87 (by simp))
  clear hc H1
  go_enter Tryd.func53, Tryd.ntmps53
  go_wp2_with fail
  have B1 : Below w.heap.size w ((w.alloc (.cells #[.int .i64 0, .int .i64 0] 87)).alloc (.cells #[.int .i64 0, .int .i64 0] 87)) := by (repeat (first | exact Below.refl _ _ | refine Below.setCell ?_ (by first | (simp; done) | (simp; omega) | omega) _ | refine belowN ?_ _ | refine Below.drew ?_ | refine Below.alloc ?_ (by first | (simp; done) | (simp; omega) | omega) _ | refine Below.trans ?_ (Below.mono (by assumption) (by first | (simp; done) | (simp; omega) | omega))))
  have c0 := cell_below B1 c0
  have c1 := cell_below B1 c1
  have s1 : w.heap.size + 1 < ((w.alloc (.cells #[.int .i64 0, .int .i64 0] 87)).alloc (.cells #[.int .i64 0, .int .i64 0] 87)).heap.size := by simp
  generalize ((w.alloc (.cells #[.int .i64 0, .int .i64 0] 87)).alloc (.cells #[.int .i64 0, .int .i64 0] 87)) = w1 at *
  apply ot_boxes2 (fun W lb gb => Two W lb (.int .i64 (D.c 0 0)) (.int .i64 (D.c 0 1)) ∧ Two W gb (.int .i64 (D.c 0 0)) (.int .i64 (D.c 0 1)) ∧ Two W w.heap.size (.int .i64 0) (.int .i64 0) ∧ Two W (w.heap.size + 1) (.int .i64 0) (.int .i64 0) ∧ Below w.heap.size w W ∧ w.heap.size + 1 < lb ∧ w.heap.size + 1 < gb ∧ lb ≠ gb)
  focus
    intro key
    have R4 := ((R1.out.alloc (.cells #[.int .i64 (D.c 0 0), .int .i64 (D.c 0 1)] 87)).alloc (.cells #[.int .i64 (D.c 0 0), .int .i64 (D.c 0 1)] 87)).drew
    have S4 := ((S1.out.alloc (.cells #[.int .i64 (D.c 0 0), .int .i64 (D.c 0 1)] 87)).alloc (.cells #[.int .i64 (D.c 0 0), .int .i64 (D.c 0 1)] 87)).drew
    have L4 := ((Two.new w1 (.int .i64 (D.c 0 0)) (.int .i64 (D.c 0 1)) 87 rfl).alloc (.cells #[.int .i64 (D.c 0 0), .int .i64 (D.c 0 1)] 87)).drew
    have G4 := (Two.new (n := w1.heap.size + 1) (w1.alloc (.cells #[.int .i64 (D.c 0 0), .int .i64 (D.c 0 1)] 87)) (.int .i64 (D.c 0 0)) (.int .i64 (D.c 0 1)) 87 (by simp)).drew
    have B4 : Below w.heap.size w (((w1.alloc (.cells #[.int .i64 (D.c 0 0), .int .i64 (D.c 0 1)] 87)).alloc (.cells #[.int .i64 (D.c 0 0), .int .i64 (D.c 0 1)] 87)).drew) := by (repeat (first | exact Below.refl _ _ | refine Below.setCell ?_ (by first | (simp; done) | (simp; omega) | omega) _ | refine belowN ?_ _ | refine Below.drew ?_ | refine Below.alloc ?_ (by first | (simp; done) | (simp; omega) | omega) _ | refine Below.trans ?_ (Below.mono (by assumption) (by first | (simp; done) | (simp; omega) | omega))))
    have hA : w.heap.size + 1 < w1.heap.size := by omega
    have hB : w.heap.size + 1 < w1.heap.size + 1 := by omega
    have hne : w1.heap.size ≠ w1.heap.size + 1 := by omega
    go_region_held3 (fun w' => w'.cell? ⟨b, off, none⟩ = some (.int .i64 (D.c 0 0)) ∧ w'.cell? ⟨b, off + 1, none⟩ = some (.int .i64 (D.c 0 1))) ((((try go_split_ands); (try dsimp only); (repeat' apply And.intro)) <;> (repeat (first | with_reducible assumption | ((with_reducible refine cnew0 ?_); simp; done) | ((with_reducible refine cnew1 ?_); simp; done) | (with_reducible refine akeep ?_) | (with_reducible refine dkeep ?_) | ((with_reducible refine skeep ?_ ?_); rotate_left; (first | ((try dsimp only); omega) | (simp; done) | (simp; omega))) | (with_reducible refine bkeep hb3 ?_))))) (fail)
    · generalize hW : (((w1.alloc (.cells #[.int .i64 (D.c 0 0), .int .i64 (D.c 0 1)] 87)).alloc (.cells #[.int .i64 (D.c 0 0), .int .i64 (D.c 0 1)] 87)).drew) = w4
      generalize hb : w1.heap.size + 1 = gb
      generalize ha : w1.heap.size = la
      exact key _ _ _ ⟨L4, G4, R4, S4, B4, hA, hB, hne⟩ w4 la gb hW ha hb
    · generalize hW : (((w1.alloc (.cells #[.int .i64 (D.c 0 0), .int .i64 (D.c 0 1)] 87)).alloc (.cells #[.int .i64 (D.c 0 0), .int .i64 (D.c 0 1)] 87)).drew) = w4
      generalize hb : w1.heap.size + 1 = gb
      generalize ha : w1.heap.size = la
      exact key _ _ _ ⟨G4, L4, R4, S4, B4, hB, hA, hne.symm⟩ w4 gb la hW hb ha
  clear c0 c1 R1 S1 B1 s1
  rintro w4 lb gb ⟨L4, G4, R4, S4, B4, hA, hB, hne⟩
  clear w1
  go_wp2_with fail
  go_loopw [16] (fun i wr => ∃ (k : Nat) (lx ly hx hy : Int), k ≤ D.n ∧ i = .int .i64 (k : Int) ∧ Hid ((∃ i, i ≤ D.n - 1 ∧ lx = D.c i 0) ∧ (∀ j, j < k → lx ≤ D.c j 0)) ∧ Hid ((∃ i, i ≤ D.n - 1 ∧ ly = D.c i 1) ∧ (∀ j, j < k → ly ≤ D.c j 1)) ∧ Hid ((∃ i, i ≤ D.n - 1 ∧ hx = D.c i 0) ∧ (∀ j, j < k → D.c j 0 ≤ hx)) ∧ Hid ((∃ i, i ≤ D.n - 1 ∧ hy = D.c i 1) ∧ (∀ j, j < k → D.c j 1 ≤ hy)) ∧
    Two wr lb (.int .i64 lx) (.int .i64 ly) ∧ Two wr gb (.int .i64 hx) (.int .i64 hy) ∧ Two wr w.heap.size (.int .i64 0) (.int .i64 0) ∧ Two wr (w.heap.size + 1) (.int .i64 0) (.int .i64 0) ∧ Below w.heap.size w wr) (fun i _ => D.n - (intOf i).toNat)
  case atStart => exact ⟨0, _, _, _, _, by omega, rfl, Lib.hid ⟨⟨0, by omega, rfl⟩, fun j hj => by omega⟩, Lib.hid ⟨⟨0, by omega, rfl⟩, fun j hj => by omega⟩, Lib.hid ⟨⟨0, by omega, rfl⟩, fun j hj => by omega⟩, Lib.hid ⟨⟨0, by omega, rfl⟩, fun j hj => by omega⟩, L4, G4, R4, S4, B4⟩
  case round =>
    clear L4 G4 R4 S4 B4
    obtain ⟨k, lx, ly, hx, hy, hk, rfl, hlx, hly, hhx, hhy, tl, tg, tr, ts, hbw⟩ := hrel
    have sw := hbw.size
    have HTL := Lib.hid tl
    have HTG := Lib.hid tg
    have HTR := Lib.hid tr
    have HTS := Lib.hid ts
    have ll := tl.lt
    have lg := tg.lt
    by_cases hlt : k < D.n
    · have c0 := cell_below hbw (H0.out k 0 hlt (by omega))
      have c1 := cell_below hbw (H0.out k 1 hlt (by omega))
      rw [Nat.add_zero] at c0
      obtain ⟨l0, l1, zl0, zl1⟩ := tl
      obtain ⟨g0, g1, zg0, zg1⟩ := tg
      clear tr ts
      go_wp2_with fail
      go_roundw
      case rel =>
        refine ⟨k + 1, _, _, _, _, by omega, by go_num, Lib.hid (low_step (f := fun i => D.c i 0) hlt hlx.out), Lib.hid (low_step (f := fun i => D.c i 1) hlt hly.out), Lib.hid (high_step (f := fun i => D.c i 0) hlt hhx.out), Lib.hid (high_step (f := fun i => D.c i 1) hlt hhy.out),
          ?_, ?_, ?_, ?_, by (repeat (first | exact Below.refl _ _ | refine Below.setCell ?_ (by first | (simp; done) | (simp; omega) | omega) _ | refine belowN ?_ _ | refine Below.drew ?_ | refine Below.alloc ?_ (by first | (simp; done) | (simp; omega) | omega) _ | refine Below.trans ?_ (Below.mono (by assumption) (by first | (simp; done) | (simp; omega) | omega))))⟩
        · exact (((Two.set_ HTL.out _ _).far (by dsimp only; omega) _).far (by dsimp only; omega) _).alloc _
        · exact (Two.set_ ((HTG.out.far (by dsimp only; omega) _).far (by dsimp only; omega) _) _ _).alloc _
        · exact ((((HTR.out.far (by dsimp only; omega) _).far (by dsimp only; omega) _).far (by dsimp only; omega) _).far (by dsimp only; omega) _).alloc _
        · exact ((((HTS.out.far (by dsimp only; omega) _).far (by dsimp only; omega) _).far (by dsimp only; omega) _).far (by dsimp only; omega) _).alloc _
      case measure => simp [intOf]; omega
    · obtain rfl : k = D.n := by omega
      have ex := Lib.hid (show mnF (fun i => D.c i 0) (D.n - 1) = lx from mnF_is hlx.out.1 fun i hi => hlx.out.2 i (by omega))
      have ey := Lib.hid (show mnF (fun i => D.c i 1) (D.n - 1) = ly from mnF_is hly.out.1 fun i hi => hly.out.2 i (by omega))
      have eX := Lib.hid (show mxF (fun i => D.c i 0) (D.n - 1) = hx from mxF_is hhx.out.1 fun i hi => hhx.out.2 i (by omega))
      have eY := Lib.hid (show mxF (fun i => D.c i 1) (D.n - 1) = hy from mxF_is hhy.out.1 fun i hi => hhy.out.2 i (by omega))
      obtain ⟨l0, l1, zl0, zl1⟩ := tl
      obtain ⟨g0, g1, zg0, zg1⟩ := tg
      obtain ⟨x0, x1, zx0, zx1⟩ := tr
      obtain ⟨y0, y1, zy0, zy1⟩ := ts
      go_wp2_with fail
      refine wp_region_held_drew (S := (fun w' => w'.cell? ⟨lb, 0, none⟩ = some (.int .i64 lx) ∧ w'.cell? ⟨lb, 1, none⟩ = some (.int .i64 ly) ∧ w'.cell? ⟨gb, 0, none⟩ = some (.int .i64 hx) ∧ w'.cell? ⟨gb, 1, none⟩ = some (.int .i64 hy))) (by kernel_rfl) ?_ (fun hHeld => ?_)
      · (try dsimp only)
        (((try go_split_ands); (try dsimp only); (repeat' apply And.intro)) <;> (repeat (first | with_reducible assumption | ((with_reducible refine cnew0 ?_); simp; done) | ((with_reducible refine cnew1 ?_); simp; done) | (with_reducible refine akeep ?_) | (with_reducible refine dkeep ?_) | ((with_reducible refine skeep ?_ ?_); rotate_left; (first | ((try dsimp only); omega) | (simp; done) | (simp; omega))) | (with_reducible refine bkeep hb3 ?_))))
      refine wpAnyH_take (i := 0) (oi := ⟨_, _, _, _, _, _⟩) (v := ?_) rfl (by kernel_rfl) (by kernel_rfl) (by kernel_rfl) (fun _ _ _ h => h) (Or.inl ⟨by rfl, ?_⟩) (by assumption) ?_
      rotate_left
      · (intro w hSw; (try dsimp only at hSw); go_simp; (try with_reducible rfl))
      (try simp only [Act.put, List.setIfInBounds_toArray, List.set_cons_zero, List.set_cons_succ])
      refine wpAnyH_take (i := 1) (oi := ⟨_, _, _, _, _, _⟩) (v := ?_) rfl (by kernel_rfl) (by kernel_rfl) (by kernel_rfl) (fun _ _ _ h => h) (Or.inl ⟨by rfl, ?_⟩) (by assumption) ?_
      rotate_left
      · (intro w hSw; (try dsimp only at hSw); go_simp; (try with_reducible rfl))
      (try simp only [Act.put, List.setIfInBounds_toArray, List.set_cons_zero, List.set_cons_succ])
      refine wpAnyH_ready (rs := [2]) (by kernel_rfl) (by simp) ?_
      refine AllReadyH.cons (o := ⟨_, _, _, _, _, _⟩) rfl (fun K hK => ?_) AllReadyH.nil
      go_simp
      refine hK.out _ _ ?_ (fun hHeld => ?_)
      · (try dsimp only)
        (((try go_split_ands); (try dsimp only); (repeat' apply And.intro)) <;> (repeat (first | with_reducible assumption | ((with_reducible refine cnew0 ?_); simp; done) | ((with_reducible refine cnew1 ?_); simp; done) | (with_reducible refine akeep ?_) | (with_reducible refine dkeep ?_) | ((with_reducible refine skeep ?_ ?_); rotate_left; (first | ((try dsimp only); omega) | (simp; done) | (simp; omega))) | (with_reducible refine bkeep hb3 ?_))))
      clear hK K
      (try simp only [Act.put, List.setIfInBounds_toArray, List.set_cons_zero, List.set_cons_succ])
      refine wpAnyH_ready (rs := [3]) (by kernel_rfl) (by simp) ?_
      refine AllReadyH.cons (o := ⟨_, _, _, _, _, _⟩) rfl (fun K hK => ?_) AllReadyH.nil
      go_simp
      refine hK.out _ _ ?_ (fun hHeld => ?_)
      · (try dsimp only)
        (((try go_split_ands); (try dsimp only); (repeat' apply And.intro)) <;> (repeat (first | with_reducible assumption | ((with_reducible refine cnew0 ?_); simp; done) | ((with_reducible refine cnew1 ?_); simp; done) | (with_reducible refine akeep ?_) | (with_reducible refine dkeep ?_) | ((with_reducible refine skeep ?_ ?_); rotate_left; (first | ((try dsimp only); omega) | (simp; done) | (simp; omega))) | (with_reducible refine bkeep hb3 ?_))))
      clear hK K
      (try simp only [Act.put, List.setIfInBounds_toArray, List.set_cons_zero, List.set_cons_succ])
      refine wpAnyH_done (by kernel_rfl) ?_ _
      go_wp2_with fail
      refine bodyPost_ret (v := bndV D) ?_ rfl ⟨rfl, by (repeat (first | exact Below.refl _ _ | refine Below.setCell ?_ (by first | (simp; done) | (simp; omega) | omega) _ | refine belowN ?_ _ | refine Below.drew ?_ | refine Below.alloc ?_ (by first | (simp; done) | (simp; omega) | omega) _ | refine Below.trans ?_ (Below.mono (by assumption) (by first | (simp; done) | (simp; omega) | omega))))⟩
      unfold bndV
      rw [ex.out, ey.out, eX.out, eY.out]
      simp [results, Tryd.results53, go_sem, x0, x1, y0, y1]

end Go.Proofs.YtggpmailkkpdaaaDoor
