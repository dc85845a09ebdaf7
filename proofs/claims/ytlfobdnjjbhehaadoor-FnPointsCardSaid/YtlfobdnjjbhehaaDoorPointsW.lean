/-
  For every slice of bytes, the law FnPoints returns true and leaves its argument as it was. Condition: the listed tables and errors start as the program's text lays them.
-/
import Derived.Test.YtlfobdnjjbhehaaDoorSrcP
import Derived.Test.YtlfobdnjjbhehaaDoorByt
import Derived.Test.YtlfobdnjjbhehaaDoorPtM
import Derived.Test.YtlfobdnjjbhehaaDoorKeep
namespace Go.Proofs.YtlfobdnjjbhehaaDoor
open Go.RowKit

theorem oppZ_any (n : Int) (w : World) : Calls Tryd.prog 10 #[.int .i64 n] w fun e w' => e = .returned (.int .i64 (oppZ n)) ∧ w = w' := by
  obtain h | rfl | rfl | rfl | rfl : (n < 0 ∨ 3 < n) ∨ n = 0 ∨ n = 1 ∨ n = 2 ∨ n = 3 := by omega
  · have h0 : (n == 0) = false := beq_eq_false_iff_ne.2 (by omega)
    have h1 : (n == 1) = false := beq_eq_false_iff_ne.2 (by omega)
    have h2 : (n == 2) = false := beq_eq_false_iff_ne.2 (by omega)
    have h3 : (n == 3) = false := beq_eq_false_iff_ne.2 (by omega)
    have hz : oppZ n = -1 := by unfold oppZ; omega
    have Hz := Lib.hid hz
    clear hz h
    go_enter Tryd.func10, Tryd.ntmps10
    go_wp2
    go_ret
    exact ⟨ret_i64 (by rw [Hz.out]), rfl⟩
  all_goals
    go_enter Tryd.func10, Tryd.ntmps10
    go_wp2
    go_ret
    exact ⟨rfl, rfl⟩

set_option maxRecDepth 100000 in
set_option maxHeartbeats 8000000 in
set_option linter.unusedSimpArgs false in
theorem walkP (v : Value) (N : Nat) (w : World) (hv : Bys w v N) (hT : Tab w) (hE : Errs w) (hM : MaxI w) (hS : Steps w) :
    Calls Tryd.prog 3 #[v] w fun e w' => e = .returned (.bool true) ∧ Below w.heap.size w w' := by
  have HB := Lib.hid hv
  have lT := hT.lt
  have lE1 := hE.lt1
  have lE2 := hE.lt2
  have lM := hM.lt
  have lS := hS.lt
  by_cases hN : 4096 < N
  · have hd : decide (4096 < N) = true := by simpa using hN
    go_enter Tryd.func3, Tryd.ntmps3
    go_wp2_with (go_at_call 4; refine (f6big_any v N _ HB.out).mono ?_; rintro e w1 ⟨rfl, rfl⟩; rw [hd])
    go_ret
    exact ⟨rfl, by (repeat (first | exact Below.refl _ _ | refine Below.setCell ?_ (by first | (simp; done) | (simp; omega) | omega) _ | refine belowN ?_ _ | refine Below.drew ?_ | refine Below.alloc ?_ (by first | (simp; done) | (simp; omega) | omega) _ | refine Below.trans ?_ (Below.mono (by assumption) (by first | (simp; done) | (simp; omega) | omega))))⟩
  have hd : decide (4096 < N) = false := by simpa using hN
  have HC := Lib.hid (hv.code (by omega))
  have HT := Lib.hid hT
  have HE := Lib.hid hE
  have HM := Lib.hid hM
  have HS := Lib.hid hS
  clear hv hN hT hE hM hS
  go_enter Tryd.func3, Tryd.ntmps3
  go_wp2_with fail
  refine (f6big_any v N _ HB.out).mono ?_
  rintro e w1 ⟨rfl, rfl⟩
  rw [hd]
  go_wp2_with fail
  refine (drawStepPoint_any v _ HC.out).mono ?_
  rintro e w1 ⟨⟨x, y, d, rfl⟩, B1⟩
  clear hd
  have z1 := B1.size
  obtain ⟨X, h1⟩ : ∃ s, step1 x y d = s := ⟨_, rfl⟩
  obtain ⟨Y, h2⟩ : ∃ s, step2 x y d = s := ⟨_, rfl⟩
  obtain ⟨s3, h3⟩ : ∃ s, step3 x y d = s := ⟨_, rfl⟩
  have RA : ∀ w, Steps w → Calls Tryd.prog 6 #[.agg #[.int .i64 x, .int .i64 y], .int .i64 d] w fun e w' => e = .returned (.tuple #[.agg #[.int .i64 X, .int .i64 Y], .int .i64 s3]) ∧ Below w.heap.size w w' := fun w h => by
    rw [← h1, ← h2, ← h3]; exact implStep_any x y d w h
  have RS : ∀ w, Calls Tryd.prog 7 #[.agg #[.int .i64 x, .int .i64 y], .int .i64 d] w fun e w' => e = .returned (.tuple #[.agg #[.int .i64 X, .int .i64 Y], .int .i64 s3]) ∧ Below w.heap.size w w' := fun w => by
    rw [← h1, ← h2, ← h3]; exact specStep_any x y d w
  obtain ⟨tx, htx⟩ : ∃ t, ptText x y = t := ⟨_, rfl⟩
  have RT : ∀ w, Tab w → Calls Tryd.prog 8 #[.agg #[.int .i64 x, .int .i64 y]] w fun e w' => e = .returned (.string tx) ∧ Below w.heap.size w w' := fun w h => by
    rw [← htx]; exact implPointText_any x y w h
  have RU : ∀ w, Calls Tryd.prog 9 #[.agg #[.int .i64 x, .int .i64 y]] w fun e w' => e = .returned (.string tx) ∧ Below w.heap.size w w' := fun w => by
    rw [← htx]; exact specPointText_any x y w
  have HF := Lib.hid (step_facts (x := x) (y := y) (d := d))
  rw [h1, h2, h3] at HF
  have HR : Hid (ptB x y = true → (rpB tx = true ∧ rpX tx = x ∧ rpY tx = y) ∧ tx.size ≤ 1048576) := Lib.hid fun h => by rw [← htx]; exact ⟨pt_read h, pt_size h⟩
  clear h1 h2 h3 htx
  go_wp2_with fail
  refine (RA _ (HS.out.below (B := w.heap.size) (show Below w.heap.size w _ by (repeat (first | exact Below.refl _ _ | refine Below.setCell ?_ (by first | (simp; done) | (simp; omega) | omega) _ | refine belowN ?_ _ | refine Below.drew ?_ | refine Below.alloc ?_ (by first | (simp; done) | (simp; omega) | omega) _ | refine Below.trans ?_ (Below.mono (by assumption) (by first | (simp; done) | (simp; omega) | omega))))) lS)).mono ?_
  rintro e w2 ⟨rfl, hb⟩
  have hbi : Below w1.heap.size w1 w2 := by (repeat (first | exact Below.refl _ _ | refine Below.setCell ?_ (by first | (simp; done) | (simp; omega) | omega) _ | refine belowN ?_ _ | refine Below.drew ?_ | refine Below.alloc ?_ (by first | (simp; done) | (simp; omega) | omega) _ | refine Below.trans ?_ (Below.mono (by assumption) (by first | (simp; done) | (simp; omega) | omega))))
  have Tp2 : Hid (Two w2 (w1.heap.size) (.int .i64 x) (.int .i64 y)) := Lib.hid (Two.below (b := w1.heap.size) (x := .int .i64 x) (y := .int .i64 y) ⟨by simp [go_sem], by simp [go_sem], by simp [go_sem], by simp [go_sem]⟩ hb)
  have B2 : Below w.heap.size w w2 := B1.trans (hbi.mono B1.size)
  have z2 := B2.size
  clear hb hbi
  have lp := Tp2.out.lt
  obtain ⟨cxp, cyp, -, -⟩ := Tp2.out
  go_wp2_with fail
  refine (RS _).mono ?_
  rintro e w3 ⟨rfl, hb⟩
  have hbi : Below w2.heap.size w2 w3 := by (repeat (first | exact Below.refl _ _ | refine Below.setCell ?_ (by first | (simp; done) | (simp; omega) | omega) _ | refine belowN ?_ _ | refine Below.drew ?_ | refine Below.alloc ?_ (by first | (simp; done) | (simp; omega) | omega) _ | refine Below.trans ?_ (Below.mono (by assumption) (by first | (simp; done) | (simp; omega) | omega))))
  have Tp3 := Lib.hid (Tp2.out.below hbi)
  have Tq3 : Hid (Two w3 (w2.heap.size) (.int .i64 X) (.int .i64 Y)) := Lib.hid (Two.below (b := w2.heap.size) (x := .int .i64 X) (y := .int .i64 Y) ⟨by simp [go_sem], by simp [go_sem], by simp [go_sem], by simp [go_sem]⟩ hb)
  have B3 : Below w.heap.size w w3 := B2.trans (hbi.mono B2.size)
  have z3 := B3.size
  clear cxp cyp lp
  clear hb hbi
  have lp := Tp3.out.lt
  obtain ⟨cxp, cyp, -, -⟩ := Tp3.out
  have lq := Tq3.out.lt
  obtain ⟨cxq, cyq, -, -⟩ := Tq3.out
  go_wp2_with fail
  have hbi : Below w3.heap.size w3 (w3.alloc (.cells #[.int .i64 X, .int .i64 Y] 25)) := (Below.refl _ _).alloc (Nat.le_refl _) _
  have Tp4 := Lib.hid (Tp3.out.below hbi)
  have Tq4 := Lib.hid (Tq3.out.below hbi)
  have Tm4 : Hid (Two (w3.alloc (.cells #[.int .i64 X, .int .i64 Y] 25)) w3.heap.size (.int .i64 X) (.int .i64 Y)) := Lib.hid (Two.new _ _ _ _ rfl)
  have B4 := B3.trans (hbi.mono B3.size)
  have z4 := B4.size
  generalize w3.alloc (.cells #[.int .i64 X, .int .i64 Y] 25) = w4 at *
  generalize w3.heap.size = m at *
  clear hbi cxp cyp lp cxq cyq lq
  have lp := Tp4.out.lt
  obtain ⟨cxp, cyp, -, -⟩ := Tp4.out
  have lq := Tq4.out.lt
  obtain ⟨cxq, cyq, -, -⟩ := Tq4.out
  have lm := Tm4.out.lt
  obtain ⟨cxm, cym, -, -⟩ := Tm4.out
  refine wp_region_held_drew (S := (fun w' => w'.cell? ⟨w1.heap.size, 0, none⟩ = some (.int .i64 x) ∧ w'.cell? ⟨w1.heap.size, 1, none⟩ = some (.int .i64 y) ∧ w'.cell? ⟨w2.heap.size, 0, none⟩ = some (.int .i64 X) ∧ w'.cell? ⟨w2.heap.size, 1, none⟩ = some (.int .i64 Y) ∧ w'.cell? ⟨m, 0, none⟩ = some (.int .i64 X) ∧ w'.cell? ⟨m, 1, none⟩ = some (.int .i64 Y))) (by kernel_rfl) ?_ (fun hHeld => ?_)
  · (try dsimp only)
    (((try go_split_ands); (try dsimp only); (repeat' apply And.intro)) <;> (repeat (first | with_reducible assumption | ((with_reducible refine cnew0 ?_); simp; done) | ((with_reducible refine cnew1 ?_); simp; done) | (with_reducible refine akeep ?_) | (with_reducible refine dkeep ?_) | ((with_reducible refine skeep ?_ ?_); rotate_left; (first | ((try dsimp only); omega) | (simp; done) | (simp; omega))) | (with_reducible refine bkeep hb3 ?_))))
  refine wpAnyH_take (i := 0) (oi := ⟨_, _, _, _, _, _⟩) (v := ?_) rfl (by kernel_rfl) (by kernel_rfl) (by kernel_rfl) (fun _ _ _ h => h) (Or.inl ⟨by rfl, ?_⟩) (by assumption) ?_
  rotate_left
  · (intro w hSw; (try dsimp only at hSw); go_simp; (try with_reducible rfl))
  (try simp only [Act.put, List.setIfInBounds_toArray, List.set_cons_zero, List.set_cons_succ])
  refine wpAnyH_take (i := 1) (oi := ⟨_, _, _, _, _, _⟩) (v := ?_) rfl (by kernel_rfl) (by kernel_rfl) (by kernel_rfl) (fun _ _ _ h => h) (Or.inl ⟨by rfl, ?_⟩) (by assumption) ?_
  rotate_left
  · (intro w hSw; (try dsimp only at hSw); go_simp; (try with_reducible rfl))
  (try simp only [Act.put, List.setIfInBounds_toArray, List.set_cons_zero, List.set_cons_succ])
  refine wpAnyH_take (i := 2) (oi := ⟨_, _, _, _, _, _⟩) (v := ?_) rfl (by kernel_rfl) (by kernel_rfl) (by kernel_rfl) (fun _ _ _ h => h) (Or.inl ⟨by rfl, ?_⟩) (by assumption) ?_
  rotate_left
  · (intro w hSw; (try dsimp only at hSw); go_simp; (try with_reducible rfl))
  (try simp only [Act.put, List.setIfInBounds_toArray, List.set_cons_zero, List.set_cons_succ])
  refine wpAnyH_take (i := 3) (oi := ⟨_, _, _, _, _, _⟩) (v := ?_) rfl (by kernel_rfl) (by kernel_rfl) (by kernel_rfl) (fun _ _ _ h => h) (Or.inl ⟨by rfl, ?_⟩) (by assumption) ?_
  rotate_left
  · (intro w hSw; (try dsimp only at hSw); go_simp; (try with_reducible rfl))
  (try simp only [Act.put, List.setIfInBounds_toArray, List.set_cons_zero, List.set_cons_succ])
  refine wpAnyH_take (i := 4) (oi := ⟨_, _, _, _, _, _⟩) (v := ?_) rfl (by kernel_rfl) (by kernel_rfl) (by kernel_rfl) (fun _ _ _ h => h) (Or.inl ⟨by rfl, ?_⟩) (by assumption) ?_
  rotate_left
  · (intro w hSw; (try dsimp only at hSw); go_simp; (try with_reducible rfl))
  (try simp only [Act.put, List.setIfInBounds_toArray, List.set_cons_zero, List.set_cons_succ])
  refine wpAnyH_take (i := 5) (oi := ⟨_, _, _, _, _, _⟩) (v := ?_) rfl (by kernel_rfl) (by kernel_rfl) (by kernel_rfl) (fun _ _ _ h => h) (Or.inl ⟨by rfl, ?_⟩) (by assumption) ?_
  rotate_left
  · (intro w hSw; (try dsimp only at hSw); go_simp; (try with_reducible rfl))
  (try simp only [Act.put, List.setIfInBounds_toArray, List.set_cons_zero, List.set_cons_succ])
  refine wpAnyH_take (i := 6) (oi := ⟨_, _, _, _, _, _⟩) (v := ?_) rfl (by kernel_rfl) (by kernel_rfl) (by kernel_rfl) (fun _ _ _ h => h) (Or.inl ⟨by rfl, ?_⟩) (by assumption) ?_
  rotate_left
  · (intro w hSw; (try dsimp only at hSw); go_simp; (try with_reducible rfl))
  (try simp only [Act.put, List.setIfInBounds_toArray, List.set_cons_zero, List.set_cons_succ])
  refine wpAnyH_take (i := 7) (oi := ⟨_, _, _, _, _, _⟩) (v := ?_) rfl (by kernel_rfl) (by kernel_rfl) (by kernel_rfl) (fun _ _ _ h => h) (Or.inl ⟨by rfl, ?_⟩) (by assumption) ?_
  rotate_left
  · (intro w hSw; (try dsimp only at hSw); go_simp; (try with_reducible rfl))
  (try simp only [Act.put, List.setIfInBounds_toArray, List.set_cons_zero, List.set_cons_succ])
  refine wpAnyH_take (i := 8) (oi := ⟨_, _, _, _, _, _⟩) (v := ?_) rfl (by kernel_rfl) (by kernel_rfl) (by kernel_rfl) (fun _ _ _ h => h) (Or.inl ⟨by rfl, ?_⟩) (by assumption) ?_
  rotate_left
  · (intro w hSw; (try dsimp only at hSw); go_simp; (try with_reducible rfl))
  (try simp only [Act.put, List.setIfInBounds_toArray, List.set_cons_zero, List.set_cons_succ])
  refine wpAnyH_take (i := 9) (oi := ⟨_, _, _, _, _, _⟩) (v := ?_) rfl (by kernel_rfl) (by kernel_rfl) (by kernel_rfl) (fun _ _ _ h => h) (Or.inl ⟨by rfl, ?_⟩) (by assumption) ?_
  rotate_left
  · (intro w hSw; (try dsimp only at hSw); go_simp; (try with_reducible rfl))
  (try simp only [Act.put, List.setIfInBounds_toArray, List.set_cons_zero, List.set_cons_succ])
  refine wpAnyH_take (i := 11) (oi := ⟨_, _, _, _, _, _⟩) (v := ?_) rfl (by kernel_rfl) (by kernel_rfl) (by kernel_rfl) (fun _ _ _ h => h) (Or.inl ⟨by rfl, ?_⟩) (by assumption) ?_
  rotate_left
  · (intro w hSw; (try dsimp only at hSw); go_simp; (try with_reducible rfl))
  (try simp only [Act.put, List.setIfInBounds_toArray, List.set_cons_zero, List.set_cons_succ])
  refine wpAnyH_ready (rs := [10]) (by kernel_rfl) (by simp) ?_
  refine AllReadyH.cons (o := ⟨_, _, _, _, _, _⟩) rfl (fun K hK => ?_) AllReadyH.nil
  go_simp
  (go_at_call 8; refine (RT _ (HT.out.below (B := w.heap.size) (show Below w.heap.size w _ by (repeat (first | exact Below.refl _ _ | refine Below.setCell ?_ (by first | (simp; done) | (simp; omega) | omega) _ | refine belowN ?_ _ | refine Below.drew ?_ | refine Below.alloc ?_ (by first | (simp; done) | (simp; omega) | omega) _ | refine Below.trans ?_ (Below.mono (by assumption) (by first | (simp; done) | (simp; omega) | omega))))) lT)).mono ?_; rintro e w5 ⟨rfl, hb3⟩; have s5 : w4.heap.size ≤ w5.heap.size := hb3.size)
  refine hK.out _ _ ?_ (fun hHeld => ?_)
  · (try dsimp only)
    (((try go_split_ands); (try dsimp only); (repeat' apply And.intro)) <;> (repeat (first | with_reducible assumption | ((with_reducible refine cnew0 ?_); simp; done) | ((with_reducible refine cnew1 ?_); simp; done) | (with_reducible refine akeep ?_) | (with_reducible refine dkeep ?_) | ((with_reducible refine skeep ?_ ?_); rotate_left; (first | ((try dsimp only); omega) | (simp; done) | (simp; omega))) | (with_reducible refine bkeep hb3 ?_))))
  clear hK K
  (try simp only [Act.put, List.setIfInBounds_toArray, List.set_cons_zero, List.set_cons_succ])
  refine wpAnyH_ready (rs := [12]) (by kernel_rfl) (by simp) ?_
  refine AllReadyH.cons (o := ⟨_, _, _, _, _, _⟩) rfl (fun K hK => ?_) AllReadyH.nil
  go_simp
  (go_at_call 9; refine (RU _).mono ?_; rintro e w6 ⟨rfl, hb3⟩; have s6 : w4.heap.size ≤ w6.heap.size := Nat.le_trans s5 hb3.size)
  refine hK.out _ _ ?_ (fun hHeld => ?_)
  · (try dsimp only)
    (((try go_split_ands); (try dsimp only); (repeat' apply And.intro)) <;> (repeat (first | with_reducible assumption | ((with_reducible refine cnew0 ?_); simp; done) | ((with_reducible refine cnew1 ?_); simp; done) | (with_reducible refine akeep ?_) | (with_reducible refine dkeep ?_) | ((with_reducible refine skeep ?_ ?_); rotate_left; (first | ((try dsimp only); omega) | (simp; done) | (simp; omega))) | (with_reducible refine bkeep hb3 ?_))))
  clear hK K
  (try simp only [Act.put, List.setIfInBounds_toArray, List.set_cons_zero, List.set_cons_succ])
  refine wpAnyH_take (i := 13) (oi := ⟨_, _, _, _, _, _⟩) (v := ?_) rfl (by kernel_rfl) (by kernel_rfl) (by kernel_rfl) (fun _ _ _ h => h) (Or.inl ⟨by rfl, ?_⟩) (by assumption) ?_
  rotate_left
  · (intro w hSw; (try dsimp only at hSw); go_simp; (try with_reducible rfl))
  (try simp only [Act.put, List.setIfInBounds_toArray, List.set_cons_zero, List.set_cons_succ])
  refine wpAnyH_take (i := 14) (oi := ⟨_, _, _, _, _, _⟩) (v := ?_) rfl (by kernel_rfl) (by kernel_rfl) (by kernel_rfl) (fun _ _ _ h => h) (Or.inl ⟨by rfl, ?_⟩) (by assumption) ?_
  rotate_left
  · (intro w hSw; (try dsimp only at hSw); go_simp; (try with_reducible rfl))
  (try simp only [Act.put, List.setIfInBounds_toArray, List.set_cons_zero, List.set_cons_succ])
  refine wpAnyH_done (by kernel_rfl) ?_ _
  have hbi : Below w4.heap.size w4 w6 := by (repeat (first | exact Below.refl _ _ | refine Below.setCell ?_ (by first | (simp; done) | (simp; omega) | omega) _ | refine belowN ?_ _ | refine Below.drew ?_ | refine Below.alloc ?_ (by first | (simp; done) | (simp; omega) | omega) _ | refine Below.trans ?_ (Below.mono (by assumption) (by first | (simp; done) | (simp; omega) | omega))))
  have Tp6 := Lib.hid (Tp4.out.below hbi)
  have Tq6 := Lib.hid (Tq4.out.below hbi)
  have Tm6 := Lib.hid (Tm4.out.below hbi)
  have B6 := B4.trans (hbi.mono B4.size)
  have z6 := B6.size
  clear hb3 hbi hHeld cxp cyp lp cxq cyq lq cxm cym lm RU
  have lp := Tp6.out.lt
  obtain ⟨cxp, cyp, -, -⟩ := Tp6.out
  have lq := Tq6.out.lt
  obtain ⟨cxq, cyq, -, -⟩ := Tq6.out
  have lm := Tm6.out.lt
  obtain ⟨cxm, cym, -, -⟩ := Tm6.out
  by_cases hz : s3 = 0
  rotate_left
  · have hzb : (s3 == 0) = false := by simpa using hz
    go_wp2_with fail
    go_ret
    exact ⟨rfl, B6⟩
  obtain ⟨⟨g1, g2⟩, ⟨f1, f2, f3⟩, ⟨f4, f5⟩, ⟨f6, f7⟩, f8⟩ := HF.out hz
  subst hz
  obtain ⟨⟨r1, r2, r3⟩, r4⟩ := HR.out g1
  obtain ⟨od, hod⟩ : ∃ o, oppZ d = o := ⟨_, rfl⟩
  rw [hod] at f1 f2 f3 f6
  have RO : ∀ w, Calls Tryd.prog 10 #[.int .i64 d] w fun e w' => e = .returned (.int .i64 od) ∧ w = w' := fun w => by
    rw [← hod]; exact oppZ_any d w
  have RB : ∀ w, Steps w → Calls Tryd.prog 6 #[.agg #[.int .i64 X, .int .i64 Y], .int .i64 od] w fun e w' => e = .returned (.tuple #[.agg #[.int .i64 x, .int .i64 y], .int .i64 0]) ∧ Below w.heap.size w w' := fun w h => by
    have := implStep_any X Y od w h
    rw [f1, f2, f3] at this; exact this
  have RD : ∀ w, Steps w → Calls Tryd.prog 11 #[.agg #[.int .i64 x, .int .i64 y], .agg #[.int .i64 X, .int .i64 Y]] w fun e w' => e = .returned (.tuple #[.int .i64 d, .int .i64 0]) ∧ Below w.heap.size w w' := fun w h => by
    have := implDir_any x y X Y w h
    rw [f4, f5] at this; exact this
  have RE : ∀ w, Steps w → Calls Tryd.prog 11 #[.agg #[.int .i64 X, .int .i64 Y], .agg #[.int .i64 x, .int .i64 y]] w fun e w' => e = .returned (.tuple #[.int .i64 od, .int .i64 0]) ∧ Below w.heap.size w w' := fun w h => by
    have := implDir_any X Y x y w h
    rw [f6, f7] at this; exact this
  have RR : ∀ w, Tab w → Errs w → MaxI w → Calls Tryd.prog 12 #[.string tx] w fun e w' => e = .returned (.tuple #[.agg #[.int .i64 x, .int .i64 y], .bool true]) ∧ Below w.heap.size w w' := fun w h h' h'' => by
    have := implRp_any tx w r4 h h' h''
    rw [r1, r2, r3] at this; exact this
  obtain ⟨u1, hu1⟩ : ∃ u, lessB x y X Y = u := ⟨_, rfl⟩
  obtain ⟨u2, hu2⟩ : ∃ u, lessB X Y x y = u := ⟨_, rfl⟩
  have RL : ∀ w, Calls Tryd.prog 13 #[.agg #[.int .i64 x, .int .i64 y], .agg #[.int .i64 X, .int .i64 Y]] w fun e w' => e = .returned (.bool u1) ∧ Below w.heap.size w w' := fun w => by
    rw [← hu1]; exact implLess_any x y X Y w
  have RM : ∀ w, Calls Tryd.prog 13 #[.agg #[.int .i64 X, .int .i64 Y], .agg #[.int .i64 x, .int .i64 y]] w fun e w' => e = .returned (.bool u2) ∧ Below w.heap.size w w' := fun w => by
    rw [← hu2]; exact implLess_any X Y x y w
  rw [hu1, hu2] at f8
  have H8 := Lib.hid f8
  clear f1 f2 f3 f4 f5 f6 f7 f8 g1 g2 r1 r2 r3 r4 hod hu1 hu2 HF HR RA RS
  go_upto_region 10 with fail
  go_cut [9, 10] (fun s9 s10 wx => ∃ (g : Nat) (w9 : World), w9 = wx ∧ s9 = .pointer (some ⟨g, 0, none⟩) ∧ s10 = .int .i64 0 ∧ Two w9 g (.int .i64 x) (.int .i64 y) ∧ Two w9 w1.heap.size (.int .i64 x) (.int .i64 y) ∧ Two w9 w2.heap.size (.int .i64 X) (.int .i64 Y) ∧ Two w9 m (.int .i64 X) (.int .i64 Y) ∧ Below w6.heap.size w6 w9)
  case first =>
    have Tpv := Tp6.out
    have Tqv := Tq6.out
    have Tmv := Tm6.out
    go_region_held3 (fun w' => w'.cell? ⟨w1.heap.size, 0, none⟩ = some (.int .i64 x) ∧ w'.cell? ⟨w1.heap.size, 1, none⟩ = some (.int .i64 y) ∧ w'.cell? ⟨w2.heap.size, 0, none⟩ = some (.int .i64 X) ∧ w'.cell? ⟨w2.heap.size, 1, none⟩ = some (.int .i64 Y) ∧ w'.cell? ⟨m, 0, none⟩ = some (.int .i64 X) ∧ w'.cell? ⟨m, 1, none⟩ = some (.int .i64 Y)) ((((try go_split_ands); (try dsimp only); (repeat' apply And.intro)) <;> (repeat (first | with_reducible assumption | ((with_reducible refine cnew0 ?_); simp; done) | ((with_reducible refine cnew1 ?_); simp; done) | (with_reducible refine akeep ?_) | (with_reducible refine dkeep ?_) | ((with_reducible refine skeep ?_ ?_); rotate_left; (first | ((try dsimp only); omega) | (simp; done) | (simp; omega))) | (with_reducible refine bkeep hb3 ?_)))))
      (first
        | (go_at_call 10; refine (RO _).mono ?_; rintro e w7 ⟨rfl, rfl⟩)
        | (go_at_call 6; refine (RB _ (HS.out.below (B := w.heap.size) (show Below w.heap.size w _ by (repeat (first | exact Below.refl _ _ | refine Below.setCell ?_ (by first | (simp; done) | (simp; omega) | omega) _ | refine belowN ?_ _ | refine Below.drew ?_ | refine Below.alloc ?_ (by first | (simp; done) | (simp; omega) | omega) _ | refine Below.trans ?_ (Below.mono (by assumption) (by first | (simp; done) | (simp; omega) | omega))))) lS)).mono ?_; rintro e w8 ⟨rfl, hb3⟩; obtain ⟨hc3, hf3, hl3, -⟩ := bfull hb3))
    all_goals (go_wp2_with fail; go_meet)
    all_goals
      have s3 := hb3.size
      (try simp at s3)
      refine ⟨_, _, rfl, rfl, rfl, ?_, ?_, ?_, ?_, ?_⟩
      · (repeat (first | with_reducible assumption | (with_reducible refine Two.set_ (x := .int .i64 0) (y := .int .i64 0) ?_ _ _) | ((with_reducible refine Two.new _ _ _ _ ?_); simp; done) | (with_reducible refine Two.alloc ?_ _) | (with_reducible refine Two.drew ?_) | (with_reducible refine Two.drewN ?_ _) | ((with_reducible refine Two.far ?_ ?_ _); rotate_left; (first | ((try dsimp only); omega) | (simp; done) | (simp; omega))) | (with_reducible refine Two.below ?_ hb3)))
      · (repeat (first | with_reducible assumption | (with_reducible refine Two.set_ (x := .int .i64 0) (y := .int .i64 0) ?_ _ _) | ((with_reducible refine Two.new _ _ _ _ ?_); simp; done) | (with_reducible refine Two.alloc ?_ _) | (with_reducible refine Two.drew ?_) | (with_reducible refine Two.drewN ?_ _) | ((with_reducible refine Two.far ?_ ?_ _); rotate_left; (first | ((try dsimp only); omega) | (simp; done) | (simp; omega))) | (with_reducible refine Two.below ?_ hb3)))
      · (repeat (first | with_reducible assumption | (with_reducible refine Two.set_ (x := .int .i64 0) (y := .int .i64 0) ?_ _ _) | ((with_reducible refine Two.new _ _ _ _ ?_); simp; done) | (with_reducible refine Two.alloc ?_ _) | (with_reducible refine Two.drew ?_) | (with_reducible refine Two.drewN ?_ _) | ((with_reducible refine Two.far ?_ ?_ _); rotate_left; (first | ((try dsimp only); omega) | (simp; done) | (simp; omega))) | (with_reducible refine Two.below ?_ hb3)))
      · (repeat (first | with_reducible assumption | (with_reducible refine Two.set_ (x := .int .i64 0) (y := .int .i64 0) ?_ _ _) | ((with_reducible refine Two.new _ _ _ _ ?_); simp; done) | (with_reducible refine Two.alloc ?_ _) | (with_reducible refine Two.drew ?_) | (with_reducible refine Two.drewN ?_ _) | ((with_reducible refine Two.far ?_ ?_ _); rotate_left; (first | ((try dsimp only); omega) | (simp; done) | (simp; omega))) | (with_reducible refine Two.below ?_ hb3)))
      · (repeat (first | exact Below.refl _ _ | refine Below.setCell ?_ (by first | (simp; done) | (simp; omega) | omega) _ | refine belowN ?_ _ | refine Below.drew ?_ | refine Below.alloc ?_ (by first | (simp; done) | (simp; omega) | omega) _ | refine Below.trans ?_ (Below.mono (by assumption) (by first | (simp; done) | (simp; omega) | omega))))
  case rest =>
    obtain ⟨g, w9, rfl, rfl, rfl, hg, hp, hq, hm, hbx⟩ := hcut
    have B9 := B6.trans (hbx.mono B6.size)
    have z9 := B9.size
    clear cxp cyp lp cxq cyq lq cxm cym lm hbx
    have Tp9 := Lib.hid hp
    have Tq9 := Lib.hid hq
    have Tm9 := Lib.hid hm
    have Tk9 := Lib.hid hg
    clear hp hq hm hg
    have lp := Tp9.out.lt
    obtain ⟨cxp, cyp, -, -⟩ := Tp9.out
    have lq := Tq9.out.lt
    obtain ⟨cxq, cyq, -, -⟩ := Tq9.out
    have lm := Tm9.out.lt
    obtain ⟨cxm, cym, -, -⟩ := Tm9.out
    have lk := Tk9.out.lt
    obtain ⟨cxk, cyk, -, -⟩ := Tk9.out
    go_wp2_with fail
    refine (RD _ (HS.out.below (B := w.heap.size) (show Below w.heap.size w _ by (repeat (first | exact Below.refl _ _ | refine Below.setCell ?_ (by first | (simp; done) | (simp; omega) | omega) _ | refine belowN ?_ _ | refine Below.drew ?_ | refine Below.alloc ?_ (by first | (simp; done) | (simp; omega) | omega) _ | refine Below.trans ?_ (Below.mono (by assumption) (by first | (simp; done) | (simp; omega) | omega))))) lS)).mono ?_
    rintro e w10 ⟨rfl, hb⟩
    have hbi : Below w9.heap.size w9 w10 := by (repeat (first | exact Below.refl _ _ | refine Below.setCell ?_ (by first | (simp; done) | (simp; omega) | omega) _ | refine belowN ?_ _ | refine Below.drew ?_ | refine Below.alloc ?_ (by first | (simp; done) | (simp; omega) | omega) _ | refine Below.trans ?_ (Below.mono (by assumption) (by first | (simp; done) | (simp; omega) | omega))))
    have Tp10 := Lib.hid (Tp9.out.below hbi)
    have Tq10 := Lib.hid (Tq9.out.below hbi)
    have Tm10 := Lib.hid (Tm9.out.below hbi)
    have Tk10 := Lib.hid (Tk9.out.below hbi)
    have B10 : Below w.heap.size w w10 := B9.trans (hbi.mono B9.size)
    have z10 := B10.size
    clear cxp cyp lp cxq cyq lq cxm cym lm cxk cyk lk
    clear hb hbi
    have lp := Tp10.out.lt
    obtain ⟨cxp, cyp, -, -⟩ := Tp10.out
    have lq := Tq10.out.lt
    obtain ⟨cxq, cyq, -, -⟩ := Tq10.out
    have lm := Tm10.out.lt
    obtain ⟨cxm, cym, -, -⟩ := Tm10.out
    have lk := Tk10.out.lt
    obtain ⟨cxk, cyk, -, -⟩ := Tk10.out
    go_wp2_with fail
    refine (RE _ (HS.out.below (B := w.heap.size) (show Below w.heap.size w _ by (repeat (first | exact Below.refl _ _ | refine Below.setCell ?_ (by first | (simp; done) | (simp; omega) | omega) _ | refine belowN ?_ _ | refine Below.drew ?_ | refine Below.alloc ?_ (by first | (simp; done) | (simp; omega) | omega) _ | refine Below.trans ?_ (Below.mono (by assumption) (by first | (simp; done) | (simp; omega) | omega))))) lS)).mono ?_
    rintro e w11 ⟨rfl, hb⟩
    have hbi : Below w10.heap.size w10 w11 := by (repeat (first | exact Below.refl _ _ | refine Below.setCell ?_ (by first | (simp; done) | (simp; omega) | omega) _ | refine belowN ?_ _ | refine Below.drew ?_ | refine Below.alloc ?_ (by first | (simp; done) | (simp; omega) | omega) _ | refine Below.trans ?_ (Below.mono (by assumption) (by first | (simp; done) | (simp; omega) | omega))))
    have Tp11 := Lib.hid (Tp10.out.below hbi)
    have Tq11 := Lib.hid (Tq10.out.below hbi)
    have Tm11 := Lib.hid (Tm10.out.below hbi)
    have Tk11 := Lib.hid (Tk10.out.below hbi)
    have B11 : Below w.heap.size w w11 := B10.trans (hbi.mono B10.size)
    have z11 := B11.size
    clear cxp cyp lp cxq cyq lq cxm cym lm cxk cyk lk
    clear hb hbi
    have lp := Tp11.out.lt
    obtain ⟨cxp, cyp, -, -⟩ := Tp11.out
    have lq := Tq11.out.lt
    obtain ⟨cxq, cyq, -, -⟩ := Tq11.out
    have lm := Tm11.out.lt
    obtain ⟨cxm, cym, -, -⟩ := Tm11.out
    have lk := Tk11.out.lt
    obtain ⟨cxk, cyk, -, -⟩ := Tk11.out
    go_wp2_with fail
    refine (RT _ (HT.out.below (B := w.heap.size) (show Below w.heap.size w _ by (repeat (first | exact Below.refl _ _ | refine Below.setCell ?_ (by first | (simp; done) | (simp; omega) | omega) _ | refine belowN ?_ _ | refine Below.drew ?_ | refine Below.alloc ?_ (by first | (simp; done) | (simp; omega) | omega) _ | refine Below.trans ?_ (Below.mono (by assumption) (by first | (simp; done) | (simp; omega) | omega))))) lT)).mono ?_
    rintro e w12 ⟨rfl, hb⟩
    have hbi : Below w11.heap.size w11 w12 := by (repeat (first | exact Below.refl _ _ | refine Below.setCell ?_ (by first | (simp; done) | (simp; omega) | omega) _ | refine belowN ?_ _ | refine Below.drew ?_ | refine Below.alloc ?_ (by first | (simp; done) | (simp; omega) | omega) _ | refine Below.trans ?_ (Below.mono (by assumption) (by first | (simp; done) | (simp; omega) | omega))))
    have Tp12 := Lib.hid (Tp11.out.below hbi)
    have Tq12 := Lib.hid (Tq11.out.below hbi)
    have Tm12 := Lib.hid (Tm11.out.below hbi)
    have Tk12 := Lib.hid (Tk11.out.below hbi)
    have B12 : Below w.heap.size w w12 := B11.trans (hbi.mono B11.size)
    have z12 := B12.size
    clear cxp cyp lp cxq cyq lq cxm cym lm cxk cyk lk
    clear hb hbi
    have lp := Tp12.out.lt
    obtain ⟨cxp, cyp, -, -⟩ := Tp12.out
    have lq := Tq12.out.lt
    obtain ⟨cxq, cyq, -, -⟩ := Tq12.out
    have lm := Tm12.out.lt
    obtain ⟨cxm, cym, -, -⟩ := Tm12.out
    have lk := Tk12.out.lt
    obtain ⟨cxk, cyk, -, -⟩ := Tk12.out
    go_wp2_with fail
    refine (RR _ (HT.out.below (B := w.heap.size) (show Below w.heap.size w _ by (repeat (first | exact Below.refl _ _ | refine Below.setCell ?_ (by first | (simp; done) | (simp; omega) | omega) _ | refine belowN ?_ _ | refine Below.drew ?_ | refine Below.alloc ?_ (by first | (simp; done) | (simp; omega) | omega) _ | refine Below.trans ?_ (Below.mono (by assumption) (by first | (simp; done) | (simp; omega) | omega))))) lT) (HE.out.below (B := w.heap.size) (show Below w.heap.size w _ by (repeat (first | exact Below.refl _ _ | refine Below.setCell ?_ (by first | (simp; done) | (simp; omega) | omega) _ | refine belowN ?_ _ | refine Below.drew ?_ | refine Below.alloc ?_ (by first | (simp; done) | (simp; omega) | omega) _ | refine Below.trans ?_ (Below.mono (by assumption) (by first | (simp; done) | (simp; omega) | omega))))) lE1 lE2) (HM.out.below (B := w.heap.size) (show Below w.heap.size w _ by (repeat (first | exact Below.refl _ _ | refine Below.setCell ?_ (by first | (simp; done) | (simp; omega) | omega) _ | refine belowN ?_ _ | refine Below.drew ?_ | refine Below.alloc ?_ (by first | (simp; done) | (simp; omega) | omega) _ | refine Below.trans ?_ (Below.mono (by assumption) (by first | (simp; done) | (simp; omega) | omega))))) lM)).mono ?_
    rintro e w13 ⟨rfl, hb⟩
    have hbi : Below w12.heap.size w12 w13 := by (repeat (first | exact Below.refl _ _ | refine Below.setCell ?_ (by first | (simp; done) | (simp; omega) | omega) _ | refine belowN ?_ _ | refine Below.drew ?_ | refine Below.alloc ?_ (by first | (simp; done) | (simp; omega) | omega) _ | refine Below.trans ?_ (Below.mono (by assumption) (by first | (simp; done) | (simp; omega) | omega))))
    have Tp13 := Lib.hid (Tp12.out.below hbi)
    have Tq13 := Lib.hid (Tq12.out.below hbi)
    have Tm13 := Lib.hid (Tm12.out.below hbi)
    have Tk13 := Lib.hid (Tk12.out.below hbi)
    have B13 : Below w.heap.size w w13 := B12.trans (hbi.mono B12.size)
    have z13 := B13.size
    clear cxp cyp lp cxq cyq lq cxm cym lm cxk cyk lk
    clear hb hbi
    have lp := Tp13.out.lt
    obtain ⟨cxp, cyp, -, -⟩ := Tp13.out
    have lq := Tq13.out.lt
    obtain ⟨cxq, cyq, -, -⟩ := Tq13.out
    have lm := Tm13.out.lt
    obtain ⟨cxm, cym, -, -⟩ := Tm13.out
    have lk := Tk13.out.lt
    obtain ⟨cxk, cyk, -, -⟩ := Tk13.out
    go_wp2_with fail
    have hbi : Below w13.heap.size w13 (w13.alloc (.cells #[.int .i64 x, .int .i64 y] 25)) := (Below.refl _ _).alloc (Nat.le_refl _) _
    have Tp14 := Lib.hid (Tp13.out.below hbi)
    have Tq14 := Lib.hid (Tq13.out.below hbi)
    have Tm14 := Lib.hid (Tm13.out.below hbi)
    have Tk14 := Lib.hid (Tk13.out.below hbi)
    have Tr14 : Hid (Two (w13.alloc (.cells #[.int .i64 x, .int .i64 y] 25)) w13.heap.size (.int .i64 x) (.int .i64 y)) := Lib.hid (Two.new _ _ _ _ rfl)
    have B14 := B13.trans (hbi.mono B13.size)
    have z14 := B14.size
    generalize w13.alloc (.cells #[.int .i64 x, .int .i64 y] 25) = w14 at *
    generalize w13.heap.size = r at *
    clear hbi cxp cyp lp cxq cyq lq cxm cym lm cxk cyk lk
    have lp := Tp14.out.lt
    obtain ⟨cxp, cyp, -, -⟩ := Tp14.out
    have lq := Tq14.out.lt
    obtain ⟨cxq, cyq, -, -⟩ := Tq14.out
    have lm := Tm14.out.lt
    obtain ⟨cxm, cym, -, -⟩ := Tm14.out
    have lk := Tk14.out.lt
    obtain ⟨cxk, cyk, -, -⟩ := Tk14.out
    have lr := Tr14.out.lt
    obtain ⟨cxr, cyr, -, -⟩ := Tr14.out
    refine wp_region_held_drew (S := (fun w' => w'.cell? ⟨w1.heap.size, 0, none⟩ = some (.int .i64 x) ∧ w'.cell? ⟨w1.heap.size, 1, none⟩ = some (.int .i64 y) ∧ w'.cell? ⟨w2.heap.size, 0, none⟩ = some (.int .i64 X) ∧ w'.cell? ⟨w2.heap.size, 1, none⟩ = some (.int .i64 Y) ∧ w'.cell? ⟨m, 0, none⟩ = some (.int .i64 X) ∧ w'.cell? ⟨m, 1, none⟩ = some (.int .i64 Y) ∧ w'.cell? ⟨g, 0, none⟩ = some (.int .i64 x) ∧ w'.cell? ⟨g, 1, none⟩ = some (.int .i64 y) ∧ w'.cell? ⟨r, 0, none⟩ = some (.int .i64 x) ∧ w'.cell? ⟨r, 1, none⟩ = some (.int .i64 y))) (by kernel_rfl) ?_ (fun hHeld => ?_)
    · (try dsimp only)
      (((try go_split_ands); (try dsimp only); (repeat' apply And.intro)) <;> (repeat (first | with_reducible assumption | ((with_reducible refine cnew0 ?_); simp; done) | ((with_reducible refine cnew1 ?_); simp; done) | (with_reducible refine akeep ?_) | (with_reducible refine dkeep ?_) | ((with_reducible refine skeep ?_ ?_); rotate_left; (first | ((try dsimp only); omega) | (simp; done) | (simp; omega))) | (with_reducible refine bkeep hb3 ?_))))
    refine wpAnyH_take (i := 0) (oi := ⟨_, _, _, _, _, _⟩) (v := ?_) rfl (by kernel_rfl) (by kernel_rfl) (by kernel_rfl) (fun _ _ _ h => h) (Or.inl ⟨by rfl, ?_⟩) (by assumption) ?_
    rotate_left
    · (intro w hSw; (try dsimp only at hSw); go_simp; (try with_reducible rfl))
    (try simp only [Act.put, List.setIfInBounds_toArray, List.set_cons_zero, List.set_cons_succ])
    refine wpAnyH_take (i := 1) (oi := ⟨_, _, _, _, _, _⟩) (v := ?_) rfl (by kernel_rfl) (by kernel_rfl) (by kernel_rfl) (fun _ _ _ h => h) (Or.inl ⟨by rfl, ?_⟩) (by assumption) ?_
    rotate_left
    · (intro w hSw; (try dsimp only at hSw); go_simp; (try with_reducible rfl))
    (try simp only [Act.put, List.setIfInBounds_toArray, List.set_cons_zero, List.set_cons_succ])
    refine wpAnyH_take (i := 2) (oi := ⟨_, _, _, _, _, _⟩) (v := ?_) rfl (by kernel_rfl) (by kernel_rfl) (by kernel_rfl) (fun _ _ _ h => h) (Or.inl ⟨by rfl, ?_⟩) (by assumption) ?_
    rotate_left
    · (intro w hSw; (try dsimp only at hSw); go_simp; (try with_reducible rfl))
    (try simp only [Act.put, List.setIfInBounds_toArray, List.set_cons_zero, List.set_cons_succ])
    refine wpAnyH_take (i := 3) (oi := ⟨_, _, _, _, _, _⟩) (v := ?_) rfl (by kernel_rfl) (by kernel_rfl) (by kernel_rfl) (fun _ _ _ h => h) (Or.inl ⟨by rfl, ?_⟩) (by assumption) ?_
    rotate_left
    · (intro w hSw; (try dsimp only at hSw); go_simp; (try with_reducible rfl))
    (try simp only [Act.put, List.setIfInBounds_toArray, List.set_cons_zero, List.set_cons_succ])
    refine wpAnyH_take (i := 4) (oi := ⟨_, _, _, _, _, _⟩) (v := ?_) rfl (by kernel_rfl) (by kernel_rfl) (by kernel_rfl) (fun _ _ _ h => h) (Or.inl ⟨by rfl, ?_⟩) (by assumption) ?_
    rotate_left
    · (intro w hSw; (try dsimp only at hSw); go_simp; (try with_reducible rfl))
    (try simp only [Act.put, List.setIfInBounds_toArray, List.set_cons_zero, List.set_cons_succ])
    refine wpAnyH_take (i := 5) (oi := ⟨_, _, _, _, _, _⟩) (v := ?_) rfl (by kernel_rfl) (by kernel_rfl) (by kernel_rfl) (fun _ _ _ h => h) (Or.inl ⟨by rfl, ?_⟩) (by assumption) ?_
    rotate_left
    · (intro w hSw; (try dsimp only at hSw); go_simp; (try with_reducible rfl))
    (try simp only [Act.put, List.setIfInBounds_toArray, List.set_cons_zero, List.set_cons_succ])
    refine wpAnyH_take (i := 6) (oi := ⟨_, _, _, _, _, _⟩) (v := ?_) rfl (by kernel_rfl) (by kernel_rfl) (by kernel_rfl) (fun _ _ _ h => h) (Or.inl ⟨by rfl, ?_⟩) (by assumption) ?_
    rotate_left
    · (intro w hSw; (try dsimp only at hSw); go_simp; (try with_reducible rfl))
    (try simp only [Act.put, List.setIfInBounds_toArray, List.set_cons_zero, List.set_cons_succ])
    refine wpAnyH_take (i := 7) (oi := ⟨_, _, _, _, _, _⟩) (v := ?_) rfl (by kernel_rfl) (by kernel_rfl) (by kernel_rfl) (fun _ _ _ h => h) (Or.inl ⟨by rfl, ?_⟩) (by assumption) ?_
    rotate_left
    · (intro w hSw; (try dsimp only at hSw); go_simp; (try with_reducible rfl))
    (try simp only [Act.put, List.setIfInBounds_toArray, List.set_cons_zero, List.set_cons_succ])
    refine wpAnyH_take (i := 8) (oi := ⟨_, _, _, _, _, _⟩) (v := ?_) rfl (by kernel_rfl) (by kernel_rfl) (by kernel_rfl) (fun _ _ _ h => h) (Or.inl ⟨by rfl, ?_⟩) (by assumption) ?_
    rotate_left
    · (intro w hSw; (try dsimp only at hSw); go_simp; (try with_reducible rfl))
    (try simp only [Act.put, List.setIfInBounds_toArray, List.set_cons_zero, List.set_cons_succ])
    refine wpAnyH_take (i := 9) (oi := ⟨_, _, _, _, _, _⟩) (v := ?_) rfl (by kernel_rfl) (by kernel_rfl) (by kernel_rfl) (fun _ _ _ h => h) (Or.inl ⟨by rfl, ?_⟩) (by assumption) ?_
    rotate_left
    · (intro w hSw; (try dsimp only at hSw); go_simp; (try with_reducible rfl))
    (try simp only [Act.put, List.setIfInBounds_toArray, List.set_cons_zero, List.set_cons_succ])
    refine wpAnyH_take (i := 10) (oi := ⟨_, _, _, _, _, _⟩) (v := ?_) rfl (by kernel_rfl) (by kernel_rfl) (by kernel_rfl) (fun _ _ _ h => h) (Or.inl ⟨by rfl, ?_⟩) (by assumption) ?_
    rotate_left
    · (intro w hSw; (try dsimp only at hSw); go_simp; (try with_reducible rfl))
    (try simp only [Act.put, List.setIfInBounds_toArray, List.set_cons_zero, List.set_cons_succ])
    refine wpAnyH_take (i := 11) (oi := ⟨_, _, _, _, _, _⟩) (v := ?_) rfl (by kernel_rfl) (by kernel_rfl) (by kernel_rfl) (fun _ _ _ h => h) (Or.inl ⟨by rfl, ?_⟩) (by assumption) ?_
    rotate_left
    · (intro w hSw; (try dsimp only at hSw); go_simp; (try with_reducible rfl))
    (try simp only [Act.put, List.setIfInBounds_toArray, List.set_cons_zero, List.set_cons_succ])
    refine wpAnyH_take (i := 12) (oi := ⟨_, _, _, _, _, _⟩) (v := ?_) rfl (by kernel_rfl) (by kernel_rfl) (by kernel_rfl) (fun _ _ _ h => h) (Or.inl ⟨by rfl, ?_⟩) (by assumption) ?_
    rotate_left
    · (intro w hSw; (try dsimp only at hSw); go_simp; (try with_reducible rfl))
    (try simp only [Act.put, List.setIfInBounds_toArray, List.set_cons_zero, List.set_cons_succ])
    refine wpAnyH_take (i := 13) (oi := ⟨_, _, _, _, _, _⟩) (v := ?_) rfl (by kernel_rfl) (by kernel_rfl) (by kernel_rfl) (fun _ _ _ h => h) (Or.inl ⟨by rfl, ?_⟩) (by assumption) ?_
    rotate_left
    · (intro w hSw; (try dsimp only at hSw); go_simp; (try with_reducible rfl))
    (try simp only [Act.put, List.setIfInBounds_toArray, List.set_cons_zero, List.set_cons_succ])
    refine wpAnyH_take (i := 14) (oi := ⟨_, _, _, _, _, _⟩) (v := ?_) rfl (by kernel_rfl) (by kernel_rfl) (by kernel_rfl) (fun _ _ _ h => h) (Or.inl ⟨by rfl, ?_⟩) (by assumption) ?_
    rotate_left
    · (intro w hSw; (try dsimp only at hSw); go_simp; (try with_reducible rfl))
    (try simp only [Act.put, List.setIfInBounds_toArray, List.set_cons_zero, List.set_cons_succ])
    refine wpAnyH_take (i := 15) (oi := ⟨_, _, _, _, _, _⟩) (v := ?_) rfl (by kernel_rfl) (by kernel_rfl) (by kernel_rfl) (fun _ _ _ h => h) (Or.inl ⟨by rfl, ?_⟩) (by assumption) ?_
    rotate_left
    · (intro w hSw; (try dsimp only at hSw); go_simp; (try with_reducible rfl))
    (try simp only [Act.put, List.setIfInBounds_toArray, List.set_cons_zero, List.set_cons_succ])
    refine wpAnyH_take (i := 16) (oi := ⟨_, _, _, _, _, _⟩) (v := ?_) rfl (by kernel_rfl) (by kernel_rfl) (by kernel_rfl) (fun _ _ _ h => h) (Or.inl ⟨by rfl, ?_⟩) (by assumption) ?_
    rotate_left
    · (intro w hSw; (try dsimp only at hSw); go_simp; (try with_reducible rfl))
    (try simp only [Act.put, List.setIfInBounds_toArray, List.set_cons_zero, List.set_cons_succ])
    refine wpAnyH_take (i := 17) (oi := ⟨_, _, _, _, _, _⟩) (v := ?_) rfl (by kernel_rfl) (by kernel_rfl) (by kernel_rfl) (fun _ _ _ h => h) (Or.inl ⟨by rfl, ?_⟩) (by assumption) ?_
    rotate_left
    · (intro w hSw; (try dsimp only at hSw); go_simp; (try with_reducible rfl))
    (try simp only [Act.put, List.setIfInBounds_toArray, List.set_cons_zero, List.set_cons_succ])
    refine wpAnyH_take (i := 18) (oi := ⟨_, _, _, _, _, _⟩) (v := ?_) rfl (by kernel_rfl) (by kernel_rfl) (by kernel_rfl) (fun _ _ _ h => h) (Or.inl ⟨by rfl, ?_⟩) (by assumption) ?_
    rotate_left
    · (intro w hSw; (try dsimp only at hSw); go_simp; (try with_reducible rfl))
    (try simp only [Act.put, List.setIfInBounds_toArray, List.set_cons_zero, List.set_cons_succ])
    refine wpAnyH_take (i := 19) (oi := ⟨_, _, _, _, _, _⟩) (v := ?_) rfl (by kernel_rfl) (by kernel_rfl) (by kernel_rfl) (fun _ _ _ h => h) (Or.inl ⟨by rfl, ?_⟩) (by assumption) ?_
    rotate_left
    · (intro w hSw; (try dsimp only at hSw); go_simp; (try with_reducible rfl))
    (try simp only [Act.put, List.setIfInBounds_toArray, List.set_cons_zero, List.set_cons_succ])
    refine wpAnyH_take (i := 20) (oi := ⟨_, _, _, _, _, _⟩) (v := ?_) rfl (by kernel_rfl) (by kernel_rfl) (by kernel_rfl) (fun _ _ _ h => h) (Or.inl ⟨by rfl, ?_⟩) (by assumption) ?_
    rotate_left
    · (intro w hSw; (try dsimp only at hSw); go_simp; (try with_reducible rfl))
    (try simp only [Act.put, List.setIfInBounds_toArray, List.set_cons_zero, List.set_cons_succ])
    refine wpAnyH_take (i := 21) (oi := ⟨_, _, _, _, _, _⟩) (v := ?_) rfl (by kernel_rfl) (by kernel_rfl) (by kernel_rfl) (fun _ _ _ h => h) (Or.inl ⟨by rfl, ?_⟩) (by assumption) ?_
    rotate_left
    · (intro w hSw; (try dsimp only at hSw); go_simp; (try with_reducible rfl))
    (try simp only [Act.put, List.setIfInBounds_toArray, List.set_cons_zero, List.set_cons_succ])
    refine wpAnyH_take (i := 22) (oi := ⟨_, _, _, _, _, _⟩) (v := ?_) rfl (by kernel_rfl) (by kernel_rfl) (by kernel_rfl) (fun _ _ _ h => h) (Or.inl ⟨by rfl, ?_⟩) (by assumption) ?_
    rotate_left
    · (intro w hSw; (try dsimp only at hSw); go_simp; (try with_reducible rfl))
    (try simp only [Act.put, List.setIfInBounds_toArray, List.set_cons_zero, List.set_cons_succ])
    refine wpAnyH_ready (rs := [23]) (by kernel_rfl) (by simp) ?_
    refine AllReadyH.cons (o := ⟨_, _, _, _, _, _⟩) rfl (fun K hK => ?_) AllReadyH.nil
    go_simp
    (go_at_call 10; refine (RO _).mono ?_; rintro e w15 ⟨rfl, rfl⟩)
    refine hK.out _ _ ?_ (fun hHeld => ?_)
    · (try dsimp only)
      (((try go_split_ands); (try dsimp only); (repeat' apply And.intro)) <;> (repeat (first | with_reducible assumption | ((with_reducible refine cnew0 ?_); simp; done) | ((with_reducible refine cnew1 ?_); simp; done) | (with_reducible refine akeep ?_) | (with_reducible refine dkeep ?_) | ((with_reducible refine skeep ?_ ?_); rotate_left; (first | ((try dsimp only); omega) | (simp; done) | (simp; omega))) | (with_reducible refine bkeep hb3 ?_))))
    clear hK K
    (try simp only [Act.put, List.setIfInBounds_toArray, List.set_cons_zero, List.set_cons_succ])
    refine wpAnyH_take (i := 24) (oi := ⟨_, _, _, _, _, _⟩) (v := ?_) rfl (by kernel_rfl) (by kernel_rfl) (by kernel_rfl) (fun _ _ _ h => h) (Or.inl ⟨by rfl, ?_⟩) (by assumption) ?_
    rotate_left
    · (intro w hSw; (try dsimp only at hSw); go_simp; (try with_reducible rfl))
    (try simp only [Act.put, List.setIfInBounds_toArray, List.set_cons_zero, List.set_cons_succ])
    refine wpAnyH_take (i := 25) (oi := ⟨_, _, _, _, _, _⟩) (v := ?_) rfl (by kernel_rfl) (by kernel_rfl) (by kernel_rfl) (fun _ _ _ h => h) (Or.inl ⟨by rfl, ?_⟩) (by assumption) ?_
    rotate_left
    · (intro w hSw; (try dsimp only at hSw); go_simp; (try with_reducible rfl))
    (try simp only [Act.put, List.setIfInBounds_toArray, List.set_cons_zero, List.set_cons_succ])
    refine wpAnyH_take (i := 26) (oi := ⟨_, _, _, _, _, _⟩) (v := ?_) rfl (by kernel_rfl) (by kernel_rfl) (by kernel_rfl) (fun _ _ _ h => h) (Or.inl ⟨by rfl, ?_⟩) (by assumption) ?_
    rotate_left
    · (intro w hSw; (try dsimp only at hSw); go_simp; (try with_reducible rfl))
    (try simp only [Act.put, List.setIfInBounds_toArray, List.set_cons_zero, List.set_cons_succ])
    refine wpAnyH_take (i := 27) (oi := ⟨_, _, _, _, _, _⟩) (v := ?_) rfl (by kernel_rfl) (by kernel_rfl) (by kernel_rfl) (fun _ _ _ h => h) (Or.inl ⟨by rfl, ?_⟩) (by assumption) ?_
    rotate_left
    · (intro w hSw; (try dsimp only at hSw); go_simp; (try with_reducible rfl))
    (try simp only [Act.put, List.setIfInBounds_toArray, List.set_cons_zero, List.set_cons_succ])
    refine wpAnyH_take (i := 28) (oi := ⟨_, _, _, _, _, _⟩) (v := ?_) rfl (by kernel_rfl) (by kernel_rfl) (by kernel_rfl) (fun _ _ _ h => h) (Or.inl ⟨by rfl, ?_⟩) (by assumption) ?_
    rotate_left
    · (intro w hSw; (try dsimp only at hSw); go_simp; (try with_reducible rfl))
    (try simp only [Act.put, List.setIfInBounds_toArray, List.set_cons_zero, List.set_cons_succ])
    refine wpAnyH_take (i := 29) (oi := ⟨_, _, _, _, _, _⟩) (v := ?_) rfl (by kernel_rfl) (by kernel_rfl) (by kernel_rfl) (fun _ _ _ h => h) (Or.inl ⟨by rfl, ?_⟩) (by assumption) ?_
    rotate_left
    · (intro w hSw; (try dsimp only at hSw); go_simp; (try with_reducible rfl))
    (try simp only [Act.put, List.setIfInBounds_toArray, List.set_cons_zero, List.set_cons_succ])
    refine wpAnyH_take (i := 30) (oi := ⟨_, _, _, _, _, _⟩) (v := ?_) rfl (by kernel_rfl) (by kernel_rfl) (by kernel_rfl) (fun _ _ _ h => h) (Or.inl ⟨by rfl, ?_⟩) (by assumption) ?_
    rotate_left
    · (intro w hSw; (try dsimp only at hSw); go_simp; (try with_reducible rfl))
    (try simp only [Act.put, List.setIfInBounds_toArray, List.set_cons_zero, List.set_cons_succ])
    refine wpAnyH_take (i := 31) (oi := ⟨_, _, _, _, _, _⟩) (v := ?_) rfl (by kernel_rfl) (by kernel_rfl) (by kernel_rfl) (fun _ _ _ h => h) (Or.inl ⟨by rfl, ?_⟩) (by assumption) ?_
    rotate_left
    · (intro w hSw; (try dsimp only at hSw); go_simp; (try with_reducible rfl))
    (try simp only [Act.put, List.setIfInBounds_toArray, List.set_cons_zero, List.set_cons_succ])
    refine wpAnyH_take (i := 32) (oi := ⟨_, _, _, _, _, _⟩) (v := ?_) rfl (by kernel_rfl) (by kernel_rfl) (by kernel_rfl) (fun _ _ _ h => h) (Or.inl ⟨by rfl, ?_⟩) (by assumption) ?_
    rotate_left
    · (intro w hSw; (try dsimp only at hSw); go_simp; (try with_reducible rfl))
    (try simp only [Act.put, List.setIfInBounds_toArray, List.set_cons_zero, List.set_cons_succ])
    refine wpAnyH_take (i := 33) (oi := ⟨_, _, _, _, _, _⟩) (v := ?_) rfl (by kernel_rfl) (by kernel_rfl) (by kernel_rfl) (fun _ _ _ h => h) (Or.inl ⟨by rfl, ?_⟩) (by assumption) ?_
    rotate_left
    · (intro w hSw; (try dsimp only at hSw); go_simp; (try with_reducible rfl))
    (try simp only [Act.put, List.setIfInBounds_toArray, List.set_cons_zero, List.set_cons_succ])
    refine wpAnyH_take (i := 34) (oi := ⟨_, _, _, _, _, _⟩) (v := ?_) rfl (by kernel_rfl) (by kernel_rfl) (by kernel_rfl) (fun _ _ _ h => h) (Or.inl ⟨by rfl, ?_⟩) (by assumption) ?_
    rotate_left
    · (intro w hSw; (try dsimp only at hSw); go_simp; (try with_reducible rfl))
    (try simp only [Act.put, List.setIfInBounds_toArray, List.set_cons_zero, List.set_cons_succ])
    refine wpAnyH_take (i := 35) (oi := ⟨_, _, _, _, _, _⟩) (v := ?_) rfl (by kernel_rfl) (by kernel_rfl) (by kernel_rfl) (fun _ _ _ h => h) (Or.inl ⟨by rfl, ?_⟩) (by assumption) ?_
    rotate_left
    · (intro w hSw; (try dsimp only at hSw); go_simp; (try with_reducible rfl))
    (try simp only [Act.put, List.setIfInBounds_toArray, List.set_cons_zero, List.set_cons_succ])
    refine wpAnyH_take (i := 36) (oi := ⟨_, _, _, _, _, _⟩) (v := ?_) rfl (by kernel_rfl) (by kernel_rfl) (by kernel_rfl) (fun _ _ _ h => h) (Or.inl ⟨by rfl, ?_⟩) (by assumption) ?_
    rotate_left
    · (intro w hSw; (try dsimp only at hSw); go_simp; (try with_reducible rfl))
    (try simp only [Act.put, List.setIfInBounds_toArray, List.set_cons_zero, List.set_cons_succ])
    refine wpAnyH_take (i := 38) (oi := ⟨_, _, _, _, _, _⟩) (v := ?_) rfl (by kernel_rfl) (by kernel_rfl) (by kernel_rfl) (fun _ _ _ h => h) (Or.inl ⟨by rfl, ?_⟩) (by assumption) ?_
    rotate_left
    · (intro w hSw; (try dsimp only at hSw); go_simp; (try with_reducible rfl))
    (try simp only [Act.put, List.setIfInBounds_toArray, List.set_cons_zero, List.set_cons_succ])
    refine wpAnyH_take (i := 39) (oi := ⟨_, _, _, _, _, _⟩) (v := ?_) rfl (by kernel_rfl) (by kernel_rfl) (by kernel_rfl) (fun _ _ _ h => h) (Or.inl ⟨by rfl, ?_⟩) (by assumption) ?_
    rotate_left
    · (intro w hSw; (try dsimp only at hSw); go_simp; (try with_reducible rfl))
    (try simp only [Act.put, List.setIfInBounds_toArray, List.set_cons_zero, List.set_cons_succ])
    refine wpAnyH_ready (rs := [37]) (by kernel_rfl) (by simp) ?_
    refine AllReadyH.cons (o := ⟨_, _, _, _, _, _⟩) rfl (fun K hK => ?_) AllReadyH.nil
    go_simp
    (go_at_call 13; refine (RL _).mono ?_; rintro e w16 ⟨rfl, hb3⟩; have s16 : w14.heap.size ≤ w16.heap.size := hb3.size)
    refine hK.out _ _ ?_ (fun hHeld => ?_)
    · (try dsimp only)
      (((try go_split_ands); (try dsimp only); (repeat' apply And.intro)) <;> (repeat (first | with_reducible assumption | ((with_reducible refine cnew0 ?_); simp; done) | ((with_reducible refine cnew1 ?_); simp; done) | (with_reducible refine akeep ?_) | (with_reducible refine dkeep ?_) | ((with_reducible refine skeep ?_ ?_); rotate_left; (first | ((try dsimp only); omega) | (simp; done) | (simp; omega))) | (with_reducible refine bkeep hb3 ?_))))
    clear hK K
    (try simp only [Act.put, List.setIfInBounds_toArray, List.set_cons_zero, List.set_cons_succ])
    refine wpAnyH_ready (rs := [40]) (by kernel_rfl) (by simp) ?_
    refine AllReadyH.cons (o := ⟨_, _, _, _, _, _⟩) rfl (fun K hK => ?_) AllReadyH.nil
    go_simp
    (go_at_call 13; refine (RM _).mono ?_; rintro e w17 ⟨rfl, hb3⟩)
    refine hK.out _ _ ?_ (fun hHeld => ?_)
    · (try dsimp only)
      (((try go_split_ands); (try dsimp only); (repeat' apply And.intro)) <;> (repeat (first | with_reducible assumption | ((with_reducible refine cnew0 ?_); simp; done) | ((with_reducible refine cnew1 ?_); simp; done) | (with_reducible refine akeep ?_) | (with_reducible refine dkeep ?_) | ((with_reducible refine skeep ?_ ?_); rotate_left; (first | ((try dsimp only); omega) | (simp; done) | (simp; omega))) | (with_reducible refine bkeep hb3 ?_))))
    clear hK K
    (try simp only [Act.put, List.setIfInBounds_toArray, List.set_cons_zero, List.set_cons_succ])
    refine wpAnyH_take (i := 41) (oi := ⟨_, _, _, _, _, _⟩) (v := ?_) rfl (by kernel_rfl) (by kernel_rfl) (by kernel_rfl) (fun _ _ _ h => h) (Or.inl ⟨by rfl, ?_⟩) (by assumption) ?_
    rotate_left
    · (intro w hSw; (try dsimp only at hSw); go_simp; (try with_reducible rfl))
    (try simp only [Act.put, List.setIfInBounds_toArray, List.set_cons_zero, List.set_cons_succ])
    refine wpAnyH_take (i := 42) (oi := ⟨_, _, _, _, _, _⟩) (v := ?_) rfl (by kernel_rfl) (by kernel_rfl) (by kernel_rfl) (fun _ _ _ h => h) (Or.inl ⟨by rfl, ?_⟩) (by assumption) ?_
    rotate_left
    · (intro w hSw; (try dsimp only at hSw); go_simp; (try with_reducible rfl))
    (try simp only [Act.put, List.setIfInBounds_toArray, List.set_cons_zero, List.set_cons_succ])
    refine wpAnyH_take (i := 43) (oi := ⟨_, _, _, _, _, _⟩) (v := ?_) rfl (by kernel_rfl) (by kernel_rfl) (by kernel_rfl) (fun _ _ _ h => h) (Or.inl ⟨by rfl, ?_⟩) (by assumption) ?_
    rotate_left
    · (intro w hSw; (try dsimp only at hSw); go_simp; (try with_reducible rfl))
    (try simp only [Act.put, List.setIfInBounds_toArray, List.set_cons_zero, List.set_cons_succ])
    refine wpAnyH_done (by kernel_rfl) ?_ _
    have B17 := B14.trans ((show Below w14.heap.size w14 w17 by (repeat (first | exact Below.refl _ _ | refine Below.setCell ?_ (by first | (simp; done) | (simp; omega) | omega) _ | refine belowN ?_ _ | refine Below.drew ?_ | refine Below.alloc ?_ (by first | (simp; done) | (simp; omega) | omega) _ | refine Below.trans ?_ (Below.mono (by assumption) (by first | (simp; done) | (simp; omega) | omega))))).mono B14.size)
    go_wp2_with fail
    go_ret
    exact ⟨ret_bool H8.out, B17⟩
end Go.Proofs.YtlfobdnjjbhehaaDoor
