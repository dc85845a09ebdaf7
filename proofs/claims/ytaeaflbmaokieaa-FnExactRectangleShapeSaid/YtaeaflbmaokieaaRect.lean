/-
  Rectangles of points, the model's and the program's. Conditions: each theorem's own.
-/
import Derived.Test.YtaeaflbmaokieaaShV
import Derived.Test.YtaeaflbmaokieaaStepA
import Derived.Laws.AppendOwn
import Derived.Laws.AppendOwnNone
namespace Go.Proofs.Ytaeaflbmaokieaa
open Go.RowKit

/-- Point i of a block of width a whose first point is (x, y). -/
def blkC (a : Nat) (x y : Int) (i j : Nat) : Int := if j = 0 then x + (i : Int) % (a : Int) else y + (i : Int) / (a : Int)
/-- RectangleShape's code and points. -/
def rcC (a b : Int) : Int := if inB a 1 60 = true ∧ inB b 1 60 = true then (if 500 < a * b then 4 else 0) else 2
def rcR (a b : Int) : Cols := ⟨if rcC a b = 0 then (a * b).toNat else 0, blkC a.toNat 0 0⟩
theorem rcC_len {a b : Int} (h : rcC a b = 0) : 0 ≤ a * b ∧ a * b ≤ 500 ∧ (1 ≤ a ∧ a ≤ 60) ∧ (1 ≤ b ∧ b ≤ 60) := by
  unfold rcC at h
  split at h
  · rename_i hh
    have h1 := inB_iff.1 hh.1
    have h2 := inB_iff.1 hh.2
    split at h
    · simp at h
    · exact ⟨Int.mul_nonneg (by omega) (by omega), by omega, h1, h2⟩
  · simp at h
theorem smallRectangleShape {a b : Int} : (rcR a b).n ≤ 1048576 := by
  unfold rcR
  dsimp only
  split
  · rename_i h
    have := rcC_len h
    omega
  · exact Nat.zero_le _
/-- A call that returns a list of points in new memory, and a code. -/
def QcPost (W : World) (D : Cols) (c : Int) (e : Ending) (w' : World) : Prop := ∃ v, e = .returned (.tuple #[v, .int .i64 c]) ∧ OwnQ w' W.heap.size w'.heap.size v D
theorem qc_nil {W w' : World} {D : Cols} {c d : Int} (h : d = c) (h0 : D.n = 0) : QcPost W D c (.returned (.tuple #[.slice none 0 0, .int .i64 d])) w' := ⟨.slice none 0 0, by rw [h], .inl ⟨rfl, h0⟩⟩

theorem withinSize_any (n : Int) (w : World) : Calls Try.prog 75 #[.int .i64 n] w fun e w' => e = .returned (.bool (inB n 1 60)) ∧ w = w' := by
  by_cases h : 1 ≤ n
  all_goals
    go_enter Try.func75, Try.ntmps75
    go_wp2
    go_ret
    exact ⟨ret_bool (by unfold inB; first | rw [decide_eq_true h, Bool.true_and] | rw [decide_eq_false (show ¬ 1 ≤ n by omega), Bool.false_and]), rfl⟩

set_option maxRecDepth 100000 in
set_option maxHeartbeats 2000000 in
set_option linter.unusedSimpArgs false in
theorem specRectangleShape_law (a b : Int) (w : World) :
    Calls Try.prog 37 #[.int .i64 a, .int .i64 b] w fun e w' => QcPost w (rcR a b) (rcC a b) e w' ∧ Below w.heap.size w w' := by
  cases ha : inB a 1 60
  · have K := Lib.hid (show rcC a b = 2 by unfold rcC; rw [if_neg (by rw [ha]; simp)])
    go_enter Try.func37, Try.ntmps37
    go_wp2_with (go_at_call 47; refine (l00In_any _ _ _ _).mono ?_; rintro e w2 ⟨rfl, rfl⟩; rw [ha])
    refine bodyPost_ret (v := .tuple #[.slice none 0 0, .int .i64 2]) (by simp [results, Try.results37, go_sem]) rfl ⟨qc_nil K.out.symm (by unfold rcR; rw [K.out]; rfl), Below.refl _ _⟩
  cases hb : inB b 1 60
  · have K := Lib.hid (show rcC a b = 2 by unfold rcC; rw [if_neg (by rw [hb]; simp)])
    go_enter Try.func37, Try.ntmps37
    go_wp2_with (go_at_call 47; refine (l00In_any _ _ _ _).mono ?_; rintro e w2 ⟨rfl, rfl⟩; first | rw [ha] | rw [hb])
    refine bodyPost_ret (v := .tuple #[.slice none 0 0, .int .i64 2]) (by simp [results, Try.results37, go_sem]) rfl ⟨qc_nil K.out.symm (by unfold rcR; rw [K.out]; rfl), Below.refl _ _⟩
  have h1 := inB_iff.1 ha
  have h2 := inB_iff.1 hb
  obtain ⟨x, rfl⟩ : ∃ x : Nat, a = x := ⟨a.toNat, by omega⟩
  obtain ⟨y, rfl⟩ : ∃ y : Nat, b = y := ⟨b.toNat, by omega⟩
  have hxy : x * y ≤ 60 * 60 := Nat.mul_le_mul (by omega) (by omega)
  obtain ⟨p, hp⟩ : ∃ p, p = x * y := ⟨_, rfl⟩
  have HP := Lib.hid hp
  have e1 : (x : Int) * (y : Int) = (p : Int) := by rw [hp]; simp
  have e2 : IntKind.i64.wrap ((x : Int) * (y : Int)) = (p : Int) := by rw [e1]; exact IntWalk.i64_in _ (by omega)
  have hp2 : p ≤ 3600 := by omega
  clear hp hxy
  by_cases h5 : 500 < p
  · have K := Lib.hid (show rcC x y = 4 by unfold rcC; rw [if_pos ⟨ha, hb⟩, if_pos (by omega)])
    have hd : decide ((500 : Int) < (p : Int)) = true := by simp; omega
    go_enter Try.func37, Try.ntmps37
    go_wp2_with (go_at_call 47; refine (l00In_any _ _ _ _).mono ?_; rintro e w2 ⟨rfl, rfl⟩; first | rw [ha] | rw [hb])
    refine bodyPost_ret (v := .tuple #[.slice none 0 0, .int .i64 4]) (by simp [results, Try.results37, go_sem]) rfl ⟨qc_nil K.out.symm (by unfold rcR; rw [K.out]; rfl), Below.refl _ _⟩
  have K := Lib.hid (show rcC x y = 0 by unfold rcC; rw [if_pos ⟨ha, hb⟩, if_neg (by omega)])
  have hd : decide ((500 : Int) < (p : Int)) = false := by simp; omega
  obtain ⟨i0, hi, hz0, hz1, hz2⟩ := info_parts info_point
  go_enter Try.func37, Try.ntmps37
  go_wp2_with (go_at_call 47; refine (l00In_any _ _ _ _).mono ?_; rintro e w2 ⟨rfl, rfl⟩; first | rw [ha] | rw [hb])
  go_loopw [6, 7] (fun v i wr => ∃ (k : Nat) (z : Value), k ≤ p ∧ i = .int .i64 k ∧ z = v ∧ wr.ownsRow w.heap.size 34 2 z k (cRow 2 (blkC x 0 0) k) ∧ Below w.heap.size w wr) (fun _ i _ => p - (intOf i).toNat)
  case atStart => exact ⟨0, _, by omega, rfl, rfl, World.ownsRow_lit _ _ _ (Nat.le_refl _) (by unfold maxLen; omega) rfl, by (repeat (first | exact Below.refl _ _ | refine Below.setCell ?_ (by first | (simp; done) | (simp; omega) | omega) _ | refine belowN ?_ _ | refine Below.drew ?_ | refine Below.alloc ?_ (by first | (simp; done) | (simp; omega) | omega) _ | refine Below.trans ?_ (Below.mono (by assumption) (by first | (simp; done) | (simp; omega) | omega))))⟩
  case round =>
    obtain ⟨k, z, hk, rfl, rfl, hown, hbw⟩ := hrel
    have sw := hbw.size
    by_cases hlt : k < p
    · have bx : ¬ x = 0 := by omega
      have t1 : (k : Int).tmod (x : Int) = (k : Int) % (x : Int) := Int.tmod_eq_emod_of_nonneg (by omega)
      have t2 : (k : Int).tdiv (x : Int) = (k : Int) / (x : Int) := Int.tdiv_eq_ediv_of_nonneg (by omega)
      have hq : (k : Int) / (x : Int) ≤ (k : Int) := Int.ediv_le_self _ (by omega)
      have hq0 : 0 ≤ (k : Int) / (x : Int) := Int.ediv_nonneg (by omega) (by omega)
      have t3 : IntKind.i64.wrap ((k : Int) / (x : Int)) = (k : Int) / (x : Int) := IntWalk.i64_in _ (by omega)
      have hT : True := trivial
      have HC : Hid (cCells 2 (blkC x 0 0) k = [.int .i64 ((k : Int) % (x : Int)), .int .i64 ((k : Int) / (x : Int))]) := Lib.hid (by simp [cCells, List.range_succ, blkC])
      clear hq hq0
      go_wp2_with fail
      refine wp_region_held_drew (S := (fun w' => Hid (p = x * y))) (by kernel_rfl) ?_ (fun hHeld => ?_)
      · (try dsimp only)
        (((try go_split_ands); (try dsimp only); (repeat' apply And.intro)) <;> (repeat (first | with_reducible assumption | ((with_reducible refine cnew0 ?_); simp; done) | ((with_reducible refine cnew1 ?_); simp; done) | (with_reducible refine akeep ?_) | (with_reducible refine dkeep ?_) | ((with_reducible refine skeep ?_ ?_); rotate_left; (first | ((try dsimp only); omega) | (simp; done) | (simp; omega))) | (with_reducible refine bkeep hb3 ?_))))
      refine wpAnyH_take (i := 0) (oi := ⟨_, _, _, _, _, _⟩) (v := ?_) rfl (by kernel_rfl) (by kernel_rfl) (by kernel_rfl) (fun _ _ _ h => h) (Or.inl ⟨by rfl, ?_⟩) (by assumption) ?_
      rotate_left
      · (intro w hSw; (try dsimp only at hSw); go_simp; (try with_reducible rfl))
      (try simp only [Act.put, List.setIfInBounds_toArray, List.set_cons_zero, List.set_cons_succ])
      refine wpAnyH_take (i := 1) (oi := ⟨_, _, _, _, _, _⟩) (v := ?_) rfl (by kernel_rfl) (by kernel_rfl) (by kernel_rfl) (fun _ _ _ h => h) (Or.inl ⟨by rfl, ?_⟩) (by assumption) ?_
      rotate_left
      · (intro w hSw; (try dsimp only at hSw); go_simp; (try with_reducible rfl))
      (try simp only [Act.put, List.setIfInBounds_toArray, List.set_cons_zero, List.set_cons_succ])
      refine wpAnyH_take (i := 2) (oi := ⟨_, _, _, _, _, _⟩) (v := ?_) rfl (by kernel_rfl) (by kernel_rfl) (by kernel_rfl) (fun _ _ _ h => h) (Or.inl ⟨by rfl, ?_⟩) (by assumption) ?_
      rotate_left
      · (intro w hSw; (try dsimp only at hSw); go_simp; (try with_reducible rfl))
      (try simp only [Act.put, List.setIfInBounds_toArray, List.set_cons_zero, List.set_cons_succ])
      refine wpAnyH_take (i := 3) (oi := ⟨_, _, _, _, _, _⟩) (v := ?_) rfl (by kernel_rfl) (by kernel_rfl) (by kernel_rfl) (fun _ _ _ h => h) (Or.inl ⟨by rfl, ?_⟩) (by assumption) ?_
      rotate_left
      · (intro w hSw; (try dsimp only at hSw); go_simp; (try with_reducible rfl))
      (try simp only [Act.put, List.setIfInBounds_toArray, List.set_cons_zero, List.set_cons_succ])
      refine wpAnyH_take (i := 4) (oi := ⟨_, _, _, _, _, _⟩) (v := ?_) rfl (by kernel_rfl) (by kernel_rfl) (by kernel_rfl) (fun _ _ _ h => h) (Or.inl ⟨by rfl, ?_⟩) (by assumption) ?_
      rotate_left
      · (intro w hSw; (try dsimp only at hSw); go_simp; (try with_reducible rfl))
      (try simp only [Act.put, List.setIfInBounds_toArray, List.set_cons_zero, List.set_cons_succ])
      refine wpAnyH_take (i := 5) (oi := ⟨_, _, _, _, _, _⟩) (v := ?_) rfl (by kernel_rfl) (by kernel_rfl) (by kernel_rfl) (fun _ _ _ h => h) (Or.inl ⟨by rfl, ?_⟩) (by assumption) ?_
      rotate_left
      · (intro w hSw; (try dsimp only at hSw); go_simp; (try with_reducible rfl))
      (try simp only [Act.put, List.setIfInBounds_toArray, List.set_cons_zero, List.set_cons_succ])
      refine wpAnyH_take (i := 6) (oi := ⟨_, _, _, _, _, _⟩) (v := ?_) rfl (by kernel_rfl) (by kernel_rfl) (by kernel_rfl) (fun _ _ _ h => h) (Or.inl ⟨by rfl, ?_⟩) (by assumption) ?_
      rotate_left
      · (intro w hSw; (try dsimp only at hSw); go_simp; (try with_reducible rfl))
      (try simp only [Act.put, List.setIfInBounds_toArray, List.set_cons_zero, List.set_cons_succ])
      refine wpAnyH_take (i := 7) (oi := ⟨_, _, _, _, _, _⟩) (v := ?_) rfl (by kernel_rfl) (by kernel_rfl) (by kernel_rfl) (fun _ _ _ h => h) (Or.inl ⟨by rfl, ?_⟩) (by assumption) ?_
      rotate_left
      · (intro w hSw; (try dsimp only at hSw); go_simp; (try with_reducible rfl))
      (try simp only [Act.put, List.setIfInBounds_toArray, List.set_cons_zero, List.set_cons_succ])
      refine wpAnyH_ready (rs := [8]) (by kernel_rfl) (by simp) ?_
      refine AllReadyH.cons (o := ⟨_, _, _, _, _, _⟩) rfl (fun K hK => ?_) AllReadyH.nil
      go_simp
      skip
      refine hK.out _ _ ?_ (fun hHeld => ?_)
      · (try dsimp only)
        (((try go_split_ands); (try dsimp only); (repeat' apply And.intro)) <;> (repeat (first | with_reducible assumption | ((with_reducible refine cnew0 ?_); simp; done) | ((with_reducible refine cnew1 ?_); simp; done) | (with_reducible refine akeep ?_) | (with_reducible refine dkeep ?_) | ((with_reducible refine skeep ?_ ?_); rotate_left; (first | ((try dsimp only); omega) | (simp; done) | (simp; omega))) | (with_reducible refine bkeep hb3 ?_))))
      clear hK K
      (try simp only [Act.put, List.setIfInBounds_toArray, List.set_cons_zero, List.set_cons_succ])
      refine wpAnyH_ready (rs := [9]) (by kernel_rfl) (by simp) ?_
      refine AllReadyH.cons (o := ⟨_, _, _, _, _, _⟩) rfl (fun K hK => ?_) AllReadyH.nil
      refine step_append_own _ rfl _ _ 50 rfl w.heap.size 34 i0 (.agg #[.int .i64 0, .int .i64 0]) 2 16 Try.underlying50 hi hz0 hz1 hz2 rfl (by decide) _ _ _ rfl (ownsRow_keep hown (by (repeat (first | exact Below.refl _ _ | refine Below.setCell ?_ (by first | (simp; done) | (simp; omega) | omega) _ | refine belowN ?_ _ | refine Below.drew ?_ | refine Below.alloc ?_ (by first | (simp; done) | (simp; omega) | omega) _ | refine Below.trans ?_ (Below.mono (by assumption) (by first | (simp; done) | (simp; omega) | omega)))))) ⟨wr.heap.size, 0, none⟩ 1 1 (cCells 2 (blkC x 0 0) k) rfl (by rw [HC.out]; rfl) (by rw [HC.out]; exact World.news_of_block (cs := #[.int .i64 ((k : Int) % (x : Int)), .int .i64 ((k : Int) / (x : Int))]) (t := 34) (fr := (0, 0)) (heap_alloc_new _ _)) (cCells_one 2 (blkC x 0 0) k) (maxLen_of (by omega)) (by omega) (by first | (simp; done) | (simp; omega) | omega) ?_; intro v' w2 hown2 hgrow2
      refine hK.out _ _ ?_ (fun hHeld => ?_)
      · (try dsimp only)
        (((try go_split_ands); (try dsimp only); (repeat' apply And.intro)) <;> (repeat (first | with_reducible assumption | ((with_reducible refine cnew0 ?_); simp; done) | ((with_reducible refine cnew1 ?_); simp; done) | (with_reducible refine akeep ?_) | (with_reducible refine dkeep ?_) | ((with_reducible refine skeep ?_ ?_); rotate_left; (first | ((try dsimp only); omega) | (simp; done) | (simp; omega))) | (with_reducible refine bkeep hb3 ?_))))
      clear hK K
      (try simp only [Act.put, List.setIfInBounds_toArray, List.set_cons_zero, List.set_cons_succ])
      refine wpAnyH_take (i := 10) (oi := ⟨_, _, _, _, _, _⟩) (v := ?_) rfl (by kernel_rfl) (by kernel_rfl) (by kernel_rfl) (fun _ _ _ h => h) (Or.inl ⟨by rfl, ?_⟩) (by assumption) ?_
      rotate_left
      · (intro w hSw; (try dsimp only at hSw); go_simp; (try with_reducible rfl))
      (try simp only [Act.put, List.setIfInBounds_toArray, List.set_cons_zero, List.set_cons_succ])
      refine wpAnyH_done (by kernel_rfl) ?_ _
      go_wp2
      go_roundw
      case rel =>
        refine ⟨k + 1, v', by omega, by go_num, rfl, hown2, ?_⟩
        exact (show Below w.heap.size w (wr.alloc (.cells #[.int .i64 ((k : Int) % (x : Int)), .int .i64 ((k : Int) / (x : Int))] 34)).drew by (repeat (first | exact Below.refl _ _ | refine Below.setCell ?_ (by first | (simp; done) | (simp; omega) | omega) _ | refine belowN ?_ _ | refine Below.drew ?_ | refine Below.alloc ?_ (by first | (simp; done) | (simp; omega) | omega) _ | refine Below.trans ?_ (Below.mono (by assumption) (by first | (simp; done) | (simp; omega) | omega))))).grown hgrow2 (by simp; omega) (fun j hj => own_block_ge hown j hj)
      case measure => simp [intOf]; omega
    · obtain rfl : k = p := by omega
      go_wp2_with fail
      refine bodyPost_ret (v := .tuple #[z, .int .i64 0]) (by simp [results, Try.results37, go_sem]) rfl ⟨⟨_, by rw [K.out], ?_⟩, hbw⟩
      have e : rcR x y = ⟨k, blkC x 0 0⟩ := by unfold rcR; rw [if_pos K.out, e1]; simp
      rw [e]
      exact OwnC.of_row hown

set_option maxRecDepth 100000 in
set_option maxHeartbeats 2000000 in
set_option linter.unusedSimpArgs false in
/-- A block of points, put to no list. -/
theorem appendBlock_nil (lx ly : Int) (a b : Nat) (w : World) (hx : -1000000 ≤ lx ∧ lx ≤ 1000000) (hy : -1000000 ≤ ly ∧ ly ≤ 1000000) (ha : a ≤ 1000000) (hb : b ≤ 1000000) (hn : b * a ≤ 1048576) :
    Calls Try.prog 76 #[.slice none 0 0, .agg #[.int .i64 lx, .int .i64 ly], .int .i64 a, .int .i64 b] w fun e w' => QsPost w ⟨b * a, blkC a lx ly⟩ e w' ∧ Below w.heap.size w w' := by
  obtain ⟨i0, hi, hz0, hz1, hz2⟩ := info_parts info_point
  have HB := Lib.hid (Two.new w (.int .i64 lx) (.int .i64 ly) 34 rfl)
  go_enter Try.func76, Try.ntmps76
  go_wp2_with fail
  go_loopw [0, 12] (fun v j wr => ∃ (k : Nat) (z : Value), k ≤ b ∧ j = .int .i64 k ∧ z = v ∧ wr.ownsRow (w.heap.size + 1) 34 2 z (k * a) (cRow 2 (blkC a lx ly) (k * a)) ∧ Two wr w.heap.size (.int .i64 lx) (.int .i64 ly) ∧ Below w.heap.size w wr) (fun _ j _ => b - (intOf j).toNat)
  case atStart => exact ⟨0, _, by omega, rfl, rfl, by rw [Nat.zero_mul]; exact World.ownsRow_nil _ _ _ _, HB.out, by (repeat (first | exact Below.refl _ _ | refine Below.setCell ?_ (by first | (simp; done) | (simp; omega) | omega) _ | refine belowN ?_ _ | refine Below.drew ?_ | refine Below.alloc ?_ (by first | (simp; done) | (simp; omega) | omega) _ | refine Below.trans ?_ (Below.mono (by assumption) (by first | (simp; done) | (simp; omega) | omega))))⟩
  case round =>
    obtain ⟨k, z, hk, rfl, rfl, hown, htw, hbw⟩ := hrel
    have sw := hbw.size
    by_cases hlt : k < b
    · have hka : k * a + a ≤ b * a := by have := Nat.mul_le_mul_right a (show k + 1 ≤ b from hlt); rw [Nat.succ_mul] at this; exact this
      have hi1 : (k : Int) < (b : Int) := by omega
      have HKA := Lib.hid hka
      go_wp2_with fail
      go_loopw [0, 16] (fun v i ws => ∃ (q : Nat) (u : Value), q ≤ a ∧ i = .int .i64 q ∧ u = v ∧ ws.ownsRow (w.heap.size + 1) 34 2 u (k * a + q) (cRow 2 (blkC a lx ly) (k * a + q)) ∧ Two ws w.heap.size (.int .i64 lx) (.int .i64 ly) ∧ Below w.heap.size w ws) (fun _ i _ => a - (intOf i).toNat)
      case atStart => exact ⟨0, z, by omega, rfl, rfl, hown, htw, hbw⟩
      case round =>
        clear hown htw hbw sw
        obtain ⟨q, u, hq, rfl, rfl, hown, htw, hbw⟩ := hrel
        have sw := hbw.size
        have lw := htw.lt
        by_cases hlq : q < a
        · have e1 : IntKind.i64.wrap (lx + (q : Int)) = lx + (q : Int) := IntWalk.i64_in _ (by omega)
          have e2 : IntKind.i64.wrap (ly + (k : Int)) = ly + (k : Int) := IntWalk.i64_in _ (by omega)
          have HT := Lib.hid htw
          obtain ⟨c0, c1, -, -⟩ := htw
          have hge := own_block_ge hown
          have hne : some w.heap.size ≠ u.ownBlock := fun h => by have := hge _ h.symm; omega
          have m1 : (k * a + q) % a = q := by rw [Nat.add_comm, Nat.add_mul_mod_self_right]; exact Nat.mod_eq_of_lt hlq
          have m2 : (k * a + q) / a = k := by rw [Nat.add_comm, Nat.add_mul_div_right _ _ (by omega), Nat.div_eq_of_lt hlq]; omega
          have HC : Hid (cCells 2 (blkC a lx ly) (k * a + q) = [.int .i64 (lx + (q : Int)), .int .i64 (ly + (k : Int))]) := Lib.hid (by
            have i1 : ((k * a + q : Nat) : Int) % (a : Int) = (q : Int) := by rw [← Int.natCast_emod, m1]
            have i2 : ((k * a + q : Nat) : Int) / (a : Int) = (k : Int) := by rw [← Int.natCast_ediv, m2]
            show [Value.int .i64 (blkC a lx ly (k * a + q) 0), Value.int .i64 (blkC a lx ly (k * a + q) 1)] = _
            simp only [blkC]
            rw [i1, i2]
            simp)
          clear m1 m2
          go_wp2_with (at_builtin; refine wpList_append_own _ rfl _ _ 50 rfl (w.heap.size + 1) 34 i0 (.agg #[.int .i64 0, .int .i64 0]) 2 16 Try.underlying50 hi hz0 hz1 hz2 rfl (by decide) _ _ _ rfl (hown.alloc _) ⟨wr.heap.size, 0, none⟩ 1 1 (cCells 2 (blkC a lx ly) (k * a + q)) rfl (by rw [HC.out]; rfl) (by rw [HC.out]; exact World.news_of_block (cs := #[.int .i64 (lx + (q : Int)), .int .i64 (ly + (k : Int))]) (t := 34) (fr := (0, 0)) (heap_alloc_new wr _)) (cCells_one 2 _ _) (maxLen_of (by have := HKA.out; omega)) (by have := HKA.out; omega) (by first | (simp; done) | (simp; omega) | omega) ?_; intro v' w2 hown2 hgrow2 _)
          go_roundw
          case rel =>
            have l3 := HT.out.lt
            refine ⟨q + 1, v', by omega, by go_num, rfl, hown2, ?_, (hbw.alloc sw _).grown hgrow2 (by simp; omega) (fun j hj => by have := hge j hj; omega)⟩
            exact Two.mk (gkeep hgrow2 (akeep HT.out.c0) hne) (gkeep hgrow2 (akeep HT.out.c1) hne) (gfkeep hgrow2 (afkeep HT.out.z0 l3) (by simp; omega) hne) (gfkeep hgrow2 (afkeep HT.out.z1 l3) (by simp; omega) hne)
          case measure => simp [intOf]; omega
        · obtain rfl : q = a := by omega
          go_wp2
          go_roundw
          case rel => exact ⟨k + 1, u, by omega, by go_num, rfl, by rw [Nat.succ_mul]; exact hown, htw, hbw⟩
          case measure => simp [intOf]; omega
    · obtain rfl : k = b := by omega
      go_wp2_with fail
      go_ret
      exact ⟨⟨_, rfl, OwnC.mono (OwnC.of_row hown) (by omega) (Nat.le_refl _)⟩, hbw⟩

set_option maxRecDepth 100000 in
set_option maxHeartbeats 2000000 in
set_option linter.unusedSimpArgs false in
theorem implRectangleShape_law (a b : Int) (w : World) :
    Calls Try.prog 38 #[.int .i64 a, .int .i64 b] w fun e w' => QcPost w (rcR a b) (rcC a b) e w' ∧ Below w.heap.size w w' := by
  cases ha : inB a 1 60
  · have K := Lib.hid (show rcC a b = 2 by unfold rcC; rw [if_neg (by rw [ha]; simp)])
    go_enter Try.func38, Try.ntmps38
    go_wp2_with (go_at_call 75; refine (withinSize_any _ _).mono ?_; rintro e w2 ⟨rfl, rfl⟩; rw [ha])
    refine bodyPost_ret (v := .tuple #[.slice none 0 0, .int .i64 2]) (by simp [results, Try.results38, go_sem]) rfl ⟨qc_nil K.out.symm (by unfold rcR; rw [K.out]; rfl), Below.refl _ _⟩
  cases hb : inB b 1 60
  · have K := Lib.hid (show rcC a b = 2 by unfold rcC; rw [if_neg (by rw [hb]; simp)])
    go_enter Try.func38, Try.ntmps38
    go_wp2_with (go_at_call 75; refine (withinSize_any _ _).mono ?_; rintro e w2 ⟨rfl, rfl⟩; first | rw [ha] | rw [hb])
    refine bodyPost_ret (v := .tuple #[.slice none 0 0, .int .i64 2]) (by simp [results, Try.results38, go_sem]) rfl ⟨qc_nil K.out.symm (by unfold rcR; rw [K.out]; rfl), Below.refl _ _⟩
  have h1 := inB_iff.1 ha
  have h2 := inB_iff.1 hb
  obtain ⟨x, rfl⟩ : ∃ x : Nat, a = x := ⟨a.toNat, by omega⟩
  obtain ⟨y, rfl⟩ : ∃ y : Nat, b = y := ⟨b.toNat, by omega⟩
  have hxy : x * y ≤ 60 * 60 := Nat.mul_le_mul (by omega) (by omega)
  obtain ⟨p, hp⟩ : ∃ p, p = x * y := ⟨_, rfl⟩
  have HP := Lib.hid hp
  have e1 : (x : Int) * (y : Int) = (p : Int) := by rw [hp]; simp
  have e2 : IntKind.i64.wrap ((x : Int) * (y : Int)) = (p : Int) := by rw [e1]; exact IntWalk.i64_in _ (by omega)
  have hp2 : p ≤ 3600 := by omega
  clear hp hxy
  by_cases h5 : 500 < p
  · have K := Lib.hid (show rcC x y = 4 by unfold rcC; rw [if_pos ⟨ha, hb⟩, if_pos (by omega)])
    have hd : decide ((500 : Int) < (p : Int)) = true := by simp; omega
    go_enter Try.func38, Try.ntmps38
    go_wp2_with (go_at_call 75; refine (withinSize_any _ _).mono ?_; rintro e w2 ⟨rfl, rfl⟩; first | rw [ha] | rw [hb])
    refine bodyPost_ret (v := .tuple #[.slice none 0 0, .int .i64 4]) (by simp [results, Try.results38, go_sem]) rfl ⟨qc_nil K.out.symm (by unfold rcR; rw [K.out]; rfl), Below.refl _ _⟩
  have K := Lib.hid (show rcC x y = 0 by unfold rcC; rw [if_pos ⟨ha, hb⟩, if_neg (by omega)])
  have hd : decide ((500 : Int) < (p : Int)) = false := by simp; omega
  go_enter Try.func38, Try.ntmps38
  go_wp2_with (go_at_call 75; refine (withinSize_any _ _).mono ?_; rintro e w2 ⟨rfl, rfl⟩; first | rw [ha] | rw [hb])
  refine (appendBlock_nil 0 0 x y _ (by omega) (by omega) (by omega) (by omega) (by have := HP.out; rw [Nat.mul_comm]; omega)).mono ?_
  rintro e w1 ⟨⟨v, rfl, own⟩, hb1⟩
  go_wp2_with fail
  refine bodyPost_ret (v := .tuple #[v, .int .i64 0]) (by simp [results, Try.results38, go_sem]) rfl ⟨⟨_, by rw [K.out], ?_⟩, hb1⟩
  have e : rcR x y = ⟨y * x, blkC x 0 0⟩ := by unfold rcR; rw [if_pos K.out, e1, Nat.mul_comm y x, ← HP.out]; simp
  rw [e]
  exact own

end Go.Proofs.Ytaeaflbmaokieaa
