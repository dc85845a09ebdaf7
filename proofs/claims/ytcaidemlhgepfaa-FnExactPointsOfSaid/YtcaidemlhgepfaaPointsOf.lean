/-
  For every assembly, PointsOf of the program answers as the model's, in memory of its own; the law FnExactPointsOf returns true and leaves its argument as it was. Conditions: none.
-/
import Derived.Test.YtcaidemlhgepfaaPts
namespace Go.Proofs.Ytcaidemlhgepfaa
open Go.RowKit

theorem Cl.drewN {w : World} {m n : Nat} {v : Value} {c : Nat → Nat → Int} (h : Cl w m v n c) (k : Nat) : Cl (w.drewN k) m v n c := h

set_option maxHeartbeats 800000 in
theorem eqPointS_yes (u v : Value) (D : Cols) (w : World) (hu : Qs w u D) (hv : Qs w v D) :
    Calls Try.prog 29 #[u, v] w fun e w' => e = .returned (.bool true) ∧ Below w.heap.size w w' := by
  obtain ⟨ao, cap, rfl, hl, hm, hc⟩ := hu
  obtain ⟨bo, cap2, rfl, hl2, hm2, hc2⟩ := hv
  unfold maxLen at hm hm2
  have H0 := Lib.hid hc
  have H2 := Lib.hid hc2
  clear hc hc2
  go_enter Try.func29, Try.ntmps29
  go_wp2_with fail
  go_loopw [5] (fun i wr => ∃ k : Nat, k ≤ D.n ∧ i = .int .i64 k ∧ Below w.heap.size w wr) (fun i _ => D.n - (intOf i).toNat)
  case atStart => exact ⟨0, by omega, rfl, by (repeat (first | exact Below.refl _ _ | refine Below.setCell ?_ (by first | (simp; done) | (simp; omega) | omega) _ | refine belowN ?_ _ | refine Below.drew ?_ | refine Below.alloc ?_ (by first | (simp; done) | (simp; omega) | omega) _ | refine Below.trans ?_ (Below.mono (by assumption) (by first | (simp; done) | (simp; omega) | omega))))⟩
  case round =>
    obtain ⟨k, hk, rfl, hbw⟩ := hrel
    by_cases hlt : k < D.n
    · obtain ⟨b, off, rfl, H1⟩ := H0.out (by omega)
      obtain ⟨b2, off2, rfl, H3⟩ := H2.out (by omega)
      have c0 := cell_below hbw (H1 k 0 hlt (by omega))
      have c1 := cell_below hbw (H1 k 1 hlt (by omega))
      have d0 := cell_below hbw (H3 k 0 hlt (by omega))
      have d1 := cell_below hbw (H3 k 1 hlt (by omega))
      rw [Nat.add_zero] at c0 d0
      clear H1 H3
      go_wp2_with fail
      go_region_held3 (fun w' => w'.cell? ⟨b, off + k * 2, none⟩ = some (.int .i64 (D.c k 0)) ∧ w'.cell? ⟨b, off + k * 2 + 1, none⟩ = some (.int .i64 (D.c k 1)) ∧ w'.cell? ⟨b2, off2 + k * 2, none⟩ = some (.int .i64 (D.c k 0)) ∧ w'.cell? ⟨b2, off2 + k * 2 + 1, none⟩ = some (.int .i64 (D.c k 1))) ((((try go_split_ands); (try dsimp only); (repeat' apply And.intro)) <;> (repeat (first | with_reducible assumption | ((with_reducible refine cnew0 ?_); simp; done) | ((with_reducible refine cnew1 ?_); simp; done) | (with_reducible refine akeep ?_) | (with_reducible refine dkeep ?_) | ((with_reducible refine skeep ?_ ?_); rotate_left; (first | ((try dsimp only); omega) | (simp; done) | (simp; omega))) | (with_reducible refine bkeep hb3 ?_)))))
        ((go_at_call 34; refine (eqPoint_yes _ _ _).mono ?_; rintro e w1 ⟨rfl, hb3⟩))
      have sw := hbw.size
      go_wp2
      go_roundw
      case rel => exact ⟨k + 1, by omega, by go_num, by (repeat (first | exact Below.refl _ _ | refine Below.setCell ?_ (by first | (simp; done) | (simp; omega) | omega) _ | refine belowN ?_ _ | refine Below.drew ?_ | refine Below.alloc ?_ (by first | (simp; done) | (simp; omega) | omega) _ | refine Below.trans ?_ (Below.mono (by assumption) (by first | (simp; done) | (simp; omega) | omega))))⟩
      case measure => simp [intOf]; omega
    · obtain rfl : k = D.n := by omega
      go_wp2
      go_ret
      exact ⟨rfl, hbw⟩

set_option maxHeartbeats 800000 in
theorem markPointS_one (lo hi : Nat) (v : Value) (D : Cols) (w : World) (h : OwnQ w lo hi v D) (hz : D.n ≤ 1048576) (_hw : hi ≤ w.heap.size) :
    Calls Try.prog 30 #[v, .int .i64 1] w fun e w' => e = .returned (.int .i64 (mkE 2 D.n 1 : Int)) ∧ MarkedQ w' v D.n 1 ∧ Within lo hi w w' := by
  rcases h with ⟨rfl, h0⟩ | ⟨g, cap, f, rfl, hl, hm, hr, hf, hlo, hhi⟩
  · rw [h0]
    go_enter Try.func30, Try.ntmps30
    go_wp2_with fail
    refine wp_loop_rounds 1 ?_
    rw [rounds_succ]
    go_wp2
    go_ret
    exact ⟨rfl, Cl.nil _ _ _, Within.refl _ _ _⟩
  · have hm' := hm
    unfold maxLen at hm
    have HR := Lib.hid (show mkRow w 36 2 g cap 0 1 from ⟨f, hr, fun i j hi _ => by omega⟩)
    clear hr hf
    go_enter Try.func30, Try.ntmps30
    go_wp2_with fail
    go_loopw [1, 5] (fun m i wr => ∃ j : Nat, j ≤ D.n ∧ i = .int .i64 j ∧ m = .int .i64 ((1 + 2 * j : Nat) : Int) ∧ mkRow wr 36 2 g cap j 1 ∧ Within lo hi w wr) (fun _ i _ => D.n - (intOf i).toNat)
    case atStart => exact ⟨0, by omega, rfl, rfl, HR.out, Within.refl _ _ _⟩
    case round =>
      obtain ⟨j, hj, rfl, rfl, hr', hwi⟩ := hrel
      have HR' := Lib.hid hr'
      obtain ⟨f', hr2, hf2⟩ := hr'
      by_cases hlt : j < D.n
      · have c0 := hr2.cell (i := j * 2) (by omega)
        have c1 := hr2.cell (i := j * 2 + 1) (by omega)
        have z0 := hr2.frozen (j * 2)
        have z1 := hr2.frozen (j * 2 + 1)
        have HF := Lib.hid hf2
        have HR2 := Lib.hid hr2
        clear hf2 hr2
        go_wp2
        go_roundw
        case rel =>
          refine ⟨j + 1, by omega, by go_num, by go_num, ⟨_, (HR2.out.set (j * 2) _).set (j * 2 + 1) _, fun i q hi hq => ?_⟩, hwi.trans (((Within.set1 g wr (j * 2) _).trans (Within.set1 g _ (j * 2 + 1) _)).mono hlo (by omega))⟩
          by_cases hij : i = j
          · subst hij
            obtain rfl | rfl : q = 0 ∨ q = 1 := by omega
            all_goals (simp [mkC]; try omega)
          · rw [if_neg (by omega), if_neg (by omega)]
            exact HF.out i q (by omega) hq
        case measure => simp [intOf]; omega
      · obtain rfl : j = D.n := by omega
        clear hf2 hr2
        go_wp2
        go_ret
        obtain ⟨f3, e1, e2⟩ := HR'.out
        exact ⟨rfl, OwnC.cl (lo := lo) (hi := hi) (.inr ⟨g, cap, f3, rfl, hl, hm', e1, e2, hlo, hhi⟩), hwi⟩

set_option maxHeartbeats 400000 in
theorem heldPointS_one (v : Value) (n : Nat) (w : World) (h : MarkedQ w v n 1) (hz : n ≤ 1048576) :
    Calls Try.prog 31 #[v, .int .i64 1] w fun e w' => e = .returned (.int .i64 (mkE 2 n 1 : Int)) ∧ Below w.heap.size w w' := by
  obtain ⟨ao, cap, rfl, hl, hm, hc⟩ := h
  unfold maxLen at hm
  have H0 := Lib.hid hc
  clear hc
  go_enter Try.func31, Try.ntmps31
  go_wp2_with fail
  go_loop [1, 5] (fun m i => ∃ j : Nat, j ≤ n ∧ i = .int .i64 j ∧ m = .int .i64 ((1 + 2 * j : Nat) : Int)) (fun _ i => n - (intOf i).toNat)
  case atStart => exact ⟨0, by omega, rfl, rfl⟩
  case round =>
    obtain ⟨j, hj, rfl, rfl⟩ := hrel
    by_cases hlt : j < n
    · obtain ⟨b, off, rfl, H1⟩ := H0.out (by omega)
      have c0 := H1 j 0 hlt (by omega)
      have c1 := H1 j 1 hlt (by omega)
      simp [mkC] at c0 c1
      clear H1
      go_wp2
      go_round
      case rel => exact ⟨j + 1, by omega, by go_num, by go_num⟩
      case measure => simp [intOf]; omega
    · obtain rfl : j = n := by omega
      go_wp2
      go_ret
      exact ⟨rfl, Below.refl _ _⟩

open Classical in
noncomputable def poQ (ps : List Pl) : Cols := ⟨if formB ps = true then ps.length else 0, qC ps⟩
theorem smallPointsOf {ps : List Pl} (h : ps.length ≤ 1048576) : (poQ ps).n ≤ 1048576 := by
  unfold poQ; dsimp only; split <;> omega
theorem poQ_yes {ps : List Pl} (h : formB ps = true) : poQ ps = ⟨ps.length, qC ps⟩ := by unfold poQ; rw [if_pos h]
theorem poQ_no {ps : List Pl} (h : formB ps = false) : poQ ps = ⟨0, qC ps⟩ := by unfold poQ; rw [if_neg (by rw [h]; simp)]

theorem specPointsOf_law (v1 : Value) (P1 : List Pl) (w : World) (h1 : Plcs w v1 P1) (_s1 : ∃ a k q, v1 = .slice (some a) k q) (_o1 : ∀ p ∈ P1, p.ok) (m1 : P1.length ≤ 1048576) :
    Calls Try.prog 27 #[.agg #[v1]] w fun e w' => QsPost w (poQ P1) e w' ∧ Below w.heap.size w w' := by
  have HV := Lib.hid h1
  have HA := Lib.hid (At1.new w v1 29)
  clear h1
  go_enter Try.func27, Try.ntmps27
  go_wp2_with fail
  refine (l03Form_any _ v1 P1 _ HA.out (HV.out.below (by (repeat (first | exact Below.refl _ _ | refine Below.setCell ?_ (by first | (simp; done) | (simp; omega) | omega) _ | refine belowN ?_ _ | refine Below.drew ?_ | refine Below.alloc ?_ (by first | (simp; done) | (simp; omega) | omega) _ | refine Below.trans ?_ (Below.mono (by assumption) (by first | (simp; done) | (simp; omega) | omega))))))).mono ?_
  rintro e w1 ⟨rfl, hb1⟩
  have B1 : Below w.heap.size w w1 := by (repeat (first | exact Below.refl _ _ | refine Below.setCell ?_ (by first | (simp; done) | (simp; omega) | omega) _ | refine belowN ?_ _ | refine Below.drew ?_ | refine Below.alloc ?_ (by first | (simp; done) | (simp; omega) | omega) _ | refine Below.trans ?_ (Below.mono (by assumption) (by first | (simp; done) | (simp; omega) | omega))))
  have z1 := B1.size
  have A1 := Lib.hid (HA.out.below hb1)
  clear hb1
  cases hf : formB P1
  · have K := Lib.hid (poQ_no hf)
    go_wp2_with fail
    go_ret
    exact ⟨⟨_, rfl, by rw [K.out]; exact OwnC.mono (OwnC.of_row (c := qC P1) (World.ownsRow_lit _ _ _ (Nat.le_refl _) (by unfold maxLen; omega) rfl)) z1 (Nat.le_refl _)⟩, by (repeat (first | exact Below.refl _ _ | refine Below.setCell ?_ (by first | (simp; done) | (simp; omega) | omega) _ | refine belowN ?_ _ | refine Below.drew ?_ | refine Below.alloc ?_ (by first | (simp; done) | (simp; omega) | omega) _ | refine Below.trans ?_ (Below.mono (by assumption) (by first | (simp; done) | (simp; omega) | omega))))⟩
  · have K := Lib.hid (poQ_yes hf)
    go_wp2_with fail
    refine (l03Points_any _ v1 P1 _ A1.out (HV.out.below B1) m1).mono ?_
    rintro e w2 ⟨⟨r, rfl, hr⟩, hb2⟩
    go_wp2_with fail
    go_ret
    exact ⟨⟨_, rfl, by rw [K.out]; exact OwnC.mono hr z1 (Nat.le_refl _)⟩, by (repeat (first | exact Below.refl _ _ | refine Below.setCell ?_ (by first | (simp; done) | (simp; omega) | omega) _ | refine belowN ?_ _ | refine Below.drew ?_ | refine Below.alloc ?_ (by first | (simp; done) | (simp; omega) | omega) _ | refine Below.trans ?_ (Below.mono (by assumption) (by first | (simp; done) | (simp; omega) | omega))))⟩

set_option maxHeartbeats 1600000 in
theorem implPointsOf_law (v1 : Value) (P1 : List Pl) (w : World) (h1 : Plcs w v1 P1) (_s1 : ∃ a k q, v1 = .slice (some a) k q) (_o1 : ∀ p ∈ P1, p.ok) (m1 : P1.length ≤ 1048576) :
    Calls Try.prog 28 #[.agg #[v1]] w fun e w' => QsPost w (poQ P1) e w' ∧ Below w.heap.size w w' := by
  have HV := Lib.hid h1
  obtain ⟨ao, cap, rfl, hl, hm, hc⟩ := h1.open_
  unfold maxLen at hm
  have H0 := Lib.hid hc
  have HA := Lib.hid (At1.new w (.slice ao P1.length cap) 29)
  obtain ⟨i0, hi, hz0, hz1, hz2⟩ := info_parts info_point
  clear h1 hc
  go_enter Try.func28, Try.ntmps28
  go_wp2_with fail
  refine (hasForm_any _ P1 _ (HV.out.below (by (repeat (first | exact Below.refl _ _ | refine Below.setCell ?_ (by first | (simp; done) | (simp; omega) | omega) _ | refine belowN ?_ _ | refine Below.drew ?_ | refine Below.alloc ?_ (by first | (simp; done) | (simp; omega) | omega) _ | refine Below.trans ?_ (Below.mono (by assumption) (by first | (simp; done) | (simp; omega) | omega))))))).mono ?_
  rintro e w1 ⟨rfl, hb1⟩
  have B1 : Below w.heap.size w w1 := by (repeat (first | exact Below.refl _ _ | refine Below.setCell ?_ (by first | (simp; done) | (simp; omega) | omega) _ | refine belowN ?_ _ | refine Below.drew ?_ | refine Below.alloc ?_ (by first | (simp; done) | (simp; omega) | omega) _ | refine Below.trans ?_ (Below.mono (by assumption) (by first | (simp; done) | (simp; omega) | omega))))
  have z1 := B1.size
  have a0 := (HA.out.below hb1).c0
  clear hb1
  cases hf : formB P1
  · have K := Lib.hid (poQ_no hf)
    go_wp2_with fail
    go_ret
    exact ⟨⟨_, rfl, by rw [K.out]; exact .inl ⟨rfl, rfl⟩⟩, B1⟩
  · have K := Lib.hid (poQ_yes hf)
    go_wp2_with fail
    go_loopw [3, 12] (fun v i wr => ∃ (k : Nat) (x : Value), k ≤ P1.length ∧ i = .int .i64 k ∧ x = v ∧ wr.ownsRow w.heap.size 36 2 x k (cRow 2 (qC P1) k) ∧ Below w.heap.size w wr) (fun _ i _ => P1.length - (intOf i).toNat)
    case atStart => exact ⟨0, _, by omega, rfl, rfl, World.ownsRow_nil _ _ _ _, B1⟩
    case round =>
      clear B1 z1 a0
      obtain ⟨k, x, hk, rfl, rfl, hown, hbw⟩ := hrel
      have sw := hbw.size
      by_cases hlt : k < P1.length
      · obtain ⟨b, off, rfl, H1⟩ := H0.out (by omega)
        obtain ⟨c0, c1, c2⟩ := H1 k hlt
        have c0 := cell_below hbw c0
        have c1 := cell_below hbw c1
        have c2 := cell_below hbw c2
        clear H1
        go_wp2_with (at_builtin; refine wpList_append_own _ rfl _ _ 44 rfl w.heap.size 36 i0 (.agg #[.int .i64 0, .int .i64 0]) 2 16 Try.underlying44 hi hz0 hz1 hz2 rfl (by decide) _ _ _ rfl ((hown.alloc _).alloc _) ⟨wr.heap.size + 1, 0, none⟩ 1 1 (cCells 2 (qC P1) k) rfl rfl (World.news_of_block (cs := #[.int .i64 (pX P1 k), .int .i64 (pY P1 k)]) (t := 36) (fr := (0, 0)) (heap_new2 wr _ _)) (cCells_one 2 (qC P1) k) (maxLen_of (by omega)) (by omega) (by simp; omega) ?_; intro v' w2 hown2 hgrow2 _)
        go_roundw
        case rel => exact ⟨k + 1, v', by omega, by go_num, rfl, hown2, ((hbw.alloc sw _).alloc (by simp; omega) _).grown hgrow2 (by simp; omega) (fun j hj => own_block_ge hown j hj)⟩
        case measure => simp [intOf]; omega
      · obtain rfl : k = P1.length := by omega
        go_wp2_with fail
        go_ret
        exact ⟨⟨_, rfl, by rw [K.out]; exact OwnC.of_row hown⟩, hbw⟩

set_option maxRecDepth 100000 in
set_option maxHeartbeats 1000000 in
set_option linter.unusedVariables false in
theorem walk_FnExactPointsOf (v1 : Value) (P1 : List Pl) (w : World) (h1 : Plcs w v1 P1) (ok1 : ∀ p ∈ P1, p.ok) :
    Calls Try.prog 7 #[.agg #[v1]] w fun e w' => e = .returned (.bool true) ∧ Below w.heap.size w w' := by
  have H1 := Lib.hid h1
  clear h1
  have A1_0' : At1 (w.alloc (.cells #[v1] 24)) (w.heap.size) v1 := ⟨by simp [go_sem]⟩
  have A1_0 := Lib.hid A1_0'
  clear A1_0'
  go_enter Try.func7, Try.ntmps7
  go_wp2_with fail
  refine (szAssembly_any v1 P1 1048576 _ (H1.out.below (by (repeat (first | exact Below.refl _ _ | refine Below.setCell ?_ (by first | (simp; done) | (simp; omega) | omega) _ | refine belowN ?_ _ | refine Below.drew ?_ | refine Below.alloc ?_ (by first | (simp; done) | (simp; omega) | omega) _ | refine Below.trans ?_ (Below.mono (by assumption) (by first | (simp; done) | (simp; omega) | omega)))))) (by omega) (by omega)).mono ?_
  rintro e w1 ⟨⟨r1, rfl, hr⟩, hb⟩
  have B1 : Below w.heap.size w w1 := by (repeat (first | exact Below.refl _ _ | refine Below.setCell ?_ (by first | (simp; done) | (simp; omega) | omega) _ | refine belowN ?_ _ | refine Below.drew ?_ | refine Below.alloc ?_ (by first | (simp; done) | (simp; omega) | omega) _ | refine Below.trans ?_ (Below.mono (by assumption) (by first | (simp; done) | (simp; omega) | omega))))
  have A1_1 := Lib.hid (A1_0.out.below hb)
  have s1 : w.heap.size < w1.heap.size := A1_1.out.lt
  clear hb
  rcases hr with rfl | ⟨hl1, hm1, hs1⟩
  · go_wp2
    go_ret
    exact ⟨rfl, B1⟩
  have bb1 : decide (r1 < 0) = false := by simp; omega
  obtain ⟨kA10⟩ := A1_1.out
  have lA1 := A1_1.out.lt
  go_wp2_with fail
  refine (toAssembly_any v1 P1 _ (H1.out.below (by (repeat (first | exact Below.refl _ _ | refine Below.setCell ?_ (by first | (simp; done) | (simp; omega) | omega) _ | refine belowN ?_ _ | refine Below.drew ?_ | refine Below.alloc ?_ (by first | (simp; done) | (simp; omega) | omega) _ | refine Below.trans ?_ (Below.mono (by assumption) (by first | (simp; done) | (simp; omega) | omega)))))) hs1).mono ?_
  rintro e w2 ⟨⟨z1, rfl, zo1⟩, hb⟩
  have q2 : Below w1.heap.size w1 w2 := by (repeat (first | exact Below.refl _ _ | refine Below.setCell ?_ (by first | (simp; done) | (simp; omega) | omega) _ | refine belowN ?_ _ | refine Below.drew ?_ | refine Below.alloc ?_ (by first | (simp; done) | (simp; omega) | omega) _ | refine Below.trans ?_ (Below.mono (by assumption) (by first | (simp; done) | (simp; omega) | omega))))
  have s2 : w1.heap.size ≤ w2.heap.size := q2.size
  have B2 : Below w.heap.size w w2 := B1.trans (q2.mono (by omega))
  have A1_2 := Lib.hid (A1_1.out.below q2)
  have IN := Lib.hid zo1.1.plcs
  have SOL := zo1.2
  clear hb q2 zo1
  clear kA10 lA1
  go_wp2_with fail
  refine (specPointsOf_law z1 P1 _ (IN.out.below (by (repeat (first | exact Below.refl _ _ | refine Below.setCell ?_ (by first | (simp; done) | (simp; omega) | omega) _ | refine belowN ?_ _ | refine Below.drew ?_ | refine Below.alloc ?_ (by first | (simp; done) | (simp; omega) | omega) _ | refine Below.trans ?_ (Below.mono (by assumption) (by first | (simp; done) | (simp; omega) | omega)))))) SOL ok1 hs1).mono ?_
  rintro e w3 ⟨⟨zr, rfl, zro⟩, hb⟩
  have q3 : Below w2.heap.size w2 w3 := by (repeat (first | exact Below.refl _ _ | refine Below.setCell ?_ (by first | (simp; done) | (simp; omega) | omega) _ | refine belowN ?_ _ | refine Below.drew ?_ | refine Below.alloc ?_ (by first | (simp; done) | (simp; omega) | omega) _ | refine Below.trans ?_ (Below.mono (by assumption) (by first | (simp; done) | (simp; omega) | omega))))
  have s3 : w2.heap.size ≤ w3.heap.size := q3.size
  have B3 : Below w.heap.size w w3 := B2.trans (q3.mono (by omega))
  have A1_3 := Lib.hid (A1_2.out.below q3)
  clear hb q3 IN SOL
  obtain ⟨zra, zrn, zrc, rfl⟩ := zro.qs.shape
  have VS := Lib.hid zro.qs
  clear zro
  obtain ⟨kA10⟩ := A1_3.out
  have lA1 := A1_3.out.lt
  go_wp2_with fail
  refine (toAssembly_any v1 P1 _ (H1.out.below (by (repeat (first | exact Below.refl _ _ | refine Below.setCell ?_ (by first | (simp; done) | (simp; omega) | omega) _ | refine belowN ?_ _ | refine Below.drew ?_ | refine Below.alloc ?_ (by first | (simp; done) | (simp; omega) | omega) _ | refine Below.trans ?_ (Below.mono (by assumption) (by first | (simp; done) | (simp; omega) | omega)))))) hs1).mono ?_
  rintro e w4 ⟨⟨x1_, rfl, own⟩, hb⟩
  have q4 : Below w3.heap.size w3 w4 := by (repeat (first | exact Below.refl _ _ | refine Below.setCell ?_ (by first | (simp; done) | (simp; omega) | omega) _ | refine belowN ?_ _ | refine Below.drew ?_ | refine Below.alloc ?_ (by first | (simp; done) | (simp; omega) | omega) _ | refine Below.trans ?_ (Below.mono (by assumption) (by first | (simp; done) | (simp; omega) | omega))))
  have s4 : w3.heap.size ≤ w4.heap.size := q4.size
  have B4 : Below w.heap.size w w4 := B3.trans (q4.mono (by omega))
  have C4 := Lib.hid q4
  have A1_4 := Lib.hid (A1_3.out.below q4)
  have SL1 := own.2
  have X1_4 := Lib.hid (OwnA.mono (lo' := w3.heap.size) (hi' := w4.heap.size) own.1 (by first | (simp; done) | (simp; omega)) (Nat.le_refl _))
  clear hb q4 own kA10 lA1
  obtain ⟨x1_a, x1_n, x1_c, rfl⟩ := X1_4.out.plcs.shape
  go_wp2_with fail
  refine (implPointsOf_law (.slice x1_a x1_n x1_c) P1 _ (X1_4.out.plcs.below (by (repeat (first | exact Below.refl _ _ | refine Below.setCell ?_ (by first | (simp; done) | (simp; omega) | omega) _ | refine belowN ?_ _ | refine Below.drew ?_ | refine Below.alloc ?_ (by first | (simp; done) | (simp; omega) | omega) _ | refine Below.trans ?_ (Below.mono (by assumption) (by first | (simp; done) | (simp; omega) | omega)))))) SL1 ok1 hs1).mono ?_
  rintro e w5 ⟨⟨gr, rfl, gro⟩, hb⟩
  have q5 : Below w4.heap.size w4 w5 := by (repeat (first | exact Below.refl _ _ | refine Below.setCell ?_ (by first | (simp; done) | (simp; omega) | omega) _ | refine belowN ?_ _ | refine Below.drew ?_ | refine Below.alloc ?_ (by first | (simp; done) | (simp; omega) | omega) _ | refine Below.trans ?_ (Below.mono (by assumption) (by first | (simp; done) | (simp; omega) | omega))))
  have s5 : w4.heap.size ≤ w5.heap.size := q5.size
  have B5 : Below w.heap.size w w5 := B4.trans (q5.mono (by omega))
  have C5 := Lib.hid (C4.out.trans (q5.mono (by omega)))
  have A1_5 := Lib.hid (A1_4.out.below q5)
  have X1_5 := Lib.hid (X1_4.out.below q5)
  have Y1_5 := Lib.hid (At1.below (p := w4.heap.size) (v := (.slice x1_a x1_n x1_c)) (by exact ⟨by simp [go_sem]⟩) hb)
  clear hb q5 
  obtain ⟨gra, grn, grc, rfl⟩ := gro.qs.shape
  have U_5 := Lib.hid (OwnQ.mono (lo' := w4.heap.size + 1) (hi' := w5.heap.size) gro (by first | omega | (simp; done) | (simp; omega)) (Nat.le_refl _))
  clear gro
  have hsR := smallPointsOf hs1
  go_wp2_with fail
  refine (eqPointS_yes _ _ (poQ P1) _ (U_5.out.qs.below (by (repeat (first | exact Below.refl _ _ | refine Below.setCell ?_ (by first | (simp; done) | (simp; omega) | omega) _ | refine belowN ?_ _ | refine Below.drew ?_ | refine Below.alloc ?_ (by first | (simp; done) | (simp; omega) | omega) _ | refine Below.trans ?_ (Below.mono (by assumption) (by first | (simp; done) | (simp; omega) | omega)))))) ((VS.out.below C5.out).below (by (repeat (first | exact Below.refl _ _ | refine Below.setCell ?_ (by first | (simp; done) | (simp; omega) | omega) _ | refine belowN ?_ _ | refine Below.drew ?_ | refine Below.alloc ?_ (by first | (simp; done) | (simp; omega) | omega) _ | refine Below.trans ?_ (Below.mono (by assumption) (by first | (simp; done) | (simp; omega) | omega))))))).mono ?_
  rintro e w6 ⟨rfl, hb⟩
  have q6 : Below w5.heap.size w5 w6 := by (repeat (first | exact Below.refl _ _ | refine Below.setCell ?_ (by first | (simp; done) | (simp; omega) | omega) _ | refine belowN ?_ _ | refine Below.drew ?_ | refine Below.alloc ?_ (by first | (simp; done) | (simp; omega) | omega) _ | refine Below.trans ?_ (Below.mono (by assumption) (by first | (simp; done) | (simp; omega) | omega))))
  have s6 : w5.heap.size ≤ w6.heap.size := q6.size
  have B6 : Below w.heap.size w w6 := B5.trans (q6.mono (by omega))
  have C6 := Lib.hid (C5.out.trans (q6.mono (by omega)))
  have A1_6 := Lib.hid (A1_5.out.below q6)
  have X1_6 := Lib.hid (X1_5.out.below q6)
  have Y1_6 := Lib.hid (Y1_5.out.below q6)
  have U_6 := Lib.hid (U_5.out.below q6)
  clear hb q6 
  obtain ⟨kA10⟩ := A1_6.out
  have lA1 := A1_6.out.lt
  obtain ⟨kY10⟩ := Y1_6.out
  have lY1 := Y1_6.out.lt
  go_wp2_with fail
  go_region_held3 (fun w' => w'.cell? ⟨w.heap.size, 0, none⟩ = some (v1) ∧ w'.cell? ⟨w4.heap.size, 0, none⟩ = some (.slice x1_a x1_n x1_c)) ((((try go_split_ands); (try dsimp only); (repeat' apply And.intro)) <;> (repeat (first | with_reducible assumption | ((with_reducible refine cnew0 ?_); simp; done) | ((with_reducible refine cnew1 ?_); simp; done) | (with_reducible refine akeep ?_) | (with_reducible refine dkeep ?_) | ((with_reducible refine skeep ?_ ?_); rotate_left; (first | ((try dsimp only); omega) | (simp; done) | (simp; omega))) | (with_reducible refine bkeep hb3 ?_)))))
    (first
      | (go_at_call 15; refine (toAssembly_any v1 P1 _ (H1.out.below (by (repeat (first | exact Below.refl _ _ | refine Below.setCell ?_ (by first | (simp; done) | (simp; omega) | omega) _ | refine belowN ?_ _ | refine Below.drew ?_ | refine Below.alloc ?_ (by first | (simp; done) | (simp; omega) | omega) _ | refine Below.trans ?_ (Below.mono (by assumption) (by first | (simp; done) | (simp; omega) | omega)))))) hs1).mono ?_; rintro e w7 ⟨⟨u1, rfl, own⟩, hb3⟩; have s7 : w6.heap.size ≤ w7.heap.size := Nat.le_trans (by first | exact Nat.le_refl _ | (simp; done) | (simp; omega)) hb3.size)
      | (go_at_call 17; refine (eqAssembly_yes _ _ P1 _ (X1_6.out.plcs.below (by (repeat (first | exact Below.refl _ _ | refine Below.setCell ?_ (by first | (simp; done) | (simp; omega) | omega) _ | refine belowN ?_ _ | refine Below.drew ?_ | refine Below.alloc ?_ (by first | (simp; done) | (simp; omega) | omega) _ | refine Below.trans ?_ (Below.mono (by assumption) (by first | (simp; done) | (simp; omega) | omega)))))) (own.1.plcs.below (by (repeat (first | exact Below.refl _ _ | refine Below.setCell ?_ (by first | (simp; done) | (simp; omega) | omega) _ | refine belowN ?_ _ | refine Below.drew ?_ | refine Below.alloc ?_ (by first | (simp; done) | (simp; omega) | omega) _ | refine Below.trans ?_ (Below.mono (by assumption) (by first | (simp; done) | (simp; omega) | omega))))))).mono ?_; rintro e w8 ⟨rfl, hb3⟩; have s8 : w7.heap.size ≤ w8.heap.size := Nat.le_trans (by first | exact Nat.le_refl _ | (simp; done) | (simp; omega)) hb3.size))
  have q8 : Below w6.heap.size w6 w8 := by (repeat (first | exact Below.refl _ _ | refine Below.setCell ?_ (by first | (simp; done) | (simp; omega) | omega) _ | refine belowN ?_ _ | refine Below.drew ?_ | refine Below.alloc ?_ (by first | (simp; done) | (simp; omega) | omega) _ | refine Below.trans ?_ (Below.mono (by assumption) (by first | (simp; done) | (simp; omega) | omega))))
  have B8 : Below w.heap.size w w8 := B6.trans (q8.mono (by omega))
  have C8 := Lib.hid (C6.out.trans (q8.mono (by omega)))
  have A1_8 := Lib.hid (A1_6.out.below q8)
  have X1_8 := Lib.hid (X1_6.out.below q8)
  have Y1_8 := Lib.hid (Y1_6.out.below q8)
  have U_8 := Lib.hid (U_6.out.below q8)
  clear hb3 q8 own kA10 lA1 kY10 lY1
  clear SL1
  obtain ⟨kY10⟩ := Y1_8.out
  have lY1 := Y1_8.out.lt
  go_wp2_with fail
  refine (markAssembly_one (w3.heap.size) w4.heap.size _ P1 _ X1_8.out hs1 (by omega)).mono ?_
  rintro e w9 ⟨rfl, -, hw⟩
  have s9 : w8.heap.size ≤ w9.heap.size := hw.size
  have B9 : Below w.heap.size w w9 := B8.trans (hw.belowK (by omega) (by omega))
  have C9 := Lib.hid (C8.out.trans (hw.belowK (by omega) (by omega)))
  have A1_9 := Lib.hid (A1_8.out.keep hw (by omega))
  have Y1_9 := Lib.hid (Y1_8.out.keep hw (by omega))
  have U_9 := Lib.hid (U_8.out.keep hw (by omega))
  clear hw kY10 lY1
  have bn : decide ((((mkE 3 P1.length 1) : Nat) : Int) < 0) = false := by simp
  go_wp2_with fail
  refine (eqPointS_yes _ _ (poQ P1) _ (U_9.out.qs.below (by (repeat (first | exact Below.refl _ _ | refine Below.setCell ?_ (by first | (simp; done) | (simp; omega) | omega) _ | refine belowN ?_ _ | refine Below.drew ?_ | refine Below.alloc ?_ (by first | (simp; done) | (simp; omega) | omega) _ | refine Below.trans ?_ (Below.mono (by assumption) (by first | (simp; done) | (simp; omega) | omega)))))) ((VS.out.below C9.out).below (by (repeat (first | exact Below.refl _ _ | refine Below.setCell ?_ (by first | (simp; done) | (simp; omega) | omega) _ | refine belowN ?_ _ | refine Below.drew ?_ | refine Below.alloc ?_ (by first | (simp; done) | (simp; omega) | omega) _ | refine Below.trans ?_ (Below.mono (by assumption) (by first | (simp; done) | (simp; omega) | omega))))))).mono ?_
  rintro e w10 ⟨rfl, hb⟩
  have q10 : Below w9.heap.size w9 w10 := by (repeat (first | exact Below.refl _ _ | refine Below.setCell ?_ (by first | (simp; done) | (simp; omega) | omega) _ | refine belowN ?_ _ | refine Below.drew ?_ | refine Below.alloc ?_ (by first | (simp; done) | (simp; omega) | omega) _ | refine Below.trans ?_ (Below.mono (by assumption) (by first | (simp; done) | (simp; omega) | omega))))
  have s10 : w9.heap.size ≤ w10.heap.size := q10.size
  have B10 : Below w.heap.size w w10 := B9.trans (q10.mono (by omega))
  have C10 := Lib.hid (C9.out.trans (q10.mono (by omega)))
  have A1_10 := Lib.hid (A1_9.out.below q10)
  have U_10 := Lib.hid (U_9.out.below q10)
  clear hb q10 
  go_wp2_with fail
  refine (markPointS_one (w4.heap.size + 1) w5.heap.size _ (poQ P1) _ U_10.out hsR (by omega)).mono ?_
  rintro e w11 ⟨rfl, hu, hw⟩
  have s11 : w10.heap.size ≤ w11.heap.size := hw.size
  have B11 : Below w.heap.size w w11 := B10.trans (hw.belowK (by omega) (by omega))
  have C11 := Lib.hid (C10.out.trans (hw.belowK (by omega) (by omega)))
  have A1_11 := Lib.hid (A1_10.out.keep hw (by omega))
  have U_11 := Lib.hid hu
  clear hw hu 
  have bi : decide (((mkE 2 (poQ P1).n 1 : Nat) : Int) < 0) = false := by simp
  go_wp2_with fail
  refine (heldPointS_one _ (poQ P1).n _ U_11.out hsR).mono ?_
  rintro e w12 ⟨rfl, hb⟩
  have q12 : Below w11.heap.size w11 w12 := by (repeat (first | exact Below.refl _ _ | refine Below.setCell ?_ (by first | (simp; done) | (simp; omega) | omega) _ | refine belowN ?_ _ | refine Below.drew ?_ | refine Below.alloc ?_ (by first | (simp; done) | (simp; omega) | omega) _ | refine Below.trans ?_ (Below.mono (by assumption) (by first | (simp; done) | (simp; omega) | omega))))
  have s12 : w11.heap.size ≤ w12.heap.size := q12.size
  have B12 : Below w.heap.size w w12 := B11.trans (q12.mono (by omega))
  have C12 := Lib.hid (C11.out.trans (q12.mono (by omega)))
  have A1_12 := Lib.hid (A1_11.out.below q12)
  have U_12 := Lib.hid (U_11.out.below q12)
  clear hb q12 
  obtain ⟨kA10⟩ := A1_12.out
  have lA1 := A1_12.out.lt
  go_wp2_with fail
  refine (toAssembly_any v1 P1 _ (H1.out.below (by (repeat (first | exact Below.refl _ _ | refine Below.setCell ?_ (by first | (simp; done) | (simp; omega) | omega) _ | refine belowN ?_ _ | refine Below.drew ?_ | refine Below.alloc ?_ (by first | (simp; done) | (simp; omega) | omega) _ | refine Below.trans ?_ (Below.mono (by assumption) (by first | (simp; done) | (simp; omega) | omega)))))) hs1).mono ?_
  rintro e w13 ⟨⟨h1, rfl, ho1⟩, hb⟩
  have q13 : Below w12.heap.size w12 w13 := by (repeat (first | exact Below.refl _ _ | refine Below.setCell ?_ (by first | (simp; done) | (simp; omega) | omega) _ | refine belowN ?_ _ | refine Below.drew ?_ | refine Below.alloc ?_ (by first | (simp; done) | (simp; omega) | omega) _ | refine Below.trans ?_ (Below.mono (by assumption) (by first | (simp; done) | (simp; omega) | omega))))
  have s13 : w12.heap.size ≤ w13.heap.size := q13.size
  have B13 : Below w.heap.size w w13 := B12.trans (q13.mono (by omega))
  have C13 := Lib.hid (C12.out.trans (q13.mono (by omega)))
  have A1_13 := Lib.hid (A1_12.out.below q13)
  have U_13 := Lib.hid (U_12.out.below q13)
  have IN := Lib.hid ho1.1.plcs
  have SOL := ho1.2
  clear hb q13 ho1
  clear kA10 lA1
  go_wp2_with fail
  refine (implPointsOf_law h1 P1 _ (IN.out.below (by (repeat (first | exact Below.refl _ _ | refine Below.setCell ?_ (by first | (simp; done) | (simp; omega) | omega) _ | refine belowN ?_ _ | refine Below.drew ?_ | refine Below.alloc ?_ (by first | (simp; done) | (simp; omega) | omega) _ | refine Below.trans ?_ (Below.mono (by assumption) (by first | (simp; done) | (simp; omega) | omega)))))) SOL ok1 hs1).mono ?_
  rintro e w14 ⟨⟨hr, rfl, hro⟩, hb⟩
  have q14 : Below w13.heap.size w13 w14 := by (repeat (first | exact Below.refl _ _ | refine Below.setCell ?_ (by first | (simp; done) | (simp; omega) | omega) _ | refine belowN ?_ _ | refine Below.drew ?_ | refine Below.alloc ?_ (by first | (simp; done) | (simp; omega) | omega) _ | refine Below.trans ?_ (Below.mono (by assumption) (by first | (simp; done) | (simp; omega) | omega))))
  have s14 : w13.heap.size ≤ w14.heap.size := q14.size
  have B14 : Below w.heap.size w w14 := B13.trans (q14.mono (by omega))
  have C14 := Lib.hid (C13.out.trans (q14.mono (by omega)))
  have A1_14 := Lib.hid (A1_13.out.below q14)
  have U_14 := Lib.hid (U_13.out.below q14)
  clear hb q14 IN SOL
  obtain ⟨hra, hrn, hrc, rfl⟩ := hro.qs.shape
  have HI := Lib.hid hro.qs
  clear hro
  go_wp2_with fail
  refine (eqPointS_yes _ _ (poQ P1) _ (HI.out.below (by (repeat (first | exact Below.refl _ _ | refine Below.setCell ?_ (by first | (simp; done) | (simp; omega) | omega) _ | refine belowN ?_ _ | refine Below.drew ?_ | refine Below.alloc ?_ (by first | (simp; done) | (simp; omega) | omega) _ | refine Below.trans ?_ (Below.mono (by assumption) (by first | (simp; done) | (simp; omega) | omega)))))) ((VS.out.below C14.out).below (by (repeat (first | exact Below.refl _ _ | refine Below.setCell ?_ (by first | (simp; done) | (simp; omega) | omega) _ | refine belowN ?_ _ | refine Below.drew ?_ | refine Below.alloc ?_ (by first | (simp; done) | (simp; omega) | omega) _ | refine Below.trans ?_ (Below.mono (by assumption) (by first | (simp; done) | (simp; omega) | omega))))))).mono ?_
  rintro e w15 ⟨rfl, hb⟩
  have q15 : Below w14.heap.size w14 w15 := by (repeat (first | exact Below.refl _ _ | refine Below.setCell ?_ (by first | (simp; done) | (simp; omega) | omega) _ | refine belowN ?_ _ | refine Below.drew ?_ | refine Below.alloc ?_ (by first | (simp; done) | (simp; omega) | omega) _ | refine Below.trans ?_ (Below.mono (by assumption) (by first | (simp; done) | (simp; omega) | omega))))
  have s15 : w14.heap.size ≤ w15.heap.size := q15.size
  have B15 : Below w.heap.size w w15 := B14.trans (q15.mono (by omega))
  have C15 := Lib.hid (C14.out.trans (q15.mono (by omega)))
  have A1_15 := Lib.hid (A1_14.out.below q15)
  have U_15 := Lib.hid (U_14.out.below q15)
  clear hb q15 
  go_wp2_with fail
  refine (heldPointS_one _ (poQ P1).n _ U_15.out hsR).mono ?_
  rintro e w16 ⟨rfl, hb⟩
  have q16 : Below w15.heap.size w15 w16 := by (repeat (first | exact Below.refl _ _ | refine Below.setCell ?_ (by first | (simp; done) | (simp; omega) | omega) _ | refine belowN ?_ _ | refine Below.drew ?_ | refine Below.alloc ?_ (by first | (simp; done) | (simp; omega) | omega) _ | refine Below.trans ?_ (Below.mono (by assumption) (by first | (simp; done) | (simp; omega) | omega))))
  have s16 : w15.heap.size ≤ w16.heap.size := q16.size
  have B16 : Below w.heap.size w w16 := B15.trans (q16.mono (by omega))
  have C16 := Lib.hid (C15.out.trans (q16.mono (by omega)))
  have A1_16 := Lib.hid (A1_15.out.below q16)
  have U_16 := Lib.hid (U_15.out.below q16)
  clear hb q16 
  go_wp2_with fail
  go_ret
  exact ⟨rfl, B16⟩

namespace fnExactPointsOf
open Go.ChangeShapes Go.WideShapes Go.ChangeAt Go.RowKit Go.Joins
open Go.ChangeMaps (open_string shut_string)
theorem own : ownKnob Try.prog.godebug = none := by kernel_rfl
theorem laidOut : laidOutB Try.prog = true := by kernel_rfl
theorem readable : (Try.f7.params.toList.all fun t => Try.prog.readableRec t && decide (t < Try.prog.types.size)) = true := by kernel_rfl
theorem cells_0 : Try.prog.cellsOf 24 = 1 := by kernel_rfl
set_option maxRecDepth 100000 in
set_option linter.unusedVariables false in
theorem contract (H : Type) (enc : TypeId × Value → H) (W : World) (base : Nat) (args : Array Value) (ds gs : List (DataW H)) (before : List MemPlace)
    (hval : ∀ (j : Nat) t v, Try.f7.params[j]? = some t → args[j]? = some v → Value.okWide Try.prog W .any base t v)
    (hW : DataW.Whole enc Try.prog Try.f7.params.toList Rows.fnExactPointsOfSpec.vars false W args.toList ds gs before) :
    Calls Try.prog 7 args W fun e W' => ∃ v, e = .returned v ∧ Rows.fnExactPointsOfSpec.post enc Try.prog Try.f7 false true false false W args v W' := by
  have hW' := hW
  obtain ⟨p, q, hA0, hV, rfl, hfz, hnd⟩ := hW
  have hA : DataW.TrodAll enc Try.prog W 0 (fun _ => true) true Try.f7.params.toList args.toList ds p := hA0
  rw [Try.params7] at hA hval
  obtain ⟨v0, vs0, d0, ds0, p0, q0, ha0, rfl, rfl, h0, r0⟩ := trodAll_cons hA
  obtain ⟨rfl, rfl, rfl⟩ := trodAll_nil r0
  obtain rfl : args = #[v0] := by cases args; simp_all
  obtain ⟨rfl, rfl⟩ := trodVars_none hV
  obtain ⟨c0, y0, m0, rfl, hy0⟩ := open_one Try.underlying24 (by kernel_rfl) cells_0 (hval 0 24 v0 rfl rfl) h0
  obtain ⟨ps0, hg0, og0⟩ := open_placed (t := 22) (e := 88) (tp := 33) (ti := 2) Try.underlying22 Try.underlying88 Try.underlying33 (by kernel_rfl) ⟨rfl, rfl⟩ ⟨rfl, rfl⟩ (by kernel_rfl) (by kernel_rfl) ⟨rfl, rfl⟩ ⟨rfl, rfl⟩ Try.underlying2 hy0
  refine (walk_FnExactPointsOf c0 ps0 W hg0 og0).mono fun e W' ⟨he, hg⟩ => ?_
  subst he
  exact ⟨_, rfl, post_mem laidOut readable hW' (fun _ _ _ => (trodAll_cons_mk (shut_bool Try.underlying4 _) trodAll_mk0)) hA0 rfl rfl (by simp) hg⟩
set_option maxRecDepth 100000 in
theorem lifted (os : Os) (started : os.Started) (H : Type) (enc : TypeId × Value → H) :
    ReturnsInHanded {} Try.checked os 7 .any (Rows.fnExactPointsOfSpec.pre6 enc Try.prog Try.f7 Rows.fnExactPointsOfRow.domain false) (Rows.fnExactPointsOfSpec.post enc Try.prog Try.f7 false true false false) := by
  refine returnsInHanded_of_change (C := Try.checked) own started (by kernel_rfl) Try.func7
    (ChangeSpec.witness6 (enc := enc) (C := Try.checked) false ⟨#[], #[.agg #[.slice none 0 0]], []⟩ 8 (by kernel_rfl) (by kernel_rfl) (by kernel_rfl) (by kernel_rfl)) ?_
  intro W base args ds gs before hval hW _ _
  exact contract H enc W base args ds gs before hval hW
end fnExactPointsOf
theorem fnExactPointsOf_holds : Rows.FnExactPointsOfSaid :=
  OpenClaim.holds_of_wide 7 Try.f7 rfl rfl rfl rfl rfl rfl rfl ⟨rfl, rfl, rfl, rfl, rfl⟩ rfl rfl rfl rfl rfl (by kernel_rfl) Try.func7 (by kernel_rfl)
    (of_decide_eq_true (by kernel_rfl)) (by unfold Func.isWrapper; first | (rw [if_pos (by decide +kernel)]; kernel_rfl) | (rw [if_neg (by decide +kernel)]; exact ⟨rfl, rfl⟩))
    (fun os started H enc _ => fnExactPointsOf.lifted os started H enc)
end Go.Proofs.Ytcaidemlhgepfaa
