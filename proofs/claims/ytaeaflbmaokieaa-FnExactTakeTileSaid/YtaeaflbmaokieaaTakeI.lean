/-
  TakeTile, the program's. Conditions: each theorem's own.
-/
import Derived.Test.YtaeaflbmaokieaaTake
namespace Go.Proofs.Ytaeaflbmaokieaa
open Go.RowKit

/-- A part of a row of placed tiles is written by 'copy'. -/
theorem copy_part {w : World} {g N s q o dl dcap cap : Nat} {f : Nat → Value} {c : Nat → Nat → Int} {ad : Addr} (hrow : w.rowIs g 73 (N * 3) f) (hs : s + q ≤ N) (ho : q = 0 ∨ o = s * 3) (hq : q ≤ dl)
    (hsrc : ∀ j u, (cRow 3 c q)[j]? = some u → w.cell? (ad.add j) = some u) :
    (Builtin.copy_ #[28, 28] 3 #[.slice (some ⟨g, o, none⟩) dl dcap, .slice (some ad) q cap]).run Try.prog w = .ok (goInt q) (w.setCells g (s * 3) (cRow 3 c q)) := by
  have hmin : Nat.min q dl = q := Nat.min_eq_left hq
  have h := run_copy_rows (P := Try.prog) w 28 28 3 73 3 g o dl dcap ad q cap (cRow 3 c q) Try.underlying28 size_placed (by rw [hmin, cRow_len]) hsrc ?_ ?_ (cRow_one 3 c q)
  · rw [hmin] at h
    rw [h]
    rcases ho with rfl | rfl
    · rfl
    · rfl
  · intro j hj
    rw [cRow_len] at hj
    rcases ho with rfl | rfl
    · omega
    · rw [hrow.cell (by omega)]; rfl
  · intro j hj
    exact hrow.frozen _

theorem take_row {w : World} {g N k : Nat} {P : List Pl} {f : Nat → Value} (hN : N = P.length - 1) (hrow : w.rowIs g 73 (N * 3) f) (hf : ∀ i, i < k * 3 → f i = pCell P i) :
    (w.setCells g (k * 3) (cRow 3 (fun i j => pC P (k + 1 + i) j) (N - k))).rowIs g 73 (N * 3) (pCell (dropP P k)) := by
  refine (rowIs_setCells _ (k * 3) _ _ hrow).congr fun i hi => ?_
  unfold pCell at hf ⊢
  rw [dropP_pC]
  by_cases h : i < k * 3
  · rw [if_neg (by omega), if_pos (by omega), hf i h]
  · have h3 : i % 3 < 3 := Nat.mod_lt _ (by omega)
    have hr := cRow_at 3 (fun i j => pC P (k + 1 + i) j) (n := N - k) (i := i / 3 - k) (j := i % 3) (by omega) h3
    rw [if_pos (by omega), if_neg (by omega), show i - k * 3 = (i / 3 - k) * 3 + i % 3 by omega, hr]
    simp [show k + 1 + (i / 3 - k) = i / 3 + 1 by omega]

set_option maxRecDepth 100000 in
set_option maxHeartbeats 2000000 in
set_option linter.unusedSimpArgs false in
theorem implTake_any (v1 : Value) (P1 : List Pl) (x y : Int) (w : World) (h1 : Plcs w v1 P1) (m1 : P1.length ≤ 1048576) :
    Calls Try.prog 22 #[.agg #[v1], .agg #[.int .i64 x, .int .i64 y]] w fun e w' => ArPost w (takR P1 x y) (takC P1 x y) e w' ∧ Below w.heap.size w w' := by
  have HV := Lib.hid h1
  obtain ⟨ao, cap, rfl, hl, hm, hc⟩ := h1.open_
  unfold maxLen at hm
  have H0 := Lib.hid hc
  have HB := Lib.hid (boxes_m w (.slice ao P1.length cap) (.int .i64 x) (.int .i64 y) 30 34 30)
  clear h1 hc
  go_enter Try.func22, Try.ntmps22
  go_wp2_with fail
  refine (hasForm_any _ P1 _ (HV.out.below (by (repeat (first | exact Below.refl _ _ | refine Below.setCell ?_ (by first | (simp; done) | (simp; omega) | omega) _ | refine belowN ?_ _ | refine Below.drew ?_ | refine Below.alloc ?_ (by first | (simp; done) | (simp; omega) | omega) _ | refine Below.trans ?_ (Below.mono (by assumption) (by first | (simp; done) | (simp; omega) | omega))))))).mono ?_
  rintro e w1 ⟨rfl, hb1⟩
  have B1 : Below w.heap.size w w1 := by (repeat (first | exact Below.refl _ _ | refine Below.setCell ?_ (by first | (simp; done) | (simp; omega) | omega) _ | refine belowN ?_ _ | refine Below.drew ?_ | refine Below.alloc ?_ (by first | (simp; done) | (simp; omega) | omega) _ | refine Below.trans ?_ (Below.mono (by assumption) (by first | (simp; done) | (simp; omega) | omega))))
  have z1 := B1.size
  have A1 := Lib.hid (HB.out.1.below hb1)
  have D1 := Lib.hid (HB.out.2.1.below hb1)
  have R1 := Lib.hid (HB.out.2.2.1.below hb1)
  have Z1 := Lib.hid ((hb1.frozen (p := ⟨w.heap.size + 1 + 1, 0, none⟩) (by simp)).trans HB.out.2.2.2)
  have l1 := R1.out.lt
  clear hb1 HB
  have a0 := A1.out.c0
  have x0 := R1.out.c0
  have zx := Z1.out
  obtain ⟨d0, d1, -, -⟩ := D1.out
  cases hf : formB P1
  · have K := Lib.hid (tak_1 (x := x) (y := y) hf)
    go_wp2_with fail
    refine bodyPost_ret (v := .tuple #[.agg #[.slice none 0 0], .int .i64 1]) ?_ rfl ⟨ar_nil K.out.symm (takR_no K.out (by decide)), by (repeat (first | exact Below.refl _ _ | refine Below.setCell ?_ (by first | (simp; done) | (simp; omega) | omega) _ | refine belowN ?_ _ | refine Below.drew ?_ | refine Below.alloc ?_ (by first | (simp; done) | (simp; omega) | omega) _ | refine Below.trans ?_ (Below.mono (by assumption) (by first | (simp; done) | (simp; omega) | omega))))⟩
    simp [results, Try.results22, go_sem, x0, zx]
  have HF := Lib.hid hf
  have FF := Lib.hid (formB_iff.1 hf)
  clear hf
  have h500 := FF.out.len
  go_wp2_with fail
  refine (placeOf_any _ P1 x y _ (HV.out.below B1)).mono ?_
  rintro e w2 ⟨rfl, hb2⟩
  have B2 : Below w.heap.size w w2 := by (repeat (first | exact Below.refl _ _ | refine Below.setCell ?_ (by first | (simp; done) | (simp; omega) | omega) _ | refine belowN ?_ _ | refine Below.drew ?_ | refine Below.alloc ?_ (by first | (simp; done) | (simp; omega) | omega) _ | refine Below.trans ?_ (Below.mono (by assumption) (by first | (simp; done) | (simp; omega) | omega))))
  have z2 := B2.size
  have A2 := Lib.hid (A1.out.below hb2)
  have R2 := Lib.hid (R1.out.below hb2)
  have Z2 := Lib.hid ((hb2.frozen (p := ⟨w.heap.size + 1 + 1, 0, none⟩) (by dsimp only; omega)).trans zx)
  have l2 := R2.out.lt
  clear hb2 x0 zx d0 d1 a0
  have a0 := A2.out.c0
  have x0 := R2.out.c0
  have zx := Z2.out
  by_cases hx : ixN P1 x y < P1.length
  · have K := Lib.hid (tak_0 HF.out hx)
    have HI : ixI P1 x y = ((ixN P1 x y : Nat) : Int) := ixI_yes hx rfl
    rw [HI, hasB_yes hx]
    clear HI
    generalize hk : ixN P1 x y = k at *
    obtain ⟨N, hN⟩ : ∃ N, N = P1.length - 1 := ⟨_, rfl⟩
    have hk0 : (0 : Int) ≤ k := by omega
    have hk1 : (k : Int) ≤ P1.length := by omega
    have hkc : k ≤ cap := by omega
    have hkN : k ≤ N := by omega
    have hw1 : IntKind.i64.wrap ((k : Int) + 1) = (k : Int) + 1 := IntWalk.i64_in _ (by omega)
    have hw2 : IntKind.i64.wrap ((P1.length : Int) - 1) = (N : Int) := (IntWalk.i64_in _ (by omega)).trans (by omega)
    have hkl : k + 1 ≤ P1.length := hx
    have hkd : k + 1 ≤ cap := by omega
    have hk3 : (0 : Int) ≤ (k : Int) + 1 := by omega
    have hk4 : (k : Int) + 1 ≤ P1.length := by omega
    obtain ⟨b, off, rfl, H1⟩ := H0.out (by omega)
    have hmk := mk_placed N (by omega) w2
    have hrA : (w2.alloc (.cells (zeroP N) 73)).rowIs w2.heap.size 73 (N * 3) (fun _ => .int .i64 0) := rowIs_made3 w2 (.int .i64 0) N 73
    have hc1 := copy_part (dl := N) (dcap := N) (cap := cap) (o := 0) (s := 0) (q := k) (c := pC P1) (ad := ⟨b, off, none⟩) hrA (by omega) (.inr (by omega)) hkN (row_news0 H1 (B2.trans (show Below w.heap.size w2 (w2.alloc (.cells (zeroP N) 73)) by (repeat (first | exact Below.refl _ _ | refine Below.setCell ?_ (by first | (simp; done) | (simp; omega) | omega) _ | refine belowN ?_ _ | refine Below.drew ?_ | refine Below.alloc ?_ (by first | (simp; done) | (simp; omega) | omega) _ | refine Below.trans ?_ (Below.mono (by assumption) (by first | (simp; done) | (simp; omega) | omega)))))) (by omega))
    rw [Nat.zero_mul] at hc1
    have aA : (w2.alloc (.cells (zeroP N) 73)).cell? ⟨w.heap.size, 0, none⟩ = some (.slice (some ⟨b, off, none⟩) P1.length cap) := akeep a0
    have hrB := rowIs_setCells (cRow 3 (pC P1) k) 0 _ _ hrA
    have hbB : Below w.heap.size w ((w2.alloc (.cells (zeroP N) 73)).setCells w2.heap.size 0 (cRow 3 (pC P1) k)) := below_setCells z2 _ _ _ (by (repeat (first | exact Below.refl _ _ | refine Below.setCell ?_ (by first | (simp; done) | (simp; omega) | omega) _ | refine belowN ?_ _ | refine Below.drew ?_ | refine Below.alloc ?_ (by first | (simp; done) | (simp; omega) | omega) _ | refine Below.trans ?_ (Below.mono (by assumption) (by first | (simp; done) | (simp; omega) | omega)))))
    have hbB2 : Below w2.heap.size w2 ((w2.alloc (.cells (zeroP N) 73)).setCells w2.heap.size 0 (cRow 3 (pC P1) k)) := below_setCells (Nat.le_refl _) _ _ _ (by (repeat (first | exact Below.refl _ _ | refine Below.setCell ?_ (by first | (simp; done) | (simp; omega) | omega) _ | refine belowN ?_ _ | refine Below.drew ?_ | refine Below.alloc ?_ (by first | (simp; done) | (simp; omega) | omega) _ | refine Below.trans ?_ (Below.mono (by assumption) (by first | (simp; done) | (simp; omega) | omega)))))
    generalize (w2.alloc (.cells (zeroP N) 73)).setCells w2.heap.size 0 (cRow 3 (pC P1) k) = wB at *
    have HRB := Lib.hid hrB
    have b0 := cell_below hbB2 a0
    have gl := hrB.lt
    obtain ⟨ad, had, hnews⟩ : ∃ ad : Addr, (if cap = k + 1 then some (⟨b, off, none⟩ : Addr) else some ⟨b, off + (k + 1) * 3, none⟩) = some ad ∧ ∀ w', Below w.heap.size w w' → ∀ j u, (cRow 3 (fun i j => pC P1 (k + 1 + i) j) (P1.length - (k + 1)))[j]? = some u → w'.cell? (ad.add j) = some u := by
      by_cases hcap : cap = k + 1
      · refine ⟨_, if_pos hcap, fun w' _ j u h => ?_⟩
        rw [show P1.length - (k + 1) = 0 by omega] at h
        simp [cRow] at h
      · exact ⟨_, if_neg hcap, fun w' hb => row_news H1 hb (by omega)⟩
    have HN := Lib.hid hnews
    obtain ⟨o, ho1, ho2⟩ : ∃ o : Nat, (if N = k then some (⟨w2.heap.size, 0, none⟩ : Addr) else some ⟨w2.heap.size, k * 3, none⟩) = some ⟨w2.heap.size, o, none⟩ ∧ (P1.length - (k + 1) = 0 ∨ o = k * 3) := by
      by_cases h : N = k
      · exact ⟨0, if_pos h, .inl (by omega)⟩
      · exact ⟨k * 3, if_neg h, .inr rfl⟩
    obtain ⟨wC, hc2, rowC, BC⟩ : ∃ wC, (Builtin.copy_ #[28, 28] 3 #[.slice (some ⟨w2.heap.size, o, none⟩) (N - k) (N - k), .slice (some ad) (P1.length - (k + 1)) (cap - (k + 1))]).run Try.prog wB.drew = .ok (goInt ((P1.length - (k + 1) : Nat) : Int)) wC ∧ wC.rowIs w2.heap.size 73 (N * 3) (pCell (dropP P1 k)) ∧ Below w2.heap.size w2 wC := by
      have hrD : wB.drew.rowIs w2.heap.size 73 (N * 3) _ := hrB.of_block rfl
      refine ⟨_, copy_part (dl := N - k) (dcap := N - k) (cap := cap - (k + 1)) (o := o) (s := k) (q := P1.length - (k + 1)) (c := fun i j => pC P1 (k + 1 + i) j) (ad := ad) hrD (by omega) ho2 (by omega) (hnews _ (hbB.trans (show Below wB.heap.size wB wB.drew by (repeat (first | exact Below.refl _ _ | refine Below.setCell ?_ (by first | (simp; done) | (simp; omega) | omega) _ | refine belowN ?_ _ | refine Below.drew ?_ | refine Below.alloc ?_ (by first | (simp; done) | (simp; omega) | omega) _ | refine Below.trans ?_ (Below.mono (by assumption) (by first | (simp; done) | (simp; omega) | omega))))|>.mono (by have := hbB.size; omega)))), ?_, below_setCells (Nat.le_refl _) _ _ _ (hbB2.trans (show Below wB.heap.size wB wB.drew by (repeat (first | exact Below.refl _ _ | refine Below.setCell ?_ (by first | (simp; done) | (simp; omega) | omega) _ | refine belowN ?_ _ | refine Below.drew ?_ | refine Below.alloc ?_ (by first | (simp; done) | (simp; omega) | omega) _ | refine Below.trans ?_ (Below.mono (by assumption) (by first | (simp; done) | (simp; omega) | omega))))|>.mono (by have := hbB2.size; omega)))⟩
      have h := take_row (P := P1) hN hrD (k := k) (fun i hi => ?_)
      · rw [show P1.length - (k + 1) = N - k by omega]; exact h
      · have h3 : i % 3 < 3 := Nat.mod_lt _ (by omega)
        have h := cRow_at 3 (pC P1) (n := k) (i := i / 3) (j := i % 3) (by omega) h3
        rw [show i / 3 * 3 + i % 3 = i by omega] at h
        simp [h, pCell]
    have c0 := cell_below BC a0
    have x4 := cell_below BC x0
    have f4 := (BC.frozen (p := ⟨w.heap.size + 1 + 1, 0, none⟩) (by dsimp only; omega)).trans zx
    have HNN := Lib.hid hN
    have z5 := BC.size
    clear hnews hN hrA hrB hx x0 zx
    go_wp2_with fail
    refine wp_region_held_drew (S := (fun w' => w'.cell? ⟨w.heap.size, 0, none⟩ = some (.slice (some ⟨b, off, none⟩) P1.length cap))) (by kernel_rfl) ?_ (fun hHeld => ?_)
    · (try dsimp only)
      (((try go_split_ands); (try dsimp only); (repeat' apply And.intro)) <;> (repeat (first | with_reducible assumption | ((with_reducible refine cnew0 ?_); simp; done) | ((with_reducible refine cnew1 ?_); simp; done) | (with_reducible refine akeep ?_) | (with_reducible refine dkeep ?_) | ((with_reducible refine skeep ?_ ?_); rotate_left; (first | ((try dsimp only); omega) | (simp; done) | (simp; omega))) | (with_reducible refine bkeep hb3 ?_))))
    refine wpAnyH_take (i := 0) (oi := ⟨_, _, _, _, _, _⟩) (v := ?_) rfl (by kernel_rfl) (by kernel_rfl) (by kernel_rfl) (fun _ _ _ h => h) (Or.inl ⟨by rfl, ?_⟩) (by assumption) ?_
    rotate_left
    · (intro w hSw; (try dsimp only at hSw); go_simp; (try with_reducible rfl))
    (try simp only [Act.put, List.setIfInBounds_toArray, List.set_cons_zero, List.set_cons_succ])
    refine wpAnyH_take (i := 1) (oi := ⟨_, _, _, _, _, _⟩) (v := ?_) rfl (by kernel_rfl) (by kernel_rfl) (by kernel_rfl) (fun _ _ _ h => h) (Or.inl ⟨by rfl, ?_⟩) (by assumption) ?_
    rotate_left
    · (intro w hSw; (try dsimp only at hSw); go_simp; (try with_reducible rfl))
    (try simp only [Act.put, List.setIfInBounds_toArray, List.set_cons_zero, List.set_cons_succ])
    refine wpAnyH_take (i := 2) (oi := ⟨_, _, _, _, _, _⟩) (v := ?_) rfl (by kernel_rfl) (by kernel_rfl) (by kernel_rfl) (fun _ _ _ h => h) (Or.inl ⟨by rfl, ?_⟩) (by assumption) ?_
    rotate_left
    · (intro w hSw; (try dsimp only at hSw); go_simp; (try with_reducible rfl))
    (try simp only [Act.put, List.setIfInBounds_toArray, List.set_cons_zero, List.set_cons_succ])
    refine wpAnyH_take (i := 3) (oi := ⟨_, _, _, _, _, _⟩) (v := ?_) rfl (by kernel_rfl) (by kernel_rfl) (by kernel_rfl) (fun _ _ _ h => h) (Or.inl ⟨by rfl, ?_⟩) (by assumption) ?_
    rotate_left
    · (intro w hSw; (try dsimp only at hSw); go_simp; (try with_reducible rfl))
    (try simp only [Act.put, List.setIfInBounds_toArray, List.set_cons_zero, List.set_cons_succ])
    refine wpAnyH_take (i := 4) (oi := ⟨_, _, _, _, _, _⟩) (v := ?_) rfl (by kernel_rfl) (by kernel_rfl) (by kernel_rfl) (fun _ _ _ h => h) (Or.inl ⟨by rfl, ?_⟩) (by assumption) ?_
    rotate_left
    · (intro w hSw; (try dsimp only at hSw); go_simp; (try with_reducible rfl))
    (try simp only [Act.put, List.setIfInBounds_toArray, List.set_cons_zero, List.set_cons_succ])
    refine wpAnyH_take (i := 5) (oi := ⟨_, _, _, _, _, _⟩) (v := ?_) rfl (by kernel_rfl) (by kernel_rfl) (by kernel_rfl) (fun _ _ _ h => h) (Or.inl ⟨by rfl, ?_⟩) (by assumption) ?_
    rotate_left
    · (intro w hSw; (try dsimp only at hSw); go_simp; (try with_reducible rfl))
    (try simp only [Act.put, List.setIfInBounds_toArray, List.set_cons_zero, List.set_cons_succ])
    refine wpAnyH_take (i := 6) (oi := ⟨_, _, _, _, _, _⟩) (v := ?_) rfl (by kernel_rfl) (by kernel_rfl) (by kernel_rfl) (fun _ _ _ h => h) (Or.inl ⟨by rfl, ?_⟩) (by assumption) ?_
    rotate_left
    · (intro w hSw; (try dsimp only at hSw); go_simp; (try with_reducible rfl))
    (try simp only [Act.put, List.setIfInBounds_toArray, List.set_cons_zero, List.set_cons_succ])
    refine wpAnyH_take (i := 7) (oi := ⟨_, _, _, _, _, _⟩) (v := ?_) rfl (by kernel_rfl) (by kernel_rfl) (by kernel_rfl) (fun _ _ _ h => h) (Or.inl ⟨by rfl, ?_⟩) (by assumption) ?_
    rotate_left
    · (intro w hSw; (try dsimp only at hSw); go_simp; (try with_reducible rfl))
    (try simp only [Act.put, List.setIfInBounds_toArray, List.set_cons_zero, List.set_cons_succ])
    refine wpAnyH_ready (rs := [8]) (by kernel_rfl) (by simp) ?_
    refine AllReadyH.cons (o := ⟨_, _, _, _, _, _⟩) rfl (fun K hK => ?_) AllReadyH.nil
    go_simp
    refine hK.out _ _ ?_ (fun hHeld => ?_)
    · (try dsimp only)
      (((try go_split_ands); (try dsimp only); (repeat' apply And.intro)) <;> (repeat (first | with_reducible assumption | ((with_reducible refine cnew0 ?_); simp; done) | ((with_reducible refine cnew1 ?_); simp; done) | (with_reducible refine akeep ?_) | (with_reducible refine dkeep ?_) | ((with_reducible refine skeep ?_ ?_); rotate_left; (first | ((try dsimp only); omega) | (simp; done) | (simp; omega))) | (with_reducible refine bkeep hb3 ?_))))
    clear hK K
    (try simp only [Act.put, List.setIfInBounds_toArray, List.set_cons_zero, List.set_cons_succ])
    refine wpAnyH_done (by kernel_rfl) ?_ _
    go_wp2_with fail
    refine bodyPost_ret (v := .tuple #[.agg #[.slice (some ⟨w2.heap.size, 0, none⟩) N N], .int .i64 0]) ?_ rfl ⟨⟨_, by rw [K.out], ?_⟩, by (repeat (first | exact Below.refl _ _ | refine Below.setCell ?_ (by first | (simp; done) | (simp; omega) | omega) _ | refine belowN ?_ _ | refine Below.drew ?_ | refine Below.alloc ?_ (by first | (simp; done) | (simp; omega) | omega) _ | refine Below.trans ?_ (Below.mono (by assumption) (by first | (simp; done) | (simp; omega) | omega))))⟩
    · simp [results, Try.results22, go_sem, x4, f4]
    · have e : takR P1 x y = dropP P1 k := by unfold takR; rw [if_pos K.out, hk]
      rw [e]
      unfold OwnA
      rw [dropP_len hkl, ← HNN.out]
      refine .inr ⟨w2.heap.size, N, pCell (dropP P1 k), rfl, Nat.le_refl _, by have := HNN.out; unfold maxLen; omega, (Within.set (w.heap.size + 1 + 1) (w.heap.size + 1 + 1 + 1) wC (a := ⟨w.heap.size + 1 + 1, 0, none⟩) (Nat.le_refl _) (Nat.lt_succ_self _) _).rowIs rowC (by omega), fun i j hi hj => ?_, by omega, ?_⟩
      · unfold pCell
        rw [show (i * 3 + j) / 3 = i by omega, show (i * 3 + j) % 3 = j by omega]
      · have := rowC.lt
        simpa [World.setCell] using this
  · have K := Lib.hid (tak_3 HF.out hx)
    rw [hasB_no hx]
    go_wp2_with fail
    refine bodyPost_ret (v := .tuple #[.agg #[.slice none 0 0], .int .i64 3]) ?_ rfl ⟨ar_nil K.out.symm (takR_no K.out (by decide)), by (repeat (first | exact Below.refl _ _ | refine Below.setCell ?_ (by first | (simp; done) | (simp; omega) | omega) _ | refine belowN ?_ _ | refine Below.drew ?_ | refine Below.alloc ?_ (by first | (simp; done) | (simp; omega) | omega) _ | refine Below.trans ?_ (Below.mono (by assumption) (by first | (simp; done) | (simp; omega) | omega))))⟩
    simp [results, Try.results22, go_sem, x0, zx]

end Go.Proofs.Ytaeaflbmaokieaa
