/-
  Two assemblies joined, the model's whole and the program's. Conditions: each theorem's own.
-/
import Derived.Test.YtaeaflbmaokieaaJoinM
namespace Go.Proofs.Ytaeaflbmaokieaa
open Go.RowKit

/-- The boxes of two assemblies and one for an assembly. -/
theorem boxes_j (w : World) (u v : Value) (t1 t2 t3 : TypeId) : At1 (((w.alloc (.cells #[u] t1)).alloc (.cells #[v] t2)).alloc (.cells #[.slice none 0 0] t3)) w.heap.size u ∧
    At1 (((w.alloc (.cells #[u] t1)).alloc (.cells #[v] t2)).alloc (.cells #[.slice none 0 0] t3)) (w.heap.size + 1) v ∧
    One (((w.alloc (.cells #[u] t1)).alloc (.cells #[v] t2)).alloc (.cells #[.slice none 0 0] t3)) (w.heap.size + 1 + 1) (.slice none 0 0) :=
  ⟨(boxes_aa w u v t1 t2).1.below (by (repeat (first | exact Below.refl _ _ | refine Below.setCell ?_ (by first | (simp; done) | (simp; omega) | omega) _ | refine belowN ?_ _ | refine Below.drew ?_ | refine Below.alloc ?_ (by first | (simp; done) | (simp; omega) | omega) _ | refine Below.trans ?_ (Below.mono (by assumption) (by first | (simp; done) | (simp; omega) | omega))))), (boxes_aa w u v t1 t2).2.below (by (repeat (first | exact Below.refl _ _ | refine Below.setCell ?_ (by first | (simp; done) | (simp; omega) | omega) _ | refine belowN ?_ _ | refine Below.drew ?_ | refine Below.alloc ?_ (by first | (simp; done) | (simp; omega) | omega) _ | refine Below.trans ?_ (Below.mono (by assumption) (by first | (simp; done) | (simp; omega) | omega))))), One.new (n := w.heap.size + 1 + 1) _ _ _ (by simp)⟩

set_option maxRecDepth 100000 in
set_option maxHeartbeats 4000000 in
set_option linter.unusedSimpArgs false in
theorem specJoin_any (v1 : Value) (P1 : List Pl) (v2 : Value) (P2 : List Pl) (w : World) (h1 : Plcs w v1 P1) (h2 : Plcs w v2 P2) :
    Calls Try.prog 25 #[.agg #[v1], .agg #[v2]] w fun e w' => ArPost w (jnR P1 P2) (jnC P1 P2) e w' ∧ Below w.heap.size w w' := by
  have HU := Lib.hid h1
  have HV := Lib.hid h2
  obtain ⟨ao, cap, rfl, -, -, -⟩ := h1.open_
  obtain ⟨bo, cap2, rfl, -, -, -⟩ := h2.open_
  have HB := Lib.hid (boxes_j w (.slice ao P1.length cap) (.slice bo P2.length cap2) 30 30 30)
  clear h1 h2
  go_enter Try.func25, Try.ntmps25
  go_wp2_with fail
  refine (l03Form_any _ _ P1 _ HB.out.1 (HU.out.below (by (repeat (first | exact Below.refl _ _ | refine Below.setCell ?_ (by first | (simp; done) | (simp; omega) | omega) _ | refine belowN ?_ _ | refine Below.drew ?_ | refine Below.alloc ?_ (by first | (simp; done) | (simp; omega) | omega) _ | refine Below.trans ?_ (Below.mono (by assumption) (by first | (simp; done) | (simp; omega) | omega))))))).mono ?_
  rintro e w1 ⟨rfl, hb1⟩
  have B1 : Below w.heap.size w w1 := by (repeat (first | exact Below.refl _ _ | refine Below.setCell ?_ (by first | (simp; done) | (simp; omega) | omega) _ | refine belowN ?_ _ | refine Below.drew ?_ | refine Below.alloc ?_ (by first | (simp; done) | (simp; omega) | omega) _ | refine Below.trans ?_ (Below.mono (by assumption) (by first | (simp; done) | (simp; omega) | omega))))
  have z1 := B1.size
  have A1 := Lib.hid (HB.out.1.below hb1)
  have E1 := Lib.hid (HB.out.2.1.below hb1)
  have R1 := Lib.hid (HB.out.2.2.below hb1)
  have l1 := R1.out.lt
  obtain ⟨x0, zx⟩ := R1.out
  clear hb1 HB
  cases hf : formB P1
  · have K := Lib.hid (jn_p (Q := P2) hf)
    go_wp2_with fail
    refine bodyPost_ret (v := .tuple #[.agg #[.slice none 0 0], .int .i64 1]) ?_ rfl ⟨ar_nil K.out.symm (jnR_no K.out (by decide)), by (repeat (first | exact Below.refl _ _ | refine Below.setCell ?_ (by first | (simp; done) | (simp; omega) | omega) _ | refine belowN ?_ _ | refine Below.drew ?_ | refine Below.alloc ?_ (by first | (simp; done) | (simp; omega) | omega) _ | refine Below.trans ?_ (Below.mono (by assumption) (by first | (simp; done) | (simp; omega) | omega))))⟩
    simp [results, Try.results25, go_sem, x0, zx]
  have HF := Lib.hid hf
  clear hf
  go_wp2_with fail
  refine (l03Form_any _ _ P2 _ E1.out (HV.out.below B1)).mono ?_
  rintro e w2 ⟨rfl, hb2⟩
  have B2 : Below w.heap.size w w2 := by (repeat (first | exact Below.refl _ _ | refine Below.setCell ?_ (by first | (simp; done) | (simp; omega) | omega) _ | refine belowN ?_ _ | refine Below.drew ?_ | refine Below.alloc ?_ (by first | (simp; done) | (simp; omega) | omega) _ | refine Below.trans ?_ (Below.mono (by assumption) (by first | (simp; done) | (simp; omega) | omega))))
  have z2 := B2.size
  have A2 := Lib.hid (A1.out.below hb2)
  have E2 := Lib.hid (E1.out.below hb2)
  have R2 := Lib.hid (R1.out.below hb2)
  have l2 := R2.out.lt
  clear hb2 x0 zx
  obtain ⟨x0, zx⟩ := R2.out
  cases hg : formB P2
  · have K := Lib.hid (jn_q (P := P1) hg)
    go_wp2_with fail
    refine bodyPost_ret (v := .tuple #[.agg #[.slice none 0 0], .int .i64 1]) ?_ rfl ⟨ar_nil K.out.symm (jnR_no K.out (by decide)), by (repeat (first | exact Below.refl _ _ | refine Below.setCell ?_ (by first | (simp; done) | (simp; omega) | omega) _ | refine belowN ?_ _ | refine Below.drew ?_ | refine Below.alloc ?_ (by first | (simp; done) | (simp; omega) | omega) _ | refine Below.trans ?_ (Below.mono (by assumption) (by first | (simp; done) | (simp; omega) | omega))))⟩
    simp [results, Try.results25, go_sem, x0, zx]
  have HG := Lib.hid hg
  have FF := Lib.hid (formB_iff.1 HF.out)
  have GG := Lib.hid (formB_iff.1 hg)
  have f500 := FF.out.len
  have g500 := GG.out.len
  clear hg
  go_wp2_with fail
  refine (l03Join_any _ _ _ _ P1 P2 _ A2.out E2.out (HU.out.below B2) (HV.out.below B2) FF.out GG.out).mono ?_
  rintro e w3 ⟨hpost, hb3⟩
  have B3 : Below w.heap.size w w3 := by (repeat (first | exact Below.refl _ _ | refine Below.setCell ?_ (by first | (simp; done) | (simp; omega) | omega) _ | refine belowN ?_ _ | refine Below.drew ?_ | refine Below.alloc ?_ (by first | (simp; done) | (simp; omega) | omega) _ | refine Below.trans ?_ (Below.mono (by assumption) (by first | (simp; done) | (simp; omega) | omega))))
  have z3 := B3.size
  have R3 := Lib.hid (R2.out.below hb3)
  have l3 := R3.out.lt
  clear hb3 x0 zx
  obtain ⟨x0, zx⟩ := R3.out
  rcases hpost with ⟨hd, rfl⟩ | ⟨hd, v', rfl, own, hlen⟩
  · have K := Lib.hid (jn_7 HF.out HG.out hd)
    clear hd
    go_wp2_with fail
    refine bodyPost_ret (v := .tuple #[.agg #[.slice none 0 0], .int .i64 7]) ?_ rfl ⟨ar_nil K.out.symm (jnR_no K.out (by decide)), by (repeat (first | exact Below.refl _ _ | refine Below.setCell ?_ (by first | (simp; done) | (simp; omega) | omega) _ | refine belowN ?_ _ | refine Below.drew ?_ | refine Below.alloc ?_ (by first | (simp; done) | (simp; omega) | omega) _ | refine Below.trans ?_ (Below.mono (by assumption) (by first | (simp; done) | (simp; omega) | omega))))⟩
    simp [results, Try.results25, go_sem, x0, zx, l3]
  have HD := Lib.hid hd
  have HO := Lib.hid own
  obtain ⟨va, vc, rfl, -, -, -⟩ := own.plcs.open_
  clear hd own
  have HL := Lib.hid hlen
  by_cases h5 : 500 < (jnL P1 P2).length
  · have K := Lib.hid (jn_4 HF.out HG.out HD.out h5)
    go_wp2_with fail
    refine bodyPost_ret (v := .tuple #[.agg #[.slice none 0 0], .int .i64 4]) ?_ rfl ⟨ar_nil K.out.symm (jnR_no K.out (by decide)), by (repeat (first | exact Below.refl _ _ | refine Below.setCell ?_ (by first | (simp; done) | (simp; omega) | omega) _ | refine belowN ?_ _ | refine Below.drew ?_ | refine Below.alloc ?_ (by first | (simp; done) | (simp; omega) | omega) _ | refine Below.trans ?_ (Below.mono (by assumption) (by first | (simp; done) | (simp; omega) | omega))))⟩
    simp [results, Try.results25, go_sem, x0, zx, l3]
  · have K := Lib.hid (jn_0 HF.out HG.out HD.out h5)
    go_wp2_with fail
    refine bodyPost_ret (v := .tuple #[.agg #[.slice va (jnL P1 P2).length vc], .int .i64 0]) ?_ rfl ⟨⟨_, by rw [K.out], ?_⟩, by (repeat (first | exact Below.refl _ _ | refine Below.setCell ?_ (by first | (simp; done) | (simp; omega) | omega) _ | refine belowN ?_ _ | refine Below.drew ?_ | refine Below.alloc ?_ (by first | (simp; done) | (simp; omega) | omega) _ | refine Below.trans ?_ (Below.mono (by assumption) (by first | (simp; done) | (simp; omega) | omega))))⟩
    · simp [results, Try.results25, go_sem, x0, zx, l3]
    · rw [jnR_yes K.out]
      have o2 := (HO.out.keep (Within.set (w.heap.size + 1 + 1) (w.heap.size + 1 + 1 + 1) w3 (a := ⟨w.heap.size + 1 + 1, 0, none⟩) (Nat.le_refl _) (Nat.lt_succ_self _) (.slice va (jnL P1 P2).length vc)) (.inr (by omega))).below (w1 := (w3.setCell ⟨w.heap.size + 1 + 1, 0, none⟩ (.slice va (jnL P1 P2).length vc)).alloc (.cells #[.slice va (jnL P1 P2).length vc] 30)) (by (repeat (first | exact Below.refl _ _ | refine Below.setCell ?_ (by first | (simp; done) | (simp; omega) | omega) _ | refine belowN ?_ _ | refine Below.drew ?_ | refine Below.alloc ?_ (by first | (simp; done) | (simp; omega) | omega) _ | refine Below.trans ?_ (Below.mono (by assumption) (by first | (simp; done) | (simp; omega) | omega)))))
      exact OwnA.mono o2 (by omega) (by first | (simp [World.setCell]; done) | (simp [World.setCell]; omega))

theorem TMap.keep {w w1 : World} {b k B : Nat} {ps : List Pl} (h : TMap w b ps k) (hb : Below B w w1) (hlt : b < B) : TMap w1 b ps k := by
  obtain ⟨es, clock, h1, h2⟩ := h
  exact ⟨es, clock, (hb.block _ hlt).trans h1, h2⟩
theorem One.low {w w1 : World} {p B : Nat} {v : Value} (h : One w p v) (hb : Below B w w1) (hlt : p < B) : One w1 p v :=
  ⟨(World.cell?_of_block (hb.block p hlt)).trans h.c0, (World.frozen?_of_block (hb.block p hlt)).trans h.z0⟩

set_option maxRecDepth 100000 in
set_option maxHeartbeats 4000000 in
set_option linter.unusedSimpArgs false in
theorem implJoin_any (v1 : Value) (P1 : List Pl) (v2 : Value) (P2 : List Pl) (w : World) (h1 : Plcs w v1 P1) (h2 : Plcs w v2 P2) (m1 : P1.length ≤ 1048576) :
    Calls Try.prog 26 #[.agg #[v1], .agg #[v2]] w fun e w' => ArPost w (jnR P1 P2) (jnC P1 P2) e w' ∧ Below w.heap.size w w' := by
  have HU := Lib.hid h1
  have HV := Lib.hid h2
  obtain ⟨ao, cap, rfl, -, -, -⟩ := h1.open_
  obtain ⟨bo, cap2, rfl, hl2, hm2, hc2⟩ := h2.open_
  unfold maxLen at hm2
  have H0 := Lib.hid hc2
  have HB := Lib.hid (boxes_j w (.slice ao P1.length cap) (.slice bo P2.length cap2) 30 30 30)
  clear h1 h2 hc2
  go_enter Try.func26, Try.ntmps26
  go_wp2_with fail
  refine (hasForm_any _ P1 _ (HU.out.below (by (repeat (first | exact Below.refl _ _ | refine Below.setCell ?_ (by first | (simp; done) | (simp; omega) | omega) _ | refine belowN ?_ _ | refine Below.drew ?_ | refine Below.alloc ?_ (by first | (simp; done) | (simp; omega) | omega) _ | refine Below.trans ?_ (Below.mono (by assumption) (by first | (simp; done) | (simp; omega) | omega))))))).mono ?_
  rintro e w1 ⟨rfl, hb1⟩
  have B1 : Below w.heap.size w w1 := by (repeat (first | exact Below.refl _ _ | refine Below.setCell ?_ (by first | (simp; done) | (simp; omega) | omega) _ | refine belowN ?_ _ | refine Below.drew ?_ | refine Below.alloc ?_ (by first | (simp; done) | (simp; omega) | omega) _ | refine Below.trans ?_ (Below.mono (by assumption) (by first | (simp; done) | (simp; omega) | omega))))
  have z1 := B1.size
  have A1 := Lib.hid (HB.out.1.below hb1)
  have E1 := Lib.hid (HB.out.2.1.below hb1)
  have R1 := Lib.hid (HB.out.2.2.below hb1)
  have l1 := R1.out.lt
  have e0 := E1.out.c0
  obtain ⟨x0, zx⟩ := R1.out
  clear hb1 HB
  cases hf : formB P1
  · have K := Lib.hid (jn_p (Q := P2) hf)
    go_wp2_with fail
    refine bodyPost_ret (v := .tuple #[.agg #[.slice none 0 0], .int .i64 1]) ?_ rfl ⟨ar_nil K.out.symm (jnR_no K.out (by decide)), by (repeat (first | exact Below.refl _ _ | refine Below.setCell ?_ (by first | (simp; done) | (simp; omega) | omega) _ | refine belowN ?_ _ | refine Below.drew ?_ | refine Below.alloc ?_ (by first | (simp; done) | (simp; omega) | omega) _ | refine Below.trans ?_ (Below.mono (by assumption) (by first | (simp; done) | (simp; omega) | omega))))⟩
    simp [results, Try.results26, go_sem, x0, zx]
  have HF := Lib.hid hf
  clear hf
  go_wp2_with fail
  refine (hasForm_any _ P2 _ (HV.out.below B1)).mono ?_
  rintro e w2 ⟨rfl, hb2⟩
  have B2 : Below w.heap.size w w2 := by (repeat (first | exact Below.refl _ _ | refine Below.setCell ?_ (by first | (simp; done) | (simp; omega) | omega) _ | refine belowN ?_ _ | refine Below.drew ?_ | refine Below.alloc ?_ (by first | (simp; done) | (simp; omega) | omega) _ | refine Below.trans ?_ (Below.mono (by assumption) (by first | (simp; done) | (simp; omega) | omega))))
  have z2 := B2.size
  have A2 := Lib.hid (A1.out.below hb2)
  have E2 := Lib.hid (E1.out.below hb2)
  have R2 := Lib.hid (R1.out.below hb2)
  have l2 := R2.out.lt
  clear hb2 x0 zx e0
  have e0 := E2.out.c0
  have a0 := A2.out.c0
  obtain ⟨x0, zx⟩ := R2.out
  cases hg : formB P2
  · have K := Lib.hid (jn_q (P := P1) hg)
    go_wp2_with fail
    refine bodyPost_ret (v := .tuple #[.agg #[.slice none 0 0], .int .i64 1]) ?_ rfl ⟨ar_nil K.out.symm (jnR_no K.out (by decide)), by (repeat (first | exact Below.refl _ _ | refine Below.setCell ?_ (by first | (simp; done) | (simp; omega) | omega) _ | refine belowN ?_ _ | refine Below.drew ?_ | refine Below.alloc ?_ (by first | (simp; done) | (simp; omega) | omega) _ | refine Below.trans ?_ (Below.mono (by assumption) (by first | (simp; done) | (simp; omega) | omega))))⟩
    simp [results, Try.results26, go_sem, x0, zx]
  have HG := Lib.hid hg
  have FF := Lib.hid (formB_iff.1 HF.out)
  have GG := Lib.hid (formB_iff.1 hg)
  have f500 := FF.out.len
  have g500 := GG.out.len
  clear hg
  go_wp2_with fail
  refine (firstDifference_any _ P1 _ P2 _ (HU.out.below B2) (HV.out.below B2) FF.out GG.out).mono ?_
  rintro e w3 ⟨rfl, hb3⟩
  have B3 : Below w.heap.size w w3 := by (repeat (first | exact Below.refl _ _ | refine Below.setCell ?_ (by first | (simp; done) | (simp; omega) | omega) _ | refine belowN ?_ _ | refine Below.drew ?_ | refine Below.alloc ?_ (by first | (simp; done) | (simp; omega) | omega) _ | refine Below.trans ?_ (Below.mono (by assumption) (by first | (simp; done) | (simp; omega) | omega))))
  have z3 := B3.size
  have A3 := Lib.hid (A2.out.below hb3)
  have E3 := Lib.hid (E2.out.below hb3)
  have R3 := Lib.hid (R2.out.below hb3)
  have l3 := R3.out.lt
  clear hb3 x0 zx e0 a0
  have e0 := E3.out.c0
  have a0 := A3.out.c0
  obtain ⟨x0, zx⟩ := R3.out
  by_cases hd : fdI P1 P2 < P1.length
  · have K := Lib.hid (jn_7 HF.out HG.out hd)
    rw [fdM_1 hd]
    clear hd
    go_wp2_with fail
    refine bodyPost_ret (v := .tuple #[.agg #[.slice none 0 0], .int .i64 7]) ?_ rfl ⟨ar_nil K.out.symm (jnR_no K.out (by decide)), by (repeat (first | exact Below.refl _ _ | refine Below.setCell ?_ (by first | (simp; done) | (simp; omega) | omega) _ | refine belowN ?_ _ | refine Below.drew ?_ | refine Below.alloc ?_ (by first | (simp; done) | (simp; omega) | omega) _ | refine Below.trans ?_ (Below.mono (by assumption) (by first | (simp; done) | (simp; omega) | omega))))⟩
    simp [results, Try.results26, go_sem, x0, zx, l3]
  rw [fdM_0 hd]
  have HD := Lib.hid hd
  clear hd
  go_wp2_with fail
  refine wp_region_held_drew (S := (fun w' => w'.cell? ⟨w.heap.size, 0, none⟩ = some (.slice ao P1.length cap))) (by kernel_rfl) ?_ (fun hHeld => ?_)
  · (try dsimp only)
    (((try go_split_ands); (try dsimp only); (repeat' apply And.intro)) <;> (repeat (first | with_reducible assumption | ((with_reducible refine cnew0 ?_); simp; done) | ((with_reducible refine cnew1 ?_); simp; done) | (with_reducible refine akeep ?_) | (with_reducible refine dkeep ?_) | ((with_reducible refine skeep ?_ ?_); rotate_left; (first | ((try dsimp only); omega) | (simp; done) | (simp; omega))) | (with_reducible refine bkeep hb3 ?_))))
  refine wpAnyH_take (i := 0) (oi := ⟨_, _, _, _, _, _⟩) (v := ?_) rfl (by kernel_rfl) (by kernel_rfl) (by kernel_rfl) (fun _ _ _ h => h) (Or.inl ⟨by rfl, ?_⟩) (by assumption) ?_
  rotate_left
  · (intro w hSw; (try dsimp only at hSw); go_simp; (try with_reducible rfl))
  (try simp only [Act.put, List.setIfInBounds_toArray, List.set_cons_zero, List.set_cons_succ])
  refine wpAnyH_take (i := 2) (oi := ⟨_, _, _, _, _, _⟩) (v := ?_) rfl (by kernel_rfl) (by kernel_rfl) (by kernel_rfl) (fun _ _ _ h => h) (Or.inl ⟨by rfl, ?_⟩) (by assumption) ?_
  rotate_left
  · (intro w hSw; (try dsimp only at hSw); go_simp; (try with_reducible rfl))
  (try simp only [Act.put, List.setIfInBounds_toArray, List.set_cons_zero, List.set_cons_succ])
  refine wpAnyH_take (i := 3) (oi := ⟨_, _, _, _, _, _⟩) (v := ?_) rfl (by kernel_rfl) (by kernel_rfl) (by kernel_rfl) (fun _ _ _ h => h) (Or.inl ⟨by rfl, ?_⟩) (by assumption) ?_
  rotate_left
  · (intro w hSw; (try dsimp only at hSw); go_simp; (try with_reducible rfl))
  (try simp only [Act.put, List.setIfInBounds_toArray, List.set_cons_zero, List.set_cons_succ])
  refine wpAnyH_ready (rs := [1]) (by kernel_rfl) (by simp) ?_
  refine AllReadyH.cons (o := ⟨_, _, _, _, _, _⟩) rfl (fun K hK => ?_) AllReadyH.nil
  go_simp
  (go_at_call 66; refine (tilesByPoint_any _ P1 _ (HU.out.below (by (repeat (first | exact Below.refl _ _ | refine Below.setCell ?_ (by first | (simp; done) | (simp; omega) | omega) _ | refine belowN ?_ _ | refine Below.drew ?_ | refine Below.alloc ?_ (by first | (simp; done) | (simp; omega) | omega) _ | refine Below.trans ?_ (Below.mono (by assumption) (by first | (simp; done) | (simp; omega) | omega)))))) FF.out).mono ?_; rintro e w4 ⟨⟨mb, rfl, hmb, hmap⟩, hb3⟩; have s4 : w3.heap.size + 1 ≤ w4.heap.size := (by have := hb3.size; simpa using this); have HM4 := Lib.hid hmap; have hml := World.ownsMap.lt hmap; have hD4 := Lib.hid (show Below w3.heap.size w3 w4 by (repeat (first | exact Below.refl _ _ | refine Below.setCell ?_ (by first | (simp; done) | (simp; omega) | omega) _ | refine belowN ?_ _ | refine Below.drew ?_ | refine Below.alloc ?_ (by first | (simp; done) | (simp; omega) | omega) _ | refine Below.trans ?_ (Below.mono (by assumption) (by first | (simp; done) | (simp; omega) | omega))))))
  refine hK.out _ _ ?_ (fun hHeld => ?_)
  · (try dsimp only)
    (((try go_split_ands); (try dsimp only); (repeat' apply And.intro)) <;> (repeat (first | with_reducible assumption | ((with_reducible refine cnew0 ?_); simp; done) | ((with_reducible refine cnew1 ?_); simp; done) | (with_reducible refine akeep ?_) | (with_reducible refine dkeep ?_) | ((with_reducible refine skeep ?_ ?_); rotate_left; (first | ((try dsimp only); omega) | (simp; done) | (simp; omega))) | (with_reducible refine bkeep hb3 ?_))))
  clear hK K
  (try simp only [Act.put, List.setIfInBounds_toArray, List.set_cons_zero, List.set_cons_succ])
  refine wpAnyH_ready (rs := [4]) (by kernel_rfl) (by simp) ?_
  refine AllReadyH.cons (o := ⟨_, _, _, _, _, _⟩) rfl (fun K hK => ?_) AllReadyH.nil
  go_simp
  (go_at_call 52; refine (copyPlaced_any _ P1 _ (HU.out.below (B3.trans (hD4.out.mono (by omega)))) m1).mono ?_; rintro e w5 ⟨⟨rfl, hrow⟩, hb3⟩; have s5 : w4.heap.size ≤ w5.heap.size := hb3.size; have HM5 := Lib.hid (HM4.out.below hb3); have HO5 := Lib.hid (show w5.ownsRow w4.heap.size 73 3 (.slice (some ⟨w4.heap.size, 0, none⟩) P1.length P1.length) P1.length (cRow 3 (pC P1) P1.length) from ownsRow_of_row hrow (Nat.le_refl _) (maxLen_of m1) (Nat.le_refl _) (by rw [cRow_len]) (fun j hj => by have h3 : j % 3 < 3 := Nat.mod_lt _ (by omega); have h := cRow_at 3 (pC P1) (n := P1.length) (i := j / 3) (j := j % 3) (by omega) h3; rw [show j / 3 * 3 + j % 3 = j by omega] at h; rw [h]; rfl)); have hD5 := Lib.hid (hD4.out.trans (hb3.mono (by omega))))
  refine hK.out _ _ ?_ (fun hHeld => ?_)
  · (try dsimp only)
    (((try go_split_ands); (try dsimp only); (repeat' apply And.intro)) <;> (repeat (first | with_reducible assumption | ((with_reducible refine cnew0 ?_); simp; done) | ((with_reducible refine cnew1 ?_); simp; done) | (with_reducible refine akeep ?_) | (with_reducible refine dkeep ?_) | ((with_reducible refine skeep ?_ ?_); rotate_left; (first | ((try dsimp only); omega) | (simp; done) | (simp; omega))) | (with_reducible refine bkeep hb3 ?_))))
  clear hK K
  (try simp only [Act.put, List.setIfInBounds_toArray, List.set_cons_zero, List.set_cons_succ])
  refine wpAnyH_take (i := 5) (oi := ⟨_, _, _, _, _, _⟩) (v := ?_) rfl (by kernel_rfl) (by kernel_rfl) (by kernel_rfl) (fun _ _ _ h => h) (Or.inl ⟨by rfl, ?_⟩) (by assumption) ?_
  rotate_left
  · (intro w hSw; (try dsimp only at hSw); go_simp; (try with_reducible rfl))
  (try simp only [Act.put, List.setIfInBounds_toArray, List.set_cons_zero, List.set_cons_succ])
  refine wpAnyH_take (i := 6) (oi := ⟨_, _, _, _, _, _⟩) (v := ?_) rfl (by kernel_rfl) (by kernel_rfl) (by kernel_rfl) (fun _ _ _ h => h) (Or.inl ⟨by rfl, ?_⟩) (by assumption) ?_
  rotate_left
  · (intro w hSw; (try dsimp only at hSw); go_simp; (try with_reducible rfl))
  (try simp only [Act.put, List.setIfInBounds_toArray, List.set_cons_zero, List.set_cons_succ])
  refine wpAnyH_done (by kernel_rfl) ?_ _
  have B5 : Below w.heap.size w w5 := B3.trans (hD5.out.mono z3)
  have E5 := Lib.hid (E3.out.below hD5.out)
  have R5 := Lib.hid (R3.out.below hD5.out)
  have hgb : w.heap.size + 1 + 1 < w4.heap.size := by omega
  clear hHeld hrow hmap hb3 e0 a0 x0 zx hmb
  generalize w4.heap.size = g at *
  have e0 := E5.out.c0
  go_wp2_with fail
  go_loopw [9, 39] (fun v i wr => ∃ (k : Nat) (x : Value) (O : List Pl), k ≤ P2.length ∧ i = .int .i64 k ∧ x = v ∧ Hid (PInv P1 P2 k O) ∧ wr.ownsRow g 73 3 x O.length (cRow 3 (pC O) O.length) ∧ TMap wr mb P1 P1.length ∧ One wr (w.heap.size + 1 + 1) (.slice none 0 0) ∧ g ≤ wr.heap.size ∧ Below w.heap.size w wr) (fun _ i _ => P2.length - (intOf i).toNat)
  case atStart => exact ⟨0, _, P1, by omega, rfl, rfl, Lib.hid (PInv.start P2 FF.out), HO5.out, HM5.out, R5.out, by have := row_fn HO5.out; omega, B5⟩
  case round =>
    clear e0
    obtain ⟨k, x, O, hk, rfl, rfl, hinv, hown, hmap, hone, hgw, hbw⟩ := hrel
    have sw := hbw.size
    have HMR := Lib.hid hmap
    have HON := Lib.hid hone
    have HOW := Lib.hid hown
    have hlen := hinv.out.len
    clear hmap hown
    by_cases hlt : k < P2.length
    · obtain ⟨b, off, rfl, H1⟩ := H0.out (by omega)
      obtain ⟨c0, c1, c2⟩ := H1 k hlt
      have c0 := cell_below hbw c0
      have c1 := cell_below hbw c1
      have c2 := cell_below hbw c2
      have hp := (GG.out.all k hlt).pt
      have HKEY := Lib.hid (keyOf_ptB hp)
      clear H1 hone
      by_cases hn : ixN P1 (pX P2 k) (pY P2 k) < P1.length
      · obtain ⟨hB, hA⟩ := tMap_yes FF.out hp hn
        have HI := Lib.hid (hinv.out.skip GG.out hlt HD.out hn)
        clear hA hn hp
        go_wp2_with (at_lookup; refine wpList_lookup_own_ok_int _ rfl _ _ 86 rfl 34 2 .i64 lawP Try.underlying86 Try.underlying2 (zeroP1 _) _ _ _ rfl (World.ownsMap.alloc HMR.out _) _ _ rfl HKEY.out ?_; intro c hat hwc)
        go_roundw
        case rel => exact ⟨k + 1, x, O, by omega, by go_num, rfl, HI, ownsRow_keep HOW.out (by (repeat (first | exact Below.refl _ _ | refine Below.setCell ?_ (by first | (simp; done) | (simp; omega) | omega) _ | refine belowN ?_ _ | refine Below.drew ?_ | refine Below.alloc ?_ (by first | (simp; done) | (simp; omega) | omega) _ | refine Below.trans ?_ (Below.mono (by assumption) (by first | (simp; done) | (simp; omega) | omega))))), HMR.out.below (by (repeat (first | exact Below.refl _ _ | refine Below.setCell ?_ (by first | (simp; done) | (simp; omega) | omega) _ | refine belowN ?_ _ | refine Below.drew ?_ | refine Below.alloc ?_ (by first | (simp; done) | (simp; omega) | omega) _ | refine Below.trans ?_ (Below.mono (by assumption) (by first | (simp; done) | (simp; omega) | omega))))), HON.out.below (by (repeat (first | exact Below.refl _ _ | refine Below.setCell ?_ (by first | (simp; done) | (simp; omega) | omega) _ | refine belowN ?_ _ | refine Below.drew ?_ | refine Below.alloc ?_ (by first | (simp; done) | (simp; omega) | omega) _ | refine Below.trans ?_ (Below.mono (by assumption) (by first | (simp; done) | (simp; omega) | omega))))), by simp; omega, by (repeat (first | exact Below.refl _ _ | refine Below.setCell ?_ (by first | (simp; done) | (simp; omega) | omega) _ | refine belowN ?_ _ | refine Below.drew ?_ | refine Below.alloc ?_ (by first | (simp; done) | (simp; omega) | omega) _ | refine Below.trans ?_ (Below.mono (by assumption) (by first | (simp; done) | (simp; omega) | omega))))⟩
        case measure => simp [intOf]; omega
      · have hB := tMap_no FF.out hp hn
        have HI := Lib.hid (hinv.out.ins GG.out hlt hn)
        have HMO := Lib.hid (hinv.out.mono (pX P2 k) (pY P2 k))
        clear hn hp
        go_wp2_with (at_lookup; refine wpList_lookup_own_ok_int _ rfl _ _ 86 rfl 34 2 .i64 lawP Try.underlying86 Try.underlying2 (zeroP1 _) _ _ _ rfl (World.ownsMap.alloc HMR.out _) _ _ rfl HKEY.out ?_; intro c hat hwc)
        refine (insert_any g _ O (pX P2 k) (pY P2 k) (pT P2 k) _ (ownsRow_keep HOW.out (by (repeat (first | exact Below.refl _ _ | refine Below.setCell ?_ (by first | (simp; done) | (simp; omega) | omega) _ | refine belowN ?_ _ | refine Below.drew ?_ | refine Below.alloc ?_ (by first | (simp; done) | (simp; omega) | omega) _ | refine Below.trans ?_ (Below.mono (by assumption) (by first | (simp; done) | (simp; omega) | omega)))))) (by first | (simp; done) | (simp; omega) | omega) (by omega) HMO.out).mono ?_
        rintro e w6 ⟨⟨v6, rfl, own6⟩, hb6⟩
        have TM := Lib.hid ((HMR.out.below (w1 := wr.alloc (.cells #[.int .i64 (pX P2 k), .int .i64 (pY P2 k), .int .i64 (pT P2 k)] 73)) (by (repeat (first | exact Below.refl _ _ | refine Below.setCell ?_ (by first | (simp; done) | (simp; omega) | omega) _ | refine belowN ?_ _ | refine Below.drew ?_ | refine Below.alloc ?_ (by first | (simp; done) | (simp; omega) | omega) _ | refine Below.trans ?_ (Below.mono (by assumption) (by first | (simp; done) | (simp; omega) | omega)))))).keep hb6 hml)
        have ON := Lib.hid ((HON.out.below (w1 := wr.alloc (.cells #[.int .i64 (pX P2 k), .int .i64 (pY P2 k), .int .i64 (pT P2 k)] 73)) (by (repeat (first | exact Below.refl _ _ | refine Below.setCell ?_ (by first | (simp; done) | (simp; omega) | omega) _ | refine belowN ?_ _ | refine Below.drew ?_ | refine Below.alloc ?_ (by first | (simp; done) | (simp; omega) | omega) _ | refine Below.trans ?_ (Below.mono (by assumption) (by first | (simp; done) | (simp; omega) | omega)))))).low hb6 hgb)
        have B6 : Below w.heap.size w w6 := (show Below w.heap.size w (wr.alloc (.cells #[.int .i64 (pX P2 k), .int .i64 (pY P2 k), .int .i64 (pT P2 k)] 73)) by (repeat (first | exact Below.refl _ _ | refine Below.setCell ?_ (by first | (simp; done) | (simp; omega) | omega) _ | refine belowN ?_ _ | refine Below.drew ?_ | refine Below.alloc ?_ (by first | (simp; done) | (simp; omega) | omega) _ | refine Below.trans ?_ (Below.mono (by assumption) (by first | (simp; done) | (simp; omega) | omega))))).trans (hb6.mono (by omega))
        have g6 : g ≤ w6.heap.size := by have := hb6.size; simp at this; omega
        have O6 := Lib.hid (ownsRow_congr (n' := (insP O (upN O (pX P2 k) (pY P2 k)) ⟨pX P2 k, pY P2 k, pT P2 k⟩).length) (xs' := cRow 3 (pC (insP O (upN O (pX P2 k) (pY P2 k)) ⟨pX P2 k, pY P2 k, pT P2 k⟩)) (insP O (upN O (pX P2 k) (pY P2 k)) ⟨pX P2 k, pY P2 k, pT P2 k⟩).length) own6 (by rw [insP_len (upN_le O _ _)]) (by rw [insP_len (upN_le O _ _)]))
        clear hb6 own6 c0 c1 c2
        go_wp2_with fail
        go_roundw
        case rel => exact ⟨k + 1, v6, _, by omega, by go_num, rfl, HI, O6.out, TM.out, ON.out, g6, B6⟩
        case measure => simp [intOf]; omega
    · obtain rfl : k = P2.length := by omega
      have KD := Lib.hid hinv.out.done
      obtain ⟨xa, xc, rfl, -, -, -⟩ := (OwnA.plcs (OwnC.of_row HOW.out)).open_
      obtain ⟨x0, zx⟩ := hone
      by_cases h5 : 500 < O.length
      · have K := Lib.hid (jn_4 HF.out HG.out HD.out (by rw [KD.out]; exact h5))
        go_wp2_with fail
        refine bodyPost_ret (v := .tuple #[.agg #[.slice none 0 0], .int .i64 4]) ?_ rfl ⟨ar_nil K.out.symm (jnR_no K.out (by decide)), by (repeat (first | exact Below.refl _ _ | refine Below.setCell ?_ (by first | (simp; done) | (simp; omega) | omega) _ | refine belowN ?_ _ | refine Below.drew ?_ | refine Below.alloc ?_ (by first | (simp; done) | (simp; omega) | omega) _ | refine Below.trans ?_ (Below.mono (by assumption) (by first | (simp; done) | (simp; omega) | omega))))⟩
        simp [results, Try.results26, go_sem, x0, zx]
      · have K := Lib.hid (jn_0 HF.out HG.out HD.out (by rw [KD.out]; exact h5))
        go_wp2_with fail
        refine bodyPost_ret (v := .tuple #[.agg #[.slice xa O.length xc], .int .i64 0]) ?_ rfl ⟨⟨_, by rw [K.out], ?_⟩, by (repeat (first | exact Below.refl _ _ | refine Below.setCell ?_ (by first | (simp; done) | (simp; omega) | omega) _ | refine belowN ?_ _ | refine Below.drew ?_ | refine Below.alloc ?_ (by first | (simp; done) | (simp; omega) | omega) _ | refine Below.trans ?_ (Below.mono (by assumption) (by first | (simp; done) | (simp; omega) | omega))))⟩
        · simp [results, Try.results26, go_sem, x0, zx]
        · rw [jnR_yes K.out, KD.out]
          exact OwnC.mono (OwnC.of_row (ownsRow_setCell_below HOW.out (by dsimp only; omega) _)) (by omega) (by first | exact Nat.le_refl _ | (simp [World.setCell]; done) | (simp [World.setCell]; omega))

end Go.Proofs.Ytaeaflbmaokieaa
